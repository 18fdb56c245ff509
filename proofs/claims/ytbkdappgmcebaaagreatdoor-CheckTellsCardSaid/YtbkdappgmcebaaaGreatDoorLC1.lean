/- Part 22 of the proof: what is used of the texts StmK, StmE, StmT, StmR, StmU. -/
import Derived.Test.YtbkdappgmcebaaaGreatDoorLA8
import Derived.Test.YtbkdappgmcebaaaGreatDoorLA7
import Derived.Test.YtbkdappgmcebaaaGreatDoorLB2
section
namespace Go.Proofs.YtbkdappgmcebaaaGreatDoor.Prog
open Go.RowKit Go.Proofs.YtbkdappgmcebaaaGreatDoor.Mem Go.Proofs.YtbkdappgmcebaaaGreatDoor.Expr Go.Lib
structure Mark where
  kind:Nat
  reg:Nat
  mode:Nat
  loc:Nat
  a:List It
  b:List It
def Mark.bd (x:Mark):Prop:=x.kind<256/\x.reg<256/\x.mode<256/\x.loc<256/\(∀ i ∈ x.a,i.bd)/\(∀ i ∈ x.b,i.bd)
open Classical in
/-- A row's expression; none, if it may not be. -/
noncomputable def exOf (l:List It):Option Ex:=if h:∃ e:Ex,(∃ m,Sp l 0 e m)/\e.depth<=12 then some h.choose else none
theorem exOf_some {l:List It} {e:Ex} {m:Nat} (hs:Sp l 0 e m) (hd:e.depth<=12):exOf l=some e:=by
  have h:∃ e:Ex,(∃ m,Sp l 0 e m)/\e.depth<=12:=⟨e,⟨m,hs⟩,hd⟩
  unfold exOf
  rw [dif_pos h]
  obtain ⟨⟨m',h1⟩,_⟩:=h.choose_spec
  rw [(h1.det hs).1]
theorem exOf_none {l:List It} (h:∀ e m,Sp l 0 e m->12<e.depth):exOf l=none:=by
  unfold exOf
  rw [dif_neg]
  rintro ⟨e,⟨m,hs⟩,hd⟩
  have:=h e m hs;omega
theorem exOf_spec {l:List It} {e:Ex} (h:exOf l=some e):(∃ m,Sp l 0 e m)/\e.depth<=12:=by
  unfold exOf at h
  split at h
  · rename_i hx
    injection h with h
    rw [<- h];exact hx.choose_spec
  · cases h
theorem exOf_ok {l:List It} (hl:∀ a ∈ l,a.bd):okO (exOf l):=by
  cases h:exOf l with
  | none=>trivial
  | some e =>
    obtain ⟨⟨m,hs⟩,hd⟩:=exOf_spec h
    exact ⟨hs.ok hl,hd⟩
theorem exOf_nil:exOf []=none:=exOf_none fun e m hs=>by have:=hs.le;simp at this;omega
noncomputable def mkOf (x:Mark):Mk:=⟨x.kind,x.reg,x.mode,x.loc,exOf x.a,exOf x.b⟩
inductive BSp (l:List Mark):Nat->Blk->Nat->Prop
  | out {k:Nat}:l[k]? = none->BSp l k .nil k
  | stop {k:Nat} {x:Mark}:l[k]? = some x->x.kind=0->BSp l k .nil k
  | plain {k m:Nat} {x:Mark} {r:Blk}:l[k]? = some x->x.kind≠0->x.kind≠8->x.kind≠9->BSp l (k+1) r m->BSp l k (.cons (mkOf x) .nil .nil r) m
  | loop {k j m:Nat} {x:Mark} {t r:Blk}:l[k]? = some x->x.kind=9->BSp l (k+1) t j->BSp l (j+1) r m->BSp l k (.cons (mkOf x) t .nil r) m
  | cond {k j i m:Nat} {x:Mark} {t e r:Blk}:l[k]? = some x->x.kind=8->BSp l (k+1) t j->BSp l (j+1) e i->BSp l (i+1) r m->BSp l k (.cons (mkOf x) t e r) m
theorem BSp.le {l:List Mark} {k m:Nat} {b:Blk} (h:BSp l k b m):k+b.size<=m/\b.size+k<=max k l.length/\m<=k+3 * b.size:=by
  have lt:∀ {k:Nat} {x:Mark},l[k]? = some x->k<l.length:=fun h=>(List.getElem?_eq_some_iff.1 h).1
  induction h with
  | out _=>simp [Blk.size];omega
  | stop _ _=>simp [Blk.size];omega
  | plain hx _ _ _ _ ih=>have:=lt hx;simp only [Blk.size];omega
  | loop hx _ _ _ ih1 ih2=>have:=lt hx;simp only [Blk.size];omega
  | cond hx _ _ _ _ ih1 ih2 ih3=>have:=lt hx;simp only [Blk.size];omega
theorem BSp.inv {l:List Mark} {j m:Nat} {r:Blk} (h:BSp l j r m):(l[j]? = none/\r = .nil/\m=j) \/ (∃ x,l[j]? = some x/\x.kind=0/\r = .nil/\m=j) \/
    (∃ x r',l[j]? = some x/\x.kind≠0/\x.kind≠8/\x.kind≠9/\BSp l (j+1) r' m/\r = .cons (mkOf x) .nil .nil r') \/
    (∃ x t i r',l[j]? = some x/\x.kind=9/\BSp l (j+1) t i/\BSp l (i+1) r' m/\r = .cons (mkOf x) t .nil r') \/
    (∃ x t i e i' r',l[j]? = some x/\x.kind=8/\BSp l (j+1) t i/\BSp l (i+1) e i' /\ BSp l (i' + 1) r' m/\r = .cons (mkOf x) t e r'):=by
  cases h with
  | out hx=>exact .inl ⟨hx,rfl,rfl⟩
  | stop hx h0=>exact .inr (.inl ⟨_,hx,h0,rfl,rfl⟩)
  | plain hx h0 h8 h9 hr=>exact .inr (.inr (.inl ⟨_,_,hx,h0,h8,h9,hr,rfl⟩))
  | loop hx h9 ht hr=>exact .inr (.inr (.inr (.inl ⟨_,_,_,_,hx,h9,ht,hr,rfl⟩)))
  | cond hx h8 ht he hr=>exact .inr (.inr (.inr (.inr ⟨_,_,_,_,_,_,hx,h8,ht,he,hr,rfl⟩)))
theorem BSp.ex (l:List Mark):∀ (n k:Nat),l.length - k<n->∃ b m,BSp l k b m:=by
  intro n
  induction n with
  | zero=>intro k h;omega
  | succ n ih =>
    intro k hk
    cases hx:l[k]? with
    | none=>exact ⟨_,_,.out hx⟩
    | some x =>
      have hlt:=(List.getElem?_eq_some_iff.1 hx).1
      by_cases h0:x.kind=0
      · exact ⟨_,_,.stop hx h0⟩
      · obtain ⟨t,j,ht⟩:=ih (k+1) (by omega)
        have hj:=ht.le.1
        by_cases h8:x.kind=8
        · obtain ⟨e,i,he⟩:=ih (j+1) (by omega)
          have hi:=he.le.1
          obtain ⟨r,m,hr⟩:=ih (i+1) (by omega)
          exact ⟨_,_,.cond hx h8 ht he hr⟩
        · by_cases h9:x.kind=9
          · obtain ⟨r,m,hr⟩:=ih (j+1) (by omega)
            exact ⟨_,_,.loop hx h9 ht hr⟩
          · exact ⟨_,_,.plain hx h0 h8 h9 ht⟩
theorem BSp.fine {l:List Mark} (hl:∀ x ∈ l,x.bd) {k m:Nat} {b:Blk} (h:BSp l k b m):b.fine:=by
  have one:∀ {k:Nat} {x:Mark},l[k]? = some x->okO (mkOf x).a/\okO (mkOf x).b/\(mkOf x).reg<256/\(mkOf x).mode<256/\(mkOf x).loc<256/\(mkOf x).kind<256:=fun h=>by
    obtain ⟨h1,h2,h3,h4,h5,h6⟩:=hl _ (List.mem_of_getElem? h)
    exact ⟨exOf_ok h5,exOf_ok h6,h2,h3,h4,h1⟩
  induction h with
  | out _=>trivial
  | stop _ _=>trivial
  | plain hx _ _ _ _ ih=>obtain ⟨h1,h2,h3,h4,h5,h6⟩:=one hx;exact ⟨h1,h2,h3,h4,h5,h6,trivial,trivial,ih⟩
  | loop hx _ _ _ ih1 ih2=>obtain ⟨h1,h2,h3,h4,h5,h6⟩:=one hx;exact ⟨h1,h2,h3,h4,h5,h6,ih1,trivial,ih2⟩
  | cond hx _ _ _ _ ih1 ih2 ih3=>obtain ⟨h1,h2,h3,h4,h5,h6⟩:=one hx;exact ⟨h1,h2,h3,h4,h5,h6,ih1,ih2,ih3⟩
def MarkAt (w:World) (g o:Nat) (x:Mark) (av bv:Value):Prop :=
  w.cell? ⟨g,o,none⟩=some (.int .u8 x.kind)/\w.cell? ⟨g,o+1,none⟩=some (.int .u8 x.reg)/\w.cell? ⟨g,o+2,none⟩=some (.int .u8 x.mode)/\w.cell? ⟨g,o+3,none⟩=some (.int .u8 x.loc) /\
    w.cell? ⟨g,o+4,none⟩=some av/\w.cell? ⟨g,o+5,none⟩=some bv/\Row w av x.a/\Row w bv x.b
def MRow (w:World) (v:Value) (l:List Mark):Prop :=
  (l=[]/\∃ p cap,v = .slice p 0 cap) \/ ∃ g o cap,v = .slice (some ⟨g,o,none⟩) l.length cap/\l.length<=1000000/\∀ i x,l[i]? = some x->∃ av bv,MarkAt w g (o+i * 6) x av bv
theorem MarkAt.below {w w':World} {g o:Nat} {x:Mark} {av bv:Value} (h:MarkAt w g o x av bv) (hb:Below w.heap.size w w'):MarkAt w' g o x av bv:=by
  obtain ⟨h0,h1,h2,h3,h4,h5,h6,h7⟩:=h
  have k:=cell_below (U:=any_) hb g trivial
  exact ⟨k _ _ h0,k _ _ h1,k _ _ h2,k _ _ h3,k _ _ h4,k _ _ h5,h6.below hb,h7.below hb⟩
theorem MRow.below {w w':World} {v:Value} {l:List Mark} (h:MRow w v l) (hb:Below w.heap.size w w'):MRow w' v l:=by
  rcases h with h | ⟨g,o,cap,hv,hl,h⟩
  · exact .inl h
  · exact .inr ⟨g,o,cap,hv,hl,fun i x hx=>by obtain ⟨av,bv,h⟩:=h i x hx;exact ⟨av,bv,h.below hb⟩⟩
theorem MRow.len {w:World} {v:Value} {l:List Mark} (h:MRow w v l):∃ p cap,v = .slice p l.length cap/\l.length<=1000000:=by
  rcases h with ⟨rfl,p,cap,hv⟩ | ⟨g,o,cap,hv,hl,_⟩
  · exact ⟨p,cap,hv,by simp⟩
  · exact ⟨_,cap,hv,hl⟩
theorem MRow.at {w:World} {v:Value} {l:List Mark} (h:MRow w v l) {i:Nat} {x:Mark} (hx:l[i]? = some x):∃ g o cap av bv,v = .slice (some ⟨g,o,none⟩) l.length cap/\i<l.length/\MarkAt w g (o+i * 6) x av bv:=by
  have hi:=(List.getElem?_eq_some_iff.1 hx).1
  rcases h with ⟨rfl,_⟩ | ⟨g,o,cap,hv,hl,h⟩
  · simp at hi
  · obtain ⟨av,bv,h⟩:=h i x hx
    exact ⟨g,o,cap,av,bv,hv,hi,h⟩
def ExMade (e0:Option Ex) (w:World) (e:Ending) (w':World):Prop:=∃ p,e = .returned (.pointer p)/\Tree w' (trO e0) (.pointer p)/\Below w.heap.size w w'
set_option maxRecDepth 100000 in
theorem expr_any (l:List It) (v:Value) (w:World) (hv:Row w v l):Calls Tryz.prog 36 #[v] w (ExMade (exOf l) w):=by
  have hG:=good_any l v w hv
  rcases good_view l with ⟨z,hz,hbad⟩ | ⟨e,m,hs,hd,hz⟩
  · rw [hz] at hG
    have HG:=Lib.hid hG
    have HN:=Lib.hid (exOf_none hbad)
    obtain ⟨p,cap,rfl,_⟩:=hv.len
    clear hv hG hz hbad
    go_enter Tryz.func36,Tryz.ntmps36
    go_wp2_with fail
    refine HG.out.mono ?_
    rintro e w1 ⟨rfl,hb⟩
    have HB:=Lib.hid hb;clear hb
    go_wp2_with fail
    go_ret
    exact ⟨none,rfl,by rw [HN.out];rfl,HB.out⟩
  · rw [hz] at hG
    have HG:=Lib.hid hG
    have HN:=Lib.hid (exOf_some hs hd)
    have HO:=Lib.hid (fun W (h:Below w.heap.size w W)=>of_good hs hd v W (hv.below h))
    obtain ⟨p,cap,rfl,_⟩:=hv.len
    clear hv hG hz hs hd
    go_enter Tryz.func36,Tryz.ntmps36
    go_wp2_with fail
    refine HG.out.mono ?_
    rintro e' w1 ⟨rfl,hb⟩
    have HB:=Lib.hid hb;clear hb
    go_wp2_with fail
    refine (HO.out _ HB.out).mono ?_
    rintro e' w2 ⟨q,rfl,ht,hb⟩
    have HB2:=Lib.hid (HB.out.trans (hb.mono HB.out.size))
    have HT:=Lib.hid ht
    clear hb ht
    go_wp2_with fail
    go_ret
    exact ⟨q,rfl,by rw [HN.out];exact HT.out,HB2.out⟩
end Go.Proofs.YtbkdappgmcebaaaGreatDoor.Prog
end
section
namespace Go.Proofs.YtbkdappgmcebaaaGreatDoor.Prog
open Go.RowKit Go.Proofs.YtbkdappgmcebaaaGreatDoor.Mem Go.Proofs.YtbkdappgmcebaaaGreatDoor.Expr Go.Proofs.YtbkdappgmcebaaaGreatDoor.Flow Go.Lib
def initCell (i:Nat × Nat):List Value:=[.int .u8 i.1,.int .u64 i.2]
def Inits (w:World) (v:Value) (l:List (Nat × Nat)):Prop:=RowAt any_ w v l.length (l.flatMap initCell)
def Threads (w:World) (v:Value) (bs:List Blk):Prop:=∃ vs:List Value,RowAt any_ w v bs.length vs/\vs.length=bs.length/\∀ (i:Nat) (b:Blk) (u:Value),bs[i]? = some b->vs[i]? = some u->Stand any_ w b u
def testAgg (vi vt:Value) (all:Bool) (va:Value):Value:=.agg #[vi,vt,.bool all,va]
structure TestV (w:World) (t:Ts) (vi vt va:Value):Prop where
  init:Inits w vi t.init
  threads:Threads w vt t.threads
  ask:Tree w (trO t.ask) va
structure Ts.small (t:Ts):Prop where
  init:t.init.length<=1000
  each:∀ i ∈ t.init,i.1<256/\i.2<18446744073709551616
  threads:t.threads.length<=1000
  fine:∀ b ∈ t.threads,b.fine/\b.size<=10000
  ask:okO t.ask
section
variable {w w' : World} {v : Value}
theorem Inits.below {l:List (Nat × Nat)} (h:Inits w v l) (hb:Below w.heap.size w w'):Inits w' v l:=RowAt.below h hb
theorem Threads.below {bs:List Blk} (h:Threads w v bs) (hb:Below w.heap.size w w'):Threads w' v bs:=by
  obtain ⟨vs,h1,h2,h3⟩:=h
  exact ⟨vs,h1.below hb,h2,fun i b u hi hu=>(h3 i b u hi hu).below hb⟩
theorem TestV.below {t:Ts} {vi vt va:Value} (h:TestV w t vi vt va) (hb:Below w.heap.size w w'):TestV w' t vi vt va:=⟨h.init.below hb,h.threads.below hb,h.ask.below hb⟩
theorem initCells_at:∀ (l:List (Nat × Nat)) (k:Nat) (i:Nat × Nat),l[k]? = some i->(l.flatMap initCell)[k * 2]? = some (.int .u8 i.1)/\(l.flatMap initCell)[k * 2+1]? = some (.int .u64 i.2):=by
  intro l
  induction l with
  | nil=>intro k i h;simp at h
  | cons x l ih =>
    intro k i h
    cases k with
    | zero=>simp at h;subst h;exact ⟨rfl,rfl⟩
    | succ k =>
      have:=ih k i (by simpa using h)
      refine ⟨?_,?_⟩
      · rw [show (k+1) * 2=k * 2+2 by omega];simpa [initCell] using this.1
      · rw [show (k+1) * 2+1=(k * 2+1)+2 by omega];simpa [initCell] using this.2
theorem Inits.at {l:List (Nat × Nat)} (h:Inits w v l) {k:Nat} {i:Nat × Nat} (hk:l[k]? = some i):∃ g o cap,v = .slice (some ⟨g,o,none⟩) l.length cap/\w.cell? ⟨g,o+k * 2,none⟩=some (.int .u8 i.1)/\w.cell? ⟨g,o+k * 2+1,none⟩=some (.int .u64 i.2):=by
  rcases h with ⟨h0,_⟩ | ⟨g,o,cap,hv,_,_,hc⟩
  · have:=(List.getElem?_eq_some_iff.1 hk).1;omega
  · have h2:=initCells_at l k i hk
    exact ⟨g,o,cap,hv,hc _ _ h2.1,by rw [Nat.add_assoc];exact hc _ _ h2.2⟩
theorem Threads.at {bs:List Blk} (h:Threads w v bs) {k:Nat} {b:Blk} (hk:bs[k]? = some b):∃ g o cap u,v = .slice (some ⟨g,o,none⟩) bs.length cap/\w.cell? ⟨g,o+k,none⟩=some u/\Stand any_ w b u:=by
  obtain ⟨vs,h1,h2,h3⟩:=h
  have hlt:=(List.getElem?_eq_some_iff.1 hk).1
  have hu:vs[k]? = some vs[k]:=List.getElem?_eq_getElem (by omega)
  rcases h1 with ⟨h0,_⟩ | ⟨g,o,cap,hv,_,_,hc⟩
  · omega
  · exact ⟨g,o,cap,_,hv,hc _ _ hu,h3 k b _ hk hu⟩
theorem Threads.len {bs:List Blk} (h:Threads w v bs):∃ p cap,v = .slice p bs.length cap:=by
  obtain ⟨vs,h1,_⟩:=h
  obtain ⟨p,cap,hv,_⟩:=h1.len
  exact ⟨p,cap,hv⟩
theorem Inits.len {l:List (Nat × Nat)} (h:Inits w v l):∃ p cap,v = .slice p l.length cap:=by
  obtain ⟨p,cap,hv,_⟩:=RowAt.len h
  exact ⟨p,cap,hv⟩
end
section
variable {w0 W W' : World} {bB gb gm bx : Nat} {cs : Array Value} {l l' : List UInt8}
end
end Go.Proofs.YtbkdappgmcebaaaGreatDoor.Prog
end
section
namespace Go.Proofs.YtbkdappgmcebaaaGreatDoor.Prog
open Go.RowKit Go.Proofs.YtbkdappgmcebaaaGreatDoor.Mem Go.Proofs.YtbkdappgmcebaaaGreatDoor.Expr Go.Lib
structure Rt where
  init:List (Nat × Nat)
  threads:List (List Mark)
  all:Bool
  ask:List It
def MRows (w:World) (v:Value) (ls:List (List Mark)):Prop:=∃ vs:List Value,RowAt any_ w v ls.length vs/\vs.length=ls.length/\∀ (i:Nat) (l:List Mark) (u:Value),ls[i]? = some l->vs[i]? = some u->MRow w u l
structure RtV (w:World) (t:Rt) (vi vt va:Value):Prop where
  init:Inits w vi t.init
  threads:MRows w vt t.threads
  ask:Row w va t.ask
section
variable {w w' : World} {v : Value} {ls : List (List Mark)}
theorem MRows.below (h:MRows w v ls) (hb:Below w.heap.size w w'):MRows w' v ls:=by
  obtain ⟨vs,h1,h2,h3⟩:=h
  exact ⟨vs,h1.below hb,h2,fun i l u hl hu=>(h3 i l u hl hu).below hb⟩
theorem MRows.len (h:MRows w v ls):∃ p cap,v = .slice p ls.length cap/\ls.length<=1000000:=by
  obtain ⟨vs,h1,_⟩:=h
  exact h1.len
theorem MRows.at (h:MRows w v ls) {i:Nat} {l:List Mark} (hl:ls[i]? = some l):∃ g o cap u,v = .slice (some ⟨g,o,none⟩) ls.length cap/\i<ls.length/\w.cell? ⟨g,o+i,none⟩=some u/\MRow w u l:=by
  obtain ⟨vs,h1,h2,h3⟩:=h
  have hi:=(List.getElem?_eq_some_iff.1 hl).1
  have hv:vs[i]? = some vs[i]:=List.getElem?_eq_getElem (by omega)
  rcases h1 with ⟨h0,_⟩ | ⟨g,o,cap,e,_,_,hc⟩
  · omega
  · exact ⟨g,o,cap,_,e,hi,hc i _ hv,h3 i l _ hl hv⟩
theorem RtV.below {t:Rt} {vi vt va:Value} (h:RtV w t vi vt va) (hb:Below w.heap.size w w'):RtV w' t vi vt va:=⟨h.init.below hb,h.threads.below hb,h.ask.below hb⟩
end
def rtCells (vi vt:Value) (all:Bool) (va:Value):Array Value:=#[vi,vt,.bool all,va]
def slim (x:Mark):Prop:=x.a.length<=30/\x.b.length<=30
def lean (l:List Mark):Prop:=l.length<=60/\∀ (i:Nat) (x:Mark),l[i]? = some x->slim x
structure Rt.meek (t:Rt):Prop where
  threads:t.threads.length<=8
  init:t.init.length<=10
  ask:t.ask.length<=30
  each:∀ (i:Nat) (l:List Mark),t.threads[i]? = some l->lean l
def Told (p:Prop) (w:World) (e:Ending) (w':World):Prop:=∃ z,e = .returned (.bool z)/\(z=true->p)/\Below w.heap.size w w'
def Told0 (p:Prop) (w:World) (e:Ending) (w':World):Prop:=∃ z,e = .returned (.bool z)/\(z=false->p)/\Below w.heap.size w w'
end Go.Proofs.YtbkdappgmcebaaaGreatDoor.Prog
end
section
namespace Go.Proofs.YtbkdappgmcebaaaGreatDoor.Prog
open Go.RowKit Go.Proofs.YtbkdappgmcebaaaGreatDoor.Mem Go.Proofs.YtbkdappgmcebaaaGreatDoor.Expr Go.Lib
theorem deep_snoc8 {x:Mark} (h:x.kind=8) (q t e:Blk):(q.snoc (mkOf x) t e).deep - 1=max (max (q.deep - 1) t.deep) e.deep:=by
  rw [deep_snoc];have:=q.deep_pos;have:=t.deep_pos;have:=e.deep_pos
  have hk:(mkOf x).kind=8:=h
  simp only [kids,hk,kd,List.foldr_cons,List.foldr_nil,if_pos]
  omega
theorem deep_snoc9 {x:Mark} (h:x.kind=9) (q t e:Blk):(q.snoc (mkOf x) t e).deep - 1=max (q.deep - 1) t.deep:=by
  rw [deep_snoc];have:=q.deep_pos;have:=t.deep_pos
  have hk:(mkOf x).kind=9:=h
  simp only [kids,hk,kd]
  simp
  omega
theorem deep_snoc0 {x:Mark} (h8:x.kind≠8) (h9:x.kind≠9) (q t e:Blk):(q.snoc (mkOf x) t e).deep - 1=q.deep - 1:=by
  rw [deep_snoc];have:=q.deep_pos
  have hk:(mkOf x).kind≠8/\(mkOf x).kind≠9:=⟨h8,h9⟩
  simp only [kids,if_neg hk.1,if_neg hk.2,kd,List.foldr_nil]
  omega
def DeepMade (d m:Nat) (w:World) (e:Ending) (w':World):Prop:=Made (.returned (.tuple #[.int .i64 (d:Nat),.int .i64 (m:Nat)])) w e w'
theorem deepBlk_size (b:Blk):b.deep<=b.size+1:=by
  induction b with
  | nil=>exact Nat.le_refl _
  | cons m t e r iht ihe ihr =>
    simp only [Blk.deep,Blk.size]
    split
    · omega
    · split <;> omega
set_option maxRecDepth 100000 in
set_option maxHeartbeats 2000000 in
theorem deepRow_step (l:List Mark) (k m:Nat) (b:Blk) (hb:BSp l k b m) (hm:m<=10000000) (v:Value) (w:World) (hv:MRow w v l)
    (IH:k<l.length->∀ (j:Nat) (c:Blk) (i:Nat),k<j->BSp l j c i->i<=10000000->∀ W,Below w.heap.size w W->Calls Tryz.prog 38 #[v,.int .i64 (j:Nat)] W (DeepMade c.deep i W)) :
    Calls Tryz.prog 38 #[v,.int .i64 (k:Nat)] w (DeepMade b.deep m w):=by
  have HBS:=Lib.hid hb
  have HV:=Lib.hid hv
  have HIH:=Lib.hid IH
  have HM:=Lib.hid hm
  have HDB:=Lib.hid (show b.deep<=b.size+1 from deepBlk_size b)
  obtain ⟨p,cap,rfl,hl⟩:=hv.len
  have i1:(l.length:Int)<=1000000:=by omega
  have HL:=Lib.hid hl
  clear hv IH hb hm hl
  go_enter Tryz.func38,Tryz.ntmps38
  go_wp2_with fail
  go_loopg [1,6] (l.length - k) (fun gg v1 v6 wx=>∃ (q r:Blk) (j:Nat),gg=l.length - j/\k<=j/\v1 = .int .i64 (j:Nat)/\v6 = .int .i64 (q.deep - 1:Nat)/\Hid (b=q.app r)/\Hid (BSp l j r m)/\Hid (Below w.heap.size w wx))
  case atStart=>exact ⟨Blk.nil,b,k,rfl,Nat.le_refl _,rfl,rfl,Lib.hid rfl,HBS,Lib.hid (Below.refl _ _)⟩
  case round =>
    obtain ⟨q,r,j,rfl,hkj,rfl,rfl,HE,HR,HB⟩:=hrel
    have hle:=HR.out.le
    have jm:(j:Int)<=10000000:=by have:=HM.out;omega
    have j0:(0:Int)<=(j:Int):=by omega
    have HQB:=Lib.hid (show q.deep<=b.deep/\b.deep<=10000001/\1<=q.deep by
      have h1:=deep_app q r
      rw [<- HE.out] at h1
      have:=HDB.out
      have:=HBS.out.le
      have:=HM.out
      exact ⟨by omega,by omega,q.deep_pos⟩)
    rcases HR.out.inv with ⟨hx,rfl,rfl⟩ | ⟨x,hx,h0,rfl,rfl⟩ | ⟨x,r',hx,h0,h8,h9,hr',rfl⟩ | ⟨x,t,i,r',hx,h9,ht,hr',rfl⟩ | ⟨x,t,i,e,i',r',hx,h8,ht,he,hr',rfl⟩
    · -- the row has ended
      have hle2:l.length<=m:=List.getElem?_eq_none_iff.1 hx
      have j1:¬ ((m:Int)<(l.length:Int)):=by omega
      have HQ:=Lib.hid (show q.deep - 1+1=b.deep by rw [HE.out,Blk.app_nil];have:=q.deep_pos;omega)
      have dq:((q.deep - 1:Nat):Int)<=10000001:=by have:=HQB.out;omega
      generalize q.deep - 1=D at HQ dq ⊢
      clear hx hle hle2
      go_wp2_with fail
      go_ret2
      exact ⟨by rw [<- HQ.out];rfl,HB.out⟩
    · -- the end of a block
      obtain ⟨g,o,cap',av,bv,e1,hlt,hmk⟩:=(HV.out.below HB.out).at hx
      injection e1 with e1 _ e2
      subst e1 e2
      have d0:=hmk.1
      have lg:=World.block_lt_of_cell? _ _ d0
      have j1:(m:Int)<(l.length:Int):=by omega
      have HQ:=Lib.hid (show q.deep - 1+1=b.deep by rw [HE.out,Blk.app_nil];have:=q.deep_pos;omega)
      have dq:((q.deep - 1:Nat):Int)<=10000001:=by have:=HQB.out;omega
      generalize q.deep - 1=D at HQ dq ⊢
      rw [h0] at d0
      clear hx hle hmk
      go_wp2_with fail
      go_ret2
      exact ⟨by rw [<- HQ.out];rfl,HB.out⟩
    · -- plain
      obtain ⟨g,o,cap',av,bv,e1,hlt,hmk⟩:=(HV.out.below HB.out).at hx
      injection e1 with e1 _ e2
      subst e1 e2
      have d0:=hmk.1
      have lg:=World.block_lt_of_cell? _ _ d0
      have j1:(j:Int)<(l.length:Int):=by omega
      have ek:((x.kind:Int) == 0)=false:=beq_eq_false_iff_ne.2 (by omega)
      have ek':((x.kind:Int) != 0)=true:=by rw [bne,ek];rfl
      have k8:((x.kind:Int) == 8)=false:=beq_eq_false_iff_ne.2 (by omega)
      have k9:((x.kind:Int) == 9)=false:=beq_eq_false_iff_ne.2 (by omega)
      have HE2:=Lib.hid (show b=(q.snoc (mkOf x) .nil .nil).app r' by rw [Blk.snoc_app];exact HE.out)
      have HD2:=Lib.hid (deep_snoc0 (x:=x) h8 h9 q .nil .nil)
      have HDN:=Lib.hid (show (q.snoc (mkOf x) .nil .nil).deep<=10000001 by
        have h1:=deep_app (q.snoc (mkOf x) .nil .nil) r'
        rw [<- HE2.out] at h1
        have:=HQB.out
        omega)
      have HKJ:=Lib.hid (show k<=j/\j<l.length from ⟨hkj,hlt⟩)
      have HR':=Lib.hid hr'
      clear hx hmk hle hr' h0 h8 h9
      go_wp2_with fail
      go_loopg [1,6,8] 0 (fun gg v1 v6 v8 wx=>((gg=0/\v1 = .int .i64 (j+1:Nat)/\v6 = .int .i64 (q.deep - 1:Nat)/\v8 = .int .i64 0))/\Hid (Below w.heap.size w wx))
      case atStart=>exact ⟨⟨rfl,rfl,rfl,rfl⟩,HB⟩
      case round =>
        obtain ⟨hs,HBj⟩:=hrel
        rcases hs with ⟨rfl,rfl,rfl,rfl⟩
        · have m1:((j+1:Nat):Int)<=10000000:=by omega
          have m0:(0:Int)<=((j+1:Nat):Int):=by omega
          go_wp2_with fail
          go_roundg (l.length - (j+1))
          case measure=>have:=HKJ.out;omega
          case rel=>exact ⟨q.snoc (mkOf x) .nil .nil,r',j+1,rfl,by have:=HKJ.out;omega,rfl,by rw [HD2.out],HE2,HR',HBj⟩
    · -- loop
      obtain ⟨g,o,cap',av,bv,e1,hlt,hmk⟩:=(HV.out.below HB.out).at hx
      injection e1 with e1 _ e2
      subst e1 e2
      have d0:=hmk.1
      have lg:=World.block_lt_of_cell? _ _ d0
      have j1:(j:Int)<(l.length:Int):=by omega
      rw [h9] at d0
      have hi:=ht.le
      have hm2:=hr'.le
      have HC0:=Lib.hid (fun W (h:Below w.heap.size w W)=>HIH.out (by omega) (j+1) t i (by omega) ht (by have:=HM.out;omega) W h)
      have HE2:=Lib.hid (show b=(q.snoc (mkOf x) t .nil).app r' by rw [Blk.snoc_app];exact HE.out)
      have HD2:=Lib.hid (deep_snoc9 (x:=x) h9 q t .nil)
      have HI:=Lib.hid (show j<i/\i+1<=10000000 by have:=HM.out;omega)
      have HDN:=Lib.hid (show (q.snoc (mkOf x) t .nil).deep<=10000001 by
        have h1:=deep_app (q.snoc (mkOf x) t .nil) r'
        rw [<- HE2.out] at h1
        have:=HQB.out
        omega)
      have HKJ:=Lib.hid (show k<=j/\j<l.length from ⟨hkj,hlt⟩)
      have HR':=Lib.hid hr'
      clear hx hmk hle hr' h9 ht hi hm2
      go_wp2_with fail
      go_loopg [1,6,8] 1 (fun gg v1 v6 v8 wx=>((gg=1/\v1 = .int .i64 (j+1:Nat)/\v6 = .int .i64 (q.deep - 1:Nat)/\v8 = .int .i64 0) \/ (gg=0/\v1 = .int .i64 (i+1:Nat)/\v6 = .int .i64 (max (q.deep - 1) t.deep:Nat)/\v8 = .int .i64 1))/\Hid (Below w.heap.size w wx))
      case atStart=>exact ⟨.inl ⟨rfl,rfl,rfl,rfl⟩,HB⟩
      case round =>
        obtain ⟨hs,HBj⟩:=hrel
        rcases hs with ⟨rfl,rfl,rfl,rfl⟩ | ⟨rfl,rfl,rfl,rfl⟩
        · have m1:((j+1:Nat):Int)<=10000000:=by omega
          have m0:(0:Int)<=((j+1:Nat):Int):=by omega
          have HCC:=Lib.hid (HC0.out _ HBj.out)
          generalize hD:q.deep - 1=D
          generalize hX:t.deep=X at HCC
          have mx:max (D:Int) (X:Int)=((max D X:Nat):Int):=by omega
          have HDD:=Lib.hid hD
          have HXX:=Lib.hid hX
          clear hD hX
          go_wp2_with fail
          refine HCC.out.mono ?_
          rintro e' w2 ⟨rfl,hb⟩
          have HB2:=Lib.hid (HBj.out.trans (hb.mono HBj.out.size))
          have n1:(i:Int)<=10000000:=by have:=HI.out;omega
          clear hb
          go_wp2_with fail
          go_roundg 0
          case measure=>omega
          case rel=>exact ⟨.inr ⟨rfl,by go_num,by rw [HDD.out,HXX.out],rfl⟩,HB2⟩
        · have m1:((i+1:Nat):Int)<=10000000:=by have:=HI.out;have:=HM.out;omega
          have m0:(0:Int)<=((i+1:Nat):Int):=by omega
          go_wp2_with fail
          go_roundg (l.length - (i+1))
          case measure=>have:=HKJ.out;have:=HI.out;omega
          case rel=>exact ⟨q.snoc (mkOf x) t .nil,r',i+1,rfl,by have:=HKJ.out;have:=HI.out;omega,rfl,by rw [HD2.out],HE2,HR',HBj⟩
    · -- cond
      obtain ⟨g,o,cap',av,bv,e1,hlt,hmk⟩:=(HV.out.below HB.out).at hx
      injection e1 with e1 _ e2
      subst e1 e2
      have d0:=hmk.1
      have lg:=World.block_lt_of_cell? _ _ d0
      have j1:(j:Int)<(l.length:Int):=by omega
      rw [h8] at d0
      have hi:=ht.le
      have hi':=he.le
      have hm2:=hr'.le
      have HC0:=Lib.hid (fun W (h:Below w.heap.size w W)=>HIH.out (by omega) (j+1) t i (by omega) ht (by have:=HM.out;omega) W h)
      have HC1:=Lib.hid (fun W (h:Below w.heap.size w W)=>HIH.out (by omega) (i+1) e i' (by omega) he (by have:=HM.out;omega) W h)
      have HE2:=Lib.hid (show b=(q.snoc (mkOf x) t e).app r' by rw [Blk.snoc_app];exact HE.out)
      have HD2:=Lib.hid (deep_snoc8 (x:=x) h8 q t e)
      have HI:=Lib.hid (show j<i/\i<i' /\ i' + 1<=10000000 by have:=HM.out;omega)
      have HDN:=Lib.hid (show (q.snoc (mkOf x) t e).deep<=10000001 by
        have h1:=deep_app (q.snoc (mkOf x) t e) r'
        rw [<- HE2.out] at h1
        have:=HQB.out
        omega)
      have HKJ:=Lib.hid (show k<=j/\j<l.length from ⟨hkj,hlt⟩)
      have HR':=Lib.hid hr'
      clear hx hmk hle hr' h8 ht he hi hi' hm2
      go_wp2_with fail
      go_loopg [1,6,8] 2 (fun gg v1 v6 v8 wx=>((gg=2/\v1 = .int .i64 (j+1:Nat)/\v6 = .int .i64 (q.deep - 1:Nat)/\v8 = .int .i64 0) \/ (gg=1/\v1 = .int .i64 (i+1:Nat)/\v6 = .int .i64 (max (q.deep - 1) t.deep:Nat)/\v8 = .int .i64 1) \/ (gg=0/\v1 = .int .i64 (i' + 1:Nat)/\v6 = .int .i64 (max (max (q.deep - 1) t.deep) e.deep:Nat)/\v8 = .int .i64 2))/\Hid (Below w.heap.size w wx))
      case atStart=>exact ⟨.inl ⟨rfl,rfl,rfl,rfl⟩,HB⟩
      case round =>
        obtain ⟨hs,HBj⟩:=hrel
        rcases hs with ⟨rfl,rfl,rfl,rfl⟩ | ⟨rfl,rfl,rfl,rfl⟩ | ⟨rfl,rfl,rfl,rfl⟩
        · have m1:((j+1:Nat):Int)<=10000000:=by omega
          have m0:(0:Int)<=((j+1:Nat):Int):=by omega
          have HCC:=Lib.hid (HC0.out _ HBj.out)
          generalize hD:q.deep - 1=D
          generalize hX:t.deep=X at HCC
          have mx:max (D:Int) (X:Int)=((max D X:Nat):Int):=by omega
          have HDD:=Lib.hid hD
          have HXX:=Lib.hid hX
          clear hD hX
          go_wp2_with fail
          refine HCC.out.mono ?_
          rintro e' w2 ⟨rfl,hb⟩
          have HB2:=Lib.hid (HBj.out.trans (hb.mono HBj.out.size))
          have n1:(i:Int)<=10000000:=by have:=HI.out;omega
          clear hb
          go_wp2_with fail
          go_roundg 1
          case measure=>omega
          case rel=>exact ⟨.inr (.inl ⟨rfl,by go_num,by rw [HDD.out,HXX.out],rfl⟩),HB2⟩
        · have m1:((i+1:Nat):Int)<=10000000:=by have:=HI.out;have:=HM.out;omega
          have m0:(0:Int)<=((i+1:Nat):Int):=by omega
          have HCC:=Lib.hid (HC1.out _ HBj.out)
          generalize hD:max (q.deep - 1) t.deep=D
          generalize hX:e.deep=X at HCC
          have mx:max (D:Int) (X:Int)=((max D X:Nat):Int):=by omega
          have HDD:=Lib.hid hD
          have HXX:=Lib.hid hX
          clear hD hX
          go_wp2_with fail
          refine HCC.out.mono ?_
          rintro e' w2 ⟨rfl,hb⟩
          have HB2:=Lib.hid (HBj.out.trans (hb.mono HBj.out.size))
          have n1:(i':Int)<=10000000:=by have:=HI.out;omega
          clear hb
          go_wp2_with fail
          go_roundg 0
          case measure=>omega
          case rel=>exact ⟨.inr (.inr ⟨rfl,by go_num,by rw [HDD.out,HXX.out],rfl⟩),HB2⟩
        · have m1:((i' + 1:Nat):Int)<=10000000:=by have:=HI.out;have:=HM.out;omega
          have m0:(0:Int)<=((i' + 1:Nat):Int):=by omega
          go_wp2_with fail
          go_roundg (l.length - (i' + 1))
          case measure=>have:=HKJ.out;have:=HI.out;omega
          case rel=>exact ⟨q.snoc (mkOf x) t e,r',i' + 1,rfl,by have:=HKJ.out;have:=HI.out;omega,rfl,by rw [HD2.out],HE2,HR',HBj⟩
theorem deepRow_any (l:List Mark):∀ (n k m:Nat) (b:Blk),l.length - k<n->BSp l k b m->m<=10000000->∀ (v:Value) (w:World),MRow w v l->Calls Tryz.prog 38 #[v,.int .i64 (k:Nat)] w (DeepMade b.deep m w):=by
  intro n
  induction n with
  | zero=>intro k m b h;omega
  | succ n ih =>
    intro k m b hn hb hm v w hv
    exact deepRow_step l k m b hb hm v w hv fun hk j c i hj hc hi W hW=>ih j i c (by omega) hc hi v W (hv.below hW)
end Go.Proofs.YtbkdappgmcebaaaGreatDoor.Prog
end
section
namespace Go.Proofs.YtbkdappgmcebaaaGreatDoor.Prog
open Go.RowKit Go.Proofs.YtbkdappgmcebaaaGreatDoor.Mem Go.Proofs.YtbkdappgmcebaaaGreatDoor.Expr Go.Lib
noncomputable def blkOf (l:List Mark):Blk:=(BSp.ex l (l.length+1) 0 (by omega)).choose
noncomputable def endOf (l:List Mark):Nat:=(BSp.ex l (l.length+1) 0 (by omega)).choose_spec.choose
theorem blkOf_sp (l:List Mark):BSp l 0 (blkOf l) (endOf l):=(BSp.ex l (l.length+1) 0 (by omega)).choose_spec.choose_spec
theorem endOf_le {l:List Mark} (h:l.length<=1000000):endOf l<=10000000/\(blkOf l).size<=l.length:=by
  have:=(blkOf_sp l).le;omega
noncomputable def tsOf (t:Rt):Ts:=⟨t.init,t.threads.map blkOf,t.all,exOf t.ask⟩
structure Rt.flat (t:Rt):Prop where
  threads:∀ (i:Nat) (l:List Mark),t.threads[i]? = some l->(blkOf l).deep<=8
  init:∀ (i:Nat) (x:Nat × Nat),t.init[i]? = some x->x.1<=127
set_option maxRecDepth 100000 in
set_option maxHeartbeats 2000000 in
theorem shallow_any (t:Rt) (vi vt va:Value) (w:World) (hT:RtV w t vi vt va):Calls Tryz.prog 12 #[.agg (rtCells vi vt t.all va)] w (Told t.flat w):=by
  obtain ⟨pi,ci,rfl⟩:=hT.init.len
  obtain ⟨pt,ct,rfl,hlt⟩:=hT.threads.len
  obtain ⟨pa,ca,rfl,hla⟩:=hT.ask.len
  obtain ⟨li,lt,al,la⟩:=t
  simp only at hT hlt hla ⊢
  have hli:li.length<=1000000:=by obtain ⟨_,_,_,h⟩:=RowAt.len hT.init;exact h
  have HT:=Lib.hid hT
  have hb:Below w.heap.size w (w.alloc (.cells #[.slice pi li.length ci,.slice pt lt.length ct,.bool al,.slice pa la.length ca] 37)):=(Below.refl _ _).alloc (Nat.le_refl _) _
  have HB0:=Lib.hid hb
  have HBX:=Lib.hid (Sits.new w 37 #[.slice pi li.length ci,.slice pt lt.length ct,.bool al,.slice pa la.length ca])
  have j1:(lt.length:Int)<=1000000:=by omega
  have j2:(li.length:Int)<=1000000:=by omega
  unfold rtCells
  clear hT hb hli hla hlt
  go_enter Tryz.func12,Tryz.ntmps12
  go_wp2_with fail
  generalize w.alloc (.cells #[.slice pi li.length ci,.slice pt lt.length ct,.bool al,.slice pa la.length ca] 37)=w1 at HB0 HBX ⊢
  generalize w.heap.size=gb at HBX ⊢
  go_loopg [3] lt.length (fun gg v3 wx=>∃ j,j<=lt.length/\gg=lt.length - j/\v3 = .int .i64 (j:Nat)/\Hid (Below w1.heap.size w1 wx)/\Hid (∀ (i:Nat) (l:List Mark),i<j->lt[i]? = some l->(blkOf l).deep<=8))
  case atStart=>exact ⟨0,by omega,by omega,rfl,Lib.hid (Below.refl _ _),Lib.hid fun i l h=>by omega⟩
  case round =>
    obtain ⟨j,hj,rfl,rfl,HBj,HF⟩:=hrel
    have hbx:=HBX.out.below HBj.out HBX.out.lt
    have c1:wr.cell? ⟨gb,1,none⟩=some (.slice pt lt.length ct):=hbx.cell 1
    have lb:=hbx.lt
    by_cases hlt:j<lt.length
    · have hx:lt[j]? = some lt[j]:=List.getElem?_eq_getElem hlt
      generalize lt[j]=l at hx
      obtain ⟨g,o,cap',u,e1,_,hc,hm⟩:=(((HT.out.below HB0.out).below HBj.out).threads).at hx
      injection e1 with e1 _ e2
      subst e1 e2
      obtain ⟨pl,cl,rfl,hll⟩:=hm.len
      have hD:=deepRow_any l (l.length+1) 0 (endOf l) (blkOf l) (by omega) (blkOf_sp l) (endOf_le hll).1 _ wr hm
      have dd:((blkOf l).deep:Int)<=1000001:=by have:=deepBlk_size (blkOf l);have:=(endOf_le hll).2;omega
      have HD:=Lib.hid hD
      have lg:=World.block_lt_of_cell? _ _ hc
      have m1:(j:Int)<(lt.length:Int):=by omega
      have m2:(0:Int)<=(j:Int):=by omega
      have HX:=Lib.hid hx
      have HJ:=Lib.hid hlt
      clear hx hm hll hlt hj hD hbx
      go_wp2_with fail
      refine HD.out.mono ?_
      rintro e' w2 ⟨rfl,hb⟩
      have HB2:=Lib.hid (HBj.out.trans (hb.mono HBj.out.size))
      clear hb
      by_cases h8:8<(blkOf l).deep
      · have n1:(8:Int)<((blkOf l).deep:Int):=by omega
        clear h8
        go_wp2_with fail
        go_ret
        exact ⟨false,rfl,by simp,HB0.out.trans (HB2.out.mono HB0.out.size)⟩
      have n1:¬ (8:Int)<((blkOf l).deep:Int):=by omega
      have H8:=Lib.hid (show (blkOf l).deep<=8 by omega)
      clear h8
      go_wp2_with fail
      go_roundg (lt.length - (j+1))
      case measure=>have:=HJ.out;omega
      case rel=>exact ⟨j+1,HJ.out,rfl,by go_num,HB2,Lib.hid fun i y hi hy=>by
        by_cases e:i<j
        · exact HF.out i y e hy
        · obtain rfl:i=j:=by omega
          rw [HX.out] at hy;cases hy;exact H8.out⟩
    · obtain rfl:j=lt.length:=by omega
      have m1:¬ ((lt.length:Int)<(lt.length:Int)):=by omega
      clear hlt hj hbx
      go_wp2_with fail
      generalize wr=w3 at HBj ⊢
      go_loopg [6] li.length (fun gg v6 wx=>∃ j,j<=li.length/\gg=li.length - j/\v6 = .int .i64 (j:Nat)/\Hid (Below w1.heap.size w1 wx)/\Hid (∀ (i:Nat) (x:Nat × Nat),i<j->li[i]? = some x->x.1<=127))
      case atStart=>exact ⟨0,by omega,by omega,rfl,HBj,Lib.hid fun i l h=>by omega⟩
      case round =>
        obtain ⟨k,hk,rfl,rfl,HBk,HG⟩:=hrel
        have hbx:=HBX.out.below HBk.out HBX.out.lt
        have c0:wr.cell? ⟨gb,0,none⟩=some (.slice pi li.length ci):=hbx.cell 0
        have lb:=hbx.lt
        by_cases hkl:k<li.length
        · have hx:li[k]? = some li[k]:=List.getElem?_eq_getElem hkl
          generalize li[k]=x at hx
          have hin:=((HT.out.below HB0.out).below HBk.out).init
          obtain ⟨g,o,cap',e1,d0,_⟩:=hin.at hx
          injection e1 with e1 _ e2
          subst e1 e2
          have lg:=World.block_lt_of_cell? _ _ d0
          have p1:(k:Int)<(li.length:Int):=by omega
          have p0:(0:Int)<=(k:Int):=by omega
          have HX:=Lib.hid hx
          have HK:=Lib.hid hkl
          clear hx hin hkl hk hbx
          by_cases h1:127<x.1
          · have n1:(127:Int)<(x.1:Int):=by omega
            clear h1
            go_wp2_with fail
            go_ret
            exact ⟨false,rfl,by simp,HB0.out.trans (HBk.out.mono HB0.out.size)⟩
          have n1:¬ (127:Int)<(x.1:Int):=by omega
          have H1:=Lib.hid (show x.1<=127 by omega)
          clear h1
          go_wp2_with fail
          go_roundg (li.length - (k+1))
          case measure=>have:=HK.out;omega
          case rel=>exact ⟨k+1,HK.out,rfl,by go_num,HBk,Lib.hid fun i y hi hy=>by
            by_cases e:i<k
            · exact HG.out i y e hy
            · obtain rfl:i=k:=by omega
              rw [HX.out] at hy;cases hy;exact H1.out⟩
        · obtain rfl:k=li.length:=by omega
          have p1:¬ ((li.length:Int)<(li.length:Int)):=by omega
          clear hkl hk hbx
          go_wp2_with fail
          go_ret
          exact ⟨true,rfl,fun _=>⟨fun i l hl=>HF.out i l (List.getElem?_eq_some_iff.1 hl).1 hl,fun i x hx=>HG.out i x (List.getElem?_eq_some_iff.1 hx).1 hx⟩,HB0.out.trans (HBk.out.mono HB0.out.size)⟩
end Go.Proofs.YtbkdappgmcebaaaGreatDoor.Prog
end
