/- Part 25 of the proof: what is used of the texts StmF, StmK, StmR. -/
import Derived.Test.YtppdbnccinfegaaGreatDoorKB1
import Derived.Test.YtppdbnccinfegaaGreatDoorKB0
section
namespace Go.Proofs.YtppdbnccinfegaaGreatDoor.Prog
open Go.RowKit Go.Proofs.YtppdbnccinfegaaGreatDoor.Mem Go.Proofs.YtppdbnccinfegaaGreatDoor.Expr Go.Lib
def kids {α:Type} (m:Mk) (t e:α):List α:=if m.kind=8 then [t,e] else if m.kind=9 then [t] else []
theorem StAt.low {w w':World} {g o:Nat} {m:Mk} {av bv tv ev:Value} (h:StAt w g o m av bv tv ev) (hb:Below w.heap.size w w'):StAt w' g o m av bv tv ev:=by
  obtain ⟨h0,h1,h2,h3,h4,h5,h6,h7⟩:=h
  have k:=cell_below (U:=any_) hb g trivial
  exact ⟨k _ _ h0,k _ _ h1,k _ _ h2,k _ _ h3,k _ _ h4,k _ _ h5,k _ _ h6,k _ _ h7⟩
def kd (l:List Blk):Nat:=l.foldr (fun b m=>max (b.deep+1) m) 1
theorem deep_cons (m:Mk) (t e r:Blk):(Blk.cons m t e r).deep=max (kd (kids m t e)) r.deep:=by
  simp only [Blk.deep,kids]
  split
  · simp [kd]
  · split
    · simp [kd]
    · simp [kd]
theorem kd_pos (l:List Blk):1<=kd l:=by
  induction l with
  | nil=>exact Nat.le_refl _
  | cons x l ih=>simp only [kd,List.foldr_cons] at ih ⊢;omega
theorem deep_snoc (q:Blk) (m:Mk) (t e:Blk):(q.snoc m t e).deep=max q.deep (kd (kids m t e)):=by
  have hp:=kd_pos (kids m t e)
  induction q with
  | nil=>simp only [Blk.snoc,deep_cons];simp only [Blk.deep];omega
  | cons m' t' e' r' _ _ ih=>simp only [Blk.snoc,deep_cons,ih];omega
theorem deep_app (q r:Blk):(q.app r).deep=max q.deep r.deep:=by
  induction q with
  | nil=>simp only [Blk.app];have:=r.deep_pos;simp only [Blk.deep];omega
  | cons m t e q _ _ ih=>simp only [Blk.app,deep_cons,ih];omega
end Go.Proofs.YtppdbnccinfegaaGreatDoor.Prog
end
section
namespace Go.Proofs.YtppdbnccinfegaaGreatDoor.Prog
open Go.RowKit Go.Proofs.YtppdbnccinfegaaGreatDoor.Mem Go.Proofs.YtppdbnccinfegaaGreatDoor.Expr Go.Lib
structure Mark where
  kind:Nat
  reg:Nat
  mode:Nat
  loc:Nat
  a:List It
  b:List It
def Mark.bd (x:Mark):Prop:=x.kind<256/\x.reg<256/\x.mode<256/\x.loc<256/\(∀ i ∈ x.a,i.bd)/\(∀ i ∈ x.b,i.bd)
open Classical in
/-- A row's expression; none, if it may not be. -/
noncomputable def exOf (l:List It):Option Ex:=if h:∃ e:Ex,(∃ m,Sp l 0 e m)/\e.depth<=12 then some h.choose else none
theorem exOf_some {l:List It} {e:Ex} {m:Nat} (hs:Sp l 0 e m) (hd:e.depth<=12):exOf l=some e:=by
  have h:∃ e:Ex,(∃ m,Sp l 0 e m)/\e.depth<=12:=⟨e,⟨m,hs⟩,hd⟩
  unfold exOf
  rw [dif_pos h]
  obtain ⟨⟨m',h1⟩,_⟩:=h.choose_spec
  rw [(h1.det hs).1]
theorem exOf_none {l:List It} (h:∀ e m,Sp l 0 e m->12<e.depth):exOf l=none:=by
  unfold exOf
  rw [dif_neg]
  rintro ⟨e,⟨m,hs⟩,hd⟩
  have:=h e m hs;omega
theorem exOf_spec {l:List It} {e:Ex} (h:exOf l=some e):(∃ m,Sp l 0 e m)/\e.depth<=12:=by
  unfold exOf at h
  split at h
  · rename_i hx
    injection h with h
    rw [<- h];exact hx.choose_spec
  · cases h
theorem exOf_ok {l:List It} (hl:∀ a ∈ l,a.bd):okO (exOf l):=by
  cases h:exOf l with
  | none=>trivial
  | some e =>
    obtain ⟨⟨m,hs⟩,hd⟩:=exOf_spec h
    exact ⟨hs.ok hl,hd⟩
theorem exOf_nil:exOf []=none:=exOf_none fun e m hs=>by have:=hs.le;simp at this;omega
noncomputable def mkOf (x:Mark):Mk:=⟨x.kind,x.reg,x.mode,x.loc,exOf x.a,exOf x.b⟩
inductive BSp (l:List Mark):Nat->Blk->Nat->Prop
  | out {k:Nat}:l[k]? = none->BSp l k .nil k
  | stop {k:Nat} {x:Mark}:l[k]? = some x->x.kind=0->BSp l k .nil k
  | plain {k m:Nat} {x:Mark} {r:Blk}:l[k]? = some x->x.kind≠0->x.kind≠8->x.kind≠9->BSp l (k+1) r m->BSp l k (.cons (mkOf x) .nil .nil r) m
  | loop {k j m:Nat} {x:Mark} {t r:Blk}:l[k]? = some x->x.kind=9->BSp l (k+1) t j->BSp l (j+1) r m->BSp l k (.cons (mkOf x) t .nil r) m
  | cond {k j i m:Nat} {x:Mark} {t e r:Blk}:l[k]? = some x->x.kind=8->BSp l (k+1) t j->BSp l (j+1) e i->BSp l (i+1) r m->BSp l k (.cons (mkOf x) t e r) m
theorem BSp.le {l:List Mark} {k m:Nat} {b:Blk} (h:BSp l k b m):k+b.size<=m/\b.size+k<=max k l.length/\m<=k+3 * b.size:=by
  have lt:∀ {k:Nat} {x:Mark},l[k]? = some x->k<l.length:=fun h=>(List.getElem?_eq_some_iff.1 h).1
  induction h with
  | out _=>simp [Blk.size];omega
  | stop _ _=>simp [Blk.size];omega
  | plain hx _ _ _ _ ih=>have:=lt hx;simp only [Blk.size];omega
  | loop hx _ _ _ ih1 ih2=>have:=lt hx;simp only [Blk.size];omega
  | cond hx _ _ _ _ ih1 ih2 ih3=>have:=lt hx;simp only [Blk.size];omega
theorem BSp.inv {l:List Mark} {j m:Nat} {r:Blk} (h:BSp l j r m):(l[j]? = none/\r = .nil/\m=j) \/ (∃ x,l[j]? = some x/\x.kind=0/\r = .nil/\m=j) \/
    (∃ x r',l[j]? = some x/\x.kind≠0/\x.kind≠8/\x.kind≠9/\BSp l (j+1) r' m/\r = .cons (mkOf x) .nil .nil r') \/
    (∃ x t i r',l[j]? = some x/\x.kind=9/\BSp l (j+1) t i/\BSp l (i+1) r' m/\r = .cons (mkOf x) t .nil r') \/
    (∃ x t i e i' r',l[j]? = some x/\x.kind=8/\BSp l (j+1) t i/\BSp l (i+1) e i' /\ BSp l (i' + 1) r' m/\r = .cons (mkOf x) t e r'):=by
  cases h with
  | out hx=>exact .inl ⟨hx,rfl,rfl⟩
  | stop hx h0=>exact .inr (.inl ⟨_,hx,h0,rfl,rfl⟩)
  | plain hx h0 h8 h9 hr=>exact .inr (.inr (.inl ⟨_,_,hx,h0,h8,h9,hr,rfl⟩))
  | loop hx h9 ht hr=>exact .inr (.inr (.inr (.inl ⟨_,_,_,_,hx,h9,ht,hr,rfl⟩)))
  | cond hx h8 ht he hr=>exact .inr (.inr (.inr (.inr ⟨_,_,_,_,_,_,hx,h8,ht,he,hr,rfl⟩)))
theorem BSp.ex (l:List Mark):∀ (n k:Nat),l.length - k<n->∃ b m,BSp l k b m:=by
  intro n
  induction n with
  | zero=>intro k h;omega
  | succ n ih =>
    intro k hk
    cases hx:l[k]? with
    | none=>exact ⟨_,_,.out hx⟩
    | some x =>
      have hlt:=(List.getElem?_eq_some_iff.1 hx).1
      by_cases h0:x.kind=0
      · exact ⟨_,_,.stop hx h0⟩
      · obtain ⟨t,j,ht⟩:=ih (k+1) (by omega)
        have hj:=ht.le.1
        by_cases h8:x.kind=8
        · obtain ⟨e,i,he⟩:=ih (j+1) (by omega)
          have hi:=he.le.1
          obtain ⟨r,m,hr⟩:=ih (i+1) (by omega)
          exact ⟨_,_,.cond hx h8 ht he hr⟩
        · by_cases h9:x.kind=9
          · obtain ⟨r,m,hr⟩:=ih (j+1) (by omega)
            exact ⟨_,_,.loop hx h9 ht hr⟩
          · exact ⟨_,_,.plain hx h0 h8 h9 ht⟩
theorem BSp.fine {l:List Mark} (hl:∀ x ∈ l,x.bd) {k m:Nat} {b:Blk} (h:BSp l k b m):b.fine:=by
  have one:∀ {k:Nat} {x:Mark},l[k]? = some x->okO (mkOf x).a/\okO (mkOf x).b/\(mkOf x).reg<256/\(mkOf x).mode<256/\(mkOf x).loc<256/\(mkOf x).kind<256:=fun h=>by
    obtain ⟨h1,h2,h3,h4,h5,h6⟩:=hl _ (List.mem_of_getElem? h)
    exact ⟨exOf_ok h5,exOf_ok h6,h2,h3,h4,h1⟩
  induction h with
  | out _=>trivial
  | stop _ _=>trivial
  | plain hx _ _ _ _ ih=>obtain ⟨h1,h2,h3,h4,h5,h6⟩:=one hx;exact ⟨h1,h2,h3,h4,h5,h6,trivial,trivial,ih⟩
  | loop hx _ _ _ ih1 ih2=>obtain ⟨h1,h2,h3,h4,h5,h6⟩:=one hx;exact ⟨h1,h2,h3,h4,h5,h6,ih1,trivial,ih2⟩
  | cond hx _ _ _ _ ih1 ih2 ih3=>obtain ⟨h1,h2,h3,h4,h5,h6⟩:=one hx;exact ⟨h1,h2,h3,h4,h5,h6,ih1,ih2,ih3⟩
def MarkAt (w:World) (g o:Nat) (x:Mark) (av bv:Value):Prop :=
  w.cell? ⟨g,o,none⟩=some (.int .u8 x.kind)/\w.cell? ⟨g,o+1,none⟩=some (.int .u8 x.reg)/\w.cell? ⟨g,o+2,none⟩=some (.int .u8 x.mode)/\w.cell? ⟨g,o+3,none⟩=some (.int .u8 x.loc) /\
    w.cell? ⟨g,o+4,none⟩=some av/\w.cell? ⟨g,o+5,none⟩=some bv/\Row w av x.a/\Row w bv x.b
def MRow (w:World) (v:Value) (l:List Mark):Prop :=
  (l=[]/\∃ p cap,v = .slice p 0 cap) \/ ∃ g o cap,v = .slice (some ⟨g,o,none⟩) l.length cap/\l.length<=1000000/\∀ i x,l[i]? = some x->∃ av bv,MarkAt w g (o+i * 6) x av bv
theorem MarkAt.below {w w':World} {g o:Nat} {x:Mark} {av bv:Value} (h:MarkAt w g o x av bv) (hb:Below w.heap.size w w'):MarkAt w' g o x av bv:=by
  obtain ⟨h0,h1,h2,h3,h4,h5,h6,h7⟩:=h
  have k:=cell_below (U:=any_) hb g trivial
  exact ⟨k _ _ h0,k _ _ h1,k _ _ h2,k _ _ h3,k _ _ h4,k _ _ h5,h6.below hb,h7.below hb⟩
theorem MRow.below {w w':World} {v:Value} {l:List Mark} (h:MRow w v l) (hb:Below w.heap.size w w'):MRow w' v l:=by
  rcases h with h | ⟨g,o,cap,hv,hl,h⟩
  · exact .inl h
  · exact .inr ⟨g,o,cap,hv,hl,fun i x hx=>by obtain ⟨av,bv,h⟩:=h i x hx;exact ⟨av,bv,h.below hb⟩⟩
theorem MRow.len {w:World} {v:Value} {l:List Mark} (h:MRow w v l):∃ p cap,v = .slice p l.length cap/\l.length<=1000000:=by
  rcases h with ⟨rfl,p,cap,hv⟩ | ⟨g,o,cap,hv,hl,_⟩
  · exact ⟨p,cap,hv,by simp⟩
  · exact ⟨_,cap,hv,hl⟩
theorem MRow.at {w:World} {v:Value} {l:List Mark} (h:MRow w v l) {i:Nat} {x:Mark} (hx:l[i]? = some x):∃ g o cap av bv,v = .slice (some ⟨g,o,none⟩) l.length cap/\i<l.length/\MarkAt w g (o+i * 6) x av bv:=by
  have hi:=(List.getElem?_eq_some_iff.1 hx).1
  rcases h with ⟨rfl,_⟩ | ⟨g,o,cap,hv,hl,h⟩
  · simp at hi
  · obtain ⟨av,bv,h⟩:=h i x hx
    exact ⟨g,o,cap,av,bv,hv,hi,h⟩
def ExMade (e0:Option Ex) (w:World) (e:Ending) (w':World):Prop:=∃ p,e = .returned (.pointer p)/\Tree w' (trO e0) (.pointer p)/\Below w.heap.size w w'
set_option maxRecDepth 100000 in
theorem expr_any (l:List It) (v:Value) (w:World) (hv:Row w v l):Calls Tryz.prog 70 #[v] w (ExMade (exOf l) w):=by
  have hG:=good_any l v w hv
  rcases good_view l with ⟨z,hz,hbad⟩ | ⟨e,m,hs,hd,hz⟩
  · rw [hz] at hG
    have HG:=Lib.hid hG
    have HN:=Lib.hid (exOf_none hbad)
    obtain ⟨p,cap,rfl,_⟩:=hv.len
    clear hv hG hz hbad
    go_enter Tryz.func70,Tryz.ntmps70
    go_wp2_with fail
    refine HG.out.mono ?_
    rintro e w1 ⟨rfl,hb⟩
    have HB:=Lib.hid hb;clear hb
    go_wp2_with fail
    go_ret
    exact ⟨none,rfl,by rw [HN.out];rfl,HB.out⟩
  · rw [hz] at hG
    have HG:=Lib.hid hG
    have HN:=Lib.hid (exOf_some hs hd)
    have HO:=Lib.hid (fun W (h:Below w.heap.size w W)=>of_good hs hd v W (hv.below h))
    obtain ⟨p,cap,rfl,_⟩:=hv.len
    clear hv hG hz hs hd
    go_enter Tryz.func70,Tryz.ntmps70
    go_wp2_with fail
    refine HG.out.mono ?_
    rintro e' w1 ⟨rfl,hb⟩
    have HB:=Lib.hid hb;clear hb
    go_wp2_with fail
    refine (HO.out _ HB.out).mono ?_
    rintro e' w2 ⟨q,rfl,ht,hb⟩
    have HB2:=Lib.hid (HB.out.trans (hb.mono HB.out.size))
    have HT:=Lib.hid ht
    clear hb ht
    go_wp2_with fail
    go_ret
    exact ⟨q,rfl,by rw [HN.out];exact HT.out,HB2.out⟩
set_option maxRecDepth 100000 in
theorem refExpr_any (l:List It) (hl:∀ a ∈ l,a.bd) (hn:l.length<=10000) (v:Value) (w:World) (hv:Row w v l):Calls Tryz.prog 163 #[v] w fun e w'=>Made (.returned (.string (str (exO (exOf l))))) w e w':=by
  have hE:=end_any l (l.length+1) 0 v w hv (by omega)
  have HT:=Lib.hid (fun (e:Ex) (m:Nat) (hs:Sp l 0 e m) W (h:Below w.heap.size w W)=>rtext_any hl hs v W hn (hv.below h))
  cases hx:endF l (l.length+1) 0 with
  | none =>
    rw [hx] at hE
    have HE:=Lib.hid (show Calls _ _ _ _ fun e w'=>Made (.returned (.tuple #[.int .i64 (-1),.int .i64 0])) w e w' from hE)
    have HN:=Lib.hid (show exOf l=none from exOf_none fun e m hs=>by rw [sp_endF hs (l.length+1) (by omega)] at hx;cases hx)
    obtain ⟨p,cap,rfl,_⟩:=hv.len
    rw [HN.out]
    show Calls _ _ _ _ fun e w'=>Made (.returned (.string ⟨#[]⟩)) w e w'
    clear hv hE hx HT hl hn
    go_enter Tryz.func163,Tryz.ntmps163
    go_wp2_with fail
    refine HE.out.mono ?_
    rintro e w1 ⟨rfl,hb⟩
    have HB:=Lib.hid hb;clear hb
    go_wp2_with fail
    go_ret
    exact ⟨rfl,HB.out⟩
  | some p =>
    obtain ⟨m,d⟩:=p
    obtain ⟨e,hs,rfl⟩:=endF_sp _ _ _ _ hx
    rw [hx] at hE
    have HE:=Lib.hid (show Calls _ _ _ _ fun e' w'=>Made (.returned (.tuple #[.int .i64 (m:Nat),.int .i64 (e.depth:Nat)])) w e' w' from hE)
    have i0:(0:Int)<=(m:Int):=by omega
    by_cases hd:e.depth<=12
    · have HT2:=Lib.hid (fun W (h:Below w.heap.size w W)=>HT.out e m hs W h)
      unfold RText at HT2
      rw [exOf_some hs hd]
      have i1:(e.depth:Int)<=12:=by omega
      obtain ⟨p,cap,rfl,_⟩:=hv.len
      show Calls _ _ _ _ fun e' w'=>Made (.returned (.string (str e.text))) w e' w'
      generalize e.depth=dd at HE i1 hd
      generalize e.text=tx at HT2 ⊢
      clear hv hE hx HT hl hn hs hd
      go_enter Tryz.func163,Tryz.ntmps163
      go_wp2_with fail
      refine HE.out.mono ?_
      rintro e' w1 ⟨rfl,hb⟩
      have HB:=Lib.hid hb;clear hb
      go_wp2_with fail
      refine (HT2.out _ HB.out).mono ?_
      rintro e' w2 ⟨rfl,hb⟩
      have HB2:=Lib.hid (HB.out.trans (hb.mono HB.out.size));clear hb
      go_wp2_with fail
      go_ret
      exact ⟨rfl,HB2.out⟩
    · have HN:=Lib.hid (show exOf l=none from exOf_none fun e' m' hs'=>by
        rw [(hs'.det hs).1];omega)
      have i1:(12:Int)<(e.depth:Int):=by omega
      obtain ⟨p,cap,rfl,_⟩:=hv.len
      rw [HN.out]
      show Calls _ _ _ _ fun e w'=>Made (.returned (.string ⟨#[]⟩)) w e w'
      generalize e.depth=dd at HE i1 hd
      clear hv hE hx HT hl hn hs hd
      go_enter Tryz.func163,Tryz.ntmps163
      go_wp2_with fail
      refine HE.out.mono ?_
      rintro e' w1 ⟨rfl,hb⟩
      have HB:=Lib.hid hb;clear hb
      go_wp2_with fail
      go_ret
      exact ⟨rfl,HB.out⟩
end Go.Proofs.YtppdbnccinfegaaGreatDoor.Prog
end
section
namespace Go.Proofs.YtppdbnccinfegaaGreatDoor.Prog
open Go.RowKit Go.Proofs.YtppdbnccinfegaaGreatDoor.Mem Go.Proofs.YtppdbnccinfegaaGreatDoor.Expr Go.Lib
theorem deep_snoc8 {x:Mark} (h:x.kind=8) (q t e:Blk):(q.snoc (mkOf x) t e).deep - 1=max (max (q.deep - 1) t.deep) e.deep:=by
  rw [deep_snoc];have:=q.deep_pos;have:=t.deep_pos;have:=e.deep_pos
  have hk:(mkOf x).kind=8:=h
  simp only [kids,hk,kd,List.foldr_cons,List.foldr_nil,if_pos]
  omega
theorem deep_snoc9 {x:Mark} (h:x.kind=9) (q t e:Blk):(q.snoc (mkOf x) t e).deep - 1=max (q.deep - 1) t.deep:=by
  rw [deep_snoc];have:=q.deep_pos;have:=t.deep_pos
  have hk:(mkOf x).kind=9:=h
  simp only [kids,hk,kd]
  simp
  omega
theorem deep_snoc0 {x:Mark} (h8:x.kind≠8) (h9:x.kind≠9) (q t e:Blk):(q.snoc (mkOf x) t e).deep - 1=q.deep - 1:=by
  rw [deep_snoc];have:=q.deep_pos
  have hk:(mkOf x).kind≠8/\(mkOf x).kind≠9:=⟨h8,h9⟩
  simp only [kids,if_neg hk.1,if_neg hk.2,kd,List.foldr_nil]
  omega
def DeepMade (d m:Nat) (w:World) (e:Ending) (w':World):Prop:=Made (.returned (.tuple #[.int .i64 (d:Nat),.int .i64 (m:Nat)])) w e w'
theorem deepBlk_size (b:Blk):b.deep<=b.size+1:=by
  induction b with
  | nil=>exact Nat.le_refl _
  | cons m t e r iht ihe ihr =>
    simp only [Blk.deep,Blk.size]
    split
    · omega
    · split <;> omega
set_option maxRecDepth 100000 in
set_option maxHeartbeats 2000000 in
theorem deepRow_step (l:List Mark) (k m:Nat) (b:Blk) (hb:BSp l k b m) (hm:m<=10000000) (v:Value) (w:World) (hv:MRow w v l)
    (IH:k<l.length->∀ (j:Nat) (c:Blk) (i:Nat),k<j->BSp l j c i->i<=10000000->∀ W,Below w.heap.size w W->Calls Tryz.prog 80 #[v,.int .i64 (j:Nat)] W (DeepMade c.deep i W)) :
    Calls Tryz.prog 80 #[v,.int .i64 (k:Nat)] w (DeepMade b.deep m w):=by
  have HBS:=Lib.hid hb
  have HV:=Lib.hid hv
  have HIH:=Lib.hid IH
  have HM:=Lib.hid hm
  have HDB:=Lib.hid (show b.deep<=b.size+1 from deepBlk_size b)
  obtain ⟨p,cap,rfl,hl⟩:=hv.len
  have i1:(l.length:Int)<=1000000:=by omega
  have HL:=Lib.hid hl
  clear hv IH hb hm hl
  go_enter Tryz.func80,Tryz.ntmps80
  go_wp2_with fail
  go_loopg [1,6] (l.length - k) (fun gg v1 v6 wx=>∃ (q r:Blk) (j:Nat),gg=l.length - j/\k<=j/\v1 = .int .i64 (j:Nat)/\v6 = .int .i64 (q.deep - 1:Nat)/\Hid (b=q.app r)/\Hid (BSp l j r m)/\Hid (Below w.heap.size w wx))
  case atStart=>exact ⟨Blk.nil,b,k,rfl,Nat.le_refl _,rfl,rfl,Lib.hid rfl,HBS,Lib.hid (Below.refl _ _)⟩
  case round =>
    obtain ⟨q,r,j,rfl,hkj,rfl,rfl,HE,HR,HB⟩:=hrel
    have hle:=HR.out.le
    have jm:(j:Int)<=10000000:=by have:=HM.out;omega
    have j0:(0:Int)<=(j:Int):=by omega
    have HQB:=Lib.hid (show q.deep<=b.deep/\b.deep<=10000001/\1<=q.deep by
      have h1:=deep_app q r
      rw [<- HE.out] at h1
      have:=HDB.out
      have:=HBS.out.le
      have:=HM.out
      exact ⟨by omega,by omega,q.deep_pos⟩)
    rcases HR.out.inv with ⟨hx,rfl,rfl⟩ | ⟨x,hx,h0,rfl,rfl⟩ | ⟨x,r',hx,h0,h8,h9,hr',rfl⟩ | ⟨x,t,i,r',hx,h9,ht,hr',rfl⟩ | ⟨x,t,i,e,i',r',hx,h8,ht,he,hr',rfl⟩
    · -- the row has ended
      have hle2:l.length<=m:=List.getElem?_eq_none_iff.1 hx
      have j1:¬ ((m:Int)<(l.length:Int)):=by omega
      have HQ:=Lib.hid (show q.deep - 1+1=b.deep by rw [HE.out,Blk.app_nil];have:=q.deep_pos;omega)
      have dq:((q.deep - 1:Nat):Int)<=10000001:=by have:=HQB.out;omega
      generalize q.deep - 1=D at HQ dq ⊢
      clear hx hle hle2
      go_wp2_with fail
      go_ret2
      exact ⟨by rw [<- HQ.out];rfl,HB.out⟩
    · -- the end of a block
      obtain ⟨g,o,cap',av,bv,e1,hlt,hmk⟩:=(HV.out.below HB.out).at hx
      injection e1 with e1 _ e2
      subst e1 e2
      have d0:=hmk.1
      have lg:=World.block_lt_of_cell? _ _ d0
      have j1:(m:Int)<(l.length:Int):=by omega
      have HQ:=Lib.hid (show q.deep - 1+1=b.deep by rw [HE.out,Blk.app_nil];have:=q.deep_pos;omega)
      have dq:((q.deep - 1:Nat):Int)<=10000001:=by have:=HQB.out;omega
      generalize q.deep - 1=D at HQ dq ⊢
      rw [h0] at d0
      clear hx hle hmk
      go_wp2_with fail
      go_ret2
      exact ⟨by rw [<- HQ.out];rfl,HB.out⟩
    · -- plain
      obtain ⟨g,o,cap',av,bv,e1,hlt,hmk⟩:=(HV.out.below HB.out).at hx
      injection e1 with e1 _ e2
      subst e1 e2
      have d0:=hmk.1
      have lg:=World.block_lt_of_cell? _ _ d0
      have j1:(j:Int)<(l.length:Int):=by omega
      have ek:((x.kind:Int) == 0)=false:=beq_eq_false_iff_ne.2 (by omega)
      have ek':((x.kind:Int) != 0)=true:=by rw [bne,ek];rfl
      have k8:((x.kind:Int) == 8)=false:=beq_eq_false_iff_ne.2 (by omega)
      have k9:((x.kind:Int) == 9)=false:=beq_eq_false_iff_ne.2 (by omega)
      have HE2:=Lib.hid (show b=(q.snoc (mkOf x) .nil .nil).app r' by rw [Blk.snoc_app];exact HE.out)
      have HD2:=Lib.hid (deep_snoc0 (x:=x) h8 h9 q .nil .nil)
      have HDN:=Lib.hid (show (q.snoc (mkOf x) .nil .nil).deep<=10000001 by
        have h1:=deep_app (q.snoc (mkOf x) .nil .nil) r'
        rw [<- HE2.out] at h1
        have:=HQB.out
        omega)
      have HKJ:=Lib.hid (show k<=j/\j<l.length from ⟨hkj,hlt⟩)
      have HR':=Lib.hid hr'
      clear hx hmk hle hr' h0 h8 h9
      go_wp2_with fail
      go_loopg [1,6,8] 0 (fun gg v1 v6 v8 wx=>((gg=0/\v1 = .int .i64 (j+1:Nat)/\v6 = .int .i64 (q.deep - 1:Nat)/\v8 = .int .i64 0))/\Hid (Below w.heap.size w wx))
      case atStart=>exact ⟨⟨rfl,rfl,rfl,rfl⟩,HB⟩
      case round =>
        obtain ⟨hs,HBj⟩:=hrel
        rcases hs with ⟨rfl,rfl,rfl,rfl⟩
        · have m1:((j+1:Nat):Int)<=10000000:=by omega
          have m0:(0:Int)<=((j+1:Nat):Int):=by omega
          go_wp2_with fail
          go_roundg (l.length - (j+1))
          case measure=>have:=HKJ.out;omega
          case rel=>exact ⟨q.snoc (mkOf x) .nil .nil,r',j+1,rfl,by have:=HKJ.out;omega,rfl,by rw [HD2.out],HE2,HR',HBj⟩
    · -- loop
      obtain ⟨g,o,cap',av,bv,e1,hlt,hmk⟩:=(HV.out.below HB.out).at hx
      injection e1 with e1 _ e2
      subst e1 e2
      have d0:=hmk.1
      have lg:=World.block_lt_of_cell? _ _ d0
      have j1:(j:Int)<(l.length:Int):=by omega
      rw [h9] at d0
      have hi:=ht.le
      have hm2:=hr'.le
      have HC0:=Lib.hid (fun W (h:Below w.heap.size w W)=>HIH.out (by omega) (j+1) t i (by omega) ht (by have:=HM.out;omega) W h)
      have HE2:=Lib.hid (show b=(q.snoc (mkOf x) t .nil).app r' by rw [Blk.snoc_app];exact HE.out)
      have HD2:=Lib.hid (deep_snoc9 (x:=x) h9 q t .nil)
      have HI:=Lib.hid (show j<i/\i+1<=10000000 by have:=HM.out;omega)
      have HDN:=Lib.hid (show (q.snoc (mkOf x) t .nil).deep<=10000001 by
        have h1:=deep_app (q.snoc (mkOf x) t .nil) r'
        rw [<- HE2.out] at h1
        have:=HQB.out
        omega)
      have HKJ:=Lib.hid (show k<=j/\j<l.length from ⟨hkj,hlt⟩)
      have HR':=Lib.hid hr'
      clear hx hmk hle hr' h9 ht hi hm2
      go_wp2_with fail
      go_loopg [1,6,8] 1 (fun gg v1 v6 v8 wx=>((gg=1/\v1 = .int .i64 (j+1:Nat)/\v6 = .int .i64 (q.deep - 1:Nat)/\v8 = .int .i64 0) \/ (gg=0/\v1 = .int .i64 (i+1:Nat)/\v6 = .int .i64 (max (q.deep - 1) t.deep:Nat)/\v8 = .int .i64 1))/\Hid (Below w.heap.size w wx))
      case atStart=>exact ⟨.inl ⟨rfl,rfl,rfl,rfl⟩,HB⟩
      case round =>
        obtain ⟨hs,HBj⟩:=hrel
        rcases hs with ⟨rfl,rfl,rfl,rfl⟩ | ⟨rfl,rfl,rfl,rfl⟩
        · have m1:((j+1:Nat):Int)<=10000000:=by omega
          have m0:(0:Int)<=((j+1:Nat):Int):=by omega
          have HCC:=Lib.hid (HC0.out _ HBj.out)
          generalize hD:q.deep - 1=D
          generalize hX:t.deep=X at HCC
          have mx:max (D:Int) (X:Int)=((max D X:Nat):Int):=by omega
          have HDD:=Lib.hid hD
          have HXX:=Lib.hid hX
          clear hD hX
          go_wp2_with fail
          refine HCC.out.mono ?_
          rintro e' w2 ⟨rfl,hb⟩
          have HB2:=Lib.hid (HBj.out.trans (hb.mono HBj.out.size))
          have n1:(i:Int)<=10000000:=by have:=HI.out;omega
          clear hb
          go_wp2_with fail
          go_roundg 0
          case measure=>omega
          case rel=>exact ⟨.inr ⟨rfl,by go_num,by rw [HDD.out,HXX.out],rfl⟩,HB2⟩
        · have m1:((i+1:Nat):Int)<=10000000:=by have:=HI.out;have:=HM.out;omega
          have m0:(0:Int)<=((i+1:Nat):Int):=by omega
          go_wp2_with fail
          go_roundg (l.length - (i+1))
          case measure=>have:=HKJ.out;have:=HI.out;omega
          case rel=>exact ⟨q.snoc (mkOf x) t .nil,r',i+1,rfl,by have:=HKJ.out;have:=HI.out;omega,rfl,by rw [HD2.out],HE2,HR',HBj⟩
    · -- cond
      obtain ⟨g,o,cap',av,bv,e1,hlt,hmk⟩:=(HV.out.below HB.out).at hx
      injection e1 with e1 _ e2
      subst e1 e2
      have d0:=hmk.1
      have lg:=World.block_lt_of_cell? _ _ d0
      have j1:(j:Int)<(l.length:Int):=by omega
      rw [h8] at d0
      have hi:=ht.le
      have hi':=he.le
      have hm2:=hr'.le
      have HC0:=Lib.hid (fun W (h:Below w.heap.size w W)=>HIH.out (by omega) (j+1) t i (by omega) ht (by have:=HM.out;omega) W h)
      have HC1:=Lib.hid (fun W (h:Below w.heap.size w W)=>HIH.out (by omega) (i+1) e i' (by omega) he (by have:=HM.out;omega) W h)
      have HE2:=Lib.hid (show b=(q.snoc (mkOf x) t e).app r' by rw [Blk.snoc_app];exact HE.out)
      have HD2:=Lib.hid (deep_snoc8 (x:=x) h8 q t e)
      have HI:=Lib.hid (show j<i/\i<i' /\ i' + 1<=10000000 by have:=HM.out;omega)
      have HDN:=Lib.hid (show (q.snoc (mkOf x) t e).deep<=10000001 by
        have h1:=deep_app (q.snoc (mkOf x) t e) r'
        rw [<- HE2.out] at h1
        have:=HQB.out
        omega)
      have HKJ:=Lib.hid (show k<=j/\j<l.length from ⟨hkj,hlt⟩)
      have HR':=Lib.hid hr'
      clear hx hmk hle hr' h8 ht he hi hi' hm2
      go_wp2_with fail
      go_loopg [1,6,8] 2 (fun gg v1 v6 v8 wx=>((gg=2/\v1 = .int .i64 (j+1:Nat)/\v6 = .int .i64 (q.deep - 1:Nat)/\v8 = .int .i64 0) \/ (gg=1/\v1 = .int .i64 (i+1:Nat)/\v6 = .int .i64 (max (q.deep - 1) t.deep:Nat)/\v8 = .int .i64 1) \/ (gg=0/\v1 = .int .i64 (i' + 1:Nat)/\v6 = .int .i64 (max (max (q.deep - 1) t.deep) e.deep:Nat)/\v8 = .int .i64 2))/\Hid (Below w.heap.size w wx))
      case atStart=>exact ⟨.inl ⟨rfl,rfl,rfl,rfl⟩,HB⟩
      case round =>
        obtain ⟨hs,HBj⟩:=hrel
        rcases hs with ⟨rfl,rfl,rfl,rfl⟩ | ⟨rfl,rfl,rfl,rfl⟩ | ⟨rfl,rfl,rfl,rfl⟩
        · have m1:((j+1:Nat):Int)<=10000000:=by omega
          have m0:(0:Int)<=((j+1:Nat):Int):=by omega
          have HCC:=Lib.hid (HC0.out _ HBj.out)
          generalize hD:q.deep - 1=D
          generalize hX:t.deep=X at HCC
          have mx:max (D:Int) (X:Int)=((max D X:Nat):Int):=by omega
          have HDD:=Lib.hid hD
          have HXX:=Lib.hid hX
          clear hD hX
          go_wp2_with fail
          refine HCC.out.mono ?_
          rintro e' w2 ⟨rfl,hb⟩
          have HB2:=Lib.hid (HBj.out.trans (hb.mono HBj.out.size))
          have n1:(i:Int)<=10000000:=by have:=HI.out;omega
          clear hb
          go_wp2_with fail
          go_roundg 1
          case measure=>omega
          case rel=>exact ⟨.inr (.inl ⟨rfl,by go_num,by rw [HDD.out,HXX.out],rfl⟩),HB2⟩
        · have m1:((i+1:Nat):Int)<=10000000:=by have:=HI.out;have:=HM.out;omega
          have m0:(0:Int)<=((i+1:Nat):Int):=by omega
          have HCC:=Lib.hid (HC1.out _ HBj.out)
          generalize hD:max (q.deep - 1) t.deep=D
          generalize hX:e.deep=X at HCC
          have mx:max (D:Int) (X:Int)=((max D X:Nat):Int):=by omega
          have HDD:=Lib.hid hD
          have HXX:=Lib.hid hX
          clear hD hX
          go_wp2_with fail
          refine HCC.out.mono ?_
          rintro e' w2 ⟨rfl,hb⟩
          have HB2:=Lib.hid (HBj.out.trans (hb.mono HBj.out.size))
          have n1:(i':Int)<=10000000:=by have:=HI.out;omega
          clear hb
          go_wp2_with fail
          go_roundg 0
          case measure=>omega
          case rel=>exact ⟨.inr (.inr ⟨rfl,by go_num,by rw [HDD.out,HXX.out],rfl⟩),HB2⟩
        · have m1:((i' + 1:Nat):Int)<=10000000:=by have:=HI.out;have:=HM.out;omega
          have m0:(0:Int)<=((i' + 1:Nat):Int):=by omega
          go_wp2_with fail
          go_roundg (l.length - (i' + 1))
          case measure=>have:=HKJ.out;have:=HI.out;omega
          case rel=>exact ⟨q.snoc (mkOf x) t e,r',i' + 1,rfl,by have:=HKJ.out;have:=HI.out;omega,rfl,by rw [HD2.out],HE2,HR',HBj⟩
theorem deepRow_any (l:List Mark):∀ (n k m:Nat) (b:Blk),l.length - k<n->BSp l k b m->m<=10000000->∀ (v:Value) (w:World),MRow w v l->Calls Tryz.prog 80 #[v,.int .i64 (k:Nat)] w (DeepMade b.deep m w):=by
  intro n
  induction n with
  | zero=>intro k m b h;omega
  | succ n ih =>
    intro k m b hn hb hm v w hv
    exact deepRow_step l k m b hb hm v w hv fun hk j c i hj hc hi W hW=>ih j i c (by omega) hc hi v W (hv.below hW)
end Go.Proofs.YtppdbnccinfegaaGreatDoor.Prog
end
