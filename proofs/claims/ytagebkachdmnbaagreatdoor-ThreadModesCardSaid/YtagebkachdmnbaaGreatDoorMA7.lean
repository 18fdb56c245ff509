/- Part 8 of the proof: what is used of the texts StmS, StmB, StmC, StmE, StmF, StmG, StmM, StmN. -/
import Derived.Test.YtagebkachdmnbaaGreatDoorMA3
import Derived.Test.YtagebkachdmnbaaGreatDoorMA1
import Derived.Test.YtagebkachdmnbaaGreatDoorMA0
import Derived.Lib.FrozenHead2
import Derived.Lib.OthersKept
import Derived.Laws.Entries
import Derived.Test.YtagebkachdmnbaaGreatDoorMA5
import Derived.Lib.Join
import Derived.Lib.Repeat
import Derived.Test.YtagebkachdmnbaaGreatDoorMA6
section
namespace Go.Proofs.YtagebkachdmnbaaGreatDoor.Prog
open Go.Proofs.YtagebkachdmnbaaGreatDoor.Expr
structure Mk where
  kind:Nat
  reg:Nat
  mode:Nat
  loc:Nat
  a:Option Ex
  b:Option Ex
deriving DecidableEq
inductive Blk
  | nil
  | cons (m:Mk) (t e r:Blk)
deriving DecidableEq
def Blk.len:Blk->Nat
  | .nil=>0
  | .cons _ _ _ r=>r.len+1
def Blk.size:Blk->Nat
  | .nil=>0
  | .cons _ t e r=>t.size+e.size+r.size+1
def Blk.snoc:Blk->Mk->Blk->Blk->Blk
  | .nil,m,t,e => .cons m t e .nil
  | .cons m' t' e' r,m,t,e => .cons m' t' e' (r.snoc m t e)
def Blk.app:Blk->Blk->Blk
  | .nil,b=>b
  | .cons m t e r,b => .cons m t e (r.app b)
theorem Blk.app_nil (b:Blk):b.app .nil=b:=by
  induction b with
  | nil=>rfl
  | cons m t e r _ _ ih=>simp only [Blk.app,ih]
theorem Blk.snoc_app (p:Blk) (m:Mk) (t e r:Blk):(p.snoc m t e).app r=p.app (.cons m t e r):=by
  induction p with
  | nil=>rfl
  | cons m' t' e' r' _ _ ih=>simp only [Blk.snoc,Blk.app,ih]
theorem Blk.len_snoc (p:Blk) (m:Mk) (t e:Blk):(p.snoc m t e).len=p.len+1:=by
  induction p with
  | nil=>rfl
  | cons m' t' e' r' _ _ ih=>simp only [Blk.snoc,Blk.len,ih]
theorem Blk.len_zero {b:Blk} (h:b.len=0):b = .nil:=by
  cases b with
  | nil=>rfl
  | cons _ _ _ _=>simp [Blk.len] at h
def Blk.deep:Blk->Nat
  | .nil=>1
  | .cons m t e r=>max (if m.kind=8 then max (t.deep+1) (e.deep+1) else if m.kind=9 then t.deep+1 else 1) r.deep
theorem Blk.deep_pos (b:Blk):1<=b.deep:=by
  induction b with
  | nil=>exact Nat.le_refl _
  | cons m t e r _ _ ih=>simp only [Blk.deep];omega
def trO:Option Ex->Tr
  | none => .nil
  | some e=>treeOf e
def okO:Option Ex->Prop
  | none=>True
  | some e=>e.ok/\e.depth<=12
def modeTxt (m:Nat):List UInt8:=[[],[112,108,110],[114,108,120],[97,99,113],[114,101,108],[97,114],[115,99]].getD m []
structure Ts where
  init:List (Nat × Nat)
  threads:List Blk
  all:Bool
  ask:Option Ex
deriving DecidableEq
def isLetter (x:Nat):Prop:=97<=x/\x<=122
def Mk.proper (m:Mk):Prop :=
  okO m.a/\okO m.b /\
  match m.kind with
  | 1=>m.mode=0/\m.loc=0/\m.a.isSome/\m.b=none
  | 2=>(m.mode=1 \/ m.mode=2 \/ m.mode=3)/\isLetter m.loc/\m.a=none/\m.b=none
  | 3=>(m.mode=1 \/ m.mode=2 \/ m.mode=4)/\isLetter m.loc/\m.reg=0/\m.a.isSome/\m.b=none
  | 4=>(m.mode=2 \/ m.mode=3 \/ m.mode=4 \/ m.mode=5)/\isLetter m.loc/\m.a.isSome/\m.b=none
  | 5=>(m.mode=2 \/ m.mode=3 \/ m.mode=4 \/ m.mode=5)/\isLetter m.loc/\m.a.isSome/\m.b=none
  | 6=>(m.mode=2 \/ m.mode=3 \/ m.mode=4 \/ m.mode=5)/\isLetter m.loc/\m.a.isSome/\m.b.isSome
  | 7=>(m.mode=3 \/ m.mode=4 \/ m.mode=5 \/ m.mode=6)/\m.loc=0/\m.reg=0/\m.a=none/\m.b=none
  | 8=>m.mode=0/\m.loc=0/\m.reg=0/\m.a.isSome/\m.b=none
  | 9=>m.mode=0/\m.loc=0/\m.reg=0/\m.a.isSome/\m.b=none
  | _=>False
def Blk.proper:Blk->Prop
  | .nil=>True
  | .cons m t e r=>m.proper/\t.proper/\e.proper/\r.proper/\(m.kind≠8->e = .nil)/\(m.kind≠8->m.kind≠9->t = .nil)
def Blk.fine:Blk->Prop
  | .nil=>True
  | .cons m t e r=>okO m.a/\okO m.b/\m.reg<256/\m.mode<256/\m.loc<256/\m.kind<256/\t.fine/\e.fine/\r.fine
theorem kinds {m:Mk} (h:m.proper):m.kind=1 \/ m.kind=2 \/ m.kind=3 \/ m.kind=4 \/ m.kind=5 \/ m.kind=6 \/ m.kind=7 \/ m.kind=8 \/ m.kind=9:=by
  obtain ⟨k,r,mo,x,a,b⟩:=m
  obtain ⟨_,_,h⟩:=h
  simp only at h ⊢
  split at h <;> simp_all
structure Ts.proper (t:Ts):Prop where
  init:∀ i ∈ t.init,isLetter i.1
  threads:∀ b ∈ t.threads,b.proper/\b.deep<=8
  some:t.ask.isSome=true
  ask:okO t.ask
end Go.Proofs.YtagebkachdmnbaaGreatDoor.Prog
end
section
namespace Go.Proofs.YtagebkachdmnbaaGreatDoor.Prog
open Go.RowKit Go.Proofs.YtagebkachdmnbaaGreatDoor.Mem Go.Proofs.YtagebkachdmnbaaGreatDoor.Expr Go.Lib
def modes:List (List UInt8):=[[],[112,108,110],[114,108,120],[97,99,113],[114,101,108],[97,114],[115,99]]
def ModeAt (w:World):Prop:=4<w.heap.size/\∀ i:Nat,i<7->w.cell? ⟨4,i,none⟩=some (.string (str (modeTxt i)))
theorem ModeAt.below {w w':World} (h:ModeAt w) (hb:Below w.heap.size w w'):ModeAt w' :=
  ⟨Nat.lt_of_lt_of_le h.1 hb.size,fun i hi=>(hb.cell (p:=⟨4,i,none⟩) h.1).trans (h.2 i hi)⟩
def All (w:World):Prop:=Tabs w/\ModeAt w
theorem All.below {w w':World} (h:All w) (hb:Below w.heap.size w w'):All w':=⟨h.1.below hb,h.2.below hb⟩
theorem modeTxt_none {m:Nat} (h:7<=m):modeTxt m=[]:=by
  unfold modeTxt;rw [List.getD_eq_getElem?_getD,List.getElem?_eq_none (by simp;omega)];rfl
theorem mode_any (m:Nat) (hm:m<256) (w:World) (hT:ModeAt w):Calls Tryz.prog 283 #[.int .u8 (m:Nat)] w fun e w'=>Made (.returned (.string (str (modeTxt m)))) w e w':=by
  by_cases h:7<=m
  · have i1:(7:Int)<=(m:Int):=by omega
    have HT:=Lib.hid (modeTxt_none h)
    clear h hT
    go_enter Tryz.func283,Tryz.ntmps283
    go_wp2_with fail
    go_ret
    exact ⟨by rw [HT.out];rfl,Below.refl _ _⟩
  · have hcell:=hT.2 m (by omega)
    have i1:(m:Int)<7:=by omega
    generalize modeTxt m=t at hcell ⊢
    clear h hT
    go_enter Tryz.func283,Tryz.ntmps283
    go_wp2_with fail
    go_ret
    exact ⟨rfl,Below.refl _ _⟩
def stCells (m:Mk) (av bv tv ev:Value):List Value:=[.int .u8 m.kind,.int .u8 m.reg,.int .u8 m.mode,.int .u8 m.loc,av,bv,tv,ev]
def stAgg (m:Mk) (av bv tv ev:Value):Value:=.agg #[.int .u8 m.kind,.int .u8 m.reg,.int .u8 m.mode,.int .u8 m.loc,av,bv,tv,ev]
def words (ws:List (List UInt8)):Array Value:=(ws.map fun x=>Value.string (str x)).toArray
def Words (w:World) (v:Value) (ws:List (List UInt8)):Prop:=∃ g,v = .slice (some ⟨g,0,none⟩) ws.length ws.length/\Sits w g 9 (words ws)
section
variable {w0 w w' w'' : World} {b g : Nat} {t : TypeId} {cs : Array Value} {l : List UInt8}
end
end Go.Proofs.YtagebkachdmnbaaGreatDoor.Prog
end
section
namespace Go.Proofs.YtagebkachdmnbaaGreatDoor.Prog
open Go.RowKit Go.Proofs.YtagebkachdmnbaaGreatDoor.Mem Go.Proofs.YtagebkachdmnbaaGreatDoor.Expr Go.Lib
def RowAt (U:Nat->Prop) (w:World) (v:Value) (n:Nat) (cs:List Value):Prop :=
  (n=0/\∃ p cap,v = .slice p 0 cap) \/ ∃ g o cap,v = .slice (some ⟨g,o,none⟩) n cap/\U g/\n<=1000000/\∀ j u,cs[j]? = some u->w.cell? ⟨g,o+j,none⟩=some u
def Holds (U:Nat->Prop) (w:World):Blk->List Value->Prop
  | .nil,cs=>cs=[]
  | .cons m t e r,cs=>∃ av bv tv ev ct ce cr,cs=stCells m av bv tv ev ++ cr/\Tree w (trO m.a) av/\Tree w (trO m.b) bv/\RowAt U w tv t.len ct/\Holds U w t ct/\RowAt U w ev e.len ce/\Holds U w e ce/\Holds U w r cr
def Stand (U:Nat->Prop) (w:World) (b:Blk) (v:Value):Prop:=∃ cs,RowAt U w v b.len cs/\Holds U w b cs
abbrev any_:Nat->Prop:=fun _=>True
section
variable {U X : Nat → Prop} {w w' : World} {v : Value} {n : Nat} {cs : List Value} {b : Blk}
theorem RowAt.len (h:RowAt U w v n cs):∃ p cap,v = .slice p n cap/\n<=1000000:=by
  rcases h with ⟨rfl,p,cap,hv⟩ | ⟨g,o,cap,hv,_,hn,_⟩
  · exact ⟨p,cap,hv,by omega⟩
  · exact ⟨_,cap,hv,hn⟩
theorem RowAt.wider (h:RowAt U w v n cs) (hx:∀ g,U g->X g):RowAt X w v n cs:=by
  rcases h with h | ⟨g,o,cap,hv,hg,h⟩
  · exact .inl h
  · exact .inr ⟨g,o,cap,hv,hx g hg,h⟩
theorem RowAt.keep (h:RowAt U w v n cs) (hk:∀ g,U g->∀ j u,w.cell? ⟨g,j,none⟩=some u->w'.cell? ⟨g,j,none⟩=some u):RowAt U w' v n cs:=by
  rcases h with h | ⟨g,o,cap,hv,hg,hn,h⟩
  · exact .inl h
  · exact .inr ⟨g,o,cap,hv,hg,hn,fun j u hu=>hk g hg _ _ (h j u hu)⟩
theorem Holds.wider (hx:∀ g,U g->X g):∀ {b:Blk} {cs:List Value},Holds U w b cs->Holds X w b cs:=by
  intro b
  induction b with
  | nil=>intro cs h;exact h
  | cons m t e r iht ihe ihr =>
    intro cs h
    obtain ⟨av,bv,tv,ev,ct,ce,cr,h1,h2,h3,h4,h5,h6,h7,h8⟩:=h
    exact ⟨av,bv,tv,ev,ct,ce,cr,h1,h2,h3,h4.wider hx,iht h5,h6.wider hx,ihe h7,ihr h8⟩
theorem Holds.keep (hs:Stable 204 w w') (hk:∀ g,U g->∀ j u,w.cell? ⟨g,j,none⟩=some u->w'.cell? ⟨g,j,none⟩=some u):∀ {b:Blk} {cs:List Value},Holds U w b cs->Holds U w' b cs:=by
  intro b
  induction b with
  | nil=>intro cs h;exact h
  | cons m t e r iht ihe ihr =>
    intro cs h
    obtain ⟨av,bv,tv,ev,ct,ce,cr,h1,h2,h3,h4,h5,h6,h7,h8⟩:=h
    exact ⟨av,bv,tv,ev,ct,ce,cr,h1,h2.stable hs,h3.stable hs,h4.keep hk,iht h5,h6.keep hk,ihe h7,ihr h8⟩
theorem cell_below (hb:Below w.heap.size w w'):∀ g,U g->∀ j u,w.cell? ⟨g,j,none⟩=some u->w'.cell? ⟨g,j,none⟩=some u :=
  fun g _ j _ h=>(hb.cell (p:=⟨g,j,none⟩) (World.block_lt_of_cell? _ _ h)).trans h
theorem Holds.below (h:Holds U w b cs) (hb:Below w.heap.size w w'):Holds U w' b cs:=h.keep (Stable.below hb) (cell_below hb)
theorem RowAt.below (h:RowAt U w v n cs) (hb:Below w.heap.size w w'):RowAt U w' v n cs:=h.keep (cell_below hb)
theorem Stand.below (h:Stand U w b v) (hb:Below w.heap.size w w'):Stand U w' b v:=by
  obtain ⟨cs,h1,h2⟩:=h
  exact ⟨cs,h1.below hb,h2.below hb⟩
theorem Stand.wider (h:Stand U w b v) (hx:∀ g,U g->X g):Stand X w b v:=by
  obtain ⟨cs,h1,h2⟩:=h
  exact ⟨cs,h1.wider hx,h2.wider hx⟩
theorem Stand.keep (h:Stand U w b v) (hs:Stable 204 w w') (hk:∀ g,U g->∀ j u,w.cell? ⟨g,j,none⟩=some u->w'.cell? ⟨g,j,none⟩=some u):Stand U w' b v:=by
  obtain ⟨cs,h1,h2⟩:=h
  exact ⟨cs,h1.keep hk,h2.keep hs hk⟩
end
def StAt (w:World) (g o:Nat) (m:Mk) (av bv tv ev:Value):Prop :=
  w.cell? ⟨g,o,none⟩=some (.int .u8 m.kind)/\w.cell? ⟨g,o+1,none⟩=some (.int .u8 m.reg)/\w.cell? ⟨g,o+2,none⟩=some (.int .u8 m.mode)/\w.cell? ⟨g,o+3,none⟩=some (.int .u8 m.loc) /\
    w.cell? ⟨g,o+4,none⟩=some av/\w.cell? ⟨g,o+5,none⟩=some bv/\w.cell? ⟨g,o+6,none⟩=some tv/\w.cell? ⟨g,o+7,none⟩=some ev
structure Rest (w:World) (g o n:Nat) (r:Blk) (k:Nat):Prop where
  len:k+r.len=n
  at_:∃ cs,Holds any_ w r cs/\∀ j u,cs[j]? = some u->w.cell? ⟨g,o+k * 8+j,none⟩=some u
theorem Stand.rest {w:World} {b:Blk} {v:Value} {U:Nat->Prop} (h:Stand U w b v) (hn:b.len≠0):∃ g o cap,v = .slice (some ⟨g,o,none⟩) b.len cap/\b.len<=1000000/\Rest w g o b.len b 0:=by
  obtain ⟨cs,h1,h2⟩:=h
  rcases h1 with ⟨h0,_⟩ | ⟨g,o,cap,hv,_,hl,hc⟩
  · exact absurd h0 hn
  · exact ⟨g,o,cap,hv,hl,by omega,cs,h2.wider (fun _ _=>trivial),fun j u hu=>by simpa using hc j u hu⟩
theorem Rest.next {w:World} {g o n k:Nat} {m:Mk} {t e r:Blk} (h:Rest w g o n (.cons m t e r) k):k<n/\Rest w g o n r (k+1)/\∃ av bv tv ev,StAt w g (o+k * 8) m av bv tv ev/\Tree w (trO m.a) av/\Tree w (trO m.b) bv/\Stand any_ w t tv/\Stand any_ w e ev:=by
  obtain ⟨h1,cs,h2,h3⟩:=h
  obtain ⟨av,bv,tv,ev,ct,ce,cr,rfl,ha,hb,hct,ht,hce,he,hr⟩:=h2
  simp only [Blk.len] at h1
  have at_:∀ j u,j<8->(stCells m av bv tv ev)[j]? = some u->w.cell? ⟨g,o+k * 8+j,none⟩=some u:=fun j u hj hu =>
    h3 j u (by rw [List.getElem?_append_left (by simp [stCells];omega)];exact hu)
  refine ⟨by omega,⟨by omega,cr,hr,fun j u hu=>?_⟩,av,bv,tv,ev,⟨at_ 0 _ (by omega) rfl,at_ 1 _ (by omega) rfl,at_ 2 _ (by omega) rfl,at_ 3 _ (by omega) rfl,at_ 4 _ (by omega) rfl,at_ 5 _ (by omega) rfl,at_ 6 _ (by omega) rfl,at_ 7 _ (by omega) rfl⟩,ha,hb,⟨ct,hct,ht⟩,⟨ce,hce,he⟩⟩
  have:=h3 (8+j) u (by rw [List.getElem?_append_right (by simp [stCells])];simpa [stCells] using hu)
  rw [show o+(k+1) * 8+j=o+k * 8+(8+j) by omega]
  exact this
theorem Stand.len {U:Nat->Prop} {w:World} {b:Blk} {v:Value} (h:Stand U w b v):∃ p cap,v = .slice p b.len cap/\b.len<=1000000:=by
  obtain ⟨cs,h1,_⟩:=h
  exact h1.len
def Rests (w:World) (p:Option Addr) (n:Nat) (r:Blk) (k:Nat):Prop:=k+r.len=n/\(r = .nil \/ ∃ g o,p=some ⟨g,o,none⟩/\Rest w g o n r k)
theorem Stand.rests {w:World} {b:Blk} {v:Value} {U:Nat->Prop} (h:Stand U w b v):∃ p cap,v = .slice p b.len cap/\b.len<=1000000/\Rests w p b.len b 0:=by
  by_cases hn:b.len=0
  · obtain ⟨p,cap,hv,hl⟩:=h.len
    exact ⟨p,cap,hv,hl,by omega,.inl (Blk.len_zero hn)⟩
  · obtain ⟨g,o,cap,hv,hl,hr⟩:=h.rest hn
    exact ⟨_,cap,hv,hl,by omega,.inr ⟨g,o,rfl,hr⟩⟩
theorem Rests.next {w:World} {p:Option Addr} {n k:Nat} {m:Mk} {t e r:Blk} (h:Rests w p n (.cons m t e r) k) :
    ∃ g o,p=some ⟨g,o,none⟩/\k<n/\Rests w p n r (k+1)/\∃ av bv tv ev,StAt w g (o+k * 8) m av bv tv ev/\Tree w (trO m.a) av/\Tree w (trO m.b) bv/\Stand any_ w t tv/\Stand any_ w e ev:=by
  obtain ⟨h1,h2⟩:=h
  rcases h2 with h2 | ⟨g,o,hp,hr⟩
  · cases h2
  · obtain ⟨hk,hr',h3⟩:=hr.next
    exact ⟨g,o,hp,hk,⟨hr'.len,.inr ⟨g,o,hp,hr'⟩⟩,h3⟩
theorem Blk.snoc_eq (p:Blk) (m:Mk) (t e:Blk):p.snoc m t e=p.app (.cons m t e .nil):=by
  have:=Blk.snoc_app p m t e .nil
  rwa [Blk.app_nil] at this
theorem Blk.size_app (p b:Blk):(p.app b).size=p.size+b.size:=by
  induction p with
  | nil=>simp [Blk.app,Blk.size]
  | cons m t e r _ _ ih=>simp only [Blk.app,Blk.size,ih];omega
end Go.Proofs.YtagebkachdmnbaaGreatDoor.Prog
end
section
namespace Go.Proofs.YtagebkachdmnbaaGreatDoor.Prog
open Go.RowKit Go.Proofs.YtagebkachdmnbaaGreatDoor.Mem Go.Proofs.YtagebkachdmnbaaGreatDoor.Expr Go.Proofs.YtagebkachdmnbaaGreatDoor.Flow Go.Lib
def initCell (i:Nat × Nat):List Value:=[.int .u8 i.1,.int .u64 i.2]
def Inits (w:World) (v:Value) (l:List (Nat × Nat)):Prop:=RowAt any_ w v l.length (l.flatMap initCell)
def Threads (w:World) (v:Value) (bs:List Blk):Prop:=∃ vs:List Value,RowAt any_ w v bs.length vs/\vs.length=bs.length/\∀ (i:Nat) (b:Blk) (u:Value),bs[i]? = some b->vs[i]? = some u->Stand any_ w b u
def testAgg (vi vt:Value) (all:Bool) (va:Value):Value:=.agg #[vi,vt,.bool all,va]
structure TestV (w:World) (t:Ts) (vi vt va:Value):Prop where
  init:Inits w vi t.init
  threads:Threads w vt t.threads
  ask:Tree w (trO t.ask) va
structure Ts.small (t:Ts):Prop where
  init:t.init.length<=1000
  each:∀ i ∈ t.init,i.1<256/\i.2<18446744073709551616
  threads:t.threads.length<=1000
  fine:∀ b ∈ t.threads,b.fine/\b.size<=10000
  ask:okO t.ask
section
variable {w w' : World} {v : Value}
theorem Inits.below {l:List (Nat × Nat)} (h:Inits w v l) (hb:Below w.heap.size w w'):Inits w' v l:=RowAt.below h hb
theorem Threads.below {bs:List Blk} (h:Threads w v bs) (hb:Below w.heap.size w w'):Threads w' v bs:=by
  obtain ⟨vs,h1,h2,h3⟩:=h
  exact ⟨vs,h1.below hb,h2,fun i b u hi hu=>(h3 i b u hi hu).below hb⟩
theorem TestV.below {t:Ts} {vi vt va:Value} (h:TestV w t vi vt va) (hb:Below w.heap.size w w'):TestV w' t vi vt va:=⟨h.init.below hb,h.threads.below hb,h.ask.below hb⟩
theorem initCells_at:∀ (l:List (Nat × Nat)) (k:Nat) (i:Nat × Nat),l[k]? = some i->(l.flatMap initCell)[k * 2]? = some (.int .u8 i.1)/\(l.flatMap initCell)[k * 2+1]? = some (.int .u64 i.2):=by
  intro l
  induction l with
  | nil=>intro k i h;simp at h
  | cons x l ih =>
    intro k i h
    cases k with
    | zero=>simp at h;subst h;exact ⟨rfl,rfl⟩
    | succ k =>
      have:=ih k i (by simpa using h)
      refine ⟨?_,?_⟩
      · rw [show (k+1) * 2=k * 2+2 by omega];simpa [initCell] using this.1
      · rw [show (k+1) * 2+1=(k * 2+1)+2 by omega];simpa [initCell] using this.2
theorem Inits.at {l:List (Nat × Nat)} (h:Inits w v l) {k:Nat} {i:Nat × Nat} (hk:l[k]? = some i):∃ g o cap,v = .slice (some ⟨g,o,none⟩) l.length cap/\w.cell? ⟨g,o+k * 2,none⟩=some (.int .u8 i.1)/\w.cell? ⟨g,o+k * 2+1,none⟩=some (.int .u64 i.2):=by
  rcases h with ⟨h0,_⟩ | ⟨g,o,cap,hv,_,_,hc⟩
  · have:=(List.getElem?_eq_some_iff.1 hk).1;omega
  · have h2:=initCells_at l k i hk
    exact ⟨g,o,cap,hv,hc _ _ h2.1,by rw [Nat.add_assoc];exact hc _ _ h2.2⟩
theorem Threads.at {bs:List Blk} (h:Threads w v bs) {k:Nat} {b:Blk} (hk:bs[k]? = some b):∃ g o cap u,v = .slice (some ⟨g,o,none⟩) bs.length cap/\w.cell? ⟨g,o+k,none⟩=some u/\Stand any_ w b u:=by
  obtain ⟨vs,h1,h2,h3⟩:=h
  have hlt:=(List.getElem?_eq_some_iff.1 hk).1
  have hu:vs[k]? = some vs[k]:=List.getElem?_eq_getElem (by omega)
  rcases h1 with ⟨h0,_⟩ | ⟨g,o,cap,hv,_,_,hc⟩
  · omega
  · exact ⟨g,o,cap,_,hv,hc _ _ hu,h3 k b _ hk hu⟩
theorem Threads.len {bs:List Blk} (h:Threads w v bs):∃ p cap,v = .slice p bs.length cap:=by
  obtain ⟨vs,h1,_⟩:=h
  obtain ⟨p,cap,hv,_⟩:=h1.len
  exact ⟨p,cap,hv⟩
theorem Inits.len {l:List (Nat × Nat)} (h:Inits w v l):∃ p cap,v = .slice p l.length cap:=by
  obtain ⟨p,cap,hv,_⟩:=RowAt.len h
  exact ⟨p,cap,hv⟩
end
section
variable {w0 W W' : World} {bB gb gm bx : Nat} {cs : Array Value} {l l' : List UInt8}
end
end Go.Proofs.YtagebkachdmnbaaGreatDoor.Prog
end
section
namespace Go.Proofs.YtagebkachdmnbaaGreatDoor.Prog
open Go.RowKit Go.Proofs.YtagebkachdmnbaaGreatDoor.Mem Go.Proofs.YtagebkachdmnbaaGreatDoor.Expr Go.Lib
def kids {α:Type} (m:Mk) (t e:α):List α:=if m.kind=8 then [t,e] else if m.kind=9 then [t] else []
def Kids (w:World) (v:Value) (l:List Value):Prop:=(l=[]/\v = .slice none 0 0) \/ ∃ g,v = .slice (some ⟨g,0,none⟩) l.length l.length/\Sits w g 110 l.toArray
theorem Kids.len {w:World} {v:Value} {l:List Value} (h:Kids w v l):∃ p,v = .slice p l.length l.length:=by
  rcases h with ⟨rfl,hv⟩ | ⟨g,hv,_⟩
  · exact ⟨none,hv⟩
  · exact ⟨_,hv⟩
theorem Kids.at {w:World} {v:Value} {l:List Value} (h:Kids w v l) {k:Nat} {u:Value} (hk:l[k]? = some u):∃ g,v = .slice (some ⟨g,0,none⟩) l.length l.length/\w.cell? ⟨g,k,none⟩=some u/\Sits w g 110 l.toArray:=by
  rcases h with ⟨rfl,_⟩ | ⟨g,hv,hs⟩
  · simp at hk
  · exact ⟨g,hv,by rw [hs.cell];simpa using hk,hs⟩
theorem Kids.below {w w':World} {v:Value} {l:List Value} (h:Kids w v l) (hb:Below w.heap.size w w'):Kids w' v l:=by
  rcases h with h | ⟨g,hv,hs⟩
  · exact .inl h
  · exact .inr ⟨g,hv,hs.below hb hs.lt⟩
set_option maxRecDepth 100000 in
theorem row_any (v:Value) (p:Option Addr) (n c:Nat) (hv:v = .slice p n c) (w:World):Calls Tryz.prog 281 #[v] w fun e w'=>e = .returned v/\w=w':=by
  subst hv
  go_enter Tryz.func281,Tryz.ntmps281
  go_wp2_with fail
  go_ret
  exact ⟨rfl,rfl⟩
set_option maxRecDepth 100000 in
theorem blocks_any (m:Mk) (av bv:Value) (pa pb:Option Addr) (ha:av = .pointer pa) (hb:bv = .pointer pb) (pt pe:Option Addr) (nt ct ne ce:Nat) (w:World) :
    Calls Tryz.prog 250 #[stAgg m av bv (.slice pt nt ct) (.slice pe ne ce)] w fun e w'=>∃ v,e = .returned v/\Kids w' v (kids m (.slice pt nt ct) (.slice pe ne ce))/\Below w.heap.size w w':=by
  subst ha hb
  obtain ⟨k,r,mo,x,a,b⟩:=m
  unfold stAgg
  simp only
  by_cases h8:k=8
  · subst h8
    have hk:kids ⟨8,r,mo,x,a,b⟩ (Value.slice pt nt ct) (.slice pe ne ce)=[.slice pt nt ct,.slice pe ne ce]:=rfl
    have HK:=Lib.hid hk;clear hk
    go_enter Tryz.func250,Tryz.ntmps250
    go_wp2_with fail
    refine (row_any _ _ _ _ rfl _).mono ?_
    rintro e w1 ⟨rfl,rfl⟩
    go_wp2_with fail
    go_ret
    refine ⟨_,rfl,?_,((Below.refl _ _).alloc (Nat.le_refl _) _).alloc (by simp) _⟩
    rw [HK.out]
    exact .inr ⟨_,rfl,Sits.made (by simp) _ _⟩
  · by_cases h9:k=9
    · subst h9
      have hk:kids ⟨9,r,mo,x,a,b⟩ (Value.slice pt nt ct) (.slice pe ne ce)=[.slice pt nt ct]:=rfl
      have HK:=Lib.hid hk;clear hk
      go_enter Tryz.func250,Tryz.ntmps250
      go_wp2_with fail
      refine (row_any _ _ _ _ rfl _).mono ?_
      rintro e w1 ⟨rfl,rfl⟩
      go_wp2_with fail
      go_ret
      refine ⟨_,rfl,?_,((Below.refl _ _).alloc (Nat.le_refl _) _).alloc (by simp) _⟩
      rw [HK.out]
      exact .inr ⟨_,rfl,Sits.made (by simp) _ _⟩
    · have hk:kids ⟨k,r,mo,x,a,b⟩ (Value.slice pt nt ct) (.slice pe ne ce)=[]:=by unfold kids;rw [if_neg h8,if_neg h9]
      have HK:=Lib.hid hk;clear hk
      have e8:((k:Int) == 8)=false:=beq_eq_false_iff_ne.2 (by omega)
      have e9:((k:Int) == 9)=false:=beq_eq_false_iff_ne.2 (by omega)
      clear h8 h9
      go_enter Tryz.func250,Tryz.ntmps250
      go_wp2_with fail
      go_ret
      refine ⟨_,rfl,?_,(Below.refl _ _).alloc (Nat.le_refl _) _⟩
      rw [HK.out]
      exact .inl ⟨rfl,rfl⟩
theorem StAt.low {w w':World} {g o:Nat} {m:Mk} {av bv tv ev:Value} (h:StAt w g o m av bv tv ev) (hb:Below w.heap.size w w'):StAt w' g o m av bv tv ev:=by
  obtain ⟨h0,h1,h2,h3,h4,h5,h6,h7⟩:=h
  have k:=cell_below (U:=any_) hb g trivial
  exact ⟨k _ _ h0,k _ _ h1,k _ _ h2,k _ _ h3,k _ _ h4,k _ _ h5,k _ _ h6,k _ _ h7⟩
def kd (l:List Blk):Nat:=l.foldr (fun b m=>max (b.deep+1) m) 1
theorem kd_take (l:List Blk) (k:Nat) (b:Blk) (h:l[k]? = some b):kd (l.take (k+1))=max (kd (l.take k)) (b.deep+1):=by
  induction l generalizing k with
  | nil=>simp at h
  | cons x l ih =>
    cases k with
    | zero=>simp at h;subst h;simp [kd,Nat.max_comm]
    | succ k =>
      have:=ih k (by simpa using h)
      simp only [List.take_succ_cons,kd,List.foldr_cons] at this ⊢
      rw [this];omega
theorem deep_cons (m:Mk) (t e r:Blk):(Blk.cons m t e r).deep=max (kd (kids m t e)) r.deep:=by
  simp only [Blk.deep,kids]
  split
  · simp [kd]
  · split
    · simp [kd]
    · simp [kd]
theorem kd_pos (l:List Blk):1<=kd l:=by
  induction l with
  | nil=>exact Nat.le_refl _
  | cons x l ih=>simp only [kd,List.foldr_cons] at ih ⊢;omega
theorem deep_snoc (q:Blk) (m:Mk) (t e:Blk):(q.snoc m t e).deep=max q.deep (kd (kids m t e)):=by
  have hp:=kd_pos (kids m t e)
  induction q with
  | nil=>simp only [Blk.snoc,deep_cons];simp only [Blk.deep];omega
  | cons m' t' e' r' _ _ ih=>simp only [Blk.snoc,deep_cons,ih];omega
theorem deep_app (q r:Blk):(q.app r).deep=max q.deep r.deep:=by
  induction q with
  | nil=>simp only [Blk.app];have:=r.deep_pos;simp only [Blk.deep];omega
  | cons m t e q _ _ ih=>simp only [Blk.app,deep_cons,ih];omega
theorem kd_le (l:List Blk) (k:Nat):kd (l.take k)<=kd l:=by
  induction l generalizing k with
  | nil=>simp
  | cons x l ih =>
    cases k with
    | zero=>simp only [List.take_zero,kd,List.foldr_nil,List.foldr_cons];have:=ih 0;simp only [List.take_zero,kd,List.foldr_nil] at this;omega
    | succ k=>have:=ih k;simp only [List.take_succ_cons,kd,List.foldr_cons] at this ⊢;omega
theorem kids_map (m:Mk) (t e:Blk) (k:Nat) (c:Blk) (h:(kids m t e)[k]? = some c):c=t \/ c=e:=by
  unfold kids at h
  split at h
  · rcases k with _ | _ | k
    · simp at h;exact .inl h.symm
    · simp at h;exact .inr h.symm
    · simp at h
  · split at h
    · rcases k with _ | k
      · simp at h;exact .inl h.symm
      · simp at h
    · simp at h
theorem kids_len {α β:Type} (m:Mk) (t e:α) (t' e':β):(kids m t e).length=(kids m t' e').length/\(kids m t e).length<=2:=by
  unfold kids
  split
  · simp
  · split <;> simp
theorem kids_stand {U:Nat->Prop} {w:World} (m:Mk) {t e:Blk} {tv ev:Value} (ht:Stand U w t tv) (he:Stand U w e ev) {k:Nat} {c:Blk} {u:Value} (hc:(kids m t e)[k]? = some c) (hu:(kids m tv ev)[k]? = some u):Stand U w c u:=by
  unfold kids at hc hu
  split at hc
  · rename_i h
    rw [if_pos h] at hu
    rcases k with _ | _ | k
    · simp at hc hu;subst hc hu;exact ht
    · simp at hc hu;subst hc hu;exact he
    · simp at hc
  · rename_i h
    rw [if_neg h] at hu
    split at hc
    · rename_i h2
      rw [if_pos h2] at hu
      rcases k with _ | k
      · simp at hc hu;subst hc hu;exact ht
      · simp at hc
    · simp at hc
end Go.Proofs.YtagebkachdmnbaaGreatDoor.Prog
end
section
namespace Go.Proofs.YtagebkachdmnbaaGreatDoor.Prog
open Go.RowKit Go.Proofs.YtagebkachdmnbaaGreatDoor.Mem Go.Proofs.YtagebkachdmnbaaGreatDoor.Expr Go.Lib
theorem val_int {k:IntKind} {a b:Int} (h:a=b):Value.int k a=Value.int k b:=by rw [h]
theorem kids_slice {m:Mk} {tv ev:Value} {pt pe:Option Addr} {nt ct ne ce k:Nat} {u:Value} (ht:tv = .slice pt nt ct) (he:ev = .slice pe ne ce) (h:(kids m tv ev)[k]? = some u):∃ p n c,u = .slice p n c:=by
  subst ht he
  unfold kids at h
  split at h
  · rcases k with _ | _ | k
    · simp at h;exact ⟨_,_,_,h.symm⟩
    · simp at h;exact ⟨_,_,_,h.symm⟩
    · simp at h
  · split at h
    · rcases k with _ | k
      · simp at h;exact ⟨_,_,_,h.symm⟩
      · simp at h
    · simp at h
set_option maxRecDepth 100000 in
set_option maxHeartbeats 1000000 in
theorem nest_step (b:Blk) (most:Nat) (h1:1<=most) (h2:most<=1000) (v:Value) (w:World) (hS:Stand any_ w b v)
    (IH:∀ (c:Blk),c.size<b.size->2<=most->∀ (v:Value) (w:World),Stand any_ w c v->Calls Tryz.prog 217 #[v,.int .i64 ((most:Int) - 1)] w fun e w'=>Made (.returned (.int .i64 (min (most - 1) c.deep:Nat))) w e w') :
    Calls Tryz.prog 217 #[v,.int .i64 (most:Nat)] w fun e w'=>Made (.returned (.int .i64 (min most b.deep:Nat))) w e w':=by
  obtain ⟨p,cap,rfl,hl,hr⟩:=hS.rests
  have HR:=Lib.hid hr
  have HIH:=Lib.hid IH
  have i1:(b.len:Int)<=1000000:=by omega
  have i2:(1:Int)<=(most:Int):=by omega
  have i3:(most:Int)<=1000:=by omega
  have HM1:=Lib.hid h1
  have HM2:=Lib.hid h2
  clear hS IH hr hl h1 h2
  go_enter Tryz.func217,Tryz.ntmps217
  go_wp2_with fail
  go_loopg [5,12] b.len (fun gg v5 v12 wx=>∃ (q r:Blk),gg=r.len/\b.len=q.len+r.len/\v12 = .int .i64 (q.len:Nat)/\v5 = .int .i64 (min most q.deep:Nat)/\Hid (b=q.app r)/\Hid (Rests w p b.len r q.len)/\Hid (Below w.heap.size w wx))
  case atStart=>exact ⟨Blk.nil,b,rfl,by simp [Blk.len],rfl,val_int (by have:=HM1.out;simp only [Blk.deep];omega),Lib.hid rfl,HR,Lib.hid (Below.refl _ _)⟩
  case round =>
    obtain ⟨q,r,rfl,hlen,rfl,rfl,HE,HRr,HB⟩:=hrel
    cases r with
    | nil =>
      have e:b.len=q.len:=by simpa [Blk.len] using hlen
      have HEq:=Lib.hid (show b=q by rw [HE.out,Blk.app_nil])
      have i4:¬ ((q.len:Int)<(b.len:Int)):=by omega
      clear e hlen
      go_wp2_with fail
      go_ret
      exact ⟨ret_int (by rw [HEq.out]),HB.out⟩
    | cons m t e r =>
      obtain ⟨g,o,rfl,hk,hr',av,bv,tv,ev,hst,hta,htb,hst1,hst2⟩:=HRr.out.next
      obtain ⟨pa,rfl,_⟩:=hta.ptr
      obtain ⟨pb,rfl,_⟩:=htb.ptr
      have HTT:=Lib.hid hst1
      have HEE:=Lib.hid hst2
      have HNX:=Lib.hid hr'
      obtain ⟨c0,c1,c2,c3,c4,c5,c6,c7⟩:=hst.low HB.out
      have lg:=World.block_lt_of_cell? _ _ c0
      obtain ⟨pt,ct,rfl,_⟩:=hst1.len
      obtain ⟨pe,ce,rfl,_⟩:=hst2.len
      have HSZ:=Lib.hid (show t.size<b.size/\e.size<b.size by rw [HE.out,Blk.size_app];simp only [Blk.size];omega)
      have HE':=Lib.hid (show b=(q.snoc m t e).app r by rw [HE.out,Blk.snoc_app])
      have lq:(q.len:Int)<(b.len:Int):=by omega
      have lq0:(0:Int)<=(q.len:Int):=by omega
      have HLN:=Lib.hid (show b.len=(q.snoc m t e).len+r.len by rw [Blk.len_snoc];simp only [Blk.len] at hlen;omega)
      clear hst hta htb hst1 hst2 hr' hlen
      have HBL:=Lib.hid (fun W=>blocks_any m (.pointer pa) (.pointer pb) pa pb rfl rfl pt pe t.len ct e.len ce W)
      have hb0:Below wr.heap.size wr (wr.alloc (.cells #[.int .u8 m.kind,.int .u8 m.reg,.int .u8 m.mode,.int .u8 m.loc,.pointer pa,.pointer pb,.slice pt t.len ct,.slice pe e.len ce] 169)):=(Below.refl _ _).alloc (Nat.le_refl _) _
      have HB0:=Lib.hid (HB.out.trans (hb0.mono HB.out.size))
      clear hb0
      go_wp2_with fail
      change Calls _ _ #[stAgg m (.pointer pa) (.pointer pb) (.slice pt t.len ct) (.slice pe e.len ce)] (wr.alloc (.cells #[.int .u8 m.kind,.int .u8 m.reg,.int .u8 m.mode,.int .u8 m.loc,.pointer pa,.pointer pb,.slice pt t.len ct,.slice pe e.len ce] 169)) _
      generalize wr.alloc (.cells #[.int .u8 m.kind,.int .u8 m.reg,.int .u8 m.mode,.int .u8 m.loc,.pointer pa,.pointer pb,.slice pt t.len ct,.slice pe e.len ce] 169)=wa at HB0 ⊢
      refine (HBL.out wa).mono ?_
      rintro e' w2 ⟨kv,rfl,hkv,hb⟩
      have HB2:=Lib.hid (HB0.out.trans (hb.mono HB0.out.size))
      have HKV:=Lib.hid hkv
      obtain ⟨pk,rfl⟩:=hkv.len
      have hkl:=kids_len m t e (Value.slice pt t.len ct) (Value.slice pe e.len ce)
      clear hb hkv c0 c1 c2 c3 c4 c5 c6 c7 lg HBL
      have ik:((kids m (Value.slice pt t.len ct) (Value.slice pe e.len ce)).length:Int)<=2:=by omega
      have HKL:=Lib.hid hkl
      clear hkl
      go_wp2_with fail
      go_loopg [5,19] (kids m t e).length (fun gg v5 v19 wx=>∃ j,j<=(kids m t e).length/\gg=(kids m t e).length - j/\v19 = .int .i64 (j:Nat)/\v5 = .int .i64 (min most (max q.deep (kd ((kids m t e).take j))):Nat)/\Hid (Below w.heap.size w wx)/\Hid (Below w2.heap.size w2 wx))
      case atStart=>exact ⟨0,by omega,by omega,rfl,val_int (by simp only [List.take_zero,kd,List.foldr_nil];have:=q.deep_pos;omega),HB2,Lib.hid (Below.refl _ _)⟩
      case round =>
        obtain ⟨j,hj,rfl,rfl,rfl,HBj,HB2j⟩:=hrel
        have HK3:=Lib.hid (HKV.out.below HB2j.out)
        by_cases hlt:j<(kids m t e).length
        · have hlt':j<(kids m (Value.slice pt t.len ct) (Value.slice pe e.len ce)).length:=by rw [<- HKL.out.1];exact hlt
          have hu:(kids m (Value.slice pt t.len ct) (Value.slice pe e.len ce))[j]? = some (kids m (Value.slice pt t.len ct) (Value.slice pe e.len ce))[j]:=List.getElem?_eq_getElem hlt'
          have hc:(kids m t e)[j]? = some (kids m t e)[j]:=List.getElem?_eq_getElem hlt
          have HSt:=Lib.hid (kids_stand m (HTT.out.below HBj.out) (HEE.out.below HBj.out) hc hu)
          have HCS:=Lib.hid (show (kids m t e)[j].size<b.size by rcases kids_map m t e j _ hc with h | h <;> rw [h] <;> first | exact HSZ.out.1 | exact HSZ.out.2)
          have HDT:=Lib.hid (kd_take _ _ _ hc)
          obtain ⟨p1,n1,c1,hu1⟩:=kids_slice rfl rfl hu
          rw [hu1] at HSt hu
          clear hu1
          obtain ⟨gk,e1,ck,hs⟩:=HK3.out.at hu
          injection e1 with e1 _ _
          subst e1
          have lk:=hs.lt
          have jj:(j:Int)<((kids m (Value.slice pt t.len ct) (Value.slice pe e.len ce)).length:Int):=by omega
          generalize (kids m t e)[j]=c at HSt HCS HDT
          have hle:=kd_le (kids m t e) j
          have HDA:=Lib.hid (show kd (kids m t e)<=b.deep/\q.deep<=b.deep by rw [HE'.out,deep_app,deep_snoc];omega)
          clear hu hc hs hlt'
          by_cases hD:min most (max q.deep (kd ((kids m t e).take j)))=most
          · have HDD:=Lib.hid (show most=min most b.deep by have:=HDA.out;omega)
            rw [hD]
            clear hD hle
            go_wp2_with fail
            go_ret
            exact ⟨ret_int (by rw [<- HDD.out]),HBj.out⟩
          · have hp:=q.deep_pos
            have h2m:2<=most:=by omega
            have HCL:=Lib.hid (HIH.out c HCS.out h2m _ _ HSt.out)
            generalize hDD:min most (max q.deep (kd ((kids m t e).take j)))=D at hD
            have hne:((D:Int) == (most:Int))=false:=beq_eq_false_iff_ne.2 (by omega)
            have hDb:(D:Int)<=1000:=by omega
            have HD:=Lib.hid hDD
            have HPP:=Lib.hid hp
            generalize hX:min (most - 1) c.deep=X at HCL
            have hXb:(X:Int)<=1000:=by omega
            have hXX:=Lib.hid hX
            clear hD hDD hle hp h2m hX
            go_wp2_with fail
            refine HCL.out.mono ?_
            rintro e' w4 ⟨rfl,hb⟩
            have HB4:=Lib.hid (HBj.out.trans (hb.mono HBj.out.size))
            have HB24:=Lib.hid (HB2j.out.trans (hb.mono HB2j.out.size))
            clear hb
            go_wp2_with fail
            go_roundg ((kids m t e).length - (j+1))
            case measure=>omega
            case rel=>exact ⟨j+1,by omega,rfl,by go_num,val_int (by rw [HDT.out];have:=HD.out;have:=hXX.out;have:=HM1.out;omega),HB4,HB24⟩
        · obtain rfl:j=(kids m t e).length:=by omega
          have jj:¬ (((kids m t e).length:Int)<((kids m (Value.slice pt t.len ct) (Value.slice pe e.len ce)).length:Int)):=by have:=HKL.out;omega
          go_wp2_with fail
          go_roundg r.len
          case measure=>simp [Blk.len]
          case rel=>exact ⟨q.snoc m t e,r,rfl,HLN.out,val_int (by rw [Blk.len_snoc];rfl),val_int (by rw [deep_snoc]),HE',Lib.hid (by rw [Blk.len_snoc];exact HNX.out),HBj⟩
theorem nest_any:∀ (n:Nat) (b:Blk),b.size<n->∀ (most:Nat),1<=most->most<=1000->∀ (v:Value) (w:World),Stand any_ w b v->Calls Tryz.prog 217 #[v,.int .i64 (most:Nat)] w fun e w'=>Made (.returned (.int .i64 (min most b.deep:Nat))) w e w':=by
  intro n
  induction n with
  | zero=>intro b h;omega
  | succ n ih =>
    intro b hb most h1 h2 v w hS
    refine nest_step b most h1 h2 v w hS fun c hc hm v w hS=>?_
    have:=ih c (by omega) (most - 1) (by omega) (by omega) v w hS
    rwa [show ((most - 1:Nat):Int)=(most:Int) - 1 by omega] at this
set_option maxRecDepth 100000 in
theorem Nest_any (b:Blk) (v:Value) (w:World) (hS:Stand any_ w b v):Calls Tryz.prog 150 #[v] w fun e w'=>Made (.returned (.int .i64 (min 9 b.deep:Nat))) w e w':=by
  have H:=Lib.hid (nest_any (b.size+1) b (by omega) 9 (by omega) (by omega) v w hS)
  obtain ⟨p,cap,rfl,_⟩:=hS.len
  clear hS
  go_enter Tryz.func150,Tryz.ntmps150
  go_wp2_with fail
  refine H.out.mono ?_
  rintro e w1 ⟨rfl,hb⟩
  have HB:=Lib.hid hb;clear hb
  go_wp2_with fail
  go_ret
  exact ⟨rfl,HB.out⟩
end Go.Proofs.YtagebkachdmnbaaGreatDoor.Prog
end
section
namespace Go.Proofs.YtagebkachdmnbaaGreatDoor.Prog
open Go.RowKit Go.Proofs.YtagebkachdmnbaaGreatDoor.Mem Go.Proofs.YtagebkachdmnbaaGreatDoor.Expr Go.Lib
theorem fn_isnt (F:FuncId) (f c:Array Value) (W:World):(binOp .neq 250 (.func (.func F) f c) .nilFunc).run Tryz.prog W = .ok (.bool true) W:=by
  have h:∀ d:Nat,(Op.equalIn (d+1) 250 (.func (.func F) f c) .nilFunc).run Tryz.prog W = .ok false W:=fun d=>by
    simp [Op.equalIn,run_underlying Tryz.underlying250]
  simp only [binOp]
  simp [Op.equal,Op.maxDepth,h 9999]
def off (g:Nat):Nat->Prop:=fun x=>x≠g
section
variable {U : Nat → Prop} {w w' : World} {p : Option Addr} {n k : Nat} {r : Blk}
def Left (U:Nat->Prop) (w:World) (p:Option Addr) (n:Nat) (r:Blk) (k:Nat):Prop :=
  k+r.len=n/\(r = .nil \/ ∃ g o,p=some ⟨g,o,none⟩/\U g/\∃ cs,Holds U w r cs/\∀ j u,cs[j]? = some u->w.cell? ⟨g,o+k * 8+j,none⟩=some u)
theorem Stand.left {b:Blk} {v:Value} (h:Stand U w b v):∃ p cap,v = .slice p b.len cap/\b.len<=1000000/\Left U w p b.len b 0:=by
  obtain ⟨cs,h1,h2⟩:=h
  rcases h1 with ⟨h0,p,cap,hv⟩ | ⟨g,o,cap,hv,hg,hl,hc⟩
  · exact ⟨p,cap,by rw [hv,h0],by omega,by omega,.inl (Blk.len_zero h0)⟩
  · exact ⟨_,cap,hv,hl,by omega,.inr ⟨g,o,rfl,hg,cs,h2,fun j u hu=>by simpa using hc j u hu⟩⟩
theorem Left.next {m:Mk} {t e:Blk} (h:Left U w p n (.cons m t e r) k) :
    ∃ g o,p=some ⟨g,o,none⟩/\U g/\k<n/\Left U w p n r (k+1)/\∃ av bv tv ev,StAt w g (o+k * 8) m av bv tv ev/\Tree w (trO m.a) av/\Tree w (trO m.b) bv/\Stand U w t tv/\Stand U w e ev:=by
  obtain ⟨h1,h2⟩:=h
  rcases h2 with h2 | ⟨g,o,hp,hg,cs,h2,h3⟩
  · cases h2
  obtain ⟨av,bv,tv,ev,ct,ce,cr,rfl,ha,hb,hct,ht,hce,he,hr⟩:=h2
  simp only [Blk.len] at h1
  have at_:∀ j u,j<8->(stCells m av bv tv ev)[j]? = some u->w.cell? ⟨g,o+k * 8+j,none⟩=some u:=fun j u hj hu =>
    h3 j u (by rw [List.getElem?_append_left (by simp [stCells];omega)];exact hu)
  refine ⟨g,o,hp,hg,by omega,⟨by omega,.inr ⟨g,o,hp,hg,cr,hr,fun j u hu=>?_⟩⟩,av,bv,tv,ev,⟨at_ 0 _ (by omega) rfl,at_ 1 _ (by omega) rfl,at_ 2 _ (by omega) rfl,at_ 3 _ (by omega) rfl,at_ 4 _ (by omega) rfl,at_ 5 _ (by omega) rfl,at_ 6 _ (by omega) rfl,at_ 7 _ (by omega) rfl⟩,ha,hb,⟨ct,hct,ht⟩,⟨ce,hce,he⟩⟩
  have:=h3 (8+j) u (by rw [List.getElem?_append_right (by simp [stCells])];simpa [stCells] using hu)
  rw [show o+(k+1) * 8+j=o+k * 8+(8+j) by omega]
  exact this
end
section
variable {g : Nat} {w w' : World}
theorem tick_cell (h:Keeps (fun x=>x=g) w w'):∀ x,off g x->∀ j u,w.cell? ⟨x,j,none⟩=some u->w'.cell? ⟨x,j,none⟩=some u:=fun x hx j u hu=>by
  rw [World.cell?_of_block (h.block x (World.block_lt_of_cell? _ _ hu) hx)];exact hu
theorem StAt.tick {x o:Nat} {m:Mk} {av bv tv ev:Value} (h:StAt w x o m av bv tv ev) (hx:off g x) (k:Keeps (fun x=>x=g) w w'):StAt w' x o m av bv tv ev:=by
  obtain ⟨c0,c1,c2,c3,c4,c5,c6,c7⟩:=h
  have f:=tick_cell k x hx
  exact ⟨f _ _ c0,f _ _ c1,f _ _ c2,f _ _ c3,f _ _ c4,f _ _ c5,f _ _ c6,f _ _ c7⟩
end
end Go.Proofs.YtagebkachdmnbaaGreatDoor.Prog
end
section
namespace Go.Proofs.YtagebkachdmnbaaGreatDoor.Prog
open Go.RowKit Go.Proofs.YtagebkachdmnbaaGreatDoor.Mem Go.Proofs.YtagebkachdmnbaaGreatDoor.Expr Go.Lib
def modesOf (k:Nat):List Nat:=if k=2 then [1,2,3] else if k=3 then [1,2,4] else if k=4 \/ k=5 \/ k=6 then [2,3,4,5] else if k=7 then [3,4,5,6] else []
def Small (w:World) (v:Value) (l:List Nat):Prop:=(l=[]/\v = .slice none 0 0) \/ ∃ g,v = .slice (some ⟨g,0,none⟩) l.length l.length/\Sits w g 5 (l.map fun (n:Nat)=>Value.int .u8 (n:Int)).toArray
set_option maxRecDepth 100000 in
theorem rowb_any (p:Option Addr) (n c:Nat) (w:World):Calls Tryz.prog 251 #[.slice p n c] w fun e w'=>e = .returned (.slice p n c)/\w=w':=by
  go_enter Tryz.func251,Tryz.ntmps251
  go_wp2_with fail
  go_ret
  exact ⟨rfl,rfl⟩
def ModesMade (k:Nat) (w:World) (e:Ending) (w':World):Prop:=∃ v,e = .returned v/\Small w' v (modesOf k)/\Below w.heap.size w w'
set_option maxRecDepth 100000 in
theorem modes_any (k:Nat) (hk:k<256) (w:World):Calls Tryz.prog 213 #[.int .u8 (k:Nat)] w (ModesMade k w):=by
  by_cases h:k=2 \/ k=3 \/ k=4 \/ k=5 \/ k=6 \/ k=7
  · obtain rfl | rfl | rfl | rfl | rfl | rfl:=h <;>
    · clear hk
      go_enter Tryz.func213,Tryz.ntmps213
      go_wp2_with fail
      refine (rowb_any _ _ _ _).mono ?_
      rintro e w1 ⟨rfl,rfl⟩
      go_wp2_with fail
      go_ret
      exact ⟨_,rfl,.inr ⟨_,rfl,Sits.made (by simp) _ _⟩,(Below.refl _ _).alloc (Nat.le_refl _) _⟩
  · have hm:modesOf k=[]:=by unfold modesOf;rw [if_neg (by omega),if_neg (by omega),if_neg (by omega),if_neg (by omega)]
    have HM:=Lib.hid hm
    have i2:((k:Int) == 2)=false:=beq_eq_false_iff_ne.2 (by omega)
    have i3:((k:Int) == 3)=false:=beq_eq_false_iff_ne.2 (by omega)
    have i4:((k:Int) == 4)=false:=beq_eq_false_iff_ne.2 (by omega)
    have i5:((k:Int) == 5)=false:=beq_eq_false_iff_ne.2 (by omega)
    have i6:((k:Int) == 6)=false:=beq_eq_false_iff_ne.2 (by omega)
    have i7:((k:Int) == 7)=false:=beq_eq_false_iff_ne.2 (by omega)
    clear h hm
    go_enter Tryz.func213,Tryz.ntmps213
    go_wp2_with fail
    go_ret
    exact ⟨_,rfl,.inl ⟨HM.out,rfl⟩,Below.refl _ _⟩
end Go.Proofs.YtagebkachdmnbaaGreatDoor.Prog
end
