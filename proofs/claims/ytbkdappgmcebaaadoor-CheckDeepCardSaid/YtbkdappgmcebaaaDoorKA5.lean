/- Part 6 of the proof: what is used of the texts ExprH, ExprG, ExprI, ExprK, ExprM, ExprN. -/
import Derived.Test.YtbkdappgmcebaaaDoorKA3
import Derived.Test.YtbkdappgmcebaaaDoorKA4
import Derived.Test.YtbkdappgmcebaaaDoorKA2
import Derived.Deep.RegionWith
import Derived.Deep.AppendLies
import Derived.Deep.DeepCutAuto
section
namespace Go.Proofs.YtbkdappgmcebaaaDoor.Expr
open Go.RowKit Go.Proofs.YtbkdappgmcebaaaDoor.Mem Go.Lib
def Enters (F:FuncId):Prop:=∀ (args:Array Value) (W:World),(callFunc F args).run Tryd.prog W = .ok (.enter F args) W
def Done (I:World->Prop) (w:World) (e:Ending) (w':World):Prop:=e = .returned (.tuple #[])/\I w' /\ Stable 25 w w'
structure Tells {σ:Type} (F1 F2:FuncId) (f1 c1 f2 c2:Array Value) (R:Ex->σ->σ) (I:σ->World->Prop) (B:σ->Ex->Prop):Prop where
  e1:Enters F1
  e2:Enters F2
  leaf:∀ (e:Ex) (s:σ) (w:World),e.isLeaf=true->e.ok->B s e->I s w->Calls Tryd.prog F1 (f1.push (leafVal e) ++ c1) w (Done (I (R e s)) w)
  one:∀ (op:Nat) (a:Ex) (s:σ) (w:World),(op=13 \/ op=14)->a.ok->B s (.one op a)->I (R a s) w->Calls Tryd.prog F2 (f2.push (.int .u8 (op:Nat)) ++ c2) w (Done (I (R (.one op a) s)) w)
  two:∀ (op:Nat) (a b:Ex) (s:σ) (w:World),1<=op->op<=12->a.ok->b.ok->B s (.two op a b)->I (R b (R a s)) w->Calls Tryd.prog F2 (f2.push (.int .u8 (op:Nat)) ++ c2) w (Done (I (R (.two op a b) s)) w)
  inOne:∀ (op:Nat) (a:Ex) (s:σ),B s (.one op a)->B s a
  inTwo:∀ (op:Nat) (a b:Ex) (s:σ),B s (.two op a b)->B s a/\B (R a s) b
theorem leaf_tree {e:Ex} (he:e.isLeaf=true):treeOf e = .node (leafIt e) .nil .nil/\(leafIt e).kind<4:=by
  cases e with
  | one op a=>cases he
  | two op a b=>cases he
  | _=>exact ⟨rfl,by simp [leafIt]⟩
section
variable {σ : Type} {F1 F2 : FuncId} {f1 c1 f2 c2 : Array Value} {R : Ex → σ → σ} {I : σ → World → Prop} {B : σ → Ex → Prop}
theorem tell_leaf (T:Tells F1 F2 f1 c1 f2 c2 R I B) (e:Ex) (he:e.isLeaf=true) (ho:e.ok) (s:σ) (hB:B s e) (v:Value) (w:World) (hT:Tree w (treeOf e) v) (hI:I s w) :
    Calls Tryd.prog 74 #[v,.func (.func F1) f1 c1,.func (.func F2) f2 c2] w (Done (I (R e s)) w):=by
  obtain ⟨ht,hk⟩:=leaf_tree he
  rw [ht] at hT
  obtain ⟨g,lv,rv,rfl,hg,rfl,rfl⟩:=hT
  have H:=Lib.hid (T.leaf e s w he ho hB hI)
  unfold leafVal exprCells at H
  have e1:=T.e1
  unfold Enters at e1
  generalize I (R e s)=J at H ⊢
  generalize leafIt e=it at *
  obtain ⟨q,op,n,t,i,x⟩:=it
  obtain ⟨q0,q1,q2,q3,q4,q5,q6,q7⟩:=Sits.all8 hg
  simp only at q0 q1 q2 q3 q4 q5 hk
  have hlt:=hg.lt
  have i4:((q:Int) == 4)=false:=beq_eq_false_iff_ne.2 (by omega)
  have i5:((q:Int) == 5)=false:=beq_eq_false_iff_ne.2 (by omega)
  clear hg ht hI hB T ho he hk
  go_enter Tryd.func74,Tryd.ntmps74
  go_wp2_with fail
  refine H.out.mono ?_
  rintro e w1 ⟨rfl,hj,hs⟩
  have HJ:=Lib.hid hj
  have HS:=Lib.hid hs
  clear hj hs
  go_wp2_with fail
  go_end0
  exact ⟨rfl,HJ.out,HS.out⟩
theorem tell_one (e2:Enters F2) (op:Nat) (t:Tr) (v:Value) (w:World) (hT:Tree w (.node ⟨4,op,0,0,0,0⟩ t .nil) v) (J J2:World->Prop)
    (ih:∀ p,Tree w t p->Calls Tryd.prog 74 #[p,.func (.func F1) f1 c1,.func (.func F2) f2 c2] w (Done J w))
    (hop:∀ w1,J w1->Calls Tryd.prog F2 (f2.push (.int .u8 (op:Nat)) ++ c2) w1 (Done J2 w1)) :
    Calls Tryd.prog 74 #[v,.func (.func F1) f1 c1,.func (.func F2) f2 c2] w (Done J2 w):=by
  obtain ⟨g,lv,rv,rfl,hg,hl,rfl⟩:=hT
  obtain ⟨pl,rfl,_⟩:=hl.ptr
  have IH:=Lib.hid (ih _ hl)
  have HO:=Lib.hid hop
  have HG:=Lib.hid hg
  unfold Enters at e2
  obtain ⟨q0,q1,q2,q3,q4,q5,q6,q7⟩:=Sits.all8 hg
  simp only at q0 q1 q2 q3 q4 q5
  have hlt:=hg.lt
  clear hg hl ih hop
  go_enter Tryd.func74,Tryd.ntmps74
  go_wp2_with fail
  refine IH.out.mono ?_
  rintro e w1 ⟨rfl,hj,hs⟩
  have S1:=hs _ _ HG.out
  have r1:w1.cell? ⟨g,1,none⟩=some (.int .u8 op):=S1.cell 1
  have hlt1:=S1.lt
  have HJ:=Lib.hid hj
  have HS:=Lib.hid hs
  clear hj hs S1 q0 q1 q2 q3 q4 q5 q6 q7 hlt
  go_wp2_with fail
  refine (HO.out _ HJ.out).mono ?_
  rintro e w2 ⟨rfl,hj,hs⟩
  have HJ2:=Lib.hid hj
  have HS2:=Lib.hid (HS.out.trans hs)
  clear hj hs
  go_wp2_with fail
  go_end0
  exact ⟨rfl,HJ2.out,HS2.out⟩
theorem tell_two (e2:Enters F2) (op:Nat) (t u:Tr) (v:Value) (w:World) (hT:Tree w (.node ⟨5,op,0,0,0,0⟩ t u) v) (J J1 J2:World->Prop)
    (ih:∀ p,Tree w t p->Calls Tryd.prog 74 #[p,.func (.func F1) f1 c1,.func (.func F2) f2 c2] w (Done J w))
    (ih2:∀ p w1,J w1->Tree w1 u p->Calls Tryd.prog 74 #[p,.func (.func F1) f1 c1,.func (.func F2) f2 c2] w1 (Done J1 w1))
    (hop:∀ w1,J1 w1->Calls Tryd.prog F2 (f2.push (.int .u8 (op:Nat)) ++ c2) w1 (Done J2 w1)) :
    Calls Tryd.prog 74 #[v,.func (.func F1) f1 c1,.func (.func F2) f2 c2] w (Done J2 w):=by
  obtain ⟨g,lv,rv,rfl,hg,hl,hr⟩:=hT
  obtain ⟨pl,rfl,_⟩:=hl.ptr
  obtain ⟨pr,rfl,_⟩:=hr.ptr
  have IH:=Lib.hid (ih _ hl)
  have IH2:=Lib.hid (fun w1 (hj:J w1) (hs:Stable 25 w w1)=>ih2 _ w1 hj (hr.stable hs))
  have HO:=Lib.hid hop
  have HG:=Lib.hid hg
  unfold Enters at e2
  obtain ⟨q0,q1,q2,q3,q4,q5,q6,q7⟩:=Sits.all8 hg
  simp only at q0 q1 q2 q3 q4 q5
  have hlt:=hg.lt
  clear hg hl hr ih ih2 hop
  go_enter Tryd.func74,Tryd.ntmps74
  go_wp2_with fail
  refine IH.out.mono ?_
  rintro e w1 ⟨rfl,hj,hs⟩
  have S1:=hs _ _ HG.out
  have r7:w1.cell? ⟨g,7,none⟩=some (.pointer pr):=S1.cell 7
  have hlt1:=S1.lt
  have HS1:=Lib.hid S1
  have HJ:=Lib.hid hj
  have HS:=Lib.hid hs
  clear hj hs S1 q0 q1 q2 q3 q4 q5 q6 q7 hlt
  go_wp2_with fail
  refine (IH2.out _ HJ.out HS.out).mono ?_
  rintro e w2 ⟨rfl,hj,hs⟩
  have S2:=hs _ _ HS1.out
  have r1:w2.cell? ⟨g,1,none⟩=some (.int .u8 op):=S2.cell 1
  have hlt2:=S2.lt
  have HJ2:=Lib.hid hj
  have HS2:=Lib.hid (HS.out.trans hs)
  clear hj hs S2 r7 hlt1
  go_wp2_with fail
  refine (HO.out _ HJ2.out).mono ?_
  rintro e w3 ⟨rfl,hj,hs⟩
  have HJ3:=Lib.hid hj
  have HS3:=Lib.hid (HS2.out.trans hs)
  clear hj hs
  go_wp2_with fail
  go_end0
  exact ⟨rfl,HJ3.out,HS3.out⟩
theorem tell_any (T:Tells F1 F2 f1 c1 f2 c2 R I B) (e:Ex):∀ (s:σ) (v:Value) (w:World),e.ok->B s e->Tree w (treeOf e) v->I s w ->
    Calls Tryd.prog 74 #[v,.func (.func F1) f1 c1,.func (.func F2) f2 c2] w (Done (I (R e s)) w):=by
  induction e with
  | one op a ih =>
    intro s v w ho hB hT hI
    exact tell_one T.e2 op (treeOf a) v w hT _ _ (fun p hp=>ih s p w ho.2 (T.inOne op a s hB) hp hI) fun w1 h1=>T.one op a s w1 ho.1 ho.2 hB h1
  | two op a b iha ihb =>
    intro s v w ho hB hT hI
    obtain ⟨ba,bb⟩:=T.inTwo op a b s hB
    exact tell_two T.e2 op (treeOf a) (treeOf b) v w hT _ _ _ (fun p hp=>iha s p w ho.2.2.1 ba hp hI) (fun p w1 h1 hp=>ihb _ p w1 ho.2.2.2 bb hp h1) fun w1 h1=>T.two op a b s w1 ho.1 ho.2.1 ho.2.2.1 ho.2.2.2 hB h1
  | num n=>intro s v w ho hB hT hI;exact tell_leaf T _ rfl ho s hB v w hT hI
  | reg n=>intro s v w ho hB hT hI;exact tell_leaf T _ rfl ho s hB v w hT hI
  | of n m=>intro s v w ho hB hT hI;exact tell_leaf T _ rfl ho s hB v w hT hI
  | loc n=>intro s v w ho hB hT hI;exact tell_leaf T _ rfl ho s hB v w hT hI
theorem walk_not (t:Tr) (x y v:Value) (w:World) (hT:Tree w t v) (hf:fitsF t 12=false):Calls Tryd.prog 50 #[v,x,y] w fun e w'=>Made (.returned (.tuple #[])) w e w':=by
  have HM:=may_any t v w hT
  rw [hf] at HM
  have HH:=Lib.hid HM
  obtain ⟨p,rfl,_⟩:=hT.ptr
  clear HM hT hf
  go_enter Tryd.func50,Tryd.ntmps50
  go_wp2_with fail
  refine HH.out.mono ?_
  rintro e w1 ⟨rfl,hb⟩
  have HB:=Lib.hid hb;clear hb
  go_wp2_with fail
  go_end0
  exact ⟨rfl,HB.out⟩
theorem walk_any (T:Tells F1 F2 f1 c1 f2 c2 R I B) (hIb:∀ s w w',I s w->Below w.heap.size w w' -> I s w') (e:Ex) (s:σ) (v:Value) (w:World) (ho:e.ok) (hd:e.depth<=12) (hB:B s e) (hT:Tree w (treeOf e) v) (hI:I s w) :
    Calls Tryd.prog 50 #[v,.func (.func F1) f1 c1,.func (.func F2) f2 c2] w (Done (I (R e s)) w):=by
  have HM:=may_any _ v w hT
  rw [fits_of e ho 12 hd] at HM
  have HH:=Lib.hid HM
  have IH:=Lib.hid (fun w1 (hb:Below w.heap.size w w1)=>tell_any T e s v w1 ho hB (hT.below hb) (hIb s w w1 hI hb))
  obtain ⟨p,rfl,_⟩:=hT.ptr
  clear HM hT hI hIb T hB
  generalize I (R e s)=J at IH ⊢
  go_enter Tryd.func50,Tryd.ntmps50
  go_wp2_with fail
  refine HH.out.mono ?_
  rintro e w1 ⟨rfl,hb⟩
  have HB:=Lib.hid hb;clear hb
  go_wp2_with fail
  refine (IH.out _ HB.out).mono ?_
  rintro e w2 ⟨rfl,hj,hs⟩
  have HJ:=Lib.hid hj
  have HS:=Lib.hid ((Stable.below (t:=25) HB.out).trans hs)
  clear hj hs
  go_wp2_with fail
  go_end0
  exact ⟨rfl,HJ.out,HS.out⟩
end
end Go.Proofs.YtbkdappgmcebaaaDoor.Expr
end
section
namespace Go.Proofs.YtbkdappgmcebaaaDoor.Expr
open Go.RowKit Go.Proofs.YtbkdappgmcebaaaDoor.Mem Go.Lib
def URow (w:World) (v:Value) (u:List Nat):Prop :=
  (u=[]/\∃ p cap,v = .slice p 0 cap) \/ ∃ g o cap,v = .slice (some ⟨g,o,none⟩) u.length cap/\u.length<=1000000/\∀ i a,u[i]? = some a->w.cell? ⟨g,o+i,none⟩=some (.int .u64 (a:Nat))
section
variable (l : List It) (u : List Nat) (k n : Nat) (v uv : Value) (w : World)
end
end Go.Proofs.YtbkdappgmcebaaaDoor.Expr
end
section
namespace Go.Proofs.YtbkdappgmcebaaaDoor.Expr
open Go.RowKit Go.Proofs.YtbkdappgmcebaaaDoor.Mem Go.Lib
section
variable {B : Nat} {ts us : List TypeId} {w w' w'' : World}
end
theorem own_far {w:World} {base:Nat} {e t:TypeId} {size n g:Nat} {v:Value} {xs:List Value} {cs:Array Value} (h:w.ownsRow base e size v n xs) (hg:Sits w g t cs) (hne:e≠t):v.ownBlock≠some g:=by
  rcases h.2 with ⟨rfl,_⟩ | ⟨g',cap,cur,rfl,_,hh,_⟩
  · simp [Value.ownBlock]
  · intro he
    have:g' = g:=by simpa [Value.ownBlock] using he
    subst this
    exact Sits.differ (t:=e) hh hg hne rfl
theorem own_slice {w:World} {base:Nat} {e:TypeId} {size n:Nat} {v:Value} {xs:List Value} (h:w.ownsRow base e size v n xs):∃ p cap,v = .slice p n cap:=by
  rcases h.2 with ⟨rfl,rfl⟩ | ⟨g,cap,cur,rfl,_⟩
  · exact ⟨_,_,rfl⟩
  · exact ⟨_,_,rfl⟩
end Go.Proofs.YtbkdappgmcebaaaDoor.Expr
end
section
namespace Go.Proofs.YtbkdappgmcebaaaDoor.Expr
open Go.RowKit Go.Proofs.YtbkdappgmcebaaaDoor.Mem Go.Lib
def partCells (p:List UInt8 × Nat):List Value:=[.string (str p.1),.int .i64 (p.2:Nat)]
def parts (st:List (List UInt8 × Nat)):List Value:=st.flatMap partCells
end Go.Proofs.YtbkdappgmcebaaaDoor.Expr
end
section
namespace Go.Proofs.YtbkdappgmcebaaaDoor.Expr
open Go.RowKit Go.Proofs.YtbkdappgmcebaaaDoor.Mem Go.Lib
theorem do_nil (F:FuncId) (f c:Array Value) (W:World):(binOp .neq 67 (.func (.func F) f c) .nilFunc).run Tryd.prog W = .ok (.bool true) W:=by
  have h:∀ d:Nat,(Op.equalIn (d+1) 67 (.func (.func F) f c) .nilFunc).run Tryd.prog W = .ok false W:=fun d=>by
    simp [Op.equalIn,run_underlying Tryd.underlying67]
  simp only [binOp]
  simp [Op.equal,Op.maxDepth,h 9999]
theorem walk1_enters:Enters 51:=enters_of Tryd.func51 (by kernel_rfl) rfl
theorem walk1_any (op:Nat) (w:World):Calls Tryd.prog 51 #[.int .u8 (op:Nat)] w fun e' w'=>e' = .returned (.tuple #[])/\w=w':=by
  go_enter Tryd.func51,Tryd.ntmps51
  go_wp2_with fail
  go_end0
  exact ⟨rfl,rfl⟩
theorem Walk_any {σ:Type} {F:FuncId} {f c:Array Value} {R:Ex->σ->σ} {I:σ->World->Prop} {B:σ->Ex->Prop}
    (T:Tells F 51 f c #[] #[] R I B) (hIb:∀ s w w',I s w->Below w.heap.size w w' -> I s w') (e:Ex) (s:σ) (v:Value) (w:World) (ho:e.ok) (hd:e.depth<=12) (hB:B s e) (hT:Tree w (treeOf e) v) (hI:I s w) :
    Calls Tryd.prog 33 #[v,.func (.func F) f c] w (Done (I (R e s)) w):=by
  have HW:=Lib.hid (walk_any T hIb e s v w ho hd hB hT hI)
  obtain ⟨p,rfl,_⟩:=hT.ptr
  clear hT hI hIb T hB
  generalize I (R e s)=J at HW ⊢
  have hn:=do_nil F f c
  go_enter Tryd.func33,Tryd.ntmps33
  go_wp2_with fail
  refine HW.out.mono ?_
  rintro e w1 ⟨rfl,hj,hs⟩
  have HJ:=Lib.hid hj
  have HS:=Lib.hid hs
  clear hj hs
  go_wp2_with fail
  go_end0
  exact ⟨rfl,HJ.out,HS.out⟩
end Go.Proofs.YtbkdappgmcebaaaDoor.Expr
end
section
namespace Go.Proofs.YtbkdappgmcebaaaDoor.Expr
open Go.RowKit Go.Proofs.YtbkdappgmcebaaaDoor.Mem Go.Lib
def at_ (g:Nat):Value:=.pointer (some ⟨g,0,none⟩)
end Go.Proofs.YtbkdappgmcebaaaDoor.Expr
end
