/- Part 6 of the proof: what is used of the texts ExprG, ExprH, ExprI, ExprJ, ExprK, ExprM, ExprN. -/
import Derived.Test.YtagebkachdmnbaaGreatDoorMA4
import Derived.Test.YtagebkachdmnbaaGreatDoorMA2
import Derived.Test.YtagebkachdmnbaaGreatDoorMA3
import Derived.Deep.RegionWith
import Derived.Deep.AppendLies
import Derived.Deep.DeepCutAuto
section
namespace Go.Proofs.YtagebkachdmnbaaGreatDoor.Expr
open Go.RowKit Go.Proofs.YtagebkachdmnbaaGreatDoor.Mem Go.Lib
def URow (w:World) (v:Value) (u:List Nat):Prop :=
  (u=[]/\∃ p cap,v = .slice p 0 cap) \/ ∃ g o cap,v = .slice (some ⟨g,o,none⟩) u.length cap/\u.length<=1000000/\∀ i a,u[i]? = some a->w.cell? ⟨g,o+i,none⟩=some (.int .u64 (a:Nat))
theorem URow.below {w w':World} {v:Value} {u:List Nat} (h:URow w v u) (hb:Below w.heap.size w w'):URow w' v u:=by
  rcases h with h | ⟨g,o,cap,hv,hl,h⟩
  · exact .inl h
  · exact .inr ⟨g,o,cap,hv,hl,fun i a ha=>(hb.cell (p:=⟨g,o+i,none⟩) (World.block_lt_of_cell? w _ (h i a ha))).trans (h i a ha)⟩
def oneI (op:Nat) (a:Int):Int:=Num.oneF op a
def twoI (op:Nat) (a b:Int):Int:=Num.doF op a b
def U64 (a:Int):Prop:=0<=a/\a<18446744073709551616
def Ex.value {κ:Type} (lf:κ->Ex->Int × κ) (e:Ex) (k:κ):Int × κ:=e.val oneI twoI lf k
theorem value_u64 {κ:Type} {lf:κ->Ex->Int × κ} (hlf:∀ k e,U64 (lf k e).1) (e:Ex) (he:e.ok) (k:κ):U64 (e.value lf k).1:=by
  unfold Ex.value
  induction e generalizing k with
  | num n=>have h:n<18446744073709551616:=he;exact ⟨by show (0:Int)<=(n:Int);omega,by show (n:Int)<18446744073709551616;omega⟩
  | one op a ih=>exact Num.oneF_bd _ _
  | two op a b iha ihb =>
    have h1:=iha he.2.2.1 k
    have h2:=ihb he.2.2.2 (a.val oneI twoI lf k).2
    exact Num.doF_bd _ _ _ h1.1 h1.2 h2.1 h2.2
  | _=>exact hlf _ _
section
variable (l : List It) (u : List Nat) (k n : Nat) (v uv : Value) (w : World)
end
end Go.Proofs.YtagebkachdmnbaaGreatDoor.Expr
end
section
namespace Go.Proofs.YtagebkachdmnbaaGreatDoor.Expr
open Go.RowKit Go.Proofs.YtagebkachdmnbaaGreatDoor.Mem Go.Lib
def Enters (F:FuncId):Prop:=∀ (args:Array Value) (W:World),(callFunc F args).run Tryz.prog W = .ok (.enter F args) W
def Done (I:World->Prop) (w:World) (e:Ending) (w':World):Prop:=e = .returned (.tuple #[])/\I w' /\ Stable 204 w w'
structure Tells {σ:Type} (F1 F2:FuncId) (f1 c1 f2 c2:Array Value) (R:Ex->σ->σ) (I:σ->World->Prop) (B:σ->Ex->Prop):Prop where
  e1:Enters F1
  e2:Enters F2
  leaf:∀ (e:Ex) (s:σ) (w:World),e.isLeaf=true->e.ok->B s e->I s w->Calls Tryz.prog F1 (f1.push (leafVal e) ++ c1) w (Done (I (R e s)) w)
  one:∀ (op:Nat) (a:Ex) (s:σ) (w:World),(op=13 \/ op=14)->a.ok->B s (.one op a)->I (R a s) w->Calls Tryz.prog F2 (f2.push (.int .u8 (op:Nat)) ++ c2) w (Done (I (R (.one op a) s)) w)
  two:∀ (op:Nat) (a b:Ex) (s:σ) (w:World),1<=op->op<=12->a.ok->b.ok->B s (.two op a b)->I (R b (R a s)) w->Calls Tryz.prog F2 (f2.push (.int .u8 (op:Nat)) ++ c2) w (Done (I (R (.two op a b) s)) w)
  inOne:∀ (op:Nat) (a:Ex) (s:σ),B s (.one op a)->B s a
  inTwo:∀ (op:Nat) (a b:Ex) (s:σ),B s (.two op a b)->B s a/\B (R a s) b
theorem leaf_tree {e:Ex} (he:e.isLeaf=true):treeOf e = .node (leafIt e) .nil .nil/\(leafIt e).kind<4:=by
  cases e with
  | one op a=>cases he
  | two op a b=>cases he
  | _=>exact ⟨rfl,by simp [leafIt]⟩
section
variable {σ : Type} {F1 F2 : FuncId} {f1 c1 f2 c2 : Array Value} {R : Ex → σ → σ} {I : σ → World → Prop} {B : σ → Ex → Prop}
theorem tell_leaf (T:Tells F1 F2 f1 c1 f2 c2 R I B) (e:Ex) (he:e.isLeaf=true) (ho:e.ok) (s:σ) (hB:B s e) (v:Value) (w:World) (hT:Tree w (treeOf e) v) (hI:I s w) :
    Calls Tryz.prog 223 #[v,.func (.func F1) f1 c1,.func (.func F2) f2 c2] w (Done (I (R e s)) w):=by
  obtain ⟨ht,hk⟩:=leaf_tree he
  rw [ht] at hT
  obtain ⟨g,lv,rv,rfl,hg,rfl,rfl⟩:=hT
  have H:=Lib.hid (T.leaf e s w he ho hB hI)
  unfold leafVal exprCells at H
  have e1:=T.e1
  unfold Enters at e1
  generalize I (R e s)=J at H ⊢
  generalize leafIt e=it at *
  obtain ⟨q,op,n,t,i,x⟩:=it
  obtain ⟨q0,q1,q2,q3,q4,q5,q6,q7⟩:=Sits.all8 hg
  simp only at q0 q1 q2 q3 q4 q5 hk
  have hlt:=hg.lt
  have i4:((q:Int) == 4)=false:=beq_eq_false_iff_ne.2 (by omega)
  have i5:((q:Int) == 5)=false:=beq_eq_false_iff_ne.2 (by omega)
  clear hg ht hI hB T ho he hk
  go_enter Tryz.func223,Tryz.ntmps223
  go_wp2_with fail
  refine H.out.mono ?_
  rintro e w1 ⟨rfl,hj,hs⟩
  have HJ:=Lib.hid hj
  have HS:=Lib.hid hs
  clear hj hs
  go_wp2_with fail
  go_end0
  exact ⟨rfl,HJ.out,HS.out⟩
theorem tell_one (e2:Enters F2) (op:Nat) (t:Tr) (v:Value) (w:World) (hT:Tree w (.node ⟨4,op,0,0,0,0⟩ t .nil) v) (J J2:World->Prop)
    (ih:∀ p,Tree w t p->Calls Tryz.prog 223 #[p,.func (.func F1) f1 c1,.func (.func F2) f2 c2] w (Done J w))
    (hop:∀ w1,J w1->Calls Tryz.prog F2 (f2.push (.int .u8 (op:Nat)) ++ c2) w1 (Done J2 w1)) :
    Calls Tryz.prog 223 #[v,.func (.func F1) f1 c1,.func (.func F2) f2 c2] w (Done J2 w):=by
  obtain ⟨g,lv,rv,rfl,hg,hl,rfl⟩:=hT
  obtain ⟨pl,rfl,_⟩:=hl.ptr
  have IH:=Lib.hid (ih _ hl)
  have HO:=Lib.hid hop
  have HG:=Lib.hid hg
  unfold Enters at e2
  obtain ⟨q0,q1,q2,q3,q4,q5,q6,q7⟩:=Sits.all8 hg
  simp only at q0 q1 q2 q3 q4 q5
  have hlt:=hg.lt
  clear hg hl ih hop
  go_enter Tryz.func223,Tryz.ntmps223
  go_wp2_with fail
  refine IH.out.mono ?_
  rintro e w1 ⟨rfl,hj,hs⟩
  have S1:=hs _ _ HG.out
  have r1:w1.cell? ⟨g,1,none⟩=some (.int .u8 op):=S1.cell 1
  have hlt1:=S1.lt
  have HJ:=Lib.hid hj
  have HS:=Lib.hid hs
  clear hj hs S1 q0 q1 q2 q3 q4 q5 q6 q7 hlt
  go_wp2_with fail
  refine (HO.out _ HJ.out).mono ?_
  rintro e w2 ⟨rfl,hj,hs⟩
  have HJ2:=Lib.hid hj
  have HS2:=Lib.hid (HS.out.trans hs)
  clear hj hs
  go_wp2_with fail
  go_end0
  exact ⟨rfl,HJ2.out,HS2.out⟩
theorem tell_two (e2:Enters F2) (op:Nat) (t u:Tr) (v:Value) (w:World) (hT:Tree w (.node ⟨5,op,0,0,0,0⟩ t u) v) (J J1 J2:World->Prop)
    (ih:∀ p,Tree w t p->Calls Tryz.prog 223 #[p,.func (.func F1) f1 c1,.func (.func F2) f2 c2] w (Done J w))
    (ih2:∀ p w1,J w1->Tree w1 u p->Calls Tryz.prog 223 #[p,.func (.func F1) f1 c1,.func (.func F2) f2 c2] w1 (Done J1 w1))
    (hop:∀ w1,J1 w1->Calls Tryz.prog F2 (f2.push (.int .u8 (op:Nat)) ++ c2) w1 (Done J2 w1)) :
    Calls Tryz.prog 223 #[v,.func (.func F1) f1 c1,.func (.func F2) f2 c2] w (Done J2 w):=by
  obtain ⟨g,lv,rv,rfl,hg,hl,hr⟩:=hT
  obtain ⟨pl,rfl,_⟩:=hl.ptr
  obtain ⟨pr,rfl,_⟩:=hr.ptr
  have IH:=Lib.hid (ih _ hl)
  have IH2:=Lib.hid (fun w1 (hj:J w1) (hs:Stable 204 w w1)=>ih2 _ w1 hj (hr.stable hs))
  have HO:=Lib.hid hop
  have HG:=Lib.hid hg
  unfold Enters at e2
  obtain ⟨q0,q1,q2,q3,q4,q5,q6,q7⟩:=Sits.all8 hg
  simp only at q0 q1 q2 q3 q4 q5
  have hlt:=hg.lt
  clear hg hl hr ih ih2 hop
  go_enter Tryz.func223,Tryz.ntmps223
  go_wp2_with fail
  refine IH.out.mono ?_
  rintro e w1 ⟨rfl,hj,hs⟩
  have S1:=hs _ _ HG.out
  have r7:w1.cell? ⟨g,7,none⟩=some (.pointer pr):=S1.cell 7
  have hlt1:=S1.lt
  have HS1:=Lib.hid S1
  have HJ:=Lib.hid hj
  have HS:=Lib.hid hs
  clear hj hs S1 q0 q1 q2 q3 q4 q5 q6 q7 hlt
  go_wp2_with fail
  refine (IH2.out _ HJ.out HS.out).mono ?_
  rintro e w2 ⟨rfl,hj,hs⟩
  have S2:=hs _ _ HS1.out
  have r1:w2.cell? ⟨g,1,none⟩=some (.int .u8 op):=S2.cell 1
  have hlt2:=S2.lt
  have HJ2:=Lib.hid hj
  have HS2:=Lib.hid (HS.out.trans hs)
  clear hj hs S2 r7 hlt1
  go_wp2_with fail
  refine (HO.out _ HJ2.out).mono ?_
  rintro e w3 ⟨rfl,hj,hs⟩
  have HJ3:=Lib.hid hj
  have HS3:=Lib.hid (HS2.out.trans hs)
  clear hj hs
  go_wp2_with fail
  go_end0
  exact ⟨rfl,HJ3.out,HS3.out⟩
theorem tell_any (T:Tells F1 F2 f1 c1 f2 c2 R I B) (e:Ex):∀ (s:σ) (v:Value) (w:World),e.ok->B s e->Tree w (treeOf e) v->I s w ->
    Calls Tryz.prog 223 #[v,.func (.func F1) f1 c1,.func (.func F2) f2 c2] w (Done (I (R e s)) w):=by
  induction e with
  | one op a ih =>
    intro s v w ho hB hT hI
    exact tell_one T.e2 op (treeOf a) v w hT _ _ (fun p hp=>ih s p w ho.2 (T.inOne op a s hB) hp hI) fun w1 h1=>T.one op a s w1 ho.1 ho.2 hB h1
  | two op a b iha ihb =>
    intro s v w ho hB hT hI
    obtain ⟨ba,bb⟩:=T.inTwo op a b s hB
    exact tell_two T.e2 op (treeOf a) (treeOf b) v w hT _ _ _ (fun p hp=>iha s p w ho.2.2.1 ba hp hI) (fun p w1 h1 hp=>ihb _ p w1 ho.2.2.2 bb hp h1) fun w1 h1=>T.two op a b s w1 ho.1 ho.2.1 ho.2.2.1 ho.2.2.2 hB h1
  | num n=>intro s v w ho hB hT hI;exact tell_leaf T _ rfl ho s hB v w hT hI
  | reg n=>intro s v w ho hB hT hI;exact tell_leaf T _ rfl ho s hB v w hT hI
  | of n m=>intro s v w ho hB hT hI;exact tell_leaf T _ rfl ho s hB v w hT hI
  | loc n=>intro s v w ho hB hT hI;exact tell_leaf T _ rfl ho s hB v w hT hI
theorem walk_not (t:Tr) (x y v:Value) (w:World) (hT:Tree w t v) (hf:fitsF t 12=false):Calls Tryz.prog 165 #[v,x,y] w fun e w'=>Made (.returned (.tuple #[])) w e w':=by
  have HM:=may_any t v w hT
  rw [hf] at HM
  have HH:=Lib.hid HM
  obtain ⟨p,rfl,_⟩:=hT.ptr
  clear HM hT hf
  go_enter Tryz.func165,Tryz.ntmps165
  go_wp2_with fail
  refine HH.out.mono ?_
  rintro e w1 ⟨rfl,hb⟩
  have HB:=Lib.hid hb;clear hb
  go_wp2_with fail
  go_end0
  exact ⟨rfl,HB.out⟩
theorem walk_any (T:Tells F1 F2 f1 c1 f2 c2 R I B) (hIb:∀ s w w',I s w->Below w.heap.size w w' -> I s w') (e:Ex) (s:σ) (v:Value) (w:World) (ho:e.ok) (hd:e.depth<=12) (hB:B s e) (hT:Tree w (treeOf e) v) (hI:I s w) :
    Calls Tryz.prog 165 #[v,.func (.func F1) f1 c1,.func (.func F2) f2 c2] w (Done (I (R e s)) w):=by
  have HM:=may_any _ v w hT
  rw [fits_of e ho 12 hd] at HM
  have HH:=Lib.hid HM
  have IH:=Lib.hid (fun w1 (hb:Below w.heap.size w w1)=>tell_any T e s v w1 ho hB (hT.below hb) (hIb s w w1 hI hb))
  obtain ⟨p,rfl,_⟩:=hT.ptr
  clear HM hT hI hIb T hB
  generalize I (R e s)=J at IH ⊢
  go_enter Tryz.func165,Tryz.ntmps165
  go_wp2_with fail
  refine HH.out.mono ?_
  rintro e w1 ⟨rfl,hb⟩
  have HB:=Lib.hid hb;clear hb
  go_wp2_with fail
  refine (IH.out _ HB.out).mono ?_
  rintro e w2 ⟨rfl,hj,hs⟩
  have HJ:=Lib.hid hj
  have HS:=Lib.hid ((Stable.below (t:=204) HB.out).trans hs)
  clear hj hs
  go_wp2_with fail
  go_end0
  exact ⟨rfl,HJ.out,HS.out⟩
end
end Go.Proofs.YtagebkachdmnbaaGreatDoor.Expr
end
section
namespace Go.Proofs.YtagebkachdmnbaaGreatDoor.Expr
open Go.RowKit Go.Proofs.YtagebkachdmnbaaGreatDoor.Mem Go.Lib
structure Fr (B:Nat) (ts:List TypeId) (w w':World):Prop where
  low:Below B w w'
  by_:∀ t,t ∉ ts->Stable t w w'
section
variable {B : Nat} {ts us : List TypeId} {w w' w'' : World}
theorem Fr.refl (B:Nat) (ts:List TypeId) (w:World):Fr B ts w w:=⟨Below.refl _ _,fun _ _=>Stable.refl _ _⟩
theorem Fr.trans (h:Fr B ts w w') (k:Fr B ts w' w''):Fr B ts w w'':=⟨h.low.trans k.low,fun t ht=>(h.by_ t ht).trans (k.by_ t ht)⟩
theorem Fr.wider (h:Fr B ts w w') (hu:∀ t,t ∈ ts->t ∈ us):Fr B us w w':=⟨h.low,fun t ht=>h.by_ t (fun h'=>ht (hu t h'))⟩
theorem Fr.below (h:Below w.heap.size w w') (hB:B<=w.heap.size):Fr B ts w w':=⟨h.mono hB,fun _ _=>Stable.below h⟩
theorem Fr.drewn (B:Nat) (ts:List TypeId) (w:World):Fr B ts w w.drew:=⟨(Below.refl _ _).drew,fun _ _ _ _ hs=>hs.drew⟩
theorem Fr.size (h:Fr B ts w w'):w.heap.size<=w'.heap.size:=h.low.size
end
theorem own_stable {w w':World} {base:Nat} {e:TypeId} {size n:Nat} {v:Value} {xs:List Value} (h:w.ownsRow base e size v n xs) (hs:Stable e w w'):w'.ownsRow base e size v n xs:=by
  refine ⟨h.1,?_⟩
  rcases h.2 with h2 | ⟨g,cap,cur,rfl,hb,hh,r⟩
  · exact .inl h2
  · exact .inr ⟨g,cap,cur,rfl,hb,hs g cur hh,r⟩
theorem own_far {w:World} {base:Nat} {e t:TypeId} {size n g:Nat} {v:Value} {xs:List Value} {cs:Array Value} (h:w.ownsRow base e size v n xs) (hg:Sits w g t cs) (hne:e≠t):v.ownBlock≠some g:=by
  rcases h.2 with ⟨rfl,_⟩ | ⟨g',cap,cur,rfl,_,hh,_⟩
  · simp [Value.ownBlock]
  · intro he
    have:g' = g:=by simpa [Value.ownBlock] using he
    subst this
    exact Sits.differ (t:=e) hh hg hne rfl
theorem own_slice {w:World} {base:Nat} {e:TypeId} {size n:Nat} {v:Value} {xs:List Value} (h:w.ownsRow base e size v n xs):∃ p cap,v = .slice p n cap:=by
  rcases h.2 with ⟨rfl,rfl⟩ | ⟨g,cap,cur,rfl,_⟩
  · exact ⟨_,_,rfl⟩
  · exact ⟨_,_,rfl⟩
theorem own_last {w:World} {base:Nat} {e:TypeId} {size n:Nat} {v:Value} {xs ys:List Value} (h:w.ownsRow base e size v (n+1) (xs ++ ys)) (hx:xs.length=n * size) :
    ∃ g cap,v = .slice (some ⟨g,0,none⟩) (n+1) cap/\n+1<=cap/\cap<=maxLen/\g<w.heap.size/\(∀ j u,ys[j]? = some u->w.cell? ⟨g,n * size+j,none⟩=some u)/\w.ownsRow base e size (.slice (some ⟨g,0,none⟩) n cap) n xs:=by
  have h':=h
  rcases h.2 with ⟨_,h0⟩ | ⟨g,cap,cur,rfl,hb,hh,hc,hm,hcs,ht⟩
  · omega
  · refine ⟨g,cap,rfl,hc,hm,lt_of_block hh,fun j u hu=>?_,hx,.inr ⟨g,cap,cur,rfl,hb,hh,by omega,hm,hcs,?_⟩⟩
    · have:=h'.cells (g:=g) rfl (n * size+j) u (by rw [List.getElem?_append_right (by omega),hx];rw [Nat.add_sub_cancel_left];exact hu)
      rwa [Addr.add_lit,Nat.zero_add] at this
    · have e1:(cur.toList.take ((n+1) * size)).take (n * size)=cur.toList.take (n * size):=by
        rw [List.take_take,Nat.min_eq_left (Nat.mul_le_mul_right _ (Nat.le_succ n))]
      rw [<- e1,ht,<- hx,List.take_left']
      rfl
theorem grown_stable {w w':World} {base:Nat} {e t:TypeId} {size n:Nat} {v:Value} {xs:List Value} (h:w.ownsRow base e size v n xs) (hg:w.grownBy w' v.ownBlock) (hne:e≠t):Stable t w w' :=
  fun _ _ hs=>hs.grown hg (own_far h hs hne)
def VStk (B g:Nat) (w:World) (st:List Int):Prop:=∃ v,Sits w g 269 #[v]/\B<=g/\w.ownsRow B 49 1 v st.length (st.map (Value.int .u64))
def vts:List TypeId:=[269,49]
theorem VStk.keep {B C g:Nat} {w w':World} {st:List Int} {ts:List TypeId} (h:VStk B g w st) (hf:Fr C ts w w') (h1:269 ∉ ts) (h2:49 ∉ ts):VStk B g w' st:=by
  obtain ⟨v,hs,hB,ho⟩:=h
  exact ⟨v,hf.by_ _ h1 _ _ hs,hB,own_stable ho (hf.by_ _ h2)⟩
theorem VStk.drew {B g:Nat} {w:World} {st:List Int} (h:VStk B g w st):VStk B g w.drew st:=h.keep (Fr.drewn B [] w) (by simp) (by simp)
theorem u64Info:(Tryz.prog.info? 49).map (fun i=>(i.zero,i.size,i.bytes))=some (some (.int .u64 0),1,8):=by kernel_rfl
def Pushed (B g:Nat) (st:List Int) (w:World) (e:Ending) (w':World):Prop:=e = .returned (.tuple #[])/\VStk B g w' st/\Fr B vts w w'
set_option maxRecDepth 100000 in
set_option maxHeartbeats 1000000 in
theorem push_u64 (B g:Nat) (st:List Int) (x:Int) (w:World) (hB:B<=w.heap.size) (hl:st.length<=1000) (h:VStk B g w st) :
    Calls Tryz.prog 167 #[.pointer (some ⟨g,0,none⟩),.int .u64 x] w (Pushed B g (st ++ [x]) w):=by
  obtain ⟨i0,hi,hz0,hz1,hz2⟩:=info_parts u64Info
  obtain ⟨v,hs,hBg,ho⟩:=h
  have c0:w.cell? ⟨g,0,none⟩=some v:=hs.cell 0
  have hlt:=hs.lt
  have HS:=Lib.hid hs
  clear hs
  go_enter Tryz.func167,Tryz.ntmps167
  go_wp2_with (at_builtin;refine wpList_append_own _ rfl (.tmp 8) (.tmp 10) 27 rfl B 49 i0 _ 1 8 Tryz.underlying27 hi hz0 hz1 hz2 rfl (by decide) v st.length (st.map (Value.int .u64)) rfl (ho.alloc _) ⟨w.heap.size,0,none⟩ 1 1 [.int .u64 x] rfl rfl ?c1 ?c2 ?c3 ?c4 ?c5 ?_)
  case c1 =>
    intro j u hu
    have:=(Sits.new w 49 #[.int .u64 x]).cell j
    rw [Addr.add_lit,Nat.zero_add,this]
    simpa using hu
  case c2=>intro u hu;simp only [List.mem_singleton] at hu;subst hu;rfl
  case c3=>unfold maxLen;omega
  case c4=>omega
  case c5=>simp;omega
  intro v' w1 own' grow _
  have S1:=(HS.out.alloc (.cells #[.int .u64 x] 49)).grown grow (own_far ho HS.out (by decide))
  have c1:w1.cell? ⟨g,0,none⟩=some v:=S1.cell 0
  have f1:=S1.free 0
  have hlt1:=S1.lt
  have S2:=Lib.hid (S1.put 0 v')
  have HS1:=Lib.hid S1
  have HF:Hid (Fr B vts w w1):=Lib.hid ⟨((Below.refl B w).alloc hB _).grown grow (by simp;omega) (fun k hk=>(ho.lt k hk).1),fun t ht=>(Stable.below ((Below.refl _ w).alloc (Nat.le_refl _) _)).trans (grown_stable (ho.alloc _) grow (fun e=>ht (by rw [<- e];decide)))⟩
  have HO:=Lib.hid own'
  obtain ⟨p,cap,rfl⟩:=own_slice own'
  clear own' grow S1 c0 hlt
  go_wp2_with fail
  go_end0
  exact ⟨rfl,⟨_,S2.out,hBg,by rw [List.length_append,List.map_append];exact own_stable HO.out (Stable.put HS1.out (by decide) 0 _)⟩,HF.out.trans ⟨(Below.refl _ _).setCell hBg _,fun t ht=>Stable.put HS1.out (fun e=>ht (by rw [e];decide)) 0 _⟩⟩
def Popped (B g:Nat) (x:Int) (st:List Int) (w:World) (e:Ending) (w':World):Prop:=e = .returned (.int .u64 x)/\VStk B g w' st/\Fr B vts w w'
theorem pop_none (B g:Nat) (w:World) (h:VStk B g w []):Calls Tryz.prog 169 #[.pointer (some ⟨g,0,none⟩)] w (Popped B g 0 [] w):=by
  obtain ⟨v,hs,hBg,ho⟩:=h
  have HV:=Lib.hid (show VStk B g w [] from ⟨v,hs,hBg,ho⟩)
  obtain ⟨p,cap,rfl⟩:=own_slice ho
  have c0:w.cell? ⟨g,0,none⟩=some (.slice p 0 cap):=hs.cell 0
  have hlt:=hs.lt
  clear hs ho
  go_enter Tryz.func169,Tryz.ntmps169
  go_wp2_with fail
  go_ret
  exact ⟨rfl,HV.out,Fr.refl _ _ _⟩
set_option maxRecDepth 100000 in
theorem pop_u64 (B g:Nat) (st:List Int) (x:Int) (w:World) (hl:st.length<=1000) (h:VStk B g w (st ++ [x])) :
    Calls Tryz.prog 169 #[.pointer (some ⟨g,0,none⟩)] w (Popped B g x st w):=by
  obtain ⟨v,hs,hBg,ho⟩:=h
  rw [List.length_append,List.map_append] at ho
  obtain ⟨g1,cap,rfl,hc1,hc2,hlt1,hcell,ho2⟩:=own_last (ys:=[Value.int .u64 x]) ho (by simp)
  have c0:w.cell? ⟨g,0,none⟩=some (.slice (some ⟨g1,0,none⟩) (st.length+1) cap):=hs.cell 0
  have f0:=hs.free 0
  have hlt:=hs.lt
  have cx:w.cell? ⟨g1,st.length,none⟩=some (.int .u64 x):=by have:=hcell 0 _ rfl;simpa using this
  have hne:g1≠g:=fun e=>own_far ho hs (by decide) (by rw [e];rfl)
  have HS:=Lib.hid hs
  have HO:=Lib.hid ho2
  have S2:=Lib.hid (hs.put 0 (.slice (some ⟨g1,0,none⟩) st.length cap))
  have i1:(0:Int)<=(st.length:Int):=by omega
  have i2:(st.length:Int)<=1000:=by omega
  have i3:(st.length:Int)+1<=cap:=by omega
  unfold maxLen at hc2
  clear hs ho ho2 hcell
  go_enter Tryz.func169,Tryz.ntmps169
  go_wp2_with fail
  go_region
  all_goals
    go_wp2_with fail
    go_ret
    exact ⟨rfl,⟨_,S2.out.drew,hBg,own_stable HO.out (fun g' cs hs=>(Stable.put HS.out (t:=49) (by decide) 0 _ g' cs hs).drew)⟩,⟨((Below.refl _ _).setCell hBg _).drew,fun t ht g' cs hs=>(Stable.put HS.out (fun e=>ht (by rw [e];decide)) 0 _ g' cs hs).drew⟩⟩
set_option maxRecDepth 100000 in
set_option maxHeartbeats 1000000 in
theorem join_one (B g op:Nat) (st:List Int) (a:Int) (w:World) (hB:B<=w.heap.size) (hl:st.length<=1000) (hop:sides op=1) (h:VStk B g w (st ++ [a])) :
    Calls Tryz.prog 168 #[.pointer (some ⟨g,0,none⟩),.int .u8 (op:Nat)] w (Pushed B g (st ++ [oneI op a]) w):=by
  have HO:=Lib.hid hop
  have HP:=Lib.hid (fun W (hf:Fr B vts w W) (hv:VStk B g W (st ++ [a]))=>pop_u64 B g st a W hl hv)
  have HU:=Lib.hid (fun W (hf:Fr B vts w W) (hv:VStk B g W st)=>push_u64 B g st (oneI op a) W (Nat.le_trans hB hf.size) hl hv)
  have HV:=Lib.hid h
  obtain ⟨v,hs,_⟩:=h
  have hlt:=hs.lt
  clear hop hs
  go_enter Tryz.func168,Tryz.ntmps168
  go_wp2_with (go_at_call 224;refine (sides_nat _ _).mono ?_;rw [HO.out];rintro e w' ⟨rfl,rfl⟩)
  go_region_with (first
    | (go_at_call 169;refine (HP.out _ (Fr.drewn _ _ _) HV.out.drew).mono ?_;rintro e w1 ⟨rfl,hv1,hf1⟩;have HV1:=Lib.hid hv1;have HF1:=Lib.hid ((Fr.drewn _ _ _).trans hf1);clear hv1 hf1)
    | (go_at_call 225;refine (Num.one_any op a _).mono ?_;rintro e w' ⟨rfl,rfl⟩)
    | (go_at_call 167;refine (HU.out _ HF1.out HV1.out).mono ?_;rintro e w2 ⟨rfl,hv2,hf2⟩;have HV2:=Lib.hid hv2;have HF2:=Lib.hid (HF1.out.trans hf2);clear hv2 hf2))
  all_goals
    go_wp2_with fail
    go_end0
    exact ⟨rfl,HV2.out,HF2.out⟩
set_option maxRecDepth 100000 in
set_option maxHeartbeats 1000000 in
theorem join_two (B g op:Nat) (st:List Int) (a b:Int) (w:World) (hB:B<=w.heap.size) (hl:st.length<=900) (hop:sides op=2) (ha:U64 a) (hb:U64 b) (h:VStk B g w (st ++ [a] ++ [b])) :
    Calls Tryz.prog 168 #[.pointer (some ⟨g,0,none⟩),.int .u8 (op:Nat)] w (Pushed B g (st ++ [twoI op a b]) w):=by
  have HO:=Lib.hid hop
  have HP1:=Lib.hid (fun W (hv:VStk B g W (st ++ [a] ++ [b]))=>pop_u64 B g (st ++ [a]) b W (by simp;omega) hv)
  have HP2:=Lib.hid (fun W (hv:VStk B g W (st ++ [a]))=>pop_u64 B g st a W (by omega) hv)
  have HU:=Lib.hid (fun W (hf:Fr B vts w W) (hv:VStk B g W st)=>push_u64 B g st (twoI op a b) W (Nat.le_trans hB hf.size) (by omega) hv)
  have HD:=Lib.hid (fun W=>Num.do_any op a b ha.1 ha.2 hb.1 W)
  have HV:=Lib.hid h
  obtain ⟨v,hs,_⟩:=h
  have hlt:=hs.lt
  clear hop hs ha hb
  go_enter Tryz.func168,Tryz.ntmps168
  go_wp2_with (go_at_call 224;refine (sides_nat _ _).mono ?_;rw [HO.out];rintro e w' ⟨rfl,rfl⟩)
  go_region_with (first
    | (go_at_call 169;refine (HP1.out _ HV.out.drew).mono ?_;rintro e w1 ⟨rfl,hv1,hf1⟩;have HV1:=Lib.hid hv1;have HF1:=Lib.hid ((Fr.drewn B vts w).trans hf1);clear hv1 hf1 HV)
    | (go_at_call 169;refine (HP2.out _ HV1.out).mono ?_;rintro e w2 ⟨rfl,hv2,hf2⟩;have HV2:=Lib.hid hv2;have HF2:=Lib.hid (HF1.out.trans hf2);clear hv2 hf2 HV1 HF1))
  all_goals
    have hlt2:g<w2.heap.size:=Nat.lt_of_lt_of_le hlt HF2.out.size
    clear hlt HP1 HP2
    go_wp2_with fail
    go_region_with (first
      | (go_at_call 54;refine (HD.out _).mono ?_;rintro e w' ⟨rfl,rfl⟩)
      | (go_at_call 167;refine (HU.out _ (HF2.out.trans (Fr.drewn _ _ _)) HV2.out.drew).mono ?_;rintro e w3 ⟨rfl,hv3,hf3⟩;have HV3:=Lib.hid hv3;have HF3:=Lib.hid ((HF2.out.trans (Fr.drewn _ _ _)).trans hf3);clear hv3 hf3))
    all_goals
      go_wp2_with fail
      go_end0
      exact ⟨rfl,HV3.out,HF3.out⟩
end Go.Proofs.YtagebkachdmnbaaGreatDoor.Expr
end
section
namespace Go.Proofs.YtagebkachdmnbaaGreatDoor.Expr
open Go.RowKit Go.Proofs.YtagebkachdmnbaaGreatDoor.Mem Go.Lib
theorem fn_nil (F:FuncId) (f c:Array Value) (W:World):(binOp .eql 205 (.func (.func F) f c) .nilFunc).run Tryz.prog W = .ok (.bool false) W:=by
  have h:∀ d:Nat,(Op.equalIn (d+1) 205 (.func (.func F) f c) .nilFunc).run Tryz.prog W = .ok false W:=fun d=>by
    simp [Op.equalIn,run_underlying Tryz.underlying205]
  simp only [binOp]
  simp [Op.equal,Op.maxDepth,h 9999]
structure Leafs {κ:Type} (F:FuncId) (f c:Array Value) (B:Nat) (tl:List TypeId) (J:κ->World->Prop) (lf:κ->Ex->Int × κ) (lim:κ->Ex->Prop):Prop where
  enters:Enters F
  keep:∀ k w w',J k w->Fr B vts w w' -> J k w'
  call:∀ (e:Ex) (k:κ) (w:World),e.isLeaf=true->e.ok->lim k e->B<=w.heap.size->J k w->Calls Tryz.prog F (f.push (leafVal e) ++ c) w fun e' w'=>e' = .returned (.int .u64 (lf k e).1)/\J (lf k e).2 w' /\ Fr B tl w w'
  u64:∀ k e,U64 (lf k e).1
  inOne:∀ (op:Nat) (a:Ex) (k:κ),lim k (.one op a)->lim k a
  inTwo:∀ (op:Nat) (a b:Ex) (k:κ),lim k (.two op a b)->lim k a/\lim (a.value lf k).2 b
  aE:204 ∉ tl
  aV:269 ∉ tl
  aU:49 ∉ tl
  aF:205 ∉ tl
structure Reck {κ:Type} (F:FuncId) (f c:Array Value) (B:Nat) (tl:List TypeId) (J:κ->World->Prop) (g gl:Nat) (w0:World) (s:List Int × κ) (w:World):Prop where
  stk:VStk B g w s.1
  j:J s.2 w
  box:Sits w gl 205 #[.func (.func F) f c]
  fr:Fr B (tl ++ vts) w0 w
  size:B<=w.heap.size
section
variable {κ : Type} {F : FuncId} {f c : Array Value} {B : Nat} {tl : List TypeId} {J : κ → World → Prop} {lf : κ → Ex → Int × κ} {lim : κ → Ex → Prop} {g gl : Nat} {w0 w w' : World} {st st' : List Int} {k : κ}
theorem Reck.stacked (L:Leafs F f c B tl J lf lim) (h:Reck F f c B tl J g gl w0 (st,k) w) (hs:VStk B g w' st') (hf:Fr B vts w w'):Reck F f c B tl J g gl w0 (st',k) w' :=
  ⟨hs,L.keep _ _ _ h.j hf,hf.by_ _ (by decide) _ _ h.box,h.fr.trans (hf.wider fun _ ht=>List.mem_append_right _ ht),Nat.le_trans h.size hf.size⟩
theorem Reck.grown (L:Leafs F f c B tl J lf lim) (h:Reck F f c B tl J g gl w0 (st,k) w) (hb:Below w.heap.size w w'):Reck F f c B tl J g gl w0 (st,k) w' :=
  h.stacked L (h.stk.keep (Fr.below (ts:=[]) hb h.size) (by simp) (by simp)) (Fr.below hb h.size)
theorem Reck.told (L:Leafs F f c B tl J lf lim) (h:Reck F f c B tl J g gl w0 (st,k) w) {k':κ} (hj:J k' w') (hf:Fr B tl w w'):Reck F f c B tl J g gl w0 (st,k') w' :=
  ⟨h.stk.keep hf L.aV L.aU,hj,hf.by_ _ L.aF _ _ h.box,h.fr.trans (hf.wider fun _ ht=>List.mem_append_left _ ht),Nat.le_trans h.size hf.size⟩
def reckR (lf:κ->Ex->Int × κ) (e:Ex) (s:List Int × κ):List Int × κ:=(s.1 ++ [(e.value lf s.2).1],(e.value lf s.2).2)
set_option maxRecDepth 100000 in
theorem eval1_num (L:Leafs F f c B tl J lf lim) (n:Nat) (s:List Int × κ) (hl:s.1.length<=900) (w:World) (h:Reck F f c B tl J g gl w0 s w) :
    Calls Tryz.prog 166 #[leafVal (.num n),.pointer (some ⟨g,0,none⟩),.pointer (some ⟨gl,0,none⟩)] w (Done (Reck F f c B tl J g gl w0 (reckR lf (.num n) s)) w):=by
  obtain ⟨st,k⟩:=s
  have hb:∀ o,Below w.heap.size w (w.alloc o):=fun o=>(Below.refl _ _).alloc (Nat.le_refl _) o
  have H1:=Lib.hid (fun o=>h.grown L (hb o))
  have HU:=Lib.hid (fun W (hW:Reck F f c B tl J g gl w0 (st,k) W)=>(push_u64 B g st (n:Int) W hW.size (by simp only at hl;omega) hW.stk).mono fun e' w' (hp:Pushed B g (st ++ [(n:Int)]) W e' w')=>(show e' = .returned (.tuple #[])/\Reck F f c B tl J g gl w0 (st ++ [(n:Int)],k) w' /\ Stable 204 W w' from ⟨hp.1,hW.stacked L hp.2.1 hp.2.2,hp.2.2.by_ _ (by decide)⟩))
  have hlt:g<w.heap.size:=by obtain ⟨v,hs,_⟩:=h.stk;exact hs.lt
  have er:reckR lf (.num n) (st,k)=(st ++ [(n:Int)],k):=rfl
  rw [er]
  have hltl:=h.box.lt
  clear h er hb
  show Calls _ _ #[.agg #[.int .u8 0,.int .u8 0,.int .u64 n,.int .u8 0,.int .u8 0,.int .u8 0,.pointer none,.pointer none],_,_] _ _
  go_enter Tryz.func166,Tryz.ntmps166
  go_wp2_with fail
  refine (HU.out _ (H1.out _)).mono ?_
  rintro e w1 ⟨rfl,hr,hs⟩
  have HR:=Lib.hid hr
  have HS:=Lib.hid ((Stable.below (t:=204) ((Below.refl _ w).alloc (Nat.le_refl _) (.cells #[.int .u8 0,.int .u8 0,.int .u64 n,.int .u8 0,.int .u8 0,.int .u8 0,.pointer none,.pointer none] 204))).trans hs)
  clear hr hs
  go_wp2_with fail
  go_end0
  exact ⟨rfl,HR.out,HS.out⟩
set_option maxRecDepth 100000 in
set_option maxHeartbeats 1000000 in
theorem eval1_leaf (L:Leafs F f c B tl J lf lim) (e:Ex) (hle:e.isLeaf=true) (hne:∀ n,e ≠ .num n) (ho:e.ok) (s:List Int × κ) (hl:s.1.length<=900) (hlim:lim s.2 e) (w:World) (h:Reck F f c B tl J g gl w0 s w) :
    Calls Tryz.prog 166 #[leafVal e,.pointer (some ⟨g,0,none⟩),.pointer (some ⟨gl,0,none⟩)] w (Done (Reck F f c B tl J g gl w0 (reckR lf e s)) w):=by
  obtain ⟨st,k⟩:=s
  have er:reckR lf e (st,k)=(st ++ [(lf k e).1],(lf k e).2):=by
    cases e with
    | num n=>exact absurd rfl (hne n)
    | one op a=>cases hle
    | two op a b=>cases hle
    | _=>rfl
  rw [er]
  have hk0:(leafIt e).kind<4/\(leafIt e).kind≠0:=by
    cases e with
    | num n=>exact absurd rfl (hne n)
    | one op a=>cases hle
    | two op a b=>cases hle
    | _=>exact ⟨by simp [leafIt],by simp [leafIt]⟩
  have hb:∀ o,Below w.heap.size w (w.alloc o):=fun o=>(Below.refl _ _).alloc (Nat.le_refl _) o
  have H1:=Lib.hid (fun o=>h.grown L (hb o))
  have HC:=Lib.hid (fun W (hW:Reck F f c B tl J g gl w0 (st,k) W)=>(L.call e k W hle ho hlim hW.size hW.j).mono fun e' w' hp=>(show e' = .returned (.int .u64 (lf k e).1)/\Reck F f c B tl J g gl w0 (st,(lf k e).2) w' /\ Stable 204 W w' from ⟨hp.1,hW.told L hp.2.1 hp.2.2,hp.2.2.by_ _ L.aE⟩))
  have HU:=Lib.hid (fun W (hW:Reck F f c B tl J g gl w0 (st,(lf k e).2) W)=>(push_u64 B g st (lf k e).1 W hW.size (by simp only at hl;omega) hW.stk).mono fun e' w' (hp:Pushed B g (st ++ [(lf k e).1]) W e' w')=>(show e' = .returned (.tuple #[])/\Reck F f c B tl J g gl w0 (st ++ [(lf k e).1],(lf k e).2) w' /\ Stable 204 W w' from ⟨hp.1,hW.stacked L hp.2.1 hp.2.2,hp.2.2.by_ _ (by decide)⟩))
  have hlt:g<w.heap.size:=by obtain ⟨v,hs,_⟩:=h.stk;exact hs.lt
  have hltl:=h.box.lt
  have cb:w.cell? ⟨gl,0,none⟩=some (.func (.func F) f c):=h.box.cell 0
  have en:=L.enters
  unfold Enters at en
  unfold leafVal exprCells at HC ⊢
  generalize (lf k e).1=z at HC HU ⊢
  generalize (lf k e).2=k2 at HC HU ⊢
  generalize leafIt e=it at HC hk0 ⊢
  obtain ⟨q,op,n,t,i,x⟩:=it
  simp only at hk0 HC ⊢
  have i0:((q:Int) == 0)=false:=beq_eq_false_iff_ne.2 (by omega)
  clear h er hb L hne hle ho hk0 hlim
  go_enter Tryz.func166,Tryz.ntmps166
  have hn:=fn_nil F f c
  go_wp2_with fail
  refine (HC.out _ (H1.out _)).mono ?_
  rintro e w1 ⟨rfl,hr,hs⟩
  have HR:=Lib.hid hr
  have HS:=Lib.hid ((Stable.below (t:=204) ((Below.refl _ w).alloc (Nat.le_refl _) (.cells #[.int .u8 q,.int .u8 op,.int .u64 n,.int .u8 t,.int .u8 i,.int .u8 x,.pointer none,.pointer none] 204))).trans hs)
  clear hr hs
  go_wp2_with fail
  refine (HU.out _ HR.out).mono ?_
  rintro e w2 ⟨rfl,hr,hs⟩
  have HR2:=Lib.hid hr
  have HS2:=Lib.hid (HS.out.trans hs)
  clear hr hs
  go_wp2_with fail
  go_end0
  exact ⟨rfl,HR2.out,HS2.out⟩
theorem eval1_enters:Enters 166:=enters_of Tryz.func166 (by kernel_rfl) rfl
theorem vjoin_enters:Enters 168:=enters_of Tryz.func168 (by kernel_rfl) rfl
theorem eval_tells (L:Leafs F f c B tl J lf lim):Tells (σ:=List Int × κ) 166 168 #[] #[.pointer (some ⟨g,0,none⟩),.pointer (some ⟨gl,0,none⟩)] #[.pointer (some ⟨g,0,none⟩)] #[] (reckR lf)
    (Reck F f c B tl J g gl w0) (fun s e=>s.1.length+e.depth<=100/\lim s.2 e) where
  e1:=eval1_enters
  e2:=vjoin_enters
  leaf:=fun e s w hle ho hb h=>by
    have hl:s.1.length<=900:=by omega
    cases e with
    | num n=>exact eval1_num L n s hl w h
    | one op a=>cases hle
    | two op a b=>cases hle
    | reg i=>exact eval1_leaf L _ rfl (fun n=>by simp) ho s hl hb.2 w h
    | of t i=>exact eval1_leaf L _ rfl (fun n=>by simp) ho s hl hb.2 w h
    | loc x=>exact eval1_leaf L _ rfl (fun n=>by simp) ho s hl hb.2 w h
  one:=fun op a s w hop ho hb h=>by
    obtain ⟨st,k⟩:=s
    have hp:VStk B g w (st ++ [(a.value lf k).1]):=h.stk
    exact (join_one B g op st (a.value lf k).1 w h.size (by simp only at hb;omega) (sides_one.2 hop) hp).mono fun e' w' hq=>⟨hq.1,h.stacked L hq.2.1 hq.2.2,hq.2.2.by_ _ (by decide)⟩
  two:=fun op a b s w h1 h2 hoa hob hb h=>by
    obtain ⟨st,k⟩:=s
    have hp:VStk B g w (st ++ [(a.value lf k).1] ++ [(b.value lf (a.value lf k).2).1]):=h.stk
    exact (join_two B g op st _ _ w h.size (by simp only at hb;omega) (sides_two.2 ⟨h1,h2⟩) (value_u64 L.u64 a hoa k) (value_u64 L.u64 b hob _) hp).mono fun e' w' hq=>⟨hq.1,h.stacked L hq.2.1 hq.2.2,hq.2.2.by_ _ (by decide)⟩
  inOne:=fun op a s hb=>⟨by have:=hb.1;simp only [Ex.depth] at this;omega,L.inOne op a s.2 hb.2⟩
  inTwo:=fun op a b s hb=>by
    obtain ⟨h1,h2⟩:=hb
    obtain ⟨h3,h4⟩:=L.inTwo op a b s.2 h2
    simp only [Ex.depth] at h1
    exact ⟨⟨by omega,h3⟩,by simp only [reckR,List.length_append,List.length_singleton];omega,h4⟩
def evalBox (w:World) (F:FuncId) (f c:Array Value):World:=(w.alloc (.cells #[.func (.func F) f c] 205)).alloc (.cells #[.slice none 0 0] 269)
theorem evalBox_low (w:World) (F:FuncId) (f c:Array Value):Below w.heap.size w (evalBox w F f c):=((Below.refl _ _).alloc (Nat.le_refl _) _).alloc (by simp) _
theorem evalBox_size (w:World) (F:FuncId) (f c:Array Value):(evalBox w F f c).heap.size=w.heap.size+2:=by simp [evalBox]
theorem evalBox_fn (w:World) (F:FuncId) (f c:Array Value):Sits (evalBox w F f c) w.heap.size 205 #[.func (.func F) f c]:=(Sits.new _ _ _).alloc _
theorem evalBox_stk (w:World) (F:FuncId) (f c:Array Value) (hB:B<=w.heap.size):VStk B (w.heap.size+1) (evalBox w F f c) []:=⟨_,Sits.made (by simp) _ _,by omega,World.ownsRow_nil _ _ _ _⟩
set_option maxRecDepth 100000 in
theorem eval_any (L:Leafs F f c B tl J lf lim) (e:Ex) (ho:e.ok) (hd:e.depth<=12) (k:κ) (hlim:lim k e) (v:Value) (w:World) (hB:B<=w.heap.size) (hT:Tree w (treeOf e) v) (hJ:J k w) :
    Calls Tryz.prog 105 #[v,.func (.func F) f c] w fun e' w'=>e' = .returned (.int .u64 (e.value lf k).1)/\J (e.value lf k).2 w' /\ Fr B (tl ++ vts) w w':=by
  have hb:=evalBox_low w F f c
  have hI:Reck F f c B tl J (w.heap.size+1) w.heap.size w ([],k) (evalBox w F f c) :=
    ⟨evalBox_stk w F f c hB,L.keep _ _ _ hJ (Fr.below hb hB),evalBox_fn w F f c,Fr.below hb hB,by rw [evalBox_size];omega⟩
  have HW:=Lib.hid (walk_any (eval_tells (g:=w.heap.size+1) (gl:=w.heap.size) (w0:=w) L) (fun s w w' h hb=>by obtain ⟨st,k⟩:=s;exact h.grown L hb) e ([],k) v (evalBox w F f c) ho hd ⟨by simp only [List.length_nil];omega,hlim⟩ (hT.below hb) hI)
  have HP:=Lib.hid (fun W (h:Reck F f c B tl J (w.heap.size+1) w.heap.size w (reckR lf e ([],k)) W)=>(pop_u64 B (w.heap.size+1) [] (e.value lf k).1 W (by simp) h.stk).mono fun e' w' (hq:Popped B (w.heap.size+1) (e.value lf k).1 [] W e' w')=>(show e' = .returned (.int .u64 (e.value lf k).1)/\J (e.value lf k).2 w' /\ Fr B (tl ++ vts) w w' from ⟨hq.1,L.keep _ _ _ h.j hq.2.2,h.fr.trans (hq.2.2.wider fun _ ht=>List.mem_append_right _ ht)⟩))
  obtain ⟨p,rfl,_⟩:=hT.ptr
  have hz:=Lib.hid (fun W (h:Reck F f c B tl J (w.heap.size+1) w.heap.size w (reckR lf e ([],k)) W)=>(show w.heap.size+1<W.heap.size by obtain ⟨v,hs,_⟩:=h.stk;exact hs.lt))
  clear L hb hI hT hJ hlim
  generalize (e.value lf k).1=z at HP ⊢
  generalize (e.value lf k).2=k2 at HP ⊢
  generalize reckR lf e ([],k)=s2 at HP HW hz
  go_enter Tryz.func105,Tryz.ntmps105
  go_wp2_with fail
  change Calls _ _ _ (evalBox w F f c) _
  generalize evalBox w F f c=W at HW ⊢
  refine HW.out.mono ?_
  rintro e w1 ⟨rfl,hr,_⟩
  have HR:=Lib.hid hr
  have hlt:=hz.out _ hr
  clear hr
  go_wp2_with fail
  refine (HP.out _ HR.out).mono ?_
  rintro e w2 ⟨rfl,hj,hf⟩
  have HJ:=Lib.hid hj
  have HF:=Lib.hid hf
  clear hj hf
  go_wp2_with fail
  go_ret
  exact ⟨rfl,HJ.out,HF.out⟩
theorem eval_not (t:Tr) (F:FuncId) (f c:Array Value) (v:Value) (w:World) (hT:Tree w t v) (hf:fitsF t 12=false):Calls Tryz.prog 105 #[v,.func (.func F) f c] w fun e w'=>Made (.returned (.int .u64 0)) w e w':=by
  have hb:=evalBox_low w F f c
  have HW:=Lib.hid (fun x y=>walk_not t x y v (evalBox w F f c) (hT.below hb) hf)
  have HS:=Lib.hid (evalBox_stk w F f c (Nat.le_refl w.heap.size))
  have HB:=Lib.hid hb
  obtain ⟨p,rfl,_⟩:=hT.ptr
  have hz:=evalBox_size w F f c
  clear hT hf hb
  go_enter Tryz.func105,Tryz.ntmps105
  go_wp2_with fail
  change Calls _ _ _ (evalBox w F f c) _
  generalize evalBox w F f c=W at HW HS HB hz ⊢
  refine (HW.out _ _).mono ?_
  rintro e w1 ⟨rfl,hb⟩
  have HS1:=Lib.hid (HS.out.keep (Fr.below (ts:=[]) hb HB.out.size) (by simp) (by simp))
  have hlt:w.heap.size+1<w1.heap.size:=by have:=hb.size;omega
  have HB1:=Lib.hid (HB.out.trans (hb.mono HB.out.size))
  clear hb hz
  go_wp2_with fail
  refine (pop_none _ _ _ HS1.out).mono ?_
  rintro e w2 ⟨rfl,_,hfr⟩
  have HB2:=Lib.hid (HB1.out.trans hfr.low)
  clear hfr
  go_wp2_with fail
  go_ret
  exact ⟨rfl,HB2.out⟩
end
end Go.Proofs.YtagebkachdmnbaaGreatDoor.Expr
end
section
namespace Go.Proofs.YtagebkachdmnbaaGreatDoor.Expr
open Go.RowKit Go.Proofs.YtagebkachdmnbaaGreatDoor.Mem Go.Lib
def partCells (p:List UInt8 × Nat):List Value:=[.string (str p.1),.int .i64 (p.2:Nat)]
def parts (st:List (List UInt8 × Nat)):List Value:=st.flatMap partCells
end Go.Proofs.YtagebkachdmnbaaGreatDoor.Expr
end
section
namespace Go.Proofs.YtagebkachdmnbaaGreatDoor.Expr
open Go.RowKit Go.Proofs.YtagebkachdmnbaaGreatDoor.Mem Go.Lib
theorem do_nil (F:FuncId) (f c:Array Value) (W:World):(binOp .neq 256 (.func (.func F) f c) .nilFunc).run Tryz.prog W = .ok (.bool true) W:=by
  have h:∀ d:Nat,(Op.equalIn (d+1) 256 (.func (.func F) f c) .nilFunc).run Tryz.prog W = .ok false W:=fun d=>by
    simp [Op.equalIn,run_underlying Tryz.underlying256]
  simp only [binOp]
  simp [Op.equal,Op.maxDepth,h 9999]
theorem walk1_enters:Enters 215:=enters_of Tryz.func215 (by kernel_rfl) rfl
theorem walk1_any (op:Nat) (w:World):Calls Tryz.prog 215 #[.int .u8 (op:Nat)] w fun e' w'=>e' = .returned (.tuple #[])/\w=w':=by
  go_enter Tryz.func215,Tryz.ntmps215
  go_wp2_with fail
  go_end0
  exact ⟨rfl,rfl⟩
theorem Walk_any {σ:Type} {F:FuncId} {f c:Array Value} {R:Ex->σ->σ} {I:σ->World->Prop} {B:σ->Ex->Prop}
    (T:Tells F 215 f c #[] #[] R I B) (hIb:∀ s w w',I s w->Below w.heap.size w w' -> I s w') (e:Ex) (s:σ) (v:Value) (w:World) (ho:e.ok) (hd:e.depth<=12) (hB:B s e) (hT:Tree w (treeOf e) v) (hI:I s w) :
    Calls Tryz.prog 146 #[v,.func (.func F) f c] w (Done (I (R e s)) w):=by
  have HW:=Lib.hid (walk_any T hIb e s v w ho hd hB hT hI)
  obtain ⟨p,rfl,_⟩:=hT.ptr
  clear hT hI hIb T hB
  generalize I (R e s)=J at HW ⊢
  have hn:=do_nil F f c
  go_enter Tryz.func146,Tryz.ntmps146
  go_wp2_with fail
  refine HW.out.mono ?_
  rintro e w1 ⟨rfl,hj,hs⟩
  have HJ:=Lib.hid hj
  have HS:=Lib.hid hs
  clear hj hs
  go_wp2_with fail
  go_end0
  exact ⟨rfl,HJ.out,HS.out⟩
end Go.Proofs.YtagebkachdmnbaaGreatDoor.Expr
end
section
namespace Go.Proofs.YtagebkachdmnbaaGreatDoor.Expr
open Go.RowKit Go.Proofs.YtagebkachdmnbaaGreatDoor.Mem Go.Lib
def at_ (g:Nat):Value:=.pointer (some ⟨g,0,none⟩)
end Go.Proofs.YtagebkachdmnbaaGreatDoor.Expr
end
