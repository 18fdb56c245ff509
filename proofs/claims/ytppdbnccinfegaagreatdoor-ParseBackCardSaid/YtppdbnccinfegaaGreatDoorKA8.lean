/- Part 9 of the proof: what is used of the texts ExprE, ExprH. -/
import Derived.Test.YtppdbnccinfegaaGreatDoorKA7
import Derived.LoopN
section
namespace Go.Proofs.YtppdbnccinfegaaGreatDoor.Expr
open Go.RowKit Go.Proofs.YtppdbnccinfegaaGreatDoor.Mem Go.Lib
def endV:Option (Nat × Nat)->Value
  | some p => .tuple #[.int .i64 (p.1:Nat),.int .i64 (p.2:Nat)]
  | none => .tuple #[.int .i64 (-1),.int .i64 0]
theorem ret_pair {k k':IntKind} {a b a' b':Int} (h1:a=a') (h2:b=b'):Ending.returned (.tuple #[.int k a,.int k' b]) = .returned (.tuple #[.int k a',.int k' b']):=by rw [h1,h2]
theorem max0 (d:Nat):max (0:Int) (d:Int)=(d:Int):=by omega
section
variable (l : List It) (k f : Nat) (v : Value) (w : World)
theorem end_out (hv:Row w v l) (hk:l[k]? = none):Calls Tryz.prog 154 #[v,.int .i64 (k:Nat)] w fun e w'=>Made (.returned (endV none)) w e w':=by
  obtain ⟨p,cap,rfl,hl⟩:=hv.len
  have hk':l.length<=k:=List.getElem?_eq_none_iff.1 hk
  clear hv hk
  have i1:(l.length:Int)<=(k:Int):=by omega
  show Calls _ _ _ _ fun e w'=>Made (.returned (.tuple #[.int .i64 (-1),.int .i64 0])) w e w'
  go_enter Tryz.func154,Tryz.ntmps154
  go_wp2_with fail
  go_ret2
  exact ⟨rfl,Below.refl _ _⟩
set_option maxRecDepth 100000 in
theorem end_bad (hv:Row w v l) (q op n t i x:Nat) (hk:l[k]? = some ⟨q,op,n,t,i,x⟩) (hp:partsF ⟨q,op,n,t,i,x⟩=none):Calls Tryz.prog 154 #[v,.int .i64 (k:Nat)] w fun e w'=>Made (.returned (endV none)) w e w':=by
  obtain ⟨g,o,cap,rfl,hl,hkl,c0,c1,c2,c3,c4,c5⟩:=hv.item hk
  simp only at c0 c1 c2 c3 c4 c5
  have i1:(k:Int)<(l.length:Int):=by omega
  have i2:(0:Int)<=k:=by omega
  have HP:Hid (∀ W,Calls Tryz.prog 244 #[.agg #[.int .u8 q,.int .u8 op,.int .u64 n,.int .u8 t,.int .u8 i,.int .u8 x]] W fun e' w'=>Made (.returned (.int .i64 (-1))) W e' w'):=Lib.hid fun W=>by
    have:=parts_any ⟨q,op,n,t,i,x⟩ W
    unfold partsI at this
    rw [hp] at this
    exact this
  clear hv hk hp
  show Calls _ _ _ _ fun e w'=>Made (.returned (.tuple #[.int .i64 (-1),.int .i64 0])) w e w'
  go_enter Tryz.func154,Tryz.ntmps154
  go_wp2_with fail
  refine (HP.out _).mono ?_
  rintro e w1 ⟨rfl,hb⟩
  have HB:=Lib.hid hb;clear hb
  go_wp2_with fail
  go_ret2
  exact ⟨rfl,HB.out⟩
set_option maxRecDepth 100000 in
theorem end_leaf (hv:Row w v l) (q op n t i x:Nat) (hk:l[k]? = some ⟨q,op,n,t,i,x⟩) (hp:partsF ⟨q,op,n,t,i,x⟩=some 0):Calls Tryz.prog 154 #[v,.int .i64 (k:Nat)] w fun e w'=>Made (.returned (endV (some (k+1,1)))) w e w':=by
  have HI:=Lib.hid (fun W (hb:Below w.heap.size w W) (g o:Nat) (h:ItemAt w g (o+k * 6) ⟨q,op,n,t,i,x⟩)=>h.below hb)
  obtain ⟨g,o,cap,rfl,hl,hkl,hc⟩:=hv.item hk
  have HC:=Lib.hid hc
  obtain ⟨c0,c1,c2,c3,c4,c5⟩:=hc
  simp only at c0 c1 c2 c3 c4 c5
  have i1:(k:Int)<(l.length:Int):=by omega
  have i2:(0:Int)<=k:=by omega
  have i3:(l.length:Int)<=1000000:=by omega
  have HP:Hid (∀ W,Calls Tryz.prog 244 #[.agg #[.int .u8 q,.int .u8 op,.int .u64 n,.int .u8 t,.int .u8 i,.int .u8 x]] W fun e' w'=>Made (.returned (.int .i64 0)) W e' w'):=Lib.hid fun W=>by
    have:=parts_any ⟨q,op,n,t,i,x⟩ W
    unfold partsI at this
    rw [hp] at this
    exact this
  clear hv hk hp
  show Calls _ _ _ _ fun e w'=>Made (.returned (.tuple #[.int .i64 ((k:Int)+1),.int .i64 1])) w e w'
  go_enter Tryz.func154,Tryz.ntmps154
  go_wp2_with fail
  refine (HP.out _).mono ?_
  rintro e w1 ⟨rfl,hb⟩
  obtain ⟨d0,d1,d2,d3,d4,d5⟩:=HI.out _ hb _ _ HC.out
  simp only at d0 d1 d2 d3 d4 d5
  have HB:=Lib.hid hb;clear hb c0 c1 c2 c3 c4 c5
  go_wp2_with fail
  refine (HP.out _).mono ?_
  rintro e w2 ⟨rfl,hb⟩
  have HB2:=Lib.hid (HB.out.trans (hb.mono HB.out.size));clear hb
  clear d0 d1 d2 d3 d4 d5
  go_wp2_with fail
  refine wp_loop_rounds 1 ?_
  rw [rounds_succ]
  go_wp2_with fail
  go_ret2
  exact ⟨rfl,HB2.out⟩
set_option maxRecDepth 100000 in
theorem end_one (hv:Row w v l) (q op n t i x:Nat) (hk:l[k]? = some ⟨q,op,n,t,i,x⟩) (hp:partsF ⟨q,op,n,t,i,x⟩=some 1) (r:Option (Nat × Nat)) (hr:∀ p,r=some p->p.1<=l.length/\p.2<=l.length)
    (ih:∀ W,Below w.heap.size w W->Calls Tryz.prog 154 #[v,.int .i64 ((k:Int)+1)] W fun e w'=>Made (.returned (endV r)) W e w') :
    Calls Tryz.prog 154 #[v,.int .i64 (k:Nat)] w fun e w'=>Made (.returned (endV (r.map fun p=>(p.1,p.2+1)))) w e w':=by
  have HI:=Lib.hid (fun W (hb:Below w.heap.size w W) (g o:Nat) (h:ItemAt w g (o+k * 6) ⟨q,op,n,t,i,x⟩)=>h.below hb)
  obtain ⟨g,o,cap,rfl,hl,hkl,hc⟩:=hv.item hk
  have HC:=Lib.hid hc
  have IH:=Lib.hid ih
  obtain ⟨c0,c1,c2,c3,c4,c5⟩:=hc
  simp only at c0 c1 c2 c3 c4 c5
  have i1:(k:Int)<(l.length:Int):=by omega
  have i2:(0:Int)<=k:=by omega
  have i3:(l.length:Int)<=1000000:=by omega
  have HP:Hid (∀ W,Calls Tryz.prog 244 #[.agg #[.int .u8 q,.int .u8 op,.int .u64 n,.int .u8 t,.int .u8 i,.int .u8 x]] W fun e' w'=>Made (.returned (.int .i64 1)) W e' w'):=Lib.hid fun W=>by
    have:=parts_any ⟨q,op,n,t,i,x⟩ W
    unfold partsI at this
    rw [hp] at this
    exact this
  clear hv hk hp ih
  generalize hR:endV (r.map fun p=>(p.1,p.2+1))=R
  have HR:=Lib.hid hR;clear hR
  go_enter Tryz.func154,Tryz.ntmps154
  go_wp2_with fail
  refine (HP.out _).mono ?_
  rintro e w1 ⟨rfl,hb⟩
  obtain ⟨d0,d1,d2,d3,d4,d5⟩:=HI.out _ hb _ _ HC.out
  simp only at d0 d1 d2 d3 d4 d5
  have HB:=Lib.hid hb;clear hb c0 c1 c2 c3 c4 c5
  go_wp2_with fail
  refine (HP.out _).mono ?_
  rintro e w2 ⟨rfl,hb⟩
  have HB2:=Lib.hid (HB.out.trans (hb.mono HB.out.size));clear hb
  clear d0 d1 d2 d3 d4 d5
  go_wp2_with fail
  refine wp_loop_rounds 2 ?_
  rw [rounds_succ]
  go_wp2_with fail
  refine (IH.out _ HB2.out).mono ?_
  rintro e w3 ⟨rfl,hb⟩
  have HB3:=Lib.hid (HB2.out.trans (hb.mono HB2.out.size));clear hb
  cases r with
  | none =>
    simp only [endV]
    go_wp2_with fail
    go_ret2
    exact ⟨by rw [<- HR.out];rfl,HB3.out⟩
  | some p =>
    obtain ⟨m,d⟩:=p
    have h0:=hr _ rfl
    simp only at h0
    have j1:(0:Int)<=m:=by omega
    have j2:(d:Int)<=1000000:=by omega
    have HM:=Lib.hid (max0 d)
    clear hr
    simp only [endV]
    go_wp2_with fail
    rw [rounds_succ]
    go_wp2_with fail
    go_ret2
    exact ⟨by rw [<- HR.out];exact ret_pair rfl (by simp only;omega),HB3.out⟩
set_option maxRecDepth 100000 in
theorem end_two (hv:Row w v l) (q op n t i x:Nat) (hk:l[k]? = some ⟨q,op,n,t,i,x⟩) (hp:partsF ⟨q,op,n,t,i,x⟩=some 2) (r:Option (Nat × Nat)) (hr:∀ p,r=some p->p.1<=l.length/\p.2<=l.length)
    (ih:∀ W,Below w.heap.size w W->Calls Tryz.prog 154 #[v,.int .i64 ((k:Int)+1)] W fun e w'=>Made (.returned (endV r)) W e w')
    (r2:Nat × Nat->Option (Nat × Nat)) (hr2:∀ p q,r2 p=some q->q.1<=l.length/\q.2<=l.length)
    (ih2:∀ p,r=some p->∀ W,Below w.heap.size w W->Calls Tryz.prog 154 #[v,.int .i64 (p.1:Nat)] W fun e w'=>Made (.returned (endV (r2 p))) W e w') :
    Calls Tryz.prog 154 #[v,.int .i64 (k:Nat)] w fun e w'=>Made (.returned (endV (r.bind fun p=>(r2 p).map fun q=>(q.1,max p.2 q.2+1)))) w e w':=by
  have HI:=Lib.hid (fun W (hb:Below w.heap.size w W) (g o:Nat) (h:ItemAt w g (o+k * 6) ⟨q,op,n,t,i,x⟩)=>h.below hb)
  obtain ⟨g,o,cap,rfl,hl,hkl,hc⟩:=hv.item hk
  have HC:=Lib.hid hc
  have IH:=Lib.hid ih
  have IH2:=Lib.hid ih2
  have HR2:=Lib.hid hr2
  obtain ⟨c0,c1,c2,c3,c4,c5⟩:=hc
  simp only at c0 c1 c2 c3 c4 c5
  have i1:(k:Int)<(l.length:Int):=by omega
  have i2:(0:Int)<=k:=by omega
  have i3:(l.length:Int)<=1000000:=by omega
  have HP:Hid (∀ W,Calls Tryz.prog 244 #[.agg #[.int .u8 q,.int .u8 op,.int .u64 n,.int .u8 t,.int .u8 i,.int .u8 x]] W fun e' w'=>Made (.returned (.int .i64 2)) W e' w'):=Lib.hid fun W=>by
    have:=parts_any ⟨q,op,n,t,i,x⟩ W
    unfold partsI at this
    rw [hp] at this
    exact this
  clear hv hk hp ih ih2 hr2
  generalize hR:endV (r.bind fun p=>(r2 p).map fun q=>(q.1,max p.2 q.2+1))=R
  have HR:=Lib.hid hR;clear hR
  go_enter Tryz.func154,Tryz.ntmps154
  go_wp2_with fail
  refine (HP.out _).mono ?_
  rintro e w1 ⟨rfl,hb⟩
  obtain ⟨d0,d1,d2,d3,d4,d5⟩:=HI.out _ hb _ _ HC.out
  simp only at d0 d1 d2 d3 d4 d5
  have HB:=Lib.hid hb;clear hb c0 c1 c2 c3 c4 c5
  go_wp2_with fail
  refine (HP.out _).mono ?_
  rintro e w2 ⟨rfl,hb⟩
  have HB2:=Lib.hid (HB.out.trans (hb.mono HB.out.size));clear hb
  clear d0 d1 d2 d3 d4 d5
  go_wp2_with fail
  refine wp_loop_rounds 3 ?_
  rw [rounds_succ]
  go_wp2_with fail
  refine (IH.out _ HB2.out).mono ?_
  rintro e w3 ⟨rfl,hb⟩
  have HB3:=Lib.hid (HB2.out.trans (hb.mono HB2.out.size));clear hb
  cases r with
  | none =>
    simp only [endV]
    go_wp2_with fail
    go_ret2
    exact ⟨by rw [<- HR.out];rfl,HB3.out⟩
  | some p =>
    obtain ⟨m,d⟩:=p
    have h0:=hr _ rfl
    have IH3:=Lib.hid (IH2.out _ rfl)
    have h3:=Lib.hid (HR2.out (m,d))
    simp only at h0
    have j1:(0:Int)<=m:=by omega
    have j2:(d:Int)<=1000000:=by omega
    clear hr IH2 HR2 IH
    have HR2:Hid (endV ((r2 (m,d)).map fun q=>(q.1,max d q.2+1))=R):=HR
    clear HR
    simp only [endV]
    generalize r2 (m,d)=s at IH3 h3 HR2
    go_wp2_with fail
    rw [rounds_succ]
    go_wp2_with fail
    refine (IH3.out _ HB3.out).mono ?_
    rintro e w4 ⟨rfl,hb⟩
    have HB4:=Lib.hid (HB3.out.trans (hb.mono HB3.out.size));clear hb
    cases s with
    | none =>
      simp only [endV]
      go_wp2_with fail
      go_ret2
      exact ⟨by rw [<- HR2.out];rfl,HB4.out⟩
    | some p =>
      obtain ⟨m2,d2⟩:=p
      have h4:=h3.out _ rfl
      simp only at h4
      have j3:(0:Int)<=m2:=by omega
      have j4:(d2:Int)<=1000000:=by omega
      clear h3 IH3
      simp only [endV]
      go_wp2_with fail
      rw [rounds_succ]
      go_wp2_with fail
      go_ret2
      exact ⟨by rw [<- HR2.out];exact ret_pair rfl (by simp only;omega),HB4.out⟩
end
theorem end_any (l:List It):∀ (f k:Nat) (v:Value) (w:World),Row w v l->l.length<k+f->Calls Tryz.prog 154 #[v,.int .i64 (k:Nat)] w fun e w'=>Made (.returned (endV (endF l f k))) w e w':=by
  intro f
  induction f with
  | zero=>intro k v w hv hf;exact end_out l k v w hv (List.getElem?_eq_none (by omega))
  | succ f ih =>
    intro k v w hv hf
    cases hk:l[k]? with
    | none =>
      have:endF l (f+1) k=none:=by simp [endF,hk]
      rw [this];exact end_out l k v w hv hk
    | some a =>
      obtain ⟨q,op,n,t,i,x⟩:=a
      have hkl:=(List.getElem?_eq_some_iff.1 hk).1
      have hl:∀ k p,endF l f k=some p->p.1<=l.length/\p.2<=l.length:=fun k p h=>⟨(endF_le (m:=p.1) (d:=p.2) h).2.1,(endF_le (m:=p.1) (d:=p.2) h).2.2⟩
      cases hp:partsF ⟨q,op,n,t,i,x⟩ with
      | none =>
        have:endF l (f+1) k=none:=by simp [endF,hk,hp]
        rw [this];exact end_bad l k v w hv q op n t i x hk hp
      | some c =>
        have hc:c=0 \/ c=1 \/ c=2:=by
          unfold partsF at hp
          repeat' split at hp
          all_goals first | (injection hp with hp;omega) | cases hp
        rcases hc with rfl | rfl | rfl
        · have:endF l (f+1) k=some (k+1,1):=by simp [endF,hk,hp]
          rw [this];exact end_leaf l k v w hv q op n t i x hk hp
        · have:endF l (f+1) k=(endF l f (k+1)).map fun p=>(p.1,p.2+1):=by simp [endF,hk,hp]
          rw [this];exact end_one l k v w hv q op n t i x hk hp _ (hl _) fun W hb=>ih (k+1) v W (hv.below hb) (by omega)
        · have:endF l (f+1) k=(endF l f (k+1)).bind fun p=>(endF l f p.1).map fun q=>(q.1,max p.2 q.2+1):=by simp [endF,hk,hp]
          rw [this]
          refine end_two l k v w hv q op n t i x hk hp _ (hl _) (fun W hb=>ih (k+1) v W (hv.below hb) (by omega)) (fun p=>endF l f p.1) (fun p q h=>hl _ q h) fun p hp' W hb=>?_
          have:=(endF_le (m:=p.1) (d:=p.2) hp').1
          exact ih p.1 v W (hv.below hb) (by omega)
def endOf (l:List It):Option (Nat × Nat):=endF l (l.length+1) 0
def goodV (r:Option (Nat × Nat)):Value:=match r with
  | some p => .tuple #[.int .i64 (p.1:Nat),.bool (decide (p.2<=12))]
  | none => .tuple #[.int .i64 (-1),.bool false]
theorem good_any (l:List It) (v:Value) (w:World) (hv:Row w v l):Calls Tryz.prog 161 #[v] w fun e w'=>Made (.returned (goodV (endOf l))) w e w':=by
  have H:=Lib.hid (end_any l (l.length+1) 0 v w hv (by omega))
  obtain ⟨p,cap,rfl,_⟩:=hv.len
  clear hv
  change Hid (Calls _ _ #[_,.int .i64 0] _ fun e w'=>Made (.returned (endV (endOf l))) w e w') at H
  generalize endOf l=r at H ⊢
  cases r with
  | none =>
    go_enter Tryz.func161,Tryz.ntmps161
    go_wp2_with fail
    refine H.out.mono ?_
    rintro e w1 ⟨rfl,hb⟩
    have HB:=Lib.hid hb;clear hb
    simp only [endV]
    go_wp2_with fail
    go_ret2
    exact ⟨rfl,HB.out⟩
  | some p =>
    obtain ⟨m,d⟩:=p
    have j1:(0:Int)<=m:=by omega
    go_enter Tryz.func161,Tryz.ntmps161
    go_wp2_with fail
    refine H.out.mono ?_
    rintro e w1 ⟨rfl,hb⟩
    have HB:=Lib.hid hb;clear hb
    simp only [endV]
    go_wp2_with fail
    go_ret2
    exact ⟨by congr 4;simp;omega,HB.out⟩
theorem nat_beq (a b:Nat):((a:Int) == (b:Int))=decide (a=b):=by
  by_cases h:a=b
  · subst h;simp
  · rw [beq_eq_false_iff_ne.2 (by omega)];simp [h]
end Go.Proofs.YtppdbnccinfegaaGreatDoor.Expr
end
section
namespace Go.Proofs.YtppdbnccinfegaaGreatDoor.Expr
open Go.RowKit Go.Proofs.YtppdbnccinfegaaGreatDoor.Mem Go.Lib
def Enters (F:FuncId):Prop:=∀ (args:Array Value) (W:World),(callFunc F args).run Tryz.prog W = .ok (.enter F args) W
def Done (I:World->Prop) (w:World) (e:Ending) (w':World):Prop:=e = .returned (.tuple #[])/\I w' /\ Stable 297 w w'
structure Tells {σ:Type} (F1 F2:FuncId) (f1 c1 f2 c2:Array Value) (R:Ex->σ->σ) (I:σ->World->Prop) (B:σ->Ex->Prop):Prop where
  e1:Enters F1
  e2:Enters F2
  leaf:∀ (e:Ex) (s:σ) (w:World),e.isLeaf=true->e.ok->B s e->I s w->Calls Tryz.prog F1 (f1.push (leafVal e) ++ c1) w (Done (I (R e s)) w)
  one:∀ (op:Nat) (a:Ex) (s:σ) (w:World),(op=13 \/ op=14)->a.ok->B s (.one op a)->I (R a s) w->Calls Tryz.prog F2 (f2.push (.int .u8 (op:Nat)) ++ c2) w (Done (I (R (.one op a) s)) w)
  two:∀ (op:Nat) (a b:Ex) (s:σ) (w:World),1<=op->op<=12->a.ok->b.ok->B s (.two op a b)->I (R b (R a s)) w->Calls Tryz.prog F2 (f2.push (.int .u8 (op:Nat)) ++ c2) w (Done (I (R (.two op a b) s)) w)
  inOne:∀ (op:Nat) (a:Ex) (s:σ),B s (.one op a)->B s a
  inTwo:∀ (op:Nat) (a b:Ex) (s:σ),B s (.two op a b)->B s a/\B (R a s) b
theorem leaf_tree {e:Ex} (he:e.isLeaf=true):treeOf e = .node (leafIt e) .nil .nil/\(leafIt e).kind<4:=by
  cases e with
  | one op a=>cases he
  | two op a b=>cases he
  | _=>exact ⟨rfl,by simp [leafIt]⟩
section
variable {σ : Type} {F1 F2 : FuncId} {f1 c1 f2 c2 : Array Value} {R : Ex → σ → σ} {I : σ → World → Prop} {B : σ → Ex → Prop}
theorem tell_leaf (T:Tells F1 F2 f1 c1 f2 c2 R I B) (e:Ex) (he:e.isLeaf=true) (ho:e.ok) (s:σ) (hB:B s e) (v:Value) (w:World) (hT:Tree w (treeOf e) v) (hI:I s w) :
    Calls Tryz.prog 260 #[v,.func (.func F1) f1 c1,.func (.func F2) f2 c2] w (Done (I (R e s)) w):=by
  obtain ⟨ht,hk⟩:=leaf_tree he
  rw [ht] at hT
  obtain ⟨g,lv,rv,rfl,hg,rfl,rfl⟩:=hT
  have H:=Lib.hid (T.leaf e s w he ho hB hI)
  unfold leafVal exprCells at H
  have e1:=T.e1
  unfold Enters at e1
  generalize I (R e s)=J at H ⊢
  generalize leafIt e=it at *
  obtain ⟨q,op,n,t,i,x⟩:=it
  obtain ⟨q0,q1,q2,q3,q4,q5,q6,q7⟩:=Sits.all8 hg
  simp only at q0 q1 q2 q3 q4 q5 hk
  have hlt:=hg.lt
  have i4:((q:Int) == 4)=false:=beq_eq_false_iff_ne.2 (by omega)
  have i5:((q:Int) == 5)=false:=beq_eq_false_iff_ne.2 (by omega)
  clear hg ht hI hB T ho he hk
  go_enter Tryz.func260,Tryz.ntmps260
  go_wp2_with fail
  refine H.out.mono ?_
  rintro e w1 ⟨rfl,hj,hs⟩
  have HJ:=Lib.hid hj
  have HS:=Lib.hid hs
  clear hj hs
  go_wp2_with fail
  go_end0
  exact ⟨rfl,HJ.out,HS.out⟩
theorem tell_one (e2:Enters F2) (op:Nat) (t:Tr) (v:Value) (w:World) (hT:Tree w (.node ⟨4,op,0,0,0,0⟩ t .nil) v) (J J2:World->Prop)
    (ih:∀ p,Tree w t p->Calls Tryz.prog 260 #[p,.func (.func F1) f1 c1,.func (.func F2) f2 c2] w (Done J w))
    (hop:∀ w1,J w1->Calls Tryz.prog F2 (f2.push (.int .u8 (op:Nat)) ++ c2) w1 (Done J2 w1)) :
    Calls Tryz.prog 260 #[v,.func (.func F1) f1 c1,.func (.func F2) f2 c2] w (Done J2 w):=by
  obtain ⟨g,lv,rv,rfl,hg,hl,rfl⟩:=hT
  obtain ⟨pl,rfl,_⟩:=hl.ptr
  have IH:=Lib.hid (ih _ hl)
  have HO:=Lib.hid hop
  have HG:=Lib.hid hg
  unfold Enters at e2
  obtain ⟨q0,q1,q2,q3,q4,q5,q6,q7⟩:=Sits.all8 hg
  simp only at q0 q1 q2 q3 q4 q5
  have hlt:=hg.lt
  clear hg hl ih hop
  go_enter Tryz.func260,Tryz.ntmps260
  go_wp2_with fail
  refine IH.out.mono ?_
  rintro e w1 ⟨rfl,hj,hs⟩
  have S1:=hs _ _ HG.out
  have r1:w1.cell? ⟨g,1,none⟩=some (.int .u8 op):=S1.cell 1
  have hlt1:=S1.lt
  have HJ:=Lib.hid hj
  have HS:=Lib.hid hs
  clear hj hs S1 q0 q1 q2 q3 q4 q5 q6 q7 hlt
  go_wp2_with fail
  refine (HO.out _ HJ.out).mono ?_
  rintro e w2 ⟨rfl,hj,hs⟩
  have HJ2:=Lib.hid hj
  have HS2:=Lib.hid (HS.out.trans hs)
  clear hj hs
  go_wp2_with fail
  go_end0
  exact ⟨rfl,HJ2.out,HS2.out⟩
theorem tell_two (e2:Enters F2) (op:Nat) (t u:Tr) (v:Value) (w:World) (hT:Tree w (.node ⟨5,op,0,0,0,0⟩ t u) v) (J J1 J2:World->Prop)
    (ih:∀ p,Tree w t p->Calls Tryz.prog 260 #[p,.func (.func F1) f1 c1,.func (.func F2) f2 c2] w (Done J w))
    (ih2:∀ p w1,J w1->Tree w1 u p->Calls Tryz.prog 260 #[p,.func (.func F1) f1 c1,.func (.func F2) f2 c2] w1 (Done J1 w1))
    (hop:∀ w1,J1 w1->Calls Tryz.prog F2 (f2.push (.int .u8 (op:Nat)) ++ c2) w1 (Done J2 w1)) :
    Calls Tryz.prog 260 #[v,.func (.func F1) f1 c1,.func (.func F2) f2 c2] w (Done J2 w):=by
  obtain ⟨g,lv,rv,rfl,hg,hl,hr⟩:=hT
  obtain ⟨pl,rfl,_⟩:=hl.ptr
  obtain ⟨pr,rfl,_⟩:=hr.ptr
  have IH:=Lib.hid (ih _ hl)
  have IH2:=Lib.hid (fun w1 (hj:J w1) (hs:Stable 297 w w1)=>ih2 _ w1 hj (hr.stable hs))
  have HO:=Lib.hid hop
  have HG:=Lib.hid hg
  unfold Enters at e2
  obtain ⟨q0,q1,q2,q3,q4,q5,q6,q7⟩:=Sits.all8 hg
  simp only at q0 q1 q2 q3 q4 q5
  have hlt:=hg.lt
  clear hg hl hr ih ih2 hop
  go_enter Tryz.func260,Tryz.ntmps260
  go_wp2_with fail
  refine IH.out.mono ?_
  rintro e w1 ⟨rfl,hj,hs⟩
  have S1:=hs _ _ HG.out
  have r7:w1.cell? ⟨g,7,none⟩=some (.pointer pr):=S1.cell 7
  have hlt1:=S1.lt
  have HS1:=Lib.hid S1
  have HJ:=Lib.hid hj
  have HS:=Lib.hid hs
  clear hj hs S1 q0 q1 q2 q3 q4 q5 q6 q7 hlt
  go_wp2_with fail
  refine (IH2.out _ HJ.out HS.out).mono ?_
  rintro e w2 ⟨rfl,hj,hs⟩
  have S2:=hs _ _ HS1.out
  have r1:w2.cell? ⟨g,1,none⟩=some (.int .u8 op):=S2.cell 1
  have hlt2:=S2.lt
  have HJ2:=Lib.hid hj
  have HS2:=Lib.hid (HS.out.trans hs)
  clear hj hs S2 r7 hlt1
  go_wp2_with fail
  refine (HO.out _ HJ2.out).mono ?_
  rintro e w3 ⟨rfl,hj,hs⟩
  have HJ3:=Lib.hid hj
  have HS3:=Lib.hid (HS2.out.trans hs)
  clear hj hs
  go_wp2_with fail
  go_end0
  exact ⟨rfl,HJ3.out,HS3.out⟩
theorem tell_any (T:Tells F1 F2 f1 c1 f2 c2 R I B) (e:Ex):∀ (s:σ) (v:Value) (w:World),e.ok->B s e->Tree w (treeOf e) v->I s w ->
    Calls Tryz.prog 260 #[v,.func (.func F1) f1 c1,.func (.func F2) f2 c2] w (Done (I (R e s)) w):=by
  induction e with
  | one op a ih =>
    intro s v w ho hB hT hI
    exact tell_one T.e2 op (treeOf a) v w hT _ _ (fun p hp=>ih s p w ho.2 (T.inOne op a s hB) hp hI) fun w1 h1=>T.one op a s w1 ho.1 ho.2 hB h1
  | two op a b iha ihb =>
    intro s v w ho hB hT hI
    obtain ⟨ba,bb⟩:=T.inTwo op a b s hB
    exact tell_two T.e2 op (treeOf a) (treeOf b) v w hT _ _ _ (fun p hp=>iha s p w ho.2.2.1 ba hp hI) (fun p w1 h1 hp=>ihb _ p w1 ho.2.2.2 bb hp h1) fun w1 h1=>T.two op a b s w1 ho.1 ho.2.1 ho.2.2.1 ho.2.2.2 hB h1
  | num n=>intro s v w ho hB hT hI;exact tell_leaf T _ rfl ho s hB v w hT hI
  | reg n=>intro s v w ho hB hT hI;exact tell_leaf T _ rfl ho s hB v w hT hI
  | of n m=>intro s v w ho hB hT hI;exact tell_leaf T _ rfl ho s hB v w hT hI
  | loc n=>intro s v w ho hB hT hI;exact tell_leaf T _ rfl ho s hB v w hT hI
theorem walk_not (t:Tr) (x y v:Value) (w:World) (hT:Tree w t v) (hf:fitsF t 12=false):Calls Tryz.prog 173 #[v,x,y] w fun e w'=>Made (.returned (.tuple #[])) w e w':=by
  have HM:=may_any t v w hT
  rw [hf] at HM
  have HH:=Lib.hid HM
  obtain ⟨p,rfl,_⟩:=hT.ptr
  clear HM hT hf
  go_enter Tryz.func173,Tryz.ntmps173
  go_wp2_with fail
  refine HH.out.mono ?_
  rintro e w1 ⟨rfl,hb⟩
  have HB:=Lib.hid hb;clear hb
  go_wp2_with fail
  go_end0
  exact ⟨rfl,HB.out⟩
theorem walk_any (T:Tells F1 F2 f1 c1 f2 c2 R I B) (hIb:∀ s w w',I s w->Below w.heap.size w w' -> I s w') (e:Ex) (s:σ) (v:Value) (w:World) (ho:e.ok) (hd:e.depth<=12) (hB:B s e) (hT:Tree w (treeOf e) v) (hI:I s w) :
    Calls Tryz.prog 173 #[v,.func (.func F1) f1 c1,.func (.func F2) f2 c2] w (Done (I (R e s)) w):=by
  have HM:=may_any _ v w hT
  rw [fits_of e ho 12 hd] at HM
  have HH:=Lib.hid HM
  have IH:=Lib.hid (fun w1 (hb:Below w.heap.size w w1)=>tell_any T e s v w1 ho hB (hT.below hb) (hIb s w w1 hI hb))
  obtain ⟨p,rfl,_⟩:=hT.ptr
  clear HM hT hI hIb T hB
  generalize I (R e s)=J at IH ⊢
  go_enter Tryz.func173,Tryz.ntmps173
  go_wp2_with fail
  refine HH.out.mono ?_
  rintro e w1 ⟨rfl,hb⟩
  have HB:=Lib.hid hb;clear hb
  go_wp2_with fail
  refine (IH.out _ HB.out).mono ?_
  rintro e w2 ⟨rfl,hj,hs⟩
  have HJ:=Lib.hid hj
  have HS:=Lib.hid ((Stable.below (t:=297) HB.out).trans hs)
  clear hj hs
  go_wp2_with fail
  go_end0
  exact ⟨rfl,HJ.out,HS.out⟩
end
end Go.Proofs.YtppdbnccinfegaaGreatDoor.Expr
end
