/- Part 24 of the proof: what is used of the texts Row. -/
import Derived.Test.YtaanhmndeobgbaaGreatDoorGA2
import Derived.Test.YtaanhmndeobgbaaGreatDoorGB2
import Derived.Deep.AppendLies
import Derived.Deep.AppendSrc
import Derived.Deep.Upon
import Derived.Deep.Cut
import Derived.OwnWalkIn
import Derived.RangeFuncNested
import Derived.RangeFuncBound
import Derived.RangeFuncCalls
import Derived.RangeFuncLeaves
import Derived.TacticsInMore
namespace Go.Proofs.YtaanhmndeobgbaaGreatDoor.Row
open Go.RowKit Mem
theorem aO (w:World) (o:Obj):Below w.heap.size w (w.alloc o):=(Below.refl _ w).alloc (Nat.le_refl _) o
def Lay (w:World) (p:Option Addr) (xs:List Value):Prop:=∀ j u,xs[j]? = some u->∃ g o,p=some ⟨g,o,none⟩/\g<w.heap.size/\w.cell? ⟨g,o+j,none⟩=some u
theorem Lay.below {w w':World} {p:Option Addr} {xs:List Value} (h:Lay w p xs) (hb:Below w.heap.size w w'):Lay w' p xs:=fun j u hu=>by
 obtain ⟨g,o,e,hg,hc⟩:=h j u hu;exact ⟨g,o,e,Nat.lt_of_lt_of_le hg hb.size,(hb.cell (p:=⟨g,o+j,none⟩) hg).trans hc⟩
def cellsOf {α:Type} (f:α->List Value) (l:List α):List Value:=l.flatMap f
theorem bO {α:Type} {f:α->List Value} {sz:Nat} (hf:∀ x,(f x).length=sz) (l:List α):(cellsOf f l).length=l.length * sz:=by
 unfold cellsOf;induction l with
 | nil=>simp
 | cons x l ih=>rw [List.flatMap_cons,List.length_append,ih,hf,List.length_cons,Nat.add_mul];omega
theorem dQ {α:Type} {f:α->List Value} {sz:Nat} (hf:∀ x,(f x).length=sz):∀ (l:List α) (k:Nat) (x:α) (i:Nat),l[k]? = some x->i<sz->(cellsOf f l)[k * sz+i]? = (f x)[i]?
 | [],k,x,i,h,_=>by simp at h
 | y :: l,0,x,i,h,hi=>by
  simp at h;subst h
  unfold cellsOf;rw [List.flatMap_cons,Nat.zero_mul,Nat.zero_add,List.getElem?_append_left (by rw [hf];exact hi)]
 | y :: l,k+1,x,i,h,hi=>by
  rw [List.getElem?_cons_succ] at h;have:=dQ hf l k x i h hi;unfold cellsOf at this ⊢;rw [List.flatMap_cons,List.getElem?_append_right (by rw [hf,Nat.add_mul];omega),hf,<- this]
  congr 1
  rw [Nat.add_mul];omega
structure mU (P:Program) (t e:TypeId) (size bytes:Nat):Prop where
 row:P.underlying t=some (.slice e)
 info:∃ i z,P.info? e=some i/\i.zero=some z/\i.size=size/\i.bytes=bytes/\z.cells.size=size
 pos:0<size
theorem iU {w:World} {B:Nat} {e:TypeId} {size:Nat} {r:Option Addr} {n d:Nat} {xs:List Value} (h:w.ownsRow B e size (.slice r n d) n xs):Lay w r xs:=fun j u hu=>by
 obtain ⟨hl,h | ⟨g,cap,cur,h1,h2,h3,h4,h5,h6,h7⟩⟩:=h
 ·have hj:=(List.getElem?_eq_some_iff.1 hu).1
  rw [hl,h.2,Nat.zero_mul] at hj;omega
 ·injection h1 with h1
  refine ⟨g,0,h1,Sits.lt (t:=e) (cs:=cur) h3,?_⟩;rw [Nat.zero_add,cell_of_row _ _ _ _ _ _ h3,<- hu,<- h7,List.getElem?_take_of_lt (by have:=(List.getElem?_eq_some_iff.1 hu).1;omega)];simp
theorem eX {P:Program} {t e:TypeId} {z:Value} {size bytes:Nat} (h:P.underlying t=some (.slice e)) (hi:(P.info? e).map (fun i=>(i.zero,i.size,i.bytes))=some (some z,size,bytes)) (hz:z.cells.size=size) (hp:0<size):mU P t e size bytes:=by
 refine ⟨h,?_,hp⟩;cases hq:P.info? e with
 | none=>rw [hq] at hi;cases hi
 | some i =>
  rw [hq] at hi;simp only [Option.map_some,Option.some.injEq,Prod.mk.injEq] at hi
  exact ⟨i,z,rfl,hi.1,hi.2.1,hi.2.2,hz⟩
structure cz (e:TypeId) (size B:Nat) (w:World) (r:Option Addr) (n d:Nat) (xs:List Value):Prop where
 lay:Lay w r xs
 len:xs.length=n * size
 room:n<=d
 own:w.ownsRow B e size (.slice r n d) n xs
theorem dM {e:TypeId} {size B:Nat} {w:World} {r:Option Addr} {n d:Nat} {xs:List Value} (h:w.ownsRow B e size (.slice r n d) n xs):cz e size B w r n d xs :=
 ⟨iU h,h.1,by
  obtain ⟨_,h | ⟨g,cap,cur,e1,_,_,h4,_⟩⟩:=h
  ·omega
  ·injection e1 with _ _ e3;omega,h⟩
theorem cz.fresh {e:TypeId} {size B:Nat} {w:World} {r:Option Addr} {n d:Nat} {xs:List Value} (h:cz e size B w r n d xs):∀ g o s,r=some ⟨g,o,s⟩->B<=g/\g<w.heap.size:=fun g o s hr=>by
 subst hr;obtain ⟨_,h | ⟨g',cap,cur,e1,h2,h3,_⟩⟩:=h.own
 ·cases h.1
 ·injection e1 with e1;injection e1 with e1;injection e1 with e1
  subst e1;exact ⟨h2,lt_of_block h3⟩
theorem cz.below {e:TypeId} {size B:Nat} {w w':World} {r:Option Addr} {n d:Nat} {xs:List Value} (h:cz e size B w r n d xs) (hb:Below w.heap.size w w'):cz e size B w' r n d xs :=
 dM ⟨h.own.1,h.own.2.imp id fun ⟨g,cap,cur,e1,e2,e3,e4⟩=>⟨g,cap,cur,e1,e2,(hb.block g (lt_of_block e3)).trans e3,e4⟩⟩
theorem ed {P:Program} {t e:TypeId} {size bytes:Nat} (T:mU P t e size bytes) (ty:TypeId) {B:Nat} {w:World} {r:Option Addr} {n d:Nat} {xs:List Value} (h:cz e size B w r n d xs) (hB:B<=w.heap.size)
  (q:Option Addr) (m c:Nat) (ys:List Value) (hy:ys.length=m * size) (hq:Lay w q ys) (h1:∀ u ∈ ys,u.oneCell' = true) (h63:n+m<=maxLen) (hb:(n+m) * bytes<=140737488355328) :
  ∃ r' d' w',(Builtin.append_ #[t,t] ty #[.slice r n d,.slice q m c]).run P w = .ok (.slice r' (n+m) d') w' /\ (w.grownBy w' (Value.slice r n d).ownBlock/\(∀ g o s,r' = some ⟨g,o,s⟩->(Value.slice r n d).ownBlock=some g \/ w.heap.size<=g))/\Below B w w' /\ cz e size B w' r' (n+m) d' (xs ++ ys):=by
 obtain ⟨i,z,hi,hz,hs,hby,hzs⟩:=T.info;rcases Nat.eq_zero_or_pos m with rfl | hm
 ·have hy0:ys=[]:=List.eq_nil_of_length_eq_zero (by rw [hy,Nat.zero_mul])
  subst hy0;have hs':Src P i.size t (.slice q 0 c) 0 [] w:=by
   cases q with
   | none=>exact Src.ofNil w T.row c
   | some a=>exact Src.ofSlice w T.row a 0 c [] (by simp) (by simp) (by simp)
  exact ⟨r,d,w,run_append_nothing w t t ty e i T.row hi r n d h.room _ hs',⟨⟨rfl,rfl,rfl,Nat.le_refl _,fun _ _ _=>rfl⟩,fun g o s hr => .inl (by rw [hr];rfl)⟩,Below.refl _ _,by rw [List.append_nil];exact h⟩
 ·have hy0:0<ys.length:=by rw [hy];exact Nat.mul_pos hm T.pos
  obtain ⟨g,o,rfl,_,_⟩:=hq 0 ys[0] (List.getElem?_eq_getElem hy0)
  obtain ⟨g',cap,w',hr,ho,hg,hat,hlt⟩:=run_append_lies (P:=P) w t ty B e i z size bytes T.row hi hz hs hby hzs T.pos (.slice r n d) n xs h.own ⟨g,o,none⟩ m c ys hy (fun j u hu=>by
   obtain ⟨g',o',e',_,Wp⟩:=hq j u hu;injection e' with e';injection e' with e1 e2;subst e1 e2
   rw [Addr.add_lit];exact Wp) h1 hm h63 hb hB _ rfl
  refine ⟨some ⟨g',0,none⟩,cap,w',hr,⟨hg,fun g o s hr=>by
   injection hr with hr;injection hr with hr;subst hr
   exact hat.imp id (fun h=>by omega)⟩,(Below.refl B w).grown hg hB (fun k hk=>?_),dM ho⟩
  obtain ⟨_,h | ⟨g2,cap2,cur,e1,h2,_⟩⟩:=h.own
  ·rw [h.1] at hk;simp [Value.ownBlock] at hk
  ·rw [e1] at hk;simp [Value.ownBlock] at hk;omega
theorem ax {P:Program} {t e:TypeId} {size bytes:Nat} (T:mU P t e size bytes) {ops:Array Oper} {rest:List Oper} {o:Oper} {a:Act} {Q:Exit->Act->World->Prop} (hgd:o.guard=none) (s x:Operand)
  (ho:o.op = .call { callee:=.builtin .append,args:=#[s,x],argTypes:=#[t,t] }) {B:Nat} {w:World} {r:Option Addr} {n d:Nat} {xs:List Value} (hs:a.eval s = .slice r n d) (h:cz e size B w r n d xs) (hB:B<=w.heap.size)
  (q:Option Addr) (m c:Nat) (ys:List Value) (hx:a.eval x = .slice q m c) (hy:ys.length=m * size) (hq:Lay w q ys) (h1:∀ u ∈ ys,u.oneCell' = true) (h63:n+m<=maxLen) (hb:(n+m) * bytes<=140737488355328)
  (hk:∀ r' d' w',(w.grownBy w' (Value.slice r n d).ownBlock/\(∀ g o s,r' = some ⟨g,o,s⟩->(Value.slice r n d).ownBlock=some g \/ w.heap.size<=g))->Below B w w' -> cz e size B w' r' (n+m) d' (xs ++ ys)->wpList P ops Q rest (a.put o.dst (.slice r' (n+m) d')) w'):wpList P ops Q (o :: rest) a w :=
 wpList_plain hgd fun _ hK=>by
  obtain ⟨r',d',w',hr,hgr,hbl,hc⟩:=ed T o.type h hB q m c ys hy hq h1 h63 hb;unfold Oper.wp execOp;simp only [ho,resolve,invoke,builtin,Sem.run_bind,Sem.run_pure,Result.andThen_ok,List.map_toArray,List.map_cons,List.map_nil,hs,hx,hr]
  exact hK _ _ (hk r' d' w' hgr hbl hc)
theorem eY (e:TypeId) (size B:Nat) (w:World):cz e size B w none 0 0 []:=dM ⟨by rw [Nat.zero_mul];rfl,.inl ⟨rfl,rfl⟩⟩
end Go.Proofs.YtaanhmndeobgbaaGreatDoor.Row
