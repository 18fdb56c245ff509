/- Part 8 of the proof: what is used of the texts ExprG, ExprI, ExprK, ExprM, ExprN, ExprR. -/
import Derived.Test.YtbkdappgmcebaaaGreatDoorLA6
import Derived.Test.YtbkdappgmcebaaaGreatDoorLA2
import Derived.Test.YtbkdappgmcebaaaGreatDoorLA5
import Derived.Deep.RegionWith
import Derived.Deep.AppendLies
import Derived.Deep.DeepCutAuto
import Derived.Test.YtbkdappgmcebaaaGreatDoorLA3
section
namespace Go.Proofs.YtbkdappgmcebaaaGreatDoor.Expr
open Go.RowKit Go.Proofs.YtbkdappgmcebaaaGreatDoor.Mem Go.Lib
def URow (w:World) (v:Value) (u:List Nat):Prop :=
  (u=[]/\∃ p cap,v = .slice p 0 cap) \/ ∃ g o cap,v = .slice (some ⟨g,o,none⟩) u.length cap/\u.length<=1000000/\∀ i a,u[i]? = some a->w.cell? ⟨g,o+i,none⟩=some (.int .u64 (a:Nat))
theorem URow.below {w w':World} {v:Value} {u:List Nat} (h:URow w v u) (hb:Below w.heap.size w w'):URow w' v u:=by
  rcases h with h | ⟨g,o,cap,hv,hl,h⟩
  · exact .inl h
  · exact .inr ⟨g,o,cap,hv,hl,fun i a ha=>(hb.cell (p:=⟨g,o+i,none⟩) (World.block_lt_of_cell? w _ (h i a ha))).trans (h i a ha)⟩
theorem URow.len {w:World} {v:Value} {u:List Nat} (h:URow w v u):∃ p cap,v = .slice p u.length cap/\u.length<=1000000:=by
  rcases h with ⟨rfl,p,cap,hv⟩ | ⟨g,o,cap,hv,hl,_⟩
  · exact ⟨p,cap,hv,by simp⟩
  · exact ⟨_,cap,hv,hl⟩
theorem URow.item {w:World} {v:Value} {u:List Nat} (h:URow w v u) {i:Nat} {a:Nat} (ha:u[i]? = some a):∃ g o cap,v = .slice (some ⟨g,o,none⟩) u.length cap/\u.length<=1000000/\i<u.length/\w.cell? ⟨g,o+i,none⟩=some (.int .u64 (a:Nat)):=by
  have hi:=(List.getElem?_eq_some_iff.1 ha).1
  rcases h with ⟨rfl,_⟩ | ⟨g,o,cap,hv,hl,h⟩
  · simp at hi
  · exact ⟨g,o,cap,hv,hl,hi,h i a ha⟩
section
variable (l : List It) (u : List Nat) (k n : Nat) (v uv : Value) (w : World)
end
end Go.Proofs.YtbkdappgmcebaaaGreatDoor.Expr
end
section
namespace Go.Proofs.YtbkdappgmcebaaaGreatDoor.Expr
open Go.RowKit Go.Proofs.YtbkdappgmcebaaaGreatDoor.Mem Go.Lib
section
variable {B : Nat} {ts us : List TypeId} {w w' w'' : World}
end
theorem own_far {w:World} {base:Nat} {e t:TypeId} {size n g:Nat} {v:Value} {xs:List Value} {cs:Array Value} (h:w.ownsRow base e size v n xs) (hg:Sits w g t cs) (hne:e≠t):v.ownBlock≠some g:=by
  rcases h.2 with ⟨rfl,_⟩ | ⟨g',cap,cur,rfl,_,hh,_⟩
  · simp [Value.ownBlock]
  · intro he
    have:g' = g:=by simpa [Value.ownBlock] using he
    subst this
    exact Sits.differ (t:=e) hh hg hne rfl
theorem own_slice {w:World} {base:Nat} {e:TypeId} {size n:Nat} {v:Value} {xs:List Value} (h:w.ownsRow base e size v n xs):∃ p cap,v = .slice p n cap:=by
  rcases h.2 with ⟨rfl,rfl⟩ | ⟨g,cap,cur,rfl,_⟩
  · exact ⟨_,_,rfl⟩
  · exact ⟨_,_,rfl⟩
end Go.Proofs.YtbkdappgmcebaaaGreatDoor.Expr
end
section
namespace Go.Proofs.YtbkdappgmcebaaaGreatDoor.Expr
open Go.RowKit Go.Proofs.YtbkdappgmcebaaaGreatDoor.Mem Go.Lib
def partCells (p:List UInt8 × Nat):List Value:=[.string (str p.1),.int .i64 (p.2:Nat)]
def parts (st:List (List UInt8 × Nat)):List Value:=st.flatMap partCells
end Go.Proofs.YtbkdappgmcebaaaGreatDoor.Expr
end
section
namespace Go.Proofs.YtbkdappgmcebaaaGreatDoor.Expr
open Go.RowKit Go.Proofs.YtbkdappgmcebaaaGreatDoor.Mem Go.Lib
theorem do_nil (F:FuncId) (f c:Array Value) (W:World):(binOp .neq 173 (.func (.func F) f c) .nilFunc).run Tryz.prog W = .ok (.bool true) W:=by
  have h:∀ d:Nat,(Op.equalIn (d+1) 173 (.func (.func F) f c) .nilFunc).run Tryz.prog W = .ok false W:=fun d=>by
    simp [Op.equalIn,run_underlying Tryz.underlying173]
  simp only [binOp]
  simp [Op.equal,Op.maxDepth,h 9999]
theorem walk1_enters:Enters 153:=enters_of Tryz.func153 (by kernel_rfl) rfl
theorem walk1_any (op:Nat) (w:World):Calls Tryz.prog 153 #[.int .u8 (op:Nat)] w fun e' w'=>e' = .returned (.tuple #[])/\w=w':=by
  go_enter Tryz.func153,Tryz.ntmps153
  go_wp2_with fail
  go_end0
  exact ⟨rfl,rfl⟩
theorem Walk_any {σ:Type} {F:FuncId} {f c:Array Value} {R:Ex->σ->σ} {I:σ->World->Prop} {B:σ->Ex->Prop}
    (T:Tells F 153 f c #[] #[] R I B) (hIb:∀ s w w',I s w->Below w.heap.size w w' -> I s w') (e:Ex) (s:σ) (v:Value) (w:World) (ho:e.ok) (hd:e.depth<=12) (hB:B s e) (hT:Tree w (treeOf e) v) (hI:I s w) :
    Calls Tryz.prog 109 #[v,.func (.func F) f c] w (Done (I (R e s)) w):=by
  have HW:=Lib.hid (walk_any T hIb e s v w ho hd hB hT hI)
  obtain ⟨p,rfl,_⟩:=hT.ptr
  clear hT hI hIb T hB
  generalize I (R e s)=J at HW ⊢
  have hn:=do_nil F f c
  go_enter Tryz.func109,Tryz.ntmps109
  go_wp2_with fail
  refine HW.out.mono ?_
  rintro e w1 ⟨rfl,hj,hs⟩
  have HJ:=Lib.hid hj
  have HS:=Lib.hid hs
  clear hj hs
  go_wp2_with fail
  go_end0
  exact ⟨rfl,HJ.out,HS.out⟩
end Go.Proofs.YtbkdappgmcebaaaGreatDoor.Expr
end
section
namespace Go.Proofs.YtbkdappgmcebaaaGreatDoor.Expr
open Go.RowKit Go.Proofs.YtbkdappgmcebaaaGreatDoor.Mem Go.Lib
def at_ (g:Nat):Value:=.pointer (some ⟨g,0,none⟩)
end Go.Proofs.YtbkdappgmcebaaaGreatDoor.Expr
end
section
namespace Go.Proofs.YtbkdappgmcebaaaGreatDoor.Expr
open Go.RowKit Go.Proofs.YtbkdappgmcebaaaGreatDoor.Mem Go.Lib
theorem good_view (l:List It):(∃ z,goodV (endOf l) = .tuple #[.int .i64 z,.bool false]/\∀ e m,Sp l 0 e m->12<e.depth) \/ ∃ e m,Sp l 0 e m/\e.depth<=12/\goodV (endOf l) = .tuple #[.int .i64 (m:Nat),.bool true]:=by
  have hsp:∀ e m,Sp l 0 e m->endOf l=some (m,e.depth):=fun e m h=>sp_endF h _ (by omega)
  cases h:endOf l with
  | none =>
    refine .inl ⟨-1,rfl,fun e m hs=>?_⟩
    have:=hsp e m hs
    rw [h] at this;cases this
  | some p =>
    obtain ⟨m,d⟩:=p
    obtain ⟨e,hs,rfl⟩:=endF_sp _ _ _ _ h
    by_cases hd:e.depth<=12
    · exact .inr ⟨e,m,hs,hd,by simp [goodV,hd]⟩
    · refine .inl ⟨m,by simp [goodV,hd],fun e' m' hs'=>?_⟩
      obtain ⟨rfl,_⟩:=hs.det hs'
      omega
theorem of_good {l:List It} {e:Ex} {m:Nat} (hs:Sp l 0 e m) (hd:e.depth<=12) (v:Value) (w:World) (hv:Row w v l) :
    Calls Tryz.prog 100 #[v,.int .i64 0,.int .i64 20] w fun e' w'=>∃ p,e' = .returned (.tuple #[.pointer p,.int .i64 (m:Nat)])/\Tree w' (treeOf e) (.pointer p)/\Below w.heap.size w w':=by
  refine Calls.mono (show Calls _ _ #[v,.int .i64 0,.int .i64 20] _ _ from of_any l 20 0 v w (by omega) hv) ?_
  rintro e' w' ⟨p,rfl,ht,hb⟩
  rw [hs.made 20 (by omega)] at ht ⊢
  obtain ⟨q,rfl,_⟩:=ht.tree.ptr
  exact ⟨q,rfl,ht.tree,hb⟩
end Go.Proofs.YtbkdappgmcebaaaGreatDoor.Expr
end
