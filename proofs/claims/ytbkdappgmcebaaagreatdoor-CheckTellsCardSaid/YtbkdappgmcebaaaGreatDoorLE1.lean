/- Part 42 of the proof: what is used of the texts ExprV. -/
import Derived.Test.YtbkdappgmcebaaaGreatDoorLD1
import Derived.Test.YtbkdappgmcebaaaGreatDoorLA3
import Derived.Test.YtbkdappgmcebaaaGreatDoorLA5
section
namespace Go.Proofs.YtbkdappgmcebaaaGreatDoor.Expr
open Go.RowKit Go.ChangeShapes Go.WideShapes Go.ChangeAt Go.Proofs.YtbkdappgmcebaaaGreatDoor.Card Go.Proofs.YtbkdappgmcebaaaGreatDoor.Mem Go.Deep
noncomputable def itemFields:Array Field:=match Tryz.prog.underlying 114 with
  | some (.struct fs)=>fs
  | _=>#[]
theorem item_under:Tryz.prog.underlying 114=some (.struct itemFields):=by
  unfold itemFields
  rw [Tryz.underlying114]
theorem item_f0:(itemFields[0]?).map (fun f=>(Tryz.prog.underlying f.type,f.offset,Tryz.prog.cellsOf f.type))=some (some (.int .u8),0,1):=by kernel_rfl
theorem item_f1:(itemFields[1]?).map (fun f=>(Tryz.prog.underlying f.type,f.offset,Tryz.prog.cellsOf f.type))=some (some (.int .u8),1,1):=by kernel_rfl
theorem item_f2:(itemFields[2]?).map (fun f=>(Tryz.prog.underlying f.type,f.offset,Tryz.prog.cellsOf f.type))=some (some (.int .u64),2,1):=by kernel_rfl
theorem item_f3:(itemFields[3]?).map (fun f=>(Tryz.prog.underlying f.type,f.offset,Tryz.prog.cellsOf f.type))=some (some (.int .u8),3,1):=by kernel_rfl
theorem item_f4:(itemFields[4]?).map (fun f=>(Tryz.prog.underlying f.type,f.offset,Tryz.prog.cellsOf f.type))=some (some (.int .u8),4,1):=by kernel_rfl
theorem item_f5:(itemFields[5]?).map (fun f=>(Tryz.prog.underlying f.type,f.offset,Tryz.prog.cellsOf f.type))=some (some (.int .u8),5,1):=by kernel_rfl
theorem item_cells:Tryz.prog.cellsOf 114=6:=by kernel_rfl
theorem nat_of_u8 {z:Int} (h:(Lit.int .u8 z).wf=true):∃ n:Nat,z=(n:Nat)/\n<256:=by
  have:=bounds_u8 h
  exact ⟨z.toNat,by omega,by omega⟩
theorem nat_of_u64 {z:Int} (h:(Lit.int .u64 z).wf=true):∃ n:Nat,z=(n:Nat)/\n<18446744073709551616:=by
  have:=bounds_u64 h
  exact ⟨z.toNat,by omega,by omega⟩
section
variable {H : Type} {enc : TypeId × Value → H} {w : World} {base : Nat} {sp : Nat → Bool} {held : Bool}
theorem item_open {n:Nat} {cs:List Value} {x:DataW H × List MemPlace} (h:DataW.trod enc Tryz.prog w base sp held n 114 cs=some x) {g o:Nat} (hc:∀ j,j<6->w.cell? ⟨g,o+j,none⟩=cs[j]?):∃ a:It,a.bd/\ItemAt w g o a:=by
  obtain ⟨xs,n',_,_,_,hxl,hf⟩:=DataW.trod_struct item_under h
  obtain ⟨z0,h0,w0⟩:=field_int item_f0 hxl hf
  obtain ⟨z1,h1,w1⟩:=field_int item_f1 hxl hf
  obtain ⟨z2,h2,w2⟩:=field_int item_f2 hxl hf
  obtain ⟨z3,h3,w3⟩:=field_int item_f3 hxl hf
  obtain ⟨z4,h4,w4⟩:=field_int item_f4 hxl hf
  obtain ⟨z5,h5,w5⟩:=field_int item_f5 hxl hf
  obtain ⟨n0,rfl,b0⟩:=nat_of_u8 w0
  obtain ⟨n1,rfl,b1⟩:=nat_of_u8 w1
  obtain ⟨n2,rfl,b2⟩:=nat_of_u64 w2
  obtain ⟨n3,rfl,b3⟩:=nat_of_u8 w3
  obtain ⟨n4,rfl,b4⟩:=nat_of_u8 w4
  obtain ⟨n5,rfl,b5⟩:=nat_of_u8 w5
  exact ⟨⟨n0,n1,n2,n3,n4,n5⟩,⟨b0,b1,b2,b3,b4,b5⟩,(hc 0 (by omega)).trans h0,(hc 1 (by omega)).trans h1,(hc 2 (by omega)).trans h2,(hc 3 (by omega)).trans h3,(hc 4 (by omega)).trans h4,(hc 5 (by omega)).trans h5⟩
end
end Go.Proofs.YtbkdappgmcebaaaGreatDoor.Expr
end
