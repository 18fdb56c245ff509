/- Part 14 of the proof: what is used of the texts UnrG. -/
import Derived.Test.YtagebkachdmnbaaGreatDoorMB2
import Derived.Laws.EntriesVeiled
import Derived.Test.YtagebkachdmnbaaGreatDoorMA7
section
namespace Go.Proofs.YtagebkachdmnbaaGreatDoor.Unr
open Go.RowKit Go.Shelf Go.Proofs.YtagebkachdmnbaaGreatDoor.Mem Go.Proofs.YtagebkachdmnbaaGreatDoor.Expr Go.Proofs.YtagebkachdmnbaaGreatDoor.Prog Go.Proofs.YtagebkachdmnbaaGreatDoor.Row
theorem block_all {w0:World} {n₀ gc bc bm times:Nat} {locs:List UInt8} (hl:locs.length<=1000) (htm:times<=8):∀ (n:Nat) (b:Blk),b.size<n->BlkC w0 n₀ gc bc bm locs times b
  | 0,_,h=>by omega
  | n+1,b,h=>block_step b hl htm fun b' hb'=>block_all hl htm n b' (by omega)
theorem block_any {w0:World} {n₀ gc bc bm times:Nat} {locs:List UInt8} (hl:locs.length<=1000) (htm:times<=8) (b:Blk):BlkC w0 n₀ gc bc bm locs times b:=block_all hl htm (b.size+1) b (by omega)
set_option maxRecDepth 100000 in
theorem newCoder_any (locs:List UInt8) (times:Nat) (w:World) :
    Calls Tryz.prog 42 #[.string (str locs),.int .i64 (times:Nat),.int .i64 32] w fun e w'=>∃ gc bc bm,e = .returned (.pointer (some ⟨gc,0,none⟩))/\CodAt w w.heap.size gc bc bm locs times ([],false) w':=by
  have HW:Hid (Below w.heap.size w (((w.alloc (.cells #[.int .i64 32] 3)).alloc (.cells #[.slice none 0 0,.bool false,.nilFunc,.string (str locs),.int .i64 (times:Nat)] 122)).alloc (.cells #[.pointer (some ⟨w.heap.size+1,0,none⟩)] 117))):=Lib.hid ((two_low _ _ _).alloc (two_low _ _ _).size _)
  have SM:Hid (Sits (((w.alloc (.cells #[.int .i64 32] 3)).alloc (.cells #[.slice none 0 0,.bool false,.nilFunc,.string (str locs),.int .i64 (times:Nat)] 122)).alloc (.cells #[.pointer (some ⟨w.heap.size+1,0,none⟩)] 117)) w.heap.size 3 #[.int .i64 32]):=Lib.hid (((Sits.new _ _ _).alloc _).alloc _)
  have SC:Hid (Sits (((w.alloc (.cells #[.int .i64 32] 3)).alloc (.cells #[.slice none 0 0,.bool false,.nilFunc,.string (str locs),.int .i64 (times:Nat)] 122)).alloc (.cells #[.pointer (some ⟨w.heap.size+1,0,none⟩)] 117)) (w.heap.size+1) 122 #[.slice none 0 0,.bool false,.nilFunc,.string (str locs),.int .i64 (times:Nat)]):=Lib.hid ((Sits.made (by simp) _ _).alloc _)
  have SB:Hid (Sits (((w.alloc (.cells #[.int .i64 32] 3)).alloc (.cells #[.slice none 0 0,.bool false,.nilFunc,.string (str locs),.int .i64 (times:Nat)] 122)).alloc (.cells #[.pointer (some ⟨w.heap.size+1,0,none⟩)] 117)) (w.heap.size+1+1) 117 #[.pointer (some ⟨w.heap.size+1,0,none⟩)]):=Lib.hid (Sits.made (by simp) _ _)
  go_enter Tryz.func42,Tryz.ntmps42
  go_upto_region 2 with (fail)
  generalize ((w.alloc (.cells #[.int .i64 32] 3)).alloc (.cells #[.slice none 0 0,.bool false,.nilFunc,.string (str locs),.int .i64 (times:Nat)] 122)).alloc (.cells #[.pointer (some ⟨w.heap.size+1,0,none⟩)] 117)=w1 at HW SM SC SB ⊢
  have c2:w1.cell? ⟨w.heap.size+1,2,none⟩=some .nilFunc:=SC.out.cell 2
  have f2:=SC.out.free 2
  have lc:=SC.out.lt
  have b0:w1.cell? ⟨w.heap.size+1+1,0,none⟩=some (.pointer (some ⟨w.heap.size+1,0,none⟩)):=SB.out.cell 0
  have lb:=SB.out.lt
  have HF:Hid (CodAt w w.heap.size (w.heap.size+1) (w.heap.size+1+1) w.heap.size locs times ([],false) (w1.setCell ⟨w.heap.size+1,2,none⟩ (putV (w.heap.size+1+1) w.heap.size))):=Lib.hid (by
    refine ⟨Turn.of_below (HW.out.setCell (p:=⟨w.heap.size+1,2,none⟩) (by show w.heap.size<=w.heap.size+1;omega) _),⟨none,0,[],SC.out.put 2 _,nil_cut _ _ _ _,rfl⟩,SB.out.far (show w.heap.size+1+1≠w.heap.size+1 by omega) _,SM.out.far (show w.heap.size≠w.heap.size+1 by omega) _,by simp,by omega,Nat.le_refl _,?_⟩
    have:=HW.out.size
    simpa [World.setCell] using this)
  have b1:(w1.setCell ⟨w.heap.size+1,2,none⟩ (putV (w.heap.size+1+1) w.heap.size)).cell? ⟨w.heap.size+1+1,0,none⟩=some (.pointer (some ⟨w.heap.size+1,0,none⟩)):=HF.out.boxc.cell 0
  go_upto_region 3 with (fail)
  generalize w1.setCell ⟨w.heap.size+1,2,none⟩ (putV (w.heap.size+1+1) w.heap.size)=w2 at HF b1 ⊢
  have lb2:=HF.out.boxc.lt
  clear c2 f2 lc b0 lb
  go_wp2_with fail
  go_ret
  exact ⟨_,_,_,rfl,HF.out⟩
end Go.Proofs.YtagebkachdmnbaaGreatDoor.Unr
end
