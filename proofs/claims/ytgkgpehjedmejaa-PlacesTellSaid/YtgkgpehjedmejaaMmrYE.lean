/- Layer 11 (memory): rows of the program's items beside the document's. -/
import Derived.Test.YtgkgpehjedmejaaMmrYB
import Derived.BigQuiet
namespace Go.Proofs.Ytgkgpehjedmejaa.Mmr
open Go.RowKit Go.Proofs.Ytgkgpehjedmejaa.Mem Go.Proofs.Ytgkgpehjedmejaa.Flow

theorem law_may {x : It} (h : Spn.mayF x.a x.b = true) : lawI x = x := by unfold lawI; rw [if_pos h]
theorem may_rng {x : It} (h : Spn.mayF x.a x.b = true) : Rng x := by
  have := may_le h
  exact ⟨by omega, by omega⟩
end Go.Proofs.Ytgkgpehjedmejaa.Mmr
