/- Part 44 of the proof: what is used of the texts ChkN. -/
import Derived.Test.YtagebkachdmnbaaGreatDoorED5
import Derived.Test.YtagebkachdmnbaaGreatDoorED6
section
namespace Go.Proofs.YtagebkachdmnbaaGreatDoor.Chk
open Go.RowKit Go.Proofs.YtagebkachdmnbaaGreatDoor.Mem Go.Proofs.YtagebkachdmnbaaGreatDoor.Expr Go.Proofs.YtagebkachdmnbaaGreatDoor.Prog Go.Proofs.YtagebkachdmnbaaGreatDoor.Prs Go.Lib
def AllK (w:World):Prop:=Prog.All w/\KindAt w
theorem AllK.below {w w':World} (h:AllK w) (hb:Below w.heap.size w w'):AllK w':=⟨h.1.below hb,h.2.below hb⟩
end Go.Proofs.YtagebkachdmnbaaGreatDoor.Chk
end
