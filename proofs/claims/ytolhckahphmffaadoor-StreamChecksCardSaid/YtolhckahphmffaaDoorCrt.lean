/- What a row that lists crc.divisor gives the walks: the variable's fifteen cells. Conditions: none. -/
import Derived.Test.YtolhckahphmffaaDoorBat
import Derived.Test.YtolhckahphmffaaDoorCards
import Derived.Test.YtolhckahphmffaaDoorTie
import Derived.SevenTiedAt
import Derived.LaidMore
import Derived.Lib.LaidTab
import Derived.Stop.Joined
import Derived.ProofKit
namespace Go.Proofs.YtolhckahphmffaaDoor
open Go.RowKit
def laidD : List (String × DataW Unit) := [("bellbuoy/crc.divisor", Rows.laid_bellbuoy_crc_divisor)]
theorem gDiv : Tryd.prog.globalNamed "bellbuoy/crc.divisor" = some 0 := by kernel_rfl
theorem tDiv : (Tryd.prog.globals[0]?).map (·.type) = some 168 := by kernel_rfl
theorem tab_of_laid {W : World} (h : laidMetH Tryd.prog laidD W) : Tab W ∧ 0 < W.heap.size := by
  rw [MakeChecks.laidMetH_plain _ _ _ (by kernel_rfl)] at h
  have h' : laidMet Tryd.prog [("bellbuoy/crc.divisor", Lib.tabData .u8 [1, 0, 0, 0, 1, 0, 1, 1, 0, 0, 1, 1, 0, 0, 1])] W := h
  have hT := Lib.tabIs_of_head gDiv tDiv Tryd.underlying168 Tryd.underlying5 (by kernel_rfl) (by kernel_rfl) h'
  have hc : Tab W := fun i hi => by
    have e := hT.cell gDiv i hi
    rw [e]
    obtain rfl | rfl | rfl | rfl | rfl | rfl | rfl | rfl | rfl | rfl | rfl | rfl | rfl | rfl | rfl : i = 0 ∨ i = 1 ∨ i = 2 ∨ i = 3 ∨ i = 4 ∨ i = 5 ∨ i = 6 ∨ i = 7 ∨ i = 8 ∨ i = 9 ∨ i = 10 ∨ i = 11 ∨ i = 12 ∨ i = 13 ∨ i = 14 := by omega
    all_goals rfl
  exact ⟨hc, cell_lt (hc 0 (by omega))⟩
end Go.Proofs.YtolhckahphmffaaDoor
