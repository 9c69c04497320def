/- What a row that lists class.widths gives the walks: the variable's four cells. Conditions: none. -/
import Derived.Test.YtmealljdecancaaDoorClb
import Derived.Test.YtmealljdecancaaDoorCards
import Derived.Test.YtmealljdecancaaDoorTie
import Derived.SevenTiedAt
import Derived.LaidMore
import Derived.Lib.LaidTab
import Derived.Stop.Joined
import Derived.ProofKit
namespace Go.Proofs.YtmealljdecancaaDoor
open Go.RowKit
def laidD : List (String × DataW Unit) := [("bellbuoy/class.widths", Rows.laid_bellbuoy_class_widths)]
theorem gWid : Tryd.prog.globalNamed "bellbuoy/class.widths" = some 0 := by kernel_rfl
theorem tWid : (Tryd.prog.globals[0]?).map (·.type) = some 59 := by kernel_rfl
theorem tab_of_wid {W : World} (h : laidMetH Tryd.prog laidD W) : TabW W ∧ 0 < W.heap.size := by
  rw [MakeChecks.laidMetH_plain _ _ _ (by kernel_rfl)] at h
  have h' : laidMet Tryd.prog [("bellbuoy/class.widths", Lib.tabData .i64 [2, 8, 11, 5])] W := h
  have hT := Lib.tabIs_of_head gWid tWid Tryd.underlying59 Tryd.underlying3 (by kernel_rfl) (by kernel_rfl) h'
  have hc : TabW W := ⟨hT.cell gWid 0 (by decide), hT.cell gWid 1 (by decide), hT.cell gWid 2 (by decide), hT.cell gWid 3 (by decide)⟩
  exact ⟨hc, cell_ltG hc.1⟩
end Go.Proofs.YtmealljdecancaaDoor
