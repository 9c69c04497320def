/- What a row that lists six variables gives the walks: the fifteen cells of crc.divisor, which stands fourth. Conditions: none. -/
import Derived.Test.YtmfnkfiocnngeaaDoorBat
import Derived.Stop.LaidErr
namespace Go.Proofs.YtmfnkfiocnngeaaDoor
open Go.RowKit
def laidD6 : List (String × DataW Unit) := [("math/bits.deBruijn32tab", Rows.laid_math_bits_deBruijn32tab), ("math/bits.deBruijn64tab", Rows.laid_math_bits_deBruijn64tab), ("internal/strconv.uint64pow10", Rows.laid_internal_strconv_uint64pow10), ("bellbuoy/crc.divisor", Rows.laid_bellbuoy_crc_divisor), ("strconv.ErrRange", Rows.laid_strconv_ErrRange), ("strconv.ErrSyntax", Rows.laid_strconv_ErrSyntax)]
theorem tab_of_laid6 {W : World} (h : laidMetH Tryd.prog laidD6 W) : Tab W ∧ 1 < W.heap.size := by
  rw [MakeChecks.laidMetH_plain _ _ _ (by kernel_rfl)] at h
  have h' : laidMet Tryd.prog [("bellbuoy/crc.divisor", Lib.tabData .u8 [1, 0, 0, 0, 1, 0, 1, 1, 0, 0, 1, 1, 0, 0, 1]), ("strconv.ErrRange", Rows.laid_strconv_ErrRange), ("strconv.ErrSyntax", Rows.laid_strconv_ErrSyntax)] W := laidMet.tail (laidMet.tail (laidMet.tail h))
  have hT := Lib.tabIs_of_head gDiv tDiv Tryd.underlying164 Tryd.underlying5 (by kernel_rfl) (by kernel_rfl) h'
  have hc : Tab W := fun i hi => by
    have e := hT.cell gDiv i hi
    rw [e]
    obtain rfl | rfl | rfl | rfl | rfl | rfl | rfl | rfl | rfl | rfl | rfl | rfl | rfl | rfl | rfl : i = 0 ∨ i = 1 ∨ i = 2 ∨ i = 3 ∨ i = 4 ∨ i = 5 ∨ i = 6 ∨ i = 7 ∨ i = 8 ∨ i = 9 ∨ i = 10 ∨ i = 11 ∨ i = 12 ∨ i = 13 ∨ i = 14 := by omega
    all_goals rfl
  exact ⟨hc, cell_lt (hc 0 (by omega))⟩
theorem door_met6 (os : Os) (args : Array Value) : laidMetH Tryd.prog laidD6 ((World.doorLaid Tryd.prog 400 os).forCall (fun _ _ => 0) ⟨#[], args, []⟩).memory :=
  laidMetH_of_parts3 (fuel := 8) (laidMet_of_run' 8 (by kernel_rfl) (by kernel_rfl)) (by kernel_rfl) (by kernel_rfl)
end Go.Proofs.YtmfnkfiocnngeaaDoor
