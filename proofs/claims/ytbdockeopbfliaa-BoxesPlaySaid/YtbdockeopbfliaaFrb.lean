/- The document's own answers of layer 6 in plain words (Size): what it returns. Conditions: strings are strings, of bits. -/
import Derived.Test.YtbdockeopbfliaaFra
import Derived.Test.YtbdockeopbfliaaBat
namespace Go.Proofs.Ytbdockeopbfliaa
open Go.RowKit Go.Shelf
theorem bitsOf_zero (bs : List Nat) (i : Nat) : (bitsOf bs)[i]?.getD 0 = 0 ↔ bs[i]?.getD 0 = 0 := by
  by_cases h : i < bs.length
  · have e : (bitsOf bs)[i]?.getD 0 = bitN (bs[i]?.getD 0) := by simp [bitsOf, h]
    rw [e]
    unfold bitN
    split
    · rename_i h0; simp [h0]
    · rename_i h0; simp [h0]
  · rw [List.getElem?_eq_none (by rw [bitsOf_length]; omega), List.getElem?_eq_none (by omega)]
theorem subL_bits (bs : List Nat) (a k : Nat) : subL (bitsOf bs) a k = bitsOf (subL bs a k) := by
  unfold subL bitsOf
  rw [List.map_take, List.map_drop]
theorem sizeB_bits (bs : List Nat) : sizeB (bitsOf bs) = if bs.length < 14 then none
  else if bs.length < (if bs[13]?.getD 0 = 0 then 15 else 35) + 4 then none
  else some ((if bs[13]?.getD 0 = 0 then 15 else 35) + 19 + (if bs[if bs[13]?.getD 0 = 0 then 12 else 32]?.getD 0 = 0 then 8 * min 8 (numP (bitsOf (subL bs (if bs[13]?.getD 0 = 0 then 15 else 35) 4))) else 0)) := by
  unfold sizeB
  rw [bitsOf_length]
  simp only [bitsOf_zero, subL_bits]
end Go.Proofs.Ytbdockeopbfliaa
