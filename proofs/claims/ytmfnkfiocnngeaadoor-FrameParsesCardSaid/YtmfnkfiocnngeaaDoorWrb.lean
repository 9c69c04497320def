/- The code of package wire (closed, the closure of opened): what it returns. Conditions: not more than a thousand bits. -/
import Derived.Test.YtmfnkfiocnngeaaDoorWra
import Derived.Test.YtmfnkfiocnngeaaDoorSfb
namespace Go.Proofs.YtmfnkfiocnngeaaDoor
open Go.RowKit Go.Shelf
theorem drop_bits (bs : List Nat) (i : Nat) (h : i < bs.length) : (bitsOf bs).drop i = bitN (bs[i]?.getD 0) :: (bitsOf bs).drop (i + 1) := by
  have hl : i < (bitsOf bs).length := by rw [bitsOf_length]; exact h
  rw [List.drop_eq_getElem_cons hl]
  congr 1
  have := bits_get bs i
  rw [List.getElem?_eq_getElem hl] at this
  exact this
end Go.Proofs.YtmfnkfiocnngeaaDoor
