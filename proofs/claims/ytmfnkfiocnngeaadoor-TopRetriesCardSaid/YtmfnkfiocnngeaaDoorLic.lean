/- A listener of the code: a bit of the end, any bit, and what it tells. Conditions: not more than a thousand bits. -/
import Derived.Test.YtmfnkfiocnngeaaDoorLia
namespace Go.Proofs.YtmfnkfiocnngeaaDoor
open Go.RowKit Go.Shelf
/-- A listener that has heard nothing. -/
def LS0 : LS := ⟨0, 0, (0, 0), [], frameC false 0 false 0 [0, 0, 0, 0, 0, 0, 0, 0], false, 0, false⟩
end Go.Proofs.YtmfnkfiocnngeaaDoor
