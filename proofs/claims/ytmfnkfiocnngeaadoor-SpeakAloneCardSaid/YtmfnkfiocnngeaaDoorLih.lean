/- Bits that a listener of the code hears one by one; and what must be whatever is asked (live of layer 8). Conditions: not more than nine hundred bits. -/
import Derived.Test.YtmfnkfiocnngeaaDoorLig
import Derived.Test.YtmfnkfiocnngeaaDoorWrf
namespace Go.Proofs.YtmfnkfiocnngeaaDoor
open Go.RowKit Go.Shelf
theorem Kp.ow {B n : Nat} {v bv : Value} {w w' : World} {E : List Nat} (h : Kp B v w w') (hs : Ow n w bv E) (hB : bv.ownBlock ≠ some B) (hv : ∀ k, bv.ownBlock = some k → v.ownBlock ≠ some k) : Ow n w' bv E := by
  obtain ⟨h1, h2⟩ := hs
  rcases h2 with hn | ⟨g, cap, cur, rfl, hb, hgg, rest⟩
  · exact ⟨h1, .inl hn⟩
  · have hg : (Value.slice (some ⟨g, 0, none⟩) E.length cap).ownBlock = some g := by simp [Value.ownBlock]
    have hlt : g < w.heap.size := by
      by_cases c : g < w.heap.size
      · exact c
      · rw [Array.getElem?_eq_none (by omega)] at hgg; exact absurd hgg (by simp)
    exact ⟨h1, .inr ⟨g, cap, cur, rfl, hb, (h.block g hlt (fun e => hB (by rw [hg, e])) (hv g hg)).trans hgg, rest⟩⟩
theorem own_none : (Value.slice none 0 0).ownBlock = none := rfl
end Go.Proofs.YtmfnkfiocnngeaaDoor
