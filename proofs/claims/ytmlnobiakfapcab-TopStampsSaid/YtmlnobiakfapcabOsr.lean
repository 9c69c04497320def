/- Slices of numbers of any kind; two oscillators in one memory, the program's and the document's. Conditions: each theorem says its own. -/
import Derived.Test.YtmlnobiakfapcabOsl
namespace Go.Proofs.Ytmlnobiakfapcab
open Go.RowKit
/-- What a slice of numbers of a kind holds. -/
def RowI (kd : IntKind) (w : World) (a : Option Addr) (len cap : Nat) (zs : List Int) : Prop :=
  (a = none ∧ len = 0 ∧ cap = 0 ∧ zs = []) ∨
  ∃ x, a = some x ∧ len ≤ cap ∧ cap ≤ maxLen ∧ zs.length = cap ∧ (∀ i, i < zs.length → w.cell? (x.add i) = some (.int kd (zs.getD i 0))) ∧ ∀ n ∈ zs, (Lit.int kd n).wf = true
theorem rowI_at {kd : IntKind} {w : World} {a : Option Addr} {len cap : Nat} {zs : List Int} (h : RowI kd w a len cap zs) : (len = 0 ∨ ∃ b off, a = some ⟨b, off, none⟩ ∧ b < w.heap.size ∧ ∀ i, i < len → ∃ n : Int, (Lit.int kd n).wf = true ∧ ∀ X, Below w.heap.size w X → X.cell? ⟨b, off + i, none⟩ = some (.int kd n)) ∧ len ≤ cap ∧ cap ≤ maxLen := by
  rcases h with ⟨_, rfl, rfl, _⟩ | ⟨x, rfl, hl, hm, hz, hc, hwf⟩
  · exact ⟨.inl rfl, Nat.le_refl _, by unfold maxLen; omega⟩
  · refine ⟨?_, hl, hm⟩
    by_cases h0 : len = 0
    · exact .inl h0
    · obtain ⟨b, off, spot⟩ := x
      have hc0 := hc 0 (by omega)
      have hspot : spot = none := by simpa [Addr.add] using World.cell?_spot hc0
      subst hspot
      have hbl : b < w.heap.size := by have := cell_ltG hc0; simpa [Addr.add] using this
      refine .inr ⟨b, off, rfl, hbl, fun i hi => ?_⟩
      have hci := hc i (by omega)
      have hmem : zs.getD i 0 ∈ zs := by
        rw [List.getD_eq_getElem?_getD, List.getElem?_eq_getElem (by omega), Option.getD_some]
        exact List.getElem_mem _
      refine ⟨zs.getD i 0, hwf _ hmem, fun X hX => ?_⟩
      rw [Addr.add_lit] at hci
      exact (hX.cell (p := ⟨b, off + i, none⟩) hbl).trans hci
end Go.Proofs.Ytmlnobiakfapcab
