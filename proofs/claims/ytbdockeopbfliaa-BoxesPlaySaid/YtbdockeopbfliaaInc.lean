/- The code of package inbox: a new one, what is laid in, what is taken out. Conditions: not more than a thousand frames wait. -/
import Derived.Test.YtbdockeopbfliaaInb
namespace Go.Proofs.Ytbdockeopbfliaa
open Go.RowKit
theorem info_zparts {P : Program} {T : TypeId} {a b c : Nat} (h : (P.info? T).map (fun i => (i.zero.map (·.cells.size), i.size, i.bytes)) = some (some a, b, c)) : ∃ i z, P.info? T = some i ∧ i.zero = some z ∧ z.cells.size = a ∧ i.size = b ∧ i.bytes = c := by
  cases hi : P.info? T with
  | none => rw [hi] at h; cases h
  | some i =>
    rw [hi] at h
    simp only [Option.map_some, Option.some.injEq, Prod.mk.injEq] at h
    obtain ⟨h1, h2, h3⟩ := h
    cases hz : i.zero with
    | none => rw [hz] at h1; cases h1
    | some z =>
      rw [hz] at h1
      exact ⟨i, z, rfl, hz, by simpa using h1, h2, h3⟩
theorem fl_flat {L : List Fl} : ∀ u ∈ flC L, u.oneCell' = true := by
  intro u hu
  obtain ⟨f, _, hf⟩ := List.mem_flatMap.1 hu
  simp only [Fl.C, List.mem_cons, List.not_mem_nil, or_false] at hf
  rcases hf with rfl | rfl | rfl <;> rfl
theorem sd_flat (s : SD) : ∀ u ∈ s.C, u.oneCell' = true := by
  intro u hu
  simp only [SD.C, List.mem_cons, List.not_mem_nil, or_false] at hu
  rcases hu with rfl | rfl | rfl | rfl | rfl | rfl | rfl | rfl | rfl | rfl | rfl | rfl | rfl | rfl <;> rfl
theorem Blk.set14 {W : World} {B : Nat} {T : TypeId} {l : List Value} (h : Blk W B T l) (hl : l.length = 14) (v0 v1 v2 v3 v4 v5 v6 v7 v8 v9 v10 v11 v12 v13 : Value) : Blk ((((((((((((((W.setCell ⟨B, 0, none⟩ (v0)).setCell ⟨B, 1, none⟩ (v1)).setCell ⟨B, 2, none⟩ (v2)).setCell ⟨B, 3, none⟩ (v3)).setCell ⟨B, 4, none⟩ (v4)).setCell ⟨B, 5, none⟩ (v5)).setCell ⟨B, 6, none⟩ (v6)).setCell ⟨B, 7, none⟩ (v7)).setCell ⟨B, 8, none⟩ (v8)).setCell ⟨B, 9, none⟩ (v9)).setCell ⟨B, 10, none⟩ (v10)).setCell ⟨B, 11, none⟩ (v11)).setCell ⟨B, 12, none⟩ (v12)).setCell ⟨B, 13, none⟩ (v13)) B T [v0, v1, v2, v3, v4, v5, v6, v7, v8, v9, v10, v11, v12, v13] :=
  h.set [v0, v1, v2, v3, v4, v5, v6, v7, v8, v9, v10, v11, v12, v13] (by rw [hl]; rfl)
theorem below14 {n B : Nat} {base W : World} (hB : n ≤ B) (h : Below n base W) (v0 v1 v2 v3 v4 v5 v6 v7 v8 v9 v10 v11 v12 v13 : Value) : Below n base ((((((((((((((W.setCell ⟨B, 0, none⟩ (v0)).setCell ⟨B, 1, none⟩ (v1)).setCell ⟨B, 2, none⟩ (v2)).setCell ⟨B, 3, none⟩ (v3)).setCell ⟨B, 4, none⟩ (v4)).setCell ⟨B, 5, none⟩ (v5)).setCell ⟨B, 6, none⟩ (v6)).setCell ⟨B, 7, none⟩ (v7)).setCell ⟨B, 8, none⟩ (v8)).setCell ⟨B, 9, none⟩ (v9)).setCell ⟨B, 10, none⟩ (v10)).setCell ⟨B, 11, none⟩ (v11)).setCell ⟨B, 12, none⟩ (v12)).setCell ⟨B, 13, none⟩ (v13)) :=
  Go.below_setCells hB [v0, v1, v2, v3, v4, v5, v6, v7, v8, v9, v10, v11, v12, v13] 0 W h
end Go.Proofs.Ytbdockeopbfliaa
