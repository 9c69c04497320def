/- The code of package wire (Decode): what it returns. Conditions: not more than a thousand bits. -/
import Derived.Test.YtmfnkfiocnngeaaDoorWrc
namespace Go.Proofs.YtmfnkfiocnngeaaDoor
open Go.RowKit Go.Shelf
/-- The frame of a parse, as a value. -/
def frOf : Except Nat (Bool × Nat × Bool × Nat × List Nat × Nat) → Value
  | .error _ => frameV false 0 false 0 [0, 0, 0, 0, 0, 0, 0, 0]
  | .ok (e, n, r, len, data, _) => frameV e n r (len : Int) data
/-- What Decode answers, as a value. -/
def dcV (l : List Nat) : Value := .tuple #[frOf (if (decB l).1 = 0 then parseB (decB l).2.2 else .error 0), .int .i64 ((decB l).2.1 : Nat), .int .i64 ((decB l).1 : Nat)]
theorem opn_at : ∀ (l : List Nat) (r : Nat × Nat) (out : List Nat) (i : Nat), (opnB r out i l).2.1 ≤ i + l.length := by
  intro l
  induction l with
  | nil => intro r out i; rw [opnB_nil]; split <;> exact Nat.le_refl _
  | cons b l ih =>
    intro r out i
    rw [opnB_cons]
    split
    · exact Nat.le_add_right _ _
    · split
      · exact Nat.zero_le _
      · cases uStep (some (r, out)) b with
        | none => exact Nat.le_add_right _ _
        | some s =>
          have := ih s.1 s.2 (i + 1)
          simp only [List.length_cons]
          show (opnB s.1 s.2 (i + 1) l).2.1 ≤ _
          omega
theorem size_big {l : List Nat} (h : sizeB l = some l.length) : 34 ≤ l.length := by
  unfold sizeB at h
  by_cases h14 : l.length < 14
  · rw [if_pos h14] at h; exact absurd h (by simp)
  · rw [if_neg h14] at h
    by_cases h2 : l.length < (if l[13]?.getD 0 = 0 then 15 else 35) + 4
    · rw [if_pos h2] at h; exact absurd h (by simp)
    · rw [if_neg h2] at h
      have := Option.some.inj h
      have h3 : 15 ≤ (if l[13]?.getD 0 = 0 then 15 else 35) := by split <;> omega
      omega
theorem dec_bad {l : List Nat} (h : (opnB (0, 0) [] 0 l).1 ≠ 0) : decB l = opnB (0, 0) [] 0 l := by unfold decB; rw [if_neg h]
theorem dec_good {l : List Nat} (h : (opnB (0, 0) [] 0 l).1 = 0) : decB l = ((endB (decide (crcOf (opnB (0, 0) [] 0 l).2.2 0 = 0)) 10 (opnB (0, 0) [] 0 l).2.1 0 (l.drop (opnB (0, 0) [] 0 l).2.1)).1, (endB (decide (crcOf (opnB (0, 0) [] 0 l).2.2 0 = 0)) 10 (opnB (0, 0) [] 0 l).2.1 0 (l.drop (opnB (0, 0) [] 0 l).2.1)).2, (opnB (0, 0) [] 0 l).2.2) := by unfold decB; rw [if_pos h]
/-- Where the ten bits are right, the sum is. -/
theorem end_right : ∀ (k a n : Nat) (l : List Nat), n ≤ 2 → 2 < n + k → (endB false k a n l).1 ≠ 0 := by
  intro k
  induction k with
  | zero => intro a n l h1 h2; omega
  | succ k ih =>
    intro a n l h1 h2
    cases l with
    | nil => rw [endB]; exact (by decide : (2 : Nat) ≠ 0)
    | cons b l =>
      rw [endB]
      split
      · exact (by decide : (3 : Nat) ≠ 0)
      · split
        · exact (by decide : (5 : Nat) ≠ 0)
        · rename_i h3 h4
          exact ih _ _ _ (by have : n ≠ 2 := fun h => h4 ⟨rfl, h⟩; omega) (by omega)
/-- A body that is whole, and whose sum is right, is a frame's. -/
theorem parse_whole {l : List Nat} (hs : sizeB l = some l.length) (h0 : l.head? = some 0) (hc : crcOf l 0 = 0) : ∃ e n r len data, parseB l = .ok (e, n, r, len, data, l.length) ∧ data.length = 8 := by
  have h1 : l[0]?.getD 0 = 0 := by
    cases l
    · simp at h0
    · simp at h0; simp [h0]
  unfold parseB
  rw [if_neg (by rw [h1]; decide), hs]
  simp only
  rw [if_neg (by omega), List.take_of_length_le (Nat.le_refl _), if_pos hc]
  split
  · exact ⟨_, _, _, _, _, rfl, by simp [dataOf]⟩
  · exact ⟨_, _, _, _, _, rfl, by simp [dataOf]⟩
end Go.Proofs.YtmfnkfiocnngeaaDoor
