/- What shortest of package strand returns: how long the shortest string is. Conditions: none but that the strings are strings. -/
import Derived.Test.YtodeaddmachcjaaStc
namespace Go.Proofs.Ytodeaddmachcjaa
open Go.RowKit Go.Shelf
/-- The slice value sv holds slice values, each of which holds a string; or it is empty. -/
def Strs (n₀ : Nat) (W : World) (sv : Value) (L : List (Value × List Nat)) : Prop :=
  (∃ a cap, sv = .slice a 0 cap ∧ cap ≤ 9223372036854775807 ∧ L = []) ∨ ∃ b off cap, sv = .slice (some ⟨b, off, none⟩) L.length cap ∧ L.length ≤ cap ∧ cap ≤ 9223372036854775807 ∧ b < n₀ ∧
    (∀ j p, L[j]? = some p → W.cell? ⟨b, off + j, none⟩ = some p.1) ∧ ∀ p ∈ L, Str n₀ W p.1 p.2 ∧ ∃ a cap, p.1 = .slice a p.2.length cap
theorem Strs.below {n₀ : Nat} {A B : World} (h : Below n₀ A B) {sv : Value} {L : List (Value × List Nat)} : Strs n₀ A sv L → Strs n₀ B sv L
  | .inl e => .inl e
  | .inr ⟨b, off, cap, e, h1, h2, hb, hc, hs⟩ => .inr ⟨b, off, cap, e, h1, h2, hb, fun j p hj => (h.cell (p := ⟨b, off + j, none⟩) hb).trans (hc j p hj), fun p hp => ⟨(hs p hp).1.below h, (hs p hp).2⟩⟩
theorem Strs.mono {n₀ n₁ : Nat} (h : n₀ ≤ n₁) {A : World} {sv : Value} {L : List (Value × List Nat)} : Strs n₀ A sv L → Strs n₁ A sv L
  | .inl e => .inl e
  | .inr ⟨b, off, cap, e, h1, h2, hb, hc, hs⟩ => .inr ⟨b, off, cap, e, h1, h2, Nat.lt_of_lt_of_le hb h, hc, fun p hp => ⟨(hs p hp).1.mono h, (hs p hp).2⟩⟩
/-- How long the shortest is; 0 of none. -/
def leastN : List (List Nat) → Nat
  | [] => 0
  | x :: r => r.foldl (fun m y => min m y.length) x.length
theorem foldl_min_le (r : List (List Nat)) : ∀ (m : Nat), r.foldl (fun m y => min m y.length) m ≤ m ∧ ∀ y ∈ r, r.foldl (fun m y => min m y.length) m ≤ y.length := by
  induction r with
  | nil => intro m; simp
  | cons x r ih =>
    intro m
    obtain ⟨h1, h2⟩ := ih (min m x.length)
    refine ⟨by simp only [List.foldl_cons]; omega, fun y hy => ?_⟩
    simp only [List.foldl_cons]
    rcases List.mem_cons.1 hy with rfl | hy
    · omega
    · exact h2 y hy
theorem leastN_le {L : List (List Nat)} {b : List Nat} (h : b ∈ L) : leastN L ≤ b.length := by
  cases L with
  | nil => cases h
  | cons x r =>
    obtain ⟨h1, h2⟩ := foldl_min_le r x.length
    rcases List.mem_cons.1 h with rfl | h
    · exact h1
    · exact h2 b h
/-- After k of them. -/
def leastTo (L : List (Value × List Nat)) (m k : Nat) : Nat := (L.take k).foldl (fun m y => min m y.2.length) m
theorem leastTo_succ (L : List (Value × List Nat)) (m k : Nat) (p : Value × List Nat) (h : L[k]? = some p) : leastTo L m (k + 1) = min (leastTo L m k) p.2.length := by
  unfold leastTo
  rw [List.take_add_one, h]; simp
theorem leastTo_all (x : Value × List Nat) (r : List (Value × List Nat)) : leastTo (x :: r) x.2.length (x :: r).length = leastN ((x :: r).map (·.2)) := by
  unfold leastTo leastN
  rw [List.take_length, List.map_cons, List.foldl_cons, Nat.min_self]
  show _ = (r.map (·.2)).foldl (fun m y => min m y.length) x.2.length
  rw [List.foldl_map]
end Go.Proofs.Ytodeaddmachcjaa
