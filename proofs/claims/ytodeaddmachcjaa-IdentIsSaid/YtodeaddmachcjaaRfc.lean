/- The document's own Pack in plain words: what it returns. Conditions: strings are strings, and not longer than a thousand. -/
import Derived.Test.YtodeaddmachcjaaRfb
namespace Go.Proofs.Ytodeaddmachcjaa
open Go.RowKit Go.Shelf
theorem or_add {a b e : Nat} (hb : b ≤ 1) : (2 ^ (e + 1) * a) ||| (b * 2 ^ e) = 2 ^ (e + 1) * a + b * 2 ^ e := by
  have hp : 0 < 2 ^ e := Nat.two_pow_pos e
  have h : b * 2 ^ e < 2 ^ (e + 1) := by
    rw [Nat.pow_succ]
    have : b * 2 ^ e ≤ 1 * 2 ^ e := Nat.mul_le_mul_right _ hb
    omega
  exact (Nat.two_pow_add_eq_or_of_lt h a).symm
theorem packOn_low (bs : List Nat) (q : Nat) : ∀ k, k ≤ 8 * q + 8 → ∃ a, packOn bs (List.range k) q = 2 ^ (8 * q + 8 - k) * a
  | 0, _ => ⟨0, rfl⟩
  | k + 1, hk => by
    obtain ⟨a, ha⟩ := packOn_low bs q k (by omega)
    have e : 8 * q + 8 - k = (8 * q + 8 - (k + 1)) + 1 := by omega
    rw [List.range_succ, packOn_snoc, ha, e]
    split
    · rename_i hq
      rw [show 7 - k % 8 = 8 * q + 8 - (k + 1) by omega, or_add (bitAt_le bs k)]
      refine ⟨2 * a + bitAt bs k, ?_⟩
      rw [Nat.pow_succ, Nat.mul_add, Nat.mul_assoc, Nat.mul_comm (bitAt bs k)]
    · exact ⟨2 * a, by rw [Nat.pow_succ, Nat.mul_assoc]⟩
theorem packOn_add (bs : List Nat) (k : Nat) (h : bitAt bs k = 1) : packOn bs (List.range (k + 1)) (k / 8) = packOn bs (List.range k) (k / 8) + 2 ^ (7 - k % 8) := by
  obtain ⟨a, ha⟩ := packOn_low bs (k / 8) k (by omega)
  have e : 8 * (k / 8) + 8 - k = (7 - k % 8) + 1 := by omega
  rw [List.range_succ, packOn_snoc, if_pos rfl, ha, e, h, or_add (Nat.le_refl 1), Nat.one_mul]
theorem packOn_else (bs : List Nat) (k j : Nat) (h : j ≠ k / 8) : packOn bs (List.range (k + 1)) j = packOn bs (List.range k) j := by
  rw [List.range_succ, packOn_snoc, if_neg (fun e => h e.symm)]
theorem packOn_none (bs : List Nat) (k j : Nat) (h : bitAt bs k = 0) : packOn bs (List.range (k + 1)) j = packOn bs (List.range k) j := by
  rw [List.range_succ, packOn_snoc, h]
  simp
end Go.Proofs.Ytodeaddmachcjaa
