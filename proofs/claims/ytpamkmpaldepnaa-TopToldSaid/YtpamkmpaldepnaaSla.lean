/- Mathematics of words and their frames: a number's lowest bytes, the highest one first, and the way back. No conditions. -/
import Derived.Test.YtpamkmpaldepnaaBas
namespace Go.Proofs.Ytpamkmpaldepnaa
open Go.RowKit
theorem byte_bits (b m : Nat) (hb : b < 256) (h : ∀ s, s < 8 → b / 2 ^ s % 2 = m / 2 ^ s % 2) : b = m % 256 := by
  have h0 := h 0 (by omega); have h1 := h 1 (by omega); have h2 := h 2 (by omega); have h3 := h 3 (by omega)
  have h4 := h 4 (by omega); have h5 := h 5 (by omega); have h6 := h 6 (by omega); have h7 := h 7 (by omega)
  simp only [Nat.reducePow] at h0 h1 h2 h3 h4 h5 h6 h7
  omega
/-- A number's k lowest bytes, the highest one first. -/
def beB (k n : Nat) : List Nat := (List.range k).map (fun j => n / 256 ^ (k - 1 - j) % 256)
theorem beB_length (k n : Nat) : (beB k n).length = k := by simp [beB]
theorem pack_be (k n : Nat) : packB (ofB n (8 * k)) = beB k n := by
  have hl : (packB (ofB n (8 * k))).length = k := by rw [packB_length, ofB_length]; omega
  have hu : unpB (packB (ofB n (8 * k))) (8 * k) = ofB n (8 * k) := by
    have h := unp_pack (ofB n (8 * k))
    rw [ofB_length, bitsOf_ofB] at h
    exact h
  apply List.ext_getElem
  · rw [hl, beB_length]
  · intro j h1 h2
    have hj : j < k := by omega
    have hg : (packB (ofB n (8 * k)))[j] = (packB (ofB n (8 * k)))[j]?.getD 0 := by rw [List.getElem?_eq_getElem h1]; rfl
    have hb := packB_byte (ofB n (8 * k)) j
    have hr : (beB k n)[j] = n / 256 ^ (k - 1 - j) % 256 := by simp [beB]
    rw [hr, hg]
    apply byte_bits _ _ hb
    intro s hs
    have e1 := unpB_get (packB (ofB n (8 * k))) (8 * k) (8 * j + (7 - s)) (by omega)
    rw [hu, ofB_get _ _ _ (by omega)] at e1
    unfold bitFrom bitOfB at e1
    rw [show (8 * j + (7 - s)) / 8 = j by omega, show 7 - (8 * j + (7 - s)) % 8 = s by omega] at e1
    rw [← e1, Nat.div_div_eq_div_mul, show 8 * k - 1 - (8 * j + (7 - s)) = 8 * (k - 1 - j) + s by omega, Nat.pow_add, Nat.pow_mul]
theorem unp_be (k n : Nat) : unpB (beB k n) (8 * k) = ofB n (8 * k) := by
  have h := unp_pack (ofB n (8 * k))
  rw [ofB_length, bitsOf_ofB, pack_be] at h
  exact h
theorem numB_be (k n : Nat) (hk : k ≤ 8) (hn : n < 2 ^ (8 * k)) : numB (bitsOf (unpB (beB k n) (8 * k))) = n := by
  rw [unp_be, bitsOf_ofB, numB_ofB _ _ (by omega), Nat.mod_eq_of_lt hn]
theorem beB_2 (n : Nat) : beB 2 n = [n / 256 % 256, n % 256] := by
  simp [beB, List.range_succ]
theorem beB_6 (n : Nat) : beB 6 n = [n / 1099511627776 % 256, n / 4294967296 % 256, n / 16777216 % 256, n / 65536 % 256, n / 256 % 256, n % 256] := by
  simp [beB, List.range_succ]
theorem be_of2 (a b : Nat) (ha : a < 256) (hb : b < 256) : [a, b] = beB 2 (a * 256 + b) := by
  rw [beB_2, show (a * 256 + b) / 256 % 256 = a by omega, show (a * 256 + b) % 256 = b by omega]
def be6 (a b c d e f : Nat) : Nat := ((((a * 256 + b) * 256 + c) * 256 + d) * 256 + e) * 256 + f
theorem be_of6 (a b c d e f : Nat) (ha : a < 256) (hb : b < 256) (hc : c < 256) (hd : d < 256) (he : e < 256) (hf : f < 256) : [a, b, c, d, e, f] = beB 6 (be6 a b c d e f) := by
  unfold be6
  rw [beB_6]
  have q1 : (((((a * 256 + b) * 256 + c) * 256 + d) * 256 + e) * 256 + f) / 1099511627776 % 256 = a := by omega
  have q2 : (((((a * 256 + b) * 256 + c) * 256 + d) * 256 + e) * 256 + f) / 4294967296 % 256 = b := by omega
  have q3 : (((((a * 256 + b) * 256 + c) * 256 + d) * 256 + e) * 256 + f) / 16777216 % 256 = c := by omega
  have q4 : (((((a * 256 + b) * 256 + c) * 256 + d) * 256 + e) * 256 + f) / 65536 % 256 = d := by omega
  have q5 : (((((a * 256 + b) * 256 + c) * 256 + d) * 256 + e) * 256 + f) / 256 % 256 = e := by omega
  have q6 : (((((a * 256 + b) * 256 + c) * 256 + d) * 256 + e) * 256 + f) % 256 = f := by omega
  rw [q1, q2, q3, q4, q5, q6]
theorem be6_lt (a b c d e f : Nat) (ha : a < 256) (hb : b < 256) (hc : c < 256) (hd : d < 256) (he : e < 256) (hf : f < 256) : be6 a b c d e f < 281474976710656 := by unfold be6; omega
theorem be6_back (n : Nat) (h : n < 281474976710656) : be6 (n / 1099511627776 % 256) (n / 4294967296 % 256) (n / 16777216 % 256) (n / 65536 % 256) (n / 256 % 256) (n % 256) = n := by unfold be6; omega
/-- Can a word be? -/
def rightW (f : Bool) (r n t : Int) : Bool := decide ((0 ≤ r ∧ r < 32) ∧ (0 ≤ n ∧ n < 65536) ∧ (0 ≤ t ∧ t < 281474976710656) ∧ (f = true ∨ t = 0))
theorem rightW_yes {f : Bool} {r n t : Int} (h : (0 ≤ r ∧ r < 32) ∧ (0 ≤ n ∧ n < 65536) ∧ (0 ≤ t ∧ t < 281474976710656) ∧ (f = true ∨ t = 0)) : rightW f r n t = true := decide_eq_true h
theorem rightW_no {f : Bool} {r n t : Int} (h : ¬ ((0 ≤ r ∧ r < 32) ∧ (0 ≤ n ∧ n < 65536) ∧ (0 ≤ t ∧ t < 281474976710656) ∧ (f = true ∨ t = 0))) : rightW f r n t = false := decide_eq_false h
theorem rightW_of {f : Bool} {r n t : Int} (h : rightW f r n t = true) : (0 ≤ r ∧ r < 32) ∧ (0 ≤ n ∧ n < 65536) ∧ (0 ≤ t ∧ t < 281474976710656) ∧ (f = true ∨ t = 0) := of_decide_eq_true h
end Go.Proofs.Ytpamkmpaldepnaa
