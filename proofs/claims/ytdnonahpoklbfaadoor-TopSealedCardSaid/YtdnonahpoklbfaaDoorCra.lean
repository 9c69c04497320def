/- The code of package crc, one step: what it returns. Conditions: the divisor's fifteen cells hold what the program lays in them. -/
import Derived.Test.YtdnonahpoklbfaaDoorRga
import Derived.Test.YtdnonahpoklbfaaDoorTwo
namespace Go.Proofs.YtdnonahpoklbfaaDoor
open Go.RowKit Go.Shelf
/-- The divisor's bits, the highest one first. -/
def divBits : List Nat := [1, 0, 0, 0, 1, 0, 1, 1, 0, 0, 1, 1, 0, 0, 1]
/-- The variable's cells hold the divisor. -/
def Tab (W : World) : Prop := ∀ i, i < 15 → W.cell? ⟨0, i, none⟩ = some (.int .u8 ((divBits[i]?.getD 0 : Nat) : Int))
def preD (k : Nat) : Nat := 17817 / 2 ^ (15 - k) * 2 ^ (15 - k)
theorem preD_succ : ∀ k, k < 15 → preD (k + 1) = preD k ^^^ (divBits[k]?.getD 0 * 2 ^ (14 - k)) := by decide
theorem str_one (w : World) (x : Nat) (T : TypeId) : Str (w.alloc (.cells #[.int .u8 (x : Int)] T)).heap.size (w.alloc (.cells #[.int .u8 (x : Int)] T)) (.slice (some ⟨w.heap.size, 0, none⟩) 1 1) [x] :=
  .inr ⟨w.heap.size, 0, 1, rfl, Nat.le_refl _, by omega, by simp, fun j hj => by
    obtain rfl : j = 0 := by simpa using hj
    simp⟩
theorem numB_one (x : Nat) : numB (bitsOf [x]) = bitN x := by
  have h := bitN_le x
  show (2 * 0 + bitN x) % 18446744073709551616 = _
  omega
theorem divBits_le : ∀ k, k < 15 → divBits[k]?.getD 0 ≤ 1 := by decide
theorem idx_at (k : Nat) (hk : k < 15) (w : World) : (Instr.index 44 (.agg #[.int .u8 ((divBits[0]?.getD 0 : Nat) : Int), .int .u8 ((divBits[1]?.getD 0 : Nat) : Int), .int .u8 ((divBits[2]?.getD 0 : Nat) : Int), .int .u8 ((divBits[3]?.getD 0 : Nat) : Int), .int .u8 ((divBits[4]?.getD 0 : Nat) : Int), .int .u8 ((divBits[5]?.getD 0 : Nat) : Int), .int .u8 ((divBits[6]?.getD 0 : Nat) : Int), .int .u8 ((divBits[7]?.getD 0 : Nat) : Int), .int .u8 ((divBits[8]?.getD 0 : Nat) : Int), .int .u8 ((divBits[9]?.getD 0 : Nat) : Int), .int .u8 ((divBits[10]?.getD 0 : Nat) : Int), .int .u8 ((divBits[11]?.getD 0 : Nat) : Int), .int .u8 ((divBits[12]?.getD 0 : Nat) : Int), .int .u8 ((divBits[13]?.getD 0 : Nat) : Int), .int .u8 ((divBits[14]?.getD 0 : Nat) : Int)]) (.int .i64 (k : Int))).run Tryd.prog w = .ok (.int .u8 ((divBits[k]?.getD 0 : Nat) : Int)) w := by
  obtain rfl | rfl | rfl | rfl | rfl | rfl | rfl | rfl | rfl | rfl | rfl | rfl | rfl | rfl | rfl : k = 0 ∨ k = 1 ∨ k = 2 ∨ k = 3 ∨ k = 4 ∨ k = 5 ∨ k = 6 ∨ k = 7 ∨ k = 8 ∨ k = 9 ∨ k = 10 ∨ k = 11 ∨ k = 12 ∨ k = 13 ∨ k = 14 := by omega
  all_goals kernel_rfl
theorem Tab.on {W X : World} (h : Tab W) (hb : Below W.heap.size W X) (h0 : 0 < W.heap.size) : Tab X := fun i hi => (hb.cell (p := ⟨0, i, none⟩) h0).trans (h i hi)
theorem preD_lt : ∀ k, k < 16 → preD k < 32768 := by decide
theorem step_round {d t k z m : Nat} (ht : t ≤ 1) (hk : k < 15) (hz : z = divBits[k]?.getD 0) (hm : m = d ^^^ t * preD k) : m ^^^ (t * z * 2 ^ (14 - k)) = d ^^^ t * preD (k + 1) := by
  subst hm hz
  obtain rfl | rfl : t = 0 ∨ t = 1 := by omega
  · simp
  · rw [Nat.one_mul, Nat.one_mul, Nat.one_mul, preD_succ k hk, Nat.xor_assoc]
theorem and_bit {t z : Nat} (ht : t ≤ 1) (hz : z ≤ 1) : t &&& z = t * z := by
  obtain rfl | rfl : t = 0 ∨ t = 1 := by omega
  · simp
  · obtain rfl | rfl : z = 0 ∨ z = 1 := by omega
    · rfl
    · rfl
theorem step_end {s h v t d m : Nat} (hv : v ≤ 1) (hh : h = s / 16384 % 2) (ht : t = h ^^^ v) (hd : d = s * 2 % 65536) (hm : m = d ^^^ t * preD 15) : m % 32768 = crcStep (s % 32768) v := by
  have e : d % 32768 = s % 32768 * 2 % 32768 := by omega
  have h1 : h ≤ 1 := by omega
  have ht1 : t % 2 = t := by
    rw [ht]
    obtain e0 | e0 : h = 0 ∨ h = 1 := by omega
    · obtain e1 | e1 : v = 0 ∨ v = 1 := by omega
      · rw [e0, e1]; rfl
      · rw [e0, e1]; rfl
    · obtain e1 | e1 : v = 0 ∨ v = 1 := by omega
      · rw [e0, e1]; rfl
      · rw [e0, e1]; rfl
  unfold crcStep
  rw [top_is (Nat.mod_lt _ (by omega)), hm, show (32768 : Nat) = 2 ^ 15 from rfl, Nat.xor_mod_two_pow, show (2 : Nat) ^ 15 = 32768 from rfl, e]
  congr 1
  have h3 : decide (16384 ≤ s % 32768) = (h == 1) := by
    rw [Bool.eq_iff_iff]
    simp
    omega
  rw [h3, ht]
  have hp : preD 15 = 17817 := by decide
  rw [hp]
  obtain e0 | e0 : h = 0 ∨ h = 1 := by omega
  · obtain e1 | e1 : v = 0 ∨ v = 1 := by omega
    · rw [e0, e1]; rfl
    · rw [e0, e1]; rfl
  · obtain e1 | e1 : v = 0 ∨ v = 1 := by omega
    · rw [e0, e1]; rfl
    · rw [e0, e1]; rfl
set_option maxHeartbeats 400000 in
theorem step_any (s x : Nat) (hs : s < 65536) (w : World) (h0 : 0 < w.heap.size) (hT : Tab w) : Calls Tryd.prog 11 #[.int .u16 s, .int .u8 x] w fun e w' => e = .returned (.int .u16 (crcStep (s % 32768) (bitN x) : Nat)) ∧ Below w.heap.size w w' := by
  have HT := Lib.hid hT
  clear hT
  obtain ⟨h, hh⟩ : ∃ h, h = s / 16384 % 2 := ⟨_, rfl⟩
  have e1 : bits .and .u16 ((s : Int) / 16384) 1 = (h : Int) := by
    rw [show ((s : Int) / 16384) = ((s / 16384 : Nat) : Int) by omega, hh]
    have := u16_and_nat (s / 16384) 1 (by omega) (by omega)
    rw [Nat.and_one_is_mod] at this
    exact this
  obtain ⟨v, hv⟩ : ∃ v, v = bitN x := ⟨_, rfl⟩
  have hv1 : v ≤ 1 := by rw [hv]; exact bitN_le _
  obtain ⟨t, ht⟩ : ∃ t, t = h ^^^ v := ⟨_, rfl⟩
  have e2 : bits .xor .u16 (h : Int) (v : Int) = (t : Int) := by rw [ht]; exact u16_xor_nat h v (by omega) (by omega)
  have e2' : IntKind.u16.wrap (v : Int) = (v : Int) := by rw [IntKind.wrap_u16]; omega
  have ht1 : t ≤ 1 := by
    rw [ht]
    obtain e0 | e0 : h = 0 ∨ h = 1 := by omega
    · rw [e0, Nat.zero_xor]; exact hv1
    · obtain e1 | e1 : v = 0 ∨ v = 1 := by omega
      · rw [e0, e1]; decide
      · rw [e0, e1]; decide
  obtain ⟨d, hd⟩ : ∃ d, d = s * 2 % 65536 := ⟨_, rfl⟩
  have e3 : IntKind.u16.wrap ((s : Int) * 2) = (d : Int) := by rw [IntKind.wrap_u16]; omega
  have hN := fun T => number_any _ 1 1 [x] (by simp) _ (str_one w x T)
  have HN := Lib.hid hN
  rw [numB_one, ← hv] at HN
  have HH := Lib.hid hh; have HV := Lib.hid hv; have HTT := Lib.hid ht; have HD := Lib.hid hd
  clear hh hv ht hd hN
  go_enter Tryd.func11, Tryd.ntmps11
  go_wp2_with (fail)
  refine (HN.out _).mono ?_
  rintro e w1 ⟨rfl, hb⟩
  have hB : Below w.heap.size w w1 := below_trans' ((Below.refl _ w).alloc (Nat.le_refl _) _) hb
  have T1 := HT.out.on hB h0
  unfold Tab at T1
  have HB := Lib.hid hB
  clear hb hB
  go_wp2_with (fail)
  go_loopw [0, 21] (fun s i wr => ∃ (k m : Nat), k ≤ 15 ∧ i = .int .i64 k ∧ s = .int .u16 m ∧ m = d ^^^ t * preD k ∧ wr = w1) (fun _ i _ => 15 - (intOf i).toNat)
  case atStart => exact ⟨0, d, Nat.zero_le _, rfl, rfl, by simp [preD], rfl⟩
  case round =>
    obtain ⟨k, m, hk, rfl, rfl, hm, rfl⟩ := hrel
    have HM := Lib.hid hm; clear hm
    by_cases hlt : k < 15
    · obtain ⟨z, hz⟩ : ∃ z, z = divBits[k]?.getD 0 := ⟨_, rfl⟩
      have hidx := fun u => idx_at k hlt u
      rw [← hz] at hidx
      have hz1 : z ≤ 1 := by rw [hz]; exact divBits_le k hlt
      have HZ := Lib.hid hz
      clear hz
      have hw8 : IntKind.u16.wrap (z : Int) = (z : Int) := by rw [IntKind.wrap_u16]; omega
      go_wp2_with (fail)
      go_roundw
      case rel =>
        have hm := HM.out
        have hml : m < 65536 := by
          rw [hm]
          have h1 := preD_lt k (by omega)
          have h2 : t * preD k < 65536 := by
            obtain e | e : t = 0 ∨ t = 1 := by omega
            · rw [e]; omega
            · rw [e]; omega
          have h3 : d < 65536 := by rw [HD.out]; omega
          exact Nat.xor_lt_two_pow (n := 16) h3 h2
        have hp : 2 ^ (14 - k) ≤ 2 ^ 14 := Nat.pow_le_pow_right (by omega) (by omega)
        have htz : t * z ≤ 1 := by
          obtain e | e : t = 0 ∨ t = 1 := by omega
          · rw [e]; omega
          · rw [e]; omega
        have hq : t * z * 2 ^ (14 - k) ≤ 2 ^ 14 := Nat.le_trans (Nat.mul_le_mul htz hp) (by omega)
        have ea : bits .and .u16 (t : Int) (z : Int) = ((t * z : Nat) : Int) := by rw [u16_and_nat t z (by omega) (by omega), and_bit ht1 hz1]
        have eb : IntKind.u16.wrap (((t * z : Nat) : Int) * 2 ^ (14 - k)) = ((t * z * 2 ^ (14 - k) : Nat) : Int) := by
          rw [show ((t * z : Nat) : Int) * 2 ^ (14 - k) = ((t * z * 2 ^ (14 - k) : Nat) : Int) by simp, IntKind.wrap_u16]
          omega
        refine ⟨k + 1, d ^^^ t * preD (k + 1), by omega, by simp, ?_, rfl, trivial⟩
        rw [ea, eb, u16_xor_nat m _ hml (by omega), step_round ht1 hlt HZ.out hm]
      case measure => simp [intOf]; omega
    · obtain rfl : k = 15 := by omega
      go_wp2
      go_ret
      refine ⟨?_, HB.out⟩
      have hm := HM.out
      have hml : m < 65536 := by
        rw [hm]
        have h2 : t * preD 15 < 65536 := by
          have hp : preD 15 = 17817 := by decide
          obtain e | e : t = 0 ∨ t = 1 := by omega
          · rw [e]; omega
          · rw [e, hp]; omega
        have h3 : d < 65536 := by rw [HD.out]; omega
        exact Nat.xor_lt_two_pow (n := 16) h3 h2
      have ea : bits .and .u16 (m : Int) 32767 = ((m % 32768 : Nat) : Int) := by
        have := u16_and_nat m 32767 hml (by omega)
        rw [show (32767 : Nat) = 2 ^ 15 - 1 from rfl, Nat.and_two_pow_sub_one_eq_mod] at this
        exact this
      show Ending.returned (.int .u16 (bits .and .u16 (m : Int) 32767)) = _
      rw [ea, step_end hv1 HH.out HTT.out HD.out hm, HV.out]
end Go.Proofs.YtdnonahpoklbfaaDoor
