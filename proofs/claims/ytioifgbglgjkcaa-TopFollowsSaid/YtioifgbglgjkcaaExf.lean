/- What the library's division of 128 bits by 64 returns: the quotient and what is left. Conditions: the higher half is below the divisor. -/
import Derived.Test.YtioifgbglgjkcaaExc
import Derived.LoopTactic
import Derived.Lib.Hide
import Derived.Outline
import Derived.Deep.QuietTactic
import Derived.BigQuiet
namespace Go.Proofs.Ytioifgbglgjkcaa
open Go.RowKit
theorem ret_uu {a b c d : Int} (h1 : a = c) (h2 : b = d) : Ending.returned (.tuple #[.int .u64 a, .int .u64 b]) = .returned (.tuple #[.int .u64 c, .int .u64 d]) := by rw [h1, h2]
theorem wn (a : Nat) (ha : a < 18446744073709551616) : IntKind.u64.wrap (a : Int) = (a : Int) := by rw [IntKind.wrap_u64]; omega
theorem wq (a b : Nat) (ha : a < 18446744073709551616) : IntKind.u64.wrap ((a : Int) / b) = ((a / b : Nat) : Int) := by
  have := Nat.div_le_self a b
  rw [← Int.natCast_ediv, wn _ (by omega)]
theorem guess_start (u v y1 y0 : Nat) (h1 : 2147483648 ≤ y1) (hv : v < 4294967296) : (u * 4294967296 + v) / (y1 * 4294967296 + y0) ≤ u / y1 := by
  have e : (u * 4294967296 + v) / 4294967296 = u := by omega
  calc (u * 4294967296 + v) / (y1 * 4294967296 + y0) ≤ (u * 4294967296 + v) / (y1 * 4294967296) := Nat.div_le_div_left (by omega) (by omega)
    _ = (u * 4294967296 + v) / 4294967296 / y1 := by rw [Nat.mul_comm y1, Nat.div_div_eq_div_mul]
    _ = u / y1 := by rw [e]
theorem wm (a b : Nat) (h : a * b < 18446744073709551616) : IntKind.u64.wrap ((a : Int) * b) = ((a * b : Nat) : Int) := by
  rw [← Int.natCast_mul, wn _ h]
theorem ws (a b : Nat) (ha : a < 18446744073709551616) (h : b ≤ a) : IntKind.u64.wrap ((a : Int) - b) = ((a - b : Nat) : Int) := by
  rw [← Int.ofNat_sub h, wn _ (by omega)]
set_option maxHeartbeats 400000 in
theorem div64_low (l y : Nat) (hl : l < 18446744073709551616) (hy : 1 ≤ y) (hy2 : y < 18446744073709551616) (w : World) :
    Calls Try.prog 71 #[.int .u64 0, .int .u64 l, .int .u64 y] w fun e w' => e = .returned (.tuple #[.int .u64 ((l / y : Nat) : Int), .int .u64 ((l % y : Nat) : Int)]) ∧ ∃ n, w' = w.drewN n := by
  have h0 : ((y : Int) == 0) = false := by simp; omega
  go_enter Try.func71, Try.ntmps71
  go_wp2
  go_quiet (fail)
  go_wp2
  go_ret2
  exact ⟨ret_uu (wq l y hl) (by simp), _, rfl⟩
/-- The guess and what it leaves, at the head of the library's loop. -/
def guessRel (u y1 Q : Nat) (a b : Value) : Prop := ∃ q r : Nat, a = .int .u64 q ∧ b = .int .u64 r ∧ q * y1 + r = u ∧ Q ≤ q ∧ q ≤ 4294967297 ∧ r < 4294967296
theorem guess_le {u v y1 y0 q r : Nat} (h : q * y1 + r = u) (hy : 0 < y1) : q ≤ (u * 4294967296 + v) / (y1 * 4294967296 + y0) ↔ q * y0 ≤ 4294967296 * r + v := by
  rw [Nat.le_div_iff_mul_le (by omega), ← h, Nat.mul_add, Nat.add_mul, ← Nat.mul_assoc]
  omega
set_option maxHeartbeats 400000 in
set_option maxRecDepth 100000 in
theorem div64_core (h l y Y u v10 y1 y0 v1 v0 s Q1 u21 Q0 : Nat) (hh : 1 ≤ h) (hy : h < y) (hy2 : y < 18446744073709551616) (hs63 : s ≤ 63)
    (hsi : (64 - (Lib.bitLen (y : Int).toNat : Int)) = (s : Int)) (eY : IntKind.u64.wrap ((y : Int) * 2 ^ s) = Y) (eY1 : (Y : Int) / 4294967296 = y1) (eY0 : bits .and .u64 (Y : Int) 4294967295 = y0)
    (eU : bits .or .u64 (IntKind.u64.wrap ((h : Int) * 2 ^ s)) ((l : Int) / 2 ^ (64 - s)) = u) (eV : IntKind.u64.wrap ((l : Int) * 2 ^ s) = v10) (eV1 : (v10 : Int) / 4294967296 = v1) (eV0 : bits .and .u64 (v10 : Int) 4294967295 = v0)
    (hy1 : 2147483648 ≤ y1) (hy1b : y1 < 4294967296) (hy0 : y0 < 4294967296) (hv1 : v1 < 4294967296) (hv0 : v0 < 4294967296) (hu : u < 18446744073709551616)
    (hQ1 : Q1 = (u * 4294967296 + v1) / (y1 * 4294967296 + y0)) (hQ1b : Q1 < 4294967296) (hub : u / y1 ≤ 4294967297)
    (e21 : IntKind.u64.wrap (IntKind.u64.wrap (IntKind.u64.wrap ((u : Int) * 4294967296) + v1) - IntKind.u64.wrap ((Q1 : Int) * Y)) = u21)
    (hu21 : u21 < 18446744073709551616) (hQ0 : Q0 = (u21 * 4294967296 + v0) / (y1 * 4294967296 + y0)) (hQ0b : Q0 < 4294967296) (hub0 : u21 / y1 ≤ 4294967297)
    (w : World) :
    Calls Try.prog 71 #[.int .u64 h, .int .u64 l, .int .u64 y] w fun e w' => e = .returned (.tuple #[.int .u64 ((Q1 : Int) * 4294967296 + Q0), .int .u64 (IntKind.u64.wrap (IntKind.u64.wrap (IntKind.u64.wrap ((u21 : Int) * 4294967296) + v0) - IntKind.u64.wrap ((Q0 : Int) * Y)) / 2 ^ s)]) ∧ w' = w := by
  have HQ1 := Lib.hid hQ1; clear hQ1
  have HQ0 := Lib.hid hQ0; clear hQ0
  have HUB := Lib.hid hub; clear hub
  have HUB0 := Lib.hid hub0; clear hub0
  have h0 : ((y : Int) == 0) = false := by simp; omega
  have h1 : ((h : Int) == 0) = false := by simp; omega
  have h2 : ¬ ((y1 : Int) = 0) := by omega
  have h3 : ((y1 : Int) == 0) = false := by simp; omega
  go_enter Try.func71, Try.ntmps71
  go_wp2_with (go_at_call 84; refine (Try.bits_LeadingZeros64 (y : Int) _ (by omega) (by omega)).mono ?_; rintro e w' ⟨rfl, rfl⟩; rw [hsi]; clear hsi)
  go_loop [15, 16] (guessRel u y1 Q1) (fun a _ => (intOf a).toNat)
  case atStart =>
    have e1 := Nat.div_mul_le_self u y1
    have e2 := Nat.mod_lt u (show y1 > 0 by omega)
    have e3 := Nat.div_add_mod u y1
    rw [Nat.mul_comm] at e3
    rw [wq u y1 hu, wm _ _ (by omega), ws _ _ hu e1]
    refine ⟨u / y1, u - u / y1 * y1, rfl, rfl, by omega, ?_, HUB.out, by omega⟩
    rw [HQ1.out]
    exact guess_start _ _ _ _ hy1 hv1
  case round =>
    obtain ⟨q, r, rfl, rfl, hqr, hqQ, hqb, hrb⟩ := hrel
    have HQR := Lib.hid hqr; clear hqr
    by_cases hq : q ≤ Q1
    · obtain rfl : Q1 = q := by omega
      have hm := (guess_le (v := v1) (y0 := y0) HQR.out (by omega)).1 (by rw [← HQ1.out]; exact Nat.le_refl _)
      obtain ⟨m, hm2⟩ : ∃ m, m = Q1 * y0 := ⟨_, rfl⟩
      rw [← hm2] at hm
      have em : IntKind.u64.wrap ((Q1 : Int) * y0) = (m : Int) := by rw [hm2, wm _ _ (by omega)]
      have hx : ¬ (4294967296 ≤ (Q1 : Int)) := by omega
      have hy' : ¬ (4294967296 * (r : Int) + v1 < m) := by omega
      clear hm2 hqQ hq hm HQR hqb
      go_wp2_with (fail)
      go_loop [18, 16] (guessRel u21 y1 Q0) (fun a _ => (intOf a).toNat)
      case atStart =>
        have e1 := Nat.div_mul_le_self u21 y1
        have e2 := Nat.mod_lt u21 (show y1 > 0 by omega)
        have e3 := Nat.div_add_mod u21 y1
        rw [Nat.mul_comm] at e3
        rw [wq u21 y1 hu21, wm _ _ (by omega), ws _ _ hu21 e1]
        refine ⟨u21 / y1, u21 - u21 / y1 * y1, rfl, rfl, by omega, ?_, HUB0.out, by omega⟩
        rw [HQ0.out]
        exact guess_start _ _ _ _ hy1 hv0
      case round =>
        obtain ⟨q, r, rfl, rfl, hqr, hqQ, hqb, hrb⟩ := hrel
        have HQR := Lib.hid hqr; clear hqr
        by_cases hq : q ≤ Q0
        · obtain rfl : Q0 = q := by omega
          have hm := (guess_le (v := v0) (y0 := y0) HQR.out (by omega)).1 (by rw [← HQ0.out]; exact Nat.le_refl _)
          obtain ⟨m, hm2⟩ : ∃ m, m = Q0 * y0 := ⟨_, rfl⟩
          rw [← hm2] at hm
          have em : IntKind.u64.wrap ((Q0 : Int) * y0) = (m : Int) := by rw [hm2, wm _ _ (by omega)]
          have hx : ¬ (4294967296 ≤ (Q0 : Int)) := by omega
          have hy' : ¬ (4294967296 * (r : Int) + v0 < m) := by omega
          clear hm2 hqQ hq hm HQR hqb
          go_wp2_with (fail)
          go_ret2
          exact ⟨rfl, rfl⟩
        · obtain ⟨p, hp⟩ : ∃ p, q = p + 1 := ⟨q - 1, by omega⟩
          have hqr2 : p * y1 + (r + y1) = u21 := by have := HQR.out; rw [hp, Nat.add_mul, Nat.one_mul] at this; omega
          have hpy : p * y0 ≤ 4294967296 * 4294967295 := Nat.mul_le_mul (by omega) (by omega)
          have ep : IntKind.u64.wrap ((q : Int) - 1) = (p : Int) := by rw [show (q : Int) - 1 = (p : Int) by omega, wn _ (by omega)]
          have hnot : ¬ (q * y0 ≤ 4294967296 * r + v0) := fun hc => hq (by rw [HQ0.out]; exact (guess_le (v := v0) (y0 := y0) HQR.out (by omega)).2 hc)
          obtain ⟨m, hm2⟩ : ∃ m, m = q * y0 := ⟨_, rfl⟩
          have hmb : q < 4294967296 → m < 18446744073709551616 := fun h => by
            have : q * y0 ≤ 4294967295 * 4294967295 := Nat.mul_le_mul (by omega) (by omega)
            omega
          rw [← hm2] at hnot
          have hlt : 4294967296 * (r : Int) + v0 < m := by omega
          have HPY := Lib.hid hpy
          have HR2 := Lib.hid hqr2
          have HM := Lib.hid hm2
          have HMB := Lib.hid hmb
          have HP := Lib.hid hp
          have hpQ : Q0 ≤ p := by omega
          have hp3 : p ≤ 4294967296 := by omega
          clear hpy hqr2 hm2 hqQ hq hqb hnot HQR hmb hp
          by_cases hbr : 4294967296 ≤ r + y1
          · have hle := (guess_le (v := v0) (y0 := y0) HR2.out (by omega)).2 (by have := HPY.out; omega)
            rw [← HQ0.out] at hle
            obtain rfl : Q0 = p := by omega
            clear hle
            have hbi : (4294967296 : Int) ≤ (r : Int) + y1 := by omega
            clear hbr hpQ hp3
            by_cases hg : 4294967296 ≤ q
            · have hx : (4294967296 : Int) ≤ (q : Int) := by omega
              clear hg hlt
              go_wp2_with (fail)
              go_ret2
              exact ⟨rfl, rfl⟩
            · have em : IntKind.u64.wrap ((q : Int) * y0) = (m : Int) := by rw [HM.out, wm _ _ (by rw [← HM.out]; exact HMB.out (by omega))]
              have hx : ¬ (4294967296 : Int) ≤ (q : Int) := by omega
              clear hg
              go_wp2_with (fail)
              go_ret2
              exact ⟨rfl, rfl⟩
          · have hbi : ¬ (4294967296 : Int) ≤ (r : Int) + y1 := by omega
            by_cases hg : 4294967296 ≤ q
            · have hx : (4294967296 : Int) ≤ (q : Int) := by omega
              clear hg hlt
              go_wp2_with (fail)
              go_round
              case rel => exact ⟨p, r + y1, rfl, by first | rfl | (congr 1), HR2.out, hpQ, by omega, by omega⟩
              case measure => have := HP.out; simp [intOf]; omega
            · have em : IntKind.u64.wrap ((q : Int) * y0) = (m : Int) := by rw [HM.out, wm _ _ (by rw [← HM.out]; exact HMB.out (by omega))]
              have hx : ¬ (4294967296 : Int) ≤ (q : Int) := by omega
              clear hg
              go_wp2_with (fail)
              go_round
              case rel => exact ⟨p, r + y1, rfl, by first | rfl | (congr 1), HR2.out, hpQ, by omega, by omega⟩
              case measure => have := HP.out; simp [intOf]; omega
    · obtain ⟨p, hp⟩ : ∃ p, q = p + 1 := ⟨q - 1, by omega⟩
      have hqr2 : p * y1 + (r + y1) = u := by have := HQR.out; rw [hp, Nat.add_mul, Nat.one_mul] at this; omega
      have hpy : p * y0 ≤ 4294967296 * 4294967295 := Nat.mul_le_mul (by omega) (by omega)
      have ep : IntKind.u64.wrap ((q : Int) - 1) = (p : Int) := by rw [show (q : Int) - 1 = (p : Int) by omega, wn _ (by omega)]
      have hnot : ¬ (q * y0 ≤ 4294967296 * r + v1) := fun hc => hq (by rw [HQ1.out]; exact (guess_le (v := v1) (y0 := y0) HQR.out (by omega)).2 hc)
      obtain ⟨m, hm2⟩ : ∃ m, m = q * y0 := ⟨_, rfl⟩
      have hmb : q < 4294967296 → m < 18446744073709551616 := fun h => by
        have : q * y0 ≤ 4294967295 * 4294967295 := Nat.mul_le_mul (by omega) (by omega)
        omega
      rw [← hm2] at hnot
      have hlt : 4294967296 * (r : Int) + v1 < m := by omega
      have HPY := Lib.hid hpy
      have HR2 := Lib.hid hqr2
      have HM := Lib.hid hm2
      have HMB := Lib.hid hmb
      have HP := Lib.hid hp
      have hpQ : Q1 ≤ p := by omega
      have hp3 : p ≤ 4294967296 := by omega
      clear hpy hqr2 hm2 hqQ hq hqb hnot HQR hmb hp
      by_cases hbr : 4294967296 ≤ r + y1
      · have hle := (guess_le (v := v1) (y0 := y0) HR2.out (by omega)).2 (by have := HPY.out; omega)
        rw [← HQ1.out] at hle
        obtain rfl : Q1 = p := by omega
        clear hle
        have hbi : (4294967296 : Int) ≤ (r : Int) + y1 := by omega
        clear hbr hpQ hp3
        by_cases hg : 4294967296 ≤ q
        · have hx : (4294967296 : Int) ≤ (q : Int) := by omega
          clear hg hlt
          go_wp2_with (fail)
          go_loop [18, 16] (guessRel u21 y1 Q0) (fun a _ => (intOf a).toNat)
          case atStart =>
            have e1 := Nat.div_mul_le_self u21 y1
            have e2 := Nat.mod_lt u21 (show y1 > 0 by omega)
            have e3 := Nat.div_add_mod u21 y1
            rw [Nat.mul_comm] at e3
            rw [wq u21 y1 hu21, wm _ _ (by omega), ws _ _ hu21 e1]
            refine ⟨u21 / y1, u21 - u21 / y1 * y1, rfl, rfl, by omega, ?_, HUB0.out, by omega⟩
            rw [HQ0.out]
            exact guess_start _ _ _ _ hy1 hv0
          case round =>
            obtain ⟨q, r, rfl, rfl, hqr, hqQ, hqb, hrb⟩ := hrel
            have HQR := Lib.hid hqr; clear hqr
            by_cases hq : q ≤ Q0
            · obtain rfl : Q0 = q := by omega
              have hm := (guess_le (v := v0) (y0 := y0) HQR.out (by omega)).1 (by rw [← HQ0.out]; exact Nat.le_refl _)
              obtain ⟨m, hm2⟩ : ∃ m, m = Q0 * y0 := ⟨_, rfl⟩
              rw [← hm2] at hm
              have em : IntKind.u64.wrap ((Q0 : Int) * y0) = (m : Int) := by rw [hm2, wm _ _ (by omega)]
              have hx : ¬ (4294967296 ≤ (Q0 : Int)) := by omega
              have hy' : ¬ (4294967296 * (r : Int) + v0 < m) := by omega
              clear hm2 hqQ hq hm HQR hqb
              go_wp2_with (fail)
              go_ret2
              exact ⟨rfl, rfl⟩
            · obtain ⟨p, hp⟩ : ∃ p, q = p + 1 := ⟨q - 1, by omega⟩
              have hqr2 : p * y1 + (r + y1) = u21 := by have := HQR.out; rw [hp, Nat.add_mul, Nat.one_mul] at this; omega
              have hpy : p * y0 ≤ 4294967296 * 4294967295 := Nat.mul_le_mul (by omega) (by omega)
              have ep : IntKind.u64.wrap ((q : Int) - 1) = (p : Int) := by rw [show (q : Int) - 1 = (p : Int) by omega, wn _ (by omega)]
              have hnot : ¬ (q * y0 ≤ 4294967296 * r + v0) := fun hc => hq (by rw [HQ0.out]; exact (guess_le (v := v0) (y0 := y0) HQR.out (by omega)).2 hc)
              obtain ⟨m, hm2⟩ : ∃ m, m = q * y0 := ⟨_, rfl⟩
              have hmb : q < 4294967296 → m < 18446744073709551616 := fun h => by
                have : q * y0 ≤ 4294967295 * 4294967295 := Nat.mul_le_mul (by omega) (by omega)
                omega
              rw [← hm2] at hnot
              have hlt : 4294967296 * (r : Int) + v0 < m := by omega
              have HPY := Lib.hid hpy
              have HR2 := Lib.hid hqr2
              have HM := Lib.hid hm2
              have HMB := Lib.hid hmb
              have HP := Lib.hid hp
              have hpQ : Q0 ≤ p := by omega
              have hp3 : p ≤ 4294967296 := by omega
              clear hpy hqr2 hm2 hqQ hq hqb hnot HQR hmb hp
              by_cases hbr : 4294967296 ≤ r + y1
              · have hle := (guess_le (v := v0) (y0 := y0) HR2.out (by omega)).2 (by have := HPY.out; omega)
                rw [← HQ0.out] at hle
                obtain rfl : Q0 = p := by omega
                clear hle
                have hbi : (4294967296 : Int) ≤ (r : Int) + y1 := by omega
                clear hbr hpQ hp3
                by_cases hg : 4294967296 ≤ q
                · have hx : (4294967296 : Int) ≤ (q : Int) := by omega
                  clear hg hlt
                  go_wp2_with (fail)
                  go_ret2
                  exact ⟨rfl, rfl⟩
                · have em : IntKind.u64.wrap ((q : Int) * y0) = (m : Int) := by rw [HM.out, wm _ _ (by rw [← HM.out]; exact HMB.out (by omega))]
                  have hx : ¬ (4294967296 : Int) ≤ (q : Int) := by omega
                  clear hg
                  go_wp2_with (fail)
                  go_ret2
                  exact ⟨rfl, rfl⟩
              · have hbi : ¬ (4294967296 : Int) ≤ (r : Int) + y1 := by omega
                by_cases hg : 4294967296 ≤ q
                · have hx : (4294967296 : Int) ≤ (q : Int) := by omega
                  clear hg hlt
                  go_wp2_with (fail)
                  go_round
                  case rel => exact ⟨p, r + y1, rfl, by first | rfl | (congr 1), HR2.out, hpQ, by omega, by omega⟩
                  case measure => have := HP.out; simp [intOf]; omega
                · have em : IntKind.u64.wrap ((q : Int) * y0) = (m : Int) := by rw [HM.out, wm _ _ (by rw [← HM.out]; exact HMB.out (by omega))]
                  have hx : ¬ (4294967296 : Int) ≤ (q : Int) := by omega
                  clear hg
                  go_wp2_with (fail)
                  go_round
                  case rel => exact ⟨p, r + y1, rfl, by first | rfl | (congr 1), HR2.out, hpQ, by omega, by omega⟩
                  case measure => have := HP.out; simp [intOf]; omega
        · have em : IntKind.u64.wrap ((q : Int) * y0) = (m : Int) := by rw [HM.out, wm _ _ (by rw [← HM.out]; exact HMB.out (by omega))]
          have hx : ¬ (4294967296 : Int) ≤ (q : Int) := by omega
          clear hg
          go_wp2_with (fail)
          go_loop [18, 16] (guessRel u21 y1 Q0) (fun a _ => (intOf a).toNat)
          case atStart =>
            have e1 := Nat.div_mul_le_self u21 y1
            have e2 := Nat.mod_lt u21 (show y1 > 0 by omega)
            have e3 := Nat.div_add_mod u21 y1
            rw [Nat.mul_comm] at e3
            rw [wq u21 y1 hu21, wm _ _ (by omega), ws _ _ hu21 e1]
            refine ⟨u21 / y1, u21 - u21 / y1 * y1, rfl, rfl, by omega, ?_, HUB0.out, by omega⟩
            rw [HQ0.out]
            exact guess_start _ _ _ _ hy1 hv0
          case round =>
            obtain ⟨q, r, rfl, rfl, hqr, hqQ, hqb, hrb⟩ := hrel
            have HQR := Lib.hid hqr; clear hqr
            by_cases hq : q ≤ Q0
            · obtain rfl : Q0 = q := by omega
              have hm := (guess_le (v := v0) (y0 := y0) HQR.out (by omega)).1 (by rw [← HQ0.out]; exact Nat.le_refl _)
              obtain ⟨m, hm2⟩ : ∃ m, m = Q0 * y0 := ⟨_, rfl⟩
              rw [← hm2] at hm
              have em : IntKind.u64.wrap ((Q0 : Int) * y0) = (m : Int) := by rw [hm2, wm _ _ (by omega)]
              have hx : ¬ (4294967296 ≤ (Q0 : Int)) := by omega
              have hy' : ¬ (4294967296 * (r : Int) + v0 < m) := by omega
              clear hm2 hqQ hq hm HQR hqb
              go_wp2_with (fail)
              go_ret2
              exact ⟨rfl, rfl⟩
            · obtain ⟨p, hp⟩ : ∃ p, q = p + 1 := ⟨q - 1, by omega⟩
              have hqr2 : p * y1 + (r + y1) = u21 := by have := HQR.out; rw [hp, Nat.add_mul, Nat.one_mul] at this; omega
              have hpy : p * y0 ≤ 4294967296 * 4294967295 := Nat.mul_le_mul (by omega) (by omega)
              have ep : IntKind.u64.wrap ((q : Int) - 1) = (p : Int) := by rw [show (q : Int) - 1 = (p : Int) by omega, wn _ (by omega)]
              have hnot : ¬ (q * y0 ≤ 4294967296 * r + v0) := fun hc => hq (by rw [HQ0.out]; exact (guess_le (v := v0) (y0 := y0) HQR.out (by omega)).2 hc)
              obtain ⟨m, hm2⟩ : ∃ m, m = q * y0 := ⟨_, rfl⟩
              have hmb : q < 4294967296 → m < 18446744073709551616 := fun h => by
                have : q * y0 ≤ 4294967295 * 4294967295 := Nat.mul_le_mul (by omega) (by omega)
                omega
              rw [← hm2] at hnot
              have hlt : 4294967296 * (r : Int) + v0 < m := by omega
              have HPY := Lib.hid hpy
              have HR2 := Lib.hid hqr2
              have HM := Lib.hid hm2
              have HMB := Lib.hid hmb
              have HP := Lib.hid hp
              have hpQ : Q0 ≤ p := by omega
              have hp3 : p ≤ 4294967296 := by omega
              clear hpy hqr2 hm2 hqQ hq hqb hnot HQR hmb hp
              by_cases hbr : 4294967296 ≤ r + y1
              · have hle := (guess_le (v := v0) (y0 := y0) HR2.out (by omega)).2 (by have := HPY.out; omega)
                rw [← HQ0.out] at hle
                obtain rfl : Q0 = p := by omega
                clear hle
                have hbi : (4294967296 : Int) ≤ (r : Int) + y1 := by omega
                clear hbr hpQ hp3
                by_cases hg : 4294967296 ≤ q
                · have hx : (4294967296 : Int) ≤ (q : Int) := by omega
                  clear hg hlt
                  go_wp2_with (fail)
                  go_ret2
                  exact ⟨rfl, rfl⟩
                · have em : IntKind.u64.wrap ((q : Int) * y0) = (m : Int) := by rw [HM.out, wm _ _ (by rw [← HM.out]; exact HMB.out (by omega))]
                  have hx : ¬ (4294967296 : Int) ≤ (q : Int) := by omega
                  clear hg
                  go_wp2_with (fail)
                  go_ret2
                  exact ⟨rfl, rfl⟩
              · have hbi : ¬ (4294967296 : Int) ≤ (r : Int) + y1 := by omega
                by_cases hg : 4294967296 ≤ q
                · have hx : (4294967296 : Int) ≤ (q : Int) := by omega
                  clear hg hlt
                  go_wp2_with (fail)
                  go_round
                  case rel => exact ⟨p, r + y1, rfl, by first | rfl | (congr 1), HR2.out, hpQ, by omega, by omega⟩
                  case measure => have := HP.out; simp [intOf]; omega
                · have em : IntKind.u64.wrap ((q : Int) * y0) = (m : Int) := by rw [HM.out, wm _ _ (by rw [← HM.out]; exact HMB.out (by omega))]
                  have hx : ¬ (4294967296 : Int) ≤ (q : Int) := by omega
                  clear hg
                  go_wp2_with (fail)
                  go_round
                  case rel => exact ⟨p, r + y1, rfl, by first | rfl | (congr 1), HR2.out, hpQ, by omega, by omega⟩
                  case measure => have := HP.out; simp [intOf]; omega
      · have hbi : ¬ (4294967296 : Int) ≤ (r : Int) + y1 := by omega
        by_cases hg : 4294967296 ≤ q
        · have hx : (4294967296 : Int) ≤ (q : Int) := by omega
          clear hg hlt
          go_wp2_with (fail)
          go_round
          case rel => exact ⟨p, r + y1, rfl, by first | rfl | (congr 1), HR2.out, hpQ, by omega, by omega⟩
          case measure => have := HP.out; simp [intOf]; omega
        · have em : IntKind.u64.wrap ((q : Int) * y0) = (m : Int) := by rw [HM.out, wm _ _ (by rw [← HM.out]; exact HMB.out (by omega))]
          have hx : ¬ (4294967296 : Int) ≤ (q : Int) := by omega
          clear hg
          go_wp2_with (fail)
          go_round
          case rel => exact ⟨p, r + y1, rfl, by first | rfl | (congr 1), HR2.out, hpQ, by omega, by omega⟩
          case measure => have := HP.out; simp [intOf]; omega
end Go.Proofs.Ytioifgbglgjkcaa
