/- What Scale and Mul of package exact, and the document's own, return: the product divided, rounded down, or 0, false. Conditions: the arguments are numbers of 64 bits. -/
import Derived.Test.YtioifgbglgjkcaaExh
namespace Go.Proofs.Ytioifgbglgjkcaa
open Go.RowKit
/-- Is just one of both below 0? -/
def belowB (a b : Int) : Bool := !(decide (a < 0) == decide (b < 0))
theorem prod_sign (a b : Int) : a * b = signV (belowB a b) ((a.natAbs * b.natAbs : Nat) : Int) := by
  have h : ∀ x : Int, (x < 0 → x = -(x.natAbs : Int)) ∧ (¬ x < 0 → x = (x.natAbs : Int)) := fun x => ⟨by omega, by omega⟩
  unfold belowB
  rw [Int.natCast_mul]
  by_cases ha : a < 0 <;> by_cases hb : b < 0
  · rw [decide_eq_true ha, decide_eq_true hb]
    show a * b = (a.natAbs : Int) * (b.natAbs : Int)
    rw [← Int.neg_mul_neg, ← (show -a = (a.natAbs : Int) by omega), ← (show -b = (b.natAbs : Int) by omega)]
  · rw [decide_eq_true ha, decide_eq_false hb]
    show a * b = -((a.natAbs : Int) * (b.natAbs : Int))
    rw [← Int.neg_mul, ← (show a = -(a.natAbs : Int) by omega), ← (show b = (b.natAbs : Int) by omega)]
  · rw [decide_eq_false ha, decide_eq_true hb]
    show a * b = -((a.natAbs : Int) * (b.natAbs : Int))
    rw [← Int.mul_neg, ← (show a = (a.natAbs : Int) by omega), ← (show b = -(b.natAbs : Int) by omega)]
  · rw [decide_eq_false ha, decide_eq_false hb]
    show a * b = (a.natAbs : Int) * (b.natAbs : Int)
    rw [← (show a = (a.natAbs : Int) by omega), ← (show b = (b.natAbs : Int) by omega)]
theorem floor_up (N d : Nat) (hd : 0 < d) : ((N : Int) / d = ((N / d : Nat) : Int)) ∧ (N % d = 0 → -(N : Int) / d = -((N / d : Nat) : Int)) ∧ (0 < N % d → -(N : Int) / d = -(((N / d : Nat) : Int) + 1)) := by
  have e := Nat.div_add_mod N d
  have e2 : (d : Int) * ((N / d : Nat) : Int) + ((N % d : Nat) : Int) = N := by rw [← Int.natCast_mul, ← Int.natCast_add, e]
  have hl := Nat.mod_lt N hd
  refine ⟨by rw [Int.natCast_ediv], fun h => ?_, fun h => ?_⟩
  · refine ((Int.ediv_emod_unique (a := -(N : Int)) (b := d) (r := 0) (by omega)).2 ⟨?_, by omega, by omega⟩).1
    rw [Int.mul_neg]; omega
  · refine ((Int.ediv_emod_unique (a := -(N : Int)) (b := d) (r := (d : Int) - ((N % d : Nat) : Int)) (by omega)).2 ⟨?_, by omega, by omega⟩).1
    rw [Int.mul_neg, Int.mul_add, Int.mul_one]; omega
def scaleV (a num den : Int) : Value := if den < 1 then noV else okV (a * num / den)
theorem scaleV_no {a num den : Int} (h : den < 1) : scaleV a num den = noV := if_pos h
theorem scaleV_yes {a num den : Int} (h : ¬ den < 1) : scaleV a num den = okV (a * num / den) := if_neg h
/-- The quotient rounded down, by its size and sign. -/
def downN (c : Bool) (N d : Nat) : Nat := if c = true ∧ 0 < N % d then N / d + 1 else N / d
theorem down_eq (a num : Int) (d : Nat) (hd : 0 < d) : a * num / (d : Int) = signV (belowB a num) (downN (belowB a num) (a.natAbs * num.natAbs) d : Int) := by
  obtain ⟨h1, h2, h3⟩ := floor_up (a.natAbs * num.natAbs) d hd
  rw [prod_sign]
  unfold downN
  cases belowB a num
  · rw [if_neg (by simp)]; exact h1
  · by_cases hr : 0 < a.natAbs * num.natAbs % d
    · rw [if_pos ⟨rfl, hr⟩]; exact h3 hr
    · rw [if_neg (fun h => hr h.2)]; exact h2 (by omega)
theorem abs_prod (a b : Int) (ha : -9223372036854775808 ≤ a ∧ a ≤ 9223372036854775807) (hb : -9223372036854775808 ≤ b ∧ b ≤ 9223372036854775807) : a.natAbs * b.natAbs ≤ 85070591730234615865843651857942052864 := by
  have : a.natAbs * b.natAbs ≤ 9223372036854775808 * 9223372036854775808 := Nat.mul_le_mul (by omega) (by omega)
  exact this
theorem halves_of (N : Nat) (h : N < 340282366920938463463374607431768211456) : ∃ hi lo : Nat, N = hi * 18446744073709551616 + lo ∧ hi < 18446744073709551616 ∧ lo < 18446744073709551616 ∧ wideV N = .agg #[.int .u64 hi, .int .u64 lo] :=
  ⟨N / 18446744073709551616, N % 18446744073709551616, by omega, by omega, by omega, rfl⟩
set_option maxHeartbeats 400000 in
theorem scale_rf (a num den : Int) (ha : -9223372036854775808 ≤ a ∧ a ≤ 9223372036854775807) (hb : -9223372036854775808 ≤ num ∧ num ≤ 9223372036854775807) (hd : -9223372036854775808 ≤ den ∧ den ≤ 9223372036854775807) (w : World) :
    Calls Try.prog 26 #[.int .i64 a, .int .i64 num, .int .i64 den] w fun e w' => e = .returned (scaleV a num den) ∧ Below w.heap.size w w' := by
  by_cases hden : den < 1
  · rw [scaleV_no hden]
    go_enter Try.func26, Try.ntmps26
    go_wp2
    go_ret2
    exact ⟨rfl, Below.refl _ _⟩
  · rw [scaleV_yes hden]
    obtain ⟨d, rfl⟩ : ∃ d : Nat, den = d := ⟨den.toNat, by omega⟩
    have ct := fun w => times_rf a.natAbs num.natAbs (by omega) (by omega) w
    have hN := abs_prod a num ha hb
    obtain ⟨hi, lo, h1, h2, h3, h4⟩ := halves_of (a.natAbs * num.natAbs) (by omega)
    rw [h4] at ct
    have co := fun w => over_rf hi lo d h2 h3 (by omega) (by omega) w
    rw [← h1] at co
    have hQ : a.natAbs * num.natAbs / d ≤ a.natAbs * num.natAbs := Nat.div_le_self _ _
    obtain ⟨qh, ql, q1, q2, q3, q4⟩ := halves_of (a.natAbs * num.natAbs / d) (by omega)
    rw [q4] at co
    have hqh : qh ≤ 9223372036854775807 := by omega
    obtain ⟨R, hR⟩ : ∃ R, R = a.natAbs * num.natAbs % d := ⟨_, rfl⟩
    have hRd : R < d := by rw [hR]; exact Nat.mod_lt _ (by omega)
    rw [← hR] at co
    have dn := down_eq a num d (by omega)
    unfold downN at dn
    rw [← hR, q1] at dn
    have CT := Lib.hid ct
    have CO := Lib.hid co
    have DN := Lib.hid dn
    clear ct co dn hN hQ h1 h4 q1 q4 hR
    have cp := fun w => plus_rf (qh : Int) (ql : Int) 1 (by omega) (by omega) (by omega) w
    have CP := Lib.hid cp; clear cp
    by_cases hbel : (!(decide (a < 0) == decide (num < 0))) = true
    · by_cases hr : 0 < R
      · have dn := DN.out
        rw [show belowB a num = true from hbel, if_pos ⟨rfl, hr⟩] at dn
        have cs := fun w => signed_rf ((qh : Int) + (ql + 1) / 18446744073709551616) (((ql : Int) + 1) % 18446744073709551616) true (by omega) (by omega) w
        rw [show ((qh : Int) + (ql + 1) / 18446744073709551616) * 18446744073709551616 + ((ql : Int) + 1) % 18446744073709551616 = ((qh * 18446744073709551616 + ql + 1 : Nat) : Int) by omega, ← dn] at cs
        have CS := Lib.hid cs
        clear cs dn DN
        go_enter Try.func26, Try.ntmps26
        go_wp2_with (fail)
        refine (size_rf a ha _).mono ?_
        rintro e w1 ⟨rfl, rfl⟩
        go_wp2_with (fail)
        refine (size_rf num hb _).mono ?_
        rintro e w1 ⟨rfl, rfl⟩
        go_wp2_with (fail)
        refine (CT.out _).mono ?_
        rintro e w1 ⟨rfl, hb1⟩
        have HB := Lib.hid hb1; clear hb1
        go_wp2_with (fail)
        refine (CO.out _).mono ?_
        rintro e w2 ⟨rfl, hb2⟩
        have HB2 := Lib.hid (HB.out.trans (hb2.mono HB.out.size)); clear hb2 HB
        go_wp2_with (fail)
        refine (CP.out _).mono ?_
        rintro e w3 ⟨rfl, hb3⟩
        have zz : (w2.alloc (.cells #[.int .u64 qh, .int .u64 ql] 81)).heap.size = w2.heap.size + 1 := by simp
        obtain ⟨c0, c1, f0, f1⟩ := (Pair.new w2 (.int .u64 qh) (.int .u64 ql) 81 rfl).keep hb3 (by omega)
        have HB3 := Lib.hid (below_two ((HB2.out.alloc HB2.out.size (.cells #[.int .u64 qh, .int .u64 ql] 81)).trans (hb3.mono (by have := HB2.out.size; omega))) (C := w2.heap.size) HB2.out.size (.int .u64 (qh + (ql + 1) / 18446744073709551616)) (.int .u64 ((ql + 1) % 18446744073709551616)))
        clear zz hb3 HB2
        go_wp2_with (fail)
        refine (CS.out _).mono ?_
        rintro e w4 ⟨rfl, hb4⟩
        have HB4 := Lib.hid (HB3.out.trans (hb4.mono HB3.out.size)); clear hb4 HB3
        unfold okV
        go_wp2_with (fail)
        go_ret2
        exact ⟨rfl, HB4.out⟩
      · have dn := DN.out
        rw [show belowB a num = true from hbel, if_neg (fun h => hr h.2)] at dn
        have cs := fun w => signed_rf (qh : Int) (ql : Int) true (by omega) (by omega) w
        rw [show (qh : Int) * 18446744073709551616 + (ql : Int) = ((qh * 18446744073709551616 + ql : Nat) : Int) by omega, ← dn] at cs
        have CS := Lib.hid cs
        obtain rfl : R = 0 := by omega
        clear cs dn DN hr
        go_enter Try.func26, Try.ntmps26
        go_wp2_with (fail)
        refine (size_rf a ha _).mono ?_
        rintro e w1 ⟨rfl, rfl⟩
        go_wp2_with (fail)
        refine (size_rf num hb _).mono ?_
        rintro e w1 ⟨rfl, rfl⟩
        go_wp2_with (fail)
        refine (CT.out _).mono ?_
        rintro e w1 ⟨rfl, hb1⟩
        have HB := Lib.hid hb1; clear hb1
        go_wp2_with (fail)
        refine (CO.out _).mono ?_
        rintro e w2 ⟨rfl, hb2⟩
        have HB2 := Lib.hid (HB.out.trans (hb2.mono HB.out.size)); clear hb2 HB
        have HB3 := Lib.hid (HB2.out.alloc HB2.out.size (.cells #[.int .u64 qh, .int .u64 ql] 81)); clear HB2
        go_wp2_with (fail)
        refine (CS.out _).mono ?_
        rintro e w4 ⟨rfl, hb4⟩
        have HB4 := Lib.hid (HB3.out.trans (hb4.mono HB3.out.size)); clear hb4 HB3
        unfold okV
        go_wp2_with (fail)
        go_ret2
        exact ⟨rfl, HB4.out⟩
    · have hbf : (!(decide (a < 0) == decide (num < 0))) = false := by simpa using hbel
      have dn := DN.out
      rw [show belowB a num = false from hbf, if_neg (by simp)] at dn
      have cs := fun w => signed_rf (qh : Int) (ql : Int) false (by omega) (by omega) w
      rw [show (qh : Int) * 18446744073709551616 + (ql : Int) = ((qh * 18446744073709551616 + ql : Nat) : Int) by omega, ← dn] at cs
      have CS := Lib.hid cs
      clear cs dn DN hbel
      go_enter Try.func26, Try.ntmps26
      go_wp2_with (fail)
      refine (size_rf a ha _).mono ?_
      rintro e w1 ⟨rfl, rfl⟩
      go_wp2_with (fail)
      refine (size_rf num hb _).mono ?_
      rintro e w1 ⟨rfl, rfl⟩
      go_wp2_with (fail)
      refine (CT.out _).mono ?_
      rintro e w1 ⟨rfl, hb1⟩
      have HB := Lib.hid hb1; clear hb1
      go_wp2_with (fail)
      refine (CO.out _).mono ?_
      rintro e w2 ⟨rfl, hb2⟩
      have HB2 := Lib.hid (HB.out.trans (hb2.mono HB.out.size)); clear hb2 HB
      have HB3 := Lib.hid (HB2.out.alloc HB2.out.size (.cells #[.int .u64 qh, .int .u64 ql] 81)); clear HB2
      go_wp2_with (fail)
      refine (CS.out _).mono ?_
      rintro e w4 ⟨rfl, hb4⟩
      have HB4 := Lib.hid (HB3.out.trans (hb4.mono HB3.out.size)); clear hb4 HB3
      unfold okV
      go_wp2_with (fail)
      go_ret2
      exact ⟨rfl, HB4.out⟩
end Go.Proofs.Ytioifgbglgjkcaa
