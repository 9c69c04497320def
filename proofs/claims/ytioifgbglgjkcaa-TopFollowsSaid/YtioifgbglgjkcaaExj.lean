/- What Scale and Mul of package exact return: the product divided, rounded down, or 0, false. Conditions: the arguments are numbers of 64 bits. -/
import Derived.Test.YtioifgbglgjkcaaExi
namespace Go.Proofs.Ytioifgbglgjkcaa
open Go.RowKit
theorem ok_over {c : Bool} {n : Int} (h : 9223372036854775808 < n) : okV (signV c n) = noV := by
  unfold okV
  cases c
  · rw [signV_f, fit_no (by omega), cut_no (by omega)]; rfl
  · rw [signV_t, fit_no (by omega), cut_no (by omega)]; rfl
set_option maxHeartbeats 400000 in
theorem scale_ex (a num den : Int) (ha : -9223372036854775808 ≤ a ∧ a ≤ 9223372036854775807) (hb : -9223372036854775808 ≤ num ∧ num ≤ 9223372036854775807) (hd : -9223372036854775808 ≤ den ∧ den ≤ 9223372036854775807) (w : World) :
    Calls Try.prog 53 #[.int .i64 a, .int .i64 num, .int .i64 den] w fun e w' => e = .returned (scaleV a num den) ∧ Below w.heap.size w w' := by
  by_cases hden : den < 1
  · rw [scaleV_no hden]
    go_enter Try.func53, Try.ntmps53
    go_wp2
    go_ret2
    exact ⟨rfl, Below.refl _ _⟩
  · rw [scaleV_yes hden]
    obtain ⟨d, rfl⟩ : ∃ d : Nat, den = d := ⟨den.toNat, by omega⟩
    have ct := fun w => multiply_ex a.natAbs num.natAbs (by omega) (by omega) w
    have hN := abs_prod a num ha hb
    obtain ⟨hi, lo, h1, h2, h3, h4⟩ := halves_of (a.natAbs * num.natAbs) (by omega)
    rw [h4] at ct
    have co := fun w => divide_ex hi lo d h2 h3 (by omega) (by omega) w
    rw [← h1] at co
    have hQ : a.natAbs * num.natAbs / d ≤ a.natAbs * num.natAbs := Nat.div_le_self _ _
    obtain ⟨qh, ql, q1, q2, q3, q4⟩ := halves_of (a.natAbs * num.natAbs / d) (by omega)
    rw [q4] at co
    obtain ⟨R, hR⟩ : ∃ R, R = a.natAbs * num.natAbs % d := ⟨_, rfl⟩
    have hRd : R < d := by rw [hR]; exact Nat.mod_lt _ (by omega)
    rw [← hR] at co
    have dn := down_eq a num d (by omega)
    unfold downN at dn
    rw [← hR, q1] at dn
    have CT := Lib.hid ct
    have CO := Lib.hid co
    have DN := Lib.hid dn
    clear ct co dn hN hQ h1 h4 q1 q4 hR
    by_cases hz : qh = 0
    · subst hz
      by_cases hql : ql ≤ 9223372036854775808
      · by_cases hbel : (!(decide (a < 0) == decide (num < 0))) = true
        · by_cases hr : 0 < R
          · have dn := DN.out
            rw [show belowB a num = true from hbel, if_pos ⟨rfl, hr⟩] at dn
            have cs := fun w => signed_ex true ((ql : Int) + 1) (by omega) w
            rw [show (ql : Int) + 1 = ((0 * 18446744073709551616 + ql + 1 : Nat) : Int) by omega, ← dn, show ((0 * 18446744073709551616 + ql + 1 : Nat) : Int) = (ql : Int) + 1 by omega] at cs
            have CS := Lib.hid cs
            clear cs dn DN
            go_enter Try.func53, Try.ntmps53
            go_wp2_with (fail)
            refine (size_ex a ha _).mono ?_
            rintro e w1 ⟨rfl, rfl⟩
            go_wp2_with (fail)
            refine (size_ex num hb _).mono ?_
            rintro e w1 ⟨rfl, rfl⟩
            go_wp2_with (fail)
            refine (CT.out _).mono ?_
            rintro e w1 ⟨rfl, hb1⟩
            have HB := Lib.hid hb1; clear hb1
            go_wp2_with (fail)
            refine (CO.out _).mono ?_
            rintro e w2 ⟨rfl, hb2⟩
            have HB2 := Lib.hid (HB.out.trans (hb2.mono HB.out.size)); clear hb2 HB
            go_wp2_with (fail)
            refine (CS.out _).mono ?_
            rintro e w4 ⟨rfl, rfl⟩
            unfold okV
            go_wp2_with (fail)
            go_ret2
            exact ⟨rfl, HB2.out.alloc HB2.out.size _⟩
          · have dn := DN.out
            rw [show belowB a num = true from hbel, if_neg (fun h => hr h.2)] at dn
            have cs := fun w => signed_ex true (ql : Int) (by omega) w
            rw [show (ql : Int) = ((0 * 18446744073709551616 + ql : Nat) : Int) by omega, ← dn, show ((0 * 18446744073709551616 + ql : Nat) : Int) = (ql : Int) by omega] at cs
            have CS := Lib.hid cs
            obtain rfl : R = 0 := by omega
            clear cs dn DN hr
            go_enter Try.func53, Try.ntmps53
            go_wp2_with (fail)
            refine (size_ex a ha _).mono ?_
            rintro e w1 ⟨rfl, rfl⟩
            go_wp2_with (fail)
            refine (size_ex num hb _).mono ?_
            rintro e w1 ⟨rfl, rfl⟩
            go_wp2_with (fail)
            refine (CT.out _).mono ?_
            rintro e w1 ⟨rfl, hb1⟩
            have HB := Lib.hid hb1; clear hb1
            go_wp2_with (fail)
            refine (CO.out _).mono ?_
            rintro e w2 ⟨rfl, hb2⟩
            have HB2 := Lib.hid (HB.out.trans (hb2.mono HB.out.size)); clear hb2 HB
            go_wp2_with (fail)
            refine (CS.out _).mono ?_
            rintro e w4 ⟨rfl, rfl⟩
            unfold okV
            go_wp2_with (fail)
            go_ret2
            exact ⟨rfl, HB2.out.alloc HB2.out.size _⟩
        · have hbf : (!(decide (a < 0) == decide (num < 0))) = false := by simpa using hbel
          have dn := DN.out
          rw [show belowB a num = false from hbf, if_neg (by simp)] at dn
          have cs := fun w => signed_ex false (ql : Int) (by omega) w
          rw [show (ql : Int) = ((0 * 18446744073709551616 + ql : Nat) : Int) by omega, ← dn, show ((0 * 18446744073709551616 + ql : Nat) : Int) = (ql : Int) by omega] at cs
          have CS := Lib.hid cs
          clear cs dn DN hbel
          go_enter Try.func53, Try.ntmps53
          go_wp2_with (fail)
          refine (size_ex a ha _).mono ?_
          rintro e w1 ⟨rfl, rfl⟩
          go_wp2_with (fail)
          refine (size_ex num hb _).mono ?_
          rintro e w1 ⟨rfl, rfl⟩
          go_wp2_with (fail)
          refine (CT.out _).mono ?_
          rintro e w1 ⟨rfl, hb1⟩
          have HB := Lib.hid hb1; clear hb1
          go_wp2_with (fail)
          refine (CO.out _).mono ?_
          rintro e w2 ⟨rfl, hb2⟩
          have HB2 := Lib.hid (HB.out.trans (hb2.mono HB.out.size)); clear hb2 HB
          go_wp2_with (fail)
          refine (CS.out _).mono ?_
          rintro e w4 ⟨rfl, rfl⟩
          unfold okV
          go_wp2_with (fail)
          go_ret2
          exact ⟨rfl, HB2.out.alloc HB2.out.size _⟩
      · have dn := DN.out
        have dn2 : okV (a * num / d) = noV := by
          rw [dn]
          exact ok_over (by split <;> omega)
        rw [dn2]
        have DN2 := Lib.hid dn2
        clear dn dn2 DN
        go_enter Try.func53, Try.ntmps53
        go_wp2_with (fail)
        refine (size_ex a ha _).mono ?_
        rintro e w1 ⟨rfl, rfl⟩
        go_wp2_with (fail)
        refine (size_ex num hb _).mono ?_
        rintro e w1 ⟨rfl, rfl⟩
        go_wp2_with (fail)
        refine (CT.out _).mono ?_
        rintro e w1 ⟨rfl, hb1⟩
        have HB := Lib.hid hb1; clear hb1
        go_wp2_with (fail)
        refine (CO.out _).mono ?_
        rintro e w2 ⟨rfl, hb2⟩
        have HB2 := Lib.hid (HB.out.trans (hb2.mono HB.out.size)); clear hb2 HB
        go_wp2
        go_ret2
        exact ⟨rfl, HB2.out.alloc HB2.out.size _⟩
    · have hz2 : ((qh : Int) == 0) = false := by simp; omega
      have dn := DN.out
      have dn2 : okV (a * num / d) = noV := by
        rw [dn]
        exact ok_over (by split <;> omega)
      rw [dn2]
      have DN2 := Lib.hid dn2
      clear dn dn2 DN
      go_enter Try.func53, Try.ntmps53
      go_wp2_with (fail)
      refine (size_ex a ha _).mono ?_
      rintro e w1 ⟨rfl, rfl⟩
      go_wp2_with (fail)
      refine (size_ex num hb _).mono ?_
      rintro e w1 ⟨rfl, rfl⟩
      go_wp2_with (fail)
      refine (CT.out _).mono ?_
      rintro e w1 ⟨rfl, hb1⟩
      have HB := Lib.hid hb1; clear hb1
      go_wp2_with (fail)
      refine (CO.out _).mono ?_
      rintro e w2 ⟨rfl, hb2⟩
      have HB2 := Lib.hid (HB.out.trans (hb2.mono HB.out.size)); clear hb2 HB
      go_wp2
      go_ret2
      exact ⟨rfl, HB2.out.alloc HB2.out.size _⟩
theorem ret_ib {a c : Int} (d : Bool) (h1 : a = c) : Ending.returned (.tuple #[.int .i64 a, .bool d]) = .returned (.tuple #[.int .i64 c, .bool d]) := by rw [h1]
theorem dist_ex (a b : Int) (ha : -9223372036854775808 ≤ a ∧ a ≤ 9223372036854775807) (hb : -9223372036854775808 ≤ b ∧ b ≤ 9223372036854775807) (w : World) :
    Calls Try.prog 40 #[.int .i64 a, .int .i64 b] w fun e w' => e = .returned (okV (if a < b then b - a else a - b)) ∧ w = w' := by
  have e : max a b - min a b = if a < b then b - a else a - b := by split <;> omega
  rw [← e]
  have CS := Lib.hid (fun w => sub_ex (max a b) (min a b) (by omega) (by omega) w); clear e
  go_enter Try.func40, Try.ntmps40
  go_wp2_with (fail)
  refine (CS.out _).mono ?_
  rintro e w4 ⟨rfl, rfl⟩
  unfold okV
  go_wp2_with (fail)
  go_ret2
  exact ⟨rfl, rfl⟩
end Go.Proofs.Ytioifgbglgjkcaa
