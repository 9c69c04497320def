/- The document's own answers of layer 22; what must be whatever is asked (live). Conditions: the arguments are numbers of 64 bits. -/
import Derived.Test.YthgoaijfpdnolaaQtb
namespace Go.Proofs.Ythgoaijfpdnolaa
open Go.RowKit
theorem rmay_eq (d e l : Int) : qmayB l [d, e] = (decide (-1152921504606846976 ≤ d) && (decide (d ≤ 1152921504606846976) && (decide (-1152921504606846976 ≤ e) && (decide (e ≤ 1152921504606846976) && (decide (1 ≤ l) && decide (l ≤ 1099511627776)))))) := by
  simp only [qmayB, timesB, inB, List.all_cons, List.all_nil, Bool.and_true]
  rw [Bool.eq_iff_iff]
  simp only [Bool.and_eq_true, decide_eq_true_eq]
  omega
theorem rqmay_any (d e l : Int) (w : World) : Calls Try.prog 60 #[.int .i64 d, .int .i64 e, .int .i64 l] w fun y w' => y = .returned (.bool (qmayB l [d, e])) ∧ w = w' := by
  rw [rmay_eq]
  obtain ⟨x1, h1⟩ : ∃ x, x = decide (-1152921504606846976 ≤ d) := ⟨_, rfl⟩
  obtain ⟨x2, h2⟩ : ∃ x, x = decide (d ≤ 1152921504606846976) := ⟨_, rfl⟩
  obtain ⟨x3, h3⟩ : ∃ x, x = decide (-1152921504606846976 ≤ e) := ⟨_, rfl⟩
  obtain ⟨x4, h4⟩ : ∃ x, x = decide (e ≤ 1152921504606846976) := ⟨_, rfl⟩
  obtain ⟨x5, h5⟩ : ∃ x, x = decide (1 ≤ l) := ⟨_, rfl⟩
  obtain ⟨x6, h6⟩ : ∃ x, x = decide (l ≤ 1099511627776) := ⟨_, rfl⟩
  rw [← h1, ← h2, ← h3, ← h4, ← h5, ← h6]
  have g1 := h1.symm; have g2 := h2.symm; have g3 := h3.symm; have g4 := h4.symm; have g5 := h5.symm; have g6 := h6.symm
  clear h1 h2 h3 h4 h5 h6
  cases x1
  · go_enter Try.func60, Try.ntmps60
    go_wp2_with fail
    go_ret
    exact ⟨rfl, rfl⟩
  cases x2
  · go_enter Try.func60, Try.ntmps60
    go_wp2_with fail
    go_ret
    exact ⟨rfl, rfl⟩
  cases x3
  · go_enter Try.func60, Try.ntmps60
    go_wp2_with fail
    go_ret
    exact ⟨rfl, rfl⟩
  cases x4
  · go_enter Try.func60, Try.ntmps60
    go_wp2_with fail
    go_ret
    exact ⟨rfl, rfl⟩
  cases x5
  · go_enter Try.func60, Try.ntmps60
    go_wp2_with fail
    go_ret
    exact ⟨rfl, rfl⟩
  cases x6
  all_goals
    go_enter Try.func60, Try.ntmps60
    go_wp2_with fail
    go_ret
    exact ⟨rfl, rfl⟩
theorem qmay_swap (l d : Int) : qmayB l [d, 0] = qmayB l [d] ∧ qmayB l [0, d] = qmayB l [d] := by
  simp [qmayB, timesB, inB]
theorem rqslot_any (d e l : Int) (w : World) : Calls Try.prog 15 #[.int .i64 d, .int .i64 e, .int .i64 l] w fun y w' => y = .returned (.tuple #[.int .i64 (slotX d e l), .bool (qmayB l [d, e])]) ∧ w = w' := by
  have HM := Lib.hid (rqmay_any d e l w)
  have hin := slot_in d e l
  cases hq : qmayB l [d, e]
  · have hx : slotX d e l = 0 := by unfold slotX; rw [hq]; rfl
    rw [hx]
    rw [hq] at HM
    clear hq hin hx
    go_enter Try.func15, Try.ntmps15
    go_wp2_with fail
    refine HM.out.mono ?_
    rintro y w1 ⟨rfl, rfl⟩
    go_wp2_with fail
    go_ret2
    exact ⟨rfl, rfl⟩
  · have hx : slotX d e l = clampV ((d - e) / l) 0 255 := by unfold slotX; rw [hq]; rfl
    obtain ⟨h1, h2, h3⟩ := qmay_two_yes hq
    rw [hx]
    rw [hq] at HM
    by_cases hde : d < e
    · have hneg : (d - e) / l < 0 := Int.ediv_neg_of_neg_of_pos (by omega) (by omega)
      have hc : clampV ((d - e) / l) 0 255 = 0 := by unfold clampV; rw [if_pos hneg]
      rw [hc]
      clear hc hneg h1 h2 h3 hx hin hq
      go_enter Try.func15, Try.ntmps15
      go_wp2_with fail
      refine HM.out.mono ?_
      rintro y w1 ⟨rfl, rfl⟩
      go_wp2_with fail
      go_ret2
      exact ⟨rfl, rfl⟩
    · have hnn : 0 ≤ (d - e) / l := Int.ediv_nonneg (by omega) (by omega)
      have hle : (d - e) / l ≤ d - e := Int.ediv_le_self _ (by omega)
      have htd : (d - e).tdiv l = (d - e) / l := Int.tdiv_eq_ediv_of_nonneg (by omega)
      obtain ⟨q, hqq⟩ : ∃ q, q = (d - e) / l := ⟨_, rfl⟩
      rw [← hqq] at hnn hle htd ⊢
      obtain ⟨x, hxx⟩ : ∃ x, x = d - e := ⟨_, rfl⟩
      have hw : wrap64 (d - e) = x := by rw [hxx]; exact w64_in _ (by omega)
      rw [← hxx] at hle htd
      have hw2 : wrap64 (x.tdiv l) = q := by rw [htd]; exact w64_in _ (by omega)
      have HW2 := Lib.hid hw2
      have hnz : ¬ l = 0 := by omega
      by_cases h255 : 255 < q
      · have hc : clampV q 0 255 = 255 := by unfold clampV; rw [if_neg (by omega), if_pos h255]
        rw [hc]
        clear hc hle htd hqq hxx h1 h2 h3 hx hin hq
        go_enter Try.func15, Try.ntmps15
        go_wp2_with fail
        refine HM.out.mono ?_
        rintro y w1 ⟨rfl, rfl⟩
        go_wp2_with fail
        go_ret2
        exact ⟨rfl, rfl⟩
      · have hc : clampV q 0 255 = q := by unfold clampV; rw [if_neg (by omega), if_neg h255]
        rw [hc]
        have HZ := Lib.hid (show wrap64 q = q from w64_in _ (by omega))
        have hz := HZ.out
        clear hc hle htd hqq hxx h1 h2 h3 hx hin hq
        go_enter Try.func15, Try.ntmps15
        go_wp2_with fail
        refine HM.out.mono ?_
        rintro y w1 ⟨rfl, rfl⟩
        go_wp2_with fail
        go_ret2
        exact ⟨by rw [← HW2.out]; rfl, rfl⟩
theorem rqstart_any (k e l : Int) (w : World) : Calls Try.prog 17 #[.int .i64 k, .int .i64 e, .int .i64 l] w fun y w' => y = .returned (.tuple #[.int .i64 (startX k e l), .bool (startB k e l)]) ∧ w = w' := by
  have HM := Lib.hid (rqmay_any 0 e l w)
  rw [(qmay_swap l e).2] at HM
  cases hq : qmayB l [e]
  · have hs : startB k e l = false := by unfold startB; rw [hq, Bool.and_false]
    have hx : startX k e l = 0 := by unfold startX; rw [hs]; rfl
    rw [hx, hs]
    rw [hq] at HM
    clear hq hx hs
    go_enter Try.func17, Try.ntmps17
    go_wp2_with fail
    refine HM.out.mono ?_
    rintro y w1 ⟨rfl, rfl⟩
    go_wp2_with fail
    go_ret2
    exact ⟨rfl, rfl⟩
  rw [hq] at HM
  by_cases hk : 0 ≤ k ∧ k ≤ 255
  · have i1 : ¬ k < 0 := by omega
    have i2 : ¬ 255 < k := by omega
    have hs : startB k e l = true := by unfold startB inB; rw [decide_eq_true hk, hq]; rfl
    obtain ⟨h1, h2⟩ := qmay_one_yes hq
    have hx : startX k e l = e + k * l := by unfold startX; rw [hs]; rfl
    have hm1 : 0 ≤ k * l := Int.mul_nonneg hk.1 (by omega)
    have hm2 : k * l ≤ 255 * 1099511627776 := Int.mul_le_mul hk.2 h1.2 (by omega) (by omega)
    rw [hx, hs]
    have hwk : wrap64 k = k := w64_in _ (by omega)
    obtain ⟨m, hm⟩ : ∃ m, m = k * l := ⟨_, rfl⟩
    rw [← hm] at hm1 hm2 ⊢
    have hw1 : wrap64 (k * l) = m := by rw [← hm]; exact w64_in _ (by omega)
    obtain ⟨z, hz⟩ : ∃ z, z = e + m := ⟨_, rfl⟩
    have HZ := Lib.hid (show wrap64 (e + m) = z by rw [hz]; exact w64_in _ (by omega))
    rw [← hz]
    clear hq hx hs hk hm hz h1 h2 hm1 hm2
    go_enter Try.func17, Try.ntmps17
    go_wp2_with fail
    refine HM.out.mono ?_
    rintro y w1 ⟨rfl, rfl⟩
    go_wp2_with fail
    go_ret2
    exact ⟨by rw [← HZ.out]; rfl, rfl⟩
  · have hs : startB k e l = false := by unfold startB inB; rw [decide_eq_false hk]; rfl
    have hx : startX k e l = 0 := by unfold startX; rw [hs]; rfl
    rw [hx, hs]
    have cs : k < 0 ∨ (¬ k < 0 ∧ 255 < k) := by omega
    clear hs hx hk
    rcases cs with i1 | ⟨i1, i2⟩
    all_goals
      go_enter Try.func17, Try.ntmps17
      go_wp2_with fail
      refine HM.out.mono ?_
      rintro y w1 ⟨rfl, rfl⟩
      go_wp2_with fail
      go_ret2
      exact ⟨rfl, rfl⟩
theorem rqepoch_any (n l : Int) (w : World) : Calls Try.prog 19 #[.int .i64 n, .int .i64 l] w fun y w' => y = .returned (.tuple #[.int .i64 (epochX n l), .bool (qmayB l [n])]) ∧ Below w.heap.size w w' := by
  have HM := Lib.hid (rqmay_any n 0 l w)
  rw [(qmay_swap l n).1] at HM
  cases hq : qmayB l [n]
  · have hx : epochX n l = 0 := by unfold epochX; rw [hq]; rfl
    rw [hx]
    rw [hq] at HM
    clear hq hx
    go_enter Try.func19, Try.ntmps19
    go_wp2_with fail
    refine HM.out.mono ?_
    rintro y w1 ⟨rfl, rfl⟩
    go_wp2_with fail
    go_ret2
    exact ⟨rfl, Below.refl _ _⟩
  · have hx : epochX n l = n - n % l := by unfold epochX; rw [hq]; rfl
    obtain ⟨h1, h2⟩ := qmay_one_yes hq
    have hm0 := Int.emod_nonneg n (show l ≠ 0 by omega)
    have hm1 := Int.emod_lt_of_pos n (show 0 < l by omega)
    have hmul : n / l * l = n - n % l := by have := Int.mul_ediv_add_emod n l; rw [Int.mul_comm]; omega
    rw [hx]
    rw [hq] at HM
    have HD := Lib.hid (fun u => div_rf n l (by omega) (by omega) u)
    have e1 : divV n l = .tuple #[.int .i64 (n / l), .bool true] := if_pos (by omega)
    rw [e1] at HD
    obtain ⟨z, hz⟩ : ∃ z, z = n - n % l := ⟨_, rfl⟩
    rw [← hz] at hmul ⊢
    obtain ⟨q, hqq⟩ : ∃ q, q = n / l := ⟨_, rfl⟩
    rw [← hqq] at HD hmul
    have HZ := Lib.hid (show wrap64 (q * l) = z by rw [hmul]; exact w64_in _ (by omega))
    clear hq hx h1 h2 e1 hqq hz hm0 hm1 hmul
    go_enter Try.func19, Try.ntmps19
    go_wp2_with fail
    refine HM.out.mono ?_
    rintro y w1 ⟨rfl, rfl⟩
    go_wp2_with fail
    refine (HD.out _).mono ?_
    rintro y w2 ⟨rfl, hb⟩
    have HB := Lib.hid hb
    clear hb
    go_wp2_with fail
    go_ret2
    exact ⟨by rw [← HZ.out]; rfl, HB.out⟩
theorem rqnext_any (n l : Int) (w : World) : Calls Try.prog 21 #[.int .i64 n, .int .i64 l] w fun y w' => y = .returned (.tuple #[.int .i64 (nextX n l), .bool (qmayB l [n])]) ∧ Below w.heap.size w w' := by
  have HE := Lib.hid (fun u => rqepoch_any n l u)
  cases hq : qmayB l [n]
  · have hx : nextX n l = 0 := by unfold nextX; rw [hq]; rfl
    have hx2 : epochX n l = 0 := by unfold epochX; rw [hq]; rfl
    rw [hx]
    rw [hq, hx2] at HE
    clear hq hx hx2
    go_enter Try.func21, Try.ntmps21
    go_wp2_with fail
    refine (HE.out _).mono ?_
    rintro y w1 ⟨rfl, hb⟩
    have HB := Lib.hid hb
    clear hb
    go_wp2_with fail
    go_ret2
    exact ⟨rfl, HB.out⟩
  · obtain ⟨e1, e2, e3⟩ := epoch_in hq
    obtain ⟨h1, h2⟩ := qmay_one_yes hq
    rw [hq] at HE
    rw [e3]
    obtain ⟨z, hz⟩ : ∃ z, z = epochX n l := ⟨_, rfl⟩
    rw [← hz] at HE e1 e2 ⊢
    obtain ⟨x, hx⟩ : ∃ x, x = z + l := ⟨_, rfl⟩
    have HZ := Lib.hid (show wrap64 (z + l) = x by rw [hx]; exact w64_in _ (by omega))
    rw [← hx]
    clear hq e1 e2 e3 hz hx h1 h2
    go_enter Try.func21, Try.ntmps21
    go_wp2_with fail
    refine (HE.out _).mono ?_
    rintro y w1 ⟨rfl, hb⟩
    have HB := Lib.hid hb
    clear hb
    go_wp2_with fail
    go_ret2
    exact ⟨by rw [← HZ.out]; rfl, HB.out⟩
theorem rqfar_any (d e l : Int) (w : World) : Calls Try.prog 24 #[.int .i64 d, .int .i64 e, .int .i64 l] w fun y w' => y = .returned (.bool (farB d e l)) ∧ w = w' := by
  have HM := Lib.hid (rqmay_any d e l w)
  cases hq : qmayB l [d, e]
  · have hx : farB d e l = false := by unfold farB; rw [hq]; rfl
    rw [hx]
    rw [hq] at HM
    clear hq hx
    go_enter Try.func24, Try.ntmps24
    go_wp2_with fail
    refine HM.out.mono ?_
    rintro y w1 ⟨rfl, rfl⟩
    go_wp2_with fail
    go_ret
    exact ⟨rfl, rfl⟩
  · obtain ⟨h1, h2, h3⟩ := qmay_two_yes hq
    have hx : farB d e l = decide (256 * l ≤ d - e) := by unfold farB; rw [hq]; rfl
    rw [hx]
    rw [hq] at HM
    obtain ⟨x, hxx⟩ : ∃ x, x = d - e := ⟨_, rfl⟩
    have hw : wrap64 (d - e) = x := by rw [hxx]; exact w64_in _ (by omega)
    obtain ⟨y0, hy0⟩ : ∃ y, y = 256 * l := ⟨_, rfl⟩
    have hw2 : wrap64 (256 * l) = y0 := by rw [hy0]; exact w64_in _ (by omega)
    rw [← hxx, ← hy0]
    obtain ⟨v, hv⟩ : ∃ v, v = decide (y0 ≤ x) := ⟨_, rfl⟩
    rw [← hv]
    have hv2 := hv.symm
    clear hq hx h1 h2 h3 hxx hy0 hv
    go_enter Try.func24, Try.ntmps24
    go_wp2_with fail
    refine HM.out.mono ?_
    rintro y w1 ⟨rfl, rfl⟩
    go_wp2_with fail
    go_ret
    exact ⟨rfl, rfl⟩
theorem lq_a : slotX 125 100 10 = 2 ∧ qmayB 10 [125, 100] = true := by decide +kernel
theorem lq_b : startX 2 100 10 = 120 ∧ startB 2 100 10 = true := by decide +kernel
theorem lq_c : epochX (-5) 10 = -10 ∧ qmayB 10 [-5] = true := by decide +kernel
theorem lq_d : nextX 25 10 = 30 ∧ qmayB 10 [25] = true := by decide +kernel
theorem lq_e : slotX 1 1 0 = 0 ∧ qmayB 0 [1, 1] = false := by decide +kernel
theorem lq_f : slotX 99 100 10 = 0 ∧ qmayB 10 [99, 100] = true := by decide +kernel
theorem lq_g : slotX 1125899906842624 100 10 = 255 ∧ qmayB 10 [1125899906842624, 100] = true := by decide +kernel
theorem lq_h : farB 2660 100 10 = true ∧ farB 2659 100 10 = false := by decide +kernel
theorem live22 (w : World) : Calls Try.prog 22 #[] w fun y w' => y = .returned (.bool true) ∧ Below w.heap.size w w' := by
  have H0 := Lib.hid (fun u => qslot_any 125 100 10 u)
  rw [lq_a.1, lq_a.2] at H0
  have H1 := Lib.hid (fun u => qstart_any 2 100 10 u)
  rw [lq_b.1, lq_b.2] at H1
  have H2 := Lib.hid (fun u => qepoch_any (-5) 10 u)
  rw [lq_c.1, lq_c.2] at H2
  have H3 := Lib.hid (fun u => qnext_any 25 10 u)
  rw [lq_d.1, lq_d.2] at H3
  have H4 := Lib.hid (fun u => qslot_any 1 1 0 u)
  rw [lq_e.1, lq_e.2] at H4
  have H5 := Lib.hid (fun u => qslot_any 99 100 10 u)
  rw [lq_f.1, lq_f.2] at H5
  have H6 := Lib.hid (fun u => qslot_any 1125899906842624 100 10 u)
  rw [lq_g.1, lq_g.2] at H6
  have H7 := Lib.hid (fun u => qfar_any 2660 100 10 u)
  rw [lq_h.1] at H7
  have H8 := Lib.hid (fun u => qfar_any 2659 100 10 u)
  rw [lq_h.2] at H8
  go_enter Try.func22, Try.ntmps22
  go_wp2_with fail
  refine (H0.out _).mono ?_
  rintro y w1 ⟨rfl, hb⟩
  have HB0 := Lib.hid hb
  clear hb
  go_wp2_with fail
  refine (H1.out _).mono ?_
  rintro y w2 ⟨rfl, hb⟩
  have HB1 := Lib.hid (below_transG HB0.out hb)
  clear hb
  go_wp2_with fail
  refine (H2.out _).mono ?_
  rintro y w3 ⟨rfl, hb⟩
  have HB2 := Lib.hid (below_transG HB1.out hb)
  clear hb
  go_wp2_with fail
  refine (H3.out _).mono ?_
  rintro y w4 ⟨rfl, hb⟩
  have HB3 := Lib.hid (below_transG HB2.out hb)
  clear hb
  go_wp2_with fail
  refine (H4.out _).mono ?_
  rintro y w5 ⟨rfl, hb⟩
  have HB4 := Lib.hid (below_transG HB3.out hb)
  clear hb
  go_wp2_with fail
  refine (H5.out _).mono ?_
  rintro y w6 ⟨rfl, hb⟩
  have HB5 := Lib.hid (below_transG HB4.out hb)
  clear hb
  go_wp2_with fail
  refine (H6.out _).mono ?_
  rintro y w7 ⟨rfl, hb⟩
  have HB6 := Lib.hid (below_transG HB5.out hb)
  clear hb
  go_wp2_with fail
  refine (H7.out _).mono ?_
  rintro y w8 ⟨rfl, hb⟩
  have HB7 := Lib.hid (below_transG HB6.out hb)
  clear hb
  go_wp2_with fail
  refine (H8.out _).mono ?_
  rintro y w9 ⟨rfl, hb⟩
  have HB8 := Lib.hid (below_transG HB7.out hb)
  clear hb
  go_wp2_with fail
  go_ret
  exact ⟨rfl, HB8.out⟩
end Go.Proofs.Ythgoaijfpdnolaa
