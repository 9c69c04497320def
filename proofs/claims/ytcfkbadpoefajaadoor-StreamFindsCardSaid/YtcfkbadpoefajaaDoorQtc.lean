/- The document's own answers of layer 22; what must be whatever is asked (live). Conditions: the arguments are numbers of 64 bits. -/
import Derived.Test.YtcfkbadpoefajaaDoorQtb
namespace Go.Proofs.YtcfkbadpoefajaaDoor
open Go.RowKit
theorem rmay_eq (d e l : Int) : qmayB l [d, e] = (decide (-1152921504606846976 ≤ d) && (decide (d ≤ 1152921504606846976) && (decide (-1152921504606846976 ≤ e) && (decide (e ≤ 1152921504606846976) && (decide (1 ≤ l) && decide (l ≤ 1099511627776)))))) := by
  simp only [qmayB, timesB, inB, List.all_cons, List.all_nil, Bool.and_true]
  rw [Bool.eq_iff_iff]
  simp only [Bool.and_eq_true, decide_eq_true_eq]
  omega
theorem rqmay_any (d e l : Int) (w : World) : Calls Tryd.prog 92 #[.int .i64 d, .int .i64 e, .int .i64 l] w fun y w' => y = .returned (.bool (qmayB l [d, e])) ∧ w = w' := by
  rw [rmay_eq]
  obtain ⟨x1, h1⟩ : ∃ x, x = decide (-1152921504606846976 ≤ d) := ⟨_, rfl⟩
  obtain ⟨x2, h2⟩ : ∃ x, x = decide (d ≤ 1152921504606846976) := ⟨_, rfl⟩
  obtain ⟨x3, h3⟩ : ∃ x, x = decide (-1152921504606846976 ≤ e) := ⟨_, rfl⟩
  obtain ⟨x4, h4⟩ : ∃ x, x = decide (e ≤ 1152921504606846976) := ⟨_, rfl⟩
  obtain ⟨x5, h5⟩ : ∃ x, x = decide (1 ≤ l) := ⟨_, rfl⟩
  obtain ⟨x6, h6⟩ : ∃ x, x = decide (l ≤ 1099511627776) := ⟨_, rfl⟩
  rw [← h1, ← h2, ← h3, ← h4, ← h5, ← h6]
  have g1 := h1.symm; have g2 := h2.symm; have g3 := h3.symm; have g4 := h4.symm; have g5 := h5.symm; have g6 := h6.symm
  clear h1 h2 h3 h4 h5 h6
  cases x1
  · go_enter Tryd.func92, Tryd.ntmps92
    go_wp2_with fail
    go_ret
    exact ⟨rfl, rfl⟩
  cases x2
  · go_enter Tryd.func92, Tryd.ntmps92
    go_wp2_with fail
    go_ret
    exact ⟨rfl, rfl⟩
  cases x3
  · go_enter Tryd.func92, Tryd.ntmps92
    go_wp2_with fail
    go_ret
    exact ⟨rfl, rfl⟩
  cases x4
  · go_enter Tryd.func92, Tryd.ntmps92
    go_wp2_with fail
    go_ret
    exact ⟨rfl, rfl⟩
  cases x5
  · go_enter Tryd.func92, Tryd.ntmps92
    go_wp2_with fail
    go_ret
    exact ⟨rfl, rfl⟩
  cases x6
  all_goals
    go_enter Tryd.func92, Tryd.ntmps92
    go_wp2_with fail
    go_ret
    exact ⟨rfl, rfl⟩
theorem qmay_swap (l d : Int) : qmayB l [d, 0] = qmayB l [d] ∧ qmayB l [0, d] = qmayB l [d] := by
  simp [qmayB, timesB, inB]
theorem rqslot_any (d e l : Int) (w : World) : Calls Tryd.prog 65 #[.int .i64 d, .int .i64 e, .int .i64 l] w fun y w' => y = .returned (.tuple #[.int .i64 (slotX d e l), .bool (qmayB l [d, e])]) ∧ w = w' := by
  have HM := Lib.hid (rqmay_any d e l w)
  have hin := slot_in d e l
  cases hq : qmayB l [d, e]
  · have hx : slotX d e l = 0 := by unfold slotX; rw [hq]; rfl
    rw [hx]
    rw [hq] at HM
    clear hq hin hx
    go_enter Tryd.func65, Tryd.ntmps65
    go_wp2_with fail
    refine HM.out.mono ?_
    rintro y w1 ⟨rfl, rfl⟩
    go_wp2_with fail
    go_ret2
    exact ⟨rfl, rfl⟩
  · have hx : slotX d e l = clampV ((d - e) / l) 0 255 := by unfold slotX; rw [hq]; rfl
    obtain ⟨h1, h2, h3⟩ := qmay_two_yes hq
    rw [hx]
    rw [hq] at HM
    by_cases hde : d < e
    · have hneg : (d - e) / l < 0 := Int.ediv_neg_of_neg_of_pos (by omega) (by omega)
      have hc : clampV ((d - e) / l) 0 255 = 0 := by unfold clampV; rw [if_pos hneg]
      rw [hc]
      clear hc hneg h1 h2 h3 hx hin hq
      go_enter Tryd.func65, Tryd.ntmps65
      go_wp2_with fail
      refine HM.out.mono ?_
      rintro y w1 ⟨rfl, rfl⟩
      go_wp2_with fail
      go_ret2
      exact ⟨rfl, rfl⟩
    · have hnn : 0 ≤ (d - e) / l := Int.ediv_nonneg (by omega) (by omega)
      have hle : (d - e) / l ≤ d - e := Int.ediv_le_self _ (by omega)
      have htd : (d - e).tdiv l = (d - e) / l := Int.tdiv_eq_ediv_of_nonneg (by omega)
      obtain ⟨q, hqq⟩ : ∃ q, q = (d - e) / l := ⟨_, rfl⟩
      rw [← hqq] at hnn hle htd ⊢
      obtain ⟨x, hxx⟩ : ∃ x, x = d - e := ⟨_, rfl⟩
      have hw : wrap64 (d - e) = x := by rw [hxx]; exact w64_in _ (by omega)
      rw [← hxx] at hle htd
      have hw2 : wrap64 (x.tdiv l) = q := by rw [htd]; exact w64_in _ (by omega)
      have HW2 := Lib.hid hw2
      have hnz : ¬ l = 0 := by omega
      by_cases h255 : 255 < q
      · have hc : clampV q 0 255 = 255 := by unfold clampV; rw [if_neg (by omega), if_pos h255]
        rw [hc]
        clear hc hle htd hqq hxx h1 h2 h3 hx hin hq
        go_enter Tryd.func65, Tryd.ntmps65
        go_wp2_with fail
        refine HM.out.mono ?_
        rintro y w1 ⟨rfl, rfl⟩
        go_wp2_with fail
        go_ret2
        exact ⟨rfl, rfl⟩
      · have hc : clampV q 0 255 = q := by unfold clampV; rw [if_neg (by omega), if_neg h255]
        rw [hc]
        have HZ := Lib.hid (show wrap64 q = q from w64_in _ (by omega))
        have hz := HZ.out
        clear hc hle htd hqq hxx h1 h2 h3 hx hin hq
        go_enter Tryd.func65, Tryd.ntmps65
        go_wp2_with fail
        refine HM.out.mono ?_
        rintro y w1 ⟨rfl, rfl⟩
        go_wp2_with fail
        go_ret2
        exact ⟨by rw [← HW2.out]; rfl, rfl⟩
theorem lq_a : slotX 125 100 10 = 2 ∧ qmayB 10 [125, 100] = true := by decide +kernel
theorem lq_b : startX 2 100 10 = 120 ∧ startB 2 100 10 = true := by decide +kernel
theorem lq_c : epochX (-5) 10 = -10 ∧ qmayB 10 [-5] = true := by decide +kernel
theorem lq_d : nextX 25 10 = 30 ∧ qmayB 10 [25] = true := by decide +kernel
theorem lq_e : slotX 1 1 0 = 0 ∧ qmayB 0 [1, 1] = false := by decide +kernel
theorem lq_f : slotX 99 100 10 = 0 ∧ qmayB 10 [99, 100] = true := by decide +kernel
theorem lq_g : slotX 1125899906842624 100 10 = 255 ∧ qmayB 10 [1125899906842624, 100] = true := by decide +kernel
theorem lq_h : farB 2660 100 10 = true ∧ farB 2659 100 10 = false := by decide +kernel
end Go.Proofs.YtcfkbadpoefajaaDoor
