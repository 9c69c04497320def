/- The document's own answer of layer 18: the rate of two samples. Conditions: the arguments are numbers of 64 bits. -/
import Derived.Test.YtffcadobdimdoaaRta
namespace Go.Proofs.Ytffcadobdimdoaa
open Go.RowKit
set_option maxHeartbeats 2000000 in
theorem rof_any (ta ha tb hb m : Int) (hta : -9223372036854775808 ≤ ta ∧ ta ≤ 9223372036854775807) (hha : -9223372036854775808 ≤ ha ∧ ha ≤ 9223372036854775807) (htb : -9223372036854775808 ≤ tb ∧ tb ≤ 9223372036854775807) (hhb : -9223372036854775808 ≤ hb ∧ hb ≤ 9223372036854775807) (w : World) : Calls Try.prog 14 #[.agg #[.int .i64 ta, .int .i64 ha], .agg #[.int .i64 tb, .int .i64 hb], .int .i64 m] w fun y w' => y = .returned (.tuple #[.int .i64 (rofX ta ha tb hb m), .bool (rofB ta ha tb hb m)]) ∧ Below w.heap.size w w' := by
  have HBX := Lib.hid (((Below.refl _ w).alloc (Nat.le_refl _) (.cells #[.int .i64 ta, .int .i64 ha] 27)).alloc (by simp) (.cells #[.int .i64 tb, .int .i64 hb] 27))
  have cs : m < 0 ∨ (¬ m < 0 ∧ 4096 < m) ∨ (¬ m < 0 ∧ ¬ 4096 < m ∧ tb ≤ ta) ∨ (¬ m < 0 ∧ ¬ 4096 < m ∧ ¬ tb ≤ ta ∧ hb ≤ ha) ∨ (¬ m < 0 ∧ ¬ 4096 < m ∧ ¬ tb ≤ ta ∧ ¬ hb ≤ ha) := by omega
  have no : rofB ta ha tb hb m = false → rofX ta ha tb hb m = 1048576 := fun e => by unfold rofX; rw [e]; exact if_neg (by decide)
  rcases cs with c1 | ⟨c1, c2⟩ | ⟨c1, c2, c3⟩ | ⟨c1, c2, c3, c4⟩ | ⟨c1, c2, c3, c4⟩
  · have e : rofB ta ha tb hb m = false := by unfold rofB; rw [decide_eq_false (by omega), Bool.false_and]
    rw [no e, e]
    clear e no hta hha htb hhb
    go_enter Try.func14, Try.ntmps14
    go_wp2_with fail
    go_ret2
    exact ⟨rfl, HBX.out⟩
  · have e : rofB ta ha tb hb m = false := by unfold rofB; rw [decide_eq_false (by omega), Bool.false_and]
    rw [no e, e]
    clear e no hta hha htb hhb
    go_enter Try.func14, Try.ntmps14
    go_wp2_with fail
    go_ret2
    exact ⟨rfl, HBX.out⟩
  · have e : rofB ta ha tb hb m = false := by unfold rofB growB; rw [decide_eq_false (p := ta < tb) (by omega)]; simp
    rw [no e, e]
    clear e no hta hha htb hhb
    go_enter Try.func14, Try.ntmps14
    go_wp2_with fail
    go_ret2
    exact ⟨rfl, HBX.out⟩
  · have e : rofB ta ha tb hb m = false := by unfold rofB growB; rw [decide_eq_false (p := ha < hb) (by omega)]; simp
    rw [no e, e]
    clear e no hta hha htb hhb
    go_enter Try.func14, Try.ntmps14
    go_wp2_with fail
    go_ret2
    exact ⟨rfl, HBX.out⟩
  · have HG1 := Lib.hid (fun u => sub_rf tb ta htb hta u)
    have HG2 := Lib.hid (fun u => sub_rf hb ha hhb hha u)
    have e1 : growX ta tb = cutV (tb - ta) := if_pos (by omega)
    have e2 : growX ha hb = cutV (hb - ha) := if_pos (by omega)
    have e3 : growB ta tb = fitB (tb - ta) := by unfold growB; rw [decide_eq_true (by omega), Bool.true_and]
    have e4 : growB ha hb = fitB (hb - ha) := by unfold growB; rw [decide_eq_true (by omega), Bool.true_and]
    have HS := Lib.hid (fun u => scale_rf 1048576 (cutV (tb - ta)) (cutV (hb - ha)) (by decide) (cut_inR _) (cut_inR _) u)
    have HB := Lib.hid (show rofB ta ha tb hb m = (growB ta tb && (growB ha hb && fitB (growX ta tb * 1048576 / growX ha hb))) by unfold rofB; rw [decide_eq_true (p := 0 ≤ m ∧ m ≤ 4096) (by omega), Bool.true_and])
    have HX := Lib.hid (show rofX ta ha tb hb m = if rofB ta ha tb hb m = true then clampV (growX ta tb * 1048576 / growX ha hb) (1048576 - m) (1048576 + m) else 1048576 from rfl)
    rw [e1, e2] at HX
    rw [e1, e2, e3, e4] at HB
    have HP2 := Lib.hid (show fitB (hb - ha) = true → cutV (hb - ha) = hb - ha ∧ 1 ≤ hb - ha from fun h => ⟨cut_yes (of_fit h), by omega⟩)
    obtain ⟨Y, hY⟩ : ∃ z, z = rofB ta ha tb hb m := ⟨_, rfl⟩
    obtain ⟨X, hX⟩ : ∃ z, z = rofX ta ha tb hb m := ⟨_, rfl⟩
    rw [← hY] at HB HX ⊢
    rw [← hX] at HX ⊢
    obtain ⟨T, hT⟩ : ∃ z, z = cutV (tb - ta) := ⟨_, rfl⟩
    obtain ⟨k1, hk1⟩ : ∃ z, z = fitB (tb - ta) := ⟨_, rfl⟩
    obtain ⟨H, hH⟩ : ∃ z, z = cutV (hb - ha) := ⟨_, rfl⟩
    obtain ⟨k2, hk2⟩ : ∃ z, z = fitB (hb - ha) := ⟨_, rfl⟩
    rw [show okV (tb - ta) = .tuple #[.int .i64 T, .bool k1] by rw [hT, hk1]; rfl] at HG1
    rw [show okV (hb - ha) = .tuple #[.int .i64 H, .bool k2] by rw [hH, hk2]; rfl] at HG2
    rw [← hT] at HS HB HX
    rw [← hk1] at HB
    rw [← hH] at HS HB HX HP2
    rw [← hk2] at HB HP2
    have HM := Lib.hid (show 0 ≤ m ∧ m ≤ 4096 by omega)
    clear hY hX hT hk1 hH hk2 hta htb hha hhb e1 e2 e3 e4 no
    obtain ⟨v, k3, hv⟩ : ∃ v k3, scaleV 1048576 T H = .tuple #[.int .i64 v, .bool k3] := by
      unfold scaleV; split
      · exact ⟨0, false, rfl⟩
      · exact ⟨_, _, rfl⟩
    rw [hv] at HS
    have HV := Lib.hid hv
    have HC := Lib.hid (fun u => clamp_rf v (1048576 - m) (1048576 + m) u)
    clear hv
    go_enter Try.func14, Try.ntmps14
    go_wp2_with fail
    refine (HG1.out _).mono ?_
    rintro y w1 ⟨rfl, rfl⟩
    go_wp2_with fail
    refine (HG2.out _).mono ?_
    rintro y w1 ⟨rfl, rfl⟩
    cases k1
    case false =>
      obtain rfl : Y = false := by rw [HB.out]; rfl
      obtain rfl : X = 1048576 := by rw [HX.out]; exact if_neg (by decide)
      clear HB HX
      go_wp2_with fail
      go_ret2
      exact ⟨rfl, HBX.out⟩
    cases k2
    case false =>
      obtain rfl : Y = false := by rw [HB.out]; rfl
      obtain rfl : X = 1048576 := by rw [HX.out]; exact if_neg (by decide)
      clear HB HX
      go_wp2_with fail
      go_ret2
      exact ⟨rfl, HBX.out⟩
    have hpos := HP2.out rfl
    have hv2 := HV.out
    rw [scaleV_yes (by omega), Int.mul_comm] at hv2
    unfold okV at hv2
    injection hv2 with hv2
    simp only [Array.mk.injEq, List.cons.injEq, and_true, Value.int.injEq, Value.bool.injEq, true_and] at hv2
    obtain ⟨hv3, hk3⟩ := hv2
    have HHB := HB.out
    rw [Bool.true_and, Bool.true_and, hk3] at HHB
    obtain rfl := HHB
    have HH3 := Lib.hid hv3; have HK3 := Lib.hid hk3
    clear hpos hv3 hk3
    go_wp2_with fail
    refine (HS.out _).mono ?_
    rintro y w1 ⟨rfl, hb⟩
    have HB1 := Lib.hid (below_transG HBX.out hb)
    clear hb
    cases Y
    case false =>
      obtain rfl : X = 1048576 := by rw [HX.out]; exact if_neg (by decide)
      clear HB HX
      go_wp2_with fail
      go_ret2
      exact ⟨rfl, HB1.out⟩
    case true =>
      obtain rfl : X = clampV v (1048576 - m) (1048576 + m) := by rw [HX.out, if_pos rfl, ← HH3.out, cut_yes (of_fit HK3.out)]
      have f1 : wrap64 (1048576 - m) = 1048576 - m := w64_in _ (by have := HM.out; omega)
      have f2 : wrap64 (1048576 + m) = 1048576 + m := w64_in _ (by have := HM.out; omega)
      clear HB HX
      go_wp2_with fail
      refine (HC.out _).mono ?_
      rintro y w2 ⟨rfl, rfl⟩
      go_wp2_with fail
      go_ret2
      exact ⟨rfl, HB1.out⟩
theorem plain_any (a b : Int) (w : World) : Calls Try.prog 15 #[.agg #[.int .i64 a, .int .i64 b]] w fun y w' => y = .returned (.agg #[.int .i64 a, .int .i64 b]) ∧ Below w.heap.size w w' := by
  have HBX := Lib.hid (((Below.refl _ w).alloc (Nat.le_refl _) (.cells #[.int .i64 a, .int .i64 b] 23)).alloc (by simp) (.cells #[.int .i64 a, .int .i64 b] 27))
  go_enter Try.func15, Try.ntmps15
  go_wp2_with fail
  exact bodyPost_ret (v := .agg #[.int .i64 a, .int .i64 b]) (by simp [results, Try.results15, go_sem]) rfl ⟨rfl, HBX.out⟩
end Go.Proofs.Ytffcadobdimdoaa
