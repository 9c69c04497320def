/- The document's own answers of layer 19: Right, Slope, Bound; and plain. Conditions: the arguments are numbers of 64 bits. -/
import Derived.Test.YtpamkmpaldepnaaAcn
namespace Go.Proofs.Ytpamkmpaldepnaa
open Go.RowKit
theorem rac_right (n d u : Int) (hn : -9223372036854775808 ≤ n ∧ n ≤ 9223372036854775807) (w : World) : Calls Try.prog 13 #[.agg #[.int .i64 n, .int .i64 d, .int .i64 u]] w fun y w' => y = .returned (.bool (rightC n d u)) ∧ Below w.heap.size w w' := by
  have HR := Lib.hid (fun z => roright_any n d hn z)
  have e : rightC n d u = (rightO n d && (decide (0 ≤ u) && decide (u ≤ 4096))) := by unfold rightC; congr 1; rw [Bool.eq_iff_iff]; simp
  rw [e]
  obtain ⟨x0, h0⟩ : ∃ x, x = rightO n d := ⟨_, rfl⟩
  obtain ⟨x1, h1⟩ : ∃ x, x = decide (0 ≤ u) := ⟨_, rfl⟩
  obtain ⟨x2, h2⟩ : ∃ x, x = decide (u ≤ 4096) := ⟨_, rfl⟩
  rw [← h0] at HR
  rw [← h0, ← h1, ← h2]
  have g1 := h1.symm; have g2 := h2.symm
  clear h0 h1 h2 e hn
  have HA := Lib.hid (Blk.new w 29 [.int .i64 n, .int .i64 d, .int .i64 u])
  have HB := Lib.hid ((Below.refl _ w).alloc (Nat.le_refl _) (.cells #[.int .i64 n, .int .i64 d, .int .i64 u] 29))
  obtain ⟨W0, hW0⟩ : ∃ W, W = w.alloc (.cells #[.int .i64 n, .int .i64 d, .int .i64 u] 29) := ⟨_, rfl⟩
  have HA0 := Lib.hid (show Blk W0 w.heap.size 29 [.int .i64 n, .int .i64 d, .int .i64 u] from hW0 ▸ HA.out)
  have HB0 := Lib.hid (show Below w.heap.size w W0 from hW0 ▸ HB.out)
  have c0 := HA0.out.cellAt (i := 0) (by simp); have c1 := HA0.out.cellAt (i := 1) (by simp); have c2 := HA0.out.cellAt (i := 2) (by simp)
  go_enter Try.func13, Try.ntmps13
  go_upto_region 1 with fail
  rw [← hW0]
  clear hW0 HA HB
  go_wp2_with fail
  refine (HR.out _).mono ?_
  rintro y w1 ⟨rfl, hb⟩
  have HB1 := Lib.hid (below_transG HB0.out hb)
  have HA1 := Lib.hid (HA0.out.keep hb HA0.out.lt)
  clear hb c0 c1 c2
  have c0 := HA1.out.cellAt (i := 0) (by simp); have c1 := HA1.out.cellAt (i := 1) (by simp); have c2 := HA1.out.cellAt (i := 2) (by simp)
  cases x0
  · go_wp2_with fail
    go_ret
    exact ⟨rfl, HB1.out⟩
  cases x1
  · go_wp2_with fail
    go_ret
    exact ⟨rfl, HB1.out⟩
  go_wp2_with fail
  go_ret
  exact ⟨rfl, HB1.out⟩
theorem slope_alt {n d u : Int} (h : rightC n d u = true) : slopeC n d u = 2 * d + (n + d) * u / 1048576 + (if 0 < (n + d) * u % 1048576 then 1 else 0) ∧ 0 ≤ (n + d) * u ∧ (n + d) * u ≤ 8589934592 ∧ (1 ≤ n ∧ n ≤ 1048576 ∧ 0 ≤ d ∧ d < n) ∧ 0 ≤ u ∧ u ≤ 4096 := by
  have hs : slopeC n d u = 2 * d - (n + d) * (-u) / 1048576 := by unfold slopeC; rw [if_pos h]
  unfold rightC rightO at h
  rw [Bool.and_eq_true, decide_eq_true_iff, decide_eq_true_iff] at h
  have h1 : 0 ≤ (n + d) * u := Int.mul_nonneg (by omega) (by omega)
  have h2 : (n + d) * u ≤ 2097152 * 4096 := Int.mul_le_mul (by omega) h.2.2 (by omega) (by omega)
  rw [Int.mul_neg] at hs
  refine ⟨?_, h1, by omega, h.1, h.2⟩
  rw [hs]
  split <;> omega
theorem rac_slope (n d u : Int) (hn : -9223372036854775808 ≤ n ∧ n ≤ 9223372036854775807) (w : World) : Calls Try.prog 15 #[.agg #[.int .i64 n, .int .i64 d, .int .i64 u]] w fun y w' => y = .returned (.int .i64 (slopeC n d u)) ∧ Below w.heap.size w w' := by
  have HR := Lib.hid (fun z => rac_right n d u hn z)
  obtain ⟨X, hX⟩ : ∃ X, X = slopeC n d u := ⟨_, rfl⟩
  rw [← hX]
  have HX := Lib.hid hX
  clear hX hn
  cases hr : rightC n d u
  · have HE := Lib.hid (show X = 0 by rw [HX.out]; unfold slopeC; rw [hr]; rfl)
    rw [hr] at HR
    clear hr
    have HA := Lib.hid (Blk.new w 29 [.int .i64 n, .int .i64 d, .int .i64 u])
    have HB := Lib.hid ((Below.refl _ w).alloc (Nat.le_refl _) (.cells #[.int .i64 n, .int .i64 d, .int .i64 u] 29))
    obtain ⟨W0, hW0⟩ : ∃ W, W = w.alloc (.cells #[.int .i64 n, .int .i64 d, .int .i64 u] 29) := ⟨_, rfl⟩
    have HA0 := Lib.hid (show Blk W0 w.heap.size 29 [.int .i64 n, .int .i64 d, .int .i64 u] from hW0 ▸ HA.out)
    have HB0 := Lib.hid (show Below w.heap.size w W0 from hW0 ▸ HB.out)
    have c0 := HA0.out.cellAt (i := 0) (by simp); have c1 := HA0.out.cellAt (i := 1) (by simp); have c2 := HA0.out.cellAt (i := 2) (by simp)
    go_enter Try.func15, Try.ntmps15
    go_upto_region 1 with fail
    rw [← hW0]
    clear hW0 HA HB
    go_wp2_with fail
    refine (HR.out _).mono ?_
    rintro y w1 ⟨rfl, hb⟩
    have HB1 := Lib.hid (below_transG HB0.out hb)
    have HA1 := Lib.hid (HA0.out.keep hb HA0.out.lt)
    clear hb c0 c1 c2
    have c0 := HA1.out.cellAt (i := 0) (by simp); have c1 := HA1.out.cellAt (i := 1) (by simp); have c2 := HA1.out.cellAt (i := 2) (by simp)
    go_wp2_with fail
    go_ret
    exact ⟨by rw [HE.out]; rfl, HB1.out⟩
  · obtain ⟨e, h1, h2, h3, h4⟩ := slope_alt hr
    rw [hr] at HR
    obtain ⟨nd, hnd⟩ : ∃ z, z = n + d := ⟨_, rfl⟩
    have a1 : wrap64 (n + d) = nd := by rw [hnd]; exact w64_in _ (by omega)
    rw [← hnd] at e h1 h2
    obtain ⟨m, hm⟩ : ∃ z, z = nd * u := ⟨_, rfl⟩
    have a2 : wrap64 (nd * u) = m := by rw [hm]; exact w64_in _ (by omega)
    rw [← hm] at e h1 h2
    obtain ⟨d2, hd2⟩ : ∃ z, z = 2 * d := ⟨_, rfl⟩
    have a3 : wrap64 (2 * d) = d2 := by rw [hd2]; exact w64_in _ (by omega)
    obtain ⟨q, hq⟩ : ∃ z, z = m / 1048576 := ⟨_, rfl⟩
    have a4 : wrap64 (m / 1048576) = q := by rw [hq]; exact w64_in _ (by omega)
    have a5 : m.tdiv 1048576 = q := by rw [hq]; exact Int.tdiv_eq_ediv_of_nonneg h1
    have a5b : wrap64 (m.tdiv 1048576) = q := by rw [a5, hq]; exact w64_in _ (by omega)
    have a5c : m / 1048576 = q := hq.symm
    obtain ⟨r, hr2⟩ : ∃ z, z = m % 1048576 := ⟨_, rfl⟩
    have a6 : m % 1048576 = r := hr2.symm
    have a7 : m.tmod 1048576 = r := by rw [hr2]; exact Int.tmod_eq_emod_of_nonneg h1
    rw [← hd2, ← hq, ← hr2] at e
    obtain ⟨s, hs⟩ : ∃ z, z = d2 + q := ⟨_, rfl⟩
    have a8 : wrap64 (d2 + q) = s := by rw [hs]; exact w64_in _ (by omega)
    rw [← hs] at e
    have hb : 0 ≤ s ∧ s ≤ 9000000000 := by omega
    have HA8 := Lib.hid a8
    have hwq : wrap64 q = q := w64_in _ (by omega)
    have HWQ := Lib.hid hwq
    clear hwq
    by_cases hp : 0 < r
    · rw [if_pos hp] at e
      have HZ := Lib.hid (show wrap64 (wrap64 (d2 + wrap64 q) + 1) = X by rw [HWQ.out, HA8.out, HX.out, e]; exact w64_in _ (by omega))
      clear e h1 h2 h3 h4 hnd hm hd2 hq hr2 hs hb hr
      have HA := Lib.hid (Blk.new w 29 [.int .i64 n, .int .i64 d, .int .i64 u])
      have HB := Lib.hid ((Below.refl _ w).alloc (Nat.le_refl _) (.cells #[.int .i64 n, .int .i64 d, .int .i64 u] 29))
      obtain ⟨W0, hW0⟩ : ∃ W, W = w.alloc (.cells #[.int .i64 n, .int .i64 d, .int .i64 u] 29) := ⟨_, rfl⟩
      have HA0 := Lib.hid (show Blk W0 w.heap.size 29 [.int .i64 n, .int .i64 d, .int .i64 u] from hW0 ▸ HA.out)
      have HB0 := Lib.hid (show Below w.heap.size w W0 from hW0 ▸ HB.out)
      have c0 := HA0.out.cellAt (i := 0) (by simp); have c1 := HA0.out.cellAt (i := 1) (by simp); have c2 := HA0.out.cellAt (i := 2) (by simp)
      go_enter Try.func15, Try.ntmps15
      go_upto_region 1 with fail
      rw [← hW0]
      clear hW0 HA HB
      go_wp2_with fail
      refine (HR.out _).mono ?_
      rintro y w1 ⟨rfl, hb⟩
      have HB1 := Lib.hid (below_transG HB0.out hb)
      have HA1 := Lib.hid (HA0.out.keep hb HA0.out.lt)
      clear hb c0 c1 c2
      have c0 := HA1.out.cellAt (i := 0) (by simp); have c1 := HA1.out.cellAt (i := 1) (by simp); have c2 := HA1.out.cellAt (i := 2) (by simp)
      go_wp2_with fail
      go_ret
      exact ⟨by rw [← HZ.out]; rfl, HB1.out⟩
    · rw [if_neg hp, Int.add_zero] at e
      have HZ := Lib.hid (show wrap64 (d2 + wrap64 q) = X by rw [HWQ.out, HA8.out, HX.out, e])
      clear e h1 h2 h3 h4 hnd hm hd2 hq hr2 hs hb hr
      have HA := Lib.hid (Blk.new w 29 [.int .i64 n, .int .i64 d, .int .i64 u])
      have HB := Lib.hid ((Below.refl _ w).alloc (Nat.le_refl _) (.cells #[.int .i64 n, .int .i64 d, .int .i64 u] 29))
      obtain ⟨W0, hW0⟩ : ∃ W, W = w.alloc (.cells #[.int .i64 n, .int .i64 d, .int .i64 u] 29) := ⟨_, rfl⟩
      have HA0 := Lib.hid (show Blk W0 w.heap.size 29 [.int .i64 n, .int .i64 d, .int .i64 u] from hW0 ▸ HA.out)
      have HB0 := Lib.hid (show Below w.heap.size w W0 from hW0 ▸ HB.out)
      have c0 := HA0.out.cellAt (i := 0) (by simp); have c1 := HA0.out.cellAt (i := 1) (by simp); have c2 := HA0.out.cellAt (i := 2) (by simp)
      go_enter Try.func15, Try.ntmps15
      go_upto_region 1 with fail
      rw [← hW0]
      clear hW0 HA HB
      go_wp2_with fail
      refine (HR.out _).mono ?_
      rintro y w1 ⟨rfl, hb⟩
      have HB1 := Lib.hid (below_transG HB0.out hb)
      have HA1 := Lib.hid (HA0.out.keep hb HA0.out.lt)
      clear hb c0 c1 c2
      have c0 := HA1.out.cellAt (i := 0) (by simp); have c1 := HA1.out.cellAt (i := 1) (by simp); have c2 := HA1.out.cellAt (i := 2) (by simp)
      go_wp2_with fail
      go_ret
      exact ⟨by rw [← HZ.out]; rfl, HB1.out⟩
theorem rac_bound (n d u b : Int) (hn : -9223372036854775808 ≤ n ∧ n ≤ 9223372036854775807) (hb0 : -9223372036854775808 ≤ b ∧ b ≤ 9223372036854775807) (w : World) : Calls Try.prog 9 #[.agg #[.int .i64 n, .int .i64 d, .int .i64 u], .int .i64 b] w fun y w' => y = .returned (.tuple #[.int .i64 (boundX n d u b), .bool (boundB n d u b)]) ∧ Below w.heap.size w w' := by
  have HR := Lib.hid (fun z => rac_right n d u hn z)
  have HS := Lib.hid (fun z => rac_slope n d u hn z)
  have hsl := slope_in n d u
  obtain ⟨X, hX⟩ : ∃ X, X = boundX n d u b := ⟨_, rfl⟩
  obtain ⟨Y, hY⟩ : ∃ X, X = boundB n d u b := ⟨_, rfl⟩
  rw [← hX, ← hY]
  have HX := Lib.hid hX; have HY := Lib.hid hY
  clear hX hY
  have hbd : boundB n d u b = (rightC n d u && decide (0 ≤ b ∧ b ≤ 1099511627776)) := rfl
  cases hr : rightC n d u
  · have HE := Lib.hid (show X = 0 ∧ Y = false by
      have e : boundB n d u b = false := by rw [hbd, hr]; rfl
      rw [HX.out, HY.out, e]; unfold boundX; rw [e]; exact ⟨rfl, rfl⟩)
    rw [hr] at HR
    clear hr hbd hsl hb0 hn
    have HA := Lib.hid (Blk.new w 29 [.int .i64 n, .int .i64 d, .int .i64 u])
    have HB := Lib.hid ((Below.refl _ w).alloc (Nat.le_refl _) (.cells #[.int .i64 n, .int .i64 d, .int .i64 u] 29))
    obtain ⟨W0, hW0⟩ : ∃ W, W = w.alloc (.cells #[.int .i64 n, .int .i64 d, .int .i64 u] 29) := ⟨_, rfl⟩
    have HA0 := Lib.hid (show Blk W0 w.heap.size 29 [.int .i64 n, .int .i64 d, .int .i64 u] from hW0 ▸ HA.out)
    have HB0 := Lib.hid (show Below w.heap.size w W0 from hW0 ▸ HB.out)
    have c0 := HA0.out.cellAt (i := 0) (by simp); have c1 := HA0.out.cellAt (i := 1) (by simp); have c2 := HA0.out.cellAt (i := 2) (by simp)
    go_enter Try.func9, Try.ntmps9
    go_upto_region 1 with fail
    rw [← hW0]
    clear hW0 HA HB
    go_wp2_with fail
    refine (HR.out _).mono ?_
    rintro y w1 ⟨rfl, hb⟩
    have HB1 := Lib.hid (below_transG HB0.out hb)
    have HA1 := Lib.hid (HA0.out.keep hb HA0.out.lt)
    clear hb c0 c1 c2
    have c0 := HA1.out.cellAt (i := 0) (by simp); have c1 := HA1.out.cellAt (i := 1) (by simp); have c2 := HA1.out.cellAt (i := 2) (by simp)
    go_wp2_with fail
    go_ret2
    exact ⟨by rw [HE.out.1, HE.out.2]; rfl, HB1.out⟩
  rw [hr] at HR
  by_cases hb : 0 ≤ b ∧ b ≤ 1099511627776
  rotate_left
  · have HE := Lib.hid (show X = 0 ∧ Y = false by
      have e : boundB n d u b = false := by rw [hbd, hr, decide_eq_false hb]; rfl
      rw [HX.out, HY.out, e]; unfold boundX; rw [e]; exact ⟨rfl, rfl⟩)
    have cs : b < 0 ∨ (¬ b < 0 ∧ 1099511627776 < b) := by omega
    clear hr hbd hsl hb0 hn hb
    rcases cs with i1 | ⟨i1, i2⟩
    all_goals
      have HA := Lib.hid (Blk.new w 29 [.int .i64 n, .int .i64 d, .int .i64 u])
      have HB := Lib.hid ((Below.refl _ w).alloc (Nat.le_refl _) (.cells #[.int .i64 n, .int .i64 d, .int .i64 u] 29))
      obtain ⟨W0, hW0⟩ : ∃ W, W = w.alloc (.cells #[.int .i64 n, .int .i64 d, .int .i64 u] 29) := ⟨_, rfl⟩
      have HA0 := Lib.hid (show Blk W0 w.heap.size 29 [.int .i64 n, .int .i64 d, .int .i64 u] from hW0 ▸ HA.out)
      have HB0 := Lib.hid (show Below w.heap.size w W0 from hW0 ▸ HB.out)
      have c0 := HA0.out.cellAt (i := 0) (by simp); have c1 := HA0.out.cellAt (i := 1) (by simp); have c2 := HA0.out.cellAt (i := 2) (by simp)
      go_enter Try.func9, Try.ntmps9
      go_upto_region 1 with fail
      rw [← hW0]
      clear hW0 HA HB
      go_wp2_with fail
      refine (HR.out _).mono ?_
      rintro y w1 ⟨rfl, hb⟩
      have HB1 := Lib.hid (below_transG HB0.out hb)
      have HA1 := Lib.hid (HA0.out.keep hb HA0.out.lt)
      clear hb c0 c1 c2
      have c0 := HA1.out.cellAt (i := 0) (by simp); have c1 := HA1.out.cellAt (i := 1) (by simp); have c2 := HA1.out.cellAt (i := 2) (by simp)
      go_wp2_with fail
      go_ret2
      exact ⟨by rw [HE.out.1, HE.out.2]; rfl, HB1.out⟩
  have hfit := fit_slope n d u b hb
  have e : boundB n d u b = true := by rw [hbd, hr, decide_eq_true hb]; rfl
  have ex : boundX n d u b = b * slopeC n d u + 4 := by unfold boundX; rw [e]; rfl
  obtain ⟨sl, hsl2⟩ : ∃ z, z = slopeC n d u := ⟨_, rfl⟩
  rw [← hsl2] at HS hsl hfit ex
  obtain ⟨m, hm⟩ : ∃ z, z = b * sl := ⟨_, rfl⟩
  have HM := Lib.hid (fun z => mul_rf b sl (by omega) (by omega) z)
  rw [← hm] at HM hfit ex
  have h1 : -9223372036854775808 ≤ m ∧ m ≤ 9223372036854775807 := by omega
  have h2 : -9223372036854775808 ≤ m + 4 ∧ m + 4 ≤ 9223372036854775807 := by omega
  rw [show okV m = .tuple #[.int .i64 m, .bool true] by unfold okV; rw [fit_yes h1, cut_yes h1]] at HM
  have HAD := Lib.hid (fun z => add_rf m 4 h1 (by decide) z)
  rw [show okV (m + 4) = .tuple #[.int .i64 (m + 4), .bool true] by unfold okV; rw [fit_yes h2, cut_yes h2]] at HAD
  have HE := Lib.hid (show X = m + 4 ∧ Y = true by rw [HX.out, HY.out, e, ex]; exact ⟨rfl, rfl⟩)
  have i1 : ¬ b < 0 := by omega
  have i2 : ¬ 1099511627776 < b := by omega
  obtain ⟨m4, hm4⟩ : ∃ z, z = m + 4 := ⟨_, rfl⟩
  rw [← hm4] at HAD HE
  clear hfit e ex hsl2 hm h1 h2 hsl hbd hr hb hb0 hn hm4
  have HA := Lib.hid (Blk.new w 29 [.int .i64 n, .int .i64 d, .int .i64 u])
  have HB := Lib.hid ((Below.refl _ w).alloc (Nat.le_refl _) (.cells #[.int .i64 n, .int .i64 d, .int .i64 u] 29))
  obtain ⟨W0, hW0⟩ : ∃ W, W = w.alloc (.cells #[.int .i64 n, .int .i64 d, .int .i64 u] 29) := ⟨_, rfl⟩
  have HA0 := Lib.hid (show Blk W0 w.heap.size 29 [.int .i64 n, .int .i64 d, .int .i64 u] from hW0 ▸ HA.out)
  have HB0 := Lib.hid (show Below w.heap.size w W0 from hW0 ▸ HB.out)
  have c0 := HA0.out.cellAt (i := 0) (by simp); have c1 := HA0.out.cellAt (i := 1) (by simp); have c2 := HA0.out.cellAt (i := 2) (by simp)
  go_enter Try.func9, Try.ntmps9
  go_upto_region 1 with fail
  rw [← hW0]
  clear hW0 HA HB
  go_wp2_with fail
  refine (HR.out _).mono ?_
  rintro y w1 ⟨rfl, hb⟩
  have HB1 := Lib.hid (below_transG HB0.out hb)
  have HA1 := Lib.hid (HA0.out.keep hb HA0.out.lt)
  clear hb c0 c1 c2
  have c0 := HA1.out.cellAt (i := 0) (by simp); have c1 := HA1.out.cellAt (i := 1) (by simp); have c2 := HA1.out.cellAt (i := 2) (by simp)
  go_wp2_with fail
  refine (HS.out _).mono ?_
  rintro y w2 ⟨rfl, hb⟩
  have HB2 := Lib.hid (below_transG HB1.out hb)
  have HA2 := Lib.hid (HA1.out.keep hb HA1.out.lt)
  clear hb c0 c1 c2
  have c0 := HA2.out.cellAt (i := 0) (by simp); have c1 := HA2.out.cellAt (i := 1) (by simp); have c2 := HA2.out.cellAt (i := 2) (by simp)
  go_wp2_with fail
  refine (HM.out _).mono ?_
  rintro y w3 ⟨rfl, hb⟩
  have HB3 := Lib.hid (below_transG HB2.out hb)
  have HA3 := Lib.hid (HA2.out.keep hb HA2.out.lt)
  clear hb c0 c1 c2
  have c0 := HA3.out.cellAt (i := 0) (by simp); have c1 := HA3.out.cellAt (i := 1) (by simp); have c2 := HA3.out.cellAt (i := 2) (by simp)
  go_wp2_with fail
  refine (HAD.out _).mono ?_
  rintro y w4 ⟨rfl, rfl⟩
  go_wp2_with fail
  go_ret2
  exact ⟨by rw [HE.out.1, HE.out.2]; rfl, HB3.out⟩
theorem ac_plain (n d u : Int) (w : World) : Calls Try.prog 10 #[.agg #[.int .i64 n, .int .i64 d, .int .i64 u]] w fun y w' => y = .returned (.agg #[.int .i64 n, .int .i64 d, .int .i64 u]) ∧ Below w.heap.size w w' := by
  have HBX := Lib.hid (((Below.refl _ w).alloc (Nat.le_refl _) (.cells #[.int .i64 n, .int .i64 d, .int .i64 u] 25)).alloc (by simp) (.cells #[.int .i64 n, .int .i64 d, .int .i64 u] 29))
  go_enter Try.func10, Try.ntmps10
  go_wp2_with fail
  exact bodyPost_ret (v := .agg #[.int .i64 n, .int .i64 d, .int .i64 u]) (by simp [results, Try.results10, go_sem]) rfl ⟨rfl, HBX.out⟩
end Go.Proofs.Ytpamkmpaldepnaa
