/- The document's own answers of layer 19: Right, Slope, Bound; and plain. Conditions: the arguments are numbers of 64 bits. -/
import Derived.Test.YtbjelggbnmfblaaAcn
namespace Go.Proofs.Ytbjelggbnmfblaa
open Go.RowKit
theorem rac_right (n d u : Int) (hn : -9223372036854775808 ≤ n ∧ n ≤ 9223372036854775807) (w : World) : Calls Try.prog 111 #[.agg #[.int .i64 n, .int .i64 d, .int .i64 u]] w fun y w' => y = .returned (.bool (rightC n d u)) ∧ Below w.heap.size w w' := by
  have HR := Lib.hid (fun z => roright_any n d hn z)
  have e : rightC n d u = (rightO n d && (decide (0 ≤ u) && decide (u ≤ 4096))) := by unfold rightC; congr 1; rw [Bool.eq_iff_iff]; simp
  rw [e]
  obtain ⟨x0, h0⟩ : ∃ x, x = rightO n d := ⟨_, rfl⟩
  obtain ⟨x1, h1⟩ : ∃ x, x = decide (0 ≤ u) := ⟨_, rfl⟩
  obtain ⟨x2, h2⟩ : ∃ x, x = decide (u ≤ 4096) := ⟨_, rfl⟩
  rw [← h0] at HR
  rw [← h0, ← h1, ← h2]
  have g1 := h1.symm; have g2 := h2.symm
  clear h0 h1 h2 e hn
  have HA := Lib.hid (Blk.new w 100 [.int .i64 n, .int .i64 d, .int .i64 u])
  have HB := Lib.hid ((Below.refl _ w).alloc (Nat.le_refl _) (.cells #[.int .i64 n, .int .i64 d, .int .i64 u] 100))
  obtain ⟨W0, hW0⟩ : ∃ W, W = w.alloc (.cells #[.int .i64 n, .int .i64 d, .int .i64 u] 100) := ⟨_, rfl⟩
  have HA0 := Lib.hid (show Blk W0 w.heap.size 100 [.int .i64 n, .int .i64 d, .int .i64 u] from hW0 ▸ HA.out)
  have HB0 := Lib.hid (show Below w.heap.size w W0 from hW0 ▸ HB.out)
  have c0 := HA0.out.cellAt (i := 0) (by simp); have c1 := HA0.out.cellAt (i := 1) (by simp); have c2 := HA0.out.cellAt (i := 2) (by simp)
  go_enter Try.func111, Try.ntmps111
  go_upto_region 1 with fail
  rw [← hW0]
  clear hW0 HA HB
  go_wp2_with fail
  refine (HR.out _).mono ?_
  rintro y w1 ⟨rfl, hb⟩
  have HB1 := Lib.hid (below_transG HB0.out hb)
  have HA1 := Lib.hid (HA0.out.keep hb HA0.out.lt)
  clear hb c0 c1 c2
  have c0 := HA1.out.cellAt (i := 0) (by simp); have c1 := HA1.out.cellAt (i := 1) (by simp); have c2 := HA1.out.cellAt (i := 2) (by simp)
  cases x0
  · go_wp2_with fail
    go_ret
    exact ⟨rfl, HB1.out⟩
  cases x1
  · go_wp2_with fail
    go_ret
    exact ⟨rfl, HB1.out⟩
  go_wp2_with fail
  go_ret
  exact ⟨rfl, HB1.out⟩
theorem slope_alt {n d u : Int} (h : rightC n d u = true) : slopeC n d u = 2 * d + (n + d) * u / 1048576 + (if 0 < (n + d) * u % 1048576 then 1 else 0) ∧ 0 ≤ (n + d) * u ∧ (n + d) * u ≤ 8589934592 ∧ (1 ≤ n ∧ n ≤ 1048576 ∧ 0 ≤ d ∧ d < n) ∧ 0 ≤ u ∧ u ≤ 4096 := by
  have hs : slopeC n d u = 2 * d - (n + d) * (-u) / 1048576 := by unfold slopeC; rw [if_pos h]
  unfold rightC rightO at h
  rw [Bool.and_eq_true, decide_eq_true_iff, decide_eq_true_iff] at h
  have h1 : 0 ≤ (n + d) * u := Int.mul_nonneg (by omega) (by omega)
  have h2 : (n + d) * u ≤ 2097152 * 4096 := Int.mul_le_mul (by omega) h.2.2 (by omega) (by omega)
  rw [Int.mul_neg] at hs
  refine ⟨?_, h1, by omega, h.1, h.2⟩
  rw [hs]
  split <;> omega
theorem ac_plain (n d u : Int) (w : World) : Calls Try.prog 44 #[.agg #[.int .i64 n, .int .i64 d, .int .i64 u]] w fun y w' => y = .returned (.agg #[.int .i64 n, .int .i64 d, .int .i64 u]) ∧ Below w.heap.size w w' := by
  have HBX := Lib.hid (((Below.refl _ w).alloc (Nat.le_refl _) (.cells #[.int .i64 n, .int .i64 d, .int .i64 u] 92)).alloc (by simp) (.cells #[.int .i64 n, .int .i64 d, .int .i64 u] 100))
  go_enter Try.func44, Try.ntmps44
  go_wp2_with fail
  exact bodyPost_ret (v := .agg #[.int .i64 n, .int .i64 d, .int .i64 u]) (by simp [results, Try.results44, go_sem]) rfl ⟨rfl, HBX.out⟩
end Go.Proofs.Ytbjelggbnmfblaa
