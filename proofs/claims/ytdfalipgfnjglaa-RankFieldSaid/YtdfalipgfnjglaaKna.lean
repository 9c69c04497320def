/- Package rank, and the document's own answers of layer 21: which configs can be, how long nodes wait, the window. Conditions: the arguments are numbers of 64 bits. -/
import Derived.Test.YtdfalipgfnjglaaBas
import Derived.Test.YtdfalipgfnjglaaGna
import Derived.Test.YtdfalipgfnjglaaRkm
import Derived.Test.YtdfalipgfnjglaaQui
import Derived.Deep.Cut
namespace Go.Proofs.Ytdfalipgfnjglaa
open Go.RowKit
theorem below_boxR {w w1 : World} {o : Obj} (h : Below (w.alloc o).heap.size (w.alloc o) w1) : Below w.heap.size w w1 := below_transG ((Below.refl _ w).alloc (Nat.le_refl _) o) h
/-- Is a number from lo to hi? -/
def inR (n lo hi : Int) : Bool := decide (lo ≤ n ∧ n ≤ hi)
theorem inR_yes {n lo hi : Int} (h : lo ≤ n ∧ n ≤ hi) : inR n lo hi = true := decide_eq_true h
theorem inR_no {n lo hi : Int} (h : ¬ (lo ≤ n ∧ n ≤ hi)) : inR n lo hi = false := decide_eq_false h
theorem inR_iff {n lo hi : Int} (h : inR n lo hi = true) : lo ≤ n ∧ n ≤ hi := of_decide_eq_true h
theorem rk_within (n lo hi : Int) (w : World) : Calls Try.prog 176 #[.int .i64 n, .int .i64 lo, .int .i64 hi] w fun y w' => y = .returned (.bool (inR n lo hi)) ∧ w = w' := by
  have e : inR n lo hi = (decide (lo ≤ n) && decide (n ≤ hi)) := by unfold inR; rw [Bool.eq_iff_iff]; simp
  rw [e]
  obtain ⟨x1, h1⟩ : ∃ x, x = decide (lo ≤ n) := ⟨_, rfl⟩
  obtain ⟨x2, h2⟩ : ∃ x, x = decide (n ≤ hi) := ⟨_, rfl⟩
  rw [← h1, ← h2]
  have g1 := h1.symm; have g2 := h2.symm
  clear h1 h2 e
  cases x1
  all_goals
    go_enter Try.func176, Try.ntmps176
    go_wp2_with fail
    go_ret
    exact ⟨rfl, rfl⟩
theorem rk_isRank (n : Int) (w : World) : Calls Try.prog 128 #[.int .i64 n] w fun y w' => y = .returned (.bool (inR n 0 31)) ∧ w = w' := by
  have H := Lib.hid (fun u => rk_within n 0 31 u)
  go_enter Try.func128, Try.ntmps128
  go_wp2_with fail
  refine (H.out _).mono ?_
  rintro y w1 ⟨rfl, rfl⟩
  go_wp2_with fail
  go_ret
  exact ⟨rfl, rfl⟩
theorem rk_mayBe (n : Int) (w : World) : Calls Try.prog 135 #[.int .i64 n] w fun y w' => y = .returned (.bool (inR n 1 32)) ∧ w = w' := by
  have H := Lib.hid (fun u => rk_within n 1 32 u)
  go_enter Try.func135, Try.ntmps135
  go_wp2_with fail
  refine (H.out _).mono ?_
  rintro y w1 ⟨rfl, rfl⟩
  go_wp2_with fail
  go_ret
  exact ⟨rfl, rfl⟩
/-- Can a config be? -/
def rightR (b s p : Int) : Bool := inR p 1 1000 && inR s 1 1000 && inR b p 10000
theorem rightR_rc {b s p : Int} (h : rightR b s p = true) : Rc b s p := by
  unfold rightR at h
  rw [Bool.and_eq_true, Bool.and_eq_true] at h
  exact ⟨inR_iff h.1.1, inR_iff h.1.2, inR_iff h.2⟩
theorem rc_rightR {b s p : Int} (h : Rc b s p) : rightR b s p = true := by
  unfold rightR
  rw [inR_yes h.p1, inR_yes h.s1, inR_yes h.b1]; rfl
theorem rk_right (b s p : Int) (w : World) : Calls Try.prog 127 #[.agg #[.int .i64 b, .int .i64 s, .int .i64 p]] w fun y w' => y = .returned (.bool (rightR b s p)) ∧ Below w.heap.size w w' := by
  have H1 := Lib.hid (fun u => rk_within p 1 1000 u)
  have H2 := Lib.hid (fun u => rk_within s 1 1000 u)
  have H3 := Lib.hid (fun u => rk_within b p 10000 u)
  unfold rightR
  obtain ⟨x1, h1⟩ : ∃ x, x = inR p 1 1000 := ⟨_, rfl⟩
  obtain ⟨x2, h2⟩ : ∃ x, x = inR s 1 1000 := ⟨_, rfl⟩
  obtain ⟨x3, h3⟩ : ∃ x, x = inR b p 10000 := ⟨_, rfl⟩
  rw [← h1] at H1 ⊢
  rw [← h2] at H2 ⊢
  rw [← h3] at H3 ⊢
  clear h1 h2 h3
  have HB := Lib.hid ((Below.refl _ w).alloc (Nat.le_refl _) (.cells #[.int .i64 b, .int .i64 s, .int .i64 p] 115))
  go_enter Try.func127, Try.ntmps127
  go_wp2_with fail
  refine (H1.out _).mono ?_
  rintro y w1 ⟨rfl, rfl⟩
  cases x1
  · go_wp2_with fail
    go_ret
    exact ⟨rfl, HB.out⟩
  go_wp2_with fail
  refine (H2.out _).mono ?_
  rintro y w1 ⟨rfl, rfl⟩
  cases x2
  · go_wp2_with fail
    go_ret
    exact ⟨rfl, HB.out⟩
  go_wp2_with fail
  refine (H3.out _).mono ?_
  rintro y w1 ⟨rfl, rfl⟩
  go_wp2_with fail
  go_ret
  exact ⟨rfl, HB.out⟩
theorem rrk_right (b s p : Int) (w : World) : Calls Try.prog 129 #[.agg #[.int .i64 b, .int .i64 s, .int .i64 p]] w fun y w' => y = .returned (.bool (rightR b s p)) ∧ Below w.heap.size w w' := by
  have e : rightR b s p = (decide (1 ≤ p) && (decide (p ≤ 1000) && (decide (1 ≤ s) && (decide (s ≤ 1000) && (decide (p ≤ b) && decide (b ≤ 10000)))))) := by
    unfold rightR inR; rw [Bool.eq_iff_iff]; simp only [Bool.and_eq_true, decide_eq_true_eq]; omega
  rw [e]
  obtain ⟨x1, h1⟩ : ∃ x, x = decide (1 ≤ p) := ⟨_, rfl⟩
  obtain ⟨x2, h2⟩ : ∃ x, x = decide (p ≤ 1000) := ⟨_, rfl⟩
  obtain ⟨x3, h3⟩ : ∃ x, x = decide (1 ≤ s) := ⟨_, rfl⟩
  obtain ⟨x4, h4⟩ : ∃ x, x = decide (s ≤ 1000) := ⟨_, rfl⟩
  obtain ⟨x5, h5⟩ : ∃ x, x = decide (p ≤ b) := ⟨_, rfl⟩
  obtain ⟨x6, h6⟩ : ∃ x, x = decide (b ≤ 10000) := ⟨_, rfl⟩
  rw [← h1, ← h2, ← h3, ← h4, ← h5, ← h6]
  have g1 := h1.symm; have g2 := h2.symm; have g3 := h3.symm; have g4 := h4.symm; have g5 := h5.symm; have g6 := h6.symm
  have HB := Lib.hid ((Below.refl _ w).alloc (Nat.le_refl _) (.cells #[.int .i64 b, .int .i64 s, .int .i64 p] 123))
  clear h1 h2 h3 h4 h5 h6 e
  cases x1
  · go_enter Try.func129, Try.ntmps129
    go_wp2_with fail
    go_ret
    exact ⟨rfl, HB.out⟩
  cases x2
  · go_enter Try.func129, Try.ntmps129
    go_wp2_with fail
    go_ret
    exact ⟨rfl, HB.out⟩
  cases x3
  · go_enter Try.func129, Try.ntmps129
    go_wp2_with fail
    go_ret
    exact ⟨rfl, HB.out⟩
  cases x4
  · go_enter Try.func129, Try.ntmps129
    go_wp2_with fail
    go_ret
    exact ⟨rfl, HB.out⟩
  cases x5
  · go_enter Try.func129, Try.ntmps129
    go_wp2_with fail
    go_ret
    exact ⟨rfl, HB.out⟩
  go_enter Try.func129, Try.ntmps129
  go_wp2_with fail
  go_ret
  exact ⟨rfl, HB.out⟩
def waitX (b s p r : Int) : Int := if (rightR b s p && inR r 0 31) = true then waitI b s r else 0
theorem wait_in {b s p r : Int} (h : rightR b s p = true) (hr : 0 ≤ r ∧ r ≤ 31) : 0 ≤ r * s ∧ r * s ≤ 31000 ∧ waitX b s p r = waitI b s r ∧ 1 ≤ waitI b s r ∧ waitI b s r ≤ 41000 := by
  have hc := rightR_rc h
  obtain ⟨h1, h2, h3⟩ := hc
  have h4 : 0 ≤ r * s := Int.mul_nonneg hr.1 (by omega)
  have h5 : r * s ≤ 31 * 1000 := Int.mul_le_mul hr.2 h2.2 (by omega) (by omega)
  have h6 : waitX b s p r = waitI b s r := by unfold waitX; rw [h, inR_yes hr]; rfl
  refine ⟨h4, by omega, h6, ?_, ?_⟩ <;> unfold waitI <;> omega
theorem wait_no {b s p r : Int} (h : rightR b s p = true → ¬ (0 ≤ r ∧ r ≤ 31)) : waitX b s p r = 0 := by
  unfold waitX
  cases e : rightR b s p
  · rfl
  · rw [inR_no (h e)]; rfl
theorem rk_wait (b s p r : Int) (w : World) : Calls Try.prog 130 #[.agg #[.int .i64 b, .int .i64 s, .int .i64 p], .int .i64 r] w fun y w' => y = .returned (.int .i64 (waitX b s p r)) ∧ Below w.heap.size w w' := by
  obtain ⟨X, hX⟩ : ∃ X, X = waitX b s p r := ⟨_, rfl⟩
  rw [← hX]
  have HX := Lib.hid hX
  clear hX
  have HR := Lib.hid (fun u => rk_right b s p u)
  have HI := Lib.hid (fun u => rk_isRank r u)
  have HA := Lib.hid (Blk.new w 115 [.int .i64 b, .int .i64 s, .int .i64 p])
  have HB := Lib.hid ((Below.refl _ w).alloc (Nat.le_refl _) (.cells #[.int .i64 b, .int .i64 s, .int .i64 p] 115))
  obtain ⟨W0, hW0⟩ : ∃ W, W = w.alloc (.cells #[.int .i64 b, .int .i64 s, .int .i64 p] 115) := ⟨_, rfl⟩
  have HA0 := Lib.hid (show Blk W0 w.heap.size 115 [.int .i64 b, .int .i64 s, .int .i64 p] from hW0 ▸ HA.out)
  have HB0 := Lib.hid (show Below w.heap.size w W0 from hW0 ▸ HB.out)
  have c0 := HA0.out.cellAt (i := 0) (by simp); have c1 := HA0.out.cellAt (i := 1) (by simp); have c2 := HA0.out.cellAt (i := 2) (by simp)
  go_enter Try.func130, Try.ntmps130
  go_upto_region 1 with fail
  rw [← hW0]
  clear hW0 HA HB
  go_wp2_with fail
  refine (HR.out _).mono ?_
  rintro y w1 ⟨rfl, hb⟩
  have HB1 := Lib.hid (below_transG HB0.out hb)
  have HA1 := Lib.hid (HA0.out.keep hb HA0.out.lt)
  clear hb c0 c1 c2
  have d0 := HA1.out.cellAt (i := 0) (by simp); have d1 := HA1.out.cellAt (i := 1) (by simp)
  cases hr : rightR b s p
  · have e := wait_no (b := b) (s := s) (p := p) (r := r) (fun h => by rw [hr] at h; cases h)
    have HE := Lib.hid (show X = 0 by rw [HX.out, e])
    clear e hr
    go_wp2_with fail
    go_ret
    exact ⟨by rw [HE.out]; rfl, HB1.out⟩
  by_cases hi : 0 ≤ r ∧ r ≤ 31
  · have hiy := inR_yes hi
    obtain ⟨m0, m1, e, e1, e2⟩ := wait_in hr hi
    obtain ⟨m, hm⟩ : ∃ m, m = r * s := ⟨_, rfl⟩
    have hw : wrap64 (r * s) = m := by rw [hm]; exact w64_in _ (by omega)
    rw [show waitI b s r = b + r * s from rfl] at e e1 e2
    rw [← hm] at m0 m1 e e1 e2
    obtain ⟨z, hz⟩ : ∃ z, z = b + m := ⟨_, rfl⟩
    have HZ := Lib.hid (show wrap64 (b + m) = X by rw [HX.out, e]; exact w64_in _ (by omega))
    have i1 : ¬ r < 0 := by omega
    have i2 : ¬ 32 ≤ r := by omega
    clear hm hz m0 m1 e e1 e2 hr hi
    go_wp2_with fail
    refine (HI.out _).mono ?_
    rw [hiy]
    rintro y w2 ⟨rfl, rfl⟩
    clear hiy
    go_wp2_with fail
    go_ret
    exact ⟨by rw [← HZ.out]; rfl, HB1.out⟩
  · have hin := inR_no hi
    have e := wait_no (b := b) (s := s) (p := p) (r := r) (fun _ => hi)
    have HE := Lib.hid (show X = 0 by rw [HX.out, e])
    clear e hr hi
    go_wp2_with fail
    refine (HI.out _).mono ?_
    rw [hin]
    rintro y w2 ⟨rfl, rfl⟩
    clear hin
    go_wp2_with fail
    go_ret
    exact ⟨by rw [HE.out]; rfl, HB1.out⟩
theorem rrk_wait (b s p r : Int) (w : World) : Calls Try.prog 65 #[.agg #[.int .i64 b, .int .i64 s, .int .i64 p], .int .i64 r] w fun y w' => y = .returned (.int .i64 (waitX b s p r)) ∧ Below w.heap.size w w' := by
  obtain ⟨X, hX⟩ : ∃ X, X = waitX b s p r := ⟨_, rfl⟩
  rw [← hX]
  have HX := Lib.hid hX
  clear hX
  have HR := Lib.hid (fun u => rrk_right b s p u)
  have HA := Lib.hid (Blk.new w 123 [.int .i64 b, .int .i64 s, .int .i64 p])
  have HB := Lib.hid ((Below.refl _ w).alloc (Nat.le_refl _) (.cells #[.int .i64 b, .int .i64 s, .int .i64 p] 123))
  obtain ⟨W0, hW0⟩ : ∃ W, W = w.alloc (.cells #[.int .i64 b, .int .i64 s, .int .i64 p] 123) := ⟨_, rfl⟩
  have HA0 := Lib.hid (show Blk W0 w.heap.size 123 [.int .i64 b, .int .i64 s, .int .i64 p] from hW0 ▸ HA.out)
  have HB0 := Lib.hid (show Below w.heap.size w W0 from hW0 ▸ HB.out)
  have c0 := HA0.out.cellAt (i := 0) (by simp); have c1 := HA0.out.cellAt (i := 1) (by simp); have c2 := HA0.out.cellAt (i := 2) (by simp)
  go_enter Try.func65, Try.ntmps65
  go_upto_region 1 with fail
  rw [← hW0]
  clear hW0 HA HB
  go_wp2_with fail
  refine (HR.out _).mono ?_
  rintro y w1 ⟨rfl, hb⟩
  have HB1 := Lib.hid (below_transG HB0.out hb)
  have HA1 := Lib.hid (HA0.out.keep hb HA0.out.lt)
  clear hb c0 c1 c2
  have d0 := HA1.out.cellAt (i := 0) (by simp); have d1 := HA1.out.cellAt (i := 1) (by simp)
  cases hr : rightR b s p
  · have e := wait_no (b := b) (s := s) (p := p) (r := r) (fun h => by rw [hr] at h; cases h)
    have HE := Lib.hid (show X = 0 by rw [HX.out, e])
    clear e hr
    go_wp2_with fail
    go_ret
    exact ⟨by rw [HE.out]; rfl, HB1.out⟩
  by_cases hi : 0 ≤ r ∧ r ≤ 31
  · have hiy := inR_yes hi
    obtain ⟨m0, m1, e, e1, e2⟩ := wait_in hr hi
    obtain ⟨m, hm⟩ : ∃ m, m = r * s := ⟨_, rfl⟩
    have hw : wrap64 (r * s) = m := by rw [hm]; exact w64_in _ (by omega)
    rw [show waitI b s r = b + r * s from rfl] at e e1 e2
    rw [← hm] at m0 m1 e e1 e2
    obtain ⟨z, hz⟩ : ∃ z, z = b + m := ⟨_, rfl⟩
    have HZ := Lib.hid (show wrap64 (b + m) = X by rw [HX.out, e]; exact w64_in _ (by omega))
    have i1 : ¬ r < 0 := by omega
    have i2 : ¬ 32 ≤ r := by omega
    clear hm hz m0 m1 e e1 e2 hr hi
    go_wp2_with fail
    go_ret
    exact ⟨by rw [← HZ.out]; rfl, HB1.out⟩
  · have hin := inR_no hi
    have e := wait_no (b := b) (s := s) (p := p) (r := r) (fun _ => hi)
    have HE := Lib.hid (show X = 0 by rw [HX.out, e])
    have cs : r < 0 ∨ (¬ r < 0 ∧ 32 ≤ r) := by omega
    clear e hr hi hin
    rcases cs with i1 | ⟨i1, i2⟩
    all_goals
      go_wp2_with fail
      go_ret
      exact ⟨by rw [HE.out]; rfl, HB1.out⟩
def windB (b s p n l : Int) : Bool := rightR b s p && inR n 1 32 && inR l 0 100
def windX (b s p n l : Int) : Int := if windB b s p n l = true then waitI b s (n - 1) + (l + 3) * p + 4 else 0
theorem wind_in {b s p n l : Int} (h : windB b s p n l = true) : waitX b s p (n - 1) = waitI b s (n - 1) ∧ (1 ≤ waitI b s (n - 1) ∧ waitI b s (n - 1) ≤ 41000) ∧ (0 ≤ (l + 3) * p ∧ (l + 3) * p ≤ 103000) ∧ (1 ≤ n ∧ n ≤ 32) ∧ (0 ≤ l ∧ l ≤ 100) ∧ rightR b s p = true := by
  unfold windB at h
  rw [Bool.and_eq_true, Bool.and_eq_true] at h
  have hn := inR_iff h.1.2
  have hl := inR_iff h.2
  have hc := rightR_rc h.1.1
  obtain ⟨h1, h2, h3⟩ := hc
  have h4 : 0 ≤ (l + 3) * p := Int.mul_nonneg (by omega) (by omega)
  have h5 : (l + 3) * p ≤ 103 * 1000 := Int.mul_le_mul (by omega) h1.2 (by omega) (by omega)
  obtain ⟨_, _, e, e1, e2⟩ := wait_in (r := n - 1) h.1.1 (by omega)
  exact ⟨e, ⟨e1, e2⟩, ⟨h4, by omega⟩, hn, hl, h.1.1⟩
theorem rk_window (b s p n l : Int) (w : World) : Calls Try.prog 131 #[.agg #[.int .i64 b, .int .i64 s, .int .i64 p], .int .i64 n, .int .i64 l] w fun y w' => y = .returned (.int .i64 (windX b s p n l)) ∧ Below w.heap.size w w' := by
  obtain ⟨X, hX⟩ : ∃ X, X = windX b s p n l := ⟨_, rfl⟩
  rw [← hX]
  have HX := Lib.hid hX
  clear hX
  have HR := Lib.hid (fun u => rk_right b s p u)
  have HI := Lib.hid (fun u => rk_mayBe n u)
  have HL := Lib.hid (fun u => rk_within l 0 100 u)
  have HA := Lib.hid (Blk.new w 115 [.int .i64 b, .int .i64 s, .int .i64 p])
  have HB := Lib.hid ((Below.refl _ w).alloc (Nat.le_refl _) (.cells #[.int .i64 b, .int .i64 s, .int .i64 p] 115))
  obtain ⟨W0, hW0⟩ : ∃ W, W = w.alloc (.cells #[.int .i64 b, .int .i64 s, .int .i64 p] 115) := ⟨_, rfl⟩
  have HA0 := Lib.hid (show Blk W0 w.heap.size 115 [.int .i64 b, .int .i64 s, .int .i64 p] from hW0 ▸ HA.out)
  have HB0 := Lib.hid (show Below w.heap.size w W0 from hW0 ▸ HB.out)
  have c0 := HA0.out.cellAt (i := 0) (by simp); have c1 := HA0.out.cellAt (i := 1) (by simp); have c2 := HA0.out.cellAt (i := 2) (by simp)
  have HY : windB b s p n l = (rightR b s p && inR n 1 32 && inR l 0 100) := rfl
  obtain ⟨x1, h1⟩ : ∃ x, x = rightR b s p := ⟨_, rfl⟩
  rw [← h1] at HR HY
  have H1 := Lib.hid h1
  clear h1
  go_enter Try.func131, Try.ntmps131
  go_upto_region 1 with fail
  rw [← hW0]
  clear hW0 HA HB
  go_wp2_with fail
  refine (HR.out _).mono ?_
  rintro y W1 ⟨rfl, hb⟩
  have HB1 := Lib.hid (below_transG HB0.out hb)
  have HA1 := Lib.hid (HA0.out.keep hb HA0.out.lt)
  clear hb c0 c1 c2
  have d0 := HA1.out.cellAt (i := 0) (by simp); have d1 := HA1.out.cellAt (i := 1) (by simp); have d2 := HA1.out.cellAt (i := 2) (by simp)
  cases x1
  · have e : windX b s p n l = 0 := by unfold windX; rw [HY]; rfl
    have HE := Lib.hid (show X = 0 by rw [HX.out, e])
    clear e HY d0 d1 d2
    go_wp2_with fail
    go_ret
    exact ⟨by rw [HE.out]; rfl, HB1.out⟩
  obtain ⟨x2, h2⟩ : ∃ x, x = inR n 1 32 := ⟨_, rfl⟩
  obtain ⟨x3, h3⟩ : ∃ x, x = inR l 0 100 := ⟨_, rfl⟩
  rw [← h2] at HI HY
  rw [← h3] at HL HY
  clear h2 h3
  go_wp2_with fail
  refine (HI.out _).mono ?_
  rintro y w2 ⟨rfl, rfl⟩
  cases x2
  · have e : windX b s p n l = 0 := by unfold windX; rw [HY]; rfl
    have HE := Lib.hid (show X = 0 by rw [HX.out, e])
    clear e HY d0 d1 d2
    go_wp2_with fail
    go_ret
    exact ⟨by rw [HE.out]; rfl, HB1.out⟩
  go_wp2_with fail
  refine (HL.out _).mono ?_
  rintro y w2 ⟨rfl, rfl⟩
  cases x3
  · have e : windX b s p n l = 0 := by unfold windX; rw [HY]; rfl
    have HE := Lib.hid (show X = 0 by rw [HX.out, e])
    clear e HY d0 d1 d2
    go_wp2_with fail
    go_ret
    exact ⟨by rw [HE.out]; rfl, HB1.out⟩
  have hy : windB b s p n l = true := HY
  have e : windX b s p n l = waitI b s (n - 1) + (l + 3) * p + 4 := by unfold windX; rw [hy]; rfl
  obtain ⟨e1, e2, e3, e4, e5, e6⟩ := wind_in hy
  have HWT := Lib.hid (fun u => rk_wait b s p (n - 1) u)
  rw [e1] at HWT
  obtain ⟨v, hv⟩ : ∃ v, v = waitI b s (n - 1) := ⟨_, rfl⟩
  rw [← hv] at HWT e2 e
  obtain ⟨n1, hn1⟩ : ∃ v, v = n - 1 := ⟨_, rfl⟩
  rw [← hn1] at HWT
  have hw1 : wrap64 (n - 1) = n1 := by rw [hn1]; exact w64_in _ (by omega)
  have HIW := Lib.hid (show IntKind.i64.wrap (n - 1) = n1 by rw [IntKind.wrap_i64]; omega)
  obtain ⟨l3, hl3⟩ : ∃ v, v = l + 3 := ⟨_, rfl⟩
  have hw2 : wrap64 (l + 3) = l3 := by rw [hl3]; exact w64_in _ (by omega)
  rw [← hl3] at e3 e
  obtain ⟨m, hm⟩ : ∃ v, v = l3 * p := ⟨_, rfl⟩
  have hw3 : wrap64 (l3 * p) = m := by rw [hm]; exact w64_in _ (by omega)
  rw [← hm] at e3 e
  obtain ⟨q, hq⟩ : ∃ q, q = v + m := ⟨_, rfl⟩
  have hw4 : wrap64 (v + m) = q := by rw [hq]; exact w64_in _ (by omega)
  rw [← hq] at e
  have iw : ∀ z : Int, -9223372036854775808 ≤ z ∧ z ≤ 9223372036854775807 → IntKind.i64.wrap z = z := fun z hz => by rw [IntKind.wrap_i64]; omega
  have HF := Lib.hid (show IntKind.i64.wrap (IntKind.i64.wrap (v + IntKind.i64.wrap (IntKind.i64.wrap (l + 3) * p)) + 4) = X by rw [iw (l + 3) (by omega), ← hl3, iw (l3 * p) (by omega), ← hm, iw (v + m) (by omega), ← hq, iw (q + 4) (by omega), HX.out, e])
  clear iw
  clear e e1 e2 e3 e4 e5 e6 hy HY hv hn1 hl3 hm hq
  go_upto_region 3 with fail
  have HQ := Lib.hid (show ∀ u, (Below W1.heap.size W1 u ∧ u.cell? ⟨w.heap.size, 0, none⟩ = some (.int .i64 b) ∧ u.cell? ⟨w.heap.size, 1, none⟩ = some (.int .i64 s) ∧ u.cell? ⟨w.heap.size, 2, none⟩ = some (.int .i64 p)) → Calls Try.prog 130 #[.agg #[.int .i64 b, .int .i64 s, .int .i64 p], .int .i64 (IntKind.i64.wrap (n - 1))] u fun z w' => z = .returned (.int .i64 v) ∧ (Below W1.heap.size W1 w' ∧ w'.cell? ⟨w.heap.size, 0, none⟩ = some (.int .i64 b) ∧ w'.cell? ⟨w.heap.size, 1, none⟩ = some (.int .i64 s) ∧ w'.cell? ⟨w.heap.size, 2, none⟩ = some (.int .i64 p)) from fun u h => by
    rw [HIW.out]
    exact (HWT.out u).mono fun z w' ⟨h1, h2⟩ => ⟨h1, below_transG h.1 h2, (HA1.out.keep (below_transG h.1 h2) HA1.out.lt).cellAt (i := 0) (by simp), (HA1.out.keep (below_transG h.1 h2) HA1.out.lt).cellAt (i := 1) (by simp), (HA1.out.keep (below_transG h.1 h2) HA1.out.lt).cellAt (i := 2) (by simp)⟩)
  have z0 : Below W1.heap.size W1 W1 ∧ W1.cell? ⟨w.heap.size, 0, none⟩ = some (.int .i64 b) ∧ W1.cell? ⟨w.heap.size, 1, none⟩ = some (.int .i64 s) ∧ W1.cell? ⟨w.heap.size, 2, none⟩ = some (.int .i64 p) := ⟨Below.refl _ _, d0, d1, d2⟩
  have z1 : Below W1.heap.size W1 W1.drew ∧ W1.drew.cell? ⟨w.heap.size, 0, none⟩ = some (.int .i64 b) ∧ W1.drew.cell? ⟨w.heap.size, 1, none⟩ = some (.int .i64 s) ∧ W1.drew.cell? ⟨w.heap.size, 2, none⟩ = some (.int .i64 p) := ⟨(Below.refl _ _).drew, d0, d1, d2⟩
  go_region_held3 (fun u => (Below W1.heap.size W1 u ∧ u.cell? ⟨w.heap.size, 0, none⟩ = some (.int .i64 b) ∧ u.cell? ⟨w.heap.size, 1, none⟩ = some (.int .i64 s) ∧ u.cell? ⟨w.heap.size, 2, none⟩ = some (.int .i64 p))) (with_reducible assumption) (first | (go_at_call 130; refine (HQ.out _ (by first | exact z0 | exact z1)).mono ?_; rintro e6 w6 ⟨rfl, h6S⟩))
  all_goals
    go_wp2_with fail
    go_ret
    exact ⟨by rw [← HF.out]; rfl, below_transG HB1.out h6S.1⟩
theorem lw_plain (b s p : Int) (w : World) : Calls Try.prog 58 #[.agg #[.int .i64 b, .int .i64 s, .int .i64 p]] w fun y w' => y = .returned (.agg #[.int .i64 b, .int .i64 s, .int .i64 p]) ∧ Below w.heap.size w w' := by
  have HBX := Lib.hid (((Below.refl _ w).alloc (Nat.le_refl _) (.cells #[.int .i64 b, .int .i64 s, .int .i64 p] 115)).alloc (by simp) (.cells #[.int .i64 b, .int .i64 s, .int .i64 p] 123))
  go_enter Try.func58, Try.ntmps58
  go_wp2_with fail
  exact bodyPost_ret (v := .agg #[.int .i64 b, .int .i64 s, .int .i64 p]) (by simp [results, Try.results58, go_sem]) rfl ⟨rfl, HBX.out⟩
end Go.Proofs.Ytdfalipgfnjglaa
