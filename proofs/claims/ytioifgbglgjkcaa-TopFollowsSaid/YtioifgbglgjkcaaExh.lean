/- exact's own division of a product, and Scale and Mul. Conditions: the arguments are numbers of their kinds. -/
import Derived.Test.YtioifgbglgjkcaaExg
import Derived.WalkMore
import Derived.ScopeJumps
namespace Go.Proofs.Ytioifgbglgjkcaa
open Go.RowKit
theorem below_drewN {B : Nat} {a w : World} (h : Below B a w) (n : Nat) : Below B a (w.drewN n) := by
  induction n with
  | zero => exact h
  | succ k ih => exact ih.drew
theorem div64_any (h l y : Nat) (hy : h < y) (hl : l < 18446744073709551616) (hy2 : y < 18446744073709551616) (w : World) :
    Calls Try.prog 71 #[.int .u64 h, .int .u64 l, .int .u64 y] w fun e w' => e = .returned (.tuple #[.int .u64 (((h * 18446744073709551616 + l) / y : Nat) : Int), .int .u64 (((h * 18446744073709551616 + l) % y : Nat) : Int)]) ∧ Below w.heap.size w w' := by
  by_cases hh : 1 ≤ h
  · refine (div64_high h l y hh hy hl hy2 w).mono fun e w' he => ⟨he.1, ?_⟩
    rw [he.2]; exact Below.refl _ _
  · obtain rfl : h = 0 := by omega
    refine (div64_low l y hl (by omega) hy2 w).mono fun e w' he => ?_
    obtain ⟨h1, n, h2⟩ := he
    rw [h1, h2]
    exact ⟨ret_uu (by simp) (by simp), below_drewN (Below.refl _ _) n⟩
theorem div64_zero (l y : Nat) (hy : 1 ≤ y) (hl : l < 18446744073709551616) (hy2 : y < 18446744073709551616) (w : World) :
    Calls Try.prog 71 #[.int .u64 0, .int .u64 l, .int .u64 y] w fun e w' => e = .returned (.tuple #[.int .u64 ((l / y : Nat) : Int), .int .u64 ((l % y : Nat) : Int)]) ∧ Below w.heap.size w w' := by
  refine (div64_low l y hl hy hy2 w).mono fun e w' he => ?_
  obtain ⟨h1, n, h2⟩ := he
  rw [h1, h2]
  exact ⟨rfl, below_drewN (Below.refl _ _) n⟩
theorem Pair.high {w : World} {B : Nat} {x y : Value} (h : Pair w B x y) (v : Value) : Pair (w.setCell ⟨B, 0, none⟩ v) B v y := by
  obtain ⟨a, b, c, d⟩ := h
  exact ⟨World.cell?_setCell_same _ _ _ a, (World.cell?_setCell_other _ _ _ _ (by simp)).trans b, by rw [World.frozen?_setCell]; exact c, by rw [World.frozen?_setCell]; exact d⟩
theorem Pair.highOther {w : World} {B C : Nat} {x y : Value} (h : Pair w B x y) (hne : B ≠ C) (v : Value) : Pair (w.setCell ⟨C, 0, none⟩ v) B x y := by
  obtain ⟨a, b, c, d⟩ := h
  have n : ∀ o p, (⟨C, o, none⟩ : Addr) ≠ ⟨B, p, none⟩ := fun o p e => hne (by simpa using (congrArg Addr.block e).symm)
  exact ⟨(World.cell?_setCell_other _ _ _ _ (n _ _)).trans a, (World.cell?_setCell_other _ _ _ _ (n _ _)).trans b, by rw [World.frozen?_setCell]; exact c, by rw [World.frozen?_setCell]; exact d⟩
theorem two_digits (H L d : Nat) (hL : L < 18446744073709551616) (hd : 0 < d) :
    (H * 18446744073709551616 + L) / d = H / d * 18446744073709551616 + (H % d * 18446744073709551616 + L) / d ∧ (H * 18446744073709551616 + L) % d = (H % d * 18446744073709551616 + L) % d ∧ (H % d * 18446744073709551616 + L) / d < 18446744073709551616 := by
  have e : H * 18446744073709551616 + L = (H % d * 18446744073709551616 + L) + d * (H / d * 18446744073709551616) := by
    have h1 := Nat.div_add_mod H d
    have h2 : d * (H / d * 18446744073709551616) = d * (H / d) * 18446744073709551616 := (Nat.mul_assoc _ _ _).symm
    omega
  have hm := Nat.mod_lt H hd
  refine ⟨by rw [e, Nat.add_mul_div_left _ _ hd, Nat.add_comm], by rw [e, Nat.add_mul_mod_self_left], ?_⟩
  rw [Nat.div_lt_iff_lt_mul hd]
  have : (H % d + 1) * 18446744073709551616 ≤ d * 18446744073709551616 := Nat.mul_le_mul_right _ (by omega)
  rw [Nat.mul_comm 18446744073709551616 d]
  omega
set_option maxHeartbeats 400000 in
theorem divide_ex (H L d : Nat) (hH : H < 18446744073709551616) (hL : L < 18446744073709551616) (hd1 : 1 ≤ d) (hd : d < 18446744073709551616) (w : World) :
    Calls Try.prog 63 #[.agg #[.int .u64 H, .int .u64 L], .int .u64 d] w fun e w' => e = .returned (.tuple #[wideV ((H * 18446744073709551616 + L) / d), .int .u64 (((H * 18446744073709551616 + L) % d : Nat) : Int)]) ∧ Below w.heap.size w w' := by
  obtain ⟨q1, hq1⟩ : ∃ q, q = H / d := ⟨_, rfl⟩
  obtain ⟨r1, hr1⟩ : ∃ q, q = H % d := ⟨_, rfl⟩
  obtain ⟨q2, hq2⟩ : ∃ q, q = (r1 * 18446744073709551616 + L) / d := ⟨_, rfl⟩
  obtain ⟨r2, hr2⟩ : ∃ q, q = (r1 * 18446744073709551616 + L) % d := ⟨_, rfl⟩
  have hr1d : r1 < d := by rw [hr1]; exact Nat.mod_lt _ (by omega)
  have call1 := fun w => div64_zero H d hd1 hH hd w
  have call2 := fun w => div64_any r1 L d hr1d hL hd w
  obtain ⟨s1, s2, s3⟩ := two_digits H L d hL (by omega)
  rw [← hr1, ← hq2, ← hq1] at s1
  rw [← hr1, ← hr2] at s2
  rw [← hr1, ← hq2] at s3
  rw [s1, s2]
  rw [← hq1, ← hr1] at call1
  rw [← hq2, ← hr2] at call2
  have C1 := Lib.hid call1
  have C2 := Lib.hid call2
  clear hq1 hr1 hq2 hr2 call1 call2 s1 s2
  go_enter Try.func63, Try.ntmps63
  go_wp2
  refine wp_scope_jumps 0 (fun a' w' => ∃ u7 u8 u9 u10 u11 u12 u13 u14 u15 u16 u17 u18 u19 u20 u21 : Value, a' = { tmps := #[.agg #[.int .u64 H, .int .u64 L], .int .u64 d, .pointer (some ⟨w.heap.size, 0, none⟩), undef, .pointer (some ⟨w.heap.size + 1, 0, none⟩), .int .u64 r1, .int .i64 1, u7, u8, u9, u10, u11, u12, u13, u14, u15, u16, u17, u18, u19, u20, u21, undef, undef], defers := [] }
      ∧ Pair w' (w.heap.size + 1) (.int .u64 q1) (.int .u64 0) ∧ Pair w' w.heap.size (.int .u64 H) (.int .u64 L) ∧ w.heap.size + 2 ≤ w'.heap.size ∧ Below w.heap.size w w') (fun _ _ => 0) rfl ?_ ?_
  · go_wp2
    go_step3
    go_wp2_with (fail)
    refine (C1.out _).mono ?_
    rintro e w1 ⟨rfl, hb1⟩
    have z : w.heap.size + 2 = ((w.alloc (.cells #[.int .u64 H, .int .u64 L] 99)).alloc (.cells #[.int .u64 0, .int .u64 0] 99)).heap.size := by simp
    have HA := Lib.hid (((Pair.new w (.int .u64 H) (.int .u64 L) 99 rfl).more (by simp) (.cells #[.int .u64 0, .int .u64 0] 99)).keep hb1 (by omega))
    obtain ⟨c0, c1, f0, f1⟩ := (Pair.new (w.alloc (.cells #[.int .u64 H, .int .u64 L] 99)) (.int .u64 0) (.int .u64 0) 99 (B := w.heap.size + 1) (by simp)).keep hb1 (by omega)
    have hs1 : w.heap.size + 2 ≤ w1.heap.size := by have := hb1.size; omega
    have HB := Lib.hid ((((Below.refl w.heap.size w).alloc (Nat.le_refl _) (.cells #[.int .u64 H, .int .u64 L] 99)).alloc (by simp) (.cells #[.int .u64 0, .int .u64 0] 99)).trans (hb1.mono (by omega)))
    clear z hb1
    go_wp2_with (fail)
    go_step3
    exact ⟨rfl, _, _, _, _, _, _, _, _, _, _, _, _, _, _, _, rfl, Pair.high ⟨c0, c1, f0, f1⟩ _, HA.out.highOther (by omega) _, by rw [setCell_size]; exact hs1, HB.out.setCell (p := ⟨w.heap.size + 1, 0, none⟩) (Nat.le_succ _) _⟩
  · rintro a' w1 ⟨u7, u8, u9, u10, u11, u12, u13, u14, u15, u16, u17, u18, u19, u20, u21, rfl, hp, ha, hs1, hb1⟩
    obtain ⟨a0, a1, af0, af1⟩ := ha
    have HP := Lib.hid hp; clear hp
    have HB := Lib.hid hb1; clear hb1
    go_wp2_with (fail)
    refine (C2.out _).mono ?_
    rintro e w2 ⟨rfl, hb2⟩
    obtain ⟨c0, c1, f0, f1⟩ := HP.out.keep hb2 (by omega)
    have hs2 : w.heap.size + 2 ≤ w2.heap.size := by have := hb2.size; omega
    have HB2 := Lib.hid (HB.out.trans (hb2.mono (by omega)))
    clear hb2 a0 a1 af0 af1 hs1
    go_wp2_with (fail)
    simp only [Exit.jump]
    refine bodyPost_ret (v := .tuple #[.agg #[.int .u64 q1, .int .u64 q2], .int .u64 r2]) (by simp [results, Try.results63, go_sem, c0, c1]) rfl ⟨?_, (below_two (HB2.out.setCell (p := ⟨w.heap.size + 1, 1, none⟩) (Nat.le_succ _) _) (Nat.le_succ _) _ _)⟩
    rw [wide_eq (n := q1 * 18446744073709551616 + q2) (by omega) (by omega)]
end Go.Proofs.Ytioifgbglgjkcaa
