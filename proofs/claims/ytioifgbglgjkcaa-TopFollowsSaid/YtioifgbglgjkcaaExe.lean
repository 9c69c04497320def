/- What the document's own long division, bit by bit, returns. Conditions: the arguments are numbers of their kinds, the divisor is from 1 on and below 2 to the 63. -/
import Derived.Test.YtioifgbglgjkcaaExd
import Derived.Outline
namespace Go.Proofs.Ytioifgbglgjkcaa
open Go.RowKit
theorem high_bit (H L j : Nat) (hL : L < 18446744073709551616) (h : 64 ≤ j) : (H * 18446744073709551616 + L) / 2 ^ j = H / 2 ^ (j - 64) := by
  have e : 2 ^ j = 18446744073709551616 * 2 ^ (j - 64) := by
    rw [show (18446744073709551616 : Nat) = 2 ^ 64 by decide, ← Nat.pow_add]
    congr 1
    omega
  rw [e, ← Nat.div_div_eq_div_mul]
  congr 1
  omega
theorem low_bit (H L j : Nat) (h : j < 64) : (H * 18446744073709551616 + L) / 2 ^ j % 2 = L / 2 ^ j % 2 := by
  have e : (18446744073709551616 : Nat) = 2 ^ j * (2 * 2 ^ (63 - j)) := by
    rw [show (18446744073709551616 : Nat) = 2 ^ 64 by decide, show 2 * 2 ^ (63 - j) = 2 ^ (64 - j) by rw [show 64 - j = (63 - j) + 1 by omega, Nat.pow_succ]; omega, ← Nat.pow_add]
    congr 1
    omega
  have e2 : H * 18446744073709551616 + L = L + 2 ^ j * (2 * (H * 2 ^ (63 - j))) := by
    rw [e, Nat.add_comm]
    congr 1
    rw [Nat.mul_left_comm, Nat.mul_left_comm H 2]
  rw [e2, Nat.add_mul_div_left _ _ (Nat.two_pow_pos j)]
  omega
theorem over_step {m p q d lf t : Nat} (hm : m = q * d + lf) (hp : p = 2 * m + t) (ht : t ≤ 1) (hl : lf < d) (hd : d < 9223372036854775808) (hpb : p < 340282366920938463463374607431768211456) :
    q < 170141183460469231731687303715884105728 ∧ 2 * lf + t < 18446744073709551616 ∧ (2 * lf + t < d → p = 2 * q * d + (2 * lf + t)) ∧ (d ≤ 2 * lf + t → p = (2 * q + 1) * d + (2 * lf + t - d) ∧ 2 * lf + t - d < d) := by
  have h1 : q ≤ q * d := Nat.le_mul_of_pos_right q (by omega)
  have h2 : 2 * q * d = 2 * (q * d) := Nat.mul_assoc 2 q d
  have h3 : (2 * q + 1) * d = 2 * (q * d) + d := by rw [Nat.add_mul, h2]; omega
  refine ⟨by omega, by omega, fun h => by omega, fun h => ⟨by omega, by omega⟩⟩
theorem or_and (lf x : Nat) (h : 2 * lf + 1 < 18446744073709551616) (hx : x < 18446744073709551616) : bits .or .u64 ((lf : Int) * 2) (bits .and .u64 (x : Int) 1) = ((2 * lf + x % 2 : Nat) : Int) := by
  rw [and_one x hx, or_even _ _ (by omega) (by omega) (by omega)]
  omega
theorem or_and_shift (lf H i : Nat) (h : 2 * lf + 1 < 18446744073709551616) (hx : H < 18446744073709551616) : bits .or .u64 ((lf : Int) * 2) (bits .and .u64 ((H : Int) / 2 ^ i) 1) = ((2 * lf + H / 2 ^ i % 2 : Nat) : Int) := by
  rw [cast_shift, or_and _ _ h (div_bound H _ hx)]
def overRel (H L d B : Nat) (w : World) (left i : Value) (wr : World) : Prop :=
  ∃ (k lf q : Nat) (qh ql : Int), k ≤ 128 ∧ i = .int .i64 (k - 1) ∧ left = .int .u64 lf ∧ lf < d ∧ 0 ≤ qh ∧ qh ≤ 18446744073709551615 ∧ 0 ≤ ql ∧ ql ≤ 18446744073709551615 ∧ qh * 18446744073709551616 + ql = (q : Int) ∧ (H * 18446744073709551616 + L) / 2 ^ k = q * d + lf
      ∧ Pair wr B (.int .u64 H) (.int .u64 L) ∧ Pair wr (B + 1) (.int .u64 0) (.int .u64 0) ∧ Pair wr (B + 1 + 1) (.int .u64 qh) (.int .u64 ql) ∧ B + 3 ≤ wr.heap.size ∧ Below B w wr
theorem Pair.low {w : World} {B : Nat} {x y : Value} (h : Pair w B x y) (v : Value) : Pair (w.setCell ⟨B, 1, none⟩ v) B x v := by
  obtain ⟨a, b, c, d⟩ := h
  exact ⟨(World.cell?_setCell_other _ _ _ _ (by simp)).trans a, World.cell?_setCell_same _ _ _ b, by rw [World.frozen?_setCell]; exact c, by rw [World.frozen?_setCell]; exact d⟩
theorem Pair.lowOther {w : World} {B C : Nat} {x y : Value} (h : Pair w B x y) (hne : B ≠ C) (v : Value) : Pair (w.setCell ⟨C, 1, none⟩ v) B x y := by
  obtain ⟨a, b, c, d⟩ := h
  have n : ∀ o p, (⟨C, o, none⟩ : Addr) ≠ ⟨B, p, none⟩ := fun o p e => hne (by simpa using (congrArg Addr.block e).symm)
  exact ⟨(World.cell?_setCell_other _ _ _ _ (n _ _)).trans a, (World.cell?_setCell_other _ _ _ _ (n _ _)).trans b, by rw [World.frozen?_setCell]; exact c, by rw [World.frozen?_setCell]; exact d⟩
theorem over_no {H L d B j T q : Nat} {w w1 : World} {qh ql : Int} (hk : j + 1 ≤ 128) (h1 : 0 ≤ qh) (hqh : qh ≤ 9223372036854775807) (h3 : 0 ≤ ql) (h4 : ql ≤ 18446744073709551615)
    (hq : qh * 18446744073709551616 + ql = (q : Int)) (hT : T < d) (hm : (H * 18446744073709551616 + L) / 2 ^ j = 2 * q * d + T)
    (pb : Pair w1 B (.int .u64 H) (.int .u64 L)) (pr : Pair w1 (B + 1) (.int .u64 0) (.int .u64 0)) (pq : Pair w1 (B + 1 + 1) (.int .u64 qh) (.int .u64 ql)) (hs : B + 3 ≤ w1.heap.size) (hb : Below B w w1) :
    overRel H L d B w (.int .u64 T) (.int .i64 (j - 1)) ((w1.setCell ⟨B + 1 + 1, 0, none⟩ (.int .u64 (qh * 2 + ql / 9223372036854775808))).setCell ⟨B + 1 + 1, 1, none⟩ (.int .u64 (ql * 2 % 18446744073709551616))) :=
  ⟨j, T, 2 * q, qh * 2 + ql / 9223372036854775808, ql * 2 % 18446744073709551616, by omega, rfl, rfl, hT, by omega, by omega, by omega, by omega, by omega, hm,
    pb.other (by omega) _ _, pr.other (by omega) _ _, pq.put _ _, by rw [setCell_size, setCell_size]; exact hs, below_two hb (by omega) _ _⟩
theorem over_yes {H L d B j T q : Nat} {w w1 : World} {qh ql : Int} (hk : j + 1 ≤ 128) (h1 : 0 ≤ qh) (hqh : qh ≤ 9223372036854775807) (h3 : 0 ≤ ql) (h4 : ql ≤ 18446744073709551615)
    (hq : qh * 18446744073709551616 + ql = (q : Int)) (hT : d ≤ T) (hTb : T < 18446744073709551616) (hm : (H * 18446744073709551616 + L) / 2 ^ j = (2 * q + 1) * d + (T - d) ∧ T - d < d)
    (pb : Pair w1 B (.int .u64 H) (.int .u64 L)) (pr : Pair w1 (B + 1) (.int .u64 0) (.int .u64 0)) (pq : Pair w1 (B + 1 + 1) (.int .u64 qh) (.int .u64 ql)) (hs : B + 3 ≤ w1.heap.size) (hb : Below B w w1) :
    overRel H L d B w (.int .u64 (IntKind.u64.wrap ((T : Int) - d))) (.int .i64 (j - 1)) (((w1.setCell ⟨B + 1 + 1, 0, none⟩ (.int .u64 (qh * 2 + ql / 9223372036854775808))).setCell ⟨B + 1 + 1, 1, none⟩ (.int .u64 (ql * 2 % 18446744073709551616))).setCell ⟨B + 1 + 1, 1, none⟩ (.int .u64 (bits .or .u64 (ql * 2 % 18446744073709551616) 1))) := by
  rw [or_even _ _ (by omega) (by omega) (by omega)]
  exact ⟨j, T - d, 2 * q + 1, qh * 2 + ql / 9223372036854775808, ql * 2 % 18446744073709551616 + 1, by omega, rfl, by congr 1; rw [IntKind.wrap_u64]; omega, hm.2, by omega, by omega, by omega, by omega, by omega, hm.1,
    (pb.other (by omega) _ _).lowOther (by omega) _, (pr.other (by omega) _ _).lowOther (by omega) _, (pq.put _ _).low _, by rw [setCell_size, setCell_size, setCell_size]; exact hs, (below_two hb (by omega) _ _).setCell (p := ⟨B + 1 + 1, 1, none⟩) (by show B ≤ B + 1 + 1; omega) _⟩
set_option maxHeartbeats 400000 in
theorem over_rf (H L d : Nat) (hH : H < 18446744073709551616) (hL : L < 18446744073709551616) (hd1 : 1 ≤ d) (hd : d < 9223372036854775808) (w : World) :
    Calls Try.prog 46 #[.agg #[.int .u64 H, .int .u64 L], .int .u64 d] w fun e w' => e = .returned (.tuple #[wideV ((H * 18446744073709551616 + L) / d), .int .u64 (((H * 18446744073709551616 + L) % d : Nat) : Int)]) ∧ Below w.heap.size w w' := by
  go_enter Try.func46, Try.ntmps46
  go_wp2
  go_loopw [7, 8] (overRel H L d w.heap.size w) (fun _ i _ => (intOf i + 1).toNat)
  case atStart =>
    refine ⟨128, 0, 0, 0, 0, by omega, rfl, rfl, by omega, by omega, by omega, by omega, by omega, by omega, ?_, ((Pair.new _ _ _ _ rfl).more (by simp) _).more (by simp; omega) _, (Pair.new _ _ _ _ (by simp)).more (by simp) _, Pair.new _ _ _ _ (by simp), by simp, (((Below.refl _ _).alloc (Nat.le_refl _) _).alloc (by simp) _).alloc (by simp; omega) _⟩
    rw [Nat.div_eq_of_lt (by omega)]; omega
  case round =>
    obtain ⟨k, lf, q, qh, ql, hk, rfl, rfl, hlf, h1, h2, h3, h4, hq, hm, hpb, hpr, hpq, hs, hbel⟩ := hrel
    by_cases hpos : 1 ≤ k
    · obtain ⟨j, rfl⟩ : ∃ j, k = j + 1 := ⟨k - 1, by omega⟩
      have ej : (((j + 1 : Nat) : Int) - 1) = (j : Int) := by omega
      have hh := half_step (H * 18446744073709551616 + L) j
      have hpz : (H * 18446744073709551616 + L) / 2 ^ j < 340282366920938463463374607431768211456 := Nat.lt_of_le_of_lt (Nat.div_le_self _ _) (by omega)
      obtain ⟨s1, s2, s3, s4⟩ := over_step hm hh (by omega) hlf hd hpz
      have HQ := Lib.hid hq; clear hq hh hpz
      have HM := Lib.hid hm; clear hm
      have HS1 := Lib.hid s1; clear s1
      have HS2 := Lib.hid s2; clear s2
      have HS3 := Lib.hid s3; clear s3
      have HS4 := Lib.hid s4; clear s4
      have HPB := Lib.hid hpb
      have HPR := Lib.hid hpr; clear hpr
      have hqh : qh ≤ 9223372036854775807 := by have := HQ.out; have := HS1.out; omega
      obtain ⟨b0, b1, bf0, bf1⟩ := hpb
      obtain ⟨q0, q1, q2, q3⟩ := hpq
      have HB := Lib.hid hbel; clear hbel
      rw [ej]
      clear ej
      by_cases hj : 64 ≤ j
      · have hbit : (H * 18446744073709551616 + L) / 2 ^ j % 2 = H / 2 ^ (j - 64) % 2 := by rw [high_bit H L j hL hj]
        obtain ⟨T, hT⟩ : ∃ T, T = 2 * lf + (H * 18446744073709551616 + L) / 2 ^ j % 2 := ⟨_, rfl⟩
        have hor := or_and_shift lf H (j - 64) (by omega) hH
        rw [← hbit, ← hT] at hor
        rw [← hT] at HS2 HS3 HS4
        have HT := Lib.hid hT; clear hT hbit
        go_wp2_with (fail)
        refine (double_rf qh ql ⟨h1, hqh⟩ ⟨h3, h4⟩ _).mono ?_
        rintro e w1 ⟨rfl, hb1⟩
        have HPB1 := Lib.hid (HPB.out.keep hb1 (by omega))
        have HPR1 := Lib.hid (HPR.out.keep hb1 (by omega))
        obtain ⟨c0, c1, f0, f1⟩ := Pair.keep ⟨q0, q1, q2, q3⟩ hb1 (by omega)
        have g0 := hb1.size
        have B1 := Lib.hid (HB.out.trans (hb1.mono (by omega)))
        have hs1 : w.heap.size + 3 ≤ w1.heap.size := by omega
        clear hb1 b0 b1 bf0 bf1 q0 q1 q2 q3 HPB HPR HB g0 hs
        by_cases hTd : d ≤ T
        · go_wp2_with (fail)
          go_roundw
          case rel => exact over_yes hk h1 hqh h3 h4 HQ.out hTd HS2.out (HS4.out hTd) HPB1.out HPR1.out ⟨c0, c1, f0, f1⟩ hs1 B1.out
          case measure => simp [intOf]
        · go_wp2_with (fail)
          go_roundw
          case rel => exact over_no hk h1 hqh h3 h4 HQ.out (by omega) (HS3.out (by omega)) HPB1.out HPR1.out ⟨c0, c1, f0, f1⟩ hs1 B1.out
          case measure => simp [intOf]
      · have hbit : (H * 18446744073709551616 + L) / 2 ^ j % 2 = L / 2 ^ j % 2 := low_bit H L j (by omega)
        obtain ⟨T, hT⟩ : ∃ T, T = 2 * lf + (H * 18446744073709551616 + L) / 2 ^ j % 2 := ⟨_, rfl⟩
        have hor := or_and_shift lf L j (by omega) hL
        rw [← hbit, ← hT] at hor
        rw [← hT] at HS2 HS3 HS4
        have HT := Lib.hid hT; clear hT hbit
        go_wp2_with (fail)
        refine (double_rf qh ql ⟨h1, hqh⟩ ⟨h3, h4⟩ _).mono ?_
        rintro e w1 ⟨rfl, hb1⟩
        have HPB1 := Lib.hid (HPB.out.keep hb1 (by omega))
        have HPR1 := Lib.hid (HPR.out.keep hb1 (by omega))
        obtain ⟨c0, c1, f0, f1⟩ := Pair.keep ⟨q0, q1, q2, q3⟩ hb1 (by omega)
        have g0 := hb1.size
        have B1 := Lib.hid (HB.out.trans (hb1.mono (by omega)))
        have hs1 : w.heap.size + 3 ≤ w1.heap.size := by omega
        clear hb1 b0 b1 bf0 bf1 q0 q1 q2 q3 HPB HPR HB g0 hs
        by_cases hTd : d ≤ T
        · go_wp2_with (fail)
          go_roundw
          case rel => exact over_yes hk h1 hqh h3 h4 HQ.out hTd HS2.out (HS4.out hTd) HPB1.out HPR1.out ⟨c0, c1, f0, f1⟩ hs1 B1.out
          case measure => simp [intOf]
        · go_wp2_with (fail)
          go_roundw
          case rel => exact over_no hk h1 hqh h3 h4 HQ.out (by omega) (HS3.out (by omega)) HPB1.out HPR1.out ⟨c0, c1, f0, f1⟩ hs1 B1.out
          case measure => simp [intOf]
    · obtain rfl : k = 0 := by omega
      have hm2 : H * 18446744073709551616 + L = q * d + lf := by simpa using hm
      have hdv : (H * 18446744073709551616 + L) / d = q ∧ (H * 18446744073709551616 + L) % d = lf := by
        rw [hm2]
        exact ⟨by rw [Nat.add_comm, Nat.add_mul_div_right _ _ (by omega), Nat.div_eq_of_lt hlf, Nat.zero_add], by rw [Nat.add_comm, Nat.add_mul_mod_self_right, Nat.mod_eq_of_lt hlf]⟩
      have HV := Lib.hid hdv
      have HQ := Lib.hid hq
      clear hm hm2 hdv hq
      have ez : (((0 : Nat) : Int) - 1) = -1 := rfl
      rw [ez]
      clear ez hpb
      obtain ⟨p0, p1, p2, p3⟩ := hpr
      obtain ⟨q0, q1, q2, q3⟩ := hpq
      have HB := Lib.hid hbel; clear hbel
      go_wp2
      refine bodyPost_ret (v := .tuple #[.agg #[.int .u64 qh, .int .u64 ql], .int .u64 lf]) (by simp [results, Try.results46, go_sem, p0, p1]) rfl ⟨?_, below_two HB.out (Nat.le_succ _) _ _⟩
      rw [HV.out.1, HV.out.2, wide_eq HQ.out ⟨h3, h4⟩]
end Go.Proofs.Ytioifgbglgjkcaa
