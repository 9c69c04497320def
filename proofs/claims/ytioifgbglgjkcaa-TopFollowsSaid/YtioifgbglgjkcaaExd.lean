/- What the document's own product of two numbers of 64 bits returns. Conditions: the arguments are numbers of their kinds. -/
import Derived.Test.YtioifgbglgjkcaaExc
import Derived.LoopTactic
import Derived.Lib.Hide
namespace Go.Proofs.Ytioifgbglgjkcaa
open Go.RowKit
theorem bcell {W w1 : World} (hb : Below W.heap.size W w1) : (∀ b o, b < W.heap.size → w1.cell? ⟨b, o, none⟩ = W.cell? ⟨b, o, none⟩) ∧ (∀ b o, b < W.heap.size → w1.frozen? ⟨b, o, none⟩ = W.frozen? ⟨b, o, none⟩) :=
  ⟨fun b o h => hb.cell (p := ⟨b, o, none⟩) h, fun b o h => hb.frozen (p := ⟨b, o, none⟩) h⟩
/-- A block of two cells that may be written. -/
def Pair (w : World) (B : Nat) (x y : Value) : Prop := w.cell? ⟨B, 0, none⟩ = some x ∧ w.cell? ⟨B, 1, none⟩ = some y ∧ w.frozen? ⟨B, 0, none⟩ = false ∧ w.frozen? ⟨B, 1, none⟩ = false
theorem Pair.keep {w w1 : World} {B : Nat} {x y : Value} (h : Pair w B x y) (hb : Below w.heap.size w w1) (hB : B < w.heap.size) : Pair w1 B x y := by
  obtain ⟨hc, hf⟩ := bcell hb
  obtain ⟨a, b, c, d⟩ := h
  exact ⟨(hc B 0 hB).trans a, (hc B 1 hB).trans b, (hf B 0 hB).trans c, (hf B 1 hB).trans d⟩
theorem Pair.put {w : World} {B : Nat} {x y : Value} (h : Pair w B x y) (u v : Value) : Pair ((w.setCell ⟨B, 0, none⟩ u).setCell ⟨B, 1, none⟩ v) B u v := by
  obtain ⟨a, b, c, d⟩ := h
  refine ⟨(World.cell?_setCell_other _ _ _ _ (by simp)).trans (World.cell?_setCell_same _ _ _ a), World.cell?_setCell_same _ _ _ ((World.cell?_setCell_other _ _ _ _ (by simp)).trans b), ?_, ?_⟩
  · rw [World.frozen?_setCell, World.frozen?_setCell]; exact c
  · rw [World.frozen?_setCell, World.frozen?_setCell]; exact d
theorem Pair.other {w : World} {B C : Nat} {x y : Value} (h : Pair w B x y) (hne : B ≠ C) (u v : Value) : Pair ((w.setCell ⟨C, 0, none⟩ u).setCell ⟨C, 1, none⟩ v) B x y := by
  obtain ⟨a, b, c, d⟩ := h
  have n : ∀ o p, (⟨C, o, none⟩ : Addr) ≠ ⟨B, p, none⟩ := fun o p e => hne (by simpa using (congrArg Addr.block e).symm)
  refine ⟨(World.cell?_setCell_other _ _ _ _ (n _ _)).trans ((World.cell?_setCell_other _ _ _ _ (n _ _)).trans a), (World.cell?_setCell_other _ _ _ _ (n _ _)).trans ((World.cell?_setCell_other _ _ _ _ (n _ _)).trans b), ?_, ?_⟩
  · rw [World.frozen?_setCell, World.frozen?_setCell]; exact c
  · rw [World.frozen?_setCell, World.frozen?_setCell]; exact d
theorem Pair.new (w : World) (x y : Value) (T : TypeId) {B : Nat} (h : B = w.heap.size) : Pair (w.alloc (.cells #[x, y] T)) B x y := by subst h; exact ⟨by simp, by simp, by simp, by simp⟩
theorem Pair.more {w : World} {B : Nat} {x y : Value} (h : Pair w B x y) (hB : B < w.heap.size) (o : Obj) : Pair (w.alloc o) B x y :=
  h.keep ((Below.refl _ _).alloc (Nat.le_refl _) _) hB
theorem below_two {B : Nat} {a w : World} (h : Below B a w) {C : Nat} (hC : B ≤ C) (u v : Value) : Below B a ((w.setCell ⟨C, 0, none⟩ u).setCell ⟨C, 1, none⟩ v) := (h.setCell (p := ⟨C, 0, none⟩) hC u).setCell (p := ⟨C, 1, none⟩) hC v
theorem setCell_size (w : World) (a : Addr) (v : Value) : (w.setCell a v).heap.size = w.heap.size := by simp [World.setCell]
theorem times_step (a q p : Nat) (h : p = 2 * q + p % 2) (ha : a < 18446744073709551616) (hp : p < 18446744073709551616) : a * p = 2 * (a * q) + a * (p % 2) ∧ a * q ≤ 170141183460469231704017187605319778305 := by
  have e : a * p = a * (2 * q) + a * (p % 2) := by rw [← Nat.mul_add, ← h]
  have e2 : a * (2 * q) = 2 * (a * q) := by rw [Nat.mul_left_comm]
  have l : a * q ≤ 18446744073709551615 * 9223372036854775807 := Nat.mul_le_mul (by omega) (by omega)
  exact ⟨by omega, by omega⟩
theorem cast_shift (b j : Nat) : (b : Int) / 2 ^ j = ((b / 2 ^ j : Nat) : Int) := by simp
theorem and_one (x : Nat) (h : x < 18446744073709551616) : bits .and .u64 (x : Int) 1 = ((x % 2 : Nat) : Int) := by
  have := bits_mask .u64 64 (by decide) wraps_u64 1 (by omega) (x : Int) (by omega) (by omega)
  have e : ((2 : Int) ^ 1 - 1) = 1 := by decide
  rw [e] at this
  rw [this]
  omega
theorem bit_yes {b j : Nat} (h : b / 2 ^ j < 18446744073709551616) (t : (bits .and .u64 ((b : Int) / 2 ^ j) 1 == 1) = true) : b / 2 ^ j % 2 = 1 := by
  rw [cast_shift, and_one _ h] at t
  exact_mod_cast eq_of_beq t
theorem bit_no {b j : Nat} (h : b / 2 ^ j < 18446744073709551616) (t : (bits .and .u64 ((b : Int) / 2 ^ j) 1 == 1) = false) : b / 2 ^ j % 2 = 0 := by
  rw [cast_shift, and_one _ h] at t
  have t' : ((b / 2 ^ j % 2 : Nat) : Int) ≠ 1 := fun e => by rw [e] at t; cases t
  omega
theorem half_step (b j : Nat) : b / 2 ^ j = 2 * (b / 2 ^ (j + 1)) + b / 2 ^ j % 2 := by
  have e : b / 2 ^ (j + 1) = b / 2 ^ j / 2 := by rw [Nat.pow_succ, Nat.div_div_eq_div_mul]
  rw [e]
  omega
theorem div_bound (b m : Nat) (h : b < 18446744073709551616) : b / m < 18446744073709551616 := Nat.lt_of_le_of_lt (Nat.div_le_self _ _) h
def timesRel (a b B : Nat) (w : World) (i : Value) (wr : World) : Prop :=
  ∃ (k : Nat) (hi lo : Int) , k ≤ 64 ∧ i = .int .i64 (k - 1) ∧ 0 ≤ hi ∧ hi ≤ 18446744073709551615 ∧ 0 ≤ lo ∧ lo ≤ 18446744073709551615 ∧ hi * 18446744073709551616 + lo = ((a * (b / 2 ^ k) : Nat) : Int)
      ∧ Pair wr B (.int .u64 0) (.int .u64 0) ∧ Pair wr (B + 1) (.int .u64 hi) (.int .u64 lo) ∧ B + 2 ≤ wr.heap.size ∧ Below B w wr
set_option maxHeartbeats 400000 in
theorem times_rf (a b : Nat) (ha : a < 18446744073709551616) (hb : b < 18446744073709551616) (w : World) :
    Calls Try.prog 47 #[.int .u64 a, .int .u64 b] w fun e w' => e = .returned (wideV (a * b)) ∧ Below w.heap.size w w' := by
  go_enter Try.func47, Try.ntmps47
  go_wp2
  go_loopw [6] (timesRel a b w.heap.size w) (fun i _ => (intOf i + 1).toNat)
  case atStart =>
    refine ⟨64, 0, 0, by omega, rfl, by omega, by omega, by omega, by omega, ?_, ⟨by simp, by simp, by simp, by simp⟩, ⟨by simp, by simp, by simp, by simp⟩, by simp, ((Below.refl _ _).alloc (Nat.le_refl _) _).alloc (by simp) _⟩
    rw [Nat.div_eq_of_lt (by omega)]; rfl
  case round =>
    obtain ⟨k, hi, lo, hk, rfl, h1, h2, h3, h4, hv, hp, hq, hs, hbel⟩ := hrel
    by_cases hpos : 1 ≤ k
    · obtain ⟨j, rfl⟩ : ∃ j, k = j + 1 := ⟨k - 1, by omega⟩
      have ej : (((j + 1 : Nat) : Int) - 1) = (j : Int) := by omega
      have hh := half_step b j
      have hpb := div_bound b (2 ^ j) hb
      obtain ⟨hst, hsb⟩ := times_step a (b / 2 ^ (j + 1)) (b / 2 ^ j) hh ha hpb
      have HV := Lib.hid hv; clear hv hh
      have HST := Lib.hid hst; clear hst
      have HSB := Lib.hid hsb; clear hsb
      have hhi : hi ≤ 9223372036854775807 := by have := HV.out; have := HSB.out; omega
      have HP := Lib.hid hp; clear hp
      obtain ⟨hc0, hc1, hf0, hf1⟩ := hq
      rw [ej]
      clear ej
      go_wp2_with (fail)
      refine (double_rf hi lo ⟨h1, hhi⟩ ⟨h3, h4⟩ _).mono ?_
      rintro e w1 ⟨rfl, hb1⟩
      have HP1 := Lib.hid (HP.out.keep hb1 (by omega))
      obtain ⟨c0, c1, f0, f1⟩ := Pair.keep ⟨hc0, hc1, hf0, hf1⟩ hb1 (by omega)
      have g0 := hb1.size
      have B1 := Lib.hid (hbel.trans (hb1.mono (by omega)))
      have hs1 : w.heap.size + 2 ≤ w1.heap.size := by omega
      clear hb1 hc0 hc1 hf0 hf1 hbel HP g0 hs
      go_wp2_with (fail)
      · have ht := bit_yes hpb (by assumption)
        have HT := Lib.hid ht; clear ht
        refine (plus_rf (hi * 2 + lo / 9223372036854775808) (lo * 2 % 18446744073709551616) a (by have := HV.out; have := HSB.out; omega) (by omega) (by omega) _).mono ?_
        rintro e w2 ⟨rfl, hb2⟩
        have z2 : w.heap.size + 2 ≤ ((w1.setCell ⟨w.heap.size + 1, 0, none⟩ (.int .u64 (hi * 2 + lo / 9223372036854775808))).setCell ⟨w.heap.size + 1, 1, none⟩ (.int .u64 (lo * 2 % 18446744073709551616))).heap.size := by rw [setCell_size, setCell_size]; exact hs1
        have HP2 := Lib.hid ((HP1.out.other (by omega) _ _).keep hb2 (by omega))
        obtain ⟨d0, d1, e0, e1⟩ := (Pair.put ⟨c0, c1, f0, f1⟩ _ _).keep hb2 (by omega)
        have hs2 : w.heap.size + 2 ≤ w2.heap.size := Nat.le_trans z2 hb2.size
        have B2 := Lib.hid ((below_two B1.out (Nat.le_succ _) _ _).trans (hb2.mono (by omega)))
        clear hb2 c0 c1 f0 f1 hs1 B1 HP1 z2
        go_wp2_with (fail)
        go_roundw
        case rel =>
          refine ⟨j, hi * 2 + lo / 9223372036854775808 + (lo * 2 % 18446744073709551616 + a) / 18446744073709551616, (lo * 2 + a) % 18446744073709551616, by omega, rfl, by omega, ?_, by omega, by omega, ?_, HP2.out.other (by omega) _ _, Pair.put ⟨d0, d1, e0, e1⟩ _ _, by rw [setCell_size, setCell_size]; omega, below_two B2.out (Nat.le_succ _) _ _⟩
          · have v1 := HV.out; have v2 := HST.out; have v3 := HT.out; have v4 := HSB.out
            rw [v3] at v2
            omega
          · have v1 := HV.out; have v2 := HST.out; have v3 := HT.out; have v4 := HSB.out
            rw [v3] at v2
            omega
        case measure => simp [intOf]
      · have ht := bit_no hpb (by assumption)
        have HT := Lib.hid ht; clear ht
        go_roundw
        case rel =>
          refine ⟨j, hi * 2 + lo / 9223372036854775808, lo * 2 % 18446744073709551616, by omega, rfl, by omega, ?_, by omega, by omega, ?_, HP1.out.other (by omega) _ _, Pair.put ⟨c0, c1, f0, f1⟩ _ _, by rw [setCell_size, setCell_size]; omega, below_two B1.out (Nat.le_succ _) _ _⟩
          · have v1 := HV.out; have v2 := HST.out; have v3 := HT.out; have v4 := HSB.out
            rw [v3] at v2
            omega
          · have v1 := HV.out; have v2 := HST.out; have v3 := HT.out; have v4 := HSB.out
            rw [v3] at v2
            omega
        case measure => simp [intOf]
    · obtain rfl : k = 0 := by omega
      have hv2 : hi * 18446744073709551616 + lo = ((a * b : Nat) : Int) := by simpa using hv
      have HV := Lib.hid hv2
      clear hv hv2
      have ez : (((0 : Nat) : Int) - 1) = -1 := rfl
      rw [ez]
      clear ez
      obtain ⟨p0, p1, p2, p3⟩ := hp
      obtain ⟨q0, q1, q2, q3⟩ := hq
      have HB := Lib.hid hbel; clear hbel
      go_wp2
      exact bodyPost_ret (v := .agg #[.int .u64 hi, .int .u64 lo]) (by simp [results, Try.results47, go_sem, p0, p1]) rfl ⟨by rw [wide_eq HV.out ⟨h3, h4⟩], below_two HB.out (Nat.le_refl _) _ _⟩
end Go.Proofs.Ytioifgbglgjkcaa
