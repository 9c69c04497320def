/- Contracts and mathematics of the program's parts and of the document's own answers, in one text (Exb, Exc, Exd, Exe, Exf, Exg, Exh, Exi, Exj). Conditions: each theorem says its own. -/
import Derived.Test.YtbjelggbnmfblaaBas
import Derived.WalkSpells
import Derived.ProofKit
import Derived.OpenShut
import Derived.Test.YtbjelggbnmfblaaShelf
import Derived.Laws.BitsLemmas
import Derived.Laws.Bits64b
import Derived.LoopTactic
import Derived.Lib.Hide
import Derived.Outline
import Derived.Deep.QuietTactic
import Derived.BigQuiet
import Derived.Lib.ItoaNum
import Derived.WalkMore
import Derived.ScopeJumps
set_option maxRecDepth 100000
/- What each small function of package exact, and of the document's own answers of layer 1, returns: numbers that fit, and 0, false for those that do not. Conditions: the arguments are numbers of their kinds. -/
namespace Go.Proofs.Ytbjelggbnmfblaa
open Go.RowKit
set_option maxHeartbeats 400000

theorem add_ex (a b : Int) (ha : -9223372036854775808 ≤ a ∧ a ≤ 9223372036854775807) (hb : -9223372036854775808 ≤ b ∧ b ≤ 9223372036854775807) (w : World) :
    Calls Try.prog 165 #[.int .i64 a, .int .i64 b] w fun e w' => e = .returned (okV (a + b)) ∧ w = w' := by
  go_enter Try.func165, Try.ntmps165
  go_wp2
  all_goals go_ret2
  all_goals refine ⟨?_, rfl⟩
  all_goals (rename_i hh; simp only [wrap64] at hh)
  · refine ok_no ?_
    by_cases c : 0 < b
    · simp [c] at hh; omega
    · simp [c] at hh; omega
  · refine ok_yes ?_ ?_
    · by_cases c : 0 < b
      · simp [c] at hh; omega
      · simp [c] at hh; omega
    · simp only [wrap64]
      by_cases c : 0 < b
      · simp [c] at hh; omega
      · simp [c] at hh; omega
theorem sub_ex (a b : Int) (ha : -9223372036854775808 ≤ a ∧ a ≤ 9223372036854775807) (hb : -9223372036854775808 ≤ b ∧ b ≤ 9223372036854775807) (w : World) :
    Calls Try.prog 211 #[.int .i64 a, .int .i64 b] w fun e w' => e = .returned (okV (a - b)) ∧ w = w' := by
  go_enter Try.func211, Try.ntmps211
  go_wp2
  all_goals go_ret2
  all_goals refine ⟨?_, rfl⟩
  all_goals (rename_i hh; simp only [wrap64] at hh)
  · refine ok_no ?_
    by_cases c : 0 < b
    · simp [c] at hh; omega
    · simp [c] at hh; omega
  · refine ok_yes ?_ ?_
    · by_cases c : 0 < b
      · simp [c] at hh; omega
      · simp [c] at hh; omega
    · simp only [wrap64]
      by_cases c : 0 < b
      · simp [c] at hh; omega
      · simp [c] at hh; omega
theorem add_rf (a b : Int) (ha : -9223372036854775808 ≤ a ∧ a ≤ 9223372036854775807) (hb : -9223372036854775808 ≤ b ∧ b ≤ 9223372036854775807) (w : World) :
    Calls Try.prog 162 #[.int .i64 a, .int .i64 b] w fun e w' => e = .returned (okV (a + b)) ∧ w = w' := by
  go_enter Try.func162, Try.ntmps162
  go_wp2
  all_goals go_ret2
  all_goals refine ⟨?_, rfl⟩
  all_goals first
    | exact ok_no (by omega)
    | exact ok_yes (by omega) (by omega)
theorem sub_rf (a b : Int) (ha : -9223372036854775808 ≤ a ∧ a ≤ 9223372036854775807) (hb : -9223372036854775808 ≤ b ∧ b ≤ 9223372036854775807) (w : World) :
    Calls Try.prog 168 #[.int .i64 a, .int .i64 b] w fun e w' => e = .returned (okV (a - b)) ∧ w = w' := by
  go_enter Try.func168, Try.ntmps168
  go_wp2
  all_goals go_ret2
  all_goals refine ⟨?_, rfl⟩
  all_goals first
    | exact ok_no (by omega)
    | exact ok_yes (by omega) (by omega)
def divV (a b : Int) : Value := if 0 < b then .tuple #[.int .i64 (a / b), .bool true] else noV
def modV (a b : Int) : Value := if 0 < b then .tuple #[.int .i64 (a % b), .bool true] else noV
theorem divV_yes {a b c : Int} (h : 0 < b) (e : c = a / b) : Ending.returned (.tuple #[.int .i64 c, .bool true]) = .returned (divV a b) := by subst e; unfold divV; rw [if_pos h]
theorem modV_yes {a b c : Int} (h : 0 < b) (e : c = a % b) : Ending.returned (.tuple #[.int .i64 c, .bool true]) = .returned (modV a b) := by subst e; unfold modV; rw [if_pos h]
theorem divV_no {a b : Int} (h : b < 1) : Ending.returned (.tuple #[.int .i64 0, .bool false]) = .returned (divV a b) := by unfold divV; rw [if_neg (by omega)]; rfl
theorem modV_no {a b : Int} (h : b < 1) : Ending.returned (.tuple #[.int .i64 0, .bool false]) = .returned (modV a b) := by unfold modV; rw [if_neg (by omega)]; rfl
theorem div_in {a b : Int} (ha : -9223372036854775808 ≤ a ∧ a ≤ 9223372036854775807) (hb : 0 < b) : -9223372036854775808 ≤ a / b ∧ a / b ≤ 9223372036854775807 := by
  have h1 : a / b * b + a % b = a := Int.ediv_mul_add_emod a b
  have hm := Int.emod_nonneg a (show b ≠ 0 by omega)
  have hl := Int.emod_lt_of_pos a hb
  by_cases c : 0 ≤ a
  · have := Int.ediv_nonneg c (by omega : 0 ≤ b)
    have := Int.ediv_le_self b c
    omega
  · have h2 : a ≤ a / b := by
      refine (Int.le_ediv_iff_mul_le hb).2 ?_
      have h5 : 0 ≤ (b - 1) * (-a) := Int.mul_nonneg (by omega) (by omega)
      have h6 : (b - 1) * (-a) = a - a * b := by rw [Int.sub_mul, Int.one_mul, Int.mul_neg, Int.mul_comm b a]; omega
      omega
    have h3 : a / b ≤ 0 := by
      have := Int.ediv_le_ediv (c := b) hb (show a ≤ 0 by omega)
      simpa using this
    exact ⟨by omega, by omega⟩
def clampV (a lo hi : Int) : Int := if a < lo then lo else if hi < a then hi else a
theorem clamp_ex (a b c : Int) (w : World) :
    Calls Try.prog 155 #[.int .i64 a, .int .i64 b, .int .i64 c] w fun e w' => e = .returned (.int .i64 (clampV a b c)) ∧ w = w' := by
  go_enter Try.func155, Try.ntmps155
  go_wp2
  all_goals go_ret
  all_goals refine ⟨ret_i64 ?_, rfl⟩
  all_goals (unfold clampV; first | (rw [if_pos (by assumption)]; done) | (rw [if_neg (by omega)]; first | (rw [if_pos (by omega)]; done) | (rw [if_neg (by omega)]; done)))
theorem size_ex (a : Int) (ha : -9223372036854775808 ≤ a ∧ a ≤ 9223372036854775807) (w : World) :
    Calls Try.prog 191 #[.int .i64 a] w fun e w' => e = .returned (.int .u64 (a.natAbs : Int)) ∧ w = w' := by
  go_enter Try.func191, Try.ntmps191
  go_wp2
  all_goals go_ret
  all_goals refine ⟨ret_u64 ?_, rfl⟩
  all_goals first | omega | (simp only [IntKind.wrap_u64]; omega)
theorem size_rf (a : Int) (ha : -9223372036854775808 ≤ a ∧ a ≤ 9223372036854775807) (w : World) :
    Calls Try.prog 195 #[.int .i64 a] w fun e w' => e = .returned (.int .u64 (a.natAbs : Int)) ∧ w = w' := by
  go_enter Try.func195, Try.ntmps195
  go_wp2
  all_goals go_ret
  all_goals refine ⟨ret_u64 ?_, rfl⟩
  all_goals first | omega | (simp only [IntKind.wrap_u64]; omega)
def signV : Bool → Int → Int | true, n => -n | false, n => n
theorem signV_t (n : Int) : signV true n = -n := rfl
theorem signV_f (n : Int) : signV false n = n := rfl
theorem signed_ex (c : Bool) (n : Int) (hn : 0 ≤ n ∧ n ≤ 18446744073709551615) (w : World) :
    Calls Try.prog 192 #[.bool c, .int .u64 n] w fun e w' => e = .returned (okV (signV c n)) ∧ w = w' := by
  cases c
  · rw [signV_f]
    go_enter Try.func192, Try.ntmps192
    go_wp2
    all_goals go_ret2
    all_goals refine ⟨?_, rfl⟩
    all_goals first
      | exact ok_yes (by omega) (by omega)
      | exact ok_no (by omega)
  · rw [signV_t]
    go_enter Try.func192, Try.ntmps192
    go_wp2
    all_goals go_ret2
    all_goals refine ⟨?_, rfl⟩
    all_goals simp only [wrap64, IntKind.wrap_u64]
    all_goals first
      | exact ok_yes (by omega) (by omega)
      | exact ok_no (by omega)
end Go.Proofs.Ytbjelggbnmfblaa
/- What multiply, the document's own signed, double and plus return. Conditions: the arguments are numbers of their kinds. -/
namespace Go.Proofs.Ytbjelggbnmfblaa
open Go.RowKit
set_option maxHeartbeats 400000

theorem signed_rf (hi lo : Int) (c : Bool) (hh : 0 ≤ hi ∧ hi ≤ 18446744073709551615) (hl : 0 ≤ lo ∧ lo ≤ 18446744073709551615) (w : World) :
    Calls Try.prog 197 #[.agg #[.int .u64 hi, .int .u64 lo], .bool c] w fun e w' => e = .returned (okV (signV c (hi * 18446744073709551616 + lo))) ∧ Below w.heap.size w w' := by
  cases c
  · rw [signV_f]
    go_enter Try.func197, Try.ntmps197
    go_wp2
    all_goals go_ret2
    all_goals refine ⟨?_, (Below.refl _ _).alloc (Nat.le_refl _) _⟩
    all_goals first
      | exact ok_yes (by omega) (by omega)
      | exact ok_no (by omega)
  · rw [signV_t]
    go_enter Try.func197, Try.ntmps197
    go_wp2
    all_goals go_ret2
    all_goals refine ⟨?_, (Below.refl _ _).alloc (Nat.le_refl _) _⟩
    all_goals simp only [wrap64, IntKind.wrap_u64]
    all_goals first
      | exact ok_yes (by omega) (by omega)
      | exact ok_no (by omega)

/-- A number of 128 bits as the document's own struct has it. -/
def wideV (n : Nat) : Value := .agg #[.int .u64 ((n / 18446744073709551616 : Nat) : Int), .int .u64 ((n % 18446744073709551616 : Nat) : Int)]
theorem wide_eq {n : Nat} {a b : Int} (h : a * 18446744073709551616 + b = n) (hb : 0 ≤ b ∧ b ≤ 18446744073709551615) : Value.agg #[.int .u64 a, .int .u64 b] = wideV n := by
  unfold wideV
  rw [show ((n / 18446744073709551616 : Nat) : Int) = a by omega, show ((n % 18446744073709551616 : Nat) : Int) = b by omega]
theorem wraps_u64 (n : Int) (h0 : 0 ≤ n) (h1 : n < 2 ^ 64) : IntKind.u64.wrap n = n := by rw [IntKind.wrap_u64]; omega
theorem or_even (x y : Int) (hx : 0 ≤ x ∧ x ≤ 18446744073709551615) (h2 : x % 2 = 0) (hy : 0 ≤ y ∧ y ≤ 1) : bits .or .u64 x y = x + y :=
  bits_join .u64 64 (by decide) wraps_u64 1 x y (by omega) (by omega) (by omega) (by omega) (by omega) (by omega)
theorem ret_wide {a b c d : Int} (h1 : a = c) (h2 : b = d) : Ending.returned (.agg #[.int .u64 a, .int .u64 b]) = .returned (.agg #[.int .u64 c, .int .u64 d]) := by rw [h1, h2]
theorem double_rf (hi lo : Int) (hh : 0 ≤ hi ∧ hi ≤ 9223372036854775807) (hl : 0 ≤ lo ∧ lo ≤ 18446744073709551615) (w : World) :
    Calls Try.prog 214 #[.agg #[.int .u64 hi, .int .u64 lo], .int .u64 0] w fun e w' => e = .returned (.agg #[.int .u64 (hi * 2 + lo / 9223372036854775808), .int .u64 (lo * 2 % 18446744073709551616)]) ∧ Below w.heap.size w w' := by
  go_enter Try.func214, Try.ntmps214
  go_wp2
  refine bodyPost_ret (v := .agg #[.int .u64 (bits .or .u64 (hi * 2) (lo / 9223372036854775808)), .int .u64 (bits .or .u64 (IntKind.u64.wrap (lo * 2)) 0)]) (by simp [results, Try.results214, go_sem]) rfl ⟨?_, ((Below.refl _ _).alloc (Nat.le_refl _) _).alloc (by simp) _⟩
  refine ret_wide (or_even _ _ (by omega) (by omega) (by omega)) ?_
  rw [IntKind.wrap_u64, or_even _ _ (by omega) (by omega) (by omega)]
  omega
theorem plus_rf (hi lo l2 : Int) (hh : 0 ≤ hi ∧ hi ≤ 18446744073709551614) (hl : 0 ≤ lo ∧ lo ≤ 18446744073709551615) (h2 : 0 ≤ l2 ∧ l2 ≤ 18446744073709551615) (w : World) :
    Calls Try.prog 196 #[.agg #[.int .u64 hi, .int .u64 lo], .agg #[.int .u64 0, .int .u64 l2]] w fun e w' => e = .returned (.agg #[.int .u64 (hi + (lo + l2) / 18446744073709551616), .int .u64 ((lo + l2) % 18446744073709551616)]) ∧ Below w.heap.size w w' := by
  by_cases c : lo + l2 ≤ 18446744073709551615
  · go_enter Try.func196, Try.ntmps196
    go_wp2
    refine bodyPost_ret (v := .agg #[.int .u64 hi, .int .u64 (lo + l2)]) (by simp [results, Try.results196, go_sem]) rfl ⟨ret_wide (by omega) (by omega), (((Below.refl _ _).alloc (Nat.le_refl _) _).alloc (by simp) _).alloc (by simp; omega) _⟩
  · go_enter Try.func196, Try.ntmps196
    go_wp2
    · refine bodyPost_ret (v := .agg #[.int .u64 (hi + 1), .int .u64 (IntKind.u64.wrap (lo + l2))]) (by simp [results, Try.results196, go_sem]) rfl ⟨ret_wide (by omega) (by rw [IntKind.wrap_u64]), (((Below.refl _ _).alloc (Nat.le_refl _) _).alloc (by simp) _).alloc (by simp; omega) _⟩
    · rename_i hx
      rw [IntKind.wrap_u64] at hx
      omega
theorem multiply_ex (a b : Nat) (hi : a < 18446744073709551616) (hl : b < 18446744073709551616) (w : World) :
    Calls Try.prog 190 #[.int .u64 a, .int .u64 b] w fun e w' => e = .returned (wideV (a * b)) ∧ Below w.heap.size w w' := by
  go_enter Try.func190, Try.ntmps190
  go_wp2_with (go_at_call 213; refine (Try.bits_Mul64 _ _ hi hl _).mono ?_; rintro e w' ⟨rfl, rfl⟩)
  exact bodyPost_ret (v := wideV (a * b)) (by simp [results, Try.results190, go_sem, wideV]) rfl ⟨rfl, ((Below.refl _ _).alloc (Nat.le_refl _) _)⟩
end Go.Proofs.Ytbjelggbnmfblaa
/- What the document's own product of two numbers of 64 bits returns. Conditions: the arguments are numbers of their kinds. -/
namespace Go.Proofs.Ytbjelggbnmfblaa
open Go.RowKit
theorem bcell {W w1 : World} (hb : Below W.heap.size W w1) : (∀ b o, b < W.heap.size → w1.cell? ⟨b, o, none⟩ = W.cell? ⟨b, o, none⟩) ∧ (∀ b o, b < W.heap.size → w1.frozen? ⟨b, o, none⟩ = W.frozen? ⟨b, o, none⟩) :=
  ⟨fun b o h => hb.cell (p := ⟨b, o, none⟩) h, fun b o h => hb.frozen (p := ⟨b, o, none⟩) h⟩
/-- A block of two cells that may be written. -/
def Pair (w : World) (B : Nat) (x y : Value) : Prop := w.cell? ⟨B, 0, none⟩ = some x ∧ w.cell? ⟨B, 1, none⟩ = some y ∧ w.frozen? ⟨B, 0, none⟩ = false ∧ w.frozen? ⟨B, 1, none⟩ = false
theorem Pair.keep {w w1 : World} {B : Nat} {x y : Value} (h : Pair w B x y) (hb : Below w.heap.size w w1) (hB : B < w.heap.size) : Pair w1 B x y := by
  obtain ⟨hc, hf⟩ := bcell hb
  obtain ⟨a, b, c, d⟩ := h
  exact ⟨(hc B 0 hB).trans a, (hc B 1 hB).trans b, (hf B 0 hB).trans c, (hf B 1 hB).trans d⟩
theorem Pair.put {w : World} {B : Nat} {x y : Value} (h : Pair w B x y) (u v : Value) : Pair ((w.setCell ⟨B, 0, none⟩ u).setCell ⟨B, 1, none⟩ v) B u v := by
  obtain ⟨a, b, c, d⟩ := h
  refine ⟨(World.cell?_setCell_other _ _ _ _ (by simp)).trans (World.cell?_setCell_same _ _ _ a), World.cell?_setCell_same _ _ _ ((World.cell?_setCell_other _ _ _ _ (by simp)).trans b), ?_, ?_⟩
  · rw [World.frozen?_setCell, World.frozen?_setCell]; exact c
  · rw [World.frozen?_setCell, World.frozen?_setCell]; exact d
theorem Pair.other {w : World} {B C : Nat} {x y : Value} (h : Pair w B x y) (hne : B ≠ C) (u v : Value) : Pair ((w.setCell ⟨C, 0, none⟩ u).setCell ⟨C, 1, none⟩ v) B x y := by
  obtain ⟨a, b, c, d⟩ := h
  have n : ∀ o p, (⟨C, o, none⟩ : Addr) ≠ ⟨B, p, none⟩ := fun o p e => hne (by simpa using (congrArg Addr.block e).symm)
  refine ⟨(World.cell?_setCell_other _ _ _ _ (n _ _)).trans ((World.cell?_setCell_other _ _ _ _ (n _ _)).trans a), (World.cell?_setCell_other _ _ _ _ (n _ _)).trans ((World.cell?_setCell_other _ _ _ _ (n _ _)).trans b), ?_, ?_⟩
  · rw [World.frozen?_setCell, World.frozen?_setCell]; exact c
  · rw [World.frozen?_setCell, World.frozen?_setCell]; exact d
theorem Pair.new (w : World) (x y : Value) (T : TypeId) {B : Nat} (h : B = w.heap.size) : Pair (w.alloc (.cells #[x, y] T)) B x y := by subst h; exact ⟨by simp, by simp, by simp, by simp⟩
theorem Pair.more {w : World} {B : Nat} {x y : Value} (h : Pair w B x y) (hB : B < w.heap.size) (o : Obj) : Pair (w.alloc o) B x y :=
  h.keep ((Below.refl _ _).alloc (Nat.le_refl _) _) hB
theorem below_two {B : Nat} {a w : World} (h : Below B a w) {C : Nat} (hC : B ≤ C) (u v : Value) : Below B a ((w.setCell ⟨C, 0, none⟩ u).setCell ⟨C, 1, none⟩ v) := (h.setCell (p := ⟨C, 0, none⟩) hC u).setCell (p := ⟨C, 1, none⟩) hC v
theorem setCell_size (w : World) (a : Addr) (v : Value) : (w.setCell a v).heap.size = w.heap.size := by simp [World.setCell]
theorem times_step (a q p : Nat) (h : p = 2 * q + p % 2) (ha : a < 18446744073709551616) (hp : p < 18446744073709551616) : a * p = 2 * (a * q) + a * (p % 2) ∧ a * q ≤ 170141183460469231704017187605319778305 := by
  have e : a * p = a * (2 * q) + a * (p % 2) := by rw [← Nat.mul_add, ← h]
  have e2 : a * (2 * q) = 2 * (a * q) := by rw [Nat.mul_left_comm]
  have l : a * q ≤ 18446744073709551615 * 9223372036854775807 := Nat.mul_le_mul (by omega) (by omega)
  exact ⟨by omega, by omega⟩
theorem cast_shift (b j : Nat) : (b : Int) / 2 ^ j = ((b / 2 ^ j : Nat) : Int) := by simp
theorem and_one (x : Nat) (h : x < 18446744073709551616) : bits .and .u64 (x : Int) 1 = ((x % 2 : Nat) : Int) := by
  have := bits_mask .u64 64 (by decide) wraps_u64 1 (by omega) (x : Int) (by omega) (by omega)
  have e : ((2 : Int) ^ 1 - 1) = 1 := by decide
  rw [e] at this
  rw [this]
  omega
theorem bit_yes {b j : Nat} (h : b / 2 ^ j < 18446744073709551616) (t : (bits .and .u64 ((b : Int) / 2 ^ j) 1 == 1) = true) : b / 2 ^ j % 2 = 1 := by
  rw [cast_shift, and_one _ h] at t
  exact_mod_cast eq_of_beq t
theorem bit_no {b j : Nat} (h : b / 2 ^ j < 18446744073709551616) (t : (bits .and .u64 ((b : Int) / 2 ^ j) 1 == 1) = false) : b / 2 ^ j % 2 = 0 := by
  rw [cast_shift, and_one _ h] at t
  have t' : ((b / 2 ^ j % 2 : Nat) : Int) ≠ 1 := fun e => by rw [e] at t; cases t
  omega
theorem half_step (b j : Nat) : b / 2 ^ j = 2 * (b / 2 ^ (j + 1)) + b / 2 ^ j % 2 := by
  have e : b / 2 ^ (j + 1) = b / 2 ^ j / 2 := by rw [Nat.pow_succ, Nat.div_div_eq_div_mul]
  rw [e]
  omega
theorem div_bound (b m : Nat) (h : b < 18446744073709551616) : b / m < 18446744073709551616 := Nat.lt_of_le_of_lt (Nat.div_le_self _ _) h
def timesRel (a b B : Nat) (w : World) (i : Value) (wr : World) : Prop :=
  ∃ (k : Nat) (hi lo : Int) , k ≤ 64 ∧ i = .int .i64 (k - 1) ∧ 0 ≤ hi ∧ hi ≤ 18446744073709551615 ∧ 0 ≤ lo ∧ lo ≤ 18446744073709551615 ∧ hi * 18446744073709551616 + lo = ((a * (b / 2 ^ k) : Nat) : Int)
      ∧ Pair wr B (.int .u64 0) (.int .u64 0) ∧ Pair wr (B + 1) (.int .u64 hi) (.int .u64 lo) ∧ B + 2 ≤ wr.heap.size ∧ Below B w wr
set_option maxHeartbeats 400000 in
theorem times_rf (a b : Nat) (ha : a < 18446744073709551616) (hb : b < 18446744073709551616) (w : World) :
    Calls Try.prog 194 #[.int .u64 a, .int .u64 b] w fun e w' => e = .returned (wideV (a * b)) ∧ Below w.heap.size w w' := by
  go_enter Try.func194, Try.ntmps194
  go_wp2
  go_loopw [6] (timesRel a b w.heap.size w) (fun i _ => (intOf i + 1).toNat)
  case atStart =>
    refine ⟨64, 0, 0, by omega, rfl, by omega, by omega, by omega, by omega, ?_, ⟨by simp, by simp, by simp, by simp⟩, ⟨by simp, by simp, by simp, by simp⟩, by simp, ((Below.refl _ _).alloc (Nat.le_refl _) _).alloc (by simp) _⟩
    rw [Nat.div_eq_of_lt (by omega)]; rfl
  case round =>
    obtain ⟨k, hi, lo, hk, rfl, h1, h2, h3, h4, hv, hp, hq, hs, hbel⟩ := hrel
    by_cases hpos : 1 ≤ k
    · obtain ⟨j, rfl⟩ : ∃ j, k = j + 1 := ⟨k - 1, by omega⟩
      have ej : (((j + 1 : Nat) : Int) - 1) = (j : Int) := by omega
      have hh := half_step b j
      have hpb := div_bound b (2 ^ j) hb
      obtain ⟨hst, hsb⟩ := times_step a (b / 2 ^ (j + 1)) (b / 2 ^ j) hh ha hpb
      have HV := Lib.hid hv; clear hv hh
      have HST := Lib.hid hst; clear hst
      have HSB := Lib.hid hsb; clear hsb
      have hhi : hi ≤ 9223372036854775807 := by have := HV.out; have := HSB.out; omega
      have HP := Lib.hid hp; clear hp
      obtain ⟨hc0, hc1, hf0, hf1⟩ := hq
      rw [ej]
      clear ej
      go_wp2_with (fail)
      refine (double_rf hi lo ⟨h1, hhi⟩ ⟨h3, h4⟩ _).mono ?_
      rintro e w1 ⟨rfl, hb1⟩
      have HP1 := Lib.hid (HP.out.keep hb1 (by omega))
      obtain ⟨c0, c1, f0, f1⟩ := Pair.keep ⟨hc0, hc1, hf0, hf1⟩ hb1 (by omega)
      have g0 := hb1.size
      have B1 := Lib.hid (hbel.trans (hb1.mono (by omega)))
      have hs1 : w.heap.size + 2 ≤ w1.heap.size := by omega
      clear hb1 hc0 hc1 hf0 hf1 hbel HP g0 hs
      go_wp2_with (fail)
      · have ht := bit_yes hpb (by assumption)
        have HT := Lib.hid ht; clear ht
        refine (plus_rf (hi * 2 + lo / 9223372036854775808) (lo * 2 % 18446744073709551616) a (by have := HV.out; have := HSB.out; omega) (by omega) (by omega) _).mono ?_
        rintro e w2 ⟨rfl, hb2⟩
        have z2 : w.heap.size + 2 ≤ ((w1.setCell ⟨w.heap.size + 1, 0, none⟩ (.int .u64 (hi * 2 + lo / 9223372036854775808))).setCell ⟨w.heap.size + 1, 1, none⟩ (.int .u64 (lo * 2 % 18446744073709551616))).heap.size := by rw [setCell_size, setCell_size]; exact hs1
        have HP2 := Lib.hid ((HP1.out.other (by omega) _ _).keep hb2 (by omega))
        obtain ⟨d0, d1, e0, e1⟩ := (Pair.put ⟨c0, c1, f0, f1⟩ _ _).keep hb2 (by omega)
        have hs2 : w.heap.size + 2 ≤ w2.heap.size := Nat.le_trans z2 hb2.size
        have B2 := Lib.hid ((below_two B1.out (Nat.le_succ _) _ _).trans (hb2.mono (by omega)))
        clear hb2 c0 c1 f0 f1 hs1 B1 HP1 z2
        go_wp2_with (fail)
        go_roundw
        case rel =>
          refine ⟨j, hi * 2 + lo / 9223372036854775808 + (lo * 2 % 18446744073709551616 + a) / 18446744073709551616, (lo * 2 + a) % 18446744073709551616, by omega, rfl, by omega, ?_, by omega, by omega, ?_, HP2.out.other (by omega) _ _, Pair.put ⟨d0, d1, e0, e1⟩ _ _, by rw [setCell_size, setCell_size]; omega, below_two B2.out (Nat.le_succ _) _ _⟩
          · have v1 := HV.out; have v2 := HST.out; have v3 := HT.out; have v4 := HSB.out
            rw [v3] at v2
            omega
          · have v1 := HV.out; have v2 := HST.out; have v3 := HT.out; have v4 := HSB.out
            rw [v3] at v2
            omega
        case measure => simp [intOf]
      · have ht := bit_no hpb (by assumption)
        have HT := Lib.hid ht; clear ht
        go_roundw
        case rel =>
          refine ⟨j, hi * 2 + lo / 9223372036854775808, lo * 2 % 18446744073709551616, by omega, rfl, by omega, ?_, by omega, by omega, ?_, HP1.out.other (by omega) _ _, Pair.put ⟨c0, c1, f0, f1⟩ _ _, by rw [setCell_size, setCell_size]; omega, below_two B1.out (Nat.le_succ _) _ _⟩
          · have v1 := HV.out; have v2 := HST.out; have v3 := HT.out; have v4 := HSB.out
            rw [v3] at v2
            omega
          · have v1 := HV.out; have v2 := HST.out; have v3 := HT.out; have v4 := HSB.out
            rw [v3] at v2
            omega
        case measure => simp [intOf]
    · obtain rfl : k = 0 := by omega
      have hv2 : hi * 18446744073709551616 + lo = ((a * b : Nat) : Int) := by simpa using hv
      have HV := Lib.hid hv2
      clear hv hv2
      have ez : (((0 : Nat) : Int) - 1) = -1 := rfl
      rw [ez]
      clear ez
      obtain ⟨p0, p1, p2, p3⟩ := hp
      obtain ⟨q0, q1, q2, q3⟩ := hq
      have HB := Lib.hid hbel; clear hbel
      go_wp2
      exact bodyPost_ret (v := .agg #[.int .u64 hi, .int .u64 lo]) (by simp [results, Try.results194, go_sem, p0, p1]) rfl ⟨by rw [wide_eq HV.out ⟨h3, h4⟩], below_two HB.out (Nat.le_refl _) _ _⟩
end Go.Proofs.Ytbjelggbnmfblaa
/- What the document's own long division, bit by bit, returns. Conditions: the arguments are numbers of their kinds, the divisor is from 1 on and below 2 to the 63. -/
namespace Go.Proofs.Ytbjelggbnmfblaa
open Go.RowKit
theorem high_bit (H L j : Nat) (hL : L < 18446744073709551616) (h : 64 ≤ j) : (H * 18446744073709551616 + L) / 2 ^ j = H / 2 ^ (j - 64) := by
  have e : 2 ^ j = 18446744073709551616 * 2 ^ (j - 64) := by
    rw [show (18446744073709551616 : Nat) = 2 ^ 64 by decide, ← Nat.pow_add]
    congr 1
    omega
  rw [e, ← Nat.div_div_eq_div_mul]
  congr 1
  omega
theorem low_bit (H L j : Nat) (h : j < 64) : (H * 18446744073709551616 + L) / 2 ^ j % 2 = L / 2 ^ j % 2 := by
  have e : (18446744073709551616 : Nat) = 2 ^ j * (2 * 2 ^ (63 - j)) := by
    rw [show (18446744073709551616 : Nat) = 2 ^ 64 by decide, show 2 * 2 ^ (63 - j) = 2 ^ (64 - j) by rw [show 64 - j = (63 - j) + 1 by omega, Nat.pow_succ]; omega, ← Nat.pow_add]
    congr 1
    omega
  have e2 : H * 18446744073709551616 + L = L + 2 ^ j * (2 * (H * 2 ^ (63 - j))) := by
    rw [e, Nat.add_comm]
    congr 1
    rw [Nat.mul_left_comm, Nat.mul_left_comm H 2]
  rw [e2, Nat.add_mul_div_left _ _ (Nat.two_pow_pos j)]
  omega
theorem over_step {m p q d lf t : Nat} (hm : m = q * d + lf) (hp : p = 2 * m + t) (ht : t ≤ 1) (hl : lf < d) (hd : d < 9223372036854775808) (hpb : p < 340282366920938463463374607431768211456) :
    q < 170141183460469231731687303715884105728 ∧ 2 * lf + t < 18446744073709551616 ∧ (2 * lf + t < d → p = 2 * q * d + (2 * lf + t)) ∧ (d ≤ 2 * lf + t → p = (2 * q + 1) * d + (2 * lf + t - d) ∧ 2 * lf + t - d < d) := by
  have h1 : q ≤ q * d := Nat.le_mul_of_pos_right q (by omega)
  have h2 : 2 * q * d = 2 * (q * d) := Nat.mul_assoc 2 q d
  have h3 : (2 * q + 1) * d = 2 * (q * d) + d := by rw [Nat.add_mul, h2]; omega
  refine ⟨by omega, by omega, fun h => by omega, fun h => ⟨by omega, by omega⟩⟩
theorem or_and (lf x : Nat) (h : 2 * lf + 1 < 18446744073709551616) (hx : x < 18446744073709551616) : bits .or .u64 ((lf : Int) * 2) (bits .and .u64 (x : Int) 1) = ((2 * lf + x % 2 : Nat) : Int) := by
  rw [and_one x hx, or_even _ _ (by omega) (by omega) (by omega)]
  omega
theorem or_and_shift (lf H i : Nat) (h : 2 * lf + 1 < 18446744073709551616) (hx : H < 18446744073709551616) : bits .or .u64 ((lf : Int) * 2) (bits .and .u64 ((H : Int) / 2 ^ i) 1) = ((2 * lf + H / 2 ^ i % 2 : Nat) : Int) := by
  rw [cast_shift, or_and _ _ h (div_bound H _ hx)]
def overRel (H L d B : Nat) (w : World) (left i : Value) (wr : World) : Prop :=
  ∃ (k lf q : Nat) (qh ql : Int), k ≤ 128 ∧ i = .int .i64 (k - 1) ∧ left = .int .u64 lf ∧ lf < d ∧ 0 ≤ qh ∧ qh ≤ 18446744073709551615 ∧ 0 ≤ ql ∧ ql ≤ 18446744073709551615 ∧ qh * 18446744073709551616 + ql = (q : Int) ∧ (H * 18446744073709551616 + L) / 2 ^ k = q * d + lf
      ∧ Pair wr B (.int .u64 H) (.int .u64 L) ∧ Pair wr (B + 1) (.int .u64 0) (.int .u64 0) ∧ Pair wr (B + 1 + 1) (.int .u64 qh) (.int .u64 ql) ∧ B + 3 ≤ wr.heap.size ∧ Below B w wr
theorem Pair.low {w : World} {B : Nat} {x y : Value} (h : Pair w B x y) (v : Value) : Pair (w.setCell ⟨B, 1, none⟩ v) B x v := by
  obtain ⟨a, b, c, d⟩ := h
  exact ⟨(World.cell?_setCell_other _ _ _ _ (by simp)).trans a, World.cell?_setCell_same _ _ _ b, by rw [World.frozen?_setCell]; exact c, by rw [World.frozen?_setCell]; exact d⟩
theorem Pair.lowOther {w : World} {B C : Nat} {x y : Value} (h : Pair w B x y) (hne : B ≠ C) (v : Value) : Pair (w.setCell ⟨C, 1, none⟩ v) B x y := by
  obtain ⟨a, b, c, d⟩ := h
  have n : ∀ o p, (⟨C, o, none⟩ : Addr) ≠ ⟨B, p, none⟩ := fun o p e => hne (by simpa using (congrArg Addr.block e).symm)
  exact ⟨(World.cell?_setCell_other _ _ _ _ (n _ _)).trans a, (World.cell?_setCell_other _ _ _ _ (n _ _)).trans b, by rw [World.frozen?_setCell]; exact c, by rw [World.frozen?_setCell]; exact d⟩
theorem over_no {H L d B j T q : Nat} {w w1 : World} {qh ql : Int} (hk : j + 1 ≤ 128) (h1 : 0 ≤ qh) (hqh : qh ≤ 9223372036854775807) (h3 : 0 ≤ ql) (h4 : ql ≤ 18446744073709551615)
    (hq : qh * 18446744073709551616 + ql = (q : Int)) (hT : T < d) (hm : (H * 18446744073709551616 + L) / 2 ^ j = 2 * q * d + T)
    (pb : Pair w1 B (.int .u64 H) (.int .u64 L)) (pr : Pair w1 (B + 1) (.int .u64 0) (.int .u64 0)) (pq : Pair w1 (B + 1 + 1) (.int .u64 qh) (.int .u64 ql)) (hs : B + 3 ≤ w1.heap.size) (hb : Below B w w1) :
    overRel H L d B w (.int .u64 T) (.int .i64 (j - 1)) ((w1.setCell ⟨B + 1 + 1, 0, none⟩ (.int .u64 (qh * 2 + ql / 9223372036854775808))).setCell ⟨B + 1 + 1, 1, none⟩ (.int .u64 (ql * 2 % 18446744073709551616))) :=
  ⟨j, T, 2 * q, qh * 2 + ql / 9223372036854775808, ql * 2 % 18446744073709551616, by omega, rfl, rfl, hT, by omega, by omega, by omega, by omega, by omega, hm,
    pb.other (by omega) _ _, pr.other (by omega) _ _, pq.put _ _, by rw [setCell_size, setCell_size]; exact hs, below_two hb (by omega) _ _⟩
theorem over_yes {H L d B j T q : Nat} {w w1 : World} {qh ql : Int} (hk : j + 1 ≤ 128) (h1 : 0 ≤ qh) (hqh : qh ≤ 9223372036854775807) (h3 : 0 ≤ ql) (h4 : ql ≤ 18446744073709551615)
    (hq : qh * 18446744073709551616 + ql = (q : Int)) (hT : d ≤ T) (hTb : T < 18446744073709551616) (hm : (H * 18446744073709551616 + L) / 2 ^ j = (2 * q + 1) * d + (T - d) ∧ T - d < d)
    (pb : Pair w1 B (.int .u64 H) (.int .u64 L)) (pr : Pair w1 (B + 1) (.int .u64 0) (.int .u64 0)) (pq : Pair w1 (B + 1 + 1) (.int .u64 qh) (.int .u64 ql)) (hs : B + 3 ≤ w1.heap.size) (hb : Below B w w1) :
    overRel H L d B w (.int .u64 (IntKind.u64.wrap ((T : Int) - d))) (.int .i64 (j - 1)) (((w1.setCell ⟨B + 1 + 1, 0, none⟩ (.int .u64 (qh * 2 + ql / 9223372036854775808))).setCell ⟨B + 1 + 1, 1, none⟩ (.int .u64 (ql * 2 % 18446744073709551616))).setCell ⟨B + 1 + 1, 1, none⟩ (.int .u64 (bits .or .u64 (ql * 2 % 18446744073709551616) 1))) := by
  rw [or_even _ _ (by omega) (by omega) (by omega)]
  exact ⟨j, T - d, 2 * q + 1, qh * 2 + ql / 9223372036854775808, ql * 2 % 18446744073709551616 + 1, by omega, rfl, by congr 1; rw [IntKind.wrap_u64]; omega, hm.2, by omega, by omega, by omega, by omega, by omega, hm.1,
    (pb.other (by omega) _ _).lowOther (by omega) _, (pr.other (by omega) _ _).lowOther (by omega) _, (pq.put _ _).low _, by rw [setCell_size, setCell_size, setCell_size]; exact hs, (below_two hb (by omega) _ _).setCell (p := ⟨B + 1 + 1, 1, none⟩) (by show B ≤ B + 1 + 1; omega) _⟩
set_option maxHeartbeats 400000 in
theorem over_rf (H L d : Nat) (hH : H < 18446744073709551616) (hL : L < 18446744073709551616) (hd1 : 1 ≤ d) (hd : d < 9223372036854775808) (w : World) :
    Calls Try.prog 193 #[.agg #[.int .u64 H, .int .u64 L], .int .u64 d] w fun e w' => e = .returned (.tuple #[wideV ((H * 18446744073709551616 + L) / d), .int .u64 (((H * 18446744073709551616 + L) % d : Nat) : Int)]) ∧ Below w.heap.size w w' := by
  go_enter Try.func193, Try.ntmps193
  go_wp2
  go_loopw [7, 8] (overRel H L d w.heap.size w) (fun _ i _ => (intOf i + 1).toNat)
  case atStart =>
    refine ⟨128, 0, 0, 0, 0, by omega, rfl, rfl, by omega, by omega, by omega, by omega, by omega, by omega, ?_, ((Pair.new _ _ _ _ rfl).more (by simp) _).more (by simp; omega) _, (Pair.new _ _ _ _ (by simp)).more (by simp) _, Pair.new _ _ _ _ (by simp), by simp, (((Below.refl _ _).alloc (Nat.le_refl _) _).alloc (by simp) _).alloc (by simp; omega) _⟩
    rw [Nat.div_eq_of_lt (by omega)]; omega
  case round =>
    obtain ⟨k, lf, q, qh, ql, hk, rfl, rfl, hlf, h1, h2, h3, h4, hq, hm, hpb, hpr, hpq, hs, hbel⟩ := hrel
    by_cases hpos : 1 ≤ k
    · obtain ⟨j, rfl⟩ : ∃ j, k = j + 1 := ⟨k - 1, by omega⟩
      have ej : (((j + 1 : Nat) : Int) - 1) = (j : Int) := by omega
      have hh := half_step (H * 18446744073709551616 + L) j
      have hpz : (H * 18446744073709551616 + L) / 2 ^ j < 340282366920938463463374607431768211456 := Nat.lt_of_le_of_lt (Nat.div_le_self _ _) (by omega)
      obtain ⟨s1, s2, s3, s4⟩ := over_step hm hh (by omega) hlf hd hpz
      have HQ := Lib.hid hq; clear hq hh hpz
      have HM := Lib.hid hm; clear hm
      have HS1 := Lib.hid s1; clear s1
      have HS2 := Lib.hid s2; clear s2
      have HS3 := Lib.hid s3; clear s3
      have HS4 := Lib.hid s4; clear s4
      have HPB := Lib.hid hpb
      have HPR := Lib.hid hpr; clear hpr
      have hqh : qh ≤ 9223372036854775807 := by have := HQ.out; have := HS1.out; omega
      obtain ⟨b0, b1, bf0, bf1⟩ := hpb
      obtain ⟨q0, q1, q2, q3⟩ := hpq
      have HB := Lib.hid hbel; clear hbel
      rw [ej]
      clear ej
      by_cases hj : 64 ≤ j
      · have hbit : (H * 18446744073709551616 + L) / 2 ^ j % 2 = H / 2 ^ (j - 64) % 2 := by rw [high_bit H L j hL hj]
        obtain ⟨T, hT⟩ : ∃ T, T = 2 * lf + (H * 18446744073709551616 + L) / 2 ^ j % 2 := ⟨_, rfl⟩
        have hor := or_and_shift lf H (j - 64) (by omega) hH
        rw [← hbit, ← hT] at hor
        rw [← hT] at HS2 HS3 HS4
        have HT := Lib.hid hT; clear hT hbit
        go_wp2_with (fail)
        refine (double_rf qh ql ⟨h1, hqh⟩ ⟨h3, h4⟩ _).mono ?_
        rintro e w1 ⟨rfl, hb1⟩
        have HPB1 := Lib.hid (HPB.out.keep hb1 (by omega))
        have HPR1 := Lib.hid (HPR.out.keep hb1 (by omega))
        obtain ⟨c0, c1, f0, f1⟩ := Pair.keep ⟨q0, q1, q2, q3⟩ hb1 (by omega)
        have g0 := hb1.size
        have B1 := Lib.hid (HB.out.trans (hb1.mono (by omega)))
        have hs1 : w.heap.size + 3 ≤ w1.heap.size := by omega
        clear hb1 b0 b1 bf0 bf1 q0 q1 q2 q3 HPB HPR HB g0 hs
        by_cases hTd : d ≤ T
        · go_wp2_with (fail)
          go_roundw
          case rel => exact over_yes hk h1 hqh h3 h4 HQ.out hTd HS2.out (HS4.out hTd) HPB1.out HPR1.out ⟨c0, c1, f0, f1⟩ hs1 B1.out
          case measure => simp [intOf]
        · go_wp2_with (fail)
          go_roundw
          case rel => exact over_no hk h1 hqh h3 h4 HQ.out (by omega) (HS3.out (by omega)) HPB1.out HPR1.out ⟨c0, c1, f0, f1⟩ hs1 B1.out
          case measure => simp [intOf]
      · have hbit : (H * 18446744073709551616 + L) / 2 ^ j % 2 = L / 2 ^ j % 2 := low_bit H L j (by omega)
        obtain ⟨T, hT⟩ : ∃ T, T = 2 * lf + (H * 18446744073709551616 + L) / 2 ^ j % 2 := ⟨_, rfl⟩
        have hor := or_and_shift lf L j (by omega) hL
        rw [← hbit, ← hT] at hor
        rw [← hT] at HS2 HS3 HS4
        have HT := Lib.hid hT; clear hT hbit
        go_wp2_with (fail)
        refine (double_rf qh ql ⟨h1, hqh⟩ ⟨h3, h4⟩ _).mono ?_
        rintro e w1 ⟨rfl, hb1⟩
        have HPB1 := Lib.hid (HPB.out.keep hb1 (by omega))
        have HPR1 := Lib.hid (HPR.out.keep hb1 (by omega))
        obtain ⟨c0, c1, f0, f1⟩ := Pair.keep ⟨q0, q1, q2, q3⟩ hb1 (by omega)
        have g0 := hb1.size
        have B1 := Lib.hid (HB.out.trans (hb1.mono (by omega)))
        have hs1 : w.heap.size + 3 ≤ w1.heap.size := by omega
        clear hb1 b0 b1 bf0 bf1 q0 q1 q2 q3 HPB HPR HB g0 hs
        by_cases hTd : d ≤ T
        · go_wp2_with (fail)
          go_roundw
          case rel => exact over_yes hk h1 hqh h3 h4 HQ.out hTd HS2.out (HS4.out hTd) HPB1.out HPR1.out ⟨c0, c1, f0, f1⟩ hs1 B1.out
          case measure => simp [intOf]
        · go_wp2_with (fail)
          go_roundw
          case rel => exact over_no hk h1 hqh h3 h4 HQ.out (by omega) (HS3.out (by omega)) HPB1.out HPR1.out ⟨c0, c1, f0, f1⟩ hs1 B1.out
          case measure => simp [intOf]
    · obtain rfl : k = 0 := by omega
      have hm2 : H * 18446744073709551616 + L = q * d + lf := by simpa using hm
      have hdv : (H * 18446744073709551616 + L) / d = q ∧ (H * 18446744073709551616 + L) % d = lf := by
        rw [hm2]
        exact ⟨by rw [Nat.add_comm, Nat.add_mul_div_right _ _ (by omega), Nat.div_eq_of_lt hlf, Nat.zero_add], by rw [Nat.add_comm, Nat.add_mul_mod_self_right, Nat.mod_eq_of_lt hlf]⟩
      have HV := Lib.hid hdv
      have HQ := Lib.hid hq
      clear hm hm2 hdv hq
      have ez : (((0 : Nat) : Int) - 1) = -1 := rfl
      rw [ez]
      clear ez hpb
      obtain ⟨p0, p1, p2, p3⟩ := hpr
      obtain ⟨q0, q1, q2, q3⟩ := hpq
      have HB := Lib.hid hbel; clear hbel
      go_wp2
      refine bodyPost_ret (v := .tuple #[.agg #[.int .u64 qh, .int .u64 ql], .int .u64 lf]) (by simp [results, Try.results193, go_sem, p0, p1]) rfl ⟨?_, below_two HB.out (Nat.le_succ _) _ _⟩
      rw [HV.out.1, HV.out.2, wide_eq HQ.out ⟨h3, h4⟩]
end Go.Proofs.Ytbjelggbnmfblaa
/- What the library's division of 128 bits by 64 returns: the quotient and what is left. Conditions: the higher half is below the divisor. -/
namespace Go.Proofs.Ytbjelggbnmfblaa
open Go.RowKit
theorem ret_uu {a b c d : Int} (h1 : a = c) (h2 : b = d) : Ending.returned (.tuple #[.int .u64 a, .int .u64 b]) = .returned (.tuple #[.int .u64 c, .int .u64 d]) := by rw [h1, h2]
theorem wn (a : Nat) (ha : a < 18446744073709551616) : IntKind.u64.wrap (a : Int) = (a : Int) := by rw [IntKind.wrap_u64]; omega
theorem wq (a b : Nat) (ha : a < 18446744073709551616) : IntKind.u64.wrap ((a : Int) / b) = ((a / b : Nat) : Int) := by
  have := Nat.div_le_self a b
  rw [← Int.natCast_ediv, wn _ (by omega)]
theorem guess_start (u v y1 y0 : Nat) (h1 : 2147483648 ≤ y1) (hv : v < 4294967296) : (u * 4294967296 + v) / (y1 * 4294967296 + y0) ≤ u / y1 := by
  have e : (u * 4294967296 + v) / 4294967296 = u := by omega
  calc (u * 4294967296 + v) / (y1 * 4294967296 + y0) ≤ (u * 4294967296 + v) / (y1 * 4294967296) := Nat.div_le_div_left (by omega) (by omega)
    _ = (u * 4294967296 + v) / 4294967296 / y1 := by rw [Nat.mul_comm y1, Nat.div_div_eq_div_mul]
    _ = u / y1 := by rw [e]
theorem wm (a b : Nat) (h : a * b < 18446744073709551616) : IntKind.u64.wrap ((a : Int) * b) = ((a * b : Nat) : Int) := by
  rw [← Int.natCast_mul, wn _ h]
theorem ws (a b : Nat) (ha : a < 18446744073709551616) (h : b ≤ a) : IntKind.u64.wrap ((a : Int) - b) = ((a - b : Nat) : Int) := by
  rw [← Int.ofNat_sub h, wn _ (by omega)]
set_option maxHeartbeats 400000 in
theorem div64_low (l y : Nat) (hl : l < 18446744073709551616) (hy : 1 ≤ y) (hy2 : y < 18446744073709551616) (w : World) :
    Calls Try.prog 212 #[.int .u64 0, .int .u64 l, .int .u64 y] w fun e w' => e = .returned (.tuple #[.int .u64 ((l / y : Nat) : Int), .int .u64 ((l % y : Nat) : Int)]) ∧ ∃ n, w' = w.drewN n := by
  have h0 : ((y : Int) == 0) = false := by simp; omega
  go_enter Try.func212, Try.ntmps212
  go_wp2
  go_quiet (fail)
  go_wp2
  go_ret2
  exact ⟨ret_uu (wq l y hl) (by simp), _, rfl⟩
/-- The guess and what it leaves, at the head of the library's loop. -/
def guessRel (u y1 Q : Nat) (a b : Value) : Prop := ∃ q r : Nat, a = .int .u64 q ∧ b = .int .u64 r ∧ q * y1 + r = u ∧ Q ≤ q ∧ q ≤ 4294967297 ∧ r < 4294967296
theorem guess_le {u v y1 y0 q r : Nat} (h : q * y1 + r = u) (hy : 0 < y1) : q ≤ (u * 4294967296 + v) / (y1 * 4294967296 + y0) ↔ q * y0 ≤ 4294967296 * r + v := by
  rw [Nat.le_div_iff_mul_le (by omega), ← h, Nat.mul_add, Nat.add_mul, ← Nat.mul_assoc]
  omega
set_option maxHeartbeats 400000 in
set_option maxRecDepth 100000 in
theorem div64_core (h l y Y u v10 y1 y0 v1 v0 s Q1 u21 Q0 : Nat) (hh : 1 ≤ h) (hy : h < y) (hy2 : y < 18446744073709551616) (hs63 : s ≤ 63)
    (hsi : (64 - (Lib.bitLen (y : Int).toNat : Int)) = (s : Int)) (eY : IntKind.u64.wrap ((y : Int) * 2 ^ s) = Y) (eY1 : (Y : Int) / 4294967296 = y1) (eY0 : bits .and .u64 (Y : Int) 4294967295 = y0)
    (eU : bits .or .u64 (IntKind.u64.wrap ((h : Int) * 2 ^ s)) ((l : Int) / 2 ^ (64 - s)) = u) (eV : IntKind.u64.wrap ((l : Int) * 2 ^ s) = v10) (eV1 : (v10 : Int) / 4294967296 = v1) (eV0 : bits .and .u64 (v10 : Int) 4294967295 = v0)
    (hy1 : 2147483648 ≤ y1) (hy1b : y1 < 4294967296) (hy0 : y0 < 4294967296) (hv1 : v1 < 4294967296) (hv0 : v0 < 4294967296) (hu : u < 18446744073709551616)
    (hQ1 : Q1 = (u * 4294967296 + v1) / (y1 * 4294967296 + y0)) (hQ1b : Q1 < 4294967296) (hub : u / y1 ≤ 4294967297)
    (e21 : IntKind.u64.wrap (IntKind.u64.wrap (IntKind.u64.wrap ((u : Int) * 4294967296) + v1) - IntKind.u64.wrap ((Q1 : Int) * Y)) = u21)
    (hu21 : u21 < 18446744073709551616) (hQ0 : Q0 = (u21 * 4294967296 + v0) / (y1 * 4294967296 + y0)) (hQ0b : Q0 < 4294967296) (hub0 : u21 / y1 ≤ 4294967297)
    (w : World) :
    Calls Try.prog 212 #[.int .u64 h, .int .u64 l, .int .u64 y] w fun e w' => e = .returned (.tuple #[.int .u64 ((Q1 : Int) * 4294967296 + Q0), .int .u64 (IntKind.u64.wrap (IntKind.u64.wrap (IntKind.u64.wrap ((u21 : Int) * 4294967296) + v0) - IntKind.u64.wrap ((Q0 : Int) * Y)) / 2 ^ s)]) ∧ w' = w := by
  have HQ1 := Lib.hid hQ1; clear hQ1
  have HQ0 := Lib.hid hQ0; clear hQ0
  have HUB := Lib.hid hub; clear hub
  have HUB0 := Lib.hid hub0; clear hub0
  have h0 : ((y : Int) == 0) = false := by simp; omega
  have h1 : ((h : Int) == 0) = false := by simp; omega
  have h2 : ¬ ((y1 : Int) = 0) := by omega
  have h3 : ((y1 : Int) == 0) = false := by simp; omega
  go_enter Try.func212, Try.ntmps212
  go_wp2_with (go_at_call 237; refine (Try.bits_LeadingZeros64 (y : Int) _ (by omega) (by omega)).mono ?_; rintro e w' ⟨rfl, rfl⟩; rw [hsi]; clear hsi)
  go_loop [15, 16] (guessRel u y1 Q1) (fun a _ => (intOf a).toNat)
  case atStart =>
    have e1 := Nat.div_mul_le_self u y1
    have e2 := Nat.mod_lt u (show y1 > 0 by omega)
    have e3 := Nat.div_add_mod u y1
    rw [Nat.mul_comm] at e3
    rw [wq u y1 hu, wm _ _ (by omega), ws _ _ hu e1]
    refine ⟨u / y1, u - u / y1 * y1, rfl, rfl, by omega, ?_, HUB.out, by omega⟩
    rw [HQ1.out]
    exact guess_start _ _ _ _ hy1 hv1
  case round =>
    obtain ⟨q, r, rfl, rfl, hqr, hqQ, hqb, hrb⟩ := hrel
    have HQR := Lib.hid hqr; clear hqr
    by_cases hq : q ≤ Q1
    · obtain rfl : Q1 = q := by omega
      have hm := (guess_le (v := v1) (y0 := y0) HQR.out (by omega)).1 (by rw [← HQ1.out]; exact Nat.le_refl _)
      obtain ⟨m, hm2⟩ : ∃ m, m = Q1 * y0 := ⟨_, rfl⟩
      rw [← hm2] at hm
      have em : IntKind.u64.wrap ((Q1 : Int) * y0) = (m : Int) := by rw [hm2, wm _ _ (by omega)]
      have hx : ¬ (4294967296 ≤ (Q1 : Int)) := by omega
      have hy' : ¬ (4294967296 * (r : Int) + v1 < m) := by omega
      clear hm2 hqQ hq hm HQR hqb
      go_wp2_with (fail)
      go_loop [18, 16] (guessRel u21 y1 Q0) (fun a _ => (intOf a).toNat)
      case atStart =>
        have e1 := Nat.div_mul_le_self u21 y1
        have e2 := Nat.mod_lt u21 (show y1 > 0 by omega)
        have e3 := Nat.div_add_mod u21 y1
        rw [Nat.mul_comm] at e3
        rw [wq u21 y1 hu21, wm _ _ (by omega), ws _ _ hu21 e1]
        refine ⟨u21 / y1, u21 - u21 / y1 * y1, rfl, rfl, by omega, ?_, HUB0.out, by omega⟩
        rw [HQ0.out]
        exact guess_start _ _ _ _ hy1 hv0
      case round =>
        obtain ⟨q, r, rfl, rfl, hqr, hqQ, hqb, hrb⟩ := hrel
        have HQR := Lib.hid hqr; clear hqr
        by_cases hq : q ≤ Q0
        · obtain rfl : Q0 = q := by omega
          have hm := (guess_le (v := v0) (y0 := y0) HQR.out (by omega)).1 (by rw [← HQ0.out]; exact Nat.le_refl _)
          obtain ⟨m, hm2⟩ : ∃ m, m = Q0 * y0 := ⟨_, rfl⟩
          rw [← hm2] at hm
          have em : IntKind.u64.wrap ((Q0 : Int) * y0) = (m : Int) := by rw [hm2, wm _ _ (by omega)]
          have hx : ¬ (4294967296 ≤ (Q0 : Int)) := by omega
          have hy' : ¬ (4294967296 * (r : Int) + v0 < m) := by omega
          clear hm2 hqQ hq hm HQR hqb
          go_wp2_with (fail)
          go_ret2
          exact ⟨rfl, rfl⟩
        · obtain ⟨p, hp⟩ : ∃ p, q = p + 1 := ⟨q - 1, by omega⟩
          have hqr2 : p * y1 + (r + y1) = u21 := by have := HQR.out; rw [hp, Nat.add_mul, Nat.one_mul] at this; omega
          have hpy : p * y0 ≤ 4294967296 * 4294967295 := Nat.mul_le_mul (by omega) (by omega)
          have ep : IntKind.u64.wrap ((q : Int) - 1) = (p : Int) := by rw [show (q : Int) - 1 = (p : Int) by omega, wn _ (by omega)]
          have hnot : ¬ (q * y0 ≤ 4294967296 * r + v0) := fun hc => hq (by rw [HQ0.out]; exact (guess_le (v := v0) (y0 := y0) HQR.out (by omega)).2 hc)
          obtain ⟨m, hm2⟩ : ∃ m, m = q * y0 := ⟨_, rfl⟩
          have hmb : q < 4294967296 → m < 18446744073709551616 := fun h => by
            have : q * y0 ≤ 4294967295 * 4294967295 := Nat.mul_le_mul (by omega) (by omega)
            omega
          rw [← hm2] at hnot
          have hlt : 4294967296 * (r : Int) + v0 < m := by omega
          have HPY := Lib.hid hpy
          have HR2 := Lib.hid hqr2
          have HM := Lib.hid hm2
          have HMB := Lib.hid hmb
          have HP := Lib.hid hp
          have hpQ : Q0 ≤ p := by omega
          have hp3 : p ≤ 4294967296 := by omega
          clear hpy hqr2 hm2 hqQ hq hqb hnot HQR hmb hp
          by_cases hbr : 4294967296 ≤ r + y1
          · have hle := (guess_le (v := v0) (y0 := y0) HR2.out (by omega)).2 (by have := HPY.out; omega)
            rw [← HQ0.out] at hle
            obtain rfl : Q0 = p := by omega
            clear hle
            have hbi : (4294967296 : Int) ≤ (r : Int) + y1 := by omega
            clear hbr hpQ hp3
            by_cases hg : 4294967296 ≤ q
            · have hx : (4294967296 : Int) ≤ (q : Int) := by omega
              clear hg hlt
              go_wp2_with (fail)
              go_ret2
              exact ⟨rfl, rfl⟩
            · have em : IntKind.u64.wrap ((q : Int) * y0) = (m : Int) := by rw [HM.out, wm _ _ (by rw [← HM.out]; exact HMB.out (by omega))]
              have hx : ¬ (4294967296 : Int) ≤ (q : Int) := by omega
              clear hg
              go_wp2_with (fail)
              go_ret2
              exact ⟨rfl, rfl⟩
          · have hbi : ¬ (4294967296 : Int) ≤ (r : Int) + y1 := by omega
            by_cases hg : 4294967296 ≤ q
            · have hx : (4294967296 : Int) ≤ (q : Int) := by omega
              clear hg hlt
              go_wp2_with (fail)
              go_round
              case rel => exact ⟨p, r + y1, rfl, by first | rfl | (congr 1), HR2.out, hpQ, by omega, by omega⟩
              case measure => have := HP.out; simp [intOf]; omega
            · have em : IntKind.u64.wrap ((q : Int) * y0) = (m : Int) := by rw [HM.out, wm _ _ (by rw [← HM.out]; exact HMB.out (by omega))]
              have hx : ¬ (4294967296 : Int) ≤ (q : Int) := by omega
              clear hg
              go_wp2_with (fail)
              go_round
              case rel => exact ⟨p, r + y1, rfl, by first | rfl | (congr 1), HR2.out, hpQ, by omega, by omega⟩
              case measure => have := HP.out; simp [intOf]; omega
    · obtain ⟨p, hp⟩ : ∃ p, q = p + 1 := ⟨q - 1, by omega⟩
      have hqr2 : p * y1 + (r + y1) = u := by have := HQR.out; rw [hp, Nat.add_mul, Nat.one_mul] at this; omega
      have hpy : p * y0 ≤ 4294967296 * 4294967295 := Nat.mul_le_mul (by omega) (by omega)
      have ep : IntKind.u64.wrap ((q : Int) - 1) = (p : Int) := by rw [show (q : Int) - 1 = (p : Int) by omega, wn _ (by omega)]
      have hnot : ¬ (q * y0 ≤ 4294967296 * r + v1) := fun hc => hq (by rw [HQ1.out]; exact (guess_le (v := v1) (y0 := y0) HQR.out (by omega)).2 hc)
      obtain ⟨m, hm2⟩ : ∃ m, m = q * y0 := ⟨_, rfl⟩
      have hmb : q < 4294967296 → m < 18446744073709551616 := fun h => by
        have : q * y0 ≤ 4294967295 * 4294967295 := Nat.mul_le_mul (by omega) (by omega)
        omega
      rw [← hm2] at hnot
      have hlt : 4294967296 * (r : Int) + v1 < m := by omega
      have HPY := Lib.hid hpy
      have HR2 := Lib.hid hqr2
      have HM := Lib.hid hm2
      have HMB := Lib.hid hmb
      have HP := Lib.hid hp
      have hpQ : Q1 ≤ p := by omega
      have hp3 : p ≤ 4294967296 := by omega
      clear hpy hqr2 hm2 hqQ hq hqb hnot HQR hmb hp
      by_cases hbr : 4294967296 ≤ r + y1
      · have hle := (guess_le (v := v1) (y0 := y0) HR2.out (by omega)).2 (by have := HPY.out; omega)
        rw [← HQ1.out] at hle
        obtain rfl : Q1 = p := by omega
        clear hle
        have hbi : (4294967296 : Int) ≤ (r : Int) + y1 := by omega
        clear hbr hpQ hp3
        by_cases hg : 4294967296 ≤ q
        · have hx : (4294967296 : Int) ≤ (q : Int) := by omega
          clear hg hlt
          go_wp2_with (fail)
          go_loop [18, 16] (guessRel u21 y1 Q0) (fun a _ => (intOf a).toNat)
          case atStart =>
            have e1 := Nat.div_mul_le_self u21 y1
            have e2 := Nat.mod_lt u21 (show y1 > 0 by omega)
            have e3 := Nat.div_add_mod u21 y1
            rw [Nat.mul_comm] at e3
            rw [wq u21 y1 hu21, wm _ _ (by omega), ws _ _ hu21 e1]
            refine ⟨u21 / y1, u21 - u21 / y1 * y1, rfl, rfl, by omega, ?_, HUB0.out, by omega⟩
            rw [HQ0.out]
            exact guess_start _ _ _ _ hy1 hv0
          case round =>
            obtain ⟨q, r, rfl, rfl, hqr, hqQ, hqb, hrb⟩ := hrel
            have HQR := Lib.hid hqr; clear hqr
            by_cases hq : q ≤ Q0
            · obtain rfl : Q0 = q := by omega
              have hm := (guess_le (v := v0) (y0 := y0) HQR.out (by omega)).1 (by rw [← HQ0.out]; exact Nat.le_refl _)
              obtain ⟨m, hm2⟩ : ∃ m, m = Q0 * y0 := ⟨_, rfl⟩
              rw [← hm2] at hm
              have em : IntKind.u64.wrap ((Q0 : Int) * y0) = (m : Int) := by rw [hm2, wm _ _ (by omega)]
              have hx : ¬ (4294967296 ≤ (Q0 : Int)) := by omega
              have hy' : ¬ (4294967296 * (r : Int) + v0 < m) := by omega
              clear hm2 hqQ hq hm HQR hqb
              go_wp2_with (fail)
              go_ret2
              exact ⟨rfl, rfl⟩
            · obtain ⟨p, hp⟩ : ∃ p, q = p + 1 := ⟨q - 1, by omega⟩
              have hqr2 : p * y1 + (r + y1) = u21 := by have := HQR.out; rw [hp, Nat.add_mul, Nat.one_mul] at this; omega
              have hpy : p * y0 ≤ 4294967296 * 4294967295 := Nat.mul_le_mul (by omega) (by omega)
              have ep : IntKind.u64.wrap ((q : Int) - 1) = (p : Int) := by rw [show (q : Int) - 1 = (p : Int) by omega, wn _ (by omega)]
              have hnot : ¬ (q * y0 ≤ 4294967296 * r + v0) := fun hc => hq (by rw [HQ0.out]; exact (guess_le (v := v0) (y0 := y0) HQR.out (by omega)).2 hc)
              obtain ⟨m, hm2⟩ : ∃ m, m = q * y0 := ⟨_, rfl⟩
              have hmb : q < 4294967296 → m < 18446744073709551616 := fun h => by
                have : q * y0 ≤ 4294967295 * 4294967295 := Nat.mul_le_mul (by omega) (by omega)
                omega
              rw [← hm2] at hnot
              have hlt : 4294967296 * (r : Int) + v0 < m := by omega
              have HPY := Lib.hid hpy
              have HR2 := Lib.hid hqr2
              have HM := Lib.hid hm2
              have HMB := Lib.hid hmb
              have HP := Lib.hid hp
              have hpQ : Q0 ≤ p := by omega
              have hp3 : p ≤ 4294967296 := by omega
              clear hpy hqr2 hm2 hqQ hq hqb hnot HQR hmb hp
              by_cases hbr : 4294967296 ≤ r + y1
              · have hle := (guess_le (v := v0) (y0 := y0) HR2.out (by omega)).2 (by have := HPY.out; omega)
                rw [← HQ0.out] at hle
                obtain rfl : Q0 = p := by omega
                clear hle
                have hbi : (4294967296 : Int) ≤ (r : Int) + y1 := by omega
                clear hbr hpQ hp3
                by_cases hg : 4294967296 ≤ q
                · have hx : (4294967296 : Int) ≤ (q : Int) := by omega
                  clear hg hlt
                  go_wp2_with (fail)
                  go_ret2
                  exact ⟨rfl, rfl⟩
                · have em : IntKind.u64.wrap ((q : Int) * y0) = (m : Int) := by rw [HM.out, wm _ _ (by rw [← HM.out]; exact HMB.out (by omega))]
                  have hx : ¬ (4294967296 : Int) ≤ (q : Int) := by omega
                  clear hg
                  go_wp2_with (fail)
                  go_ret2
                  exact ⟨rfl, rfl⟩
              · have hbi : ¬ (4294967296 : Int) ≤ (r : Int) + y1 := by omega
                by_cases hg : 4294967296 ≤ q
                · have hx : (4294967296 : Int) ≤ (q : Int) := by omega
                  clear hg hlt
                  go_wp2_with (fail)
                  go_round
                  case rel => exact ⟨p, r + y1, rfl, by first | rfl | (congr 1), HR2.out, hpQ, by omega, by omega⟩
                  case measure => have := HP.out; simp [intOf]; omega
                · have em : IntKind.u64.wrap ((q : Int) * y0) = (m : Int) := by rw [HM.out, wm _ _ (by rw [← HM.out]; exact HMB.out (by omega))]
                  have hx : ¬ (4294967296 : Int) ≤ (q : Int) := by omega
                  clear hg
                  go_wp2_with (fail)
                  go_round
                  case rel => exact ⟨p, r + y1, rfl, by first | rfl | (congr 1), HR2.out, hpQ, by omega, by omega⟩
                  case measure => have := HP.out; simp [intOf]; omega
        · have em : IntKind.u64.wrap ((q : Int) * y0) = (m : Int) := by rw [HM.out, wm _ _ (by rw [← HM.out]; exact HMB.out (by omega))]
          have hx : ¬ (4294967296 : Int) ≤ (q : Int) := by omega
          clear hg
          go_wp2_with (fail)
          go_loop [18, 16] (guessRel u21 y1 Q0) (fun a _ => (intOf a).toNat)
          case atStart =>
            have e1 := Nat.div_mul_le_self u21 y1
            have e2 := Nat.mod_lt u21 (show y1 > 0 by omega)
            have e3 := Nat.div_add_mod u21 y1
            rw [Nat.mul_comm] at e3
            rw [wq u21 y1 hu21, wm _ _ (by omega), ws _ _ hu21 e1]
            refine ⟨u21 / y1, u21 - u21 / y1 * y1, rfl, rfl, by omega, ?_, HUB0.out, by omega⟩
            rw [HQ0.out]
            exact guess_start _ _ _ _ hy1 hv0
          case round =>
            obtain ⟨q, r, rfl, rfl, hqr, hqQ, hqb, hrb⟩ := hrel
            have HQR := Lib.hid hqr; clear hqr
            by_cases hq : q ≤ Q0
            · obtain rfl : Q0 = q := by omega
              have hm := (guess_le (v := v0) (y0 := y0) HQR.out (by omega)).1 (by rw [← HQ0.out]; exact Nat.le_refl _)
              obtain ⟨m, hm2⟩ : ∃ m, m = Q0 * y0 := ⟨_, rfl⟩
              rw [← hm2] at hm
              have em : IntKind.u64.wrap ((Q0 : Int) * y0) = (m : Int) := by rw [hm2, wm _ _ (by omega)]
              have hx : ¬ (4294967296 ≤ (Q0 : Int)) := by omega
              have hy' : ¬ (4294967296 * (r : Int) + v0 < m) := by omega
              clear hm2 hqQ hq hm HQR hqb
              go_wp2_with (fail)
              go_ret2
              exact ⟨rfl, rfl⟩
            · obtain ⟨p, hp⟩ : ∃ p, q = p + 1 := ⟨q - 1, by omega⟩
              have hqr2 : p * y1 + (r + y1) = u21 := by have := HQR.out; rw [hp, Nat.add_mul, Nat.one_mul] at this; omega
              have hpy : p * y0 ≤ 4294967296 * 4294967295 := Nat.mul_le_mul (by omega) (by omega)
              have ep : IntKind.u64.wrap ((q : Int) - 1) = (p : Int) := by rw [show (q : Int) - 1 = (p : Int) by omega, wn _ (by omega)]
              have hnot : ¬ (q * y0 ≤ 4294967296 * r + v0) := fun hc => hq (by rw [HQ0.out]; exact (guess_le (v := v0) (y0 := y0) HQR.out (by omega)).2 hc)
              obtain ⟨m, hm2⟩ : ∃ m, m = q * y0 := ⟨_, rfl⟩
              have hmb : q < 4294967296 → m < 18446744073709551616 := fun h => by
                have : q * y0 ≤ 4294967295 * 4294967295 := Nat.mul_le_mul (by omega) (by omega)
                omega
              rw [← hm2] at hnot
              have hlt : 4294967296 * (r : Int) + v0 < m := by omega
              have HPY := Lib.hid hpy
              have HR2 := Lib.hid hqr2
              have HM := Lib.hid hm2
              have HMB := Lib.hid hmb
              have HP := Lib.hid hp
              have hpQ : Q0 ≤ p := by omega
              have hp3 : p ≤ 4294967296 := by omega
              clear hpy hqr2 hm2 hqQ hq hqb hnot HQR hmb hp
              by_cases hbr : 4294967296 ≤ r + y1
              · have hle := (guess_le (v := v0) (y0 := y0) HR2.out (by omega)).2 (by have := HPY.out; omega)
                rw [← HQ0.out] at hle
                obtain rfl : Q0 = p := by omega
                clear hle
                have hbi : (4294967296 : Int) ≤ (r : Int) + y1 := by omega
                clear hbr hpQ hp3
                by_cases hg : 4294967296 ≤ q
                · have hx : (4294967296 : Int) ≤ (q : Int) := by omega
                  clear hg hlt
                  go_wp2_with (fail)
                  go_ret2
                  exact ⟨rfl, rfl⟩
                · have em : IntKind.u64.wrap ((q : Int) * y0) = (m : Int) := by rw [HM.out, wm _ _ (by rw [← HM.out]; exact HMB.out (by omega))]
                  have hx : ¬ (4294967296 : Int) ≤ (q : Int) := by omega
                  clear hg
                  go_wp2_with (fail)
                  go_ret2
                  exact ⟨rfl, rfl⟩
              · have hbi : ¬ (4294967296 : Int) ≤ (r : Int) + y1 := by omega
                by_cases hg : 4294967296 ≤ q
                · have hx : (4294967296 : Int) ≤ (q : Int) := by omega
                  clear hg hlt
                  go_wp2_with (fail)
                  go_round
                  case rel => exact ⟨p, r + y1, rfl, by first | rfl | (congr 1), HR2.out, hpQ, by omega, by omega⟩
                  case measure => have := HP.out; simp [intOf]; omega
                · have em : IntKind.u64.wrap ((q : Int) * y0) = (m : Int) := by rw [HM.out, wm _ _ (by rw [← HM.out]; exact HMB.out (by omega))]
                  have hx : ¬ (4294967296 : Int) ≤ (q : Int) := by omega
                  clear hg
                  go_wp2_with (fail)
                  go_round
                  case rel => exact ⟨p, r + y1, rfl, by first | rfl | (congr 1), HR2.out, hpQ, by omega, by omega⟩
                  case measure => have := HP.out; simp [intOf]; omega
      · have hbi : ¬ (4294967296 : Int) ≤ (r : Int) + y1 := by omega
        by_cases hg : 4294967296 ≤ q
        · have hx : (4294967296 : Int) ≤ (q : Int) := by omega
          clear hg hlt
          go_wp2_with (fail)
          go_round
          case rel => exact ⟨p, r + y1, rfl, by first | rfl | (congr 1), HR2.out, hpQ, by omega, by omega⟩
          case measure => have := HP.out; simp [intOf]; omega
        · have em : IntKind.u64.wrap ((q : Int) * y0) = (m : Int) := by rw [HM.out, wm _ _ (by rw [← HM.out]; exact HMB.out (by omega))]
          have hx : ¬ (4294967296 : Int) ≤ (q : Int) := by omega
          clear hg
          go_wp2_with (fail)
          go_round
          case rel => exact ⟨p, r + y1, rfl, by first | rfl | (congr 1), HR2.out, hpQ, by omega, by omega⟩
          case measure => have := HP.out; simp [intOf]; omega
end Go.Proofs.Ytbjelggbnmfblaa
/- The library's division of 128 bits by 64, whole; and exact's own division of a product, and Scale. Conditions: the arguments are numbers of their kinds. -/
namespace Go.Proofs.Ytbjelggbnmfblaa
open Go.RowKit
theorem ex1 (a b c M : Nat) : (a * M + b) * c = a * c * M + b * c := by rw [Nat.add_mul, Nat.mul_right_comm]
theorem join3 {A hP lP u q v M : Nat} (h1 : A = hP * M + lP) (h2 : lP = q * M + v) (h3 : u = hP + q) : A = u * M + v := by
  rw [h1, h2, h3, Nat.add_mul, Nat.add_assoc]
theorem join4 {u v vh vl B Q1 Q0 Y u21 R : Nat} (hv : v = vh * B + vl) (h1 : u * B + vh = Q1 * Y + u21) (h2 : u21 * B + vl = Q0 * Y + R) : u * (B * B) + v = (Q1 * B + Q0) * Y + R := by
  have e : u * (B * B) + v = (u * B + vh) * B + vl := by rw [hv, Nat.add_mul, Nat.mul_assoc, Nat.add_assoc]
  rw [e, h1, Nat.add_mul, Nat.add_assoc, h2, ex1, Nat.add_assoc]
/-- The arithmetic of the library's text: P is the power of two by which the divisor is shifted, K what is left of 2 to the 64. -/
theorem knuth (h l y P K Y u v10 Q1 Q0 u21 R : Nat) (hP : 0 < P) (hPK : P * K = 18446744073709551616) (hY : Y = y * P) (hu : u = h * P + l / K) (hv : v10 = l * P % 18446744073709551616)
    (h1 : u * 4294967296 + v10 / 4294967296 = Q1 * Y + u21) (h2 : u21 * 4294967296 + v10 % 4294967296 = Q0 * Y + R) (hR : R < Y) :
    (h * 18446744073709551616 + l) / y = Q1 * 4294967296 + Q0 ∧ (h * 18446744073709551616 + l) % y = R / P := by
  have hK : 0 < K := by rcases Nat.eq_zero_or_pos K with e | e; · rw [e] at hPK; omega
                        · exact e
  have e1 : l * P / 18446744073709551616 = l / K := by
    rw [← hPK, Nat.mul_comm l P, Nat.mul_div_mul_left _ _ hP]
  have e2 : l * P = l / K * 18446744073709551616 + v10 := by
    have := Nat.div_add_mod (l * P) 18446744073709551616
    rw [e1] at this
    omega
  have e3 : (h * 18446744073709551616 + l) * P = u * 18446744073709551616 + v10 := join3 (ex1 _ _ _ _) e2 hu
  have e4 : u * 18446744073709551616 + v10 = (Q1 * 4294967296 + Q0) * Y + R := join4 (B := 4294967296) (by omega) h1 h2
  have e6 : (h * 18446744073709551616 + l) * P = (Q1 * 4294967296 + Q0) * y * P + R := by rw [e3, e4, hY, Nat.mul_assoc]
  have hdiv : P ∣ R := by
    have d1 : P ∣ (Q1 * 4294967296 + Q0) * y * P + R := by rw [← e6]; exact Nat.dvd_mul_left _ _
    exact (Nat.dvd_add_right (Nat.dvd_mul_left _ _)).1 d1
  obtain ⟨r, rfl⟩ := hdiv
  have hry : r < y := by
    rw [hY, Nat.mul_comm y P] at hR
    exact Nat.lt_of_mul_lt_mul_left hR
  have e7 : h * 18446744073709551616 + l = (Q1 * 4294967296 + Q0) * y + r := by
    apply Nat.eq_of_mul_eq_mul_right hP
    rw [e6, Nat.add_mul ((Q1 * 4294967296 + Q0) * y) r P, Nat.mul_comm P r]
  rw [e7, Nat.mul_div_cancel_left _ hP]
  exact ⟨by rw [Nat.add_comm, Nat.add_mul_div_right _ _ (by omega), Nat.div_eq_of_lt hry, Nat.zero_add], by rw [Nat.add_comm, Nat.add_mul_mod_self_right, Nat.mod_eq_of_lt hry]⟩
theorem digit_lt {u v Y : Nat} (hu : u < Y) (hv : v < 4294967296) : (u * 4294967296 + v) / Y < 4294967296 := by
  rw [Nat.div_lt_iff_lt_mul (by omega)]
  have : (u + 1) * 4294967296 ≤ Y * 4294967296 := Nat.mul_le_mul_right _ (by omega)
  rw [Nat.mul_comm 4294967296 Y]
  omega
theorem guess_top {u y1 y0 : Nat} (h1 : 2147483648 ≤ y1) (h0 : y0 < 4294967296) (hu : u < y1 * 4294967296 + y0) : u / y1 ≤ 4294967297 := by
  refine Nat.le_of_lt_succ ((Nat.div_lt_iff_lt_mul (by omega)).2 ?_)
  have : 4294967298 * y1 = y1 * 4294967296 + 2 * y1 := by omega
  omega
theorem wrap_rest {u v Q Y R : Nat} (hR : R < 18446744073709551616) (h : u * 4294967296 + v = Q * Y + R) :
    IntKind.u64.wrap (IntKind.u64.wrap (IntKind.u64.wrap ((u : Int) * 4294967296) + v) - IntKind.u64.wrap ((Q : Int) * Y)) = (R : Int) := by
  have e : (Q : Int) * Y = ((Q * Y : Nat) : Int) := by simp
  rw [e]
  simp only [IntKind.wrap_u64]
  omega
theorem mask_low (a : Nat) (ha : a < 18446744073709551616) : bits .and .u64 (a : Int) 4294967295 = ((a % 4294967296 : Nat) : Int) := by
  have h := bits_and_u64_nat a 4294967295 ha (by omega)
  have e : a &&& 4294967295 = a % 4294967296 := Nat.and_two_pow_sub_one_eq_mod a 32
  rw [e] at h
  exact h
theorem bit_len (y : Nat) (hy : 1 ≤ y) (hy2 : y < 18446744073709551616) : 1 ≤ Lib.bitLen y ∧ Lib.bitLen y ≤ 64 ∧ 2 ^ (Lib.bitLen y - 1) ≤ y ∧ y < 2 ^ Lib.bitLen y := by
  exact ⟨(Lib.bitLenAux_bounds 64 y hy2 (by omega)).1, Lib.bitLen_le y 64 (by omega) hy2, (Lib.bitLenAux_bounds 64 y hy2 (by omega)).2⟩
theorem div64_high (h l y : Nat) (hh : 1 ≤ h) (hy : h < y) (hl : l < 18446744073709551616) (hy2 : y < 18446744073709551616) (w : World) :
    Calls Try.prog 212 #[.int .u64 h, .int .u64 l, .int .u64 y] w fun e w' => e = .returned (.tuple #[.int .u64 (((h * 18446744073709551616 + l) / y : Nat) : Int), .int .u64 (((h * 18446744073709551616 + l) % y : Nat) : Int)]) ∧ w' = w := by
  obtain ⟨b1, b2, b3, b4⟩ := bit_len y (by omega) hy2
  obtain ⟨s, hs⟩ : ∃ s, s = 64 - Lib.bitLen y := ⟨_, rfl⟩
  obtain ⟨P, hP⟩ : ∃ P, P = 2 ^ s := ⟨_, rfl⟩
  obtain ⟨K, hK⟩ : ∃ K, K = 2 ^ (64 - s) := ⟨_, rfl⟩
  have hPK : P * K = 18446744073709551616 := by rw [hP, hK, ← Nat.pow_add, show s + (64 - s) = 64 by omega]
  have hPpos : 0 < P := by rw [hP]; exact Nat.two_pow_pos _
  have eK : K = 2 ^ Lib.bitLen y := by rw [hK]; congr 1; omega
  have hyK : y < K := by rw [eK]; exact b4
  have hKy : K ≤ 2 * y := by
    have : 2 ^ Lib.bitLen y = 2 * 2 ^ (Lib.bitLen y - 1) := by rw [← Nat.pow_succ']; congr 1; omega
    rw [eK]; omega
  have hYhi : y * P < 18446744073709551616 := by rw [← hPK, Nat.mul_comm P K]; exact Nat.mul_lt_mul_of_pos_right hyK hPpos
  have hYlo : 9223372036854775808 ≤ y * P := by
    have : K * P ≤ 2 * y * P := Nat.mul_le_mul_right _ hKy
    rw [Nat.mul_comm K P, hPK, Nat.mul_assoc] at this
    omega
  have hlK : l / K < P := by rw [Nat.div_lt_iff_lt_mul (by omega), hPK]; exact hl
  have hlK2 : l / K < 18446744073709551616 := Nat.lt_of_le_of_lt (Nat.div_le_self _ _) hl
  have hhP : h * P + P ≤ y * P := by
    have : (h + 1) * P ≤ y * P := Nat.mul_le_mul_right _ (by omega)
    rw [Nat.add_mul, Nat.one_mul] at this
    exact this
  obtain ⟨Y, hY⟩ : ∃ Y, Y = y * P := ⟨_, rfl⟩
  obtain ⟨u, hu⟩ : ∃ u, u = h * P + l / K := ⟨_, rfl⟩
  obtain ⟨v10, hv⟩ : ∃ v, v = l * P % 18446744073709551616 := ⟨_, rfl⟩
  have huY : u < Y := by omega
  have hYs : Y / 4294967296 * 4294967296 + Y % 4294967296 = Y := by omega
  have g1 : u * 4294967296 + v10 / 4294967296 = (u * 4294967296 + v10 / 4294967296) / Y * Y + (u * 4294967296 + v10 / 4294967296) % Y := (Nat.div_add_mod' _ _).symm
  obtain ⟨u21, hu21⟩ : ∃ z, z = (u * 4294967296 + v10 / 4294967296) % Y := ⟨_, rfl⟩
  obtain ⟨Q1, hQ1⟩ : ∃ z, z = (u * 4294967296 + v10 / 4294967296) / Y := ⟨_, rfl⟩
  rw [← hu21, ← hQ1] at g1
  have l21 : u21 < Y := by rw [hu21]; exact Nat.mod_lt _ (by omega)
  have g2 : u21 * 4294967296 + v10 % 4294967296 = (u21 * 4294967296 + v10 % 4294967296) / Y * Y + (u21 * 4294967296 + v10 % 4294967296) % Y := (Nat.div_add_mod' _ _).symm
  obtain ⟨R, hR⟩ : ∃ z, z = (u21 * 4294967296 + v10 % 4294967296) % Y := ⟨_, rfl⟩
  obtain ⟨Q0, hQ0⟩ : ∃ z, z = (u21 * 4294967296 + v10 % 4294967296) / Y := ⟨_, rfl⟩
  rw [← hR, ← hQ0] at g2
  have lR : R < Y := by rw [hR]; exact Nat.mod_lt _ (by omega)
  have hv10 : v10 < 18446744073709551616 := by rw [hv]; exact Nat.mod_lt _ (by omega)
  have key := knuth h l y P K Y u v10 Q1 Q0 u21 R hPpos hPK hY hu hv g1 g2 lR
  have cP : ((2 : Int) ^ s) = (P : Int) := by rw [hP]; simp
  have cK : ((2 : Int) ^ (64 - s)) = (K : Int) := by rw [hK]; simp
  have core := div64_core h l y Y u v10 (Y / 4294967296) (Y % 4294967296) (v10 / 4294967296) (v10 % 4294967296) s Q1 u21 Q0 hh hy hy2 (by omega)
    (by have : (y : Int).toNat = y := by omega
        rw [this]; omega)
    (by rw [cP, wm _ _ hYhi, hY]) (by omega) (mask_low Y (by omega))
    (by
      rw [cP, cK, wm _ _ (by omega), ← Int.natCast_ediv]
      have j := bits_join .u64 64 (by decide) wraps_u64 s ((h * P : Nat) : Int) ((l / K : Nat) : Int) (by omega) (by rw [cP, Int.natCast_mul]; exact Int.mul_emod_left _ _) (by omega) (Int.natCast_nonneg _) (by rw [cP]; exact_mod_cast hlK) (by exact_mod_cast hlK2)
      rw [j, hu]
      omega)
    (by rw [cP, IntKind.wrap_u64, hv]; simp) (by omega) (mask_low v10 hv10)
    (by omega) (by omega) (by omega) (by omega) (by omega) (by omega)
    (by rw [hYs]; exact hQ1) (by rw [hQ1]; exact digit_lt huY (by omega)) (guess_top (y0 := Y % 4294967296) (by omega) (by omega) (by omega))
    (wrap_rest (by omega) g1) (by omega) (by rw [hYs]; exact hQ0) (by rw [hQ0]; exact digit_lt l21 (by omega)) (guess_top (y0 := Y % 4294967296) (by omega) (by omega) (by omega)) w
  refine core.mono fun e w' he => ⟨?_, he.2⟩
  rw [he.1, wrap_rest (by omega) g2, cP, key.1, key.2]
  exact ret_uu (by omega) (by rw [← Int.natCast_ediv])
end Go.Proofs.Ytbjelggbnmfblaa
/- exact's own division of a product, and Scale and Mul. Conditions: the arguments are numbers of their kinds. -/
namespace Go.Proofs.Ytbjelggbnmfblaa
open Go.RowKit
theorem below_drewN {B : Nat} {a w : World} (h : Below B a w) (n : Nat) : Below B a (w.drewN n) := by
  induction n with
  | zero => exact h
  | succ k ih => exact ih.drew
theorem div64_any (h l y : Nat) (hy : h < y) (hl : l < 18446744073709551616) (hy2 : y < 18446744073709551616) (w : World) :
    Calls Try.prog 212 #[.int .u64 h, .int .u64 l, .int .u64 y] w fun e w' => e = .returned (.tuple #[.int .u64 (((h * 18446744073709551616 + l) / y : Nat) : Int), .int .u64 (((h * 18446744073709551616 + l) % y : Nat) : Int)]) ∧ Below w.heap.size w w' := by
  by_cases hh : 1 ≤ h
  · refine (div64_high h l y hh hy hl hy2 w).mono fun e w' he => ⟨he.1, ?_⟩
    rw [he.2]; exact Below.refl _ _
  · obtain rfl : h = 0 := by omega
    refine (div64_low l y hl (by omega) hy2 w).mono fun e w' he => ?_
    obtain ⟨h1, n, h2⟩ := he
    rw [h1, h2]
    exact ⟨ret_uu (by simp) (by simp), below_drewN (Below.refl _ _) n⟩
theorem div64_zero (l y : Nat) (hy : 1 ≤ y) (hl : l < 18446744073709551616) (hy2 : y < 18446744073709551616) (w : World) :
    Calls Try.prog 212 #[.int .u64 0, .int .u64 l, .int .u64 y] w fun e w' => e = .returned (.tuple #[.int .u64 ((l / y : Nat) : Int), .int .u64 ((l % y : Nat) : Int)]) ∧ Below w.heap.size w w' := by
  refine (div64_low l y hl hy hy2 w).mono fun e w' he => ?_
  obtain ⟨h1, n, h2⟩ := he
  rw [h1, h2]
  exact ⟨rfl, below_drewN (Below.refl _ _) n⟩
theorem Pair.high {w : World} {B : Nat} {x y : Value} (h : Pair w B x y) (v : Value) : Pair (w.setCell ⟨B, 0, none⟩ v) B v y := by
  obtain ⟨a, b, c, d⟩ := h
  exact ⟨World.cell?_setCell_same _ _ _ a, (World.cell?_setCell_other _ _ _ _ (by simp)).trans b, by rw [World.frozen?_setCell]; exact c, by rw [World.frozen?_setCell]; exact d⟩
theorem Pair.highOther {w : World} {B C : Nat} {x y : Value} (h : Pair w B x y) (hne : B ≠ C) (v : Value) : Pair (w.setCell ⟨C, 0, none⟩ v) B x y := by
  obtain ⟨a, b, c, d⟩ := h
  have n : ∀ o p, (⟨C, o, none⟩ : Addr) ≠ ⟨B, p, none⟩ := fun o p e => hne (by simpa using (congrArg Addr.block e).symm)
  exact ⟨(World.cell?_setCell_other _ _ _ _ (n _ _)).trans a, (World.cell?_setCell_other _ _ _ _ (n _ _)).trans b, by rw [World.frozen?_setCell]; exact c, by rw [World.frozen?_setCell]; exact d⟩
theorem two_digits (H L d : Nat) (hL : L < 18446744073709551616) (hd : 0 < d) :
    (H * 18446744073709551616 + L) / d = H / d * 18446744073709551616 + (H % d * 18446744073709551616 + L) / d ∧ (H * 18446744073709551616 + L) % d = (H % d * 18446744073709551616 + L) % d ∧ (H % d * 18446744073709551616 + L) / d < 18446744073709551616 := by
  have e : H * 18446744073709551616 + L = (H % d * 18446744073709551616 + L) + d * (H / d * 18446744073709551616) := by
    have h1 := Nat.div_add_mod H d
    have h2 : d * (H / d * 18446744073709551616) = d * (H / d) * 18446744073709551616 := (Nat.mul_assoc _ _ _).symm
    omega
  have hm := Nat.mod_lt H hd
  refine ⟨by rw [e, Nat.add_mul_div_left _ _ hd, Nat.add_comm], by rw [e, Nat.add_mul_mod_self_left], ?_⟩
  rw [Nat.div_lt_iff_lt_mul hd]
  have : (H % d + 1) * 18446744073709551616 ≤ d * 18446744073709551616 := Nat.mul_le_mul_right _ (by omega)
  rw [Nat.mul_comm 18446744073709551616 d]
  omega
set_option maxHeartbeats 400000 in
theorem divide_ex (H L d : Nat) (hH : H < 18446744073709551616) (hL : L < 18446744073709551616) (hd1 : 1 ≤ d) (hd : d < 18446744073709551616) (w : World) :
    Calls Try.prog 189 #[.agg #[.int .u64 H, .int .u64 L], .int .u64 d] w fun e w' => e = .returned (.tuple #[wideV ((H * 18446744073709551616 + L) / d), .int .u64 (((H * 18446744073709551616 + L) % d : Nat) : Int)]) ∧ Below w.heap.size w w' := by
  obtain ⟨q1, hq1⟩ : ∃ q, q = H / d := ⟨_, rfl⟩
  obtain ⟨r1, hr1⟩ : ∃ q, q = H % d := ⟨_, rfl⟩
  obtain ⟨q2, hq2⟩ : ∃ q, q = (r1 * 18446744073709551616 + L) / d := ⟨_, rfl⟩
  obtain ⟨r2, hr2⟩ : ∃ q, q = (r1 * 18446744073709551616 + L) % d := ⟨_, rfl⟩
  have hr1d : r1 < d := by rw [hr1]; exact Nat.mod_lt _ (by omega)
  have call1 := fun w => div64_zero H d hd1 hH hd w
  have call2 := fun w => div64_any r1 L d hr1d hL hd w
  obtain ⟨s1, s2, s3⟩ := two_digits H L d hL (by omega)
  rw [← hr1, ← hq2, ← hq1] at s1
  rw [← hr1, ← hr2] at s2
  rw [← hr1, ← hq2] at s3
  rw [s1, s2]
  rw [← hq1, ← hr1] at call1
  rw [← hq2, ← hr2] at call2
  have C1 := Lib.hid call1
  have C2 := Lib.hid call2
  clear hq1 hr1 hq2 hr2 call1 call2 s1 s2
  go_enter Try.func189, Try.ntmps189
  go_wp2
  refine wp_scope_jumps 0 (fun a' w' => ∃ u7 u8 u9 u10 u11 u12 u13 u14 u15 u16 u17 u18 u19 u20 u21 : Value, a' = { tmps := #[.agg #[.int .u64 H, .int .u64 L], .int .u64 d, .pointer (some ⟨w.heap.size, 0, none⟩), undef, .pointer (some ⟨w.heap.size + 1, 0, none⟩), .int .u64 r1, .int .i64 1, u7, u8, u9, u10, u11, u12, u13, u14, u15, u16, u17, u18, u19, u20, u21, undef, undef], defers := [] }
      ∧ Pair w' (w.heap.size + 1) (.int .u64 q1) (.int .u64 0) ∧ Pair w' w.heap.size (.int .u64 H) (.int .u64 L) ∧ w.heap.size + 2 ≤ w'.heap.size ∧ Below w.heap.size w w') (fun _ _ => 0) rfl ?_ ?_
  · go_wp2
    go_step3
    go_wp2_with (fail)
    refine (C1.out _).mono ?_
    rintro e w1 ⟨rfl, hb1⟩
    have z : w.heap.size + 2 = ((w.alloc (.cells #[.int .u64 H, .int .u64 L] 269)).alloc (.cells #[.int .u64 0, .int .u64 0] 269)).heap.size := by simp
    have HA := Lib.hid (((Pair.new w (.int .u64 H) (.int .u64 L) 269 rfl).more (by simp) (.cells #[.int .u64 0, .int .u64 0] 269)).keep hb1 (by omega))
    obtain ⟨c0, c1, f0, f1⟩ := (Pair.new (w.alloc (.cells #[.int .u64 H, .int .u64 L] 269)) (.int .u64 0) (.int .u64 0) 269 (B := w.heap.size + 1) (by simp)).keep hb1 (by omega)
    have hs1 : w.heap.size + 2 ≤ w1.heap.size := by have := hb1.size; omega
    have HB := Lib.hid ((((Below.refl w.heap.size w).alloc (Nat.le_refl _) (.cells #[.int .u64 H, .int .u64 L] 269)).alloc (by simp) (.cells #[.int .u64 0, .int .u64 0] 269)).trans (hb1.mono (by omega)))
    clear z hb1
    go_wp2_with (fail)
    go_step3
    exact ⟨rfl, _, _, _, _, _, _, _, _, _, _, _, _, _, _, _, rfl, Pair.high ⟨c0, c1, f0, f1⟩ _, HA.out.highOther (by omega) _, by rw [setCell_size]; exact hs1, HB.out.setCell (p := ⟨w.heap.size + 1, 0, none⟩) (Nat.le_succ _) _⟩
  · rintro a' w1 ⟨u7, u8, u9, u10, u11, u12, u13, u14, u15, u16, u17, u18, u19, u20, u21, rfl, hp, ha, hs1, hb1⟩
    obtain ⟨a0, a1, af0, af1⟩ := ha
    have HP := Lib.hid hp; clear hp
    have HB := Lib.hid hb1; clear hb1
    go_wp2_with (fail)
    refine (C2.out _).mono ?_
    rintro e w2 ⟨rfl, hb2⟩
    obtain ⟨c0, c1, f0, f1⟩ := HP.out.keep hb2 (by omega)
    have hs2 : w.heap.size + 2 ≤ w2.heap.size := by have := hb2.size; omega
    have HB2 := Lib.hid (HB.out.trans (hb2.mono (by omega)))
    clear hb2 a0 a1 af0 af1 hs1
    go_wp2_with (fail)
    simp only [Exit.jump]
    refine bodyPost_ret (v := .tuple #[.agg #[.int .u64 q1, .int .u64 q2], .int .u64 r2]) (by simp [results, Try.results189, go_sem, c0, c1]) rfl ⟨?_, (below_two (HB2.out.setCell (p := ⟨w.heap.size + 1, 1, none⟩) (Nat.le_succ _) _) (Nat.le_succ _) _ _)⟩
    rw [wide_eq (n := q1 * 18446744073709551616 + q2) (by omega) (by omega)]
end Go.Proofs.Ytbjelggbnmfblaa
/- What Scale and Mul of package exact, and the document's own, return: the product divided, rounded down, or 0, false. Conditions: the arguments are numbers of 64 bits. -/
namespace Go.Proofs.Ytbjelggbnmfblaa
open Go.RowKit
/-- Is just one of both below 0? -/
def belowB (a b : Int) : Bool := !(decide (a < 0) == decide (b < 0))
theorem prod_sign (a b : Int) : a * b = signV (belowB a b) ((a.natAbs * b.natAbs : Nat) : Int) := by
  have h : ∀ x : Int, (x < 0 → x = -(x.natAbs : Int)) ∧ (¬ x < 0 → x = (x.natAbs : Int)) := fun x => ⟨by omega, by omega⟩
  unfold belowB
  rw [Int.natCast_mul]
  by_cases ha : a < 0 <;> by_cases hb : b < 0
  · rw [decide_eq_true ha, decide_eq_true hb]
    show a * b = (a.natAbs : Int) * (b.natAbs : Int)
    rw [← Int.neg_mul_neg, ← (show -a = (a.natAbs : Int) by omega), ← (show -b = (b.natAbs : Int) by omega)]
  · rw [decide_eq_true ha, decide_eq_false hb]
    show a * b = -((a.natAbs : Int) * (b.natAbs : Int))
    rw [← Int.neg_mul, ← (show a = -(a.natAbs : Int) by omega), ← (show b = (b.natAbs : Int) by omega)]
  · rw [decide_eq_false ha, decide_eq_true hb]
    show a * b = -((a.natAbs : Int) * (b.natAbs : Int))
    rw [← Int.mul_neg, ← (show a = (a.natAbs : Int) by omega), ← (show b = -(b.natAbs : Int) by omega)]
  · rw [decide_eq_false ha, decide_eq_false hb]
    show a * b = (a.natAbs : Int) * (b.natAbs : Int)
    rw [← (show a = (a.natAbs : Int) by omega), ← (show b = (b.natAbs : Int) by omega)]
theorem floor_up (N d : Nat) (hd : 0 < d) : ((N : Int) / d = ((N / d : Nat) : Int)) ∧ (N % d = 0 → -(N : Int) / d = -((N / d : Nat) : Int)) ∧ (0 < N % d → -(N : Int) / d = -(((N / d : Nat) : Int) + 1)) := by
  have e := Nat.div_add_mod N d
  have e2 : (d : Int) * ((N / d : Nat) : Int) + ((N % d : Nat) : Int) = N := by rw [← Int.natCast_mul, ← Int.natCast_add, e]
  have hl := Nat.mod_lt N hd
  refine ⟨by rw [Int.natCast_ediv], fun h => ?_, fun h => ?_⟩
  · refine ((Int.ediv_emod_unique (a := -(N : Int)) (b := d) (r := 0) (by omega)).2 ⟨?_, by omega, by omega⟩).1
    rw [Int.mul_neg]; omega
  · refine ((Int.ediv_emod_unique (a := -(N : Int)) (b := d) (r := (d : Int) - ((N % d : Nat) : Int)) (by omega)).2 ⟨?_, by omega, by omega⟩).1
    rw [Int.mul_neg, Int.mul_add, Int.mul_one]; omega
def scaleV (a num den : Int) : Value := if den < 1 then noV else okV (a * num / den)
theorem scaleV_no {a num den : Int} (h : den < 1) : scaleV a num den = noV := if_pos h
theorem scaleV_yes {a num den : Int} (h : ¬ den < 1) : scaleV a num den = okV (a * num / den) := if_neg h
/-- The quotient rounded down, by its size and sign. -/
def downN (c : Bool) (N d : Nat) : Nat := if c = true ∧ 0 < N % d then N / d + 1 else N / d
theorem down_eq (a num : Int) (d : Nat) (hd : 0 < d) : a * num / (d : Int) = signV (belowB a num) (downN (belowB a num) (a.natAbs * num.natAbs) d : Int) := by
  obtain ⟨h1, h2, h3⟩ := floor_up (a.natAbs * num.natAbs) d hd
  rw [prod_sign]
  unfold downN
  cases belowB a num
  · rw [if_neg (by simp)]; exact h1
  · by_cases hr : 0 < a.natAbs * num.natAbs % d
    · rw [if_pos ⟨rfl, hr⟩]; exact h3 hr
    · rw [if_neg (fun h => hr h.2)]; exact h2 (by omega)
theorem abs_prod (a b : Int) (ha : -9223372036854775808 ≤ a ∧ a ≤ 9223372036854775807) (hb : -9223372036854775808 ≤ b ∧ b ≤ 9223372036854775807) : a.natAbs * b.natAbs ≤ 85070591730234615865843651857942052864 := by
  have : a.natAbs * b.natAbs ≤ 9223372036854775808 * 9223372036854775808 := Nat.mul_le_mul (by omega) (by omega)
  exact this
theorem halves_of (N : Nat) (h : N < 340282366920938463463374607431768211456) : ∃ hi lo : Nat, N = hi * 18446744073709551616 + lo ∧ hi < 18446744073709551616 ∧ lo < 18446744073709551616 ∧ wideV N = .agg #[.int .u64 hi, .int .u64 lo] :=
  ⟨N / 18446744073709551616, N % 18446744073709551616, by omega, by omega, by omega, rfl⟩
set_option maxHeartbeats 400000 in
theorem scale_rf (a num den : Int) (ha : -9223372036854775808 ≤ a ∧ a ≤ 9223372036854775807) (hb : -9223372036854775808 ≤ num ∧ num ≤ 9223372036854775807) (hd : -9223372036854775808 ≤ den ∧ den ≤ 9223372036854775807) (w : World) :
    Calls Try.prog 169 #[.int .i64 a, .int .i64 num, .int .i64 den] w fun e w' => e = .returned (scaleV a num den) ∧ Below w.heap.size w w' := by
  by_cases hden : den < 1
  · rw [scaleV_no hden]
    go_enter Try.func169, Try.ntmps169
    go_wp2
    go_ret2
    exact ⟨rfl, Below.refl _ _⟩
  · rw [scaleV_yes hden]
    obtain ⟨d, rfl⟩ : ∃ d : Nat, den = d := ⟨den.toNat, by omega⟩
    have ct := fun w => times_rf a.natAbs num.natAbs (by omega) (by omega) w
    have hN := abs_prod a num ha hb
    obtain ⟨hi, lo, h1, h2, h3, h4⟩ := halves_of (a.natAbs * num.natAbs) (by omega)
    rw [h4] at ct
    have co := fun w => over_rf hi lo d h2 h3 (by omega) (by omega) w
    rw [← h1] at co
    have hQ : a.natAbs * num.natAbs / d ≤ a.natAbs * num.natAbs := Nat.div_le_self _ _
    obtain ⟨qh, ql, q1, q2, q3, q4⟩ := halves_of (a.natAbs * num.natAbs / d) (by omega)
    rw [q4] at co
    have hqh : qh ≤ 9223372036854775807 := by omega
    obtain ⟨R, hR⟩ : ∃ R, R = a.natAbs * num.natAbs % d := ⟨_, rfl⟩
    have hRd : R < d := by rw [hR]; exact Nat.mod_lt _ (by omega)
    rw [← hR] at co
    have dn := down_eq a num d (by omega)
    unfold downN at dn
    rw [← hR, q1] at dn
    have CT := Lib.hid ct
    have CO := Lib.hid co
    have DN := Lib.hid dn
    clear ct co dn hN hQ h1 h4 q1 q4 hR
    have cp := fun w => plus_rf (qh : Int) (ql : Int) 1 (by omega) (by omega) (by omega) w
    have CP := Lib.hid cp; clear cp
    by_cases hbel : (!(decide (a < 0) == decide (num < 0))) = true
    · by_cases hr : 0 < R
      · have dn := DN.out
        rw [show belowB a num = true from hbel, if_pos ⟨rfl, hr⟩] at dn
        have cs := fun w => signed_rf ((qh : Int) + (ql + 1) / 18446744073709551616) (((ql : Int) + 1) % 18446744073709551616) true (by omega) (by omega) w
        rw [show ((qh : Int) + (ql + 1) / 18446744073709551616) * 18446744073709551616 + ((ql : Int) + 1) % 18446744073709551616 = ((qh * 18446744073709551616 + ql + 1 : Nat) : Int) by omega, ← dn] at cs
        have CS := Lib.hid cs
        clear cs dn DN
        go_enter Try.func169, Try.ntmps169
        go_wp2_with (fail)
        refine (size_rf a ha _).mono ?_
        rintro e w1 ⟨rfl, rfl⟩
        go_wp2_with (fail)
        refine (size_rf num hb _).mono ?_
        rintro e w1 ⟨rfl, rfl⟩
        go_wp2_with (fail)
        refine (CT.out _).mono ?_
        rintro e w1 ⟨rfl, hb1⟩
        have HB := Lib.hid hb1; clear hb1
        go_wp2_with (fail)
        refine (CO.out _).mono ?_
        rintro e w2 ⟨rfl, hb2⟩
        have HB2 := Lib.hid (HB.out.trans (hb2.mono HB.out.size)); clear hb2 HB
        go_wp2_with (fail)
        refine (CP.out _).mono ?_
        rintro e w3 ⟨rfl, hb3⟩
        have zz : (w2.alloc (.cells #[.int .u64 qh, .int .u64 ql] 276)).heap.size = w2.heap.size + 1 := by simp
        obtain ⟨c0, c1, f0, f1⟩ := (Pair.new w2 (.int .u64 qh) (.int .u64 ql) 276 rfl).keep hb3 (by omega)
        have HB3 := Lib.hid (below_two ((HB2.out.alloc HB2.out.size (.cells #[.int .u64 qh, .int .u64 ql] 276)).trans (hb3.mono (by have := HB2.out.size; omega))) (C := w2.heap.size) HB2.out.size (.int .u64 (qh + (ql + 1) / 18446744073709551616)) (.int .u64 ((ql + 1) % 18446744073709551616)))
        clear zz hb3 HB2
        go_wp2_with (fail)
        refine (CS.out _).mono ?_
        rintro e w4 ⟨rfl, hb4⟩
        have HB4 := Lib.hid (HB3.out.trans (hb4.mono HB3.out.size)); clear hb4 HB3
        unfold okV
        go_wp2_with (fail)
        go_ret2
        exact ⟨rfl, HB4.out⟩
      · have dn := DN.out
        rw [show belowB a num = true from hbel, if_neg (fun h => hr h.2)] at dn
        have cs := fun w => signed_rf (qh : Int) (ql : Int) true (by omega) (by omega) w
        rw [show (qh : Int) * 18446744073709551616 + (ql : Int) = ((qh * 18446744073709551616 + ql : Nat) : Int) by omega, ← dn] at cs
        have CS := Lib.hid cs
        obtain rfl : R = 0 := by omega
        clear cs dn DN hr
        go_enter Try.func169, Try.ntmps169
        go_wp2_with (fail)
        refine (size_rf a ha _).mono ?_
        rintro e w1 ⟨rfl, rfl⟩
        go_wp2_with (fail)
        refine (size_rf num hb _).mono ?_
        rintro e w1 ⟨rfl, rfl⟩
        go_wp2_with (fail)
        refine (CT.out _).mono ?_
        rintro e w1 ⟨rfl, hb1⟩
        have HB := Lib.hid hb1; clear hb1
        go_wp2_with (fail)
        refine (CO.out _).mono ?_
        rintro e w2 ⟨rfl, hb2⟩
        have HB2 := Lib.hid (HB.out.trans (hb2.mono HB.out.size)); clear hb2 HB
        have HB3 := Lib.hid (HB2.out.alloc HB2.out.size (.cells #[.int .u64 qh, .int .u64 ql] 276)); clear HB2
        go_wp2_with (fail)
        refine (CS.out _).mono ?_
        rintro e w4 ⟨rfl, hb4⟩
        have HB4 := Lib.hid (HB3.out.trans (hb4.mono HB3.out.size)); clear hb4 HB3
        unfold okV
        go_wp2_with (fail)
        go_ret2
        exact ⟨rfl, HB4.out⟩
    · have hbf : (!(decide (a < 0) == decide (num < 0))) = false := by simpa using hbel
      have dn := DN.out
      rw [show belowB a num = false from hbf, if_neg (by simp)] at dn
      have cs := fun w => signed_rf (qh : Int) (ql : Int) false (by omega) (by omega) w
      rw [show (qh : Int) * 18446744073709551616 + (ql : Int) = ((qh * 18446744073709551616 + ql : Nat) : Int) by omega, ← dn] at cs
      have CS := Lib.hid cs
      clear cs dn DN hbel
      go_enter Try.func169, Try.ntmps169
      go_wp2_with (fail)
      refine (size_rf a ha _).mono ?_
      rintro e w1 ⟨rfl, rfl⟩
      go_wp2_with (fail)
      refine (size_rf num hb _).mono ?_
      rintro e w1 ⟨rfl, rfl⟩
      go_wp2_with (fail)
      refine (CT.out _).mono ?_
      rintro e w1 ⟨rfl, hb1⟩
      have HB := Lib.hid hb1; clear hb1
      go_wp2_with (fail)
      refine (CO.out _).mono ?_
      rintro e w2 ⟨rfl, hb2⟩
      have HB2 := Lib.hid (HB.out.trans (hb2.mono HB.out.size)); clear hb2 HB
      have HB3 := Lib.hid (HB2.out.alloc HB2.out.size (.cells #[.int .u64 qh, .int .u64 ql] 276)); clear HB2
      go_wp2_with (fail)
      refine (CS.out _).mono ?_
      rintro e w4 ⟨rfl, hb4⟩
      have HB4 := Lib.hid (HB3.out.trans (hb4.mono HB3.out.size)); clear hb4 HB3
      unfold okV
      go_wp2_with (fail)
      go_ret2
      exact ⟨rfl, HB4.out⟩
end Go.Proofs.Ytbjelggbnmfblaa
/- What Scale and Mul of package exact return: the product divided, rounded down, or 0, false. Conditions: the arguments are numbers of 64 bits. -/
namespace Go.Proofs.Ytbjelggbnmfblaa
open Go.RowKit
theorem ok_over {c : Bool} {n : Int} (h : 9223372036854775808 < n) : okV (signV c n) = noV := by
  unfold okV
  cases c
  · rw [signV_f, fit_no (by omega), cut_no (by omega)]; rfl
  · rw [signV_t, fit_no (by omega), cut_no (by omega)]; rfl
set_option maxHeartbeats 400000 in
theorem scale_ex (a num den : Int) (ha : -9223372036854775808 ≤ a ∧ a ≤ 9223372036854775807) (hb : -9223372036854775808 ≤ num ∧ num ≤ 9223372036854775807) (hd : -9223372036854775808 ≤ den ∧ den ≤ 9223372036854775807) (w : World) :
    Calls Try.prog 166 #[.int .i64 a, .int .i64 num, .int .i64 den] w fun e w' => e = .returned (scaleV a num den) ∧ Below w.heap.size w w' := by
  by_cases hden : den < 1
  · rw [scaleV_no hden]
    go_enter Try.func166, Try.ntmps166
    go_wp2
    go_ret2
    exact ⟨rfl, Below.refl _ _⟩
  · rw [scaleV_yes hden]
    obtain ⟨d, rfl⟩ : ∃ d : Nat, den = d := ⟨den.toNat, by omega⟩
    have ct := fun w => multiply_ex a.natAbs num.natAbs (by omega) (by omega) w
    have hN := abs_prod a num ha hb
    obtain ⟨hi, lo, h1, h2, h3, h4⟩ := halves_of (a.natAbs * num.natAbs) (by omega)
    rw [h4] at ct
    have co := fun w => divide_ex hi lo d h2 h3 (by omega) (by omega) w
    rw [← h1] at co
    have hQ : a.natAbs * num.natAbs / d ≤ a.natAbs * num.natAbs := Nat.div_le_self _ _
    obtain ⟨qh, ql, q1, q2, q3, q4⟩ := halves_of (a.natAbs * num.natAbs / d) (by omega)
    rw [q4] at co
    obtain ⟨R, hR⟩ : ∃ R, R = a.natAbs * num.natAbs % d := ⟨_, rfl⟩
    have hRd : R < d := by rw [hR]; exact Nat.mod_lt _ (by omega)
    rw [← hR] at co
    have dn := down_eq a num d (by omega)
    unfold downN at dn
    rw [← hR, q1] at dn
    have CT := Lib.hid ct
    have CO := Lib.hid co
    have DN := Lib.hid dn
    clear ct co dn hN hQ h1 h4 q1 q4 hR
    by_cases hz : qh = 0
    · subst hz
      by_cases hql : ql ≤ 9223372036854775808
      · by_cases hbel : (!(decide (a < 0) == decide (num < 0))) = true
        · by_cases hr : 0 < R
          · have dn := DN.out
            rw [show belowB a num = true from hbel, if_pos ⟨rfl, hr⟩] at dn
            have cs := fun w => signed_ex true ((ql : Int) + 1) (by omega) w
            rw [show (ql : Int) + 1 = ((0 * 18446744073709551616 + ql + 1 : Nat) : Int) by omega, ← dn, show ((0 * 18446744073709551616 + ql + 1 : Nat) : Int) = (ql : Int) + 1 by omega] at cs
            have CS := Lib.hid cs
            clear cs dn DN
            go_enter Try.func166, Try.ntmps166
            go_wp2_with (fail)
            refine (size_ex a ha _).mono ?_
            rintro e w1 ⟨rfl, rfl⟩
            go_wp2_with (fail)
            refine (size_ex num hb _).mono ?_
            rintro e w1 ⟨rfl, rfl⟩
            go_wp2_with (fail)
            refine (CT.out _).mono ?_
            rintro e w1 ⟨rfl, hb1⟩
            have HB := Lib.hid hb1; clear hb1
            go_wp2_with (fail)
            refine (CO.out _).mono ?_
            rintro e w2 ⟨rfl, hb2⟩
            have HB2 := Lib.hid (HB.out.trans (hb2.mono HB.out.size)); clear hb2 HB
            go_wp2_with (fail)
            refine (CS.out _).mono ?_
            rintro e w4 ⟨rfl, rfl⟩
            unfold okV
            go_wp2_with (fail)
            go_ret2
            exact ⟨rfl, HB2.out.alloc HB2.out.size _⟩
          · have dn := DN.out
            rw [show belowB a num = true from hbel, if_neg (fun h => hr h.2)] at dn
            have cs := fun w => signed_ex true (ql : Int) (by omega) w
            rw [show (ql : Int) = ((0 * 18446744073709551616 + ql : Nat) : Int) by omega, ← dn, show ((0 * 18446744073709551616 + ql : Nat) : Int) = (ql : Int) by omega] at cs
            have CS := Lib.hid cs
            obtain rfl : R = 0 := by omega
            clear cs dn DN hr
            go_enter Try.func166, Try.ntmps166
            go_wp2_with (fail)
            refine (size_ex a ha _).mono ?_
            rintro e w1 ⟨rfl, rfl⟩
            go_wp2_with (fail)
            refine (size_ex num hb _).mono ?_
            rintro e w1 ⟨rfl, rfl⟩
            go_wp2_with (fail)
            refine (CT.out _).mono ?_
            rintro e w1 ⟨rfl, hb1⟩
            have HB := Lib.hid hb1; clear hb1
            go_wp2_with (fail)
            refine (CO.out _).mono ?_
            rintro e w2 ⟨rfl, hb2⟩
            have HB2 := Lib.hid (HB.out.trans (hb2.mono HB.out.size)); clear hb2 HB
            go_wp2_with (fail)
            refine (CS.out _).mono ?_
            rintro e w4 ⟨rfl, rfl⟩
            unfold okV
            go_wp2_with (fail)
            go_ret2
            exact ⟨rfl, HB2.out.alloc HB2.out.size _⟩
        · have hbf : (!(decide (a < 0) == decide (num < 0))) = false := by simpa using hbel
          have dn := DN.out
          rw [show belowB a num = false from hbf, if_neg (by simp)] at dn
          have cs := fun w => signed_ex false (ql : Int) (by omega) w
          rw [show (ql : Int) = ((0 * 18446744073709551616 + ql : Nat) : Int) by omega, ← dn, show ((0 * 18446744073709551616 + ql : Nat) : Int) = (ql : Int) by omega] at cs
          have CS := Lib.hid cs
          clear cs dn DN hbel
          go_enter Try.func166, Try.ntmps166
          go_wp2_with (fail)
          refine (size_ex a ha _).mono ?_
          rintro e w1 ⟨rfl, rfl⟩
          go_wp2_with (fail)
          refine (size_ex num hb _).mono ?_
          rintro e w1 ⟨rfl, rfl⟩
          go_wp2_with (fail)
          refine (CT.out _).mono ?_
          rintro e w1 ⟨rfl, hb1⟩
          have HB := Lib.hid hb1; clear hb1
          go_wp2_with (fail)
          refine (CO.out _).mono ?_
          rintro e w2 ⟨rfl, hb2⟩
          have HB2 := Lib.hid (HB.out.trans (hb2.mono HB.out.size)); clear hb2 HB
          go_wp2_with (fail)
          refine (CS.out _).mono ?_
          rintro e w4 ⟨rfl, rfl⟩
          unfold okV
          go_wp2_with (fail)
          go_ret2
          exact ⟨rfl, HB2.out.alloc HB2.out.size _⟩
      · have dn := DN.out
        have dn2 : okV (a * num / d) = noV := by
          rw [dn]
          exact ok_over (by split <;> omega)
        rw [dn2]
        have DN2 := Lib.hid dn2
        clear dn dn2 DN
        go_enter Try.func166, Try.ntmps166
        go_wp2_with (fail)
        refine (size_ex a ha _).mono ?_
        rintro e w1 ⟨rfl, rfl⟩
        go_wp2_with (fail)
        refine (size_ex num hb _).mono ?_
        rintro e w1 ⟨rfl, rfl⟩
        go_wp2_with (fail)
        refine (CT.out _).mono ?_
        rintro e w1 ⟨rfl, hb1⟩
        have HB := Lib.hid hb1; clear hb1
        go_wp2_with (fail)
        refine (CO.out _).mono ?_
        rintro e w2 ⟨rfl, hb2⟩
        have HB2 := Lib.hid (HB.out.trans (hb2.mono HB.out.size)); clear hb2 HB
        go_wp2
        go_ret2
        exact ⟨rfl, HB2.out.alloc HB2.out.size _⟩
    · have hz2 : ((qh : Int) == 0) = false := by simp; omega
      have dn := DN.out
      have dn2 : okV (a * num / d) = noV := by
        rw [dn]
        exact ok_over (by split <;> omega)
      rw [dn2]
      have DN2 := Lib.hid dn2
      clear dn dn2 DN
      go_enter Try.func166, Try.ntmps166
      go_wp2_with (fail)
      refine (size_ex a ha _).mono ?_
      rintro e w1 ⟨rfl, rfl⟩
      go_wp2_with (fail)
      refine (size_ex num hb _).mono ?_
      rintro e w1 ⟨rfl, rfl⟩
      go_wp2_with (fail)
      refine (CT.out _).mono ?_
      rintro e w1 ⟨rfl, hb1⟩
      have HB := Lib.hid hb1; clear hb1
      go_wp2_with (fail)
      refine (CO.out _).mono ?_
      rintro e w2 ⟨rfl, hb2⟩
      have HB2 := Lib.hid (HB.out.trans (hb2.mono HB.out.size)); clear hb2 HB
      go_wp2
      go_ret2
      exact ⟨rfl, HB2.out.alloc HB2.out.size _⟩
theorem ret_ib {a c : Int} (d : Bool) (h1 : a = c) : Ending.returned (.tuple #[.int .i64 a, .bool d]) = .returned (.tuple #[.int .i64 c, .bool d]) := by rw [h1]
theorem mul_ex (a b : Int) (ha : -9223372036854775808 ≤ a ∧ a ≤ 9223372036854775807) (hb : -9223372036854775808 ≤ b ∧ b ≤ 9223372036854775807) (w : World) :
    Calls Try.prog 164 #[.int .i64 a, .int .i64 b] w fun e w' => e = .returned (okV (a * b)) ∧ Below w.heap.size w w' := by
  have cs := fun w => scale_ex a b 1 ha hb (by omega) w
  rw [scaleV_yes (by omega), Int.ediv_one] at cs
  have CS := Lib.hid cs; clear cs
  go_enter Try.func164, Try.ntmps164
  go_wp2_with (fail)
  refine (CS.out _).mono ?_
  rintro e w4 ⟨rfl, hb4⟩
  unfold okV
  go_wp2_with (fail)
  go_ret2
  exact ⟨rfl, hb4⟩
theorem dist_ex (a b : Int) (ha : -9223372036854775808 ≤ a ∧ a ≤ 9223372036854775807) (hb : -9223372036854775808 ≤ b ∧ b ≤ 9223372036854775807) (w : World) :
    Calls Try.prog 198 #[.int .i64 a, .int .i64 b] w fun e w' => e = .returned (okV (if a < b then b - a else a - b)) ∧ w = w' := by
  have e : max a b - min a b = if a < b then b - a else a - b := by split <;> omega
  rw [← e]
  have CS := Lib.hid (fun w => sub_ex (max a b) (min a b) (by omega) (by omega) w); clear e
  go_enter Try.func198, Try.ntmps198
  go_wp2_with (fail)
  refine (CS.out _).mono ?_
  rintro e w4 ⟨rfl, rfl⟩
  unfold okV
  go_wp2_with (fail)
  go_ret2
  exact ⟨rfl, rfl⟩
end Go.Proofs.Ytbjelggbnmfblaa
