/- What multiply, the document's own signed, double and plus return. Conditions: the arguments are numbers of their kinds. -/
import Derived.Test.YtioifgbglgjkcaaExb
import Derived.Test.YtioifgbglgjkcaaShelf
import Derived.Laws.BitsLemmas
import Derived.Laws.Bits64b
namespace Go.Proofs.Ytioifgbglgjkcaa
open Go.RowKit
set_option maxHeartbeats 400000

theorem signed_rf (hi lo : Int) (c : Bool) (hh : 0 ≤ hi ∧ hi ≤ 18446744073709551615) (hl : 0 ≤ lo ∧ lo ≤ 18446744073709551615) (w : World) :
    Calls Try.prog 50 #[.agg #[.int .u64 hi, .int .u64 lo], .bool c] w fun e w' => e = .returned (okV (signV c (hi * 18446744073709551616 + lo))) ∧ Below w.heap.size w w' := by
  cases c
  · rw [signV_f]
    go_enter Try.func50, Try.ntmps50
    go_wp2
    all_goals go_ret2
    all_goals refine ⟨?_, (Below.refl _ _).alloc (Nat.le_refl _) _⟩
    all_goals first
      | exact ok_yes (by omega) (by omega)
      | exact ok_no (by omega)
  · rw [signV_t]
    go_enter Try.func50, Try.ntmps50
    go_wp2
    all_goals go_ret2
    all_goals refine ⟨?_, (Below.refl _ _).alloc (Nat.le_refl _) _⟩
    all_goals simp only [wrap64, IntKind.wrap_u64]
    all_goals first
      | exact ok_yes (by omega) (by omega)
      | exact ok_no (by omega)

/-- A number of 128 bits as the document's own struct has it. -/
def wideV (n : Nat) : Value := .agg #[.int .u64 ((n / 18446744073709551616 : Nat) : Int), .int .u64 ((n % 18446744073709551616 : Nat) : Int)]
theorem wide_eq {n : Nat} {a b : Int} (h : a * 18446744073709551616 + b = n) (hb : 0 ≤ b ∧ b ≤ 18446744073709551615) : Value.agg #[.int .u64 a, .int .u64 b] = wideV n := by
  unfold wideV
  rw [show ((n / 18446744073709551616 : Nat) : Int) = a by omega, show ((n % 18446744073709551616 : Nat) : Int) = b by omega]
theorem wraps_u64 (n : Int) (h0 : 0 ≤ n) (h1 : n < 2 ^ 64) : IntKind.u64.wrap n = n := by rw [IntKind.wrap_u64]; omega
theorem or_even (x y : Int) (hx : 0 ≤ x ∧ x ≤ 18446744073709551615) (h2 : x % 2 = 0) (hy : 0 ≤ y ∧ y ≤ 1) : bits .or .u64 x y = x + y :=
  bits_join .u64 64 (by decide) wraps_u64 1 x y (by omega) (by omega) (by omega) (by omega) (by omega) (by omega)
theorem ret_wide {a b c d : Int} (h1 : a = c) (h2 : b = d) : Ending.returned (.agg #[.int .u64 a, .int .u64 b]) = .returned (.agg #[.int .u64 c, .int .u64 d]) := by rw [h1, h2]
theorem double_rf (hi lo : Int) (hh : 0 ≤ hi ∧ hi ≤ 9223372036854775807) (hl : 0 ≤ lo ∧ lo ≤ 18446744073709551615) (w : World) :
    Calls Try.prog 62 #[.agg #[.int .u64 hi, .int .u64 lo], .int .u64 0] w fun e w' => e = .returned (.agg #[.int .u64 (hi * 2 + lo / 9223372036854775808), .int .u64 (lo * 2 % 18446744073709551616)]) ∧ Below w.heap.size w w' := by
  go_enter Try.func62, Try.ntmps62
  go_wp2
  refine bodyPost_ret (v := .agg #[.int .u64 (bits .or .u64 (hi * 2) (lo / 9223372036854775808)), .int .u64 (bits .or .u64 (IntKind.u64.wrap (lo * 2)) 0)]) (by simp [results, Try.results62, go_sem]) rfl ⟨?_, ((Below.refl _ _).alloc (Nat.le_refl _) _).alloc (by simp) _⟩
  refine ret_wide (or_even _ _ (by omega) (by omega) (by omega)) ?_
  rw [IntKind.wrap_u64, or_even _ _ (by omega) (by omega) (by omega)]
  omega
theorem plus_rf (hi lo l2 : Int) (hh : 0 ≤ hi ∧ hi ≤ 18446744073709551614) (hl : 0 ≤ lo ∧ lo ≤ 18446744073709551615) (h2 : 0 ≤ l2 ∧ l2 ≤ 18446744073709551615) (w : World) :
    Calls Try.prog 49 #[.agg #[.int .u64 hi, .int .u64 lo], .agg #[.int .u64 0, .int .u64 l2]] w fun e w' => e = .returned (.agg #[.int .u64 (hi + (lo + l2) / 18446744073709551616), .int .u64 ((lo + l2) % 18446744073709551616)]) ∧ Below w.heap.size w w' := by
  by_cases c : lo + l2 ≤ 18446744073709551615
  · go_enter Try.func49, Try.ntmps49
    go_wp2
    refine bodyPost_ret (v := .agg #[.int .u64 hi, .int .u64 (lo + l2)]) (by simp [results, Try.results49, go_sem]) rfl ⟨ret_wide (by omega) (by omega), (((Below.refl _ _).alloc (Nat.le_refl _) _).alloc (by simp) _).alloc (by simp; omega) _⟩
  · go_enter Try.func49, Try.ntmps49
    go_wp2
    · refine bodyPost_ret (v := .agg #[.int .u64 (hi + 1), .int .u64 (IntKind.u64.wrap (lo + l2))]) (by simp [results, Try.results49, go_sem]) rfl ⟨ret_wide (by omega) (by rw [IntKind.wrap_u64]), (((Below.refl _ _).alloc (Nat.le_refl _) _).alloc (by simp) _).alloc (by simp; omega) _⟩
    · rename_i hx
      rw [IntKind.wrap_u64] at hx
      omega
theorem multiply_ex (a b : Nat) (hi : a < 18446744073709551616) (hl : b < 18446744073709551616) (w : World) :
    Calls Try.prog 64 #[.int .u64 a, .int .u64 b] w fun e w' => e = .returned (wideV (a * b)) ∧ Below w.heap.size w w' := by
  go_enter Try.func64, Try.ntmps64
  go_wp2_with (go_at_call 72; refine (Try.bits_Mul64 _ _ hi hl _).mono ?_; rintro e w' ⟨rfl, rfl⟩)
  exact bodyPost_ret (v := wideV (a * b)) (by simp [results, Try.results64, go_sem, wideV]) rfl ⟨rfl, ((Below.refl _ _).alloc (Nat.le_refl _) _)⟩
end Go.Proofs.Ytioifgbglgjkcaa
