/- What each small function of package exact, and of the document's own answers of layer 1, returns: numbers that fit, and 0, false for those that do not. Conditions: the arguments are numbers of their kinds. -/
import Derived.Test.YtioifgbglgjkcaaNum
import Derived.WalkSpells
import Derived.ProofKit
import Derived.OpenShut
namespace Go.Proofs.Ytioifgbglgjkcaa
open Go.RowKit
set_option maxHeartbeats 400000

theorem add_ex (a b : Int) (ha : -9223372036854775808 ≤ a ∧ a ≤ 9223372036854775807) (hb : -9223372036854775808 ≤ b ∧ b ≤ 9223372036854775807) (w : World) :
    Calls Try.prog 60 #[.int .i64 a, .int .i64 b] w fun e w' => e = .returned (okV (a + b)) ∧ w = w' := by
  go_enter Try.func60, Try.ntmps60
  go_wp2
  all_goals go_ret2
  all_goals refine ⟨?_, rfl⟩
  all_goals (rename_i hh; simp only [wrap64] at hh)
  · refine ok_no ?_
    by_cases c : 0 < b
    · simp [c] at hh; omega
    · simp [c] at hh; omega
  · refine ok_yes ?_ ?_
    · by_cases c : 0 < b
      · simp [c] at hh; omega
      · simp [c] at hh; omega
    · simp only [wrap64]
      by_cases c : 0 < b
      · simp [c] at hh; omega
      · simp [c] at hh; omega
theorem sub_ex (a b : Int) (ha : -9223372036854775808 ≤ a ∧ a ≤ 9223372036854775807) (hb : -9223372036854775808 ≤ b ∧ b ≤ 9223372036854775807) (w : World) :
    Calls Try.prog 58 #[.int .i64 a, .int .i64 b] w fun e w' => e = .returned (okV (a - b)) ∧ w = w' := by
  go_enter Try.func58, Try.ntmps58
  go_wp2
  all_goals go_ret2
  all_goals refine ⟨?_, rfl⟩
  all_goals (rename_i hh; simp only [wrap64] at hh)
  · refine ok_no ?_
    by_cases c : 0 < b
    · simp [c] at hh; omega
    · simp [c] at hh; omega
  · refine ok_yes ?_ ?_
    · by_cases c : 0 < b
      · simp [c] at hh; omega
      · simp [c] at hh; omega
    · simp only [wrap64]
      by_cases c : 0 < b
      · simp [c] at hh; omega
      · simp [c] at hh; omega
theorem add_rf (a b : Int) (ha : -9223372036854775808 ≤ a ∧ a ≤ 9223372036854775807) (hb : -9223372036854775808 ≤ b ∧ b ≤ 9223372036854775807) (w : World) :
    Calls Try.prog 43 #[.int .i64 a, .int .i64 b] w fun e w' => e = .returned (okV (a + b)) ∧ w = w' := by
  go_enter Try.func43, Try.ntmps43
  go_wp2
  all_goals go_ret2
  all_goals refine ⟨?_, rfl⟩
  all_goals first
    | exact ok_no (by omega)
    | exact ok_yes (by omega) (by omega)
theorem sub_rf (a b : Int) (ha : -9223372036854775808 ≤ a ∧ a ≤ 9223372036854775807) (hb : -9223372036854775808 ≤ b ∧ b ≤ 9223372036854775807) (w : World) :
    Calls Try.prog 42 #[.int .i64 a, .int .i64 b] w fun e w' => e = .returned (okV (a - b)) ∧ w = w' := by
  go_enter Try.func42, Try.ntmps42
  go_wp2
  all_goals go_ret2
  all_goals refine ⟨?_, rfl⟩
  all_goals first
    | exact ok_no (by omega)
    | exact ok_yes (by omega) (by omega)
def divV (a b : Int) : Value := if 0 < b then .tuple #[.int .i64 (a / b), .bool true] else noV
def modV (a b : Int) : Value := if 0 < b then .tuple #[.int .i64 (a % b), .bool true] else noV
theorem divV_yes {a b c : Int} (h : 0 < b) (e : c = a / b) : Ending.returned (.tuple #[.int .i64 c, .bool true]) = .returned (divV a b) := by subst e; unfold divV; rw [if_pos h]
theorem modV_yes {a b c : Int} (h : 0 < b) (e : c = a % b) : Ending.returned (.tuple #[.int .i64 c, .bool true]) = .returned (modV a b) := by subst e; unfold modV; rw [if_pos h]
theorem divV_no {a b : Int} (h : b < 1) : Ending.returned (.tuple #[.int .i64 0, .bool false]) = .returned (divV a b) := by unfold divV; rw [if_neg (by omega)]; rfl
theorem modV_no {a b : Int} (h : b < 1) : Ending.returned (.tuple #[.int .i64 0, .bool false]) = .returned (modV a b) := by unfold modV; rw [if_neg (by omega)]; rfl
theorem div_in {a b : Int} (ha : -9223372036854775808 ≤ a ∧ a ≤ 9223372036854775807) (hb : 0 < b) : -9223372036854775808 ≤ a / b ∧ a / b ≤ 9223372036854775807 := by
  have h1 : a / b * b + a % b = a := Int.ediv_mul_add_emod a b
  have hm := Int.emod_nonneg a (show b ≠ 0 by omega)
  have hl := Int.emod_lt_of_pos a hb
  by_cases c : 0 ≤ a
  · have := Int.ediv_nonneg c (by omega : 0 ≤ b)
    have := Int.ediv_le_self b c
    omega
  · have h2 : a ≤ a / b := by
      refine (Int.le_ediv_iff_mul_le hb).2 ?_
      have h5 : 0 ≤ (b - 1) * (-a) := Int.mul_nonneg (by omega) (by omega)
      have h6 : (b - 1) * (-a) = a - a * b := by rw [Int.sub_mul, Int.one_mul, Int.mul_neg, Int.mul_comm b a]; omega
      omega
    have h3 : a / b ≤ 0 := by
      have := Int.ediv_le_ediv (c := b) hb (show a ≤ 0 by omega)
      simpa using this
    exact ⟨by omega, by omega⟩
def clampV (a lo hi : Int) : Int := if a < lo then lo else if hi < a then hi else a
theorem clamp_ex (a b c : Int) (w : World) :
    Calls Try.prog 54 #[.int .i64 a, .int .i64 b, .int .i64 c] w fun e w' => e = .returned (.int .i64 (clampV a b c)) ∧ w = w' := by
  go_enter Try.func54, Try.ntmps54
  go_wp2
  all_goals go_ret
  all_goals refine ⟨ret_i64 ?_, rfl⟩
  all_goals (unfold clampV; first | (rw [if_pos (by assumption)]; done) | (rw [if_neg (by omega)]; first | (rw [if_pos (by omega)]; done) | (rw [if_neg (by omega)]; done)))
theorem clamp_rf (a b c : Int) (w : World) :
    Calls Try.prog 55 #[.int .i64 a, .int .i64 b, .int .i64 c] w fun e w' => e = .returned (.int .i64 (clampV a b c)) ∧ w = w' := by
  go_enter Try.func55, Try.ntmps55
  go_wp2
  all_goals go_ret
  all_goals refine ⟨ret_i64 ?_, rfl⟩
  all_goals (unfold clampV; first | (rw [if_pos (by assumption)]; done) | (rw [if_neg (by omega)]; first | (rw [if_pos (by omega)]; done) | (rw [if_neg (by omega)]; done)))
theorem size_ex (a : Int) (ha : -9223372036854775808 ≤ a ∧ a ≤ 9223372036854775807) (w : World) :
    Calls Try.prog 65 #[.int .i64 a] w fun e w' => e = .returned (.int .u64 (a.natAbs : Int)) ∧ w = w' := by
  go_enter Try.func65, Try.ntmps65
  go_wp2
  all_goals go_ret
  all_goals refine ⟨ret_u64 ?_, rfl⟩
  all_goals first | omega | (simp only [IntKind.wrap_u64]; omega)
theorem size_rf (a : Int) (ha : -9223372036854775808 ≤ a ∧ a ≤ 9223372036854775807) (w : World) :
    Calls Try.prog 48 #[.int .i64 a] w fun e w' => e = .returned (.int .u64 (a.natAbs : Int)) ∧ w = w' := by
  go_enter Try.func48, Try.ntmps48
  go_wp2
  all_goals go_ret
  all_goals refine ⟨ret_u64 ?_, rfl⟩
  all_goals first | omega | (simp only [IntKind.wrap_u64]; omega)
def signV : Bool → Int → Int | true, n => -n | false, n => n
theorem signV_t (n : Int) : signV true n = -n := rfl
theorem signV_f (n : Int) : signV false n = n := rfl
theorem signed_ex (c : Bool) (n : Int) (hn : 0 ≤ n ∧ n ≤ 18446744073709551615) (w : World) :
    Calls Try.prog 66 #[.bool c, .int .u64 n] w fun e w' => e = .returned (okV (signV c n)) ∧ w = w' := by
  cases c
  · rw [signV_f]
    go_enter Try.func66, Try.ntmps66
    go_wp2
    all_goals go_ret2
    all_goals refine ⟨?_, rfl⟩
    all_goals first
      | exact ok_yes (by omega) (by omega)
      | exact ok_no (by omega)
  · rw [signV_t]
    go_enter Try.func66, Try.ntmps66
    go_wp2
    all_goals go_ret2
    all_goals refine ⟨?_, rfl⟩
    all_goals simp only [wrap64, IntKind.wrap_u64]
    all_goals first
      | exact ok_yes (by omega) (by omega)
      | exact ok_no (by omega)
end Go.Proofs.Ytioifgbglgjkcaa
