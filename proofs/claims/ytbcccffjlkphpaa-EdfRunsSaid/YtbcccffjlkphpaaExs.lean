/- Contracts and mathematics of the program's parts and of the document's own answers, in one text (Exb). Conditions: each theorem says its own. -/
import Derived.Test.YtbcccffjlkphpaaBas
import Derived.WalkSpells
import Derived.ProofKit
import Derived.OpenShut
set_option maxRecDepth 100000
/- What each small function of package exact, and of the document's own answers of layer 1, returns: numbers that fit, and 0, false for those that do not. Conditions: the arguments are numbers of their kinds. -/
namespace Go.Proofs.Ytbcccffjlkphpaa
open Go.RowKit
set_option maxHeartbeats 400000

def divV (a b : Int) : Value := if 0 < b then .tuple #[.int .i64 (a / b), .bool true] else noV
def modV (a b : Int) : Value := if 0 < b then .tuple #[.int .i64 (a % b), .bool true] else noV
theorem divV_yes {a b c : Int} (h : 0 < b) (e : c = a / b) : Ending.returned (.tuple #[.int .i64 c, .bool true]) = .returned (divV a b) := by subst e; unfold divV; rw [if_pos h]
theorem modV_yes {a b c : Int} (h : 0 < b) (e : c = a % b) : Ending.returned (.tuple #[.int .i64 c, .bool true]) = .returned (modV a b) := by subst e; unfold modV; rw [if_pos h]
theorem divV_no {a b : Int} (h : b < 1) : Ending.returned (.tuple #[.int .i64 0, .bool false]) = .returned (divV a b) := by unfold divV; rw [if_neg (by omega)]; rfl
theorem modV_no {a b : Int} (h : b < 1) : Ending.returned (.tuple #[.int .i64 0, .bool false]) = .returned (modV a b) := by unfold modV; rw [if_neg (by omega)]; rfl
theorem div_in {a b : Int} (ha : -9223372036854775808 ≤ a ∧ a ≤ 9223372036854775807) (hb : 0 < b) : -9223372036854775808 ≤ a / b ∧ a / b ≤ 9223372036854775807 := by
  have h1 : a / b * b + a % b = a := Int.ediv_mul_add_emod a b
  have hm := Int.emod_nonneg a (show b ≠ 0 by omega)
  have hl := Int.emod_lt_of_pos a hb
  by_cases c : 0 ≤ a
  · have := Int.ediv_nonneg c (by omega : 0 ≤ b)
    have := Int.ediv_le_self b c
    omega
  · have h2 : a ≤ a / b := by
      refine (Int.le_ediv_iff_mul_le hb).2 ?_
      have h5 : 0 ≤ (b - 1) * (-a) := Int.mul_nonneg (by omega) (by omega)
      have h6 : (b - 1) * (-a) = a - a * b := by rw [Int.sub_mul, Int.one_mul, Int.mul_neg, Int.mul_comm b a]; omega
      omega
    have h3 : a / b ≤ 0 := by
      have := Int.ediv_le_ediv (c := b) hb (show a ≤ 0 by omega)
      simpa using this
    exact ⟨by omega, by omega⟩
theorem mod_ex (a b : Int) (hb : -9223372036854775808 ≤ b ∧ b ≤ 9223372036854775807) (w : World) :
    Calls Try.prog 90 #[.int .i64 a, .int .i64 b] w fun e w' => e = .returned (modV a b) ∧ w = w' := by
  go_enter Try.func90, Try.ntmps90
  go_wp2
  all_goals go_ret2
  all_goals refine ⟨?_, rfl⟩
  · exact modV_no (by assumption)
  · have hb1 : 1 ≤ b := by assumption
    have hs : a.tmod b < 0 := by assumption
    obtain ⟨h1, h2⟩ := tdiv_tmod a b (by omega)
    have h3 := (h1 hs).2
    have hm := Int.emod_nonneg a (show b ≠ 0 by omega)
    have hl := Int.emod_lt_of_pos a (show 0 < b by omega)
    refine modV_yes (by omega) ?_
    rw [w64_in _ (by omega)]
    exact h3
  · have hb1 : 1 ≤ b := by assumption
    have hs : 0 ≤ a.tmod b := by assumption
    obtain ⟨h1, h2⟩ := tdiv_tmod a b (by omega)
    exact modV_yes (by omega) (h2 hs).2
def clampV (a lo hi : Int) : Int := if a < lo then lo else if hi < a then hi else a
theorem clamp_ex (a b c : Int) (w : World) :
    Calls Try.prog 97 #[.int .i64 a, .int .i64 b, .int .i64 c] w fun e w' => e = .returned (.int .i64 (clampV a b c)) ∧ w = w' := by
  go_enter Try.func97, Try.ntmps97
  go_wp2
  all_goals go_ret
  all_goals refine ⟨ret_i64 ?_, rfl⟩
  all_goals (unfold clampV; first | (rw [if_pos (by assumption)]; done) | (rw [if_neg (by omega)]; first | (rw [if_pos (by omega)]; done) | (rw [if_neg (by omega)]; done)))
theorem clamp_rf (a b c : Int) (w : World) :
    Calls Try.prog 30 #[.int .i64 a, .int .i64 b, .int .i64 c] w fun e w' => e = .returned (.int .i64 (clampV a b c)) ∧ w = w' := by
  go_enter Try.func30, Try.ntmps30
  go_wp2
  all_goals go_ret
  all_goals refine ⟨ret_i64 ?_, rfl⟩
  all_goals (unfold clampV; first | (rw [if_pos (by assumption)]; done) | (rw [if_neg (by omega)]; first | (rw [if_pos (by omega)]; done) | (rw [if_neg (by omega)]; done)))
def signV : Bool → Int → Int | true, n => -n | false, n => n
theorem signV_t (n : Int) : signV true n = -n := rfl
theorem signV_f (n : Int) : signV false n = n := rfl
end Go.Proofs.Ytbcccffjlkphpaa
