/- Plain facts on numbers of 64 bits with a sign, for the proofs on package exact: no Go text in sight. No conditions. -/
import Derived.Test.YtioifgbglgjkcaaRows
import Derived.WalkKit
namespace Go.Proofs.Ytioifgbglgjkcaa
open Go.RowKit

/-- Is it a number of 64 bits with a sign? -/
def fitB (x : Int) : Bool := decide (-9223372036854775808 ≤ x ∧ x ≤ 9223372036854775807)
/-- The number, or 0 if it is too great. -/
def cutV (x : Int) : Int := if -9223372036854775808 ≤ x ∧ x ≤ 9223372036854775807 then x else 0
/-- What a call answers whose number is x. -/
def okV (x : Int) : Value := .tuple #[.int .i64 (cutV x), .bool (fitB x)]
def noV : Value := .tuple #[.int .i64 0, .bool false]

theorem fit_yes {x : Int} (h : -9223372036854775808 ≤ x ∧ x ≤ 9223372036854775807) : fitB x = true := decide_eq_true h
theorem fit_no {x : Int} (h : ¬ (-9223372036854775808 ≤ x ∧ x ≤ 9223372036854775807)) : fitB x = false := decide_eq_false h
theorem cut_yes {x : Int} (h : -9223372036854775808 ≤ x ∧ x ≤ 9223372036854775807) : cutV x = x := if_pos h
theorem cut_no {x : Int} (h : ¬ (-9223372036854775808 ≤ x ∧ x ≤ 9223372036854775807)) : cutV x = 0 := if_neg h
theorem of_fit {x : Int} (h : fitB x = true) : -9223372036854775808 ≤ x ∧ x ≤ 9223372036854775807 := of_decide_eq_true h
theorem of_unfit {x : Int} (h : fitB x = false) : ¬ (-9223372036854775808 ≤ x ∧ x ≤ 9223372036854775807) := of_decide_eq_false h
theorem ok_yes {x y : Int} (h : -9223372036854775808 ≤ x ∧ x ≤ 9223372036854775807) (e : y = x) : Ending.returned (.tuple #[.int .i64 y, .bool true]) = Ending.returned (okV x) := by
  subst e; unfold okV; rw [fit_yes h, cut_yes h]
theorem ok_no {x : Int} (h : ¬ (-9223372036854775808 ≤ x ∧ x ≤ 9223372036854775807)) : Ending.returned (.tuple #[.int .i64 0, .bool false]) = Ending.returned (okV x) := by
  unfold okV; rw [fit_no h, cut_no h]
theorem wf64 {a : Int} (h : (Lit.int .i64 a).wf = true) : -9223372036854775808 ≤ a ∧ a ≤ 9223372036854775807 := by
  simpa [Lit.wf, IntKind.min, IntKind.max, IntKind.signed, IntKind.bits] using h
theorem wfu64 {a : Int} (h : (Lit.int .u64 a).wf = true) : 0 ≤ a ∧ a ≤ 18446744073709551615 := by
  simpa [Lit.wf, IntKind.min, IntKind.max, IntKind.signed, IntKind.bits] using h
theorem ret_i64 {a b : Int} (h : a = b) : Ending.returned (.int .i64 a) = Ending.returned (.int .i64 b) := by rw [h]
theorem ret_u64 {a b : Int} (h : a = b) : Ending.returned (.int .u64 a) = Ending.returned (.int .u64 b) := by rw [h]
theorem tdiv_tmod (a b : Int) (h : 0 < b) : (a.tmod b < 0 → a.tdiv b - 1 = a / b ∧ a.tmod b + b = a % b) ∧ (0 ≤ a.tmod b → a.tdiv b = a / b ∧ a.tmod b = a % b) := by
  have e1 := Int.tdiv_eq_ediv (a := a) (b := b)
  have e2 := Int.tmod_eq_emod (a := a) (b := b)
  have hs : b.sign = 1 := Int.sign_eq_one_of_pos h
  have hn : (b.natAbs : Int) = b := Int.natAbs_of_nonneg (by omega)
  have hm := Int.emod_nonneg a (show b ≠ 0 by omega)
  have hl := Int.emod_lt_of_pos a h
  rw [hs] at e1
  by_cases c : 0 ≤ a ∨ b ∣ a
  · rw [if_pos c] at e1 e2
    constructor
    · intro hh; omega
    · intro hh; constructor <;> omega
  · rw [if_neg c] at e1 e2
    rw [hn] at e2
    constructor
    · intro hh; constructor <;> omega
    · intro hh; omega
theorem w64_in (n : Int) (h : -9223372036854775808 ≤ n ∧ n ≤ 9223372036854775807) : wrap64 n = n := by unfold wrap64; omega
end Go.Proofs.Ytioifgbglgjkcaa
