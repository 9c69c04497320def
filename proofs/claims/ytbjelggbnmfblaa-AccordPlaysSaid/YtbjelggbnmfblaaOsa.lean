/- Package osc, and the document's own answers of layer 16: how many stamps there are, a count's stamp, and what a stamp is expanded to. Conditions: the arguments are numbers of their kinds. -/
import Derived.Test.YtbjelggbnmfblaaExs
import Derived.Test.YtbjelggbnmfblaaGna
namespace Go.Proofs.Ytbjelggbnmfblaa
open Go.RowKit
/-- How many stamps of a width there are. -/
def turnN (width : Int) : Nat := if 1 ≤ width ∧ width ≤ 62 then 2 ^ width.toNat else 0
theorem turn_no {width : Int} (h : ¬ (1 ≤ width ∧ width ≤ 62)) : turnN width = 0 := if_neg h
theorem turn_yes (k : Nat) (h : 1 ≤ k ∧ k ≤ 62) : turnN (k : Int) = 2 ^ k := by unfold turnN; rw [if_pos (by omega), Int.toNat_natCast]
theorem pow_in (k : Nat) (h : 1 ≤ k ∧ k ≤ 62) : 2 ≤ 2 ^ k ∧ 2 ^ k ≤ 4611686018427387904 :=
  ⟨Nat.pow_le_pow_right (n := 2) (by decide) (i := 1) (j := k) h.1, Nat.pow_le_pow_right (n := 2) (by decide) (i := k) (j := 62) h.2⟩
theorem turn_in (width : Int) : turnN width ≤ 4611686018427387904 := by
  unfold turnN
  split
  · rename_i h
    obtain ⟨k, rfl⟩ : ∃ k : Nat, width = (k : Int) := ⟨width.toNat, by omega⟩
    rw [Int.toNat_natCast]
    exact (pow_in k (by omega)).2
  · omega
/-- A count's stamp. -/
def stampI (count width : Int) : Int := if turnN width = 0 then 0 else count % (turnN width : Int)
/-- What a stamp is expanded to, and whether it is. -/
def expO (now stamp width : Int) : Bool := decide (0 ≤ now ∧ stamp < turnN width ∧ (now - stamp) % turnN width ≤ now)
def expX (now stamp width : Int) : Int := if expO now stamp width = true then now - (now - stamp) % turnN width else 0
theorem exp_no {now stamp width : Int} (h : ¬ (0 ≤ now ∧ stamp < turnN width ∧ (now - stamp) % turnN width ≤ now)) : Ending.returned (.tuple #[.int .i64 0, .bool false]) = .returned (.tuple #[.int .i64 (expX now stamp width), .bool (expO now stamp width)]) := by
  have e : expO now stamp width = false := decide_eq_false h
  unfold expX; rw [e, if_neg (by decide)]
theorem exp_yes {now stamp width x : Int} (h : 0 ≤ now ∧ stamp < turnN width ∧ (now - stamp) % turnN width ≤ now) (hx : x = now - (now - stamp) % turnN width) : Ending.returned (.tuple #[.int .i64 x, .bool true]) = .returned (.tuple #[.int .i64 (expX now stamp width), .bool (expO now stamp width)]) := by
  have e : expO now stamp width = true := decide_eq_true h
  unfold expX; rw [e, if_pos rfl, hx]
theorem back_eq {now stamp m b : Int} (hm : 0 < m) (hs0 : 0 ≤ stamp) (hs : stamp < m) (hb : b = now % m - stamp) : (b < 0 → b + m = (now - stamp) % m) ∧ (0 ≤ b → b = (now - stamp) % m) := by
  have h1 := Int.emod_nonneg now (show m ≠ 0 by omega)
  have h2 := Int.emod_lt_of_pos now hm
  have e : (now - stamp) % m = b % m := by rw [hb, Int.emod_sub_emod]
  constructor
  · intro h
    rw [e, ← Int.add_emod_right, Int.emod_eq_of_lt (by omega) (by omega)]
  · intro h
    rw [e, Int.emod_eq_of_lt (by omega) (by omega)]
end Go.Proofs.Ytbjelggbnmfblaa
