/- What Pack of package strand returns: eight bits in each byte. Conditions: as for places. -/
import Derived.Test.YtodeaddmachcjaaStc
import Derived.Test.YtodeaddmachcjaaRnd
import Derived.StillTactics
import Derived.Laws.BitsAllLaws
namespace Go.Proofs.Ytodeaddmachcjaa
open Go.RowKit Go.Shelf
attribute [local go_sem] Oper.semAt_some
/-- A byte, of the bits that came. -/
def packOn (bs : List Nat) (pre : List Nat) (j : Nat) : Nat := pre.foldl (fun c i => if i / 8 = j then c ||| (bitAt bs i * 2 ^ (7 - i % 8)) else c) 0
theorem packOn_snoc (bs pre : List Nat) (i j : Nat) : packOn bs (pre ++ [i]) j = if i / 8 = j then packOn bs pre j ||| (bitAt bs i * 2 ^ (7 - i % 8)) else packOn bs pre j := by
  unfold packOn
  rw [List.foldl_append]; rfl
theorem packOn_lt (bs pre : List Nat) (j : Nat) : packOn bs pre j < 256 := by
  unfold packOn
  have key : ∀ (l : List Nat) (c : Nat), c < 256 → l.foldl (fun c i => if i / 8 = j then c ||| (bitAt bs i * 2 ^ (7 - i % 8)) else c) c < 256 := by
    intro l
    induction l with
    | nil => intro c hc; exact hc
    | cons i l ih =>
      intro c hc
      simp only [List.foldl_cons]
      apply ih
      split
      · have h2 : 2 ^ (7 - i % 8) ≤ 2 ^ 7 := Nat.pow_le_pow_right (by omega) (by omega)
        have h3 : bitAt bs i * 2 ^ (7 - i % 8) ≤ 1 * 2 ^ 7 := Nat.mul_le_mul (bitAt_le _ _) h2
        exact Nat.or_lt_two_pow (n := 8) hc (by omega)
      · exact hc
  exact key pre 0 (by omega)
def packB (bs : List Nat) : List Nat := (List.range ((bs.length + 7) / 8)).map (packOn bs (List.range bs.length))
theorem packB_length (bs : List Nat) : (packB bs).length = (bs.length + 7) / 8 := by simp [packB]
theorem packB_get (bs : List Nat) (j : Nat) (h : j < (bs.length + 7) / 8) : (packB bs)[j]?.getD 0 = packOn bs (List.range bs.length) j := by simp [packB, h]
end Go.Proofs.Ytodeaddmachcjaa
