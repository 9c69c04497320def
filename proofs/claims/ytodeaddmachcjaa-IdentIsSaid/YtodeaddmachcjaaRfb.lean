/- The document's own answers of layer 2 in plain words (Run, Same, Pack): what they return. Conditions: strings are strings, and not longer than a thousand. -/
import Derived.Test.YtodeaddmachcjaaRfa
namespace Go.Proofs.Ytodeaddmachcjaa
open Go.RowKit Go.Shelf
theorem one_quiet (x : Nat) (w : World) (n m : Nat) : Calls Try.prog 36 #[.int .u8 x] (w.drewN (n + m)) fun e w' => e = .returned (.int .u8 (bitN x : Nat)) ∧ ∃ k, w' = w.drewN (n + k) :=
  (one_any x _).mono fun _ _ h => ⟨h.1, m, h.2.symm⟩
theorem runF_next (bs : List Nat) (k : Nat) : (runF (bitsTo bs (k + 1))).2.2 = bitAt bs k := by rw [bitsTo_succ, runF_snoc]
theorem runF_same {bs : List Nat} {j : Nat} (h : bitAt bs (j + 1) = bitAt bs j) : (runF (bitsTo bs (j + 2))).2.1 = (runF (bitsTo bs (j + 1))).2.1 + 1 ∧ (runF (bitsTo bs (j + 2))).1 = max (runF (bitsTo bs (j + 1))).1 ((runF (bitsTo bs (j + 1))).2.1 + 1) := by
  rw [bitsTo_succ bs (j + 1), runF_snoc, runF_next, if_pos h]
  exact ⟨rfl, rfl⟩
theorem runF_other {bs : List Nat} {j : Nat} (h : bitAt bs (j + 1) ≠ bitAt bs j) : (runF (bitsTo bs (j + 2))).2.1 = 1 ∧ (runF (bitsTo bs (j + 2))).1 = max (runF (bitsTo bs (j + 1))).1 1 := by
  rw [bitsTo_succ bs (j + 1), runF_snoc, runF_next, if_neg h]
  exact ⟨rfl, rfl⟩
theorem runF_first (bs : List Nat) : (runF (bitsTo bs 1)).2.1 = 1 ∧ (runF (bitsTo bs 1)).1 = 1 := by
  have e : bitsTo bs 1 = [] ++ [bitAt bs 0] := rfl
  rw [e, runF_snoc]
  show (if bitAt bs 0 = 0 then 0 else 0) + 1 = 1 ∧ max 0 ((if bitAt bs 0 = 0 then 0 else 0) + 1) = 1
  rw [ite_self]
  exact ⟨rfl, rfl⟩
end Go.Proofs.Ytodeaddmachcjaa
