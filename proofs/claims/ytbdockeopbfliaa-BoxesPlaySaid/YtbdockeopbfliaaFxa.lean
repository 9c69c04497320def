/- A frame that can be, from any one (a helper of the statements). Conditions: an identifier of 32 bits. -/
import Derived.Test.YtbdockeopbfliaaBxf
namespace Go.Proofs.Ytbdockeopbfliaa
open Go.RowKit
def fixN (e : Bool) (n : Nat) : Nat := if e = true then n % 536870912 else n % 2048
def fixL (l : Int) : Int := if l < 0 then 0 else l % 9
def gD (q : Bool) (m : Int) (X : List Nat) (k : Nat) : List Nat := (List.range 8).map fun i => if i < k ∧ (q = true ∨ m ≤ (i : Int)) then 0 else X[i]?.getD 0
def fixD (q : Bool) (m : Int) (X : List Nat) : List Nat := gD q m X 8
theorem gD_len (q : Bool) (m : Int) (X : List Nat) (k : Nat) : (gD q m X k).length = 8 := by simp [gD]
theorem gD_0 (q : Bool) (m : Int) (X : List Nat) (h : X.length = 8) : gD q m X 0 = X := by
  apply List.ext_getElem
  · rw [gD_len, h]
  · intro i h1 h2
    simp [gD, h2]
theorem gD_no (q : Bool) (m : Int) (X : List Nat) (k : Nat) (h : ¬ (q = true ∨ m ≤ (k : Int))) : gD q m X (k + 1) = gD q m X k := by
  unfold gD
  refine List.map_congr_left fun i _ => ?_
  by_cases e : i = k
  · subst e
    rw [if_neg (fun h2 => h h2.2), if_neg (fun h2 => h h2.2)]
  · have : (i < k + 1 ∧ (q = true ∨ m ≤ (i : Int))) ↔ (i < k ∧ (q = true ∨ m ≤ (i : Int))) := by
      constructor
      · rintro ⟨a, b⟩; exact ⟨by omega, b⟩
      · rintro ⟨a, b⟩; exact ⟨by omega, b⟩
    simp only [this]
theorem gD_yes (q : Bool) (m : Int) (X : List Nat) (k : Nat) (h : q = true ∨ m ≤ (k : Int)) : gD q m X (k + 1) = (gD q m X k).set k 0 := by
  apply List.ext_getElem
  · rw [List.length_set, gD_len, gD_len]
  · intro i h1 h2
    rw [List.getElem_set]
    by_cases e : k = i
    · subst e
      rw [if_pos rfl]
      simp [gD, h]
    · rw [if_neg e]
      simp only [gD, List.getElem_map, List.getElem_range]
      have : (i < k + 1 ∧ (q = true ∨ m ≤ (i : Int))) ↔ (i < k ∧ (q = true ∨ m ≤ (i : Int))) := by
        constructor
        · rintro ⟨a, b⟩; exact ⟨by omega, b⟩
        · rintro ⟨a, b⟩; exact ⟨by omega, b⟩
      simp only [this]
theorem fc_set (e : Bool) (n : Nat) (q : Bool) (m : Int) (X : List Nat) (k : Nat) : (frameC e n q m X).set (4 + k) (.int .u8 0) = frameC e n q m (X.set k 0) := by
  unfold frameC
  rw [Nat.add_comm]
  simp only [List.set_cons_succ, List.map_set]
  rfl
theorem fix_right (e : Bool) (n : Nat) (q : Bool) (l : Int) (X : List Nat) : rightF e (fixN e n) q (fixL l) (fixD q (fixL l) X) = 0 := by
  have h1 : rightI e (fixN e n) = true := by
    unfold rightI fixN
    cases e
    · exact decide_eq_true (by show n % 2048 < 2048; omega)
    · exact decide_eq_true (by show n % 536870912 < 536870912; omega)
  have h2 : ¬ (fixL l < 0 ∨ 8 < fixL l) := by
    unfold fixL
    by_cases h : l < 0
    · rw [if_pos h]; omega
    · rw [if_neg h]; omega
  unfold rightF
  rw [if_neg (by rw [h1]; simp), if_neg h2, if_neg]
  intro h
  obtain ⟨i, hi, h3⟩ := List.any_eq_true.1 h
  have hi8 : i < 8 := by simpa using hi
  have h4 : (fixD q (fixL l) X)[i]?.getD 0 = if i < 8 ∧ (q = true ∨ fixL l ≤ (i : Int)) then 0 else X[i]?.getD 0 := by
    unfold fixD gD
    simp [hi8]
  rw [h4] at h3
  simp only [Bool.and_eq_true, decide_eq_true_eq, Bool.or_eq_true] at h3
  rw [if_pos ⟨hi8, h3.2.symm⟩] at h3
  exact h3.1 rfl
end Go.Proofs.Ytbdockeopbfliaa
