/- Identifiers' texts and keys, there and back (mathematics, no program in it). No conditions. -/
import Derived.Test.YtodeaddmachcjaaIdm
namespace Go.Proofs.Ytodeaddmachcjaa
open Go.RowKit Go.Shelf
/-- The identifier that a key is of, whether it is asked for, and whether there is one. -/
def ofKey (k : Nat) : Option (Bool × Nat × Bool) :=
  if k / 524288 % 2 = 0 then (if k % 524288 = 0 then some (false, k / 2097152, decide (k / 1048576 % 2 = 1)) else none)
  else if k / 1048576 % 2 = 1 then some (true, k / 2097152 * 262144 + k / 2 % 262144, decide (k % 2 = 1)) else none
theorem askN_of (a : Nat) (h : a ≤ 1) : askN (decide (a = 1)) = a := by
  obtain rfl | rfl : a = 0 ∨ a = 1 := by omega
  · rfl
  · rfl
theorem ofKey_key {e : Bool} {n : Nat} {r : Bool} (h : rightI e n = true) : ofKey (idKey e n r) = some (e, n, r) := by
  have ha := askN_le r
  have hr : ∀ a, a = askN r → decide (a = 1) = r := fun a e => by rw [e]; cases r <;> rfl
  obtain ⟨k, hk⟩ : ∃ k, k = idKey e n r := ⟨_, rfl⟩
  rw [← hk]
  unfold idKey at hk
  rw [if_pos h] at hk
  unfold ofKey
  cases e with
  | false =>
    have hn : n < 2048 := by simpa [rightI] using h
    simp only [Bool.false_eq_true, if_false] at hk
    rw [if_pos (by omega), if_pos (by omega), hr _ (show k / 1048576 % 2 = askN r by omega), show k / 2097152 = n by omega]
  | true =>
    have hn : n < 536870912 := by simpa [rightI] using h
    simp only [if_true] at hk
    rw [if_neg (by omega), if_pos (by omega), hr _ (show k % 2 = askN r by omega), show k / 2097152 * 262144 + k / 2 % 262144 = n by omega]
theorem key_ofKey {k : Nat} (hk : k < 4294967296) {e : Bool} {n : Nat} {r : Bool} (h : ofKey k = some (e, n, r)) : rightI e n = true ∧ idKey e n r = k := by
  unfold ofKey at h
  split at h
  · rename_i c
    split at h
    · rename_i c2
      have h' := Option.some.inj h
      have he : false = e := congrArg Prod.fst h'
      have hn : k / 2097152 = n := congrArg (fun z => z.2.1) h'
      have hr : decide (k / 1048576 % 2 = 1) = r := congrArg (fun z => z.2.2) h'
      subst he hn hr
      have hR : rightI false (k / 2097152) = true := by
        show decide (k / 2097152 < 2048) = true
        rw [decide_eq_true (by omega)]
      refine ⟨hR, ?_⟩
      unfold idKey
      rw [if_pos hR]
      simp only [Bool.false_eq_true, if_false]
      rw [askN_of _ (by omega)]
      omega
    · cases h
  · rename_i c
    split at h
    · rename_i c2
      have h' := Option.some.inj h
      have he : true = e := congrArg Prod.fst h'
      have hn : k / 2097152 * 262144 + k / 2 % 262144 = n := congrArg (fun z => z.2.1) h'
      have hr : decide (k % 2 = 1) = r := congrArg (fun z => z.2.2) h'
      subst he hn hr
      have hR : rightI true (k / 2097152 * 262144 + k / 2 % 262144) = true := by
        show decide (k / 2097152 * 262144 + k / 2 % 262144 < 536870912) = true
        rw [decide_eq_true (by omega)]
      refine ⟨hR, ?_⟩
      unfold idKey
      rw [if_pos hR]
      simp only [if_true]
      rw [askN_of _ (by omega)]
      omega
    · cases h
/-- A digit, hexadecimal, and what a sign is as one: 16 where it is none. -/
def hexD (d : Nat) : Nat := if d < 10 then 48 + d else 87 + d
def unhex (c : Nat) : Nat := if 48 ≤ c ∧ c ≤ 57 then c - 48 else if 97 ≤ c ∧ c ≤ 102 then c - 97 + 10 else 16
theorem unhex_hexD (d : Nat) (h : d < 16) : unhex (hexD d) = d := by
  unfold hexD unhex
  by_cases c : d < 10
  · rw [if_pos c, if_pos (by omega)]; omega
  · rw [if_neg c, if_neg (by omega), if_pos (by omega)]; omega
theorem hexD_unhex (c : Nat) (h : unhex c ≠ 16) : hexD (unhex c) = c ∧ unhex c < 16 := by
  unfold unhex at h ⊢
  by_cases h1 : 48 ≤ c ∧ c ≤ 57
  · rw [if_pos h1] at h ⊢
    unfold hexD
    rw [if_pos (by omega)]
    omega
  · rw [if_neg h1] at h ⊢
    by_cases h2 : 97 ≤ c ∧ c ≤ 102
    · rw [if_pos h2] at h ⊢
      unfold hexD
      rw [if_neg (by omega)]
      omega
    · rw [if_neg h2] at h
      exact absurd rfl h
/-- The k lowest digits of a number, the highest one first. -/
def hexT (n : Nat) : Nat → List Nat
  | 0 => []
  | k + 1 => hexT (n / 16) k ++ [hexD (n % 16)]
theorem hexT_length (k : Nat) : ∀ n, (hexT n k).length = k := by
  induction k with
  | zero => intro n; rfl
  | succ k ih => intro n; show (hexT (n / 16) k ++ _).length = _; rw [List.length_append, ih]; rfl
/-- The number that digits are, or none where one is no digit. -/
def unhexT (l : List Nat) : Option Nat := l.foldl (fun a c => a.bind fun n => if unhex c = 16 then none else some (n * 16 + unhex c)) (some 0)
theorem unhexT_snoc (l : List Nat) (c : Nat) : unhexT (l ++ [c]) = (unhexT l).bind fun n => if unhex c = 16 then none else some (n * 16 + unhex c) := by simp [unhexT]
theorem unhexT_hexT (k : Nat) : ∀ n, n < 16 ^ k → unhexT (hexT n k) = some n := by
  induction k with
  | zero =>
    intro n h
    obtain rfl : n = 0 := by simpa using h
    rfl
  | succ k ih =>
    intro n h
    rw [Nat.pow_succ] at h
    show unhexT (hexT (n / 16) k ++ [hexD (n % 16)]) = _
    rw [unhexT_snoc, ih (n / 16) (by omega), unhex_hexD _ (by omega)]
    show (if n % 16 = 16 then none else some (n / 16 * 16 + n % 16)) = _
    rw [if_neg (by omega)]
    exact congrArg some (by omega)
theorem hexT_unhexT (k : Nat) : ∀ (l : List Nat) (n : Nat), l.length = k → unhexT l = some n → hexT n k = l ∧ n < 16 ^ k := by
  induction k with
  | zero =>
    intro l n hl h
    obtain rfl := List.length_eq_zero_iff.1 hl
    cases h
    exact ⟨rfl, by decide⟩
  | succ k ih =>
    intro l n hl h
    rcases List.eq_nil_or_concat l with rfl | ⟨l', c, rfl⟩
    · cases hl
    · rw [List.concat_eq_append] at hl h ⊢
      rw [unhexT_snoc] at h
      cases h' : unhexT l' with
      | none => rw [h'] at h; cases h
      | some m =>
        rw [h'] at h
        change (if unhex c = 16 then none else some (m * 16 + unhex c)) = some n at h
        by_cases hc : unhex c = 16
        · rw [if_pos hc] at h; cases h
        · rw [if_neg hc] at h
          obtain ⟨h1, h2⟩ := hexD_unhex c hc
          have hn : m * 16 + unhex c = n := Option.some.inj h
          obtain ⟨i1, i2⟩ := ih l' m (by simpa using hl) h'
          refine ⟨?_, by rw [Nat.pow_succ]; omega⟩
          show hexT (n / 16) k ++ [hexD (n % 16)] = _
          rw [show n / 16 = m by omega, show n % 16 = unhex c by omega, i1, h1]
def idText (e : Bool) (n : Nat) : List Nat := if rightI e n then (if e then hexT n 8 else hexT n 3) else []
def idParse (l : List Nat) : Option (Bool × Nat) :=
  if l.length = 3 then (unhexT l).bind fun n => if rightI false n then some (false, n) else none
  else if l.length = 8 then (unhexT l).bind fun n => if rightI true n then some (true, n) else none
  else none
theorem parse_text {e : Bool} {n : Nat} (h : rightI e n = true) : idParse (idText e n) = some (e, n) := by
  unfold idText
  rw [if_pos h]
  cases e with
  | false =>
    have hn : n < 2048 := by simpa [rightI] using h
    simp only [Bool.false_eq_true, if_false]
    unfold idParse
    rw [if_pos (hexT_length 3 n), unhexT_hexT 3 n (by omega)]
    show (if rightI false n then _ else _) = _
    rw [if_pos h]
  | true =>
    have hn : n < 536870912 := by simpa [rightI] using h
    simp only [if_true]
    unfold idParse
    rw [if_neg (by rw [hexT_length]; omega), if_pos (hexT_length 8 n), unhexT_hexT 8 n (by omega)]
    show (if rightI true n then _ else _) = _
    rw [if_pos h]
theorem text_parse {l : List Nat} {e : Bool} {n : Nat} (h : idParse l = some (e, n)) : rightI e n = true ∧ idText e n = l := by
  unfold idParse at h
  by_cases h3 : l.length = 3
  · rw [if_pos h3] at h
    cases h' : unhexT l with
    | none => rw [h'] at h; cases h
    | some m =>
      rw [h'] at h
      change (if rightI false m = true then some (false, m) else none) = some (e, n) at h
      by_cases hr : rightI false m = true
      · rw [if_pos hr] at h
        cases h
        refine ⟨hr, ?_⟩
        unfold idText
        rw [if_pos hr]
        exact (hexT_unhexT 3 l _ h3 h').1
      · rw [if_neg hr] at h; cases h
  · rw [if_neg h3] at h
    by_cases h8 : l.length = 8
    · rw [if_pos h8] at h
      cases h' : unhexT l with
      | none => rw [h'] at h; cases h
      | some m =>
        rw [h'] at h
        change (if rightI true m = true then some (true, m) else none) = some (e, n) at h
        by_cases hr : rightI true m = true
        · rw [if_pos hr] at h
          cases h
          refine ⟨hr, ?_⟩
          unfold idText
          rw [if_pos hr]
          exact (hexT_unhexT 8 l _ h8 h').1
        · rw [if_neg hr] at h; cases h
    · rw [if_neg h8] at h; cases h
end Go.Proofs.Ytodeaddmachcjaa
