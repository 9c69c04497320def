/- Identifiers, their bits, keys and texts (mathematics, no program in it). No conditions. -/
import Derived.Test.YtodeaddmachcjaaRga
namespace Go.Proofs.Ytodeaddmachcjaa
open Go.RowKit Go.Shelf
/-- A number out of bits, whatever their number. -/
def numP (l : List Nat) : Nat := l.foldl (fun n b => 2 * n + b) 0
theorem numP_snoc (l : List Nat) (b : Nat) : numP (l ++ [b]) = 2 * numP l + b := by simp [numP]
theorem numP_append (l : List Nat) : ∀ r : List Nat, numP (l ++ r) = numP l * 2 ^ r.length + numP r := by
  intro r
  obtain ⟨k, hk⟩ : ∃ k, r.length = k := ⟨_, rfl⟩
  induction k generalizing r with
  | zero =>
    obtain rfl := List.length_eq_zero_iff.1 hk
    simp [numP]
  | succ k ih =>
    rcases List.eq_nil_or_concat r with rfl | ⟨r', b, rfl⟩
    · cases hk
    · rw [List.concat_eq_append] at hk ⊢
      have hl : r'.length = k := by simpa using hk
      rw [← List.append_assoc, numP_snoc, numP_snoc, ih r' hl, List.length_append, List.length_singleton, Nat.pow_succ]
      rw [Nat.mul_add, ← Nat.add_assoc, Nat.mul_comm (2 ^ r'.length) 2, ← Nat.mul_assoc, ← Nat.mul_assoc, Nat.mul_comm 2 (numP l)]
theorem numP_lt (l : List Nat) (hb : ∀ x ∈ l, x ≤ 1) : numP l < 2 ^ l.length := by
  obtain ⟨k, hk⟩ : ∃ k, l.length = k := ⟨_, rfl⟩
  induction k generalizing l with
  | zero =>
    obtain rfl := List.length_eq_zero_iff.1 hk
    exact Nat.one_pos
  | succ k ih =>
    rcases List.eq_nil_or_concat l with rfl | ⟨l', b, rfl⟩
    · cases hk
    · rw [List.concat_eq_append] at hk hb ⊢
      have hl : l'.length = k := by simpa using hk
      have h := ih l' (fun x hx => hb x (by simp [hx])) hl
      have h1 : b ≤ 1 := hb b (by simp)
      rw [numP_snoc, List.length_append, List.length_singleton, Nat.pow_succ]
      omega
theorem numP_zeros (m : Nat) : numP (List.replicate m 0) = 0 := by
  induction m with
  | zero => rfl
  | succ m ih => rw [List.replicate_succ', numP_snoc, ih]
theorem numB_numP (l : List Nat) (hb : ∀ x ∈ l, x ≤ 1) (hl : l.length ≤ 64) : numB l = numP l := by
  obtain ⟨k, hk⟩ : ∃ k, l.length = k := ⟨_, rfl⟩
  induction k generalizing l with
  | zero =>
    obtain rfl := List.length_eq_zero_iff.1 hk
    rfl
  | succ k ih =>
    rcases List.eq_nil_or_concat l with rfl | ⟨l', b, rfl⟩
    · cases hk
    · rw [List.concat_eq_append] at hk hb hl ⊢
      have hlk : l'.length = k := by simpa using hk
      have h1 : b ≤ 1 := hb b (by simp)
      have hl' : l'.length + 1 ≤ 64 := by simpa using hl
      have hp := numP_lt l' (fun x hx => hb x (by simp [hx]))
      have hpp : 2 ^ l'.length ≤ 2 ^ 63 := Nat.pow_le_pow_right (by omega) (by omega)
      rw [numB_snoc, numP_snoc, ih l' (fun x hx => hb x (by simp [hx])) (by omega) hlk, Nat.mod_eq_of_lt (by omega)]
theorem ofB_le (n w : Nat) : ∀ x ∈ ofB n w, x ≤ 1 := by
  intro x hx
  rw [← bitsOf_ofB] at hx
  exact bitsOf_le _ x hx
theorem numP_ofB (n w : Nat) (h : w ≤ 64) : numP (ofB n w) = n % 2 ^ w := by
  rw [← numB_numP _ (ofB_le n w) (by rw [ofB_length]; exact h), numB_ofB _ _ h]
/-- The first place at which two strings are unlike decides which number is less. -/
theorem first_unlike {p s t : List Nat} (hs : ∀ x ∈ s, x ≤ 1) (hl : s.length = t.length) : numP (p ++ 0 :: s) < numP (p ++ 1 :: t) := by
  have e1 : p ++ 0 :: s = (p ++ [0]) ++ s := by simp
  have e2 : p ++ 1 :: t = (p ++ [1]) ++ t := by simp
  rw [e1, e2, numP_append (p ++ [0]) s, numP_append (p ++ [1]) t, numP_snoc, numP_snoc, hl]
  have h := numP_lt s hs
  rw [hl] at h
  have : (2 * numP p + 0) * 2 ^ t.length + 2 ^ t.length = (2 * numP p + 1) * 2 ^ t.length := by rw [Nat.add_zero, Nat.add_mul (2 * numP p) 1, Nat.one_mul]
  omega
/-- Whether an identifier can be. -/
def rightI (e : Bool) (n : Nat) : Bool := if e then decide (n < 536870912) else decide (n < 2048)
def askN (r : Bool) : Nat := if r then 1 else 0
theorem askN_le (r : Bool) : askN r ≤ 1 := by cases r <;> decide
def idBits (e : Bool) (n : Nat) (r : Bool) : List Nat :=
  if rightI e n then (if e then ofB (n / 262144) 11 ++ ([1, 1] ++ (ofB n 18 ++ [askN r])) else ofB ((n * 2 + askN r) * 2) 13) else []
def idKey (e : Bool) (n : Nat) (r : Bool) : Nat :=
  if rightI e n then (if e then (n / 262144) * 2097152 + 1572864 + (n % 262144) * 2 + askN r else n * 2097152 + askN r * 1048576) else 0
theorem idBits_le (e : Bool) (n : Nat) (r : Bool) : ∀ x ∈ idBits e n r, x ≤ 1 := by
  intro x hx
  unfold idBits at hx
  split at hx
  · split at hx
    · rcases List.mem_append.1 hx with h | h
      · exact ofB_le _ _ x h
      · rcases List.mem_append.1 h with h | h
        · simp at h; omega
        · rcases List.mem_append.1 h with h | h
          · exact ofB_le _ _ x h
          · have := askN_le r
            simp at h; omega
    · exact ofB_le _ _ x hx
  · cases hx
theorem idBits_length (e : Bool) (n : Nat) (r : Bool) (h : rightI e n = true) : (idBits e n r).length = if e then 32 else 13 := by
  unfold idBits
  rw [if_pos h]
  cases e
  · simp [ofB_length]
  · simp [ofB_length]
theorem idKey_bits (e : Bool) (n : Nat) (r : Bool) (h : rightI e n = true) : numP (idBits e n r ++ List.replicate (32 - (idBits e n r).length) 0) = idKey e n r := by
  have ha := askN_le r
  rw [numP_append, numP_zeros, List.length_replicate, idBits_length e n r h]
  unfold idBits idKey
  rw [if_pos h, if_pos h]
  cases e with
  | false =>
    have hn : n < 2048 := by simpa [rightI] using h
    simp only [Bool.false_eq_true, if_false]
    rw [numP_ofB _ _ (by omega)]
    omega
  | true =>
    have hn : n < 536870912 := by simpa [rightI] using h
    simp only [if_true]
    rw [numP_append, numP_append, numP_append, numP_ofB _ _ (by omega), numP_ofB _ _ (by omega)]
    simp only [List.length_append, ofB_length, List.length_cons, List.length_nil]
    have e1 : numP [1, 1] = 3 := rfl
    have e2 : numP [askN r] = askN r := by simp [numP]
    rw [e1, e2]
    omega
theorem idKey_lt (e : Bool) (n : Nat) (r : Bool) : idKey e n r < 4294967296 := by
  have ha := askN_le r
  unfold idKey
  split
  · rename_i h
    cases e with
    | false =>
      have hn : n < 2048 := by simpa [rightI] using h
      simp only [Bool.false_eq_true, if_false]
      omega
    | true =>
      have hn : n < 536870912 := by simpa [rightI] using h
      simp only [if_true]
      omega
  · omega
theorem askN_inj {r s : Bool} (h : askN r = askN s) : r = s := by
  cases r <;> cases s <;> first | rfl | cases h
theorem idKey_inj {e f r s : Bool} {n m : Nat} (he : rightI e n = true) (hf : rightI f m = true) (h : idKey e n r = idKey f m s) : e = f ∧ n = m ∧ r = s := by
  have ha := askN_le r
  have hb := askN_le s
  unfold idKey at h
  rw [if_pos he, if_pos hf] at h
  cases e with
  | false =>
    have hn : n < 2048 := by simpa [rightI] using he
    cases f with
    | false =>
      have hm : m < 2048 := by simpa [rightI] using hf
      simp only [Bool.false_eq_true, if_false] at h
      exact ⟨rfl, by omega, askN_inj (by omega)⟩
    | true =>
      have hm : m < 536870912 := by simpa [rightI] using hf
      simp only [Bool.false_eq_true, if_false, if_true] at h
      omega
  | true =>
    have hn : n < 536870912 := by simpa [rightI] using he
    cases f with
    | false =>
      have hm : m < 2048 := by simpa [rightI] using hf
      simp only [Bool.false_eq_true, if_false, if_true] at h
      omega
    | true =>
      have hm : m < 536870912 := by simpa [rightI] using hf
      simp only [if_true] at h
      exact ⟨rfl, by omega, askN_inj (by omega)⟩
def winsI (e : Bool) (n : Nat) (r : Bool) (f : Bool) (m : Nat) (s : Bool) : Bool := rightI e n && rightI f m && decide (idKey e n r < idKey f m s)
/-- Whose bits are alike as far as both go is the same. -/
theorem idBits_same {e f r s : Bool} {n m : Nat} (he : rightI e n = true) (hf : rightI f m = true) (h : ∀ i, i < (idBits e n r).length → i < (idBits f m s).length → (idBits e n r)[i]?.getD 0 = (idBits f m s)[i]?.getD 0) : e = f ∧ n = m ∧ r = s := by
  have l1 := idBits_length e n r he
  have l2 := idBits_length f m s hf
  have same : ∀ {x y : List Nat}, x.length = y.length → (∀ i, i < x.length → i < y.length → x[i]?.getD 0 = y[i]?.getD 0) → x = y := fun hl hh => by
    apply List.ext_getElem hl
    intro i h1 h2
    have := hh i h1 h2
    simpa [h1, h2] using this
  by_cases c : e = f
  · subst c
    have hx := same (by rw [l1, l2]) h
    have hk := idKey_bits e n r he
    rw [hx, idKey_bits e m s hf] at hk
    exact idKey_inj he hf hk.symm
  · exfalso
    have twelve : ∀ (n : Nat) (r : Bool), rightI false n = true → (idBits false n r)[12]?.getD 0 = 0 := fun n r h => by
      unfold idBits
      rw [if_pos h]
      simp only [Bool.false_eq_true, if_false]
      rw [ofB_get _ _ _ (by omega)]
      unfold bitFrom
      omega
    have thirteen : ∀ (n : Nat) (r : Bool), rightI true n = true → (idBits true n r)[12]?.getD 0 = 1 := fun n r h => by
      unfold idBits
      rw [if_pos h]
      simp only [if_true]
      rw [List.getElem?_append_right (by rw [ofB_length]; omega), ofB_length]
      rfl
    cases e with
    | false =>
      obtain rfl : f = true := by cases f; exact absurd rfl c; rfl
      have := h 12 (by rw [l1]; decide) (by rw [l2]; decide)
      rw [twelve _ _ he, thirteen _ _ hf] at this
      cases this
    | true =>
      obtain rfl : f = false := by cases f; rfl; exact absurd rfl c
      have := h 12 (by rw [l1]; decide) (by rw [l2]; decide)
      rw [thirteen _ _ he, twelve _ _ hf] at this
      cases this
theorem split_at {x : List Nat} {i : Nat} (h : i < x.length) : x = x.take i ++ x[i]?.getD 0 :: x.drop (i + 1) := by
  have e : x[i]?.getD 0 = x[i] := by simp [h]
  rw [e, ← List.drop_eq_getElem_cons h, List.take_append_drop]
/-- Who wins has 0 at the first place at which both are unlike. -/
theorem first_wins {e f r s : Bool} {n m i : Nat} (he : rightI e n = true) (hf : rightI f m = true) (h1 : i < (idBits e n r).length) (h2 : i < (idBits f m s).length)
    (hsame : ∀ j, j < i → (idBits e n r)[j]?.getD 0 = (idBits f m s)[j]?.getD 0) (hne : (idBits e n r)[i]?.getD 0 ≠ (idBits f m s)[i]?.getD 0) :
    winsI e n r f m s = decide ((idBits e n r)[i]?.getD 0 = 0) := by
  have l1 := idBits_length e n r he
  have l2 := idBits_length f m s hf
  obtain ⟨x, hx⟩ : ∃ x, x = idBits e n r := ⟨_, rfl⟩
  obtain ⟨y, hy⟩ : ∃ y, y = idBits f m s := ⟨_, rfl⟩
  have hxb := idBits_le e n r
  have hyb := idBits_le f m s
  have kx := idKey_bits e n r he
  have ky := idKey_bits f m s hf
  rw [← hx] at h1 hsame hne hxb kx l1 ⊢
  rw [← hy] at h2 hsame hne hyb ky l2
  clear hx hy
  have ex := split_at h1
  have ey := split_at h2
  have ep : x.take i = y.take i := by
    apply List.ext_getElem
    · rw [List.length_take, List.length_take]; omega
    · intro j a b
      rw [List.length_take] at a b
      have := hsame j (by omega)
      rw [List.getElem_take, List.getElem_take]
      simpa [show j < x.length by omega, show j < y.length by omega] using this
  have x1 : x[i]?.getD 0 ≤ 1 := by
    have : x[i]?.getD 0 = x[i] := by simp [h1]
    rw [this]; exact hxb _ (List.getElem_mem h1)
  have y1 : y[i]?.getD 0 ≤ 1 := by
    have : y[i]?.getD 0 = y[i] := by simp [h2]
    rw [this]; exact hyb _ (List.getElem_mem h2)
  have lx : x.length ≤ 32 := by rw [l1]; split <;> omega
  have ly : y.length ≤ 32 := by rw [l2]; split <;> omega
  obtain ⟨p, hp⟩ : ∃ p, p = x.take i := ⟨_, rfl⟩
  obtain ⟨sx, hsx⟩ : ∃ sx, sx = x.drop (i + 1) ++ List.replicate (32 - x.length) 0 := ⟨_, rfl⟩
  obtain ⟨sy, hsy⟩ : ∃ sy, sy = y.drop (i + 1) ++ List.replicate (32 - y.length) 0 := ⟨_, rfl⟩
  have ax : x ++ List.replicate (32 - x.length) 0 = p ++ x[i]?.getD 0 :: sx := by
    rw [hp, hsx, ← List.cons_append, ← List.append_assoc, ← ex]
  have ay : y ++ List.replicate (32 - y.length) 0 = p ++ y[i]?.getD 0 :: sy := by
    rw [hp, ep, hsy, ← List.cons_append, ← List.append_assoc, ← ey]
  have hll : sx.length = sy.length := by rw [hsx, hsy, List.length_append, List.length_append, List.length_drop, List.length_drop, List.length_replicate, List.length_replicate]; omega
  have bx : ∀ z ∈ sx, z ≤ 1 := fun z hz => by
    rw [hsx] at hz
    rcases List.mem_append.1 hz with h | h
    · exact hxb z (List.mem_of_mem_drop h)
    · rw [List.eq_of_mem_replicate h]; omega
  have bY : ∀ z ∈ sy, z ≤ 1 := fun z hz => by
    rw [hsy] at hz
    rcases List.mem_append.1 hz with h | h
    · exact hyb z (List.mem_of_mem_drop h)
    · rw [List.eq_of_mem_replicate h]; omega
  rw [ax] at kx
  rw [ay] at ky
  unfold winsI
  rw [he, hf, Bool.true_and, Bool.true_and, ← kx, ← ky]
  obtain e0 | e0 : x[i]?.getD 0 = 0 ∨ x[i]?.getD 0 = 1 := by omega
  · have e1 : y[i]?.getD 0 = 1 := by omega
    rw [e0, e1, decide_eq_true (first_unlike bx hll), decide_eq_true rfl]
  · have e1 : y[i]?.getD 0 = 0 := by omega
    have h := first_unlike (p := p) bY hll.symm
    rw [e0, e1, decide_eq_false (by omega), decide_eq_false (by omega)]
end Go.Proofs.Ytodeaddmachcjaa
