/- Sums of 15 bits as the document defines them: they are linear; what has its sum behind has the sum 0; fifteen bits of others, or an odd number, are told. No program in it. No conditions. -/
import Derived.Test.YtodeaddmachcjaaSte
namespace Go.Proofs.Ytodeaddmachcjaa
/-- A sum behind one more bit. -/
def crcStep (s b : Nat) : Nat := (s * 2 % 32768) ^^^ (if s.testBit 14 != (b == 1) then 17817 else 0)
def crcOf (l : List Nat) (s : Nat) : Nat := l.foldl crcStep s
theorem crcOf_nil (s : Nat) : crcOf [] s = s := rfl
theorem crcOf_cons (b : Nat) (l : List Nat) (s : Nat) : crcOf (b :: l) s = crcOf l (crcStep s b) := rfl
theorem crcOf_append (l r : List Nat) (s : Nat) : crcOf (l ++ r) s = crcOf r (crcOf l s) := by simp [crcOf]
theorem crcStep_lt (s b : Nat) : crcStep s b < 32768 := by
  unfold crcStep
  refine Nat.xor_lt_two_pow (n := 15) (Nat.mod_lt _ (by omega)) ?_
  split <;> omega
theorem crcOf_lt (l : List Nat) (s : Nat) (h : s < 32768) : crcOf l s < 32768 := by
  induction l generalizing s with
  | nil => exact h
  | cons b l ih => exact ih _ (crcStep_lt _ _)
theorem top_is {s : Nat} (h : s < 32768) : s.testBit 14 = decide (16384 ≤ s) := by
  rw [Nat.testBit_eq_decide_div_mod_eq]
  congr 1
  apply propext
  omega
theorem double_xor (s t : Nat) : (s ^^^ t) * 2 % 32768 = (s * 2 % 32768) ^^^ (t * 2 % 32768) := by
  have e : ∀ x : Nat, x * 2 = x <<< 1 := fun x => by simp [Nat.shiftLeft_eq]
  rw [e, e, e, Nat.shiftLeft_xor_distrib, show (32768 : Nat) = 2 ^ 15 by decide, Nat.xor_mod_two_pow]
theorem crcStep_xor (s t x y : Nat) (hx : x ≤ 1) (hy : y ≤ 1) : crcStep (s ^^^ t) (x ^^^ y) = crcStep s x ^^^ crcStep t y := by
  unfold crcStep
  rw [double_xor, Nat.testBit_xor]
  have h : ∀ a b c d : Nat, (a ^^^ b) ^^^ (c ^^^ d) = (a ^^^ c) ^^^ (b ^^^ d) := fun a b c d => by
    rw [Nat.xor_assoc, Nat.xor_assoc, ← Nat.xor_assoc b c d, Nat.xor_comm b c, Nat.xor_assoc c b d]
  rw [h (s * 2 % 32768) _ (t * 2 % 32768) _]
  congr 1
  obtain rfl | rfl : x = 0 ∨ x = 1 := by omega
  · obtain rfl | rfl : y = 0 ∨ y = 1 := by omega
    · cases s.testBit 14 <;> cases t.testBit 14 <;> decide
    · cases s.testBit 14 <;> cases t.testBit 14 <;> decide
  · obtain rfl | rfl : y = 0 ∨ y = 1 := by omega
    · cases s.testBit 14 <;> cases t.testBit 14 <;> decide
    · cases s.testBit 14 <;> cases t.testBit 14 <;> decide
theorem crcOf_xor (a : List Nat) : ∀ (b : List Nat) (s t : Nat), a.length = b.length → (∀ x ∈ a, x ≤ 1) → (∀ x ∈ b, x ≤ 1) → crcOf (List.zipWith (· ^^^ ·) a b) (s ^^^ t) = crcOf a s ^^^ crcOf b t := by
  induction a with
  | nil =>
    intro b s t hl _ _
    obtain rfl : b = [] := List.length_eq_zero_iff.1 hl.symm
    rfl
  | cons x a ih =>
    intro b s t hl ha hb
    cases b with
    | nil => cases hl
    | cons y b =>
      rw [List.zipWith_cons_cons, crcOf_cons, crcOf_cons, crcOf_cons, crcStep_xor s t x y (ha x (by simp)) (hb y (by simp))]
      exact ih b _ _ (by simpa using hl) (fun z hz => ha z (by simp [hz])) (fun z hz => hb z (by simp [hz]))
/-- If what stands behind the last bits is even, none was changed. -/
theorem crcStep_even {s b : Nat} (hs : s < 32768) (hb : b ≤ 1) (h : crcStep s b % 2 = 0) : b = s / 2 ^ 14 % 2 ∧ crcStep s b = s * 2 % 32768 := by
  unfold crcStep at h ⊢
  rw [top_is hs] at h ⊢
  by_cases c : (decide (16384 ≤ s) != (b == 1)) = true
  · rw [if_pos c] at h
    have e : ((s * 2 % 32768) ^^^ 17817) % 2 = 1 := by
      have e1 := Nat.xor_mod_two_pow (a := s * 2 % 32768) (b := 17817) (n := 1)
      rw [show (2 : Nat) ^ 1 = 2 by decide, show s * 2 % 32768 % 2 = 0 by omega, show 17817 % 2 = 1 by decide] at e1
      rw [e1]
      decide
    omega
  · rw [if_neg c, Nat.xor_zero]
    refine ⟨?_, rfl⟩
    have c' : decide (16384 ≤ s) = (b == 1) := by simpa using c
    obtain rfl | rfl : b = 0 ∨ b = 1 := by omega
    · have : ¬ 16384 ≤ s := by simpa using c'
      omega
    · have : 16384 ≤ s := by simpa using c'
      omega
theorem crcStep_zero {t : Nat} (ht : t < 32768) (h : crcStep t 0 = 0) : t = 0 := by
  obtain ⟨h1, h2⟩ := crcStep_even (b := 0) ht (by omega) (by rw [h])
  rw [h] at h2
  omega
theorem crcOf_zeros (r : Nat) : ∀ t, t < 32768 → (crcOf (List.replicate r 0) t = 0 ↔ t = 0) := by
  induction r with
  | zero => intro t _; exact Iff.rfl
  | succ r ih =>
    intro t ht
    rw [List.replicate_succ, crcOf_cons, ih _ (crcStep_lt _ _)]
    exact ⟨crcStep_zero ht, fun e => by rw [e]; decide⟩
/-- The last bits of what has the sum 0 are the sum of those ahead. -/
theorem crcOf_last (r : List Nat) : r.length ≤ 15 → (∀ x ∈ r, x ≤ 1) → ∀ s, s < 32768 → crcOf r s = 0 → s % 2 ^ (15 - r.length) = 0 ∧ ∀ j, j < r.length → r[j]?.getD 0 = s / 2 ^ (14 - j) % 2 := by
  induction r with
  | nil =>
    intro _ _ s hs h
    rw [crcOf_nil] at h
    subst h
    exact ⟨rfl, fun j hj => by cases hj⟩
  | cons b r ih =>
    intro hl hb s hs h
    rw [crcOf_cons] at h
    have hl' : r.length ≤ 14 := by simpa using hl
    obtain ⟨h1, h2⟩ := ih (by omega) (fun x hx => hb x (by simp [hx])) _ (crcStep_lt _ _) h
    have he : crcStep s b % 2 = 0 := by
      have : 2 ∣ 2 ^ (15 - r.length) := ⟨2 ^ (14 - r.length), by rw [show 15 - r.length = (14 - r.length) + 1 by omega, Nat.pow_succ, Nat.mul_comm]⟩
      exact Nat.mod_eq_zero_of_dvd (Nat.dvd_trans this (Nat.dvd_of_mod_eq_zero h1))
    obtain ⟨h3, h4⟩ := crcStep_even hs (hb b (by simp)) he
    rw [h4] at h1 h2
    have hlen : (b :: r).length = r.length + 1 := rfl
    constructor
    · rw [hlen]
      have hd : 2 ^ (15 - r.length) ∣ s * 2 % 32768 := Nat.dvd_of_mod_eq_zero h1
      have hd2 : 2 ^ (15 - r.length) ∣ s * 2 := by
        have hp : 2 ^ (15 - r.length) ∣ 32768 := by
          rw [show (32768 : Nat) = 2 ^ 15 by decide]; exact Nat.pow_dvd_pow 2 (by omega)
        exact (Nat.dvd_mod_iff hp).1 hd
      rw [show 15 - r.length = (15 - (r.length + 1)) + 1 by omega, Nat.pow_succ] at hd2
      exact Nat.mod_eq_zero_of_dvd (Nat.dvd_of_mul_dvd_mul_right (by omega) hd2)
    · intro j hj
      cases j with
      | zero => exact h3
      | succ j =>
        have hj' : j < r.length := by rw [hlen] at hj; omega
        rw [List.getElem?_cons_succ, h2 j hj']
        have hj14 : j ≤ 13 := by omega
        rw [show (14 : Nat) - j = (14 - (j + 1)) + 1 by omega]
        have e : s * 2 % 32768 / 2 ^ (14 - (j + 1) + 1) % 2 = s / 2 ^ (14 - (j + 1)) % 2 := by
          have hb1 := Nat.testBit_eq_decide_div_mod_eq (x := s * 2 % 32768) (i := 14 - (j + 1) + 1)
          have hb2 := Nat.testBit_eq_decide_div_mod_eq (x := s) (i := 14 - (j + 1))
          have hb3 : (s * 2 % 32768).testBit (14 - (j + 1) + 1) = s.testBit (14 - (j + 1)) := by
            rw [show (32768 : Nat) = 2 ^ 15 by decide, Nat.testBit_mod_two_pow, show s * 2 = s <<< 1 by simp [Nat.shiftLeft_eq], Nat.testBit_shiftLeft]
            simp
            omega
          rw [hb1, hb2] at hb3
          have := decide_eq_decide.1 hb3
          omega
        exact e
/-- Fifteen bits, the highest one first. -/
def sumBits (s : Nat) : List Nat := (List.range 15).map (fun j => s / 2 ^ (15 - 1 - j) % 2)
theorem sumBits_length (s : Nat) : (sumBits s).length = 15 := by simp [sumBits]
theorem sumBits_le (s : Nat) : ∀ x ∈ sumBits s, x ≤ 1 := by
  intro x hx
  obtain ⟨j, _, rfl⟩ := List.mem_map.1 hx
  omega
/-- So many bits of a sum, from a place on. -/
theorem crcOf_own (s : Nat) (hs : s < 32768) : ∀ m, m ≤ 15 → crcOf ((List.range m).map (fun j => s / 2 ^ (14 - j) % 2)) s = s * 2 ^ m % 32768 := by
  intro m
  induction m with
  | zero => intro _; show s = _; omega
  | succ m ih =>
    intro hm
    rw [List.range_succ, List.map_append, crcOf_append, ih (by omega)]
    show crcStep _ _ = _
    have hlt : s * 2 ^ m % 32768 < 32768 := Nat.mod_lt _ (by omega)
    have htop : (s * 2 ^ m % 32768).testBit 14 = ((s / 2 ^ (14 - m) % 2) == 1) := by
      rw [show (32768 : Nat) = 2 ^ 15 by decide, Nat.testBit_mod_two_pow, ← Nat.shiftLeft_eq, Nat.testBit_shiftLeft, Nat.testBit_eq_decide_div_mod_eq]
      simp [show m ≤ 14 by omega]
      rfl
    unfold crcStep
    rw [htop]
    simp only [bne_self_eq_false, Bool.false_eq_true, if_false, Nat.xor_zero]
    rw [Nat.pow_succ, ← Nat.mul_assoc]
    omega
theorem crcOf_seal (s : Nat) (hs : s < 32768) : crcOf (sumBits s) s = 0 := by
  have h := crcOf_own s hs 15 (by omega)
  unfold sumBits
  rw [h]
  omega
/-- Whole: the sum is 0. -/
theorem whole_iff (l r : List Nat) (hr : r.length = 15) (hb : ∀ x ∈ r, x ≤ 1) : crcOf (l ++ r) 0 = 0 ↔ r = sumBits (crcOf l 0) := by
  have hs := crcOf_lt l 0 (by omega)
  rw [crcOf_append]
  constructor
  · intro h
    obtain ⟨_, h2⟩ := crcOf_last r (by omega) hb _ hs h
    apply List.ext_getElem
    · rw [hr, sumBits_length]
    · intro j h1 _
      have e := h2 j h1
      simp [h1] at e
      simp [sumBits, e]
  · intro h
    rw [h]
    exact crcOf_seal _ hs
/-- Whether a number of bits are 1. -/
def parN (s : Nat) : Bool := (List.range 15).foldl (fun p i => p ^^ s.testBit i) false
def oddB (l : List Nat) : Bool := l.foldl (fun p b => p ^^ (b == 1)) false
theorem foldl_xor (f : Nat → Bool) : ∀ (l : List Nat) (p : Bool), l.foldl (fun p i => p ^^ f i) p = (p ^^ l.foldl (fun p i => p ^^ f i) false) := by
  intro l
  induction l with
  | nil => intro p; simp
  | cons x l ih =>
    intro p
    rw [List.foldl_cons, List.foldl_cons, ih, ih (false ^^ f x)]
    cases p <;> cases f x <;> simp
theorem parN_xor (a b : Nat) : parN (a ^^^ b) = (parN a ^^ parN b) := by
  have : ∀ l : List Nat, l.foldl (fun p i => p ^^ (a ^^^ b).testBit i) false = ((l.foldl (fun p i => p ^^ a.testBit i) false) ^^ (l.foldl (fun p i => p ^^ b.testBit i) false)) := by
    intro l
    induction l with
    | nil => rfl
    | cons x l ih =>
      rw [List.foldl_cons, List.foldl_cons, List.foldl_cons, foldl_xor, foldl_xor (fun i => a.testBit i), foldl_xor (fun i => b.testBit i), ih, Nat.testBit_xor]
      cases a.testBit x <;> cases b.testBit x <;> simp
  exact this _
theorem parN_double (s : Nat) : parN (s * 2 % 32768) = (parN s ^^ s.testBit 14) := by
  have h : ∀ i, i < 14 → (s * 2 % 32768).testBit (i + 1) = s.testBit i := fun i hi => by
    rw [show (32768 : Nat) = 2 ^ 15 by decide, Nat.testBit_mod_two_pow, show s * 2 = s <<< 1 by simp [Nat.shiftLeft_eq], Nat.testBit_shiftLeft]
    simp
    omega
  have h0 : (s * 2 % 32768).testBit 0 = false := by
    rw [Nat.testBit_eq_decide_div_mod_eq]
    simp
  unfold parN
  simp only [show List.range 15 = [0, 1, 2, 3, 4, 5, 6, 7, 8, 9, 10, 11, 12, 13, 14] by decide, List.foldl_cons, List.foldl_nil]
  rw [h0, h 0 (by omega), h 1 (by omega), h 2 (by omega), h 3 (by omega), h 4 (by omega), h 5 (by omega), h 6 (by omega), h 7 (by omega), h 8 (by omega), h 9 (by omega), h 10 (by omega), h 11 (by omega), h 12 (by omega), h 13 (by omega)]
  simp
theorem parN_step (s b : Nat) : parN (crcStep s b) = (parN s ^^ (b == 1)) := by
  unfold crcStep
  rw [parN_xor, parN_double]
  have h1 : parN 17817 = true := by decide
  have h2 : parN 0 = false := by decide
  cases h : s.testBit 14 <;> cases (b == 1) <;> simp [h1, h2]
theorem parN_crcOf (l : List Nat) : ∀ s, parN (crcOf l s) = (parN s ^^ oddB l) := by
  induction l with
  | nil => intro s; simp [crcOf, oddB]
  | cons b l ih =>
    intro s
    rw [crcOf_cons, ih, parN_step]
    unfold oddB
    rw [List.foldl_cons, foldl_xor (fun b => b == 1) l (false ^^ (b == 1))]
    simp
/-- What has the sum 0 has an even number of bits that are 1. -/
theorem even_of_zero (l : List Nat) (h : crcOf l 0 = 0) : oddB l = false := by
  have := parN_crcOf l 0
  rw [h] at this
  simpa [show parN 0 = false by decide] using this.symm
end Go.Proofs.Ytodeaddmachcjaa
