/- What must be whatever is asked, of package stuff (live); and so many bits as are gone through (Few). Conditions: a string is a string. -/
import Derived.Test.YtdnonahpoklbfaaDoorSfd
namespace Go.Proofs.YtdnonahpoklbfaaDoor
open Go.RowKit Go.Shelf
theorem few3_any (a : Option Addr) (len cap : Nat) (bs : List Nat) (w : World) (hI : Str w.heap.size w (.slice a len cap) bs) :
    Calls Tryd.prog 9 #[.slice a len cap] w fun e w' => (∃ a' len' cap', e = .returned (.slice a' len' cap') ∧ Str w.heap.size w (.slice a' len' cap') (bs.take 200)) ∧ w = w' := by
  have hl := hI.len
  have hc := hI.lenCap
  have hcm := hI.capLe
  by_cases h : 200 < len
  · have ht := hI.take (k := 200) (by omega)
    have HT := Lib.hid ht
    clear ht hI
    rw [← hl] at hc
    clear hl
    go_enter Tryd.func9, Tryd.ntmps9
    go_wp2
    go_ret
    exact ⟨⟨_, _, _, rfl, HT.out⟩, rfl⟩
  · have ht : bs.take 200 = bs := List.take_of_length_le (by omega)
    have HI := Lib.hid hI
    clear hI hl hc
    go_enter Tryd.func9, Tryd.ntmps9
    go_wp2
    go_ret
    exact ⟨⟨_, _, _, rfl, by rw [ht]; exact HI.out⟩, rfl⟩
theorem sStep_le (l : List Nat) (hb : ∀ x ∈ l, x ≤ 1) : ∀ y ∈ stuffB l, y ≤ 1 := by
  obtain ⟨k, hk⟩ : ∃ k, l.length = k := ⟨_, rfl⟩
  induction k generalizing l with
  | zero =>
    obtain rfl := List.length_eq_zero_iff.1 hk
    intro y hy
    cases hy
  | succ k ih =>
    rcases List.eq_nil_or_concat l with rfl | ⟨l', b, rfl⟩
    · cases hk
    · rw [List.concat_eq_append] at hk hb ⊢
      have hb1 : b ≤ 1 := hb b (by simp)
      have h' := ih l' (fun x hx => hb x (by simp [hx])) (by simpa using hk)
      intro y hy
      unfold stuffB at hy h'
      rw [sFold_snoc] at hy
      unfold sStep at hy
      split at hy
      · rcases List.mem_append.1 hy with hy | hy
        · rcases List.mem_append.1 hy with hy | hy
          · exact h' y hy
          · obtain rfl : y = b := by simpa using hy
            exact hb1
        · obtain rfl : y = 1 - b := by simpa using hy
          omega
      · rcases List.mem_append.1 hy with hy | hy
        · exact h' y hy
        · obtain rfl : y = b := by simpa using hy
          exact hb1
theorem bits_self (l : List Nat) (hb : ∀ x ∈ l, x ≤ 1) : bitsOf l = l := by
  unfold bitsOf
  conv => rhs; rw [← List.map_id l]
  exact List.map_congr_left (fun x hx => bitN_self (hb x hx))
theorem un_all {bs : List Nat} {k : Nat} (hk : k ≤ bs.length) (h : uFold (bitsTo bs k) = none) : uFold (bitsOf bs) = none := by
  have e : bitsOf bs = bitsTo bs k ++ (bitsOf bs).drop k := by
    have : bitsTo bs k = (bitsOf bs).take k := by
      apply List.ext_getElem
      · rw [bitsTo_length, List.length_take, bitsOf_length]; omega
      · intro i h1 h2
        rw [bitsTo_length] at h1
        have := bitsOf_get bs i (by omega)
        simp [bitsOf, show i < bs.length by omega] at this
        simp [bitsTo, bitsOf, this]
    rw [this, List.take_append_drop]
  rw [e]
  exact uFold_none _ _ h
theorem un_more {bs : List Nat} {k : Nat} (h : uFold (bitsTo bs k) = none) (d : Nat) : uFold (bitsTo bs (k + d)) = none := by
  induction d with
  | zero => exact h
  | succ d ih => rw [← Nat.add_assoc, bitsTo_succ, uFold_snoc, ih]; rfl
theorem un_uniq {bs : List Nat} {k j : Nat} {s s' : (Nat × Nat) × List Nat} (h1 : uFold (bitsTo bs k) = some s) (h2 : uFold (bitsTo bs (k + 1)) = none) (h3 : uFold (bitsTo bs j) = some s') (h4 : uFold (bitsTo bs (j + 1)) = none) : k = j := by
  rcases Nat.lt_trichotomy k j with h | h | h
  · have := un_more h2 (j - (k + 1))
    rw [show k + 1 + (j - (k + 1)) = j by omega, h3] at this
    cases this
  · exact h
  · have := un_more h4 (k - (j + 1))
    rw [show j + 1 + (k - (j + 1)) = k by omega, h1] at this
    cases this
theorem un_zero : ∀ k, k < 6 → uFold (bitsTo [0, 0, 0, 0, 0, 0] (k + 1)) = none → k = 5 := by decide
end Go.Proofs.YtdnonahpoklbfaaDoor
