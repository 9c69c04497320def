/- Bits that are changed in a string that has its sum behind (mathematics, no program in it): fifteen that stand together; an odd number of them. No conditions. -/
import Derived.Test.YtdnonahpoklbfaaDoorCrl
namespace Go.Proofs.YtdnonahpoklbfaaDoor
open Go.RowKit Go.Shelf
theorem xor_bit1 {x y : Nat} (hx : x ≤ 1) (hy : y ≤ 1) : x ^^^ y ≤ 1 := by
  obtain rfl | rfl : x = 0 ∨ x = 1 := by omega
  · rw [Nat.zero_xor]; exact hy
  · obtain rfl | rfl : y = 0 ∨ y = 1 := by omega
    · decide
    · decide
theorem getD_bit {X : List Nat} (h : ∀ x ∈ X, x ≤ 1) (j : Nat) : X[j]?.getD 0 ≤ 1 := by
  by_cases c : j < X.length
  · have : X[j]?.getD 0 = X[j] := by simp [c]
    rw [this]
    exact h _ (List.getElem_mem c)
  · rw [List.getElem?_eq_none (by omega)]; exact Nat.zero_le _
def maskB (kk wh j p : Nat) : Nat := if kk ≤ p ∧ p < kk + j then wh / 2 ^ (p - kk) % 2 else 0
theorem maskB_le (kk wh j p : Nat) : maskB kk wh j p ≤ 1 := by unfold maskB; split <;> omega
/-- The string with the first j bits of wh changed, from place kk on. -/
def burstB (S : List Nat) (kk wh j : Nat) : List Nat := (List.range S.length).map (fun p => S[p]?.getD 0 ^^^ maskB kk wh j p)
theorem burstB_length (S : List Nat) (kk wh j : Nat) : (burstB S kk wh j).length = S.length := by simp [burstB]
theorem burstB_start (S : List Nat) (kk wh : Nat) : burstB S kk wh 0 = S := by
  apply List.ext_getElem
  · exact burstB_length _ _ _ _
  · intro i h1 h2
    simp [burstB, maskB, h2, show ¬ (kk ≤ i ∧ i < kk) by omega]
theorem burstB_get (S : List Nat) (kk wh j p : Nat) (h : p < S.length) : (burstB S kk wh j)[p]?.getD 0 = S[p]?.getD 0 ^^^ maskB kk wh j p := by simp [burstB, h]
theorem burstB_cell (S : List Nat) (kk wh j : Nat) (h : kk + j < S.length) : (burstB S kk wh j)[kk + j]?.getD 0 = S[kk + j]?.getD 0 := by
  rw [burstB_get _ _ _ _ _ h, show maskB kk wh j (kk + j) = 0 from if_neg (by omega), Nat.xor_zero]
theorem maskB_other {kk wh j p : Nat} (h : p ≠ kk + j) : maskB kk wh (j + 1) p = maskB kk wh j p := by
  unfold maskB
  by_cases c : kk ≤ p ∧ p < kk + j
  · rw [if_pos c, if_pos (by omega)]
  · rw [if_neg c, if_neg (by omega)]
theorem burstB_one {S : List Nat} {kk wh j : Nat} (hS : ∀ x ∈ S, x ≤ 1) (_h : kk + j < S.length) (hb : wh / 2 ^ j % 2 = 1) : (burstB S kk wh j).set (kk + j) (1 - S[kk + j]?.getD 0) = burstB S kk wh (j + 1) := by
  apply List.ext_getElem
  · rw [List.length_set, burstB_length, burstB_length]
  · intro p h1 h2
    rw [burstB_length] at h2
    by_cases c : p = kk + j
    · subst c
      rw [List.getElem_set_self]
      have h := getD_bit hS (kk + j)
      have hm : maskB kk wh (j + 1) (kk + j) = 1 := by
        unfold maskB
        rw [if_pos (by omega), Nat.add_sub_cancel_left]
        exact hb
      have e : (burstB S kk wh (j + 1))[kk + j] = S[kk + j]?.getD 0 ^^^ maskB kk wh (j + 1) (kk + j) := by simp [burstB]
      rw [e, hm]
      obtain e0 | e0 : S[kk + j]?.getD 0 = 0 ∨ S[kk + j]?.getD 0 = 1 := by omega
      · rw [e0]; rfl
      · rw [e0]; rfl
    · rw [List.getElem_set_ne (by omega)]
      simp only [burstB, List.getElem_map, List.getElem_range]
      rw [maskB_other c]
theorem burstB_zero {S : List Nat} {kk wh j : Nat} (hb : wh / 2 ^ j % 2 = 0) : burstB S kk wh (j + 1) = burstB S kk wh j := by
  unfold burstB
  apply List.map_congr_left
  intro p _
  by_cases c : p = kk + j
  · subst c
    have h1 : maskB kk wh (j + 1) (kk + j) = 0 := by
      unfold maskB
      rw [if_pos (by omega), Nat.add_sub_cancel_left]
      exact hb
    rw [h1, show maskB kk wh j (kk + j) = 0 from if_neg (by omega)]
  · rw [maskB_other c]
theorem burstB_le {S : List Nat} (hS : ∀ x ∈ S, x ≤ 1) (kk wh j : Nat) : ∀ x ∈ burstB S kk wh j, x ≤ 1 := by
  intro x hx
  obtain ⟨p, _, rfl⟩ := List.mem_map.1 hx
  exact xor_bit1 (getD_bit hS p) (maskB_le _ _ _ _)
theorem burstB_zip (S : List Nat) (kk wh j : Nat) : burstB S kk wh j = List.zipWith (· ^^^ ·) S ((List.range S.length).map (maskB kk wh j)) := by
  apply List.ext_getElem
  · simp [burstB]
  · intro i h1 h2
    rw [burstB_length] at h1
    simp [burstB, h1]
theorem mask_list (kk wh m : Nat) : (List.range (kk + (15 + m))).map (maskB kk wh 15) = List.replicate kk 0 ++ ((List.range 15).map (fun j => wh / 2 ^ j % 2) ++ List.replicate m 0) := by
  apply List.ext_getElem
  · simp
  · intro i h1 h2
    simp only [List.getElem_map, List.getElem_range, List.getElem_append, List.getElem_replicate, List.length_replicate, List.length_map, List.length_range]
    unfold maskB
    by_cases c1 : i < kk
    · rw [if_neg (by omega), dif_pos c1]
    · by_cases c2 : i - kk < 15
      · rw [if_pos (by omega), dif_neg c1, dif_pos c2]
      · rw [if_neg (by omega), dif_neg c1, dif_neg c2]
theorem mask_crc (kk wh m : Nat) : crcOf ((List.range (kk + (15 + m))).map (maskB kk wh 15)) 0 = 0 ↔ ∀ j, j < 15 → wh / 2 ^ j % 2 = 0 := by
  have hr : ∀ x ∈ (List.range 15).map (fun j => wh / 2 ^ j % 2), x ≤ 1 := by
    intro x hx
    obtain ⟨j, _, rfl⟩ := List.mem_map.1 hx
    omega
  rw [mask_list, crcOf_append, crcOf_append, (crcOf_zeros kk 0 (by omega)).2 rfl, crcOf_zeros m _ (crcOf_lt _ _ (by omega))]
  constructor
  · intro h j hj
    have := (crcOf_last _ (by simp) hr 0 (by omega) h).2 j (by simpa using hj)
    simpa [hj] using this
  · intro h
    have e : (List.range 15).map (fun j => wh / 2 ^ j % 2) = List.replicate 15 0 := by
      apply List.ext_getElem
      · simp
      · intro i h1 h2
        simp only [List.length_map, List.length_range] at h1
        simp only [List.getElem_map, List.getElem_range, List.getElem_replicate]
        exact h i h1
    rw [e]
    exact (crcOf_zeros 15 0 (by omega)).2 rfl
def anyB (wh j : Nat) : Bool := (List.range j).any (fun i => wh / 2 ^ i % 2 == 1)
theorem anyB_succ (wh j : Nat) : anyB wh (j + 1) = (anyB wh j || wh / 2 ^ j % 2 == 1) := by simp [anyB, List.range_succ]
theorem anyB_false (wh : Nat) : anyB wh 15 = false ↔ ∀ j, j < 15 → wh / 2 ^ j % 2 = 0 := by
  unfold anyB
  rw [List.any_eq_false]
  constructor
  · intro h j hj
    have := h j (List.mem_range.2 hj)
    simp at this
    omega
  · intro h j hj
    have := h j (List.mem_range.1 hj)
    simp [this]
theorem burst_sum {S : List Nat} {kk wh m : Nat} (hS : ∀ x ∈ S, x ≤ 1) (hl : S.length = kk + (15 + m)) (h0 : crcOf S 0 = 0) : decide (crcOf (burstB S kk wh 15) 0 = 0) = !anyB wh 15 := by
  have h := crcOf_xor S ((List.range S.length).map (maskB kk wh 15)) 0 0 (by simp) hS (fun x hx => by obtain ⟨j, _, rfl⟩ := List.mem_map.1 hx; exact maskB_le _ _ _ _)
  rw [show (0 : Nat) ^^^ 0 = 0 from rfl, h0, Nat.zero_xor, ← burstB_zip, hl] at h
  rw [h]
  cases c : anyB wh 15 with
  | false => simpa using (mask_crc kk wh m).2 ((anyB_false wh).1 c)
  | true =>
    have : ¬ crcOf ((List.range (kk + (15 + m))).map (maskB kk wh 15)) 0 = 0 := fun e => by
      rw [(anyB_false wh).2 ((mask_crc kk wh m).1 e)] at c
      cases c
    simpa using this
theorem sealB_zero (l : List Nat) : crcOf (l ++ ofB (crcOf l 0) 15) 0 = 0 := by
  rw [crcOf_append]
  exact crcOf_seal _ (crcOf_lt _ _ (by omega))
theorem sealB_le (l : List Nat) (s : Nat) (hb : ∀ x ∈ l, x ≤ 1) : ∀ x ∈ l ++ ofB s 15, x ≤ 1 := by
  intro x hx
  rcases List.mem_append.1 hx with h | h
  · exact hb x h
  · rw [← bitsOf_ofB] at h
    exact bitsOf_le _ x h
/-- How many of the first k places are unlike. -/
def diffN (T S : List Nat) (k : Nat) : Nat := ((List.range k).filter (fun p => T[p]?.getD 0 != S[p]?.getD 0)).length
theorem diffN_succ (T S : List Nat) (k : Nat) : diffN T S (k + 1) = diffN T S k + (if T[k]?.getD 0 = S[k]?.getD 0 then 0 else 1) := by
  unfold diffN
  rw [List.range_succ, List.filter_append, List.length_append]
  by_cases c : T[k]?.getD 0 = S[k]?.getD 0
  · simp [c]
  · simp [c]
def unlikeB (T S : List Nat) (k : Nat) : List Nat := (List.range k).map (fun p => T[p]?.getD 0 ^^^ S[p]?.getD 0)
theorem unlikeB_succ (T S : List Nat) (k : Nat) : unlikeB T S (k + 1) = unlikeB T S k ++ [T[k]?.getD 0 ^^^ S[k]?.getD 0] := by simp [unlikeB, List.range_succ]
theorem oddB_snoc (l : List Nat) (b : Nat) : oddB (l ++ [b]) = (oddB l ^^ (b == 1)) := by simp [oddB]
theorem odd_diff {T S : List Nat} (hT : ∀ x ∈ T, x ≤ 1) (hS : ∀ x ∈ S, x ≤ 1) (k : Nat) : oddB (unlikeB T S k) = (diffN T S k % 2 == 1) := by
  induction k with
  | zero => rfl
  | succ k ih =>
    rw [unlikeB_succ, oddB_snoc, ih, diffN_succ]
    have h1 := getD_bit hT k
    have h2 := getD_bit hS k
    obtain ⟨d, hd⟩ : ∃ d, d = diffN T S k := ⟨_, rfl⟩
    rw [← hd]
    have hx : (T[k]?.getD 0 ^^^ S[k]?.getD 0 == 1) = !(decide (T[k]?.getD 0 = S[k]?.getD 0)) := by
      obtain e0 | e0 : T[k]?.getD 0 = 0 ∨ T[k]?.getD 0 = 1 := by omega
      · obtain e1 | e1 : S[k]?.getD 0 = 0 ∨ S[k]?.getD 0 = 1 := by omega
        · rw [e0, e1]; rfl
        · rw [e0, e1]; rfl
      · obtain e1 | e1 : S[k]?.getD 0 = 0 ∨ S[k]?.getD 0 = 1 := by omega
        · rw [e0, e1]; rfl
        · rw [e0, e1]; rfl
    rw [hx]
    by_cases c : T[k]?.getD 0 = S[k]?.getD 0
    · rw [if_pos c, decide_eq_true c]; simp
    · rw [if_neg c, decide_eq_false c]
      obtain e | e : d % 2 = 0 ∨ d % 2 = 1 := by omega
      · rw [show (d + 1) % 2 = 1 by omega, e]; rfl
      · rw [show (d + 1) % 2 = 0 by omega, e]; rfl
theorem unlikeB_zip (T S : List Nat) (h : T.length = S.length) : unlikeB T S S.length = List.zipWith (· ^^^ ·) T S := by
  apply List.ext_getElem
  · simp [unlikeB, h]
  · intro i h1 h2
    simp [unlikeB] at h1
    simp [unlikeB, show i < T.length by omega, h1]
/-- An odd number of changed bits is told. -/
theorem odd_told {T S : List Nat} (hT : ∀ x ∈ T, x ≤ 1) (hS : ∀ x ∈ S, x ≤ 1) (hl : T.length = S.length) (h0 : crcOf S 0 = 0) (hodd : diffN T S S.length % 2 = 1) : crcOf T 0 ≠ 0 := by
  intro h
  have hx := crcOf_xor T S 0 0 hl hT hS
  rw [show (0 : Nat) ^^^ 0 = 0 from rfl, h0, h, show (0 : Nat) ^^^ 0 = 0 from rfl, ← unlikeB_zip T S hl] at hx
  have ho := even_of_zero _ hx
  rw [odd_diff hT hS, hodd] at ho
  cases ho
end Go.Proofs.YtdnonahpoklbfaaDoor
