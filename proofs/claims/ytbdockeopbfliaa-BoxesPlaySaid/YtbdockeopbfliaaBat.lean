/- Contracts and mathematics of the program's parts and of the document's own answers, in one text (Cra, Crb, Crx, Idm, Idt, Ida, Idb, Idc, Idd, Ide, Idf, Idg, Idh, Idi, Idj, Frm, Frt). Conditions: each theorem says its own. -/
import Derived.Test.YtbdockeopbfliaaBas
import Derived.ScopeJumps
import Derived.Deep.DeepCutAuto
import Derived.Deep.RegionWith
import Derived.Laws.BitsAllLaws
import Derived.Laws.IdiomStrings
import Derived.Laws.RangeAny
set_option maxRecDepth 100000
/- The code of package crc, one step: what it returns. Conditions: the divisor's fifteen cells hold what the program lays in them. -/
namespace Go.Proofs.Ytbdockeopbfliaa
open Go.RowKit Go.Shelf
/-- The divisor's bits, the highest one first. -/
def divBits : List Nat := [1, 0, 0, 0, 1, 0, 1, 1, 0, 0, 1, 1, 0, 0, 1]
def preD (k : Nat) : Nat := 17817 / 2 ^ (15 - k) * 2 ^ (15 - k)
theorem preD_succ : ∀ k, k < 15 → preD (k + 1) = preD k ^^^ (divBits[k]?.getD 0 * 2 ^ (14 - k)) := by decide
theorem str_one (w : World) (x : Nat) (T : TypeId) : Str (w.alloc (.cells #[.int .u8 (x : Int)] T)).heap.size (w.alloc (.cells #[.int .u8 (x : Int)] T)) (.slice (some ⟨w.heap.size, 0, none⟩) 1 1) [x] :=
  .inr ⟨w.heap.size, 0, 1, rfl, Nat.le_refl _, by omega, by simp, fun j hj => by
    obtain rfl : j = 0 := by simpa using hj
    simp⟩
theorem numB_one (x : Nat) : numB (bitsOf [x]) = bitN x := by
  have h := bitN_le x
  show (2 * 0 + bitN x) % 18446744073709551616 = _
  omega
theorem divBits_le : ∀ k, k < 15 → divBits[k]?.getD 0 ≤ 1 := by decide
theorem preD_lt : ∀ k, k < 16 → preD k < 32768 := by decide
theorem step_round {d t k z m : Nat} (ht : t ≤ 1) (hk : k < 15) (hz : z = divBits[k]?.getD 0) (hm : m = d ^^^ t * preD k) : m ^^^ (t * z * 2 ^ (14 - k)) = d ^^^ t * preD (k + 1) := by
  subst hm hz
  obtain rfl | rfl : t = 0 ∨ t = 1 := by omega
  · simp
  · rw [Nat.one_mul, Nat.one_mul, Nat.one_mul, preD_succ k hk, Nat.xor_assoc]
theorem and_bit {t z : Nat} (ht : t ≤ 1) (hz : z ≤ 1) : t &&& z = t * z := by
  obtain rfl | rfl : t = 0 ∨ t = 1 := by omega
  · simp
  · obtain rfl | rfl : z = 0 ∨ z = 1 := by omega
    · rfl
    · rfl
theorem step_end {s h v t d m : Nat} (hv : v ≤ 1) (hh : h = s / 16384 % 2) (ht : t = h ^^^ v) (hd : d = s * 2 % 65536) (hm : m = d ^^^ t * preD 15) : m % 32768 = crcStep (s % 32768) v := by
  have e : d % 32768 = s % 32768 * 2 % 32768 := by omega
  have h1 : h ≤ 1 := by omega
  have ht1 : t % 2 = t := by
    rw [ht]
    obtain e0 | e0 : h = 0 ∨ h = 1 := by omega
    · obtain e1 | e1 : v = 0 ∨ v = 1 := by omega
      · rw [e0, e1]; rfl
      · rw [e0, e1]; rfl
    · obtain e1 | e1 : v = 0 ∨ v = 1 := by omega
      · rw [e0, e1]; rfl
      · rw [e0, e1]; rfl
  unfold crcStep
  rw [top_is (Nat.mod_lt _ (by omega)), hm, show (32768 : Nat) = 2 ^ 15 from rfl, Nat.xor_mod_two_pow, show (2 : Nat) ^ 15 = 32768 from rfl, e]
  congr 1
  have h3 : decide (16384 ≤ s % 32768) = (h == 1) := by
    rw [Bool.eq_iff_iff]
    simp
    omega
  rw [h3, ht]
  have hp : preD 15 = 17817 := by decide
  rw [hp]
  obtain e0 | e0 : h = 0 ∨ h = 1 := by omega
  · obtain e1 | e1 : v = 0 ∨ v = 1 := by omega
    · rw [e0, e1]; rfl
    · rw [e0, e1]; rfl
  · obtain e1 | e1 : v = 0 ∨ v = 1 := by omega
    · rw [e0, e1]; rfl
    · rw [e0, e1]; rfl
end Go.Proofs.Ytbdockeopbfliaa
/- The code of package crc (Sum, Bits, Seal, Whole): what it returns. Conditions: strings are strings, not longer than memory; the divisor's fifteen cells hold what the program lays in them. -/
namespace Go.Proofs.Ytbdockeopbfliaa
open Go.RowKit Go.Shelf
theorem Made.own {B : Nat} {W : World} {v : Value} {bs : List Nat} (h : Made B W v bs) : Ow B W v bs := by
  obtain ⟨b, rfl, hB, hn, c, hc, hcs, hcc⟩ := h
  refine ⟨by simp, .inr ⟨b, bs.length, c, rfl, hB, hc, Nat.le_refl _, by unfold maxLen; omega, by omega, ?_⟩⟩
  apply List.ext_getElem
  · simp; omega
  · intro i h1 h2
    have h3 : i < bs.length := by simpa using h2
    have h4 := hcc i h3
    have h5 : i < c.size := by omega
    rw [Array.getElem?_eq_getElem h5, Option.some.injEq] at h4
    simp [h4, h3]
theorem sameV_bits (r : List Nat) (s : Nat) (hr : r.length = 15) (hs : s < 32768) : sameV r (ofB s 15) = decide (s = numB (bitsOf r)) := by
  unfold sameV
  rw [bitsOf_ofB]
  apply decide_eq_decide.2
  exact (numB_eq (by rw [bitsOf_length]; exact hr) (bitsOf_le _) hs).symm
end Go.Proofs.Ytbdockeopbfliaa
/- Bits that are changed in a string that has its sum behind (mathematics, no program in it): fifteen that stand together; an odd number of them. No conditions. -/
namespace Go.Proofs.Ytbdockeopbfliaa
open Go.RowKit Go.Shelf
theorem xor_bit1 {x y : Nat} (hx : x ≤ 1) (hy : y ≤ 1) : x ^^^ y ≤ 1 := by
  obtain rfl | rfl : x = 0 ∨ x = 1 := by omega
  · rw [Nat.zero_xor]; exact hy
  · obtain rfl | rfl : y = 0 ∨ y = 1 := by omega
    · decide
    · decide
theorem getD_bit {X : List Nat} (h : ∀ x ∈ X, x ≤ 1) (j : Nat) : X[j]?.getD 0 ≤ 1 := by
  by_cases c : j < X.length
  · have : X[j]?.getD 0 = X[j] := by simp [c]
    rw [this]
    exact h _ (List.getElem_mem c)
  · rw [List.getElem?_eq_none (by omega)]; exact Nat.zero_le _
def maskB (kk wh j p : Nat) : Nat := if kk ≤ p ∧ p < kk + j then wh / 2 ^ (p - kk) % 2 else 0
theorem maskB_le (kk wh j p : Nat) : maskB kk wh j p ≤ 1 := by unfold maskB; split <;> omega
/-- The string with the first j bits of wh changed, from place kk on. -/
def burstB (S : List Nat) (kk wh j : Nat) : List Nat := (List.range S.length).map (fun p => S[p]?.getD 0 ^^^ maskB kk wh j p)
theorem burstB_length (S : List Nat) (kk wh j : Nat) : (burstB S kk wh j).length = S.length := by simp [burstB]
theorem burstB_start (S : List Nat) (kk wh : Nat) : burstB S kk wh 0 = S := by
  apply List.ext_getElem
  · exact burstB_length _ _ _ _
  · intro i h1 h2
    simp [burstB, maskB, h2, show ¬ (kk ≤ i ∧ i < kk) by omega]
theorem burstB_get (S : List Nat) (kk wh j p : Nat) (h : p < S.length) : (burstB S kk wh j)[p]?.getD 0 = S[p]?.getD 0 ^^^ maskB kk wh j p := by simp [burstB, h]
theorem burstB_cell (S : List Nat) (kk wh j : Nat) (h : kk + j < S.length) : (burstB S kk wh j)[kk + j]?.getD 0 = S[kk + j]?.getD 0 := by
  rw [burstB_get _ _ _ _ _ h, show maskB kk wh j (kk + j) = 0 from if_neg (by omega), Nat.xor_zero]
theorem maskB_other {kk wh j p : Nat} (h : p ≠ kk + j) : maskB kk wh (j + 1) p = maskB kk wh j p := by
  unfold maskB
  by_cases c : kk ≤ p ∧ p < kk + j
  · rw [if_pos c, if_pos (by omega)]
  · rw [if_neg c, if_neg (by omega)]
theorem burstB_one {S : List Nat} {kk wh j : Nat} (hS : ∀ x ∈ S, x ≤ 1) (_h : kk + j < S.length) (hb : wh / 2 ^ j % 2 = 1) : (burstB S kk wh j).set (kk + j) (1 - S[kk + j]?.getD 0) = burstB S kk wh (j + 1) := by
  apply List.ext_getElem
  · rw [List.length_set, burstB_length, burstB_length]
  · intro p h1 h2
    rw [burstB_length] at h2
    by_cases c : p = kk + j
    · subst c
      rw [List.getElem_set_self]
      have h := getD_bit hS (kk + j)
      have hm : maskB kk wh (j + 1) (kk + j) = 1 := by
        unfold maskB
        rw [if_pos (by omega), Nat.add_sub_cancel_left]
        exact hb
      have e : (burstB S kk wh (j + 1))[kk + j] = S[kk + j]?.getD 0 ^^^ maskB kk wh (j + 1) (kk + j) := by simp [burstB]
      rw [e, hm]
      obtain e0 | e0 : S[kk + j]?.getD 0 = 0 ∨ S[kk + j]?.getD 0 = 1 := by omega
      · rw [e0]; rfl
      · rw [e0]; rfl
    · rw [List.getElem_set_ne (by omega)]
      simp only [burstB, List.getElem_map, List.getElem_range]
      rw [maskB_other c]
theorem burstB_zero {S : List Nat} {kk wh j : Nat} (hb : wh / 2 ^ j % 2 = 0) : burstB S kk wh (j + 1) = burstB S kk wh j := by
  unfold burstB
  apply List.map_congr_left
  intro p _
  by_cases c : p = kk + j
  · subst c
    have h1 : maskB kk wh (j + 1) (kk + j) = 0 := by
      unfold maskB
      rw [if_pos (by omega), Nat.add_sub_cancel_left]
      exact hb
    rw [h1, show maskB kk wh j (kk + j) = 0 from if_neg (by omega)]
  · rw [maskB_other c]
theorem burstB_le {S : List Nat} (hS : ∀ x ∈ S, x ≤ 1) (kk wh j : Nat) : ∀ x ∈ burstB S kk wh j, x ≤ 1 := by
  intro x hx
  obtain ⟨p, _, rfl⟩ := List.mem_map.1 hx
  exact xor_bit1 (getD_bit hS p) (maskB_le _ _ _ _)
theorem burstB_zip (S : List Nat) (kk wh j : Nat) : burstB S kk wh j = List.zipWith (· ^^^ ·) S ((List.range S.length).map (maskB kk wh j)) := by
  apply List.ext_getElem
  · simp [burstB]
  · intro i h1 h2
    rw [burstB_length] at h1
    simp [burstB, h1]
theorem mask_list (kk wh m : Nat) : (List.range (kk + (15 + m))).map (maskB kk wh 15) = List.replicate kk 0 ++ ((List.range 15).map (fun j => wh / 2 ^ j % 2) ++ List.replicate m 0) := by
  apply List.ext_getElem
  · simp
  · intro i h1 h2
    simp only [List.getElem_map, List.getElem_range, List.getElem_append, List.getElem_replicate, List.length_replicate, List.length_map, List.length_range]
    unfold maskB
    by_cases c1 : i < kk
    · rw [if_neg (by omega), dif_pos c1]
    · by_cases c2 : i - kk < 15
      · rw [if_pos (by omega), dif_neg c1, dif_pos c2]
      · rw [if_neg (by omega), dif_neg c1, dif_neg c2]
theorem mask_crc (kk wh m : Nat) : crcOf ((List.range (kk + (15 + m))).map (maskB kk wh 15)) 0 = 0 ↔ ∀ j, j < 15 → wh / 2 ^ j % 2 = 0 := by
  have hr : ∀ x ∈ (List.range 15).map (fun j => wh / 2 ^ j % 2), x ≤ 1 := by
    intro x hx
    obtain ⟨j, _, rfl⟩ := List.mem_map.1 hx
    omega
  rw [mask_list, crcOf_append, crcOf_append, (crcOf_zeros kk 0 (by omega)).2 rfl, crcOf_zeros m _ (crcOf_lt _ _ (by omega))]
  constructor
  · intro h j hj
    have := (crcOf_last _ (by simp) hr 0 (by omega) h).2 j (by simpa using hj)
    simpa [hj] using this
  · intro h
    have e : (List.range 15).map (fun j => wh / 2 ^ j % 2) = List.replicate 15 0 := by
      apply List.ext_getElem
      · simp
      · intro i h1 h2
        simp only [List.length_map, List.length_range] at h1
        simp only [List.getElem_map, List.getElem_range, List.getElem_replicate]
        exact h i h1
    rw [e]
    exact (crcOf_zeros 15 0 (by omega)).2 rfl
def anyB (wh j : Nat) : Bool := (List.range j).any (fun i => wh / 2 ^ i % 2 == 1)
theorem anyB_succ (wh j : Nat) : anyB wh (j + 1) = (anyB wh j || wh / 2 ^ j % 2 == 1) := by simp [anyB, List.range_succ]
theorem anyB_false (wh : Nat) : anyB wh 15 = false ↔ ∀ j, j < 15 → wh / 2 ^ j % 2 = 0 := by
  unfold anyB
  rw [List.any_eq_false]
  constructor
  · intro h j hj
    have := h j (List.mem_range.2 hj)
    simp at this
    omega
  · intro h j hj
    have := h j (List.mem_range.1 hj)
    simp [this]
theorem burst_sum {S : List Nat} {kk wh m : Nat} (hS : ∀ x ∈ S, x ≤ 1) (hl : S.length = kk + (15 + m)) (h0 : crcOf S 0 = 0) : decide (crcOf (burstB S kk wh 15) 0 = 0) = !anyB wh 15 := by
  have h := crcOf_xor S ((List.range S.length).map (maskB kk wh 15)) 0 0 (by simp) hS (fun x hx => by obtain ⟨j, _, rfl⟩ := List.mem_map.1 hx; exact maskB_le _ _ _ _)
  rw [show (0 : Nat) ^^^ 0 = 0 from rfl, h0, Nat.zero_xor, ← burstB_zip, hl] at h
  rw [h]
  cases c : anyB wh 15 with
  | false => simpa using (mask_crc kk wh m).2 ((anyB_false wh).1 c)
  | true =>
    have : ¬ crcOf ((List.range (kk + (15 + m))).map (maskB kk wh 15)) 0 = 0 := fun e => by
      rw [(anyB_false wh).2 ((mask_crc kk wh m).1 e)] at c
      cases c
    simpa using this
theorem sealB_zero (l : List Nat) : crcOf (l ++ ofB (crcOf l 0) 15) 0 = 0 := by
  rw [crcOf_append]
  exact crcOf_seal _ (crcOf_lt _ _ (by omega))
theorem sealB_le (l : List Nat) (s : Nat) (hb : ∀ x ∈ l, x ≤ 1) : ∀ x ∈ l ++ ofB s 15, x ≤ 1 := by
  intro x hx
  rcases List.mem_append.1 hx with h | h
  · exact hb x h
  · rw [← bitsOf_ofB] at h
    exact bitsOf_le _ x h
/-- How many of the first k places are unlike. -/
def diffN (T S : List Nat) (k : Nat) : Nat := ((List.range k).filter (fun p => T[p]?.getD 0 != S[p]?.getD 0)).length
theorem diffN_succ (T S : List Nat) (k : Nat) : diffN T S (k + 1) = diffN T S k + (if T[k]?.getD 0 = S[k]?.getD 0 then 0 else 1) := by
  unfold diffN
  rw [List.range_succ, List.filter_append, List.length_append]
  by_cases c : T[k]?.getD 0 = S[k]?.getD 0
  · simp [c]
  · simp [c]
def unlikeB (T S : List Nat) (k : Nat) : List Nat := (List.range k).map (fun p => T[p]?.getD 0 ^^^ S[p]?.getD 0)
theorem unlikeB_succ (T S : List Nat) (k : Nat) : unlikeB T S (k + 1) = unlikeB T S k ++ [T[k]?.getD 0 ^^^ S[k]?.getD 0] := by simp [unlikeB, List.range_succ]
theorem oddB_snoc (l : List Nat) (b : Nat) : oddB (l ++ [b]) = (oddB l ^^ (b == 1)) := by simp [oddB]
theorem odd_diff {T S : List Nat} (hT : ∀ x ∈ T, x ≤ 1) (hS : ∀ x ∈ S, x ≤ 1) (k : Nat) : oddB (unlikeB T S k) = (diffN T S k % 2 == 1) := by
  induction k with
  | zero => rfl
  | succ k ih =>
    rw [unlikeB_succ, oddB_snoc, ih, diffN_succ]
    have h1 := getD_bit hT k
    have h2 := getD_bit hS k
    obtain ⟨d, hd⟩ : ∃ d, d = diffN T S k := ⟨_, rfl⟩
    rw [← hd]
    have hx : (T[k]?.getD 0 ^^^ S[k]?.getD 0 == 1) = !(decide (T[k]?.getD 0 = S[k]?.getD 0)) := by
      obtain e0 | e0 : T[k]?.getD 0 = 0 ∨ T[k]?.getD 0 = 1 := by omega
      · obtain e1 | e1 : S[k]?.getD 0 = 0 ∨ S[k]?.getD 0 = 1 := by omega
        · rw [e0, e1]; rfl
        · rw [e0, e1]; rfl
      · obtain e1 | e1 : S[k]?.getD 0 = 0 ∨ S[k]?.getD 0 = 1 := by omega
        · rw [e0, e1]; rfl
        · rw [e0, e1]; rfl
    rw [hx]
    by_cases c : T[k]?.getD 0 = S[k]?.getD 0
    · rw [if_pos c, decide_eq_true c]; simp
    · rw [if_neg c, decide_eq_false c]
      obtain e | e : d % 2 = 0 ∨ d % 2 = 1 := by omega
      · rw [show (d + 1) % 2 = 1 by omega, e]; rfl
      · rw [show (d + 1) % 2 = 0 by omega, e]; rfl
theorem unlikeB_zip (T S : List Nat) (h : T.length = S.length) : unlikeB T S S.length = List.zipWith (· ^^^ ·) T S := by
  apply List.ext_getElem
  · simp [unlikeB, h]
  · intro i h1 h2
    simp [unlikeB] at h1
    simp [unlikeB, show i < T.length by omega, h1]
/-- An odd number of changed bits is told. -/
theorem odd_told {T S : List Nat} (hT : ∀ x ∈ T, x ≤ 1) (hS : ∀ x ∈ S, x ≤ 1) (hl : T.length = S.length) (h0 : crcOf S 0 = 0) (hodd : diffN T S S.length % 2 = 1) : crcOf T 0 ≠ 0 := by
  intro h
  have hx := crcOf_xor T S 0 0 hl hT hS
  rw [show (0 : Nat) ^^^ 0 = 0 from rfl, h0, h, show (0 : Nat) ^^^ 0 = 0 from rfl, ← unlikeB_zip T S hl] at hx
  have ho := even_of_zero _ hx
  rw [odd_diff hT hS, hodd] at ho
  cases ho
end Go.Proofs.Ytbdockeopbfliaa
/- Identifiers, their bits, keys and texts (mathematics, no program in it). No conditions. -/
namespace Go.Proofs.Ytbdockeopbfliaa
open Go.RowKit Go.Shelf
/-- A number out of bits, whatever their number. -/
def numP (l : List Nat) : Nat := l.foldl (fun n b => 2 * n + b) 0
theorem numP_snoc (l : List Nat) (b : Nat) : numP (l ++ [b]) = 2 * numP l + b := by simp [numP]
theorem numP_append (l : List Nat) : ∀ r : List Nat, numP (l ++ r) = numP l * 2 ^ r.length + numP r := by
  intro r
  obtain ⟨k, hk⟩ : ∃ k, r.length = k := ⟨_, rfl⟩
  induction k generalizing r with
  | zero =>
    obtain rfl := List.length_eq_zero_iff.1 hk
    simp [numP]
  | succ k ih =>
    rcases List.eq_nil_or_concat r with rfl | ⟨r', b, rfl⟩
    · cases hk
    · rw [List.concat_eq_append] at hk ⊢
      have hl : r'.length = k := by simpa using hk
      rw [← List.append_assoc, numP_snoc, numP_snoc, ih r' hl, List.length_append, List.length_singleton, Nat.pow_succ]
      rw [Nat.mul_add, ← Nat.add_assoc, Nat.mul_comm (2 ^ r'.length) 2, ← Nat.mul_assoc, ← Nat.mul_assoc, Nat.mul_comm 2 (numP l)]
theorem numP_lt (l : List Nat) (hb : ∀ x ∈ l, x ≤ 1) : numP l < 2 ^ l.length := by
  obtain ⟨k, hk⟩ : ∃ k, l.length = k := ⟨_, rfl⟩
  induction k generalizing l with
  | zero =>
    obtain rfl := List.length_eq_zero_iff.1 hk
    exact Nat.one_pos
  | succ k ih =>
    rcases List.eq_nil_or_concat l with rfl | ⟨l', b, rfl⟩
    · cases hk
    · rw [List.concat_eq_append] at hk hb ⊢
      have hl : l'.length = k := by simpa using hk
      have h := ih l' (fun x hx => hb x (by simp [hx])) hl
      have h1 : b ≤ 1 := hb b (by simp)
      rw [numP_snoc, List.length_append, List.length_singleton, Nat.pow_succ]
      omega
theorem numP_zeros (m : Nat) : numP (List.replicate m 0) = 0 := by
  induction m with
  | zero => rfl
  | succ m ih => rw [List.replicate_succ', numP_snoc, ih]
theorem numB_numP (l : List Nat) (hb : ∀ x ∈ l, x ≤ 1) (hl : l.length ≤ 64) : numB l = numP l := by
  obtain ⟨k, hk⟩ : ∃ k, l.length = k := ⟨_, rfl⟩
  induction k generalizing l with
  | zero =>
    obtain rfl := List.length_eq_zero_iff.1 hk
    rfl
  | succ k ih =>
    rcases List.eq_nil_or_concat l with rfl | ⟨l', b, rfl⟩
    · cases hk
    · rw [List.concat_eq_append] at hk hb hl ⊢
      have hlk : l'.length = k := by simpa using hk
      have h1 : b ≤ 1 := hb b (by simp)
      have hl' : l'.length + 1 ≤ 64 := by simpa using hl
      have hp := numP_lt l' (fun x hx => hb x (by simp [hx]))
      have hpp : 2 ^ l'.length ≤ 2 ^ 63 := Nat.pow_le_pow_right (by omega) (by omega)
      rw [numB_snoc, numP_snoc, ih l' (fun x hx => hb x (by simp [hx])) (by omega) hlk, Nat.mod_eq_of_lt (by omega)]
theorem ofB_le (n w : Nat) : ∀ x ∈ ofB n w, x ≤ 1 := by
  intro x hx
  rw [← bitsOf_ofB] at hx
  exact bitsOf_le _ x hx
theorem numP_ofB (n w : Nat) (h : w ≤ 64) : numP (ofB n w) = n % 2 ^ w := by
  rw [← numB_numP _ (ofB_le n w) (by rw [ofB_length]; exact h), numB_ofB _ _ h]
/-- The first place at which two strings are unlike decides which number is less. -/
theorem first_unlike {p s t : List Nat} (hs : ∀ x ∈ s, x ≤ 1) (hl : s.length = t.length) : numP (p ++ 0 :: s) < numP (p ++ 1 :: t) := by
  have e1 : p ++ 0 :: s = (p ++ [0]) ++ s := by simp
  have e2 : p ++ 1 :: t = (p ++ [1]) ++ t := by simp
  rw [e1, e2, numP_append (p ++ [0]) s, numP_append (p ++ [1]) t, numP_snoc, numP_snoc, hl]
  have h := numP_lt s hs
  rw [hl] at h
  have : (2 * numP p + 0) * 2 ^ t.length + 2 ^ t.length = (2 * numP p + 1) * 2 ^ t.length := by rw [Nat.add_zero, Nat.add_mul (2 * numP p) 1, Nat.one_mul]
  omega
/-- Whether an identifier can be. -/
def rightI (e : Bool) (n : Nat) : Bool := if e then decide (n < 536870912) else decide (n < 2048)
def askN (r : Bool) : Nat := if r then 1 else 0
theorem askN_le (r : Bool) : askN r ≤ 1 := by cases r <;> decide
def idBits (e : Bool) (n : Nat) (r : Bool) : List Nat :=
  if rightI e n then (if e then ofB (n / 262144) 11 ++ ([1, 1] ++ (ofB n 18 ++ [askN r])) else ofB ((n * 2 + askN r) * 2) 13) else []
def idKey (e : Bool) (n : Nat) (r : Bool) : Nat :=
  if rightI e n then (if e then (n / 262144) * 2097152 + 1572864 + (n % 262144) * 2 + askN r else n * 2097152 + askN r * 1048576) else 0
theorem idBits_le (e : Bool) (n : Nat) (r : Bool) : ∀ x ∈ idBits e n r, x ≤ 1 := by
  intro x hx
  unfold idBits at hx
  split at hx
  · split at hx
    · rcases List.mem_append.1 hx with h | h
      · exact ofB_le _ _ x h
      · rcases List.mem_append.1 h with h | h
        · simp at h; omega
        · rcases List.mem_append.1 h with h | h
          · exact ofB_le _ _ x h
          · have := askN_le r
            simp at h; omega
    · exact ofB_le _ _ x hx
  · cases hx
theorem idBits_length (e : Bool) (n : Nat) (r : Bool) (h : rightI e n = true) : (idBits e n r).length = if e then 32 else 13 := by
  unfold idBits
  rw [if_pos h]
  cases e
  · simp [ofB_length]
  · simp [ofB_length]
theorem idKey_bits (e : Bool) (n : Nat) (r : Bool) (h : rightI e n = true) : numP (idBits e n r ++ List.replicate (32 - (idBits e n r).length) 0) = idKey e n r := by
  have ha := askN_le r
  rw [numP_append, numP_zeros, List.length_replicate, idBits_length e n r h]
  unfold idBits idKey
  rw [if_pos h, if_pos h]
  cases e with
  | false =>
    have hn : n < 2048 := by simpa [rightI] using h
    simp only [Bool.false_eq_true, if_false]
    rw [numP_ofB _ _ (by omega)]
    omega
  | true =>
    have hn : n < 536870912 := by simpa [rightI] using h
    simp only [if_true]
    rw [numP_append, numP_append, numP_append, numP_ofB _ _ (by omega), numP_ofB _ _ (by omega)]
    simp only [List.length_append, ofB_length, List.length_cons, List.length_nil]
    have e1 : numP [1, 1] = 3 := rfl
    have e2 : numP [askN r] = askN r := by simp [numP]
    rw [e1, e2]
    omega
theorem idKey_lt (e : Bool) (n : Nat) (r : Bool) : idKey e n r < 4294967296 := by
  have ha := askN_le r
  unfold idKey
  split
  · rename_i h
    cases e with
    | false =>
      have hn : n < 2048 := by simpa [rightI] using h
      simp only [Bool.false_eq_true, if_false]
      omega
    | true =>
      have hn : n < 536870912 := by simpa [rightI] using h
      simp only [if_true]
      omega
  · omega
theorem askN_inj {r s : Bool} (h : askN r = askN s) : r = s := by
  cases r <;> cases s <;> first | rfl | cases h
theorem idKey_inj {e f r s : Bool} {n m : Nat} (he : rightI e n = true) (hf : rightI f m = true) (h : idKey e n r = idKey f m s) : e = f ∧ n = m ∧ r = s := by
  have ha := askN_le r
  have hb := askN_le s
  unfold idKey at h
  rw [if_pos he, if_pos hf] at h
  cases e with
  | false =>
    have hn : n < 2048 := by simpa [rightI] using he
    cases f with
    | false =>
      have hm : m < 2048 := by simpa [rightI] using hf
      simp only [Bool.false_eq_true, if_false] at h
      exact ⟨rfl, by omega, askN_inj (by omega)⟩
    | true =>
      have hm : m < 536870912 := by simpa [rightI] using hf
      simp only [Bool.false_eq_true, if_false, if_true] at h
      omega
  | true =>
    have hn : n < 536870912 := by simpa [rightI] using he
    cases f with
    | false =>
      have hm : m < 2048 := by simpa [rightI] using hf
      simp only [Bool.false_eq_true, if_false, if_true] at h
      omega
    | true =>
      have hm : m < 536870912 := by simpa [rightI] using hf
      simp only [if_true] at h
      exact ⟨rfl, by omega, askN_inj (by omega)⟩
def winsI (e : Bool) (n : Nat) (r : Bool) (f : Bool) (m : Nat) (s : Bool) : Bool := rightI e n && rightI f m && decide (idKey e n r < idKey f m s)
/-- Whose bits are alike as far as both go is the same. -/
theorem idBits_same {e f r s : Bool} {n m : Nat} (he : rightI e n = true) (hf : rightI f m = true) (h : ∀ i, i < (idBits e n r).length → i < (idBits f m s).length → (idBits e n r)[i]?.getD 0 = (idBits f m s)[i]?.getD 0) : e = f ∧ n = m ∧ r = s := by
  have l1 := idBits_length e n r he
  have l2 := idBits_length f m s hf
  have same : ∀ {x y : List Nat}, x.length = y.length → (∀ i, i < x.length → i < y.length → x[i]?.getD 0 = y[i]?.getD 0) → x = y := fun hl hh => by
    apply List.ext_getElem hl
    intro i h1 h2
    have := hh i h1 h2
    simpa [h1, h2] using this
  by_cases c : e = f
  · subst c
    have hx := same (by rw [l1, l2]) h
    have hk := idKey_bits e n r he
    rw [hx, idKey_bits e m s hf] at hk
    exact idKey_inj he hf hk.symm
  · exfalso
    have twelve : ∀ (n : Nat) (r : Bool), rightI false n = true → (idBits false n r)[12]?.getD 0 = 0 := fun n r h => by
      unfold idBits
      rw [if_pos h]
      simp only [Bool.false_eq_true, if_false]
      rw [ofB_get _ _ _ (by omega)]
      unfold bitFrom
      omega
    have thirteen : ∀ (n : Nat) (r : Bool), rightI true n = true → (idBits true n r)[12]?.getD 0 = 1 := fun n r h => by
      unfold idBits
      rw [if_pos h]
      simp only [if_true]
      rw [List.getElem?_append_right (by rw [ofB_length]; omega), ofB_length]
      rfl
    cases e with
    | false =>
      obtain rfl : f = true := by cases f; exact absurd rfl c; rfl
      have := h 12 (by rw [l1]; decide) (by rw [l2]; decide)
      rw [twelve _ _ he, thirteen _ _ hf] at this
      cases this
    | true =>
      obtain rfl : f = false := by cases f; rfl; exact absurd rfl c
      have := h 12 (by rw [l1]; decide) (by rw [l2]; decide)
      rw [thirteen _ _ he, twelve _ _ hf] at this
      cases this
theorem split_at {x : List Nat} {i : Nat} (h : i < x.length) : x = x.take i ++ x[i]?.getD 0 :: x.drop (i + 1) := by
  have e : x[i]?.getD 0 = x[i] := by simp [h]
  rw [e, ← List.drop_eq_getElem_cons h, List.take_append_drop]
/-- Who wins has 0 at the first place at which both are unlike. -/
theorem first_wins {e f r s : Bool} {n m i : Nat} (he : rightI e n = true) (hf : rightI f m = true) (h1 : i < (idBits e n r).length) (h2 : i < (idBits f m s).length)
    (hsame : ∀ j, j < i → (idBits e n r)[j]?.getD 0 = (idBits f m s)[j]?.getD 0) (hne : (idBits e n r)[i]?.getD 0 ≠ (idBits f m s)[i]?.getD 0) :
    winsI e n r f m s = decide ((idBits e n r)[i]?.getD 0 = 0) := by
  have l1 := idBits_length e n r he
  have l2 := idBits_length f m s hf
  obtain ⟨x, hx⟩ : ∃ x, x = idBits e n r := ⟨_, rfl⟩
  obtain ⟨y, hy⟩ : ∃ y, y = idBits f m s := ⟨_, rfl⟩
  have hxb := idBits_le e n r
  have hyb := idBits_le f m s
  have kx := idKey_bits e n r he
  have ky := idKey_bits f m s hf
  rw [← hx] at h1 hsame hne hxb kx l1 ⊢
  rw [← hy] at h2 hsame hne hyb ky l2
  clear hx hy
  have ex := split_at h1
  have ey := split_at h2
  have ep : x.take i = y.take i := by
    apply List.ext_getElem
    · rw [List.length_take, List.length_take]; omega
    · intro j a b
      rw [List.length_take] at a b
      have := hsame j (by omega)
      rw [List.getElem_take, List.getElem_take]
      simpa [show j < x.length by omega, show j < y.length by omega] using this
  have x1 : x[i]?.getD 0 ≤ 1 := by
    have : x[i]?.getD 0 = x[i] := by simp [h1]
    rw [this]; exact hxb _ (List.getElem_mem h1)
  have y1 : y[i]?.getD 0 ≤ 1 := by
    have : y[i]?.getD 0 = y[i] := by simp [h2]
    rw [this]; exact hyb _ (List.getElem_mem h2)
  have lx : x.length ≤ 32 := by rw [l1]; split <;> omega
  have ly : y.length ≤ 32 := by rw [l2]; split <;> omega
  obtain ⟨p, hp⟩ : ∃ p, p = x.take i := ⟨_, rfl⟩
  obtain ⟨sx, hsx⟩ : ∃ sx, sx = x.drop (i + 1) ++ List.replicate (32 - x.length) 0 := ⟨_, rfl⟩
  obtain ⟨sy, hsy⟩ : ∃ sy, sy = y.drop (i + 1) ++ List.replicate (32 - y.length) 0 := ⟨_, rfl⟩
  have ax : x ++ List.replicate (32 - x.length) 0 = p ++ x[i]?.getD 0 :: sx := by
    rw [hp, hsx, ← List.cons_append, ← List.append_assoc, ← ex]
  have ay : y ++ List.replicate (32 - y.length) 0 = p ++ y[i]?.getD 0 :: sy := by
    rw [hp, ep, hsy, ← List.cons_append, ← List.append_assoc, ← ey]
  have hll : sx.length = sy.length := by rw [hsx, hsy, List.length_append, List.length_append, List.length_drop, List.length_drop, List.length_replicate, List.length_replicate]; omega
  have bx : ∀ z ∈ sx, z ≤ 1 := fun z hz => by
    rw [hsx] at hz
    rcases List.mem_append.1 hz with h | h
    · exact hxb z (List.mem_of_mem_drop h)
    · rw [List.eq_of_mem_replicate h]; omega
  have bY : ∀ z ∈ sy, z ≤ 1 := fun z hz => by
    rw [hsy] at hz
    rcases List.mem_append.1 hz with h | h
    · exact hyb z (List.mem_of_mem_drop h)
    · rw [List.eq_of_mem_replicate h]; omega
  rw [ax] at kx
  rw [ay] at ky
  unfold winsI
  rw [he, hf, Bool.true_and, Bool.true_and, ← kx, ← ky]
  obtain e0 | e0 : x[i]?.getD 0 = 0 ∨ x[i]?.getD 0 = 1 := by omega
  · have e1 : y[i]?.getD 0 = 1 := by omega
    rw [e0, e1, decide_eq_true (first_unlike bx hll), decide_eq_true rfl]
  · have e1 : y[i]?.getD 0 = 0 := by omega
    have h := first_unlike (p := p) bY hll.symm
    rw [e0, e1, decide_eq_false (by omega), decide_eq_false (by omega)]
end Go.Proofs.Ytbdockeopbfliaa
/- Identifiers' texts and keys, there and back (mathematics, no program in it). No conditions. -/
namespace Go.Proofs.Ytbdockeopbfliaa
open Go.RowKit Go.Shelf
/-- The identifier that a key is of, whether it is asked for, and whether there is one. -/
def ofKey (k : Nat) : Option (Bool × Nat × Bool) :=
  if k / 524288 % 2 = 0 then (if k % 524288 = 0 then some (false, k / 2097152, decide (k / 1048576 % 2 = 1)) else none)
  else if k / 1048576 % 2 = 1 then some (true, k / 2097152 * 262144 + k / 2 % 262144, decide (k % 2 = 1)) else none
theorem askN_of (a : Nat) (h : a ≤ 1) : askN (decide (a = 1)) = a := by
  obtain rfl | rfl : a = 0 ∨ a = 1 := by omega
  · rfl
  · rfl
theorem ofKey_key {e : Bool} {n : Nat} {r : Bool} (h : rightI e n = true) : ofKey (idKey e n r) = some (e, n, r) := by
  have ha := askN_le r
  have hr : ∀ a, a = askN r → decide (a = 1) = r := fun a e => by rw [e]; cases r <;> rfl
  obtain ⟨k, hk⟩ : ∃ k, k = idKey e n r := ⟨_, rfl⟩
  rw [← hk]
  unfold idKey at hk
  rw [if_pos h] at hk
  unfold ofKey
  cases e with
  | false =>
    have hn : n < 2048 := by simpa [rightI] using h
    simp only [Bool.false_eq_true, if_false] at hk
    rw [if_pos (by omega), if_pos (by omega), hr _ (show k / 1048576 % 2 = askN r by omega), show k / 2097152 = n by omega]
  | true =>
    have hn : n < 536870912 := by simpa [rightI] using h
    simp only [if_true] at hk
    rw [if_neg (by omega), if_pos (by omega), hr _ (show k % 2 = askN r by omega), show k / 2097152 * 262144 + k / 2 % 262144 = n by omega]
theorem key_ofKey {k : Nat} (hk : k < 4294967296) {e : Bool} {n : Nat} {r : Bool} (h : ofKey k = some (e, n, r)) : rightI e n = true ∧ idKey e n r = k := by
  unfold ofKey at h
  split at h
  · rename_i c
    split at h
    · rename_i c2
      have h' := Option.some.inj h
      have he : false = e := congrArg Prod.fst h'
      have hn : k / 2097152 = n := congrArg (fun z => z.2.1) h'
      have hr : decide (k / 1048576 % 2 = 1) = r := congrArg (fun z => z.2.2) h'
      subst he hn hr
      have hR : rightI false (k / 2097152) = true := by
        show decide (k / 2097152 < 2048) = true
        rw [decide_eq_true (by omega)]
      refine ⟨hR, ?_⟩
      unfold idKey
      rw [if_pos hR]
      simp only [Bool.false_eq_true, if_false]
      rw [askN_of _ (by omega)]
      omega
    · cases h
  · rename_i c
    split at h
    · rename_i c2
      have h' := Option.some.inj h
      have he : true = e := congrArg Prod.fst h'
      have hn : k / 2097152 * 262144 + k / 2 % 262144 = n := congrArg (fun z => z.2.1) h'
      have hr : decide (k % 2 = 1) = r := congrArg (fun z => z.2.2) h'
      subst he hn hr
      have hR : rightI true (k / 2097152 * 262144 + k / 2 % 262144) = true := by
        show decide (k / 2097152 * 262144 + k / 2 % 262144 < 536870912) = true
        rw [decide_eq_true (by omega)]
      refine ⟨hR, ?_⟩
      unfold idKey
      rw [if_pos hR]
      simp only [if_true]
      rw [askN_of _ (by omega)]
      omega
    · cases h
/-- A digit, hexadecimal, and what a sign is as one: 16 where it is none. -/
def hexD (d : Nat) : Nat := if d < 10 then 48 + d else 87 + d
def unhex (c : Nat) : Nat := if 48 ≤ c ∧ c ≤ 57 then c - 48 else if 97 ≤ c ∧ c ≤ 102 then c - 97 + 10 else 16
theorem unhex_hexD (d : Nat) (h : d < 16) : unhex (hexD d) = d := by
  unfold hexD unhex
  by_cases c : d < 10
  · rw [if_pos c, if_pos (by omega)]; omega
  · rw [if_neg c, if_neg (by omega), if_pos (by omega)]; omega
theorem hexD_unhex (c : Nat) (h : unhex c ≠ 16) : hexD (unhex c) = c ∧ unhex c < 16 := by
  unfold unhex at h ⊢
  by_cases h1 : 48 ≤ c ∧ c ≤ 57
  · rw [if_pos h1] at h ⊢
    unfold hexD
    rw [if_pos (by omega)]
    omega
  · rw [if_neg h1] at h ⊢
    by_cases h2 : 97 ≤ c ∧ c ≤ 102
    · rw [if_pos h2] at h ⊢
      unfold hexD
      rw [if_neg (by omega)]
      omega
    · rw [if_neg h2] at h
      exact absurd rfl h
/-- The k lowest digits of a number, the highest one first. -/
def hexT (n : Nat) : Nat → List Nat
  | 0 => []
  | k + 1 => hexT (n / 16) k ++ [hexD (n % 16)]
theorem hexT_length (k : Nat) : ∀ n, (hexT n k).length = k := by
  induction k with
  | zero => intro n; rfl
  | succ k ih => intro n; show (hexT (n / 16) k ++ _).length = _; rw [List.length_append, ih]; rfl
/-- The number that digits are, or none where one is no digit. -/
def unhexT (l : List Nat) : Option Nat := l.foldl (fun a c => a.bind fun n => if unhex c = 16 then none else some (n * 16 + unhex c)) (some 0)
theorem unhexT_snoc (l : List Nat) (c : Nat) : unhexT (l ++ [c]) = (unhexT l).bind fun n => if unhex c = 16 then none else some (n * 16 + unhex c) := by simp [unhexT]
theorem unhexT_hexT (k : Nat) : ∀ n, n < 16 ^ k → unhexT (hexT n k) = some n := by
  induction k with
  | zero =>
    intro n h
    obtain rfl : n = 0 := by simpa using h
    rfl
  | succ k ih =>
    intro n h
    rw [Nat.pow_succ] at h
    show unhexT (hexT (n / 16) k ++ [hexD (n % 16)]) = _
    rw [unhexT_snoc, ih (n / 16) (by omega), unhex_hexD _ (by omega)]
    show (if n % 16 = 16 then none else some (n / 16 * 16 + n % 16)) = _
    rw [if_neg (by omega)]
    exact congrArg some (by omega)
theorem hexT_unhexT (k : Nat) : ∀ (l : List Nat) (n : Nat), l.length = k → unhexT l = some n → hexT n k = l ∧ n < 16 ^ k := by
  induction k with
  | zero =>
    intro l n hl h
    obtain rfl := List.length_eq_zero_iff.1 hl
    cases h
    exact ⟨rfl, by decide⟩
  | succ k ih =>
    intro l n hl h
    rcases List.eq_nil_or_concat l with rfl | ⟨l', c, rfl⟩
    · cases hl
    · rw [List.concat_eq_append] at hl h ⊢
      rw [unhexT_snoc] at h
      cases h' : unhexT l' with
      | none => rw [h'] at h; cases h
      | some m =>
        rw [h'] at h
        change (if unhex c = 16 then none else some (m * 16 + unhex c)) = some n at h
        by_cases hc : unhex c = 16
        · rw [if_pos hc] at h; cases h
        · rw [if_neg hc] at h
          obtain ⟨h1, h2⟩ := hexD_unhex c hc
          have hn : m * 16 + unhex c = n := Option.some.inj h
          obtain ⟨i1, i2⟩ := ih l' m (by simpa using hl) h'
          refine ⟨?_, by rw [Nat.pow_succ]; omega⟩
          show hexT (n / 16) k ++ [hexD (n % 16)] = _
          rw [show n / 16 = m by omega, show n % 16 = unhex c by omega, i1, h1]
def idText (e : Bool) (n : Nat) : List Nat := if rightI e n then (if e then hexT n 8 else hexT n 3) else []
def idParse (l : List Nat) : Option (Bool × Nat) :=
  if l.length = 3 then (unhexT l).bind fun n => if rightI false n then some (false, n) else none
  else if l.length = 8 then (unhexT l).bind fun n => if rightI true n then some (true, n) else none
  else none
theorem parse_text {e : Bool} {n : Nat} (h : rightI e n = true) : idParse (idText e n) = some (e, n) := by
  unfold idText
  rw [if_pos h]
  cases e with
  | false =>
    have hn : n < 2048 := by simpa [rightI] using h
    simp only [Bool.false_eq_true, if_false]
    unfold idParse
    rw [if_pos (hexT_length 3 n), unhexT_hexT 3 n (by omega)]
    show (if rightI false n then _ else _) = _
    rw [if_pos h]
  | true =>
    have hn : n < 536870912 := by simpa [rightI] using h
    simp only [if_true]
    unfold idParse
    rw [if_neg (by rw [hexT_length]; omega), if_pos (hexT_length 8 n), unhexT_hexT 8 n (by omega)]
    show (if rightI true n then _ else _) = _
    rw [if_pos h]
theorem text_parse {l : List Nat} {e : Bool} {n : Nat} (h : idParse l = some (e, n)) : rightI e n = true ∧ idText e n = l := by
  unfold idParse at h
  by_cases h3 : l.length = 3
  · rw [if_pos h3] at h
    cases h' : unhexT l with
    | none => rw [h'] at h; cases h
    | some m =>
      rw [h'] at h
      change (if rightI false m = true then some (false, m) else none) = some (e, n) at h
      by_cases hr : rightI false m = true
      · rw [if_pos hr] at h
        cases h
        refine ⟨hr, ?_⟩
        unfold idText
        rw [if_pos hr]
        exact (hexT_unhexT 3 l _ h3 h').1
      · rw [if_neg hr] at h; cases h
  · rw [if_neg h3] at h
    by_cases h8 : l.length = 8
    · rw [if_pos h8] at h
      cases h' : unhexT l with
      | none => rw [h'] at h; cases h
      | some m =>
        rw [h'] at h
        change (if rightI true m = true then some (true, m) else none) = some (e, n) at h
        by_cases hr : rightI true m = true
        · rw [if_pos hr] at h
          cases h
          refine ⟨hr, ?_⟩
          unfold idText
          rw [if_pos hr]
          exact (hexT_unhexT 8 l _ h8 h').1
        · rw [if_neg hr] at h; cases h
    · rw [if_neg h8] at h; cases h
end Go.Proofs.Ytbdockeopbfliaa
/- The document's own answers of layer 5 in plain words (Right, Bits, Key, Wins): what they return. Conditions: an identifier's number is below 2^32. -/
namespace Go.Proofs.Ytbdockeopbfliaa
open Go.RowKit Go.Shelf
/-- An identifier, as a value. -/
def identV (e : Bool) (n : Nat) : Value := .agg #[.bool e, .int .u32 (n : Int)]
theorem refRight5_any (e : Bool) (n : Nat) (w : World) : Calls Try.prog 32 #[identV e n] w fun x w' => x = .returned (.bool (rightI e n)) ∧ Below w.heap.size w w' := by
  unfold identV
  cases e with
  | false =>
    have hd : decide ((n : Int) < 2048) = rightI false n := by
      have e : rightI false n = decide (n < 2048) := by simp [rightI]
      rw [e, Bool.eq_iff_iff, decide_eq_true_iff, decide_eq_true_iff]
      omega
    obtain ⟨b, hb⟩ : ∃ b, b = rightI false n := ⟨_, rfl⟩
    rw [← hb] at hd ⊢
    clear hb
    go_enter Try.func32, Try.ntmps32
    go_wp2
    go_ret
    exact ⟨rfl, (Below.refl _ _).alloc (Nat.le_refl _) _⟩
  | true =>
    have hd : decide ((n : Int) < 536870912) = rightI true n := by
      have e : rightI true n = decide (n < 536870912) := by simp [rightI]
      rw [e, Bool.eq_iff_iff, decide_eq_true_iff, decide_eq_true_iff]
      omega
    obtain ⟨b, hb⟩ : ∃ b, b = rightI true n := ⟨_, rfl⟩
    rw [← hb] at hd ⊢
    clear hb
    go_enter Try.func32, Try.ntmps32
    go_wp2
    go_ret
    exact ⟨rfl, (Below.refl _ _).alloc (Nat.le_refl _) _⟩
theorem two_cell {W : World} {T : TypeId} {x y : Value} : ∀ (j : Nat) (u : Value), [x, y][j]? = some u → (W.alloc (.cells #[x, y] T)).cell? (Addr.add ⟨W.heap.size, 0, none⟩ j) = some u := by
  intro j u hj
  rw [show (⟨W.heap.size, 0, none⟩ : Addr).add j = ⟨W.heap.size, 0 + j, none⟩ from add_off _ _ _, Nat.zero_add]
  match j, hj with
  | 0, hj => simp at hj; subst hj; simp
  | 1, hj => simp at hj; subst hj; simp
theorem two_flat {k : IntKind} {n m : Int} : ∀ u ∈ [Value.int k n, Value.int k m], u.oneCell' = true := by
  intro u hu
  rcases List.mem_cons.1 hu with rfl | hu
  · rfl
  · obtain rfl : u = Value.int k m := by simpa using hu
    rfl
theorem Ow.low {A B : Nat} {W : World} {v : Value} {bs : List Nat} (h : Ow B W v bs) (hA : A ≤ B) : Ow A W v bs := by
  obtain ⟨h0, h⟩ := h
  refine ⟨h0, ?_⟩
  rcases h with h | ⟨g, cap, cur, e, hB, hr⟩
  · exact .inl h
  · exact .inr ⟨g, cap, cur, e, Nat.le_trans hA hB, hr⟩
set_option maxHeartbeats 2000000 in
theorem refBits_any (e : Bool) (n : Nat) (r : Bool) (hn : n < 4294967296) (w : World) : Calls Try.prog 33 #[identV e n, .bool r] w fun x w' => ∃ v, x = .returned v ∧ Ow w.heap.size w' v (idBits e n r) ∧ Below w.heap.size w w' := by
  have HR := Lib.hid (fun u => refRight5_any e n u)
  have hu64 : IntKind.u64.wrap (n : Int) = (n : Int) := by rw [IntKind.wrap_u64]; omega
  unfold identV at HR ⊢
  obtain ⟨i0, hi, hz0, hz1', hz2⟩ := info_parts info_u8
  cases hr : rightI e n with
  | false =>
    have hb : idBits e n r = [] := by unfold idBits; rw [hr]; rfl
    rw [hb]
    rw [hr] at HR
    clear hb hr
    go_enter Try.func33, Try.ntmps33
    go_wp2_with (fail)
    refine (HR.out _).mono ?_
    rintro x w1 ⟨rfl, hb⟩
    have HB := Lib.hid (below_trans' ((Below.refl _ w).alloc (Nat.le_refl _) (.cells #[.bool e, .int .u32 (n : Int)] 34)) hb)
    clear hb
    go_wp2_with (fail)
    go_ret
    exact ⟨_, rfl, Ow.nil _ _, HB.out⟩
  | true =>
    rw [hr] at HR
    cases e with
    | false =>
      have hn2 : n < 2048 := by simpa [rightI] using hr
      cases r
      · have hb : idBits false n false = ofB ((n * 2 + 0) * 2) 13 := by unfold idBits; rw [if_pos hr]; simp [askN]
        rw [hb]
        have e1 : IntKind.u64.wrap ((n : Int) * 2) = ((n * 2 : Nat) : Int) := by rw [IntKind.wrap_u64]; omega
        have e2 : IntKind.u64.wrap ((n * 2 : Nat) : Int) = ((n * 2 + 0 : Nat) : Int) := by rw [IntKind.wrap_u64]; omega
        have e3 : IntKind.u64.wrap (((n * 2 + 0 : Nat) : Int) * 2) = (((n * 2 + 0) * 2 : Nat) : Int) := by rw [IntKind.wrap_u64]; omega
        obtain ⟨v1, hv1⟩ : ∃ v1, v1 = n * 2 := ⟨_, rfl⟩
        rw [← hv1] at e1 e2 e3 ⊢
        obtain ⟨v2, hv2⟩ : ∃ v2, v2 = v1 + 0 := ⟨_, rfl⟩
        rw [← hv2] at e2 e3 ⊢
        obtain ⟨v3, hv3⟩ : ∃ v3, v3 = v2 * 2 := ⟨_, rfl⟩
        rw [← hv3] at e3 ⊢
        have hv : v3 < 18446744073709551616 := by omega
        clear hb hr hv1 hv2 hv3
        go_enter Try.func33, Try.ntmps33
        go_wp2_with (fail)
        refine (HR.out _).mono ?_
        rintro x w1 ⟨rfl, hb⟩
        obtain ⟨p0, p1, _, _⟩ := (Two.new w (.bool false) (.int .u32 (n : Int)) 34 rfl).keep hb (by simp)
        have HB := Lib.hid (below_trans' ((Below.refl _ w).alloc (Nat.le_refl _) (.cells #[.bool false, .int .u32 (n : Int)] 34)) hb)
        clear hb
        go_wp2_with (fail)
        refine (refOf_yes v3 13 hv (by omega) (by omega) _).mono ?_
        rintro x w2 ⟨v, rfl, ho, hb⟩
        have HO := Lib.hid (Ow.low ho HB.out.size)
        have HB2 := Lib.hid (below_trans' HB.out hb)
        clear ho hb HB
        go_wp2_with (fail)
        go_ret
        exact ⟨_, rfl, HO.out, HB2.out⟩
      · have hb : idBits false n true = ofB ((n * 2 + 1) * 2) 13 := by unfold idBits; rw [if_pos hr]; simp [askN]
        rw [hb]
        have e1 : IntKind.u64.wrap ((n : Int) * 2) = ((n * 2 : Nat) : Int) := by rw [IntKind.wrap_u64]; omega
        have e2 : IntKind.u64.wrap (((n * 2 : Nat) : Int) + 1) = ((n * 2 + 1 : Nat) : Int) := by rw [IntKind.wrap_u64]; omega
        have e3 : IntKind.u64.wrap (((n * 2 + 1 : Nat) : Int) * 2) = (((n * 2 + 1) * 2 : Nat) : Int) := by rw [IntKind.wrap_u64]; omega
        obtain ⟨v1, hv1⟩ : ∃ v1, v1 = n * 2 := ⟨_, rfl⟩
        rw [← hv1] at e1 e2 e3 ⊢
        obtain ⟨v2, hv2⟩ : ∃ v2, v2 = v1 + 1 := ⟨_, rfl⟩
        rw [← hv2] at e2 e3 ⊢
        obtain ⟨v3, hv3⟩ : ∃ v3, v3 = v2 * 2 := ⟨_, rfl⟩
        rw [← hv3] at e3 ⊢
        have hv : v3 < 18446744073709551616 := by omega
        clear hb hr hv1 hv2 hv3
        go_enter Try.func33, Try.ntmps33
        go_wp2_with (fail)
        refine (HR.out _).mono ?_
        rintro x w1 ⟨rfl, hb⟩
        obtain ⟨p0, p1, _, _⟩ := (Two.new w (.bool false) (.int .u32 (n : Int)) 34 rfl).keep hb (by simp)
        have HB := Lib.hid (below_trans' ((Below.refl _ w).alloc (Nat.le_refl _) (.cells #[.bool false, .int .u32 (n : Int)] 34)) hb)
        clear hb
        go_wp2_with (fail)
        refine (refOf_yes v3 13 hv (by omega) (by omega) _).mono ?_
        rintro x w2 ⟨v, rfl, ho, hb⟩
        have HO := Lib.hid (Ow.low ho HB.out.size)
        have HB2 := Lib.hid (below_trans' HB.out hb)
        clear ho hb HB
        go_wp2_with (fail)
        go_ret
        exact ⟨_, rfl, HO.out, HB2.out⟩
    | true =>
      have hn2 : n < 536870912 := by simpa [rightI] using hr
      cases r
      · have hb : idBits true n false = ofB (n / 262144) 11 ++ [1, 1] ++ ofB n 18 ++ [0] := by unfold idBits; rw [if_pos hr]; simp [askN]
        rw [hb]
        have e1 : (n : Int) / 262144 = ((n / 262144 : Nat) : Int) := by omega
        obtain ⟨v1, hv1⟩ : ∃ v1, v1 = n / 262144 := ⟨_, rfl⟩
        rw [← hv1] at e1 ⊢
        have hv : v1 < 18446744073709551616 := by omega
        have e2 : IntKind.u64.wrap (v1 : Int) = (v1 : Int) := by rw [IntKind.wrap_u64]; omega
        clear hb hr hv1
        go_enter Try.func33, Try.ntmps33
        go_wp2_with (fail)
        refine (HR.out _).mono ?_
        rintro x w1 ⟨rfl, hb⟩
        have P1 := (Two.new w (.bool true) (.int .u32 (n : Int)) 34 rfl).keep hb (by simp)
        have HP1 := Lib.hid P1
        obtain ⟨p0, p1, _, _⟩ := P1
        have HB := Lib.hid (below_trans' ((Below.refl _ w).alloc (Nat.le_refl _) (.cells #[.bool true, .int .u32 (n : Int)] 34)) hb)
        have hz1 : w.heap.size + 1 ≤ w1.heap.size := by have := hb.size; simp at this; omega
        clear hb
        go_wp2_with (fail)
        refine (refOf_yes v1 11 hv (by omega) (by omega) _).mono ?_
        rintro x w2 ⟨v, rfl, ho, hb⟩
        have HO2 := Lib.hid (Ow.low ho hz1)
        have HB2 := Lib.hid (below_trans' HB.out hb)
        have HP2 := Lib.hid (HP1.out.keep hb (by omega))
        have hz2' : w.heap.size + 1 ≤ w2.heap.size := Nat.le_trans hz1 hb.size
        clear ho hb HB HP1 p0 p1 hz1
        go_wp2_with (at_builtin; refine wpList_append_own _ rfl _ _ 69 rfl (w.heap.size + 1) 5 i0 (.int .u8 0) 1 1 Try.underlying69 hi hz0 hz1' hz2 rfl (by decide) _ _ _ rfl (HO2.out.own.alloc _) ⟨_, 0, none⟩ 2 2 [.int .u8 1, .int .u8 1] rfl rfl two_cell two_flat ?c3 ?c4 ?c5 ?_)
        case c3 => rw [ofB_length]; unfold maxLen; omega
        case c4 => rw [ofB_length]; omega
        case c5 => simp; omega
        intro v' w3 hown3 hgrow _
        have HO3 := Lib.hid (show Ow (w.heap.size + 1) w3 v' (ofB v1 11 ++ [1, 1]) by
          unfold Ow
          rw [List.length_append, List.map_append]
          exact hown3)
        have h23 : Below (w.heap.size + 1) w2 w3 := ((Below.refl _ w2).alloc hz2' (.cells #[.int .u8 1, .int .u8 1] 5)).grown hgrow (by simp; omega) HO2.out.ge
        have P3 := HP2.out.keepAt h23 (by omega)
        have HP3 := Lib.hid P3
        obtain ⟨p0, p1, _, _⟩ := P3
        have HB3 := Lib.hid (HB2.out.trans (h23.mono (by omega)))
        have hz3 : w.heap.size + 1 ≤ w3.heap.size := Nat.le_trans hz2' h23.size
        clear hown3 hgrow h23 HO2 HB2 HP2 hz2'
        go_wp2_with (fail)
        refine (refOf_yes n 18 (by omega) (by omega) (by omega) _).mono ?_
        rintro x w4 ⟨v4, rfl, ho, hb⟩
        obtain ⟨g, cg, rfl, hcells⟩ := ho.cells (by rw [ofB_length]; omega)
        rw [ofB_length]
        have HCE := Lib.hid hcells
        have HO4 := Lib.hid (HO3.out.on hb)
        have HB4 := Lib.hid (below_trans' HB3.out hb)
        have hz4 : w.heap.size + 1 ≤ w4.heap.size := Nat.le_trans hz3 hb.size
        clear ho hb HO3 HB3 HP3 hz3 p0 p1 hcells
        have hol4 : (ofB v1 11 ++ [1, 1]).length = 13 := by rw [List.length_append, ofB_length]; rfl
        have HOL4 := Lib.hid hol4
        clear hol4
        go_wp2_with (at_builtin; refine wpList_append_own _ rfl _ _ 69 rfl (w.heap.size + 1) 5 i0 (.int .u8 0) 1 1 Try.underlying69 hi hz0 hz1' hz2 rfl (by decide) _ _ _ rfl HO4.out.own ⟨g, 0, none⟩ 18 cg ((ofB n 18).map (fun n : Nat => Value.int .u8 ((n : Nat) : Int))) rfl ?c0 HCE.out (flat_bytes _) ?c3 ?c4 ?c5 ?_)
        case c0 => rw [List.length_map, ofB_length]
        case c3 => rw [HOL4.out]; unfold maxLen; omega
        case c4 => rw [HOL4.out]; omega
        case c5 => exact hz4
        intro v5 w5 hown5 hgrow _
        have HO5 := Lib.hid (show Ow (w.heap.size + 1) w5 v5 (ofB v1 11 ++ [1, 1] ++ ofB n 18) by
          unfold Ow
          rw [List.length_append, List.map_append, ofB_length]
          exact hown5)
        have HB5 := Lib.hid (HB4.out.grown hgrow (by omega) (fun k e => by have := HO4.out.ge k e; omega))
        have hz5 : w.heap.size + 1 ≤ w5.heap.size := Nat.le_trans hz4 hgrow.size
        clear hown5 hgrow HO4 HB4 HCE hz4
        have hol5 : (ofB v1 11 ++ [1, 1] ++ ofB n 18).length = 31 := by rw [List.length_append, HOL4.out, ofB_length]
        have HOL5 := Lib.hid hol5
        clear hol5
        go_wp2_with (at_builtin; refine wpList_append_own _ rfl _ _ 69 rfl (w.heap.size + 1) 5 i0 (.int .u8 0) 1 1 Try.underlying69 hi hz0 hz1' hz2 rfl (by decide) _ _ _ rfl (HO5.out.own.alloc _) ⟨_, 0, none⟩ 1 1 [.int .u8 ((0 : Nat) : Int)] rfl rfl one_cell one_flat ?c3 ?c4 ?c5 ?_)
        case c3 => rw [HOL5.out]; unfold maxLen; omega
        case c4 => rw [HOL5.out]; omega
        case c5 => simp; omega
        intro v6 w6 hown6 hgrow _
        have HO6 := Lib.hid (show Ow (w.heap.size + 1) w6 v6 (ofB v1 11 ++ [1, 1] ++ ofB n 18 ++ [0]) from Ow.snoc hown6)
        have HB6 := Lib.hid ((HB5.out.alloc (by omega) (.cells #[.int .u8 ((0 : Nat) : Int)] 5)).grown hgrow (by simp; omega) (fun k e => by have := HO5.out.ge k e; omega))
        clear hown6 hgrow HO5 HB5
        go_wp2
        go_ret
        exact ⟨_, rfl, Ow.low HO6.out (Nat.le_succ _), HB6.out⟩
      · have hb : idBits true n true = ofB (n / 262144) 11 ++ [1, 1] ++ ofB n 18 ++ [1] := by unfold idBits; rw [if_pos hr]; simp [askN]
        rw [hb]
        have e1 : (n : Int) / 262144 = ((n / 262144 : Nat) : Int) := by omega
        obtain ⟨v1, hv1⟩ : ∃ v1, v1 = n / 262144 := ⟨_, rfl⟩
        rw [← hv1] at e1 ⊢
        have hv : v1 < 18446744073709551616 := by omega
        have e2 : IntKind.u64.wrap (v1 : Int) = (v1 : Int) := by rw [IntKind.wrap_u64]; omega
        clear hb hr hv1
        go_enter Try.func33, Try.ntmps33
        go_wp2_with (fail)
        refine (HR.out _).mono ?_
        rintro x w1 ⟨rfl, hb⟩
        have P1 := (Two.new w (.bool true) (.int .u32 (n : Int)) 34 rfl).keep hb (by simp)
        have HP1 := Lib.hid P1
        obtain ⟨p0, p1, _, _⟩ := P1
        have HB := Lib.hid (below_trans' ((Below.refl _ w).alloc (Nat.le_refl _) (.cells #[.bool true, .int .u32 (n : Int)] 34)) hb)
        have hz1 : w.heap.size + 1 ≤ w1.heap.size := by have := hb.size; simp at this; omega
        clear hb
        go_wp2_with (fail)
        refine (refOf_yes v1 11 hv (by omega) (by omega) _).mono ?_
        rintro x w2 ⟨v, rfl, ho, hb⟩
        have HO2 := Lib.hid (Ow.low ho hz1)
        have HB2 := Lib.hid (below_trans' HB.out hb)
        have HP2 := Lib.hid (HP1.out.keep hb (by omega))
        have hz2' : w.heap.size + 1 ≤ w2.heap.size := Nat.le_trans hz1 hb.size
        clear ho hb HB HP1 p0 p1 hz1
        go_wp2_with (at_builtin; refine wpList_append_own _ rfl _ _ 69 rfl (w.heap.size + 1) 5 i0 (.int .u8 0) 1 1 Try.underlying69 hi hz0 hz1' hz2 rfl (by decide) _ _ _ rfl (HO2.out.own.alloc _) ⟨_, 0, none⟩ 2 2 [.int .u8 1, .int .u8 1] rfl rfl two_cell two_flat ?c3 ?c4 ?c5 ?_)
        case c3 => rw [ofB_length]; unfold maxLen; omega
        case c4 => rw [ofB_length]; omega
        case c5 => simp; omega
        intro v' w3 hown3 hgrow _
        have HO3 := Lib.hid (show Ow (w.heap.size + 1) w3 v' (ofB v1 11 ++ [1, 1]) by
          unfold Ow
          rw [List.length_append, List.map_append]
          exact hown3)
        have h23 : Below (w.heap.size + 1) w2 w3 := ((Below.refl _ w2).alloc hz2' (.cells #[.int .u8 1, .int .u8 1] 5)).grown hgrow (by simp; omega) HO2.out.ge
        have P3 := HP2.out.keepAt h23 (by omega)
        have HP3 := Lib.hid P3
        obtain ⟨p0, p1, _, _⟩ := P3
        have HB3 := Lib.hid (HB2.out.trans (h23.mono (by omega)))
        have hz3 : w.heap.size + 1 ≤ w3.heap.size := Nat.le_trans hz2' h23.size
        clear hown3 hgrow h23 HO2 HB2 HP2 hz2'
        go_wp2_with (fail)
        refine (refOf_yes n 18 (by omega) (by omega) (by omega) _).mono ?_
        rintro x w4 ⟨v4, rfl, ho, hb⟩
        obtain ⟨g, cg, rfl, hcells⟩ := ho.cells (by rw [ofB_length]; omega)
        rw [ofB_length]
        have HCE := Lib.hid hcells
        have HO4 := Lib.hid (HO3.out.on hb)
        have HB4 := Lib.hid (below_trans' HB3.out hb)
        have hz4 : w.heap.size + 1 ≤ w4.heap.size := Nat.le_trans hz3 hb.size
        clear ho hb HO3 HB3 HP3 hz3 p0 p1 hcells
        have hol4 : (ofB v1 11 ++ [1, 1]).length = 13 := by rw [List.length_append, ofB_length]; rfl
        have HOL4 := Lib.hid hol4
        clear hol4
        go_wp2_with (at_builtin; refine wpList_append_own _ rfl _ _ 69 rfl (w.heap.size + 1) 5 i0 (.int .u8 0) 1 1 Try.underlying69 hi hz0 hz1' hz2 rfl (by decide) _ _ _ rfl HO4.out.own ⟨g, 0, none⟩ 18 cg ((ofB n 18).map (fun n : Nat => Value.int .u8 ((n : Nat) : Int))) rfl ?c0 HCE.out (flat_bytes _) ?c3 ?c4 ?c5 ?_)
        case c0 => rw [List.length_map, ofB_length]
        case c3 => rw [HOL4.out]; unfold maxLen; omega
        case c4 => rw [HOL4.out]; omega
        case c5 => exact hz4
        intro v5 w5 hown5 hgrow _
        have HO5 := Lib.hid (show Ow (w.heap.size + 1) w5 v5 (ofB v1 11 ++ [1, 1] ++ ofB n 18) by
          unfold Ow
          rw [List.length_append, List.map_append, ofB_length]
          exact hown5)
        have HB5 := Lib.hid (HB4.out.grown hgrow (by omega) (fun k e => by have := HO4.out.ge k e; omega))
        have hz5 : w.heap.size + 1 ≤ w5.heap.size := Nat.le_trans hz4 hgrow.size
        clear hown5 hgrow HO4 HB4 HCE hz4
        have hol5 : (ofB v1 11 ++ [1, 1] ++ ofB n 18).length = 31 := by rw [List.length_append, HOL4.out, ofB_length]
        have HOL5 := Lib.hid hol5
        clear hol5
        go_wp2_with (at_builtin; refine wpList_append_own _ rfl _ _ 69 rfl (w.heap.size + 1) 5 i0 (.int .u8 0) 1 1 Try.underlying69 hi hz0 hz1' hz2 rfl (by decide) _ _ _ rfl (HO5.out.own.alloc _) ⟨_, 0, none⟩ 1 1 [.int .u8 ((1 : Nat) : Int)] rfl rfl one_cell one_flat ?c3 ?c4 ?c5 ?_)
        case c3 => rw [HOL5.out]; unfold maxLen; omega
        case c4 => rw [HOL5.out]; omega
        case c5 => simp; omega
        intro v6 w6 hown6 hgrow _
        have HO6 := Lib.hid (show Ow (w.heap.size + 1) w6 v6 (ofB v1 11 ++ [1, 1] ++ ofB n 18 ++ [1]) from Ow.snoc hown6)
        have HB6 := Lib.hid ((HB5.out.alloc (by omega) (.cells #[.int .u8 ((1 : Nat) : Int)] 5)).grown hgrow (by simp; omega) (fun k e => by have := HO5.out.ge k e; omega))
        clear hown6 hgrow HO5 HB5
        go_wp2
        go_ret
        exact ⟨_, rfl, Ow.low HO6.out (Nat.le_succ _), HB6.out⟩
end Go.Proofs.Ytbdockeopbfliaa
/- The document's own answers of layer 5 in plain words (Key, Of, OfKey, Wins): what they return. Conditions: an identifier's number, and a key, is below 2^32. -/
namespace Go.Proofs.Ytbdockeopbfliaa
open Go.RowKit Go.Shelf
theorem key_number (e : Bool) (n : Nat) (r : Bool) (m : Nat) (h : rightI e n = true) (hm : (idBits e n r).length + m = 32) : numB (bitsOf (idBits e n r ++ List.replicate m 0)) = idKey e n r := by
  have hb : ∀ x ∈ idBits e n r ++ List.replicate m 0, x ≤ 1 := by
    intro x hx
    rcases List.mem_append.1 hx with h | h
    · exact idBits_le _ _ _ x h
    · rw [List.eq_of_mem_replicate h]; omega
  have hs : bitsOf (idBits e n r ++ List.replicate m 0) = idBits e n r ++ List.replicate m 0 := by
    unfold bitsOf
    conv => rhs; rw [← List.map_id (idBits e n r ++ List.replicate m 0)]
    exact List.map_congr_left (fun x hx => bitN_self (hb x hx))
  have hl : (idBits e n r ++ List.replicate m 0).length = 32 := by rw [List.length_append, List.length_replicate]; exact hm
  rw [hs, numB_numP _ hb (by omega), ← idKey_bits e n r h, show 32 - (idBits e n r).length = m by omega]
set_option maxHeartbeats 400000 in
theorem refKey_any (e : Bool) (n : Nat) (r : Bool) (hn : n < 4294967296) (w : World) : Calls Try.prog 28 #[identV e n, .bool r] w fun x w' => x = .returned (.int .u32 (idKey e n r : Nat)) ∧ Below w.heap.size w w' := by
  have HB := Lib.hid (fun u => refBits_any e n r hn u)
  obtain ⟨i0, hi, hz0, hz1', hz2⟩ := info_parts info_u8
  unfold identV at HB ⊢
  cases hr : rightI e n with
  | false =>
    have hb : idBits e n r = [] := by unfold idBits; rw [hr]; rfl
    have hk : idKey e n r = 0 := by unfold idKey; rw [hr]; rfl
    rw [hb] at HB
    rw [hk]
    clear hb hk hr
    go_enter Try.func28, Try.ntmps28
    go_wp2_with (fail)
    refine (HB.out _).mono ?_
    rintro x w1 ⟨v, rfl, ho, hb⟩
    have HBB := Lib.hid (below_trans' ((Below.refl _ w).alloc (Nat.le_refl _) (.cells #[.bool e, .int .u32 (n : Int)] 34)) hb)
    obtain ⟨a, c, rfl⟩ := ho.shape
    clear hb ho
    go_wp2_with (fail)
    go_ret
    exact ⟨rfl, HBB.out⟩
  | true =>
    have hl := idBits_length e n r hr
    have hl32 : (idBits e n r).length ≤ 32 := by rw [hl]; split <;> omega
    have hl13 : 13 ≤ (idBits e n r).length := by rw [hl]; split <;> omega
    have HK := Lib.hid (fun m hm => key_number e n r m hr hm)
    have hkl := idKey_lt e n r
    obtain ⟨k, hk⟩ : ∃ k, k = idKey e n r := ⟨_, rfl⟩
    obtain ⟨L, hL⟩ : ∃ L, L = idBits e n r := ⟨_, rfl⟩
    rw [← hk] at HK hkl ⊢
    rw [← hL] at HK HB hl32 hl13
    have ew : IntKind.u32.wrap (k : Int) = (k : Int) := by rw [IntKind.wrap_u32]; omega
    clear hk hL hl hr
    go_enter Try.func28, Try.ntmps28
    go_wp2_with (fail)
    refine (HB.out _).mono ?_
    rintro x w1 ⟨v, rfl, ho, hb⟩
    have hz1 : w.heap.size + 1 ≤ w1.heap.size := by have := hb.size; simp at this; omega
    have HO1 := Lib.hid (Ow.low ho (show w.heap.size ≤ _ by simp))
    have HBB := Lib.hid (below_trans' ((Below.refl _ w).alloc (Nat.le_refl _) (.cells #[.bool e, .int .u32 (n : Int)] 34)) hb)
    obtain ⟨a, c, rfl⟩ := ho.shape
    have hne : ((L.length : Int) == 0) = false := by rw [beq_eq_false_iff_ne]; omega
    clear hb ho HB
    go_wp2_with (fail)
    go_loopw [5] (fun v wr => ∃ (m : Nat) (a : Option Addr) (c : Nat), L.length + m ≤ 32 ∧ v = .slice a (L.length + m) c ∧ Ow w.heap.size wr v (L ++ List.replicate m 0) ∧ Below w.heap.size w wr ∧ w.heap.size ≤ wr.heap.size) (fun v _ => 32 - (match v with | .slice _ n _ => n | _ => 0))
    case atStart => exact ⟨0, a, c, by omega, rfl, by rw [List.replicate_zero, List.append_nil]; exact HO1.out, HBB.out, by omega⟩
    case round =>
      clear HO1 HBB
      obtain ⟨m, a, c, hm, rfl, hown, hnx, hsz⟩ := hrel
      have HO := Lib.hid hown; have HN := Lib.hid hnx
      have HLN := Lib.hid (show (L ++ List.replicate m 0).length = L.length + m by rw [List.length_append, List.length_replicate])
      have hown' := hown.own
      rw [HLN.out] at hown'
      have HOW := Lib.hid hown'
      clear hown hnx hown'
      by_cases hlt : L.length + m < 32
      · go_wp2_with (at_builtin; refine wpList_append_own _ rfl _ _ 69 rfl w.heap.size 5 i0 (.int .u8 0) 1 1 Try.underlying69 hi hz0 hz1' hz2 rfl (by decide) _ _ _ rfl (HOW.out.alloc _) ⟨_, 0, none⟩ 1 1 [.int .u8 ((0 : Nat) : Int)] rfl rfl one_cell one_flat ?c3 ?c4 ?c5 ?_)
        case c3 => unfold maxLen; omega
        case c4 => omega
        case c5 => simp; omega
        intro v' w4 hown4 hgrow _
        have HO4 := Lib.hid (show Ow w.heap.size w4 v' (L ++ List.replicate (m + 1) 0) by
          rw [List.replicate_succ', ← List.append_assoc]
          exact Ow.snoc (bs := L ++ List.replicate m 0) (by rw [HLN.out, List.map_append, List.map_replicate, List.append_assoc]; exact hown4))
        have HB4 := Lib.hid ((HN.out.alloc hsz (.cells #[.int .u8 ((0 : Nat) : Int)] 5)).grown hgrow (by simp; omega) HO.out.ge)
        have hsz4 : w.heap.size ≤ w4.heap.size := Nat.le_trans (by simp; omega) hgrow.size
        obtain ⟨a', c', hv⟩ := HO4.out.shape
        have hlen : (L ++ List.replicate (m + 1) 0).length = L.length + (m + 1) := by rw [List.length_append, List.length_replicate]
        rw [hlen] at hv
        clear hown4 hgrow hlen HOW
        go_wp2_with (fail)
        go_roundw
        case rel => exact ⟨m + 1, a', c', by omega, hv, HO4.out, HB4.out, hsz4⟩
        case measure => rw [hv]; simp; omega
      · have HS := Lib.hid HO.out.str
        have HKK := Lib.hid (HK.out m (by omega))
        clear HOW
        go_wp2_with (fail)
        refine (refNumber_any _ _ _ (L ++ List.replicate m 0) _ HS.out).mono ?_
        rintro x w5 ⟨he, rfl⟩
        rw [HKK.out] at he
        subst he
        go_wp2_with (fail)
        go_ret
        exact ⟨rfl, HN.out⟩
theorem or_plus (a b : Nat) (hb : b < 262144) : a * 262144 ||| b = a * 262144 + b := by
  rw [Nat.mul_comm, show (262144 : Nat) = 2 ^ 18 from rfl, ← Nat.two_pow_add_eq_or_of_lt hb]
/-- What a key is of, as the results. -/
def ofKeyV (k : Nat) : Value := match ofKey k with
  | some (e, n, r) => .tuple #[identV e n, .bool r, .bool true]
  | none => .tuple #[identV false 0, .bool false, .bool false]
end Go.Proofs.Ytbdockeopbfliaa
/- The document's own answers of layer 5 in plain words (texts): what they return. -/
namespace Go.Proofs.Ytbdockeopbfliaa
open Go.RowKit Go.Shelf
/-- The bytes of a text. -/
def tx (s : ByteArray) : List Nat := s.data.toList.map UInt8.toNat
theorem tx_length (s : ByteArray) : (tx s).length = s.size := by
  show (s.data.toList.map UInt8.toNat).length = s.data.size
  rw [List.length_map, Array.length_toList]
theorem tx_le (s : ByteArray) : ∀ x ∈ tx s, x < 256 := by
  intro x hx
  obtain ⟨y, _, rfl⟩ := List.mem_map.1 hx
  exact y.toNat_lt
theorem tx_at (s : ByteArray) (i : Nat) (h : i < s.size) : (s[i]'h).toNat = (tx s)[i]'(by rw [tx_length]; exact h) := by
  simp [tx]
  rfl
theorem tx_int (s : ByteArray) (i : Nat) (h : i < s.size) (hj : ((i : Int)).toNat < s.size) : ((s[((i : Int)).toNat]'hj).toNat : Int) = ((tx s)[i]'(by rw [tx_length]; exact h) : Nat) := by
  rw [← tx_at s i h]
  rfl
theorem unhexT_none {l : List Nat} (h : unhexT l = none) : ∀ r : List Nat, unhexT (l ++ r) = none := by
  intro r
  have hr : ∀ r : List Nat, r.foldl (fun (a : Option Nat) c => a.bind fun n => if unhex c = 16 then none else some (n * 16 + unhex c)) none = none := by
    intro r
    induction r with
    | nil => rfl
    | cons c r ih => exact ih
  unfold unhexT at h ⊢
  rw [List.foldl_append, h, hr r]
theorem idParse_none {l : List Nat} {j : Nat} (h : unhexT (l.take j) = none) : idParse l = none := by
  have e : unhexT l = none := by
    have := unhexT_none h (l.drop j)
    rwa [List.take_append_drop] at this
  unfold idParse
  rw [e]
  split
  · rfl
  · split <;> rfl
theorem idParse_len {l : List Nat} {n : Nat} (e : Bool) (hl : l.length = if e then 8 else 3) (h : unhexT l = some n) : idParse l = if rightI e n then some (e, n) else none := by
  unfold idParse
  rw [h]
  cases e
  · rw [if_pos (show l.length = 3 from hl)]; rfl
  · have hl' : l.length = 8 := hl
    rw [if_neg (by rw [hl']; decide), if_pos hl']; rfl
theorem idParse_short {l : List Nat} (h3 : l.length ≠ 3) (h8 : l.length ≠ 8) : idParse l = none := by
  unfold idParse
  rw [if_neg h3, if_neg h8]
end Go.Proofs.Ytbdockeopbfliaa
/- The document's own answers of layer 5 in plain words (Text): what it returns. -/
namespace Go.Proofs.Ytbdockeopbfliaa
open Go.RowKit Go.Shelf
theorem hexT_more : ∀ k m, hexT m (k + 1) = hexD (m / 16 ^ k % 16) :: hexT m k := by
  intro k
  induction k with
  | zero => intro m; show hexT (m / 16) 0 ++ [hexD (m % 16)] = _; simp [hexT]
  | succ k ih =>
    intro m
    show hexT (m / 16) (k + 1) ++ [hexD (m % 16)] = _
    rw [ih (m / 16)]
    show hexD _ :: (hexT (m / 16) k ++ [hexD (m % 16)]) = _ :: hexT m (k + 1)
    rw [Nat.div_div_eq_div_mul, ← Nat.pow_succ']
    rfl
theorem hex_at (d : Nat) (hd : d < 16) : (ByteArray.mk #[48, 49, 50, 51, 52, 53, 54, 55, 56, 57, 97, 98, 99, 100, 101, 102]).extract d (d + 1) = ByteArray.mk #[UInt8.ofNat (hexD d)] := by
  rw [show (#[48, 49, 50, 51, 52, 53, 54, 55, 56, 57, 97, 98, 99, 100, 101, 102] : Array UInt8) = [48, 49, 50, 51, 52, 53, 54, 55, 56, 57, 97, 98, 99, 100, 101, 102].toArray from rfl, ByteArray.extract_mk, show d + 1 - d = 1 by omega]
  have h : d = 0 ∨ d = 1 ∨ d = 2 ∨ d = 3 ∨ d = 4 ∨ d = 5 ∨ d = 6 ∨ d = 7 ∨ d = 8 ∨ d = 9 ∨ d = 10 ∨ d = 11 ∨ d = 12 ∨ d = 13 ∨ d = 14 ∨ d = 15 := by omega
  rcases h with rfl | rfl | rfl | rfl | rfl | rfl | rfl | rfl | rfl | rfl | rfl | rfl | rfl | rfl | rfl | rfl <;> rfl
theorem shr_hex (n k : Nat) : ((n : Int) / 2 ^ (4 * k)) = ((n / 16 ^ k : Nat) : Int) := by
  rw [Int.natCast_ediv, Int.natCast_pow, Int.pow_mul]
  rfl
theorem hex_run (d : Nat) (hd : d < 16) (w : World) : Sem.run Try.prog (Instr.slice 9 (.string ⟨#[48, 49, 50, 51, 52, 53, 54, 55, 56, 57, 97, 98, 99, 100, 101, 102]⟩) (some (.int .u32 (d : Int))) (some (.int .u32 ((d : Int) + 1))) none) w = .ok (.string ⟨#[UInt8.ofNat (hexD d)]⟩) w := by
  have h := run_slice_string (P := Try.prog) w 9 ⟨#[48, 49, 50, 51, 52, 53, 54, 55, 56, 57, 97, 98, 99, 100, 101, 102]⟩ .u32 .u32 (d : Int) ((d : Int) + 1) Try.underlying9 (by omega) (by omega) (by show _ ≤ ((16 : Nat) : Int); omega)
  rw [show ((d : Int) + 1).toNat = d + 1 by omega, show ((d : Int)).toNat = d by omega, hex_at d hd] at h
  exact h
theorem tx_app (a b : ByteArray) : tx (a ++ b) = tx a ++ tx b := by
  show (a ++ b).data.toList.map UInt8.toNat = a.data.toList.map UInt8.toNat ++ b.data.toList.map UInt8.toNat
  rw [← List.map_append, ByteArray.data_append, Array.toList_append]
theorem tx_one (d : Nat) (hd : d < 16) : tx ⟨#[UInt8.ofNat (hexD d)]⟩ = [hexD d] := by
  show [(UInt8.ofNat (hexD d)).toNat] = [hexD d]
  have : hexD d < 256 := by unfold hexD; split <;> omega
  rw [UInt8.toNat_ofNat_of_lt' this]
end Go.Proofs.Ytbdockeopbfliaa
/- The code of package ident (bit, width, Right, Bits, Key, meant, Of): what it returns. Conditions: an identifier's number, and a key, is below 2^32. -/
namespace Go.Proofs.Ytbdockeopbfliaa
open Go.RowKit Go.Shelf
theorem made_ow {B : Nat} {W : World} {v : Value} {bs : List Nat} (h : Made B W v bs) : Ow B W v bs := by
  obtain ⟨b, rfl, hB, hn, c, hc, hcs, hcc⟩ := h
  refine ⟨by simp, .inr ⟨b, bs.length, c, rfl, hB, hc, Nat.le_refl _, by unfold maxLen; omega, by omega, ?_⟩⟩
  apply List.ext_getElem
  · simp; omega
  · intro i h1 h2
    have h3 : i < bs.length := by simpa using h2
    have h4 := hcc i h3
    have h5 : i < c.size := by omega
    rw [Array.getElem?_eq_getElem h5, Option.some.injEq] at h4
    simp [h4, h3]
theorem idbit_any (r : Bool) (w : World) : Calls Try.prog 42 #[.bool r] w fun x w' => x = .returned (.int .u8 (askN r : Nat)) ∧ w = w' := by
  cases r
  · go_enter Try.func42, Try.ntmps42
    go_wp2
    go_ret
    exact ⟨rfl, rfl⟩
  · go_enter Try.func42, Try.ntmps42
    go_wp2
    go_ret
    exact ⟨rfl, rfl⟩
theorem right5_any (e : Bool) (n : Nat) (w : World) : Calls Try.prog 30 #[identV e n] w fun x w' => x = .returned (.bool (rightI e n)) ∧ Below w.heap.size w w' := by
  unfold identV
  cases e with
  | false =>
    have hd : decide ((n : Int) < 2048) = rightI false n := by
      have e : rightI false n = decide (n < 2048) := by simp [rightI]
      rw [e, Bool.eq_iff_iff, decide_eq_true_iff, decide_eq_true_iff]
      omega
    obtain ⟨b, hb⟩ : ∃ b, b = rightI false n := ⟨_, rfl⟩
    rw [← hb] at hd ⊢
    clear hb
    go_enter Try.func30, Try.ntmps30
    go_wp2
    go_ret
    exact ⟨rfl, (Below.refl _ _).alloc (Nat.le_refl _) _⟩
  | true =>
    have hd : decide ((n : Int) < 536870912) = rightI true n := by
      have e : rightI true n = decide (n < 536870912) := by simp [rightI]
      rw [e, Bool.eq_iff_iff, decide_eq_true_iff, decide_eq_true_iff]
      omega
    obtain ⟨b, hb⟩ : ∃ b, b = rightI true n := ⟨_, rfl⟩
    rw [← hb] at hd ⊢
    clear hb
    go_enter Try.func30, Try.ntmps30
    go_wp2
    go_ret
    exact ⟨rfl, (Below.refl _ _).alloc (Nat.le_refl _) _⟩
theorem ofB_std (n a : Nat) (ha : a ≤ 1) : ofB ((n * 2 + a) * 2) 13 = ofB n 11 ++ [a, 0] := by
  rw [ofB_succ, ofB_succ, show (n * 2 + a) * 2 / 2 = n * 2 + a by omega, show (n * 2 + a) / 2 = n by omega, show (n * 2 + a) % 2 = a by omega, show (n * 2 + a) * 2 % 2 = 0 by omega, List.append_assoc]
  rfl
set_option maxHeartbeats 2000000 in
theorem idbits_any (e : Bool) (n : Nat) (r : Bool) (hn : n < 4294967296) (w : World) : Calls Try.prog 39 #[identV e n, .bool r] w fun x w' => ∃ v, x = .returned v ∧ Ow w.heap.size w' v (idBits e n r) ∧ Below w.heap.size w w' := by
  have HR := Lib.hid (fun u => right5_any e n u)
  have hu64 : IntKind.u64.wrap (n : Int) = (n : Int) := by rw [IntKind.wrap_u64]; omega
  unfold identV at HR ⊢
  obtain ⟨i0, hi, hz0, hz1', hz2⟩ := info_parts info_u8
  cases hr : rightI e n with
  | false =>
    have hb : idBits e n r = [] := by unfold idBits; rw [hr]; rfl
    rw [hb]
    rw [hr] at HR
    clear hb hr
    go_enter Try.func39, Try.ntmps39
    go_wp2_with (fail)
    refine (HR.out _).mono ?_
    rintro x w1 ⟨rfl, hb⟩
    have HB := Lib.hid (below_trans' ((Below.refl _ w).alloc (Nat.le_refl _) (.cells #[.bool e, .int .u32 (n : Int)] 34)) hb)
    clear hb
    go_wp2_with (fail)
    go_ret
    exact ⟨_, rfl, Ow.nil _ _, HB.out⟩
  | true =>
    rw [hr] at HR
    have HAB := Lib.hid (fun u => idbit_any r u)
    have HAL := Lib.hid (askN_le r)
    obtain ⟨q, hq⟩ : ∃ q, q = askN r := ⟨_, rfl⟩
    rw [← hq] at HAB HAL
    cases e with
    | false =>
      have hb : idBits false n r = ofB n 11 ++ [q, 0] := by
        rw [← ofB_std n q HAL.out, hq]; unfold idBits; rw [if_pos hr]; simp
      rw [hb]
      clear hb hr hq
      go_enter Try.func39, Try.ntmps39
      go_wp2_with (fail)
      refine (HR.out _).mono ?_
      rintro x w1 ⟨rfl, hb⟩
      obtain ⟨p0, p1, _, _⟩ := (Two.new w (.bool false) (.int .u32 (n : Int)) 34 rfl).keep hb (by simp)
      have HB := Lib.hid (below_trans' ((Below.refl _ w).alloc (Nat.le_refl _) (.cells #[.bool false, .int .u32 (n : Int)] 34)) hb)
      clear hb
      go_wp2_with (fail)
      refine (of_yes n 11 (by omega) (by omega) (by omega) _).mono ?_
      rintro x w2 ⟨v, rfl, hm, hb⟩
      have HO := Lib.hid (Ow.low (made_ow hm) HB.out.size)
      have HB2 := Lib.hid (below_trans' HB.out hb)
      clear hm hb HB p0 p1
      go_wp2_with (fail)
      refine (HAB.out _).mono ?_
      rintro x w3 ⟨rfl, rfl⟩
      go_wp2_with (at_builtin; refine wpList_append_own _ rfl _ _ 69 rfl w.heap.size 5 i0 (.int .u8 0) 1 1 Try.underlying69 hi hz0 hz1' hz2 rfl (by decide) _ _ _ rfl (HO.out.own.alloc _) ⟨_, 0, none⟩ 2 2 [.int .u8 (q : Int), .int .u8 0] rfl rfl two_cell two_flat ?c3 ?c4 ?c5 ?_)
      case c3 => rw [ofB_length]; unfold maxLen; omega
      case c4 => rw [ofB_length]; omega
      case c5 => have := HB2.out.size; simp; omega
      intro v' w4 hown hgrow _
      have HO4 := Lib.hid (show Ow w.heap.size w4 v' (ofB n 11 ++ [q, 0]) by
        unfold Ow
        rw [List.length_append, List.map_append]
        exact hown)
      have HB4 := Lib.hid ((HB2.out.alloc HB2.out.size (.cells #[.int .u8 (q : Int), .int .u8 0] 5)).grown hgrow (by have := HB2.out.size; simp; omega) HO.out.ge)
      clear hown hgrow HO HB2
      go_wp2_with (fail)
      go_ret
      exact ⟨_, rfl, HO4.out, HB4.out⟩
    | true =>
      have hn2 : n < 536870912 := by simpa [rightI] using hr
      have hb : idBits true n r = ofB (n / 262144) 11 ++ [1, 1] ++ ofB n 18 ++ [q] := by rw [hq]; unfold idBits; rw [if_pos hr]; simp
      rw [hb]
      have e1 : (n : Int) / 262144 = ((n / 262144 : Nat) : Int) := by omega
      obtain ⟨v1, hv1⟩ : ∃ v1, v1 = n / 262144 := ⟨_, rfl⟩
      rw [← hv1] at e1 ⊢
      have hv : v1 < 18446744073709551616 := by omega
      have e2 : IntKind.u64.wrap (v1 : Int) = (v1 : Int) := by rw [IntKind.wrap_u64]; omega
      clear hb hr hv1 hq
      go_enter Try.func39, Try.ntmps39
      go_wp2_with (fail)
      refine (HR.out _).mono ?_
      rintro x w1 ⟨rfl, hb⟩
      have P1 := (Two.new w (.bool true) (.int .u32 (n : Int)) 34 rfl).keep hb (by simp)
      have HP1 := Lib.hid P1
      obtain ⟨p0, p1, _, _⟩ := P1
      have HB := Lib.hid (below_trans' ((Below.refl _ w).alloc (Nat.le_refl _) (.cells #[.bool true, .int .u32 (n : Int)] 34)) hb)
      have hz1 : w.heap.size + 1 ≤ w1.heap.size := by have := hb.size; simp at this; omega
      clear hb
      go_wp2_with (fail)
      refine (of_yes v1 11 hv (by omega) (by omega) _).mono ?_
      rintro x w2 ⟨v, rfl, hm, hb⟩
      have HO2 := Lib.hid (Ow.low (made_ow hm) hz1)
      have HB2 := Lib.hid (below_trans' HB.out hb)
      have HP2 := Lib.hid (HP1.out.keep hb (by omega))
      have hz2' : w.heap.size + 1 ≤ w2.heap.size := Nat.le_trans hz1 hb.size
      clear hm hb HB HP1 p0 p1 hz1
      go_wp2_with (at_builtin; refine wpList_append_own _ rfl _ _ 69 rfl (w.heap.size + 1) 5 i0 (.int .u8 0) 1 1 Try.underlying69 hi hz0 hz1' hz2 rfl (by decide) _ _ _ rfl (HO2.out.own.alloc _) ⟨_, 0, none⟩ 2 2 [.int .u8 1, .int .u8 1] rfl rfl two_cell two_flat ?c3 ?c4 ?c5 ?_)
      case c3 => rw [ofB_length]; unfold maxLen; omega
      case c4 => rw [ofB_length]; omega
      case c5 => simp; omega
      intro v' w3 hown3 hgrow _
      have HO3 := Lib.hid (show Ow (w.heap.size + 1) w3 v' (ofB v1 11 ++ [1, 1]) by
        unfold Ow
        rw [List.length_append, List.map_append]
        exact hown3)
      have h23 : Below (w.heap.size + 1) w2 w3 := ((Below.refl _ w2).alloc hz2' (.cells #[.int .u8 1, .int .u8 1] 5)).grown hgrow (by simp; omega) HO2.out.ge
      have P3 := HP2.out.keepAt h23 (by omega)
      have HP3 := Lib.hid P3
      obtain ⟨p0, p1, _, _⟩ := P3
      have HB3 := Lib.hid (HB2.out.trans (h23.mono (by omega)))
      have hz3 : w.heap.size + 1 ≤ w3.heap.size := Nat.le_trans hz2' h23.size
      clear hown3 hgrow h23 HO2 HB2 HP2 hz2'
      go_wp2_with (fail)
      refine (of_yes n 18 (by omega) (by omega) (by omega) _).mono ?_
      rintro x w4 ⟨v4, rfl, hm, hb⟩
      obtain ⟨g, cg, rfl, hcells⟩ := (made_ow hm).cells (by rw [ofB_length]; omega)
      rw [ofB_length]
      have HCE := Lib.hid hcells
      have HO4 := Lib.hid (HO3.out.on hb)
      have HB4 := Lib.hid (below_trans' HB3.out hb)
      have hz4 : w.heap.size + 1 ≤ w4.heap.size := Nat.le_trans hz3 hb.size
      clear hm hb HO3 HB3 HP3 hz3 p0 p1 hcells
      have hol4 : (ofB v1 11 ++ [1, 1]).length = 13 := by rw [List.length_append, ofB_length]; rfl
      have HOL4 := Lib.hid hol4
      clear hol4
      go_wp2_with (at_builtin; refine wpList_append_own _ rfl _ _ 69 rfl (w.heap.size + 1) 5 i0 (.int .u8 0) 1 1 Try.underlying69 hi hz0 hz1' hz2 rfl (by decide) _ _ _ rfl HO4.out.own ⟨g, 0, none⟩ 18 cg ((ofB n 18).map (fun n : Nat => Value.int .u8 ((n : Nat) : Int))) rfl ?c0 HCE.out (flat_bytes _) ?c3 ?c4 ?c5 ?_)
      case c0 => rw [List.length_map, ofB_length]
      case c3 => rw [HOL4.out]; unfold maxLen; omega
      case c4 => rw [HOL4.out]; omega
      case c5 => exact hz4
      intro v5 w5 hown5 hgrow _
      have HO5 := Lib.hid (show Ow (w.heap.size + 1) w5 v5 (ofB v1 11 ++ [1, 1] ++ ofB n 18) by
        unfold Ow
        rw [List.length_append, List.map_append, ofB_length]
        exact hown5)
      have HB5 := Lib.hid (HB4.out.grown hgrow (by omega) (fun k e => by have := HO4.out.ge k e; omega))
      have hz5 : w.heap.size + 1 ≤ w5.heap.size := Nat.le_trans hz4 hgrow.size
      clear hown5 hgrow HO4 HB4 HCE hz4
      have hol5 : (ofB v1 11 ++ [1, 1] ++ ofB n 18).length = 31 := by rw [List.length_append, HOL4.out, ofB_length]
      have HOL5 := Lib.hid hol5
      clear hol5
      go_wp2_with (fail)
      refine (HAB.out _).mono ?_
      rintro x w6 ⟨rfl, rfl⟩
      go_wp2_with (at_builtin; refine wpList_append_own _ rfl _ _ 69 rfl (w.heap.size + 1) 5 i0 (.int .u8 0) 1 1 Try.underlying69 hi hz0 hz1' hz2 rfl (by decide) _ _ _ rfl (HO5.out.own.alloc _) ⟨_, 0, none⟩ 1 1 [.int .u8 ((q : Nat) : Int)] rfl rfl one_cell one_flat ?c3 ?c4 ?c5 ?_)
      case c3 => rw [HOL5.out]; unfold maxLen; omega
      case c4 => rw [HOL5.out]; omega
      case c5 => simp; omega
      intro v6 w7 hown6 hgrow _
      have HO6 := Lib.hid (show Ow (w.heap.size + 1) w7 v6 (ofB v1 11 ++ [1, 1] ++ ofB n 18 ++ [q]) from Ow.snoc hown6)
      have HB6 := Lib.hid ((HB5.out.alloc (by omega) (.cells #[.int .u8 ((q : Nat) : Int)] 5)).grown hgrow (by simp; omega) (fun k e => by have := HO5.out.ge k e; omega))
      clear hown6 hgrow HO5 HB5
      go_wp2_with (fail)
      go_ret
      exact ⟨_, rfl, Ow.low HO6.out (Nat.le_succ _), HB6.out⟩
theorem key_shift (e : Bool) (n : Nat) (r : Bool) (h : rightI e n = true) : numB (bitsOf (idBits e n r)) * 2 ^ (32 - (idBits e n r).length) = idKey e n r := by
  have hb := idBits_le e n r
  have hs : bitsOf (idBits e n r) = idBits e n r := by
    unfold bitsOf
    conv => rhs; rw [← List.map_id (idBits e n r)]
    exact List.map_congr_left (fun x hx => bitN_self (hb x hx))
  have hl := idBits_length e n r h
  have hl32 : (idBits e n r).length ≤ 32 := by rw [hl]; split <;> omega
  have hk := idKey_bits e n r h
  rw [numP_append, numP_zeros, List.length_replicate, Nat.add_zero] at hk
  rw [hs, numB_numP _ hb (by omega), hk]
theorem idkey_any (e : Bool) (n : Nat) (r : Bool) (hn : n < 4294967296) (w : World) : Calls Try.prog 36 #[identV e n, .bool r] w fun x w' => x = .returned (.int .u32 (idKey e n r : Nat)) ∧ Below w.heap.size w w' := by
  have HB := Lib.hid (fun u => idbits_any e n r hn u)
  unfold identV at HB ⊢
  cases hr : rightI e n with
  | false =>
    have hb : idBits e n r = [] := by unfold idBits; rw [hr]; rfl
    have hk : idKey e n r = 0 := by unfold idKey; rw [hr]; rfl
    rw [hb] at HB
    rw [hk]
    clear hb hk hr
    go_enter Try.func36, Try.ntmps36
    go_wp2_with (fail)
    refine (HB.out _).mono ?_
    rintro x w1 ⟨v, rfl, ho, hb⟩
    have HBB := Lib.hid (below_trans' ((Below.refl _ w).alloc (Nat.le_refl _) (.cells #[.bool e, .int .u32 (n : Int)] 34)) hb)
    have HS := Lib.hid ho.str
    obtain ⟨a, c, rfl⟩ := ho.shape
    clear hb ho
    go_wp2_with (fail)
    refine (number_any _ _ _ [] (by simp) _ HS.out).mono ?_
    rintro x w2 ⟨rfl, hb⟩
    have HB2 := Lib.hid (below_trans' HBB.out hb)
    rw [show numB (bitsOf []) = 0 from rfl]
    clear hb
    go_wp2_with (fail)
    go_ret
    exact ⟨rfl, HB2.out⟩
  | true =>
    have hkl := idKey_lt e n r
    have hks := key_shift e n r hr
    have hl := idBits_length e n r hr
    rw [hl] at hks
    obtain ⟨k, hk⟩ : ∃ k, k = idKey e n r := ⟨_, rfl⟩
    obtain ⟨L, hL⟩ : ∃ L, L = idBits e n r := ⟨_, rfl⟩
    rw [← hk] at hks hkl ⊢
    rw [← hL] at hks HB hl
    obtain ⟨z, hz⟩ : ∃ z, z = numB (bitsOf L) := ⟨_, rfl⟩
    rw [← hz] at hks
    have HL := Lib.hid hl
    have HZ := Lib.hid hz
    have ew : IntKind.u32.wrap (k : Int) = (k : Int) := by rw [IntKind.wrap_u32]; omega
    cases e with
    | false =>
      have hks' : z * 524288 = k := hks
      have e1 : IntKind.u64.wrap ((z : Int) * 524288) = (k : Int) := by rw [IntKind.wrap_u64]; omega
      clear hk hL hl hr hz hks hks'
      go_enter Try.func36, Try.ntmps36
      go_wp2_with (fail)
      refine (HB.out _).mono ?_
      rintro x w1 ⟨v, rfl, ho, hb⟩
      have HBB := Lib.hid (below_trans' ((Below.refl _ w).alloc (Nat.le_refl _) (.cells #[.bool false, .int .u32 (n : Int)] 34)) hb)
      have HS := Lib.hid ho.str
      obtain ⟨a, c, rfl⟩ := ho.shape
      have hl13 : L.length = 13 := HL.out
      rw [hl13] at HS ⊢
      clear hb ho hl13
      go_wp2_with (fail)
      refine (number_any _ _ _ L (by rw [HL.out]; decide) _ HS.out).mono ?_
      rintro x w2 ⟨he, hb⟩
      rw [← HZ.out] at he
      subst he
      have HB2 := Lib.hid (below_trans' HBB.out hb)
      clear hb
      go_wp2_with (fail)
      go_ret
      exact ⟨rfl, HB2.out⟩
    | true =>
      have hks' : z * 1 = k := hks
      have e0 : z = k := by omega
      have e1 : IntKind.u64.wrap ((z : Int) * 1) = (k : Int) := by rw [IntKind.wrap_u64]; omega
      have e2 : IntKind.u64.wrap (z : Int) = (k : Int) := by rw [IntKind.wrap_u64]; omega
      clear hk hL hl hr hz hks hks'
      have E0 := Lib.hid e0
      clear e0
      go_enter Try.func36, Try.ntmps36
      go_wp2_with (fail)
      refine (HB.out _).mono ?_
      rintro x w1 ⟨v, rfl, ho, hb⟩
      have HBB := Lib.hid (below_trans' ((Below.refl _ w).alloc (Nat.le_refl _) (.cells #[.bool true, .int .u32 (n : Int)] 34)) hb)
      have HS := Lib.hid ho.str
      obtain ⟨a, c, rfl⟩ := ho.shape
      have hl13 : L.length = 32 := HL.out
      rw [hl13] at HS ⊢
      clear hb ho hl13
      go_wp2_with (fail)
      refine (number_any _ _ _ L (by rw [HL.out]; decide) _ HS.out).mono ?_
      rintro x w2 ⟨he, hb⟩
      rw [← HZ.out] at he
      subst he
      have HB2 := Lib.hid (below_trans' HBB.out hb)
      clear hb
      go_wp2_with (fail)
      go_ret
      exact ⟨rfl, HB2.out⟩
end Go.Proofs.Ytbdockeopbfliaa
/- The code of package ident (meant, Of): what it returns. Conditions: a key is below 2^32. -/
namespace Go.Proofs.Ytbdockeopbfliaa
open Go.RowKit Go.Shelf
/-- What a key would stand for, if it is anybody's. -/
def meantI (k : Nat) : Bool × Nat × Bool := if k / 524288 % 2 = 0 then (false, k / 2097152, decide (k / 1048576 % 2 = 1)) else (true, k / 2097152 * 262144 + k / 2 % 262144, decide (k % 2 = 1))
theorem meant_lt (k : Nat) (hk : k < 4294967296) : (meantI k).2.1 < 4294967296 := by
  unfold meantI
  split <;> simp <;> omega
theorem ofKeyV_meant (k : Nat) (hk : k < 4294967296) : ofKeyV k = if idKey (meantI k).1 (meantI k).2.1 (meantI k).2.2 = k then .tuple #[identV (meantI k).1 (meantI k).2.1, .bool (meantI k).2.2, .bool true] else .tuple #[identV false 0, .bool false, .bool false] := by
  have one : ∀ a : Nat, a ≤ 1 → askN (decide (a = 1)) = a := askN_of
  unfold ofKeyV ofKey meantI
  by_cases c : k / 524288 % 2 = 0
  · rw [if_pos c, if_pos c]
    simp only
    have hr : rightI false (k / 2097152) = true := by simp [rightI]; omega
    have hk' : idKey false (k / 2097152) (decide (k / 1048576 % 2 = 1)) = k / 2097152 * 2097152 + k / 1048576 % 2 * 1048576 := by
      unfold idKey; rw [if_pos hr, one _ (by omega)]; simp
    rw [hk']
    by_cases c2 : k % 524288 = 0
    · rw [if_pos c2, if_pos (by omega)]
    · rw [if_neg c2, if_neg (by omega)]
  · rw [if_neg c, if_neg c]
    simp only
    have hr : rightI true (k / 2097152 * 262144 + k / 2 % 262144) = true := by simp [rightI]; omega
    have hk' : idKey true (k / 2097152 * 262144 + k / 2 % 262144) (decide (k % 2 = 1)) = k / 2097152 * 2097152 + 1572864 + (k / 2 % 262144) * 2 + k % 2 := by
      unfold idKey; rw [if_pos hr, one _ (by omega)]; simp; omega
    rw [hk']
    by_cases c2 : k / 1048576 % 2 = 1
    · rw [if_pos c2, if_pos (by omega)]
    · rw [if_neg c2, if_neg (by omega)]
end Go.Proofs.Ytbdockeopbfliaa
/- The code of package ident (Wins): what it returns. Conditions: an identifier's number is below 2^32. -/
namespace Go.Proofs.Ytbdockeopbfliaa
open Go.RowKit Go.Shelf
end Go.Proofs.Ytbdockeopbfliaa
/- The code of package ident (Text): what it returns. Conditions: an identifier's number is below 2^32. -/
namespace Go.Proofs.Ytbdockeopbfliaa
open Go.RowKit Go.Shelf
def hexF (n w j : Nat) : Nat := hexD (n / 16 ^ (w - 1 - j) % 16)
theorem hexT_get (n : Nat) : ∀ (k j : Nat), j < k → (hexT n k)[j]?.getD 0 = hexF n k j := by
  intro k
  induction k with
  | zero => intro j h; omega
  | succ k ih =>
    intro j h
    rw [hexT_more]
    cases j with
    | zero => simp [hexF]
    | succ j =>
      rw [List.getElem?_cons_succ, ih j (by omega)]
      unfold hexF
      rw [show k + 1 - 1 - (j + 1) = k - 1 - j by omega]
theorem hexD_lt (d : Nat) (h : d < 16) : hexD d < 256 := by unfold hexD; split <;> omega
theorem idx_hex (d : Nat) (hd : d < 16) (w : World) : Sem.run Try.prog (Instr.index 9 (.string ⟨#[48, 49, 50, 51, 52, 53, 54, 55, 56, 57, 97, 98, 99, 100, 101, 102]⟩) (.int .u32 (d : Int))) w = .ok (.int .u8 (hexD d : Nat)) w := by
  have h : d = 0 ∨ d = 1 ∨ d = 2 ∨ d = 3 ∨ d = 4 ∨ d = 5 ∨ d = 6 ∨ d = 7 ∨ d = 8 ∨ d = 9 ∨ d = 10 ∨ d = 11 ∨ d = 12 ∨ d = 13 ∨ d = 14 ∨ d = 15 := by omega
  rcases h with rfl | rfl | rfl | rfl | rfl | rfl | rfl | rfl | rfl | rfl | rfl | rfl | rfl | rfl | rfl | rfl <;> rfl
theorem hexT_lt (n : Nat) : ∀ k, ∀ x ∈ hexT n k, x < 256 := by
  intro k
  induction k with
  | zero => intro x hx; simp [hexT] at hx
  | succ k ih =>
    intro x hx
    rw [hexT_more] at hx
    rcases List.mem_cons.1 hx with h | h
    · rw [h]; exact hexD_lt _ (Nat.mod_lt _ (by decide))
    · exact ih x h
theorem tx_of (L : List Nat) (hL : ∀ x ∈ L, x < 256) : tx ⟨(L.map UInt8.ofNat).toArray⟩ = L := by
  unfold tx
  simp only [List.map_map]
  conv => rhs; rw [← List.map_id L]
  refine List.map_congr_left fun x hx => ?_
  have := hL x hx
  simp [Nat.mod_eq_of_lt this]
theorem to_text (w : World) (B cap : Nat) (L : List Nat) (hL : ∀ x ∈ L, x < 256) (hc : ∀ j, j < L.length → w.cell? ⟨B, j, none⟩ = some (.int .u8 ((L[j]?.getD 0 : Nat) : Int))) :
    Sem.run Try.prog (convert 69 9 (.slice (some ⟨B, 0, none⟩) L.length cap)) w = .ok (.string ⟨(L.map UInt8.ofNat).toArray⟩) w := by
  have h := run_convert_bytes_back (P := Try.prog) w 69 9 5 ⟨B, 0, none⟩ cap (L.map UInt8.ofNat) Try.underlying69 Try.underlying5 Try.underlying9 (fun j hj => by
    have hj' : j < L.length := by simpa using hj
    rw [show (⟨B, 0, none⟩ : Addr).add j = ⟨B, 0 + j, none⟩ from add_off _ _ _, Nat.zero_add, hc j hj']
    have hx := hL L[j] (List.getElem_mem hj')
    simp [hj', Nat.mod_eq_of_lt hx])
  rw [List.length_map] at h
  exact h
def textRel (n m B : Nat) (W : World) (i : Value) (wr : World) : Prop :=
  ∃ k : Nat, k ≤ m ∧ i = .int .i64 k ∧ wr.rowIs B 5 m (fun j => .int .u8 ((if j < k then hexF n m j else 0 : Nat) : Int)) ∧ Below B W wr
end Go.Proofs.Ytbdockeopbfliaa
/- The code of package ident (the closure of taking): what it returns. Conditions: the place that it has counted to lies within the text. -/
namespace Go.Proofs.Ytbdockeopbfliaa
open Go.RowKit Go.Shelf
def digitsA : ByteArray := ⟨#[48, 49, 50, 51, 52, 53, 54, 55, 56, 57, 97, 98, 99, 100, 101, 102]⟩
theorem digit_next (w : World) (B : Nat) (hB : B = w.heap.size) (ty : TypeId) (p : Nat) (hp : p < 16) : (Instr.next (.pointer (some ⟨B, 0, none⟩)) true ty).run Try.prog (w.iter digitsA p) = .ok (.tuple #[.bool true, .int .i64 (p : Int), .int .i32 (hexD p : Nat)]) (w.iter digitsA (p + 1)) := by
  have h : p = 0 ∨ p = 1 ∨ p = 2 ∨ p = 3 ∨ p = 4 ∨ p = 5 ∨ p = 6 ∨ p = 7 ∨ p = 8 ∨ p = 9 ∨ p = 10 ∨ p = 11 ∨ p = 12 ∨ p = 13 ∨ p = 14 ∨ p = 15 := by omega
  subst hB
  rcases h with rfl | rfl | rfl | rfl | rfl | rfl | rfl | rfl | rfl | rfl | rfl | rfl | rfl | rfl | rfl | rfl <;> exact run_next_ascii w digitsA _ ty (by decide) (by decide)
theorem digit_end (w : World) (B : Nat) (hB : B = w.heap.size) (ty : TypeId) : (Instr.next (.pointer (some ⟨B, 0, none⟩)) true ty).run Try.prog (w.iter digitsA 16) = .ok (.tuple #[.bool false]) (w.iter digitsA 16) := by subst hB; exact run_next_end w digitsA 16 ty (by decide)
theorem unhex_end {c : Nat} (h : ∀ q, q < 16 → hexD q ≠ c) : unhex c = 16 := by
  by_cases h16 : unhex c = 16
  · exact h16
  · exact absurd (hexD_unhex c h16).1 (h _ (hexD_unhex c h16).2)
end Go.Proofs.Ytbdockeopbfliaa
/- The code of package ident (taking, Parse): what it returns. No conditions. -/
namespace Go.Proofs.Ytbdockeopbfliaa
open Go.RowKit Go.Shelf
end Go.Proofs.Ytbdockeopbfliaa
/- Frames and their bits (mathematics, no program in it). No conditions. -/
namespace Go.Proofs.Ytbdockeopbfliaa
open Go.RowKit Go.Shelf
/-- k places of a string, from a on. -/
def subL (l : List Nat) (a k : Nat) : List Nat := (l.drop a).take k
theorem subL_mid (p q s : List Nat) : subL (p ++ (q ++ s)) p.length q.length = q := by
  unfold subL
  rw [List.drop_left, List.take_left]
theorem subL_is {l p q s : List Nat} {a k : Nat} (h : l = p ++ (q ++ s)) (hp : p.length = a) (hq : q.length = k) : subL l a k = q := by
  subst h hp hq
  exact subL_mid p q s
theorem get_is {l p s : List Nat} {x a : Nat} (h : l = p ++ (x :: s)) (hp : p.length = a) : l[a]?.getD 0 = x := by
  subst h hp
  rw [List.getElem?_append_right (Nat.le_refl _), Nat.sub_self]
  rfl
theorem subL_length (l : List Nat) (a k : Nat) (h : a + k ≤ l.length) : (subL l a k).length = k := by
  unfold subL
  rw [List.length_take, List.length_drop]
  omega
theorem subL_app (l m : List Nat) (a k : Nat) (h : a + k ≤ l.length) : subL (l ++ m) a k = subL l a k := by
  unfold subL
  rw [List.drop_append_of_le_length (by omega), List.take_append_of_le_length (by rw [List.length_drop]; omega)]
theorem subL_take (l : List Nat) (n a k : Nat) (h : a + k ≤ n) : subL (l.take n) a k = subL l a k := by
  unfold subL
  rw [List.drop_take, List.take_take, Nat.min_eq_left (by omega)]
theorem get_app (l m : List Nat) (i : Nat) (h : i < l.length) : (l ++ m)[i]?.getD 0 = l[i]?.getD 0 := by rw [List.getElem?_append_left h]
theorem get_take (l : List Nat) (n i : Nat) (h : i < n) : (l.take n)[i]?.getD 0 = l[i]?.getD 0 := by rw [List.getElem?_take_of_lt h]
/-- What is wrong with a frame: 0 nothing. -/
def rightF (e : Bool) (n : Nat) (r : Bool) (len : Int) (data : List Nat) : Nat :=
  if rightI e n = false then 1
  else if len < 0 ∨ 8 < len then 2
  else if (List.range 8).any (fun i => decide (data[i]?.getD 0 ≠ 0) && (decide (len ≤ (i : Int)) || r)) then 3
  else 0
/-- The bytes' bits, of the first so many. -/
def dataBits (data : List Nat) : Nat → List Nat
  | 0 => []
  | k + 1 => dataBits data k ++ ofB (data[k]?.getD 0) 8
theorem dataBits_length (data : List Nat) (k : Nat) : (dataBits data k).length = 8 * k := by
  induction k with
  | zero => rfl
  | succ k ih => show (dataBits data k ++ _).length = _; rw [List.length_append, ih, ofB_length]; omega
theorem dataBits_le (data : List Nat) (k : Nat) : ∀ x ∈ dataBits data k, x ≤ 1 := by
  induction k with
  | zero => intro x hx; cases hx
  | succ k ih =>
    intro x hx
    rcases List.mem_append.1 hx with h | h
    · exact ih x h
    · exact ofB_le _ _ x h
/-- A body's bits ahead of its sum. -/
def headB (e : Bool) (n : Nat) (r : Bool) (len : Nat) (data : List Nat) : List Nat :=
  [0] ++ (idBits e n r ++ ((if e then [0, 0] else [0]) ++ (ofB len 4 ++ (if r then [] else dataBits data len))))
def bodyB (e : Bool) (n : Nat) (r : Bool) (len : Nat) (data : List Nat) : List Nat :=
  headB e n r len data ++ ofB (crcOf (headB e n r len data) 0) 15
theorem headB_le (e : Bool) (n : Nat) (r : Bool) (len : Nat) (data : List Nat) : ∀ x ∈ headB e n r len data, x ≤ 1 := by
  intro x hx
  unfold headB at hx
  rcases List.mem_append.1 hx with h | h
  · simp at h; omega
  · rcases List.mem_append.1 h with h | h
    · exact idBits_le _ _ _ x h
    · rcases List.mem_append.1 h with h | h
      · cases e
        · simp at h; omega
        · simp at h; omega
      · rcases List.mem_append.1 h with h | h
        · exact ofB_le _ _ x h
        · cases r
          · exact dataBits_le _ _ x h
          · cases h
theorem bodyB_le (e : Bool) (n : Nat) (r : Bool) (len : Nat) (data : List Nat) : ∀ x ∈ bodyB e n r len data, x ≤ 1 := sealB_le _ _ (headB_le e n r len data)
/-- How many bits a body has by its kind. -/
def sizeN (e r : Bool) (len : Nat) : Nat := (if e then 35 else 15) + 19 + (if r then 0 else 8 * len)
theorem headB_length {e : Bool} {n : Nat} {r : Bool} {len : Nat} {data : List Nat} (h : rightI e n = true) : (headB e n r len data).length + 15 = sizeN e r len := by
  unfold headB sizeN
  rw [List.length_append, List.length_append, List.length_append, List.length_append, idBits_length e n r h, ofB_length]
  cases e <;> cases r <;> simp [dataBits_length] <;> omega
theorem bodyB_length {e : Bool} {n : Nat} {r : Bool} {len : Nat} {data : List Nat} (h : rightI e n = true) : (bodyB e n r len data).length = sizeN e r len := by
  unfold bodyB
  rw [List.length_append, ofB_length, headB_length h]
/-- How many bits the body has that a string begins with, where it tells. -/
def sizeB (l : List Nat) : Option Nat :=
  if l.length < 14 then none
  else if l.length < (if l[13]?.getD 0 = 0 then 15 else 35) + 4 then none
  else some ((if l[13]?.getD 0 = 0 then 15 else 35) + 19 + (if l[if l[13]?.getD 0 = 0 then 12 else 32]?.getD 0 = 0 then 8 * min 8 (numP (subL l (if l[13]?.getD 0 = 0 then 15 else 35) 4)) else 0))
theorem sizeB_more {l : List Nat} {k : Nat} (m : List Nat) (h : sizeB l = some k) : sizeB (l ++ m) = some k := by
  unfold sizeB at h ⊢
  by_cases c : l.length < 14
  · rw [if_pos c] at h; cases h
  · rw [if_neg c] at h
    have e13 := get_app l m 13 (by omega)
    rw [List.length_append, if_neg (by omega), e13]
    by_cases z : l[13]?.getD 0 = 0
    · rw [if_pos z, if_pos z] at h ⊢
      by_cases c2 : l.length < 15 + 4
      · rw [if_pos c2] at h; cases h
      · rw [if_neg c2] at h
        rw [if_neg (by omega), get_app l m 12 (by omega), subL_app l m 15 4 (by omega)]
        exact h
    · rw [if_neg z, if_neg z] at h ⊢
      by_cases c2 : l.length < 35 + 4
      · rw [if_pos c2] at h; cases h
      · rw [if_neg c2] at h
        rw [if_neg (by omega), get_app l m 32 (by omega), subL_app l m 35 4 (by omega)]
        exact h
theorem sizeB_take {l : List Nat} {n k : Nat} (h : sizeB (l.take n) = some k) : sizeB l = some k := by
  have := sizeB_more (l.drop n) h
  rwa [List.take_append_drop] at this
/-- What stands where in a body, whatever is behind. -/
theorem body_parts {e : Bool} {n : Nat} {r : Bool} {len : Nat} {data : List Nat} (h : rightI e n = true) (m : List Nat) :
    let l := bodyB e n r len data ++ m
    l[0]?.getD 0 = 0 ∧ l[13]?.getD 0 = (if e then 1 else 0) ∧ l[if e then 32 else 12]?.getD 0 = askN r ∧ subL l (if e then 35 else 15) 4 = ofB len 4 ∧
      subL l 1 11 = (if e then ofB (n / 262144) 11 else ofB n 11) ∧ (e = true → subL l 14 18 = ofB n 18) ∧ (r = false → subL l ((if e then 35 else 15) + 4) (8 * len) = dataBits data len) := by
  intro l
  obtain ⟨tl, htl⟩ : ∃ tl, tl = ofB (crcOf (headB e n r len data) 0) 15 ++ m := ⟨_, rfl⟩
  obtain ⟨db, hdb⟩ : ∃ db, db = (if r then [] else dataBits data len) := ⟨_, rfl⟩
  have hL : l = [0] ++ (idBits e n r ++ ((if e then [0, 0] else [0]) ++ (ofB len 4 ++ (db ++ tl)))) := by
    show bodyB e n r len data ++ m = _
    unfold bodyB
    rw [List.append_assoc, ← htl]
    unfold headB
    rw [← hdb]
    simp only [List.append_assoc]
  clear_value l
  subst hL
  cases e with
  | false =>
    have hn : n < 2048 := by simpa [rightI] using h
    have hid : idBits false n r = ofB n 11 ++ [askN r, 0] := by
      unfold idBits
      rw [if_pos h]
      simp only [Bool.false_eq_true, if_false]
      rw [show (13 : Nat) = 12 + 1 from rfl, ofB_succ, show (12 : Nat) = 11 + 1 from rfl, ofB_succ]
      have ha := askN_le r
      rw [show (n * 2 + askN r) * 2 / 2 = n * 2 + askN r by omega, show (n * 2 + askN r) * 2 % 2 = 0 by omega, show (n * 2 + askN r) / 2 = n by omega, show (n * 2 + askN r) % 2 = askN r by omega]
      simp
    rw [hid]
    simp only [Bool.false_eq_true, if_false]
    have l11 : (ofB n 11).length = 11 := ofB_length _ _
    refine ⟨rfl, ?_, ?_, ?_, ?_, fun e => (by cases e), fun hr => ?_⟩
    · exact get_is (p := [0] ++ (ofB n 11 ++ [askN r])) (s := [0] ++ (ofB len 4 ++ (db ++ tl))) (by simp) (by simp [l11])
    · exact get_is (p := [0] ++ ofB n 11) (s := [0] ++ ([0] ++ (ofB len 4 ++ (db ++ tl)))) (by simp) (by simp [l11])
    · exact subL_is (p := [0] ++ (ofB n 11 ++ [askN r, 0, 0])) (s := db ++ tl) (by simp) (by simp [l11]) (ofB_length _ _)
    · exact subL_is (p := [0]) (s := [askN r, 0] ++ ([0] ++ (ofB len 4 ++ (db ++ tl)))) (by simp) rfl l11
    · rw [hr] at hdb
      rw [if_neg (by decide)] at hdb
      subst hdb
      exact subL_is (p := [0] ++ (ofB n 11 ++ ([askN r, 0, 0] ++ ofB len 4))) (s := tl) (by simp) (by simp [l11, ofB_length]) (dataBits_length _ _)
  | true =>
    have hid : idBits true n r = ofB (n / 262144) 11 ++ ([1, 1] ++ (ofB n 18 ++ [askN r])) := by
      unfold idBits
      rw [if_pos h]
      simp only [if_true]
    rw [hid]
    simp only [if_true]
    have l11 : (ofB (n / 262144) 11).length = 11 := ofB_length _ _
    have l18 : (ofB n 18).length = 18 := ofB_length _ _
    refine ⟨rfl, ?_, ?_, ?_, ?_, fun _ => ?_, fun hr => ?_⟩
    · exact get_is (p := [0] ++ (ofB (n / 262144) 11 ++ [1])) (s := ofB n 18 ++ ([askN r] ++ ([0, 0] ++ (ofB len 4 ++ (db ++ tl))))) (by simp) (by simp [l11])
    · exact get_is (p := [0] ++ (ofB (n / 262144) 11 ++ ([1, 1] ++ ofB n 18))) (s := [0, 0] ++ (ofB len 4 ++ (db ++ tl))) (by simp) (by simp [l11, l18])
    · exact subL_is (p := [0] ++ (ofB (n / 262144) 11 ++ ([1, 1] ++ (ofB n 18 ++ [askN r, 0, 0])))) (s := db ++ tl) (by simp) (by simp [l11, l18]) (ofB_length _ _)
    · exact subL_is (p := [0]) (s := [1, 1] ++ (ofB n 18 ++ ([askN r] ++ ([0, 0] ++ (ofB len 4 ++ (db ++ tl)))))) (by simp) rfl l11
    · exact subL_is (p := [0] ++ (ofB (n / 262144) 11 ++ [1, 1])) (s := [askN r] ++ ([0, 0] ++ (ofB len 4 ++ (db ++ tl)))) (by simp) (by simp [l11]) l18
    · rw [hr] at hdb
      rw [if_neg (by decide)] at hdb
      subst hdb
      exact subL_is (p := [0] ++ (ofB (n / 262144) 11 ++ ([1, 1] ++ (ofB n 18 ++ ([askN r, 0, 0] ++ ofB len 4))))) (s := tl) (by simp) (by simp [l11, l18, ofB_length]) (dataBits_length _ _)
theorem numP_len {len : Nat} (hl : len ≤ 8) : numP (ofB len 4) = len := by
  rw [numP_ofB _ _ (by omega)]
  omega
/-- How many bits a body has is told by it, whatever is behind. -/
theorem size_body {e : Bool} {n : Nat} {r : Bool} {len : Nat} {data : List Nat} (h : rightI e n = true) (hl : len ≤ 8) (m : List Nat) : sizeB (bodyB e n r len data ++ m) = some (bodyB e n r len data).length := by
  obtain ⟨_, h13, hask, hlen, _, _, _⟩ := body_parts (r := r) (len := len) (data := data) h m
  have hL := bodyB_length (r := r) (len := len) (data := data) h
  obtain ⟨l, hl'⟩ : ∃ l, l = bodyB e n r len data ++ m := ⟨_, rfl⟩
  have hll : sizeN e r len ≤ l.length := by rw [hl', List.length_append, hL]; omega
  rw [← hl'] at h13 hask hlen ⊢
  rw [hL]
  have hs34 : 34 ≤ sizeN e r len := by unfold sizeN; split <;> omega
  unfold sizeB
  rw [if_neg (by omega), h13]
  cases e with
  | false =>
    simp only [Bool.false_eq_true, if_false, if_true] at hask hlen ⊢
    rw [if_neg (by omega), hask, hlen, numP_len hl]
    unfold sizeN
    cases r with
    | false => simp [askN]; omega
    | true => simp [askN]
  | true =>
    have hs54 : 54 ≤ sizeN true r len := by unfold sizeN; simp only [if_true]; omega
    simp only [if_true] at hask hlen ⊢
    rw [if_neg (show ¬ (1 : Nat) = 0 by decide), if_neg (show ¬ (1 : Nat) = 0 by decide), if_neg (by omega), hask, hlen, numP_len hl]
    unfold sizeN
    cases r with
    | false => simp [askN]; omega
    | true => simp [askN]
/-- What is told by a body's beginning is how many bits it has. -/
theorem size_begin {e : Bool} {n : Nat} {r : Bool} {len k j : Nat} {data : List Nat} (h : rightI e n = true) (hl : len ≤ 8) (hk : sizeB ((bodyB e n r len data).take j) = some k) : k = (bodyB e n r len data).length := by
  have h1 := sizeB_take hk
  have h2 := size_body (r := r) (data := data) h hl []
  rw [List.append_nil, h1] at h2
  exact Option.some.inj h2
/-- The bytes that stand from a place on. -/
def dataOf (l : List Nat) (fr len : Nat) : List Nat := (List.range 8).map (fun i => if i < len then numP (subL l (fr + 8 * i) 8) else 0)
/-- The frame that a string begins with: its identifier, whether it is asked for, how many bytes, which, and how many bits; or what is wrong. -/
def parseB (l : List Nat) : Except Nat (Bool × Nat × Bool × Nat × List Nat × Nat) :=
  if l[0]?.getD 0 = 1 then .error 3
  else match sizeB l with
    | none => .error 2
    | some n =>
      if l.length < n then .error 2
      else if crcOf (l.take n) 0 = 0 then
        (if l[13]?.getD 0 = 0 then .ok (false, numP (subL l 1 11), decide (l[12]?.getD 0 = 1), min 8 (numP (subL l 15 4)), dataOf l 19 (if l[12]?.getD 0 = 1 then 0 else min 8 (numP (subL l 15 4))), n)
         else .ok (true, numP (subL l 1 11) * 262144 + numP (subL l 14 18), decide (l[32]?.getD 0 = 1), min 8 (numP (subL l 35 4)), dataOf l 39 (if l[32]?.getD 0 = 1 then 0 else min 8 (numP (subL l 35 4))), n))
      else .error 5
theorem subL_subL (l : List Nat) (a k b j : Nat) (h : b + j ≤ k) : subL (subL l a k) b j = subL l (a + b) j := by
  unfold subL
  rw [List.drop_take, List.take_take, Nat.min_eq_left (by omega), List.drop_drop]
theorem dataBits_sub (data : List Nat) : ∀ k i, i < k → subL (dataBits data k) (8 * i) 8 = ofB (data[i]?.getD 0) 8 := by
  intro k
  induction k with
  | zero => intro i h; omega
  | succ k ih =>
    intro i hi
    show subL (dataBits data k ++ ofB (data[k]?.getD 0) 8) (8 * i) 8 = _
    by_cases c : i < k
    · rw [subL_app _ _ _ _ (by rw [dataBits_length]; omega)]
      exact ih i c
    · obtain rfl : i = k := by omega
      exact subL_is (p := dataBits data i) (q := ofB (data[i]?.getD 0) 8) (s := []) (by simp) (dataBits_length _ _) (ofB_length _ _)
theorem rightF_data {e : Bool} {n : Nat} {r : Bool} {len : Nat} {data : List Nat} (h : rightF e n r (len : Int) data = 0) : rightI e n = true ∧ len ≤ 8 ∧ ∀ i, i < 8 → (len ≤ i ∨ r = true) → data[i]?.getD 0 = 0 := by
  unfold rightF at h
  by_cases h1 : rightI e n = false
  · rw [if_pos h1] at h; cases h
  · rw [if_neg h1] at h
    by_cases h2 : (len : Int) < 0 ∨ 8 < (len : Int)
    · rw [if_pos h2] at h; cases h
    · rw [if_neg h2] at h
      have h1' : rightI e n = true := by simpa using h1
      refine ⟨h1', by omega, fun i hi hc => ?_⟩
      have h3 : ((List.range 8).any (fun i => decide (data[i]?.getD 0 ≠ 0) && (decide ((len : Int) ≤ (i : Int)) || r))) = false := by
        cases c : ((List.range 8).any (fun i => decide (data[i]?.getD 0 ≠ 0) && (decide ((len : Int) ≤ (i : Int)) || r))) with
        | false => rfl
        | true => rw [c, if_pos rfl] at h; cases h
      have := List.any_eq_false.1 h3 i (List.mem_range.2 hi)
      have hr : (decide ((len : Int) ≤ (i : Int)) || r) = true := by
        rcases hc with hc | hc
        · rw [decide_eq_true (by omega), Bool.true_or]
        · rw [hc, Bool.or_true]
      rw [hr, Bool.and_true] at this
      simpa using this
/-- There and back: a body is read as the frame, whatever stands behind. -/
theorem parse_body {e : Bool} {n : Nat} {r : Bool} {len : Nat} {data : List Nat} (h : rightF e n r (len : Int) data = 0) (hd : data.length = 8) (hb : ∀ x ∈ data, x < 256) (m : List Nat) :
    parseB (bodyB e n r len data ++ m) = .ok (e, n, r, len, data, (bodyB e n r len data).length) := by
  obtain ⟨hr, hl, hz⟩ := rightF_data h
  obtain ⟨h0, h13, hask, hlen, h11, h18, hdat⟩ := body_parts (r := r) (len := len) (data := data) hr m
  have hsz := size_body (r := r) (data := data) hr hl m
  obtain ⟨l, hl'⟩ : ∃ l, l = bodyB e n r len data ++ m := ⟨_, rfl⟩
  have htk : l.take (bodyB e n r len data).length = bodyB e n r len data := by rw [hl']; exact List.take_left
  have hc0 : crcOf (bodyB e n r len data) 0 = 0 := sealB_zero _
  have hlen2 : (bodyB e n r len data).length ≤ l.length := by rw [hl', List.length_append]; omega
  rw [← hl'] at h0 h13 hask hlen h11 h18 hdat hsz ⊢
  obtain ⟨N, hN⟩ : ∃ N, N = (bodyB e n r len data).length := ⟨_, rfl⟩
  rw [← hN] at hsz htk hlen2 ⊢
  have hdata : ∀ fr, (r = false → subL l fr (8 * len) = dataBits data len) → dataOf l fr (if askN r = 1 then 0 else len) = data := fun fr hf => by
    apply List.ext_getElem
    · simp [dataOf, hd]
    · intro i a b
      simp only [dataOf, List.length_map, List.length_range] at a
      have e2 : data[i]?.getD 0 = data[i] := by simp [b]
      simp only [dataOf, List.getElem_map, List.getElem_range]
      cases r with
      | true =>
        rw [if_pos (show askN true = 1 from rfl), if_neg (by omega), ← e2, hz i a (.inr rfl)]
      | false =>
        rw [if_neg (show ¬ askN false = 1 by decide)]
        by_cases c : i < len
        · rw [if_pos c, ← subL_subL l fr (8 * len) (8 * i) 8 (by omega), hf rfl, dataBits_sub _ _ _ c, numP_ofB _ _ (by omega), e2]
          have := hb _ (List.getElem_mem b)
          omega
        · rw [if_neg c, ← e2, hz i a (.inl (by omega))]
  have hrr : decide (askN r = 1) = r := by cases r <;> rfl
  unfold parseB
  rw [if_neg (by omega), hsz]
  simp only []
  rw [if_neg (by omega), htk, if_pos hc0]
  cases e with
  | false =>
    have hn : n < 2048 := by simpa [rightI] using hr
    simp only [Bool.false_eq_true, if_false] at h13 hask hlen h11 hdat
    rw [if_pos h13, hask, hlen, numP_len hl, Nat.min_eq_right hl, h11, numP_ofB _ _ (by omega), hdata 19 hdat, hrr, show n % 2 ^ 11 = n by omega]
  | true =>
    have hn : n < 536870912 := by simpa [rightI] using hr
    simp only [if_true] at h13 hask hlen h11 hdat
    rw [if_neg (by omega), hask, hlen, numP_len hl, Nat.min_eq_right hl, h11, h18 rfl, numP_ofB _ _ (by omega), numP_ofB _ _ (by omega), hdata 39 hdat, hrr, show n / 262144 % 2 ^ 11 * 262144 + n % 2 ^ 18 = n by omega]
/-- With one bit changed, but the first one, and as many bits told, it is refused for its sum. -/
theorem parse_flip {e : Bool} {n : Nat} {r : Bool} {len : Nat} {data : List Nat} (h : rightI e n = true) {i : Nat} (hi : i < (bodyB e n r len data).length) (h0 : i ≠ 0)
    (hs : sizeB ((bodyB e n r len data).set i (1 - (bodyB e n r len data)[i]?.getD 0)) = some (bodyB e n r len data).length) :
    parseB ((bodyB e n r len data).set i (1 - (bodyB e n r len data)[i]?.getD 0)) = .error 5 := by
  have hb0 := (body_parts (r := r) (len := len) (data := data) h []).1
  rw [List.append_nil] at hb0
  obtain ⟨b, hb⟩ : ∃ b, b = bodyB e n r len data := ⟨_, rfl⟩
  have hb1 : ∀ x ∈ b, x ≤ 1 := by rw [hb]; exact bodyB_le _ _ _ _ _
  have hc0 : crcOf b 0 = 0 := by rw [hb]; exact sealB_zero _
  rw [← hb] at hi hs hb0 ⊢
  have hx1 : ∀ x ∈ b.set i (1 - b[i]?.getD 0), x ≤ 1 := fun x hx => by
    rcases List.mem_or_eq_of_mem_set hx with h | h
    · exact hb1 x h
    · omega
  have hdiff : diffN (b.set i (1 - b[i]?.getD 0)) b b.length % 2 = 1 := by
    have : ∀ n, n ≤ b.length → diffN (b.set i (1 - b[i]?.getD 0)) b n = if i < n then 1 else 0 := by
      intro n
      induction n with
      | zero => intro _; rfl
      | succ n ih =>
        intro hn
        rw [diffN_succ, ih (by omega)]
        by_cases c : n = i
        · subst c
          have h1 := getD_bit hb1 n
          have e : (b.set n (1 - b[n]?.getD 0))[n]?.getD 0 = 1 - b[n]?.getD 0 := by
            rw [List.getElem?_set_self (by omega), Option.getD_some]
          rw [e, if_neg (by omega), if_neg (by omega), if_pos (by omega)]
        · have e : (b.set i (1 - b[i]?.getD 0))[n]?.getD 0 = b[n]?.getD 0 := by
            rw [List.getElem?_set_ne (by omega)]
          rw [e, if_pos rfl]
          by_cases c2 : i < n
          · rw [if_pos c2, if_pos (by omega)]
          · rw [if_neg c2, if_neg (by omega)]
    rw [this _ (Nat.le_refl _), if_pos hi]
  have hne := odd_told hx1 hb1 List.length_set hc0 hdiff
  have hx0 : (b.set i (1 - b[i]?.getD 0))[0]?.getD 0 = 0 := by
    rw [List.getElem?_set_ne (by omega)]
    exact hb0
  have hlen : (b.set i (1 - b[i]?.getD 0)).length = b.length := List.length_set
  unfold parseB
  rw [if_neg (by omega), hs]
  simp only []
  rw [if_neg (by omega), List.take_of_length_le (by omega), if_neg hne]
end Go.Proofs.Ytbdockeopbfliaa
/- Frames' texts, there and back; and of two bodies the one that wins (mathematics, no program in it). No conditions. -/
namespace Go.Proofs.Ytbdockeopbfliaa
open Go.RowKit Go.Shelf
/-- Two digits for each byte. -/
def hexBytes : List Nat → List Nat
  | [] => []
  | d :: t => hexD (d / 16) :: hexD (d % 16) :: hexBytes t
theorem hexBytes_length (l : List Nat) : (hexBytes l).length = 2 * l.length := by
  induction l with
  | nil => rfl
  | cons d t ih => show (hexBytes t).length + 1 + 1 = 2 * (t.length + 1); rw [ih]; omega
def bytesOf : List Nat → Option (List Nat)
  | [] => some []
  | [_] => none
  | a :: b :: t => if unhex a = 16 ∨ unhex b = 16 then none else (bytesOf t).map (fun r => (16 * unhex a + unhex b) :: r)
theorem bytesOf_hex (l : List Nat) (h : ∀ x ∈ l, x < 256) : bytesOf (hexBytes l) = some l := by
  induction l with
  | nil => rfl
  | cons d t ih =>
    have hd := h d (by simp)
    show (if unhex (hexD (d / 16)) = 16 ∨ unhex (hexD (d % 16)) = 16 then none else (bytesOf (hexBytes t)).map (fun r => (16 * unhex (hexD (d / 16)) + unhex (hexD (d % 16))) :: r)) = _
    rw [unhex_hexD _ (by omega), unhex_hexD _ (by omega), if_neg (by omega), ih (fun x hx => h x (by simp [hx]))]
    show some ((16 * (d / 16) + d % 16) :: t) = _
    rw [show 16 * (d / 16) + d % 16 = d by omega]
theorem hex_bytesOf (k : Nat) : ∀ l r : List Nat, l.length ≤ k → bytesOf l = some r → hexBytes r = l ∧ ∀ x ∈ r, x < 256 := by
  induction k with
  | zero =>
    intro l r hl h
    obtain rfl := List.length_eq_zero_iff.1 (by omega : l.length = 0)
    cases h
    exact ⟨rfl, fun x hx => by cases hx⟩
  | succ k ih =>
    intro l r hl h
    match l, hl, h with
    | [], _, h => cases h; exact ⟨rfl, fun x hx => by cases hx⟩
    | [_], _, h => cases h
    | a :: b :: t, hl, h =>
      change (if unhex a = 16 ∨ unhex b = 16 then none else (bytesOf t).map (fun r => (16 * unhex a + unhex b) :: r)) = some r at h
      by_cases c : unhex a = 16 ∨ unhex b = 16
      · rw [if_pos c] at h; cases h
      · rw [if_neg c] at h
        cases h' : bytesOf t with
        | none => rw [h'] at h; cases h
        | some s =>
          rw [h'] at h
          cases h
          obtain ⟨i1, i2⟩ := ih t s (by simp at hl; omega) h'
          obtain ⟨a1, a2⟩ := hexD_unhex a (fun e => c (.inl e))
          obtain ⟨b1, b2⟩ := hexD_unhex b (fun e => c (.inr e))
          refine ⟨?_, fun x hx => ?_⟩
          · show hexD ((16 * unhex a + unhex b) / 16) :: hexD ((16 * unhex a + unhex b) % 16) :: hexBytes s = _
            rw [show (16 * unhex a + unhex b) / 16 = unhex a by omega, show (16 * unhex a + unhex b) % 16 = unhex b by omega, a1, b1, i1]
          · rcases List.mem_cons.1 hx with rfl | hx
            · omega
            · exact i2 x hx
theorem bytesOf_length (k : Nat) : ∀ l r : List Nat, l.length ≤ k → bytesOf l = some r → l.length = 2 * r.length := by
  intro l r hl h
  rw [← (hex_bytesOf k l r hl h).1, hexBytes_length]
/-- A sign that ends an identifier's text. -/
def markC (c : Nat) : Bool := c == 63 || c == 35
def frText (e : Bool) (n : Nat) (r : Bool) (len : Nat) (data : List Nat) : List Nat :=
  if rightF e n r (len : Int) data = 0 then idText e n ++ (if r then [63, 48 + len] else 35 :: hexBytes (data.take len)) else []
def frRead (l : List Nat) : Option (Bool × Nat × Bool × Nat × List Nat) :=
  match l.dropWhile (fun c => !markC c) with
  | [] => none
  | c :: t => (idParse (l.takeWhile (fun c => !markC c))).bind fun id =>
    if c = 63 then (match t with
      | [d] => if 48 ≤ d ∧ d ≤ 56 then some (id.1, id.2, true, d - 48, List.replicate 8 0) else none
      | _ => none)
    else if t.length ≤ 16 then (bytesOf t).map (fun bs => (id.1, id.2, false, bs.length, bs ++ List.replicate (8 - bs.length) 0)) else none
theorem hexD_mark (d : Nat) (h : d < 16) : markC (hexD d) = false := by
  unfold markC hexD
  split
  · simp; omega
  · simp; omega
theorem hexT_mark (k : Nat) : ∀ n, ∀ c ∈ hexT n k, markC c = false := by
  induction k with
  | zero => intro n c hc; cases hc
  | succ k ih =>
    intro n c hc
    rcases List.mem_append.1 (show c ∈ hexT (n / 16) k ++ [hexD (n % 16)] from hc) with h | h
    · exact ih _ c h
    · obtain rfl : c = hexD (n % 16) := by simpa using h
      exact hexD_mark _ (by omega)
theorem idText_mark (e : Bool) (n : Nat) : ∀ c ∈ idText e n, (!markC c) = true := by
  intro c hc
  unfold idText at hc
  split at hc
  · split at hc
    · rw [hexT_mark _ _ c hc]; rfl
    · rw [hexT_mark _ _ c hc]; rfl
  · cases hc
theorem takeWhile_app {q : Nat → Bool} {p t : List Nat} {c : Nat} (hp : ∀ x ∈ p, q x = true) (hc : q c = false) : (p ++ c :: t).takeWhile q = p ∧ (p ++ c :: t).dropWhile q = c :: t := by
  induction p with
  | nil => simp [hc]
  | cons a p ih =>
    have ha := hp a (by simp)
    obtain ⟨h1, h2⟩ := ih (fun x hx => hp x (by simp [hx]))
    constructor
    · show (a :: (p ++ c :: t)).takeWhile q = _
      rw [List.takeWhile_cons, if_pos ha, h1]
    · show (a :: (p ++ c :: t)).dropWhile q = _
      rw [List.dropWhile_cons, if_pos ha, h2]
theorem read_text {e : Bool} {n : Nat} {r : Bool} {len : Nat} {data : List Nat} (h : rightF e n r (len : Int) data = 0) (hd : data.length = 8) (hb : ∀ x ∈ data, x < 256) : frRead (frText e n r len data) = some (e, n, r, len, data) := by
  obtain ⟨hr, hl, hz⟩ := rightF_data h
  have hid := parse_text hr
  have hm := idText_mark e n
  have hdz : ∀ m, m ≤ 8 → (∀ i, i < 8 → m ≤ i → data[i]?.getD 0 = 0) → data.take m ++ List.replicate (8 - m) 0 = data := fun m hm8 hzz => by
    apply List.ext_getElem
    · rw [List.length_append, List.length_take, List.length_replicate]; omega
    · intro i a b
      by_cases c : i < m
      · rw [List.getElem_append_left (by rw [List.length_take]; omega), List.getElem_take]
      · rw [List.getElem_append_right (by rw [List.length_take]; omega), List.getElem_replicate]
        have := hzz i (by omega) (by omega)
        simpa [b] using this.symm
  unfold frText
  rw [if_pos h]
  cases r with
  | true =>
    simp only [if_true]
    obtain ⟨h1, h2⟩ := takeWhile_app (q := fun c => !markC c) (p := idText e n) (c := 63) (t := [48 + len]) hm rfl
    unfold frRead
    rw [h1, h2, hid]
    show (if 48 ≤ 48 + len ∧ 48 + len ≤ 56 then some (e, n, true, 48 + len - 48, List.replicate 8 0) else none) = _
    rw [if_pos (by omega), show 48 + len - 48 = len by omega]
    have := hdz 0 (by omega) (fun i hi _ => hz i hi (.inr rfl))
    rw [List.take_zero, List.nil_append] at this
    rw [← this]
  | false =>
    simp only [Bool.false_eq_true, if_false]
    obtain ⟨h1, h2⟩ := takeWhile_app (q := fun c => !markC c) (p := idText e n) (c := 35) (t := hexBytes (data.take len)) hm rfl
    have hlt : (data.take len).length = len := by rw [List.length_take]; omega
    unfold frRead
    rw [h1, h2, hid]
    simp only [Option.bind_some]
    rw [if_neg (by decide), if_pos (by rw [hexBytes_length, hlt]; omega), bytesOf_hex _ (fun x hx => hb x (List.mem_of_mem_take hx))]
    show some (e, n, false, (data.take len).length, data.take len ++ List.replicate (8 - (data.take len).length) 0) = _
    rw [hlt, hdz len hl (fun i hi hc => hz i hi (.inl hc))]
theorem whileParts (q : Nat → Bool) (l : List Nat) : l.takeWhile q ++ l.dropWhile q = l := List.takeWhile_append_dropWhile
theorem rightF_ok {e : Bool} {n : Nat} {r : Bool} {len : Nat} {data : List Nat} (h : rightI e n = true) (hl : len ≤ 8) (hz : ∀ i, i < 8 → (len ≤ i ∨ r = true) → data[i]?.getD 0 = 0) : rightF e n r (len : Int) data = 0 := by
  unfold rightF
  rw [if_neg (by rw [h]; decide), if_neg (by omega), if_neg ?_]
  intro c
  obtain ⟨i, hi, hc⟩ := List.any_eq_true.1 c
  rw [List.mem_range] at hi
  simp only [Bool.and_eq_true, Bool.or_eq_true, decide_eq_true_eq] at hc
  exact hc.1 (hz i hi (by rcases hc.2 with h | h; exact .inl (by omega); exact .inr h))
theorem text_read {l : List Nat} {e : Bool} {n : Nat} {r : Bool} {len : Nat} {data : List Nat} (h : frRead l = some (e, n, r, len, data)) : rightF e n r (len : Int) data = 0 ∧ data.length = 8 ∧ frText e n r len data = l := by
  have hw := whileParts (fun c => !markC c) l
  unfold frRead at h
  cases hdw : l.dropWhile (fun c => !markC c) with
  | nil => rw [hdw] at h; cases h
  | cons c t =>
    rw [hdw] at h hw
    have hcm : markC c = true := by
      have := List.head_dropWhile_not (fun c => !markC c) (l := l) (by rw [hdw]; simp)
      simpa [hdw] using this
    cases hid : idParse (l.takeWhile (fun c => !markC c)) with
    | none => rw [hid] at h; cases h
    | some id =>
      obtain ⟨e', n'⟩ := id
      obtain ⟨hri, htx⟩ := text_parse hid
      rw [hid] at h
      simp only [Option.bind_some] at h
      by_cases c63 : c = 63
      · rw [if_pos c63] at h
        match t, h, hw with
        | [], h, _ => cases h
        | [d], h, hw =>
          simp only [] at h
          by_cases cd : 48 ≤ d ∧ d ≤ 56
          · rw [if_pos cd] at h
            cases h
            have hR : rightF e n true ((d - 48 : Nat) : Int) (List.replicate 8 0) = 0 := rightF_ok hri (by omega) (fun i hi _ => by rw [List.getElem?_replicate, if_pos hi]; rfl)
            refine ⟨hR, by simp, ?_⟩
            unfold frText
            rw [if_pos hR, if_pos rfl, htx, show 48 + (d - 48) = d by omega, ← c63]
            exact hw
          · rw [if_neg cd] at h; cases h
        | _ :: _ :: _, h, _ => cases h
      · rw [if_neg c63] at h
        have c35 : c = 35 := by
          unfold markC at hcm
          simp at hcm
          omega
        by_cases c16 : t.length ≤ 16
        · rw [if_pos c16] at h
          cases hbs : bytesOf t with
          | none => rw [hbs] at h; cases h
          | some bs =>
            rw [hbs] at h
            have hlen := bytesOf_length t.length t bs (Nat.le_refl _) hbs
            obtain ⟨hx, hlt⟩ := hex_bytesOf t.length t bs (Nat.le_refl _) hbs
            cases h
            have hR : rightF e n false ((bs.length : Nat) : Int) (bs ++ List.replicate (8 - bs.length) 0) = 0 := rightF_ok hri (by omega) (fun i hi hc => by
              have : bs.length ≤ i := by
                rcases hc with h | h
                · exact h
                · cases h
              rw [List.getElem?_append_right this]
              simp [show i - bs.length < 8 - bs.length by omega])
            refine ⟨hR, by rw [List.length_append, List.length_replicate]; omega, ?_⟩
            unfold frText
            rw [if_pos hR, if_neg (by decide), htx, List.take_left, hx, ← c35]
            exact hw
        · rw [if_neg c16] at h; cases h
theorem winsI_same (e : Bool) (n : Nat) (r : Bool) : winsI e n r e n r = false := by
  unfold winsI
  rw [decide_eq_false (by omega), Bool.and_false]
/-- Of two unlike ones just one wins. -/
theorem winsI_one {e f r s : Bool} {n m : Nat} (he : rightI e n = true) (hf : rightI f m = true) (h : ¬ (e = f ∧ n = m ∧ r = s)) : winsI e n r f m s = !winsI f m s e n r := by
  unfold winsI
  rw [he, hf, Bool.true_and, Bool.true_and, Bool.true_and]
  have hne : idKey e n r ≠ idKey f m s := fun c => h (idKey_inj he hf c)
  by_cases c : idKey e n r < idKey f m s
  · rw [decide_eq_true c, decide_eq_false (by omega)]; rfl
  · rw [decide_eq_false c, decide_eq_true (by omega)]; rfl
theorem winsI_trans {e f g r s u : Bool} {n m k : Nat} (h1 : winsI e n r f m s = true) (h2 : winsI f m s g k u = true) : winsI e n r g k u = true := by
  unfold winsI at h1 h2 ⊢
  simp only [Bool.and_eq_true, decide_eq_true_eq] at h1 h2 ⊢
  exact ⟨⟨h1.1.1, h2.1.2⟩, by omega⟩
theorem body_get {e : Bool} {n : Nat} {r : Bool} {len : Nat} {data : List Nat} {j : Nat} (hj : j < (idBits e n r).length) : (bodyB e n r len data)[j + 1]?.getD 0 = (idBits e n r)[j]?.getD 0 := by
  unfold bodyB headB
  rw [List.append_assoc, List.append_assoc]
  show (0 :: (idBits e n r ++ _))[j + 1]?.getD 0 = _
  rw [List.getElem?_cons_succ, List.getElem?_append_left hj]
theorem body_zero (e : Bool) (n : Nat) (r : Bool) (len : Nat) (data : List Nat) : (bodyB e n r len data)[0]?.getD 0 = 0 := rfl
theorem body_long {e : Bool} {n : Nat} {r : Bool} {len : Nat} {data : List Nat} (h : rightI e n = true) : (idBits e n r).length + 1 < (bodyB e n r len data).length := by
  rw [bodyB_length h, idBits_length e n r h]
  unfold sizeN
  cases e <;> simp <;> omega
/-- Bodies that are alike as far as both go are of one identifier. -/
theorem body_same {e f r s : Bool} {n m len len' : Nat} {d d' : List Nat} (he : rightI e n = true) (hf : rightI f m = true)
    (h : ∀ i, i < (bodyB e n r len d).length → i < (bodyB f m s len' d').length → (bodyB e n r len d)[i]?.getD 0 = (bodyB f m s len' d')[i]?.getD 0) : e = f ∧ n = m ∧ r = s := by
  refine idBits_same he hf (fun i h1 h2 => ?_)
  have l1 := body_long (r := r) (len := len) (data := d) he
  have l2 := body_long (r := s) (len := len') (data := d') hf
  have := h (i + 1) (by omega) (by omega)
  rwa [body_get h1, body_get h2] at this
/-- Of two bodies that are unlike first at a place, the one that has 0 there wins. -/
theorem body_first {e f r s : Bool} {n m len len' i : Nat} {d d' : List Nat} (he : rightI e n = true) (hf : rightI f m = true) (hd : ¬ (e = f ∧ n = m ∧ r = s))
    (hsame : ∀ j, j < i → (bodyB e n r len d)[j]?.getD 0 = (bodyB f m s len' d')[j]?.getD 0) (hne : (bodyB e n r len d)[i]?.getD 0 ≠ (bodyB f m s len' d')[i]?.getD 0) :
    winsI e n r f m s = decide ((bodyB e n r len d)[i]?.getD 0 = 0) := by
  cases i with
  | zero => exact absurd (by rw [body_zero, body_zero]) hne
  | succ i =>
    have hi : i < (idBits e n r).length ∧ i < (idBits f m s).length := by
      by_cases c : i < (idBits e n r).length ∧ i < (idBits f m s).length
      · exact c
      · exfalso
        refine hd (idBits_same he hf (fun j h1 h2 => ?_))
        have := hsame (j + 1) (by omega)
        rwa [body_get h1, body_get h2] at this
    rw [body_get hi.1] at hne ⊢
    rw [body_get hi.2] at hne
    refine first_wins he hf hi.1 hi.2 (fun j hj => ?_) hne
    have := hsame (j + 1) (by omega)
    rwa [body_get (by omega), body_get (by omega)] at this
end Go.Proofs.Ytbdockeopbfliaa
