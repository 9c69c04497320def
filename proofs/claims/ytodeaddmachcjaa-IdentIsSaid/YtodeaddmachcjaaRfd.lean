/- The document's own And in plain words: what it returns. Conditions: the strings are strings, not longer than 500, and at most 1000 of them. -/
import Derived.Test.YtodeaddmachcjaaRfc
namespace Go.Proofs.Ytodeaddmachcjaa
open Go.RowKit Go.Shelf
theorem leastN_snoc {L : List (List Nat)} (h : L ≠ []) (b : List Nat) : leastN (L ++ [b]) = min (leastN L) b.length := by
  cases L with
  | nil => exact absurd rfl h
  | cons x r =>
    show (r ++ [b]).foldl (fun m y => min m y.length) x.length = _
    rw [List.foldl_append]; rfl
theorem andAt_snoc (L : List (List Nat)) (b : List Nat) (j : Nat) : andAt (L ++ [b]) j = if andAt L j = 1 ∧ bitAt b j = 1 then 1 else 0 := by
  have h := andAt_succ (L := L ++ [b]) (j := L.length) (b := b) (by simp) j
  rw [List.take_left] at h
  rw [← h, List.take_of_length_le (by simp)]
theorem andB_one (b : List Nat) : andB [b] = bitsOf b := by
  apply List.ext_getElem
  · simp [andB, leastN, bitsOf]
  · intro i h1 h2
    have hi : i < b.length := by simpa [bitsOf] using h2
    have e : andAt [b] i = bitAt b i := andAt_is (bitAt_le _ _) (by simp)
    simp [andB, e, bitsOf, bitAt, hi]
/-- The string that is gone through: up to k with one string more. -/
def mixB (L : List (List Nat)) (b : List Nat) (n k : Nat) : List Nat := (List.range n).map (fun j => if j < k then andAt (L ++ [b]) j else andAt L j)
theorem mixB_length (L : List (List Nat)) (b : List Nat) (n k : Nat) : (mixB L b n k).length = n := by simp [mixB]
theorem mixB_start {L : List (List Nat)} {b : List Nat} {n : Nat} (h : n ≤ leastN L) : mixB L b n 0 = (andB L).take n := by
  unfold mixB andB
  rw [← List.map_take, List.take_range, Nat.min_eq_left h]
  simp
theorem mixB_all {L : List (List Nat)} {b : List Nat} {n : Nat} (h : n = leastN (L ++ [b])) : mixB L b n n = andB (L ++ [b]) := by
  unfold mixB andB
  rw [← h]
  exact List.map_congr_left (fun j hj => if_pos (List.mem_range.1 hj))
theorem mixB_one {L : List (List Nat)} {b : List Nat} {n k : Nat} (_h : k < n) (hb : bitAt b k = 1) : mixB L b n (k + 1) = mixB L b n k := by
  unfold mixB
  refine List.map_congr_left (fun j _ => ?_)
  by_cases e : j = k
  · subst e
    rw [if_pos (by omega), if_neg (by omega), andAt_snoc, hb]
    have := andAt_le L j
    split <;> omega
  · by_cases l : j < k
    · rw [if_pos (by omega), if_pos l]
    · rw [if_neg (by omega), if_neg l]
theorem mixB_zero {L : List (List Nat)} {b : List Nat} {n k : Nat} (h : k < n) (hb : bitAt b k = 0) : mixB L b n (k + 1) = (mixB L b n k).set k 0 := by
  apply List.ext_getElem
  · simp [mixB]
  · intro j h1 h2
    have hj : j < n := by simpa [mixB] using h1
    rw [List.getElem_set]
    by_cases e : j = k
    · subst e
      rw [if_pos rfl]
      simp [mixB, andAt_snoc, hb]
    · rw [if_neg (fun e' => e e'.symm)]
      simp only [mixB, List.getElem_map, List.getElem_range]
      by_cases l : j < k
      · rw [if_pos (by omega), if_pos l]
      · rw [if_neg (by omega), if_neg l]
theorem Strs.at {n₀ len cap k : Nat} {a : Option Addr} {W : World} {M : List (Value × List Nat)} (h : Strs n₀ W (.slice a len cap) M) (hk : k < len) :
    ∃ b off pa pc pb, a = some ⟨b, off, none⟩ ∧ M[k]? = some (.slice pa pb.length pc, pb) ∧ (∀ X, Below n₀ W X → X.cell? ⟨b, off + k, none⟩ = some (.slice pa pb.length pc)) ∧ Str n₀ W (.slice pa pb.length pc) pb := by
  have hl := h.len
  rcases h with ⟨_, _, e, _, e2⟩ | ⟨b, off, cap', e, _, _, hb, hc, hs⟩
  · rw [e2] at hl; simp at hl; omega
  · injection e with e1 _ _
    have hkM : k < M.length := by omega
    obtain ⟨p, hp⟩ : ∃ p, M[k]? = some p := ⟨M[k], List.getElem?_eq_getElem hkM⟩
    obtain ⟨s, pa, pc, hv⟩ := hs p (List.mem_of_getElem? hp)
    obtain ⟨v, pb⟩ := p
    obtain rfl : v = .slice pa pb.length pc := hv
    exact ⟨b, off, pa, pc, pb, e1, hp, fun X hX => (hX.cell (p := ⟨b, off + k, none⟩) hb).trans (hc k _ hp), s⟩
theorem Ow.take {B n m cap : Nat} {a : Option Addr} {W : World} {bs : List Nat} (h : Ow B W (.slice a m cap) bs) (hn : n ≤ bs.length) : Ow B W (.slice a n cap) (bs.take n) := by
  have hl : (bs.take n).length = n := by rw [List.length_take, Nat.min_eq_left hn]
  obtain ⟨h0, h⟩ := h
  rcases h with ⟨e, h00⟩ | ⟨g, cap', cur, e, hB, hg, hm, hc, hsz, ht⟩
  · injection e with e1 e2 e3
    obtain rfl : n = 0 := by omega
    subst e1 e3
    exact ⟨by simp, .inl ⟨rfl, by simp⟩⟩
  · injection e with e1 e2 e3
    subst e1 e3
    refine ⟨by simp, .inr ⟨g, cap, cur, by rw [hl], hB, hg, by rw [hl]; omega, hc, hsz, ?_⟩⟩
    rw [hl, List.map_take, ← ht, List.take_take, Nat.mul_one, Nat.mul_one, Nat.min_eq_left hn]
theorem Ow.lenCap {B m cap : Nat} {a : Option Addr} {W : World} {bs : List Nat} (h : Ow B W (.slice a m cap) bs) : bs.length ≤ cap ∧ cap ≤ 9223372036854775807 := by
  obtain ⟨_, h⟩ := h
  rcases h with ⟨e, h00⟩ | ⟨g, cap', cur, e, hB, hg, hm, hc, hsz, ht⟩
  · injection e with e1 e2 e3; omega
  · injection e with e1 e2 e3
    unfold maxLen at hc
    omega
end Go.Proofs.Ytodeaddmachcjaa
