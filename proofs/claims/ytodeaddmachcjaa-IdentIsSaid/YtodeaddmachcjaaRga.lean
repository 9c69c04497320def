/- The document's own answers of layer 3 in plain words (Step, Sum, Seal, Whole): what they return. Conditions: strings are strings, and not longer than a thousand. -/
import Derived.Test.YtodeaddmachcjaaCrm
import Derived.Test.YtodeaddmachcjaaRfe
import Derived.Laws.BitsAllLaws
namespace Go.Proofs.Ytodeaddmachcjaa
open Go.RowKit Go.Shelf
theorem crcOf_snoc (l : List Nat) (b s : Nat) : crcOf (l ++ [b]) s = crcStep (crcOf l s) b := by simp [crcOf]
theorem Ow.cells {B : Nat} {W : World} {v : Value} {bs : List Nat} (h : Ow B W v bs) (hp : 0 < bs.length) : ∃ g cap, v = .slice (some ⟨g, 0, none⟩) bs.length cap ∧ ∀ (j : Nat) (u : Value), (bs.map (fun n : Nat => Value.int .u8 ((n : Nat) : Int)))[j]? = some u → W.cell? (Addr.add ⟨g, 0, none⟩ j) = some u := by
  obtain ⟨_, h⟩ := h
  rcases h with ⟨_, h0⟩ | ⟨g, cap, cur, rfl, _, hg, hn, hc, _, ht⟩
  · omega
  · refine ⟨g, cap, rfl, fun j u hj => ?_⟩
    have hjl : j < bs.length := by simpa using (List.getElem?_eq_some_iff.1 hj).1
    have e : cur[j]? = some u := by
      have h1 : (cur.toList.take (bs.length * 1))[j]? = cur.toList[j]? := List.getElem?_take_of_lt (by omega)
      rw [ht] at h1
      rw [← Array.getElem?_toList, ← h1, hj]
    have ea : (⟨g, 0, none⟩ : Addr).add j = ⟨g, j, none⟩ := by
      unfold Addr.add
      split
      · rename_i h; rw [h]
      · simp
    rw [ea]
    simp [World.cell?, hg, e]
theorem Ow.on {B : Nat} {W X : World} {v : Value} {bs : List Nat} (h : Ow B W v bs) (hb : Below W.heap.size W X) : Ow B X v bs := by
  obtain ⟨h0, h⟩ := h
  refine ⟨h0, ?_⟩
  rcases h with h | ⟨g, cap, cur, e, hB, hg, hr⟩
  · exact .inl h
  · exact .inr ⟨g, cap, cur, e, hB, (hb.block g (Array.getElem?_eq_some_iff.1 hg).1).trans hg, hr⟩
theorem flat_bytes (bs : List Nat) : ∀ u ∈ bs.map (fun n : Nat => Value.int .u8 ((n : Nat) : Int)), u.oneCell' = true := by
  intro u hu
  obtain ⟨n, _, rfl⟩ := List.mem_map.1 hu
  rfl
theorem Str.drewN {w : World} {v : Value} {bs : List Nat} (h : Str w.heap.size w v bs) (m : Nat) : Str (w.drewN m).heap.size (w.drewN m) v bs :=
  (h.below (below_drewN' (Below.refl _ _) m)).mono (below_drewN' (Below.refl w.heap.size w) m).size
theorem add_off (b off k : Nat) : (⟨b, off, none⟩ : Addr).add k = ⟨b, off + k, none⟩ := by
  unfold Addr.add
  split
  · rename_i h; rw [h]; rfl
  · rfl
theorem Str.drop {n₀ k m cap : Nat} {a : Option Addr} {W : World} {bs : List Nat} (h : Str n₀ W (.slice a (k + m) cap) bs) : Str n₀ W (.slice (Option.map (fun x => x.add k) a) m (cap - k)) (bs.drop k) := by
  have hl := h.len
  have hd : (bs.drop k).length = m := by rw [List.length_drop]; omega
  rcases h with ⟨a', cap', e, h1, e2⟩ | ⟨b, off, cap', e, h1, h2, hb, hc⟩
  · rw [e2] at hl hd
    injection e with _ _ e3
    obtain rfl : m = 0 := by simpa using hd.symm
    exact .inl ⟨_, _, rfl, by omega, by rw [e2]; simp⟩
  · injection e with e1 _ e3
    subst e1 e3
    refine .inr ⟨b, off + k, cap - k, by rw [hd, Option.map_some, add_off], by omega, by omega, hb, fun j hj => ?_⟩
    rw [hd] at hj
    rw [show off + k + j = off + (k + j) by omega, hc (k + j) (by omega), List.getElem?_drop]
theorem refNumber_quiet (a : Option Addr) (len cap : Nat) (bs : List Nat) (w : World) (m : Nat) (hI : Str w.heap.size w (.slice a len cap) bs) :
    Calls Try.prog 33 #[.slice a len cap] (w.drewN m) fun e w' => e = .returned (.int .u64 (numB (bitsOf bs) : Nat)) ∧ ∃ k, w' = w.drewN k :=
  (refNumber_any a len cap bs _ (hI.drewN m)).mono fun _ _ h => ⟨h.1, m, h.2.symm⟩
theorem numB_bits (k : Nat) : ∀ r : List Nat, r.length = k → k ≤ 63 → (∀ x ∈ r, x ≤ 1) → numB r < 2 ^ k ∧ ∀ j, j < k → numB r / 2 ^ (k - 1 - j) % 2 = r[j]?.getD 0 := by
  induction k with
  | zero =>
    intro r h _ _
    obtain rfl := List.length_eq_zero_iff.1 h
    exact ⟨by decide, fun j hj => by cases hj⟩
  | succ k ih =>
    intro r h hk hb
    rcases List.eq_nil_or_concat r with rfl | ⟨l, b, rfl⟩
    · cases h
    · rw [List.concat_eq_append] at h hb ⊢
      have hl : l.length = k := by simpa using h
      obtain ⟨h1, h2⟩ := ih l hl (by omega) (fun x hx => hb x (by simp [hx]))
      have hb1 : b ≤ 1 := hb b (by simp)
      have hp : 2 ^ (k + 1) ≤ 2 ^ 63 := Nat.pow_le_pow_right (by omega) hk
      have hp2 : 2 ^ (k + 1) = 2 * 2 ^ k := by rw [Nat.pow_succ, Nat.mul_comm]
      have e : numB (l ++ [b]) = 2 * numB l + b := by rw [numB_snoc]; omega
      rw [e]
      refine ⟨by omega, fun j hj => ?_⟩
      by_cases c : j = k
      · subst c
        rw [show j + 1 - 1 - j = 0 by omega, List.getElem?_append_right (by omega), hl, Nat.sub_self]
        show (2 * numB l + b) / 1 % 2 = b
        omega
      · rw [List.getElem?_append_left (by omega), ← h2 j (by omega), show k + 1 - 1 - j = (k - 1 - j) + 1 by omega, Nat.pow_succ, Nat.mul_comm (2 ^ (k - 1 - j)) 2, ← Nat.div_div_eq_div_mul, show (2 * numB l + b) / 2 = numB l by omega]
theorem numB_eq {r : List Nat} {s : Nat} (hr : r.length = 15) (hb : ∀ x ∈ r, x ≤ 1) (hs : s < 32768) : s = numB r ↔ r = sumBits s := by
  obtain ⟨h1, h2⟩ := numB_bits 15 r hr (by omega) hb
  have hx : ∀ {n : Nat}, n < 32768 → ∀ j, j < 15 → (sumBits n)[j]?.getD 0 = n / 2 ^ (15 - 1 - j) % 2 := fun _ j hj => by simp [sumBits, hj]
  constructor
  · rintro rfl
    apply List.ext_getElem
    · rw [hr, sumBits_length]
    · intro j h3 _
      have := h2 j (by omega)
      simp [h3] at this
      simp [sumBits, this]
  · intro h
    obtain ⟨h3, h4⟩ := numB_bits 15 (sumBits s) (sumBits_length s) (by omega) (sumBits_le s)
    rw [← h] at h3 h4
    have key : ∀ j, j < 15 → s / 2 ^ (15 - 1 - j) % 2 = numB r / 2 ^ (15 - 1 - j) % 2 := fun j hj => by
      rw [h2 j hj, ← hx hs j hj, ← h]
    apply Nat.eq_of_testBit_eq
    intro i
    by_cases hi : i < 15
    · have := key (14 - i) (by omega)
      rw [show 15 - 1 - (14 - i) = i by omega] at this
      rw [Nat.testBit_eq_decide_div_mod_eq, Nat.testBit_eq_decide_div_mod_eq, this]
    · have hp : 2 ^ 15 ≤ 2 ^ i := Nat.pow_le_pow_right (by omega) (by omega)
      rw [Nat.testBit_lt_two_pow (by omega), Nat.testBit_lt_two_pow (by omega)]
/-- Whether a string has its sum behind. -/
def wholeB (bs : List Nat) : Bool := decide (15 ≤ bs.length) && decide (crcOf (bitsOf (bs.take (bs.length - 15))) 0 = numB (bitsOf (bs.drop (bs.length - 15))))
theorem bitsOf_le (bs : List Nat) : ∀ x ∈ bitsOf bs, x ≤ 1 := by
  intro x hx
  obtain ⟨y, _, rfl⟩ := List.mem_map.1 hx
  exact bitN_le y
theorem wholeB_eq (bs : List Nat) (h : 15 ≤ bs.length) : wholeB bs = decide (crcOf (bitsOf bs) 0 = 0) := by
  unfold wholeB
  rw [decide_eq_true h, Bool.true_and]
  have e : bitsOf bs = bitsOf (bs.take (bs.length - 15)) ++ bitsOf (bs.drop (bs.length - 15)) := by
    unfold bitsOf
    rw [← List.map_append, List.take_append_drop]
  have hr : (bitsOf (bs.drop (bs.length - 15))).length = 15 := by rw [bitsOf_length, List.length_drop]; omega
  rw [e]
  apply decide_eq_decide.2
  rw [whole_iff _ _ hr (bitsOf_le _)]
  exact numB_eq hr (bitsOf_le _) (crcOf_lt _ _ (by omega))
end Go.Proofs.Ytodeaddmachcjaa
