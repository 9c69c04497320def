/- A slice of bytes that the call builds by append: what it holds is a string of bytes. Conditions: there are at most so many bytes as memory holds. -/
import Derived.Test.YtodeaddmachcjaaLaw
import Derived.ProofKit
import Derived.Deep.OwnRows
namespace Go.Proofs.Ytodeaddmachcjaa
open Go.RowKit Go.Shelf
/-- The slice value v, nil or the call's own, holds the bytes bs. -/
def Ow (B : Nat) (W : World) (v : Value) (bs : List Nat) : Prop := W.ownsRow B 5 1 v bs.length (bs.map (fun n : Nat => Value.int .u8 ((n : Nat) : Int)))
theorem Ow.nil (B : Nat) (W : World) : Ow B W (.slice none 0 0) [] := World.ownsRow_nil _ _ _ _
theorem Ow.str {B : Nat} {W : World} {v : Value} {bs : List Nat} (h : Ow B W v bs) : Str W.heap.size W v bs := by
  obtain ⟨hl, h⟩ := h
  rcases h with ⟨rfl, h0⟩ | ⟨g, cap, cur, rfl, _, hg, hn, hc, _, ht⟩
  · exact .inl ⟨none, 0, rfl, by omega, List.eq_nil_of_length_eq_zero h0⟩
  · refine .inr ⟨g, 0, cap, rfl, hn, by unfold maxLen at hc; omega, (Array.getElem?_eq_some_iff.1 hg).1, fun j hj => ?_⟩
    have e : cur[j]? = some (.int .u8 ((bs[j]?.getD 0 : Nat) : Int)) := by
      have h1 : (cur.toList.take (bs.length * 1))[j]? = cur.toList[j]? := List.getElem?_take_of_lt (by omega)
      rw [ht] at h1
      rw [← Array.getElem?_toList, ← h1]
      simp [hj]
    simp [World.cell?, hg, e]
theorem Ow.shape {B : Nat} {W : World} {v : Value} {bs : List Nat} (h : Ow B W v bs) : ∃ a cap, v = .slice a bs.length cap := by
  rcases h.2 with ⟨rfl, h0⟩ | ⟨g, cap, cur, rfl, _⟩
  · exact ⟨none, 0, by rw [h0]⟩
  · exact ⟨_, cap, rfl⟩
/-- The row behind the append of one byte. -/
theorem Ow.snoc {B : Nat} {W : World} {v : Value} {bs : List Nat} {x : Nat} (h : W.ownsRow B 5 1 v (bs.length + 1) (bs.map (fun n : Nat => Value.int .u8 ((n : Nat) : Int)) ++ [.int .u8 ((x : Nat) : Int)])) : Ow B W v (bs ++ [x]) := by
  unfold Ow
  rw [List.length_append, List.map_append]
  exact h
theorem Ow.own {B : Nat} {W : World} {v : Value} {bs : List Nat} (h : Ow B W v bs) : W.ownsRow B 5 1 v bs.length (bs.map (fun n : Nat => Value.int .u8 ((n : Nat) : Int))) := h
theorem one_cell {W : World} {T : TypeId} {x : Value} : ∀ (j : Nat) (u : Value), [x][j]? = some u → (W.alloc (.cells #[x] T)).cell? (Addr.add ⟨W.heap.size, 0, none⟩ j) = some u := by
  intro j u hj
  match j, hj with
  | 0, hj => simp at hj; subst hj; simp [Addr.add]
theorem one_flat {k : IntKind} {n : Int} : ∀ u ∈ [Value.int k n], u.oneCell' = true := by
  intro u hu; simp at hu; subst hu; rfl
theorem Ow.ge {B : Nat} {W : World} {v : Value} {bs : List Nat} (h : Ow B W v bs) : ∀ k, v.ownBlock = some k → B ≤ k := fun k e => (World.ownsRow.lt h k e).1
theorem bitAt_andB (L : List (List Nat)) (j : Nat) (h : j < leastN L) : bitAt (andB L) j = andAt L j := by
  unfold bitAt
  rw [andB_get L j h]
  have := andAt_le L j
  obtain h0 | h1 : andAt L j = 0 ∨ andAt L j = 1 := by omega
  · rw [h0]; rfl
  · rw [h1]; rfl
theorem leastN_two (a b : List Nat) : leastN [a, b] = min a.length b.length := rfl
theorem leastN_three (a b c : List Nat) : leastN [a, b, c] = min (min a.length b.length) c.length := rfl
theorem andAt_eq {L M : List (List Nat)} {j : Nat} (h : (∀ b ∈ L, bitAt b j = 1) ↔ (∀ b ∈ M, bitAt b j = 1)) : andAt L j = andAt M j := by
  unfold andAt
  have e : (L.all fun b => bitAt b j == 1) = (M.all fun b => bitAt b j == 1) := by
    rw [Bool.eq_iff_iff]; simpa using h
  rw [e]
theorem andAt_is {L : List (List Nat)} {j v : Nat} (hv : v ≤ 1) (h : (∀ b ∈ L, bitAt b j = 1) ↔ v = 1) : andAt L j = v := by
  unfold andAt
  by_cases c : v = 1
  · rw [if_pos (by simpa using h.2 c), c]
  · rw [if_neg (by simpa using fun d => c (h.1 d))]; omega
theorem common_turn (a b c : List Nat) : sameV (andB [a, b, c]) (andB [c, a, b]) = true := by
  refine decide_eq_true (bits_ext (by rw [andB_length, andB_length, leastN_three, leastN_three]; omega) (fun j hj => ?_))
  rw [andB_length, leastN_three] at hj
  rw [bitAt_andB _ _ (by rw [leastN_three]; omega), bitAt_andB _ _ (by rw [leastN_three]; omega)]
  exact andAt_eq (by simp; constructor <;> rintro ⟨h1, h2, h3⟩ <;> exact ⟨by assumption, by assumption, by assumption⟩)
theorem common_twice (a : List Nat) : sameV (andB [a, a]) a = true := by
  refine decide_eq_true (bits_ext (by rw [andB_length, leastN_two]; omega) (fun j hj => ?_))
  rw [andB_length, leastN_two] at hj
  rw [bitAt_andB _ _ (by rw [leastN_two]; omega)]
  exact andAt_is (bitAt_le _ _) (by simp)
theorem common_ones (a : List Nat) : sameV (andB [a, List.replicate a.length 1]) a = true := by
  refine decide_eq_true (bits_ext (by rw [andB_length, leastN_two, List.length_replicate]; omega) (fun j hj => ?_))
  rw [andB_length, leastN_two, List.length_replicate] at hj
  rw [bitAt_andB _ _ (by rw [leastN_two, List.length_replicate]; omega)]
  have h1 : bitAt (List.replicate a.length 1) j = 1 := by unfold bitAt; simp [show j < a.length by omega]; rfl
  exact andAt_is (bitAt_le _ _) (by simp [h1])
theorem common_parts (a b c : List Nat) : sameV (andB [andB [a, b], c]) (andB [a, b, c]) = true := by
  refine decide_eq_true (bits_ext (by rw [andB_length, andB_length, leastN_three, leastN_two, andB_length, leastN_two]) (fun j hj => ?_))
  rw [andB_length, leastN_two, andB_length, leastN_two] at hj
  rw [bitAt_andB _ _ (by rw [leastN_two, andB_length, leastN_two]; omega), bitAt_andB _ _ (by rw [leastN_three]; omega)]
  refine andAt_eq ?_
  have e : bitAt (andB [a, b]) j = 1 ↔ bitAt a j = 1 ∧ bitAt b j = 1 := by
    rw [bitAt_andB _ _ (by rw [leastN_two]; omega)]
    unfold andAt
    simp
  simp [e, and_assoc]
end Go.Proofs.Ytodeaddmachcjaa
