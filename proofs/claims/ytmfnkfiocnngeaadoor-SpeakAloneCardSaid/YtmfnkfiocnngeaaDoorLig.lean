/- A frame's bits on the wire, heard one by one. No program in it. Conditions: the frame is right. -/
import Derived.Test.YtmfnkfiocnngeaaDoorLif
import Derived.Test.YtmfnkfiocnngeaaDoorWrl
namespace Go.Proofs.YtmfnkfiocnngeaaDoor
open Go.RowKit Go.Shelf
/-- The bits of a frame on the wire, with what the slot has. -/
def slotB (e : Bool) (n : Nat) (r : Bool) (m : Nat) (data : List Nat) (x : Nat) : List Nat := stuffB (bodyB e n r m data) ++ (1 :: x :: 1 :: 1 :: 1 :: 1 :: 1 :: 1 :: 1 :: 1 :: [])
theorem slotB_length (e : Bool) (n : Nat) (r : Bool) (m : Nat) (data : List Nat) (x : Nat) : (slotB e n r m data x).length = (stuffB (bodyB e n r m data)).length + 10 := by simp [slotB]
theorem slotB_enc (e : Bool) (n : Nat) (r : Bool) (m : Nat) (data : List Nat) : slotB e n r m data 1 = encB e n r m data := by unfold slotB encB; rfl
theorem slotB_le (e : Bool) (n : Nat) (r : Bool) (m : Nat) (data : List Nat) (x : Nat) (hx : x ≤ 1) : ∀ y ∈ slotB e n r m data x, y ≤ 1 := by
  intro y hy
  unfold slotB at hy
  rcases List.mem_append.mp hy with h | h
  · exact stuff_le _ (bodyB_le _ _ _ _ _) y h
  · simp at h; omega
theorem slotB_at (e : Bool) (n : Nat) (r : Bool) (m : Nat) (data : List Nat) (x : Nat) (k : Nat) (hk : k ≤ 9) : (slotB e n r m data x)[(stuffB (bodyB e n r m data)).length + k]?.getD 0 = if k = 1 then x else 1 := by
  unfold slotB
  rw [List.getElem?_append_right (by omega), show (stuffB (bodyB e n r m data)).length + k - (stuffB (bodyB e n r m data)).length = k by omega]
  have hc : k = 0 ∨ k = 1 ∨ k = 2 ∨ k = 3 ∨ k = 4 ∨ k = 5 ∨ k = 6 ∨ k = 7 ∨ k = 8 ∨ k = 9 := by omega
  rcases hc with rfl | rfl | rfl | rfl | rfl | rfl | rfl | rfl | rfl | rfl <;> rfl
section
variable {e : Bool} {n : Nat} {r : Bool} {m : Nat} {data : List Nat}
theorem frame_run (hok : rightF e n r (m : Int) data = 0) (hd : data.length = 8) (hb : ∀ x ∈ data, x < 256) (x : Nat) (hx : x ≤ 1) :
    (∀ j, j < (stuffB (bodyB e n r m data)).length → ((LS0.run ((slotB e n r m data x).take j)).hear ((slotB e n r m data x)[j]?.getD 0)).2 = 0 ∧ (LS0.run ((slotB e n r m data x).take j)).p = 0 ∧ (LS0.run ((slotB e n r m data x).take j)).g = false) ∧
    ∃ s1, s1.g = true ∧ s1.fr = frameC e n r (m : Int) data ∧ s1.h = (stuffB (bodyB e n r m data)).length ∧
      (∀ k, k ≤ 9 → LS0.run ((slotB e n r m data x).take ((stuffB (bodyB e n r m data)).length + k)) = eN s1 k) ∧
      (LS0.run (slotB e n r m data x)).p = 5 ∧ (LS0.run (slotB e n r m data x)).vl = true ∧ (LS0.run (slotB e n r m data x)).fr = frameC e n r (m : Int) data ∧ (LS0.run (slotB e n r m data x)).h = (stuffB (bodyB e n r m data)).length + 10 ∧
      (∀ k, k ≤ 9 → ((eN s1 k).hear ((slotB e n r m data x)[(stuffB (bodyB e n r m data)).length + k]?.getD 0)).2 = if k = 9 then 5 else if k = 8 then 4 else 0) := by
  obtain ⟨hri, hm, _⟩ := rightF_data hok
  have hp := parse_body hok hd hb []
  rw [List.append_nil] at hp
  obtain ⟨S, hS⟩ : ∃ S, S = (stuffB (bodyB e n r m data)).length := ⟨_, rfl⟩
  obtain ⟨X, hX⟩ : ∃ X, X = slotB e n r m data x := ⟨_, rfl⟩
  have hopn : opnB (0, 0) [] 0 (bitsOf X) = (0, S, bodyB e n r m data) := by
    rw [hX, bitsOf_self (slotB_le e n r m data x hx), hS]
    exact opn_body hri hm _
  obtain ⟨k0, hk0, hall, hres⟩ := phase X LS0 0 LS0_b0
  have hlen : X.length = S + 10 := by rw [hX, hS]; exact slotB_length _ _ _ _ _ _
  have hat := fun k hk => slotB_at e n r m data x k hk
  rw [← hX, ← hS] at hat
  rw [← hX, ← hS]
  have hE : k0 = S ∧ E1 S (bodyB e n r m data) (LS0.run (X.take S)) := by
    rcases hres with ⟨body, a, b, c⟩ | ⟨body, a, b, c⟩ | ⟨body, a, b, c⟩ | ⟨body, a, b, c⟩
    · have h1 := a.symm.trans hopn
      injection h1 with _ h1
      injection h1 with h1 h2
      rw [Nat.zero_add] at h1 c
      subst h1 h2
      exact ⟨rfl, c⟩
    · have h1 := a.symm.trans hopn; injection h1 with h1 _; exact absurd h1 (by decide)
    · have h1 := a.symm.trans hopn; injection h1 with h1 _; exact absurd h1 (by decide)
    · have h1 := a.symm.trans hopn; injection h1 with h1 _; exact absurd h1 (by decide)
  obtain ⟨rfl, hE⟩ := hE
  refine ⟨fun j hj => ⟨(hall j hj).1, (hall j hj).2.p, (hall j hj).2.g⟩, LS0.run (X.take k0), ?_, ?_, hE.h, ?_⟩
  · rw [hE.g, hp]; rfl
  · rw [hE.fr, hp]; rfl
  have hg : (LS0.run (X.take k0)).g = true := by rw [hE.g, hp]; rfl
  have hf : (LS0.run (X.take k0)).fr = frameC e n r (m : Int) data := by rw [hE.fr, hp]; rfl
  have hh := hE.h
  have h0 := eN_zero hE
  obtain ⟨s1, hs1⟩ : ∃ s1, s1 = LS0.run (X.take k0) := ⟨_, rfl⟩
  rw [← hs1] at hg hf hh h0 ⊢
  have hbit : ∀ k, k ≤ 9 → ¬ (X[k0 + k]?.getD 0 = 0 ∧ k ≠ 1) := fun k hk h => by
    rw [hat k hk, if_neg h.2] at h
    exact absurd h.1 (by decide)
  have hng : ∀ k, ¬ (s1.g = false ∧ k = 2) := fun k h => by rw [hg] at h; exact absurd h.1 (by decide)
  have hrun : ∀ k, k ≤ 9 → LS0.run (X.take (k0 + k)) = eN s1 k := by
    intro k
    induction k with
    | zero => intro _; rw [Nat.add_zero, h0, hs1]
    | succ k ih =>
      intro hk
      rw [show k0 + (k + 1) = k0 + k + 1 by omega, LS.run_take _ _ _ (by omega), ih (by omega)]
      rw [((end_bit s1 k (by omega) _).2.2 (hbit k (by omega)) (hng k)).1 (by omega)]
  have hlast := ((end_bit s1 9 (by omega) (X[k0 + 9]?.getD 0)).2.2 (hbit 9 (by omega)) (hng 9)).2 rfl
  have hfin : LS0.run X = ((eN s1 9).hear (X[k0 + 9]?.getD 0)).1 := by
    rw [← hrun 9 (by omega), ← LS.run_take _ _ _ (by omega), List.take_of_length_le (by omega)]
  refine ⟨hrun, ?_, ?_, ?_, ?_, fun k hk => ?_⟩
  · rw [hfin]; exact hlast.2.1
  · rw [hfin]; exact hlast.2.2.1
  · rw [hfin, hlast.2.2.2.1, hf]
  · rw [hfin, hlast.2.2.2.2, hh]
  · by_cases h9 : k = 9
    · subst h9
      rw [if_pos rfl]
      exact hlast.1
    · rw [if_neg h9, ((end_bit s1 k hk _).2.2 (hbit k hk) (hng k)).1 (by omega)]
/-- What each of a frame's bits brings. -/
def wantE (N i : Nat) : Nat := if i + 1 = N then 5 else if i + 2 = N then 4 else 0
theorem frame_event (hok : rightF e n r (m : Int) data = 0) (hd : data.length = 8) (hb : ∀ x ∈ data, x < 256) (x : Nat) (hx : x ≤ 1) (i : Nat) (hi : i < (slotB e n r m data x).length) :
    ((LS0.run ((slotB e n r m data x).take i)).hear ((slotB e n r m data x)[i]?.getD 0)).2 = wantE (slotB e n r m data x).length i := by
  obtain ⟨h1, s1, _, _, _, h2, _, _, _, _, h3⟩ := frame_run hok hd hb x hx
  rw [slotB_length] at hi ⊢
  by_cases hj : i < (stuffB (bodyB e n r m data)).length
  · rw [(h1 i hj).1]
    unfold wantE
    rw [if_neg (by omega), if_neg (by omega)]
  · obtain ⟨k, rfl⟩ : ∃ k, i = (stuffB (bodyB e n r m data)).length + k := ⟨i - (stuffB (bodyB e n r m data)).length, by omega⟩
    rw [h2 k (by omega), h3 k (by omega)]
    unfold wantE
    (repeat' split) <;> omega
theorem frame_good (hok : rightF e n r (m : Int) data = 0) (hd : data.length = 8) (hb : ∀ x ∈ data, x < 256) (x : Nat) (hx : x ≤ 1) (i : Nat) (hi : i < (slotB e n r m data x).length) :
    (decide ((LS0.run ((slotB e n r m data x).take i)).p ≠ 5) && (LS0.run ((slotB e n r m data x).take i)).g) = decide ((slotB e n r m data x).length ≤ i + 10) := by
  obtain ⟨h1, s1, hg, _, _, h2, _, _, _, _, h3⟩ := frame_run hok hd hb x hx
  rw [slotB_length] at hi ⊢
  by_cases hj : i < (stuffB (bodyB e n r m data)).length
  · rw [(h1 i hj).2.1, (h1 i hj).2.2, decide_eq_false (show ¬ ((stuffB (bodyB e n r m data)).length + 10 ≤ i + 10) by omega)]
    rfl
  · obtain ⟨k, rfl⟩ : ∃ k, i = (stuffB (bodyB e n r m data)).length + k := ⟨i - (stuffB (bodyB e n r m data)).length, by omega⟩
    rw [h2 k (by omega), decide_eq_true (show (stuffB (bodyB e n r m data)).length + 10 ≤ (stuffB (bodyB e n r m data)).length + k + 10 by omega)]
    show (decide ((if k = 0 then 1 else if k = 1 then 2 else if k = 2 then 3 else 4) ≠ 5) && s1.g) = true
    rw [hg]
    split
    · rfl
    · split
      · rfl
      · split <;> rfl
/-- At which bits it goes on. -/
theorem frame_place (hok : rightF e n r (m : Int) data = 0) (hd : data.length = 8) (hb : ∀ x ∈ data, x < 256) (x : Nat) (hx : x ≤ 1) (i : Nat) (hi : i < (slotB e n r m data x).length) :
    (LS0.run ((slotB e n r m data x).take i)).p ≠ 5 := by
  obtain ⟨h1, s1, hg, _, _, h2, _, _, _, _, h3⟩ := frame_run hok hd hb x hx
  rw [slotB_length] at hi
  by_cases hj : i < (stuffB (bodyB e n r m data)).length
  · rw [(h1 i hj).2.1]; decide
  · obtain ⟨k, rfl⟩ : ∃ k, i = (stuffB (bodyB e n r m data)).length + k := ⟨i - (stuffB (bodyB e n r m data)).length, by omega⟩
    rw [h2 k (by omega)]
    show (if k = 0 then 1 else if k = 1 then 2 else if k = 2 then 3 else 4) ≠ 5
    split
    · decide
    · split
      · decide
      · split <;> decide
end
end Go.Proofs.YtmfnkfiocnngeaaDoor
