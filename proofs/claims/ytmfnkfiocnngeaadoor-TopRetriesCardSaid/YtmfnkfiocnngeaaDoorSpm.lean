/- The bits of a frame on the wire, with what they are: which ask, which were put between, the slot, the last; where two frames' bits are unlike first. No program in it. No conditions. -/
import Derived.Test.YtmfnkfiocnngeaaDoorSpb
import Derived.Test.YtmfnkfiocnngeaaDoorWim
namespace Go.Proofs.YtmfnkfiocnngeaaDoor
open Go.RowKit Go.Shelf
/-- The run, and how many bits of data there were, behind a bit. -/
def pStep (s : (Nat × Int) × Nat) (v : Nat) : (Nat × Int) × Nat := ((nextW s.1.1 s.1.2 v).1, s.2 + if (nextW s.1.1 s.1.2 v).2 = 0 then 1 else 0)
def pSt (l : List Nat) : (Nat × Int) × Nat := l.foldl pStep ((0, 0), 0)
theorem pSt_snoc (l : List Nat) (v : Nat) : pSt (l ++ [v]) = pStep (pSt l) v := by simp [pSt]
/-- A bit of the body, and what it is. -/
def pPart (m : Nat) (s : (Nat × Int) × Nat) (v : Nat) : PB := ⟨v, decide (2 ≤ (pStep s v).2) && decide ((pStep s v).2 ≤ m), decide ((nextW s.1.1 s.1.2 v).2 = 1), false, false⟩
def partAt (m : Nat) (l : List Nat) (j : Nat) : PB := if j < l.length then pPart m (pSt (l.take j)) (l[j]?.getD 0) else ⟨1, false, false, decide (j = l.length + 1), decide (j = l.length + 9)⟩
def partsB (m : Nat) (l : List Nat) : List PB := (List.range (l.length + 10)).map (partAt m l)
/-- The first ones are there, the others are not yet. -/
def partsK (m : Nat) (l : List Nat) (k : Nat) : List PB := (List.range (l.length + 10)).map fun j => if j < k then partAt m l j else ⟨0, false, false, false, false⟩
theorem partsB_length (m : Nat) (l : List Nat) : (partsB m l).length = l.length + 10 := by simp [partsB]
theorem partsK_length (m : Nat) (l : List Nat) (k : Nat) : (partsK m l k).length = l.length + 10 := by simp [partsK]
theorem partsB_get (m : Nat) (l : List Nat) {j : Nat} (h : j < l.length + 10) : (partsB m l)[j]? = some (partAt m l j) := by
  simp [partsB, List.getElem?_range h]
theorem partsK_zero (m : Nat) (l : List Nat) : partsK m l 0 = List.replicate (l.length + 10) ⟨0, false, false, false, false⟩ := by
  apply List.ext_getElem
  · simp [partsK]
  · intro i a b
    simp [partsK]
theorem partsK_full (m : Nat) (l : List Nat) : partsK m l (l.length + 10) = partsB m l := by
  apply List.ext_getElem
  · simp [partsK, partsB]
  · intro i a b
    rw [partsK_length] at a
    simp [partsK, partsB, a]
theorem partsK_set (m : Nat) (l : List Nat) {k : Nat} (h : k < l.length + 10) : (partsK m l k).set k (partAt m l k) = partsK m l (k + 1) := by
  apply List.ext_getElem
  · simp [partsK]
  · intro i a b
    rw [List.length_set, partsK_length] at a
    by_cases c : i = k
    · subst c
      simp [partsK]
    · rw [List.getElem_set_ne (by omega)]
      simp only [partsK, List.getElem_map, List.getElem_range]
      by_cases d : i < k
      · rw [if_pos d, if_pos (by omega)]
      · rw [if_neg d, if_neg (by omega)]
theorem flatP_set : ∀ (L : List PB) (k : Nat) (p : PB), k < L.length → (((((flatP L).set (5 * k) (.int .u8 (p.b : Int))).set (5 * k + 1) (.bool p.a)).set (5 * k + 2) (.bool p.e)).set (5 * k + 3) (.bool p.s)).set (5 * k + 4) (.bool p.l) = flatP (L.set k p) := by
  intro L
  induction L with
  | nil => intro k p h; simp at h
  | cons q L ih =>
    intro k p h
    cases k with
    | zero =>
      show (((((q.cells ++ flatP L).set 0 _).set 1 _).set 2 _).set 3 _).set 4 _ = p.cells ++ flatP L
      rfl
    | succ k =>
      have e : ∀ (X : List Value) (i : Nat) (v : Value), (q.cells ++ X).set (5 * (k + 1) + i) v = q.cells ++ X.set (5 * k + i) v := fun X i v => by
        rw [List.set_append_right _ _ (show q.cells.length ≤ _ by show 5 ≤ _; omega), show 5 * (k + 1) + i - q.cells.length = 5 * k + i by show 5 * (k + 1) + i - 5 = _; omega]
      show (((((q.cells ++ flatP L).set (5 * (k + 1) + 0) _).set (5 * (k + 1) + 1) _).set (5 * (k + 1) + 2) _).set (5 * (k + 1) + 3) _).set (5 * (k + 1) + 4) _ = q.cells ++ flatP (L.set k p)
      rw [e, e, e, e, e, ← ih k p (by simpa using h), Nat.add_zero]
/-- What stands behind does not change what was put ahead. -/
theorem sFold_more : ∀ (q : List Nat) (s : (Nat × Nat) × List Nat), ∃ t, (q.foldl sStep s).2 = s.2 ++ t := by
  intro q
  induction q with
  | nil => intro s; exact ⟨[], by simp⟩
  | cons b q ih =>
    intro s
    obtain ⟨t, h⟩ := ih (sStep s b)
    rw [List.foldl_cons, h]
    unfold sStep
    split
    · exact ⟨[b] ++ [1 - b] ++ t, by simp⟩
    · exact ⟨[b] ++ t, by simp⟩
theorem stuff_split (p : List Nat) (b : Nat) (q : List Nat) : ∃ t, stuffB (p ++ b :: q) = stuffB p ++ b :: t := by
  have e : stuffB (p ++ b :: q) = (q.foldl sStep (sStep (sFold p) b)).2 := by
    unfold stuffB sFold
    rw [List.foldl_append, List.foldl_cons]
  obtain ⟨t, h⟩ := sFold_more q (sStep (sFold p) b)
  rw [e, h]
  unfold sStep
  split
  · exact ⟨(1 - b) :: t, by simp [stuffB]⟩
  · exact ⟨t, by simp [stuffB]⟩
/-- Behind a stuffed string there were as many bits of data as it has, and its run. -/
theorem pSt_stuff (k : Nat) : ∀ p : List Nat, p.length = k → (∀ x ∈ p, x ≤ 1) → pSt (stuffB p) = (((sFold p).1.1, ((sFold p).1.2 : Int)), p.length) := by
  induction k with
  | zero =>
    intro p h _
    obtain rfl := List.length_eq_zero_iff.1 h
    rfl
  | succ k ih =>
    intro p h hb
    rcases List.eq_nil_or_concat p with rfl | ⟨p', b, rfl⟩
    · cases h
    · rw [List.concat_eq_append] at h hb ⊢
      have hi := ih p' (by simpa using h) (fun x hx => hb x (by simp [hx]))
      have hb1 : b ≤ 1 := hb b (by simp)
      have hlt := sFold_lt p'
      have hf1 := sFold_fst p' (fun x hx => hb x (by simp [hx]))
      have h1 : pSt (stuffB p' ++ [b]) = (((nx (sFold p').1 b).1, ((nx (sFold p').1 b).2 : Int)), p'.length + 1) := by
        rw [pSt_snoc, hi]
        unfold pStep
        simp only []
        rw [show nextW (sFold p').1.1 ((sFold p').1.2 : Int) b = nextB (sFold p').1.1 ((sFold p').1.2 : Int) b from rfl, nextB_nx (sFold p').1 b hlt hf1]
        simp
      unfold stuffB at h1 ⊢
      rw [sFold_snoc]
      unfold sStep
      by_cases c : 5 ≤ (nx (sFold p').1 b).2
      · rw [if_pos c]
        show pSt ((sFold p').2 ++ [b] ++ [1 - b]) = (((1 - b, ((1 : Nat) : Int))), (p' ++ [b]).length)
        rw [pSt_snoc, h1]
        unfold pStep
        simp only []
        rw [nx_fst]
        have e : nextW b ((nx (sFold p').1 b).2 : Int) (1 - b) = ((1 - b, 1), 1) := by
          unfold nextW
          rw [if_pos (by omega), bitN_self hb1, if_pos rfl]
        rw [e]
        simp
      · rw [if_neg c]
        show pSt ((sFold p').2 ++ [b]) = (((nx (sFold p').1 b).1, ((nx (sFold p').1 b).2 : Int)), (p' ++ [b]).length)
        rw [h1]
        simp
/-- What a bit of data is, in a stuffed string: its number. -/
theorem part_data (m : Nat) (p : List Nat) (b : Nat) (q : List Nat) (hp : ∀ x ∈ p, x ≤ 1) (h1 : 1 ≤ p.length) (hm : p.length + 1 ≤ m) :
    (stuffB p).length < (stuffB (p ++ b :: q)).length ∧ partAt m (stuffB (p ++ b :: q)) (stuffB p).length = ⟨b, true, false, false, false⟩ := by
  obtain ⟨t, ht⟩ := stuff_split p b q
  have hl : (stuffB p).length < (stuffB (p ++ b :: q)).length := by rw [ht]; simp
  refine ⟨hl, ?_⟩
  unfold partAt
  rw [if_pos hl, ht, List.take_left, pSt_stuff _ p rfl hp]
  have hg : (stuffB p ++ b :: t)[(stuffB p).length]?.getD 0 = b := by simp
  rw [hg]
  unfold pPart pStep
  simp only []
  rw [show nextW (sFold p).1.1 ((sFold p).1.2 : Int) b = nextB (sFold p).1.1 ((sFold p).1.2 : Int) b from rfl, nextB_nx (sFold p).1 b (sFold_lt p) (sFold_fst p hp)]
  simp only [if_true]
  rw [decide_eq_true (show 2 ≤ p.length + 1 by omega), decide_eq_true hm]
  rfl
theorem part_bit (m : Nat) (l : List Nat) (j : Nat) (h : j < l.length) : (partAt m l j).b = l[j]?.getD 0 ∧ (partAt m l j).s = false ∧ (partAt m l j).l = false := by
  unfold partAt
  rw [if_pos h]
  exact ⟨rfl, rfl, rfl⟩
section
variable {e f r s : Bool} {n m len len' : Nat} {d d' : List Nat}
/-- Where the bits of two frames that ask unlike are unlike first: both ask there, and the one that wins has 0. -/
theorem two_unlike (he : rightI e n = true) (hf : rightI f m = true) (hd : ¬ (e = f ∧ n = m ∧ r = s)) :
    ∃ j, j < 50 ∧ j < (stuffB (bodyB e n r len d)).length ∧ j < (stuffB (bodyB f m s len' d')).length ∧
      (∀ i, i < j → (stuffB (bodyB e n r len d))[i]?.getD 0 = (stuffB (bodyB f m s len' d'))[i]?.getD 0) ∧
      ∃ x y, x ≤ 1 ∧ y = 1 - x ∧ partAt (1 + (idBits e n r).length) (stuffB (bodyB e n r len d)) j = ⟨x, true, false, false, false⟩ ∧ partAt (1 + (idBits f m s).length) (stuffB (bodyB f m s len' d')) j = ⟨y, true, false, false, false⟩ ∧ winsI e n r f m s = decide (x = 0) := by
  have l1 := body_long (r := r) (len := len) (data := d) he
  have l2 := body_long (r := s) (len := len') (data := d') hf
  have i1 := idBits_length e n r he
  have i2 := idBits_length f m s hf
  obtain ⟨A, hA⟩ : ∃ A, A = bodyB e n r len d := ⟨_, rfl⟩
  obtain ⟨B, hB⟩ : ∃ B, B = bodyB f m s len' d' := ⟨_, rfl⟩
  have hA1 : ∀ x ∈ A, x ≤ 1 := by rw [hA]; exact bodyB_le _ _ _ _ _
  have hB1 : ∀ x ∈ B, x ≤ 1 := by rw [hB]; exact bodyB_le _ _ _ _ _
  have hex : ∃ i, A[i]?.getD 0 ≠ B[i]?.getD 0 ∧ i < (idBits e n r).length + 1 ∧ i < (idBits f m s).length + 1 := by
    by_cases c : ∃ i, A[i]?.getD 0 ≠ B[i]?.getD 0 ∧ i < (idBits e n r).length + 1 ∧ i < (idBits f m s).length + 1
    · exact c
    · exfalso
      refine hd (idBits_same he hf (fun i h1 h2 => ?_))
      by_cases e0 : (idBits e n r)[i]?.getD 0 = (idBits f m s)[i]?.getD 0
      · exact e0
      · refine absurd ⟨i + 1, ?_, by omega, by omega⟩ c
        rw [hA, hB, body_get h1, body_get h2]
        exact e0
  obtain ⟨i, hi, hmin⟩ : ∃ i, (A[i]?.getD 0 ≠ B[i]?.getD 0 ∧ i < (idBits e n r).length + 1 ∧ i < (idBits f m s).length + 1) ∧ ∀ j, j < i → A[j]?.getD 0 = B[j]?.getD 0 := by
    obtain ⟨i0, h0⟩ := hex
    have key : ∀ k i, i ≤ k → (A[i]?.getD 0 ≠ B[i]?.getD 0 ∧ i < (idBits e n r).length + 1 ∧ i < (idBits f m s).length + 1) → ∃ i, (A[i]?.getD 0 ≠ B[i]?.getD 0 ∧ i < (idBits e n r).length + 1 ∧ i < (idBits f m s).length + 1) ∧ ∀ j, j < i → A[j]?.getD 0 = B[j]?.getD 0 := by
      intro k
      induction k with
      | zero =>
        intro i hi h
        exact ⟨i, h, fun j hj => by omega⟩
      | succ k ih =>
        intro i hi h
        by_cases c : ∃ j, j < i ∧ A[j]?.getD 0 ≠ B[j]?.getD 0
        · obtain ⟨j, h1, h2⟩ := c
          exact ih j (by omega) ⟨h2, by omega, by omega⟩
        · exact ⟨i, h, fun j hj => by
            by_cases c2 : A[j]?.getD 0 = B[j]?.getD 0
            · exact c2
            · exact absurd ⟨j, hj, c2⟩ c⟩
    exact key i0 i0 (Nat.le_refl _) h0
  obtain ⟨hne, ha, hb⟩ := hi
  have hwin := body_first (len := len) (len' := len') (d := d) (d' := d') (i := i) he hf hd (by rw [← hA, ← hB]; exact hmin) (by rw [← hA, ← hB]; exact hne)
  rw [← hA] at hwin l1
  rw [← hB] at l2
  have i0 : i ≠ 0 := by
    rintro rfl
    rw [hA, hB, body_zero, body_zero] at hne
    exact hne rfl
  have iA : i < A.length := by omega
  have iB : i < B.length := by omega
  have eA := split_at iA
  have eB := split_at iB
  have ep : A.take i = B.take i := by
    apply List.ext_getElem
    · rw [List.length_take, List.length_take]; omega
    · intro j a b
      rw [List.length_take] at a b
      have := hmin j (by omega)
      rw [List.getElem_take, List.getElem_take]
      simpa [show j < A.length by omega, show j < B.length by omega] using this
  obtain ⟨p, hp⟩ : ∃ p, p = A.take i := ⟨_, rfl⟩
  have hpl : p.length = i := by rw [hp, List.length_take]; omega
  have hp1 : ∀ x ∈ p, x ≤ 1 := fun x hx => hA1 x (List.mem_of_mem_take (by rw [hp] at hx; exact hx))
  have xa : A[i]?.getD 0 ≤ 1 := by
    have : A[i]?.getD 0 = A[i] := by simp [iA]
    rw [this]; exact hA1 _ (List.getElem_mem iA)
  have xb : B[i]?.getD 0 ≤ 1 := by
    have : B[i]?.getD 0 = B[i] := by simp [iB]
    rw [this]; exact hB1 _ (List.getElem_mem iB)
  rw [← ep, ← hp] at eB
  rw [← hp] at eA
  obtain ⟨x, hx⟩ : ∃ x, x = A[i]?.getD 0 := ⟨_, rfl⟩
  obtain ⟨y, hy⟩ : ∃ y, y = B[i]?.getD 0 := ⟨_, rfl⟩
  rw [← hx] at eA xa hne hwin
  rw [← hy] at eB xb hne
  obtain ⟨qa, hqa⟩ : ∃ qa, qa = A.drop (i + 1) := ⟨_, rfl⟩
  obtain ⟨qb, hqb⟩ : ∃ qb, qb = B.drop (i + 1) := ⟨_, rfl⟩
  rw [← hqa] at eA
  rw [← hqb] at eB
  rw [← hA, ← hB]
  obtain ⟨ta, hta⟩ := stuff_split p x qa
  obtain ⟨tb, htb⟩ := stuff_split p y qb
  obtain ⟨lA, pA⟩ := part_data (1 + (idBits e n r).length) p x qa hp1 (by omega) (by omega)
  obtain ⟨lB, pB⟩ := part_data (1 + (idBits f m s).length) p y qb hp1 (by omega) (by omega)
  rw [← eA] at lA pA hta
  rw [← eB] at lB pB htb
  have hmost := (stuff_most p).2
  refine ⟨(stuffB p).length, ?_, lA, lB, ?_, x, y, xa, by omega, pA, pB, hwin⟩
  · have : i ≤ 32 := by rw [i1] at ha; split at ha <;> omega
    omega
  · intro k hk
    rw [hta, htb, List.getElem?_append_left hk, List.getElem?_append_left hk]
end
end Go.Proofs.YtmfnkfiocnngeaaDoor
