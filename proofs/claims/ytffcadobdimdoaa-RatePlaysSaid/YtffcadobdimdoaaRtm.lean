/- Mathematics of the middle one of several numbers, of sorting by swaps, and of a ring that holds the newest numbers. No program in it. Conditions: each theorem says its own. -/
import Derived.WalkKit
namespace Go.Proofs.Ytffcadobdimdoaa
open Go.RowKit
/-- A number of a list, by its place. -/
def gI (R : List Int) (i : Nat) : Int := (R[i]?).getD 0
theorem gI_at {R : List Int} {i : Nat} (h : i < R.length) : R[i]? = some (gI R i) := by unfold gI; rw [List.getElem?_eq_getElem h]; rfl
theorem gI_set (R : List Int) (i j : Nat) (v : Int) : gI (R.set i v) j = if i = j ∧ i < R.length then v else gI R j := by
  unfold gI; rw [List.getElem?_set]
  by_cases h : i = j
  · subst h
    by_cases h2 : i < R.length
    · simp [h2]
    · simp [h2]
  · simp [h]
/-- Two neighbours in one another's place. -/
def swapI (R : List Int) (q : Nat) : List Int := (R.set (q + 1) (gI R q)).set q (gI R (q + 1))
theorem swap_len (R : List Int) (q : Nat) : (swapI R q).length = R.length := by simp [swapI]
theorem swap_at (R : List Int) (q : Nat) (h : q + 1 < R.length) (j : Nat) : gI (swapI R q) j = if j = q then gI R (q + 1) else if j = q + 1 then gI R q else gI R j := by
  unfold swapI
  rw [gI_set, gI_set, List.length_set]
  by_cases h1 : j = q
  · subst h1; rw [if_pos ⟨rfl, by omega⟩, if_pos rfl]
  · rw [if_neg (by omega), if_neg h1]
    by_cases h2 : j = q + 1
    · subst h2; rw [if_pos ⟨rfl, h⟩, if_pos rfl]
    · rw [if_neg (by omega), if_neg h2]
theorem swap_count (R : List Int) (q : Nat) (h : q + 1 < R.length) (p : Int → Bool) : (swapI R q).countP p = R.countP p := by
  have e0 : R[q] = gI R q := by have := gI_at (R := R) (i := q) (by omega); rw [List.getElem?_eq_getElem (by omega)] at this; exact Option.some.inj this
  have e1 : R[q + 1] = gI R (q + 1) := by have := gI_at (R := R) (i := q + 1) h; rw [List.getElem?_eq_getElem h] at this; exact Option.some.inj this
  have hq : q < (R.set (q + 1) (gI R q)).length := by rw [List.length_set]; omega
  unfold swapI
  rw [List.countP_set hq, List.countP_set h, List.getElem_set, if_neg (show ¬ q + 1 = q by omega), e0, e1]
  have c1 : (if p (gI R (q + 1)) = true then 1 else 0) ≤ R.countP p := by
    split
    · next hp => exact List.countP_pos_iff.2 ⟨gI R (q + 1), by rw [← e1]; exact List.getElem_mem h, hp⟩
    · omega
  omega
theorem swap_drop (R : List Int) (q k : Nat) (h : q + 1 < k) : (swapI R q).drop k = R.drop k := by
  unfold swapI; rw [List.drop_set, if_pos (by omega), List.drop_set, if_pos h]
/-- On the way of sorting the first k of a list: those ahead of i are sorted. -/
structure SrI (R : List Int) (k i : Nat) (R' : List Int) : Prop where
  len : R'.length = R.length
  cnt : ∀ p : Int → Bool, R'.countP p = R.countP p
  drp : R'.drop k = R.drop k
  srt : ∀ a b, a < b → b < i → gI R' a ≤ gI R' b
/-- The same within a round: those up to i are sorted but for the one at j. -/
structure SrJ (R : List Int) (k i j : Nat) (R' : List Int) : Prop where
  len : R'.length = R.length
  cnt : ∀ p : Int → Bool, R'.countP p = R.countP p
  drp : R'.drop k = R.drop k
  srt : ∀ a b, a < b → b ≤ i → b ≠ j → gI R' a ≤ gI R' b
theorem SrI.nought (R : List Int) (k : Nat) : SrI R k 1 R := ⟨rfl, fun _ => rfl, rfl, fun a b h1 h2 => by omega⟩
theorem SrI.enter {R R' : List Int} {k i : Nat} (h : SrI R k i R') : SrJ R k i i R' := ⟨h.len, h.cnt, h.drp, fun a b h1 h2 h3 => h.srt a b h1 (by omega)⟩
theorem SrJ.leave0 {R R' : List Int} {k i : Nat} (h : SrJ R k i 0 R') : SrI R k (i + 1) R' := ⟨h.len, h.cnt, h.drp, fun a b h1 h2 => h.srt a b h1 (by omega) (by omega)⟩
theorem SrJ.leave {R R' : List Int} {k i q : Nat} (h : SrJ R k i (q + 1) R') (hi : q + 1 ≤ i) (hle : ¬ gI R' (q + 1) < gI R' q) : SrI R k (i + 1) R' :=
  ⟨h.len, h.cnt, h.drp, fun a b h1 h2 => by
    by_cases hb : b = q + 1
    · subst hb
      by_cases ha : a = q
      · subst ha; omega
      · have := h.srt a q (by omega) (by omega) (by omega); omega
    · exact h.srt a b h1 (by omega) hb⟩
theorem SrJ.swap {R R' : List Int} {k i q : Nat} (h : SrJ R k i (q + 1) R') (hi : q + 1 ≤ i) (hik : i < k) (hk : k ≤ R.length) (hlt : gI R' (q + 1) < gI R' q) : SrJ R k i q (swapI R' q) := by
  have hl : q + 1 < R'.length := by rw [h.len]; omega
  refine ⟨by rw [swap_len, h.len], fun p => by rw [swap_count R' q hl, h.cnt], by rw [swap_drop R' q k (by omega), h.drp], fun a b h1 h2 h3 => ?_⟩
  rw [swap_at R' q hl, swap_at R' q hl, if_neg h3]
  by_cases hb : b = q + 1
  · rw [if_pos hb]
    by_cases ha : a = q
    · rw [if_pos ha]; omega
    · rw [if_neg ha, if_neg (by omega)]; exact h.srt a q (by omega) (by omega) (by omega)
  · rw [if_neg hb]
    by_cases ha : a = q
    · rw [if_pos ha]; exact h.srt (q + 1) b (by omega) h2 hb
    · rw [if_neg ha]
      by_cases ha2 : a = q + 1
      · rw [if_pos ha2]; exact h.srt q b (by omega) h2 hb
      · rw [if_neg ha2]; exact h.srt a b h1 h2 hb
/-- Is it the middle one of a list (of an even number the lesser of both)? -/
def lowN (L : List Int) (v : Int) : Nat := L.countP (fun x => decide (x < v))
def eqN (L : List Int) (v : Int) : Nat := L.countP (fun x => x == v)
def medB (L : List Int) (v : Int) : Bool := decide (lowN L v ≤ (L.length - 1) / 2) && decide ((L.length - 1) / 2 < lowN L v + eqN L v)
def medX (L : List Int) : Int := if L = [] then 1048576 else (L.find? (medB L)).getD 1048576
theorem low_lt (L : List Int) {u v : Int} (h : u < v) : lowN L u + eqN L u ≤ lowN L v := by
  unfold lowN eqN
  induction L with
  | nil => simp
  | cons x L ih =>
    simp only [List.countP_cons, beq_iff_eq, decide_eq_true_eq]
    split <;> split <;> split <;> omega
theorem med_one {L : List Int} {u v : Int} (hu : medB L u = true) (hv : medB L v = true) : u = v := by
  unfold medB at hu hv
  rw [Bool.and_eq_true, decide_eq_true_iff, decide_eq_true_iff] at hu hv
  rcases Int.lt_trichotomy u v with h | h | h
  · have := low_lt L h; omega
  · exact h
  · have := low_lt L h; omega
theorem count_all (l : List Int) (p q : Int → Bool) (h : ∀ x ∈ l, p x = true ∨ q x = true) : l.length ≤ l.countP p + l.countP q := by
  induction l with
  | nil => simp
  | cons x l ih =>
    have h1 := ih (fun y hy => h y (List.mem_cons_of_mem _ hy))
    have h2 := h x List.mem_cons_self
    simp only [List.countP_cons, List.length_cons]
    rcases h2 with h2 | h2 <;> rw [h2] <;> simp only [if_true] <;> omega
/-- The place in the middle of a sorted list holds the middle one. -/
theorem med_sorted {S : List Int} (hs : ∀ a b, a < b → b < S.length → gI S a ≤ gI S b) (h1 : 1 ≤ S.length) : medB S (gI S ((S.length - 1) / 2)) = true := by
  obtain ⟨m, hm⟩ : ∃ m, m = (S.length - 1) / 2 := ⟨_, rfl⟩
  unfold medB
  rw [← hm]
  have hml : m < S.length := by omega
  have mem : ∀ x ∈ S.take (m + 1), x ≤ gI S m := fun x hx => by
    obtain ⟨j, hj, rfl⟩ := List.getElem_of_mem hx
    rw [List.length_take] at hj
    rw [List.getElem_take]
    have e : S[j] = gI S j := by have := gI_at (R := S) (i := j) (by omega); rw [List.getElem?_eq_getElem (by omega)] at this; exact Option.some.inj this
    rw [e]
    by_cases h : j = m
    · rw [h]; omega
    · exact hs j m (by omega) hml
  have mem2 : ∀ x ∈ S.drop m, gI S m ≤ x := fun x hx => by
    obtain ⟨j, hj, rfl⟩ := List.getElem_of_mem hx
    rw [List.length_drop] at hj
    rw [List.getElem_drop]
    have e : S[m + j] = gI S (m + j) := by have := gI_at (R := S) (i := m + j) (by omega); rw [List.getElem?_eq_getElem (by omega)] at this; exact Option.some.inj this
    rw [e]
    by_cases h : j = 0
    · rw [h]; exact Int.le_refl _
    · exact hs m (m + j) (by omega) (by omega)
  have c1 : lowN S (gI S m) ≤ m := by
    unfold lowN
    have e := congrArg (List.countP (fun x => decide (x < gI S m))) (List.take_append_drop m S)
    rw [List.countP_append] at e
    have z : (S.drop m).countP (fun x => decide (x < gI S m)) = 0 := List.countP_eq_zero.2 (fun x hx => by have := mem2 x hx; simp; omega)
    have l : (S.take m).countP (fun x => decide (x < gI S m)) ≤ (S.take m).length := List.countP_le_length
    rw [List.length_take] at l
    omega
  have c2 : m + 1 ≤ lowN S (gI S m) + eqN S (gI S m) := by
    unfold lowN eqN
    have e := congrArg (List.countP (fun x => decide (x < gI S m))) (List.take_append_drop (m + 1) S)
    have e2 := congrArg (List.countP (fun x => x == gI S m)) (List.take_append_drop (m + 1) S)
    rw [List.countP_append] at e e2
    have l := count_all (S.take (m + 1)) (fun x => decide (x < gI S m)) (fun x => x == gI S m) (fun x hx => by
      have := mem x hx
      by_cases h : x = gI S m
      · exact .inr (by simp [h])
      · exact .inl (by simp; omega))
    rw [List.length_take] at l
    omega
  rw [Bool.and_eq_true, decide_eq_true_iff, decide_eq_true_iff]
  omega
theorem medX_of {L : List Int} {v : Int} (h : medB L v = true) (hm : v ∈ L) : medX L = v := by
  unfold medX
  rw [if_neg (fun e => by rw [e] at hm; cases hm)]
  have h2 : (L.find? (medB L)).isSome = true := List.find?_isSome.2 ⟨v, hm, h⟩
  obtain ⟨u, hu⟩ := Option.isSome_iff_exists.1 h2
  rw [hu]
  exact med_one (List.find?_some hu) h
theorem med_cnt {S L : List Int} (hc : ∀ p : Int → Bool, S.countP p = L.countP p) (hl : S.length = L.length) (v : Int) : medB S v = medB L v := by
  unfold medB lowN eqN; rw [hc, hc, hl]
/-- What stands in the middle of the first k of a list that was sorted, of a list with the same numbers, is the middle one. -/
theorem med_of {R R' L : List Int} {k : Nat} (h : SrI R k k R') (hk : k ≤ R.length) (hkl : k = L.length) (h1 : 1 ≤ k) (hc : ∀ p : Int → Bool, (R.take k).countP p = L.countP p) : gI R' ((k - 1) / 2) = medX L := by
  have hR : k ≤ R'.length := by rw [h.len]; exact hk
  have e : ∀ p : Int → Bool, (R'.take k).countP p = L.countP p := fun p => by
    have e1 := congrArg (List.countP p) (List.take_append_drop k R')
    have e2 := congrArg (List.countP p) (List.take_append_drop k R)
    rw [List.countP_append] at e1 e2
    rw [h.drp, h.cnt p] at e1
    rw [← hc p]; omega
  have hlen : (R'.take k).length = k := by rw [List.length_take]; omega
  have hg : ∀ j, j < k → gI (R'.take k) j = gI R' j := fun j hj => by unfold gI; rw [List.getElem?_take, if_pos hj]
  have hm := med_sorted (S := R'.take k) (fun a b ha hb => by rw [hlen] at hb; rw [hg a (by omega), hg b hb]; exact h.srt a b ha hb) (by omega)
  rw [hlen, hg _ (by omega), med_cnt e (by rw [hlen, hkl])] at hm
  refine (medX_of hm ?_).symm
  unfold medB at hm
  have h2 : 0 < eqN L (gI R' ((k - 1) / 2)) := by
    unfold eqN
    rw [← e]
    refine List.countP_pos_iff.2 ⟨gI R' ((k - 1) / 2), ?_, by simp⟩
    have := gI_at (R := R'.take k) (i := (k - 1) / 2) (by omega)
    rw [hg _ (by omega)] at this
    exact List.mem_of_getElem? this
  unfold eqN at h2
  obtain ⟨x, hx, hx2⟩ := List.countP_pos_iff.1 h2
  rw [beq_iff_eq] at hx2
  rwa [← hx2]
theorem mem_mem {L : List Int} (h : L ≠ []) : ∃ v ∈ L, medB L v = true := by
  have hp := List.mergeSort_perm L (fun a b => decide (a ≤ b))
  have hs := List.pairwise_mergeSort (le := fun a b => decide (a ≤ b)) (fun a b c h1 h2 => by simp at *; omega) (fun a b => by simp; omega) L
  obtain ⟨S, hS⟩ : ∃ S, S = L.mergeSort (fun a b => decide (a ≤ b)) := ⟨_, rfl⟩
  rw [← hS] at hp hs
  have hl : S.length = L.length := hp.length_eq
  have h1 : 1 ≤ S.length := by rw [hl]; exact List.length_pos_iff.2 h
  have hg : ∀ (j : Nat) (hj : j < S.length), gI S j = S[j] := fun j hj => by unfold gI; rw [List.getElem?_eq_getElem hj]; rfl
  have hm := med_sorted (S := S) (fun a b ha hb => by
    rw [hg a (by omega), hg b hb]
    have := List.pairwise_iff_getElem.1 hs a b (by omega) hb ha
    simpa using this) h1
  rw [med_cnt (fun p => hp.countP_eq p) hl] at hm
  refine ⟨_, ?_, hm⟩
  rw [hg _ (by omega)]
  exact hp.subset (List.getElem_mem _)
theorem medX_med {L : List Int} (h : L ≠ []) : medX L ∈ L ∧ medB L (medX L) = true := by
  obtain ⟨v, hv, hm⟩ := mem_mem h
  rw [medX_of hm hv]; exact ⟨hv, hm⟩
/-- The newest numbers, as many as may be kept. -/
def keepL (m : Nat) (L : List Int) (x : Int) : List Int := if m < L.length + 1 then (L ++ [x]).drop 1 else L ++ [x]
theorem keep_len (m : Nat) (L : List Int) (x : Int) (h : L.length ≤ m) : (keepL m L x).length = min (L.length + 1) m := by
  unfold keepL; split
  · simp; omega
  · simp; omega
/-- A ring of nine places that holds them. -/
structure RingI (R L : List Int) (nx m : Nat) : Prop where
  len : R.length = 9
  lm : L.length ≤ m
  nm : nx < m
  m9 : m ≤ 9
  ex : ∃ A C, L = A ++ C ∧ R.take L.length = C ++ A ∧ nx = C.length ∧ (L.length < m → A = [])
theorem RingI.nought (m : Nat) (h : 1 ≤ m) (h9 : m ≤ 9) : RingI [0, 0, 0, 0, 0, 0, 0, 0, 0] [] 0 m := ⟨rfl, by simp, by omega, h9, [], [], rfl, rfl, rfl, fun _ => rfl⟩
theorem RingI.cnt {R L : List Int} {nx m : Nat} (h : RingI R L nx m) (p : Int → Bool) : (R.take L.length).countP p = L.countP p := by
  obtain ⟨A, C, h1, h2, _, _⟩ := h.ex
  rw [h2, h1, List.countP_append, List.countP_append, Nat.add_comm]
theorem take_set_end (R : List Int) (k : Nat) (x : Int) (h : k < R.length) : (R.set k x).take (k + 1) = R.take k ++ [x] := by
  rw [List.take_add_one, List.getElem?_set_self h, List.take_set, List.set_eq_of_length_le (by rw [List.length_take]; omega)]
  rfl
theorem RingI.keep {R L : List Int} {nx m : Nat} (h : RingI R L nx m) (x : Int) : RingI (R.set nx x) (keepL m L x) (if m ≤ nx + 1 then 0 else nx + 1) m := by
  obtain ⟨A, C, h1, h2, h3, h4⟩ := h.ex
  have hlm := h.lm; have hnm := h.nm; have hm9 := h.m9
  refine ⟨by rw [List.length_set, h.len], by rw [keep_len m L x hlm]; omega, by split <;> omega, hm9, ?_⟩
  by_cases hk : L.length < m
  · obtain rfl := h4 hk
    rw [List.nil_append] at h1
    subst h1
    have e : keepL m L x = L ++ [x] := by unfold keepL; rw [if_neg (by omega)]
    rw [e]
    have e2 : (R.set nx x).take (L ++ [x]).length = L ++ [x] := by
      rw [List.length_append, List.length_singleton, h3, take_set_end R _ x (by rw [h.len]; omega), h2, List.append_nil]
    by_cases hn : m ≤ nx + 1
    · rw [if_pos hn]; exact ⟨L ++ [x], [], by simp, by rw [e2]; simp, rfl, fun h5 => by simp at h5; omega⟩
    · rw [if_neg hn]; exact ⟨[], L ++ [x], by simp, by rw [e2]; simp, by simp; omega, fun _ => rfl⟩
  · have hLm : L.length = m := by omega
    match A, h1, h2 with
    | [], h1, h2 => rw [List.nil_append] at h1; subst h1; omega
    | a :: A1, h1, h2 =>
      subst h1
      have e : keepL m (a :: A1 ++ C) x = A1 ++ (C ++ [x]) := by unfold keepL; rw [if_pos (by omega)]; simp
      rw [e]
      have hl2 : (A1 ++ (C ++ [x])).length = (a :: A1 ++ C).length := by simp; omega
      have e2 : (R.set nx x).take (A1 ++ (C ++ [x])).length = (C ++ [x]) ++ A1 := by
        rw [hl2, List.take_set, h2, h3, List.set_append_right _ _ (Nat.le_refl _), Nat.sub_self]
        simp
      rw [e2]
      by_cases hn : m ≤ nx + 1
      · rw [if_pos hn]
        simp at hLm
        have hA : A1 = [] := List.length_eq_zero_iff.1 (by omega)
        subst hA
        exact ⟨C ++ [x], [], by simp, by simp, rfl, fun h5 => by simp at h5; omega⟩
      · rw [if_neg hn]
        exact ⟨A1, C ++ [x], rfl, rfl, by simp; omega, fun h5 => by rw [hl2] at h5; omega⟩
end Go.Proofs.Ytffcadobdimdoaa
