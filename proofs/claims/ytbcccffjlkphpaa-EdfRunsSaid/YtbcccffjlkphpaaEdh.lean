/- Jobs with their places: their order, heaps of them; and what is sent of jobs, one behind the other. No program in it. Conditions: each theorem says its own. -/
import Derived.Test.YtbcccffjlkphpaaEdd
namespace Go.Proofs.Ytbcccffjlkphpaa
open Go.RowKit Go.Shelf Go.Sort
/-- A job, and its place. -/
structure PJ where
  j : Jb
  k : Nat
deriving DecidableEq
def PJ.C (x : PJ) : List Value := [.int .i64 x.j.s, .int .i64 x.j.r, .int .i64 x.j.d, .int .i64 x.j.c, .int .i64 (x.k : Int)]
def PJ.v (x : PJ) : Value := .agg #[.int .i64 x.j.s, .int .i64 x.j.r, .int .i64 x.j.d, .int .i64 x.j.c, .int .i64 (x.k : Int)]
theorem PJ.C_len (x : PJ) : x.C.length = 5 := rfl
def pj0 : PJ := ⟨jb0, 0⟩
instance : Inhabited PJ := ⟨pj0⟩
/-- Which of two is ahead; of alike ones the one that stands first. -/
def klt (len : Int) (x y : PJ) : Prop := epochX x.j.d len < epochX y.j.d len ∨ (epochX x.j.d len = epochX y.j.d len ∧ (x.j.s < y.j.s ∨ (x.j.s = y.j.s ∧ (x.j.r < y.j.r ∨ (x.j.r = y.j.r ∧ x.k < y.k)))))
instance (len : Int) (x y : PJ) : Decidable (klt len x y) := by unfold klt; infer_instance
theorem klt_irr {len : Int} (x : PJ) : ¬ klt len x x := by unfold klt; omega
theorem klt_asymm {len : Int} {x y : PJ} (h : klt len x y) : ¬ klt len y x := by unfold klt at *; omega
theorem klt_trans {len : Int} {x y z : PJ} (h : klt len x y) (h2 : klt len y z) : klt len x z := by unfold klt at *; omega
theorem nlt_trans {len : Int} {x y z : PJ} (h : ¬ klt len x y) (h2 : ¬ klt len y z) : ¬ klt len x z := by unfold klt at *; omega
theorem klt_tot {len : Int} {x y : PJ} (hk : x.k ≠ y.k) (h : ¬ klt len y x) : klt len x y := by unfold klt at *; omega
theorem ord_k (len : Int) (x y : PJ) : (orI (ordV x.j y.j len) (Lib.compareInt (x.k : Int) (y.k : Int)) < 0) ↔ klt len x y := by
  unfold orI ordV or3I klt
  rcases cmpI_cases (epochX x.j.d len) (epochX y.j.d len) with ⟨e1, e⟩ | ⟨e1, e⟩ | ⟨e1, e⟩ <;> rw [e]
  · simp; omega
  · simp; omega
  · rcases cmpI_cases x.j.s y.j.s with ⟨f1, f⟩ | ⟨f1, f⟩ | ⟨f1, f⟩ <;> rw [f]
    · simp; omega
    · simp; omega
    · rcases cmpI_cases x.j.r y.j.r with ⟨g1, g⟩ | ⟨g1, g⟩ | ⟨g1, g⟩ <;> rw [g]
      · simp; omega
      · simp; omega
      · rcases cmpI_cases (x.k : Int) (y.k : Int) with ⟨h1, h⟩ | ⟨h1, h⟩ | ⟨h1, h⟩ <;> rw [h]
        · simp; omega
        · simp; omega
        · simp; omega
/-- Two that change places. -/
def swp (H : List PJ) (i j : Nat) : List PJ := (H.set i H[j]!).set j H[i]!
theorem swp_len (H : List PJ) (i j : Nat) : (swp H i j).length = H.length := by unfold swp; simp
theorem bang {H : List PJ} {i : Nat} (h : i < H.length) : H[i]! = H[i] := by rw [getElem!_pos H i h]
theorem swp_get {H : List PJ} {i j m : Nat} (hi : i < H.length) (hj : j < H.length) (hm : m < H.length) : (swp H i j)[m]! = if m = j then H[i]! else if m = i then H[j]! else H[m]! := by
  have e : (swp H i j)[m]? = some (if m = j then H[i]! else if m = i then H[j]! else H[m]!) := by
    unfold swp
    by_cases h1 : m = j
    · subst h1
      rw [if_pos rfl, List.getElem?_set_self (by simpa using hm)]
    · rw [if_neg h1, List.getElem?_set_ne (Ne.symm h1)]
      by_cases h2 : m = i
      · subst h2
        rw [if_pos rfl, List.getElem?_set_self hm]
      · rw [if_neg h2, List.getElem?_set_ne (Ne.symm h2), bang hm, List.getElem?_eq_getElem hm]
  rw [List.getElem!_eq_getElem?_getD, e]
  rfl
theorem swp_perm {H : List PJ} {i j : Nat} (hi : i < H.length) (hj : j < H.length) : (swp H i j).Perm H := by
  have e : swp H i j = (H.toArray.swap i j (by simpa using hi) (by simpa using hj)).toList := by
    unfold swp
    rw [bang hi, bang hj]
    simp [Array.swap]
  rw [e]
  have := Array.swap_perm (xs := H.toArray) (i := i) (j := j) (by simpa using hi) (by simpa using hj)
  simpa using this.toList
/-- A heap, of the first n. -/
def HP (len : Int) (H : List PJ) (n : Nat) : Prop := ∀ i, 0 < i → i < n → ¬ klt len H[i]! H[(i - 1) / 2]!
def UpI (len : Int) (H : List PJ) (j : Nat) : Prop := (∀ i, 0 < i → i < H.length → i ≠ j → ¬ klt len H[i]! H[(i - 1) / 2]!) ∧ (∀ i, 0 < i → i < H.length → (i - 1) / 2 = j → 0 < j → ¬ klt len H[i]! H[(j - 1) / 2]!)
theorem UpI.step {len : Int} {H : List PJ} {j : Nat} (h : UpI len H j) (hj : 0 < j) (hn : j < H.length) (hk : klt len H[j]! H[(j - 1) / 2]!) : UpI len (swp H ((j - 1) / 2) j) ((j - 1) / 2) := by
  obtain ⟨p, hp⟩ : ∃ p, p = (j - 1) / 2 := ⟨_, rfl⟩
  rw [← hp] at hk ⊢
  have hpn : p < H.length := by omega
  have hpj : p ≠ j := by omega
  refine ⟨fun m h0 hm hmp => ?_, fun m h0 hm hq h0p => ?_⟩
  · rw [swp_len] at hm
    rw [swp_get hpn hn hm, swp_get hpn hn (show (m - 1) / 2 < H.length by omega)]
    by_cases e : m = j
    · rw [if_pos e, if_neg (by omega), if_pos (by omega)]
      exact klt_asymm hk
    · rw [if_neg e, if_neg hmp]
      by_cases e2 : (m - 1) / 2 = j
      · rw [if_pos e2, hp]
        exact h.2 m h0 hm e2 hj
      · rw [if_neg e2]
        by_cases e3 : (m - 1) / 2 = p
        · rw [if_pos e3]
          intro hc
          have := h.1 m h0 hm e
          rw [e3] at this
          exact this (klt_trans hc hk)
        · rw [if_neg e3]
          exact h.1 m h0 hm e
  · rw [swp_len] at hm
    rw [swp_get hpn hn hm, swp_get hpn hn (show (p - 1) / 2 < H.length by omega), if_neg (show ¬ (p - 1) / 2 = j by omega), if_neg (show ¬ (p - 1) / 2 = p by omega)]
    have hg := h.1 p h0p hpn hpj
    by_cases e : m = j
    · rw [if_pos e]
      exact hg
    · rw [if_neg e, if_neg (show ¬ m = p by omega)]
      have h1 := h.1 m h0 hm e
      rw [hq] at h1
      exact nlt_trans h1 hg
theorem UpI.done {len : Int} {H : List PJ} {j : Nat} (h : UpI len H j) (hd : 0 < j → j < H.length → ¬ klt len H[j]! H[(j - 1) / 2]!) : HP len H H.length := fun i h0 hi => by
  by_cases e : i = j
  · subst e; exact hd h0 hi
  · exact h.1 i h0 hi e
theorem UpI.start {len : Int} {H : List PJ} (h : HP len H H.length) (x : PJ) : UpI len (H ++ [x]) H.length := by
  have e : ∀ i, i < H.length → (H ++ [x])[i]! = H[i]! := fun i hi => by
    rw [bang (by simp; omega), bang hi, List.getElem_append_left hi]
  refine ⟨fun i h0 hi hne => ?_, fun i h0 hi hq hj => ?_⟩
  · simp at hi
    rw [e i (by omega), e ((i - 1) / 2) (by omega)]
    exact h i h0 (by omega)
  · simp at hi
    omega
def DnI (len : Int) (H : List PJ) (i n : Nat) : Prop := (∀ m, 0 < m → m < n → (m - 1) / 2 ≠ i → ¬ klt len H[m]! H[(m - 1) / 2]!) ∧ (∀ m, 0 < m → m < n → (m - 1) / 2 = i → 0 < i → ¬ klt len H[m]! H[(i - 1) / 2]!)
theorem DnI.step {len : Int} {H : List PJ} {i n c : Nat} (h : DnI len H i n) (hn : n ≤ H.length) (hc : c < n) (hcc : c = 2 * i + 1 ∨ c = 2 * i + 2) (hk : klt len H[c]! H[i]!) (ho : ∀ o, o < n → (o = 2 * i + 1 ∨ o = 2 * i + 2) → o ≠ c → ¬ klt len H[o]! H[c]!) : DnI len (swp H i c) c n := by
  have hcl : c < H.length := by omega
  have hil : i < H.length := by omega
  refine ⟨fun m h0 hm hmp => ?_, fun m h0 hm hq h0c => ?_⟩
  · rw [swp_get hil hcl (show m < H.length by omega), swp_get hil hcl (show (m - 1) / 2 < H.length by omega), if_neg hmp]
    by_cases e : m = c
    · rw [if_pos e, if_pos (by omega)]
      exact klt_asymm hk
    · rw [if_neg e]
      by_cases e2 : m = i
      · rw [if_pos e2, if_neg (by omega)]
        subst e2
        exact h.2 c (by omega) hc (by omega) h0
      · rw [if_neg e2]
        by_cases e3 : (m - 1) / 2 = i
        · rw [if_pos e3]
          exact ho m hm (by omega) e
        · rw [if_neg e3]
          exact h.1 m h0 hm e3
  · have hci : (c - 1) / 2 = i := by omega
    rw [hci, swp_get hil hcl (show m < H.length by omega), swp_get hil hcl hil, if_neg (show ¬ m = c by omega), if_neg (show ¬ m = i by omega), if_neg (show ¬ i = c by omega), if_pos rfl]
    have := h.1 m h0 hm (by omega)
    rw [hq] at this
    exact this
theorem DnI.done {len : Int} {H : List PJ} {i n : Nat} (h : DnI len H i n) (hd : ∀ m, m < n → (m = 2 * i + 1 ∨ m = 2 * i + 2) → ¬ klt len H[m]! H[i]!) : HP len H n := fun m h0 hm => by
  by_cases e : (m - 1) / 2 = i
  · rw [e]; exact hd m hm (by omega)
  · exact h.1 m h0 hm e
theorem HP.root {len : Int} {H : List PJ} {n : Nat} (h : HP len H n) : ∀ m, m < n → ¬ klt len H[m]! H[0]! := by
  intro m
  induction m using Nat.strongRecOn with
  | ind m ih =>
    intro hm
    by_cases e : m = 0
    · rw [e]; exact klt_irr _
    · exact nlt_trans (h m (by omega) hm) (ih ((m - 1) / 2) (by omega) (by omega))
/-- The first and the last change places: what is left, but for the first one, is a heap. -/
theorem DnI.start {len : Int} {H : List PJ} {n : Nat} (h : HP len H H.length) (hn : n + 1 = H.length) : DnI len (swp H 0 n) 0 n := by
  refine ⟨fun m h0 hm hq => ?_, fun m h0 hm hq h00 => by omega⟩
  rw [swp_get (by omega) (by omega) (show m < H.length by omega), swp_get (by omega) (by omega) (show (m - 1) / 2 < H.length by omega), if_neg (by omega), if_neg (by omega), if_neg (by omega), if_neg hq]
  exact h m h0 (by omega)
/-- What is sent: a job's place, from when, and to when. -/
structure Sn where
  j : Nat
  a : Int
  e : Int
deriving DecidableEq
def Sn.C (x : Sn) : List Value := [.int .i64 (x.j : Int), .int .i64 x.a, .int .i64 x.e]
theorem Sn.C_len (x : Sn) : x.C.length = 3 := rfl
def sn0 : Sn := ⟨0, 0, 0⟩
instance : Inhabited Sn := ⟨sn0⟩
def plc (L : List Jb) (i : Nat) : PJ := ⟨L.getD i jb0, i⟩
/-- What is sent next, and when, behind some, and a time. -/
structure Nxt (L : List Jb) (len : Int) (Ds : List Nat) (now : Int) (b : Nat) (t : Int) : Prop where
  hb : b < L.length
  nd : b ∉ Ds
  hr : (L.getD b jb0).r ≤ t
  hn : now ≤ t
  hm : now < t → ∀ i, i < L.length → i ∉ Ds → t ≤ (L.getD i jb0).r
  hmin : ∀ i, i < L.length → i ∉ Ds → (L.getD i jb0).r ≤ t → i ≠ b → klt len (plc L b) (plc L i)
theorem Nxt.uniq {L : List Jb} {len : Int} {Ds : List Nat} {now : Int} {b b' : Nat} {t t' : Int} (h : Nxt L len Ds now b t) (h' : Nxt L len Ds now b' t') : b = b' ∧ t = t' := by
  have e : t = t' := by
    have h1 := h.hr; have h2 := h.hn; have h3 := h'.hr; have h4 := h'.hn
    rcases Int.lt_trichotomy t t' with hl | hl | hl
    · have := h'.hm (by omega) b h.hb h.nd
      omega
    · exact hl
    · have := h.hm (by omega) b' h'.hb h'.nd
      omega
  subst e
  refine ⟨?_, rfl⟩
  by_cases e : b = b'
  · exact e
  · exact absurd (h.hmin b' h'.hb h'.nd h'.hr (fun q => e q.symm)) (klt_asymm (h'.hmin b h.hb h.nd h.hr e))
def nowS (S : List Sn) : Int := (S.getLast?.map Sn.e).getD 0
theorem nowS_snoc (S : List Sn) (x : Sn) : nowS (S ++ [x]) = x.e := by unfold nowS; simp
/-- That is what is sent of some jobs, up to some of them. -/
def Tr (L : List Jb) (len : Int) (S : List Sn) : Prop := ∀ k (h : k < S.length), Nxt L len ((S.take k).map Sn.j) (nowS (S.take k)) S[k].j S[k].a ∧ S[k].e = S[k].a + (L.getD S[k].j jb0).c
theorem Tr.nil (L : List Jb) (len : Int) : Tr L len [] := fun k h => by simp at h
theorem Tr.snoc {L : List Jb} {len : Int} {S : List Sn} {b : Nat} {t : Int} (h : Tr L len S) (hn : Nxt L len (S.map Sn.j) (nowS S) b t) : Tr L len (S ++ [⟨b, t, t + (L.getD b jb0).c⟩]) := fun k hk => by
  by_cases e : k < S.length
  · rw [List.take_append_of_le_length (by omega), List.getElem_append_left e]
    exact h k e
  · have e2 : k = S.length := by simp at hk; omega
    subst e2
    rw [List.take_append_of_le_length (Nat.le_refl _), List.take_length]
    simp only [List.getElem_concat_length]
    exact ⟨hn, trivial⟩
theorem Tr.uniq {L : List Jb} {len : Int} {S S' : List Sn} (h : Tr L len S) (h' : Tr L len S') (hl : S.length = S'.length) : S = S' := by
  have key : ∀ k, k ≤ S.length → S.take k = S'.take k := by
    intro k
    induction k with
    | zero => intro _; rfl
    | succ k ih =>
      intro hk
      have e := ih (by omega)
      have h1 := h k (by omega)
      have h2 := h' k (by omega)
      rw [← e] at h2
      obtain ⟨e1, e2⟩ := h1.1.uniq h2.1
      rw [List.take_succ_eq_append_getElem (by omega), List.take_succ_eq_append_getElem (show k < S'.length by omega), e]
      congr 2
      have e3 := h1.2
      have e4 := h2.2
      rw [← e1, ← e2, ← e3] at e4
      cases hs : S[k] with
      | mk j a e' =>
        cases hs' : S'[k] with
        | mk j2 a2 e2' =>
          rw [hs, hs'] at e1 e2 e4
          simp only at e1 e2 e4
          rw [e1, e2, e4]
  have := key S.length (Nat.le_refl _)
  rw [List.take_length, List.take_of_length_le (by omega)] at this
  exact this
end Go.Proofs.Ytbcccffjlkphpaa
