/- Ranks: how many are sooner; a list whose slots are put, one by one; rows of the call's own, their cells. No program in it. Conditions: each theorem says its own. -/
import Derived.Test.YtolhckahphmffaaDoorSmm
namespace Go.Proofs.YtolhckahphmffaaDoor
open Go.RowKit Go.Shelf
/-- How many are sooner than a stream. -/
def rankN (L : List Sm) (x : Sm) : Nat := L.countP (fun y => decide (cfS y x < 0))
theorem rank_of {D L : List Sm} {x : Sm} {k : Nat} (hp : D.Perm L) (hk : k ≤ D.length) (h1 : ∀ j (hj : j < D.length), j < k → cfS D[j] x < 0) (h2 : ∀ j (hj : j < D.length), k ≤ j → ¬ cfS D[j] x < 0) : k = rankN L x := by
  unfold rankN
  rw [← hp.countP_eq]
  have e : D = D.take k ++ D.drop k := (List.take_append_drop k D).symm
  have e1 : (D.take k).countP (fun y => decide (cfS y x < 0)) = (D.take k).length := by
    rw [List.countP_eq_length]
    intro y hy
    obtain ⟨j, hj, rfl⟩ := List.getElem_of_mem hy
    have hj2 : j < min k D.length := by simpa using hj
    rw [List.getElem_take]
    exact decide_eq_true (h1 j (by omega) (by omega))
  have e2 : (D.drop k).countP (fun y => decide (cfS y x < 0)) = 0 := by
    rw [List.countP_eq_zero]
    intro y hy
    obtain ⟨j, hj, rfl⟩ := List.getElem_of_mem hy
    have hj2 : j < D.length - k := by simpa using hj
    rw [List.getElem_drop]
    have := h2 (k + j) (by omega) (by omega)
    simpa using this
  conv => rhs; rw [e]
  rw [List.countP_append, e1, e2, List.length_take]
  omega
theorem mono_of {D : List Sm} {x : Sm} (hs : ∀ i j (hi : i < D.length) (hj : j < D.length), i < j → ¬ cfS D[j] D[i] < 0) : ∀ i j (hi : i < D.length) (hj : j < D.length), i < j → cfS D[j] x < 0 → cfS D[i] x < 0 := fun i j hi hj hij h => by
  have h1 := hs i j hi hj hij
  rw [cfS_lt] at h h1 ⊢
  omega
/-- What a stream's slot becomes. -/
def rkI (L : List Sm) (x : Sm) : Int := if rankN L x ≤ 255 then (rankN L x : Int) else 255
def putS (x : Sm) (r : Int) : Sm := ⟨x.i, x.n, x.c, x.p, x.d, r, x.b⟩
def rkl (L : List Sm) (pre : List (Fin L.length)) : List Sm := pre.foldl (fun M x => M.set x.1 (putS (M.getD x.1 sm0) (rkI L (L[x.1]'x.2)))) L
theorem rkl_len (L : List Sm) (pre : List (Fin L.length)) : (rkl L pre).length = L.length := by
  unfold rkl
  have : ∀ (M : List Sm), (pre.foldl (fun M x => M.set x.1 (putS (M.getD x.1 sm0) (rkI L (L[x.1]'x.2)))) M).length = M.length := by
    induction pre with
    | nil => intro M; rfl
    | cons a r ih => intro M; rw [List.foldl_cons, ih, List.length_set]
  exact this L
theorem rkl_snoc (L : List Sm) (pre : List (Fin L.length)) (x : Fin L.length) : rkl L (pre ++ [x]) = (rkl L pre).set x.1 (putS ((rkl L pre).getD x.1 sm0) (rkI L (L[x.1]'x.2))) := by
  unfold rkl; rw [List.foldl_append]; rfl
/-- All slots put. -/
def rkAll (L : List Sm) : List Sm := L.map (fun x => putS x (rkI L x))
theorem fold_get (L : List Sm) : ∀ (pre : List (Fin L.length)) (M : List Sm) (S : List Nat), M.length = L.length → (∀ j (hj : j < L.length), M[j]? = some (if j ∈ S then putS L[j] (rkI L L[j]) else L[j])) → ∀ j (hj : j < L.length), (pre.foldl (fun M x => M.set x.1 (putS (M.getD x.1 sm0) (rkI L (L[x.1]'x.2)))) M)[j]? = some (if j ∈ S ++ pre.map Fin.val then putS L[j] (rkI L L[j]) else L[j])
  | [], M, S, _, h, j, hj => by simpa using h j hj
  | x :: pre, M, S, hl, h, j, hj => by
    rw [List.foldl_cons]
    have hm := fold_get L pre (M.set x.1 (putS (M.getD x.1 sm0) (rkI L (L[x.1]'x.2)))) (S ++ [x.1]) (by rw [List.length_set, hl]) (fun j hj => by
      by_cases e : x.1 = j
      · subst e
        rw [List.getElem?_set_self (by rw [hl]; exact hj), List.getD_eq_getElem?_getD, h x.1 hj, Option.getD_some]
        simp only [List.mem_append, List.mem_singleton, or_true, if_true]
        split
        · rfl
        · rfl
      · rw [List.getElem?_set_ne e, h j hj]
        have : (j ∈ S ++ [x.1]) ↔ j ∈ S := by
          rw [List.mem_append, List.mem_singleton]
          exact ⟨fun h => h.elim id (fun h => absurd h.symm e), .inl⟩
        simp only [this]) j hj
    rw [hm]
    simp only [List.append_assoc, List.singleton_append, List.map_cons]
theorem rkl_get (L : List Sm) (pre : List (Fin L.length)) (j : Nat) (hj : j < L.length) : (rkl L pre)[j]? = some (if j ∈ pre.map Fin.val then putS L[j] (rkI L L[j]) else L[j]) := by
  have h := fold_get L pre L [] rfl (fun j hj => by simp [hj]) j hj
  rw [List.nil_append] at h
  exact h
theorem rkl_all {L : List Sm} {ys : List (Fin L.length)} (h : Came ys L.length) : rkl L ys = rkAll L := by
  apply List.ext_getElem?
  intro j
  by_cases hj : j < L.length
  · rw [rkl_get L ys j hj, if_pos (by unfold Came at h; rw [h]; simpa using hj)]
    unfold rkAll
    rw [List.getElem?_map, List.getElem?_eq_getElem hj]; rfl
  · rw [List.getElem?_eq_none (by rw [rkl_len]; omega), List.getElem?_eq_none (by unfold rkAll; simp; omega)]
theorem flat_put (M : List Sm) (j : Nat) (hj : j < M.length) (r : Int) : (M.flatMap Sm.C).set (j * 7 + 5) (.int .i64 r) = (M.set j (putS (M.getD j sm0) r)).flatMap Sm.C := by
  apply List.ext_getElem?
  intro t
  by_cases ht : t < M.length * 7
  · have h1 : t / 7 < M.length := by omega
    have h1' : t / 7 < (M.set j (putS (M.getD j sm0) r)).length := by simpa using h1
    have h2 := flat_at 7 Sm.C Sm.C_len M (t / 7) (t % 7) h1 (Nat.mod_lt _ (by omega))
    have h3 := flat_at 7 Sm.C Sm.C_len (M.set j (putS (M.getD j sm0) r)) (t / 7) (t % 7) h1' (Nat.mod_lt _ (by omega))
    rw [show t / 7 * 7 + t % 7 = t by omega] at h2 h3
    rw [h3]
    by_cases e : j * 7 + 5 = t
    · subst e
      rw [List.getElem?_set_self (by rw [flat_len 7 Sm.C Sm.C_len]; exact ht)]
      have e1 : (j * 7 + 5) / 7 = j := by omega
      have e2 : (j * 7 + 5) % 7 = 5 := by omega
      simp only [e1, e2, List.getElem_set_self]
      rfl
    · rw [List.getElem?_set_ne e, h2]
      by_cases e1 : j = t / 7
      · have e2 : t % 7 ≠ 5 := by omega
        have e3 : (M.set j (putS (M.getD j sm0) r))[t / 7] = putS M[t / 7] r := by
          subst e1
          rw [List.getElem_set_self, List.getD_eq_getElem?_getD, List.getElem?_eq_getElem h1]; rfl
        rw [e3]
        obtain h | h | h | h | h | h : t % 7 = 0 ∨ t % 7 = 1 ∨ t % 7 = 2 ∨ t % 7 = 3 ∨ t % 7 = 4 ∨ t % 7 = 6 := by omega
        all_goals rw [h]; rfl
      · rw [List.getElem_set_ne e1]
  · rw [List.getElem?_eq_none (by rw [List.length_set, flat_len 7 Sm.C Sm.C_len]; omega), List.getElem?_eq_none (by rw [flat_len 7 Sm.C Sm.C_len, List.length_set]; omega)]
/-- A row of the call's own that holds something, written out. -/
theorem own_pos {W : World} {base k : Nat} {v : Value} {M : List Sm} (h : W.ownsRow base 30 7 v k (M.flatMap Sm.C)) (hk : 0 < k) : ∃ g cap l, v = .slice (some ⟨g, 0, none⟩) k cap ∧ base ≤ g ∧ Blk W g 30 l ∧ k ≤ cap ∧ cap ≤ maxLen ∧ l.length = cap * 7 ∧ l.take (k * 7) = M.flatMap Sm.C := by
  rcases h.2 with ⟨_, h0⟩ | ⟨g, cap, cur, rfl, hb, hg, h1, h2, h3, h4⟩
  · omega
  · exact ⟨g, cap, cur.toList, rfl, hb, hg, h1, h2, by simpa using h3, h4⟩
theorem blk_cells {W : World} {g n : Nat} {l : List Value} {M : List Sm} (h : Blk W g 30 l) (ht : l.take (n * 7) = M.flatMap Sm.C) (hn : M.length = n) : ∀ j (hj : j < M.length) i u, (M[j].C)[i]? = some u → W.cell? ⟨g, j * 7 + i, none⟩ = some u := fun j hj i u hu => by
  have hi : i < 7 := by have := (List.getElem?_eq_some_iff.1 hu).1; rwa [Sm.C_len] at this
  have h1 := flat_at 7 Sm.C Sm.C_len M j i hj hi
  rw [← ht, hu, List.getElem?_take_of_lt (by omega)] at h1
  have h2 := (List.getElem?_eq_some_iff.1 h1).1
  rw [h.cellAt (i := j * 7 + i) h2]
  rw [← h1, List.getElem?_eq_getElem h2]
end Go.Proofs.YtolhckahphmffaaDoor
