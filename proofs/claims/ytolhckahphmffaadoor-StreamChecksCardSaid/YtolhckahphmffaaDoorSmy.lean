/- A list of streams whose slots are put one by one, of those that have ranks; rows of the call's own, written out. No program in it. -/
import Derived.Test.YtolhckahphmffaaDoorSmx
namespace Go.Proofs.YtolhckahphmffaaDoor
open Go.RowKit Go.Shelf
def rk2 (L : List Sm) (pre : List (Fin L.length)) : List Sm := pre.foldl (fun (M : List Sm) (x : Fin L.length) => if (L[x.1]'x.2).c = 2 then M.set x.1 (putS (M.getD x.1 sm0) (rkI (dmL L) (L[x.1]'x.2))) else M) L
theorem rk2_len (L : List Sm) (pre : List (Fin L.length)) : (rk2 L pre).length = L.length := by
  unfold rk2
  have : ∀ (M : List Sm), (pre.foldl (fun (M : List Sm) (x : Fin L.length) => if (L[x.1]'x.2).c = 2 then M.set x.1 (putS (M.getD x.1 sm0) (rkI (dmL L) (L[x.1]'x.2))) else M) M).length = M.length := by
    induction pre with
    | nil => intro M; rfl
    | cons a r ih =>
      intro M
      rw [List.foldl_cons, ih]
      split
      · rw [List.length_set]
      · rfl
  exact this L
theorem rk2_yes (L : List Sm) (pre : List (Fin L.length)) (x : Fin L.length) (h : (L[x.1]'x.2).c = 2) : rk2 L (pre ++ [x]) = (rk2 L pre).set x.1 (putS ((rk2 L pre).getD x.1 sm0) (rkI (dmL L) (L[x.1]'x.2))) := by
  unfold rk2; rw [List.foldl_append, List.foldl_cons, List.foldl_nil, if_pos h]
theorem rk2_no (L : List Sm) (pre : List (Fin L.length)) (x : Fin L.length) (h : ¬ (L[x.1]'x.2).c = 2) : rk2 L (pre ++ [x]) = rk2 L pre := by
  unfold rk2; rw [List.foldl_append, List.foldl_cons, List.foldl_nil, if_neg h]
theorem fold2_get (L : List Sm) : ∀ (pre : List (Fin L.length)) (M : List Sm) (S : List Nat), M.length = L.length → (∀ j (hj : j < L.length), M[j]? = some (if j ∈ S then rkD L L[j] else L[j])) → ∀ j (hj : j < L.length), (pre.foldl (fun (M : List Sm) (x : Fin L.length) => if (L[x.1]'x.2).c = 2 then M.set x.1 (putS (M.getD x.1 sm0) (rkI (dmL L) (L[x.1]'x.2))) else M) M)[j]? = some (if j ∈ S ++ pre.map Fin.val then rkD L L[j] else L[j])
  | [], M, S, _, h, j, hj => by simpa using h j hj
  | x :: pre, M, S, hl, h, j, hj => by
    rw [List.foldl_cons]
    have hm := fold2_get L pre (if (L[x.1]'x.2).c = 2 then M.set x.1 (putS (M.getD x.1 sm0) (rkI (dmL L) (L[x.1]'x.2))) else M) (S ++ [x.1]) (by split <;> first | (rw [List.length_set]; exact hl) | exact hl) (fun j hj => by
      by_cases e : x.1 = j
      · subst e
        have hin : x.1 ∈ S ++ [x.1] := by simp
        rw [if_pos hin]
        by_cases hc : (L[x.1]'x.2).c = 2
        · rw [if_pos hc, List.getElem?_set_self (by rw [hl]; exact hj), List.getD_eq_getElem?_getD, h x.1 hj, Option.getD_some, rkD_rank L, if_pos hc]
          congr 1
          by_cases hS : x.1 ∈ S
          · rw [if_pos hS]; rfl
          · rw [if_neg hS]
        · rw [if_neg hc, h x.1 hj, rkD_rank L, if_neg hc]
          split <;> rfl
      · have : (j ∈ S ++ [x.1]) ↔ j ∈ S := by
          rw [List.mem_append, List.mem_singleton]
          exact ⟨fun h => h.elim id (fun h => absurd h.symm e), .inl⟩
        simp only [this]
        rw [← h j hj]
        split
        · rw [List.getElem?_set_ne e]
        · rfl) j hj
    rw [hm]
    simp only [List.append_assoc, List.singleton_append, List.map_cons]
theorem rk2_all {L : List Sm} {ys : List (Fin L.length)} (h : Came ys L.length) : rk2 L ys = L.map (rkD L) := by
  apply List.ext_getElem?
  intro j
  by_cases hj : j < L.length
  · have h2 := fold2_get L ys L [] rfl (fun j hj => by simp [hj]) j hj
    unfold rk2
    rw [h2, List.nil_append, if_pos (by unfold Came at h; rw [h]; simpa using hj), List.getElem?_map, List.getElem?_eq_getElem hj]; rfl
  · rw [List.getElem?_eq_none (by rw [rk2_len]; omega), List.getElem?_eq_none (by simp; omega)]
/-- A row of the call's own that is not nil, written out. -/
theorem own_ne {W : World} {base k : Nat} {v : Value} {M : List Sm} (h : W.ownsRow base 30 7 v k (M.flatMap Sm.C)) (hv : v ≠ .slice none 0 0) : ∃ g cap l, v = .slice (some ⟨g, 0, none⟩) k cap ∧ base ≤ g ∧ Blk W g 30 l ∧ k ≤ cap ∧ cap ≤ maxLen ∧ l.length = cap * 7 ∧ l.take (k * 7) = M.flatMap Sm.C := by
  rcases h.2 with ⟨h1, _⟩ | ⟨g, cap, cur, rfl, hb, hg, h1, h2, h3, h4⟩
  · exact absurd h1 hv
  · exact ⟨g, cap, cur.toList, rfl, hb, hg, h1, h2, by simpa using h3, h4⟩
/-- Cells, written out, of a block that holds more than the list. -/
theorem dm_len (L : List Sm) : (dmL L).length ≤ L.length := List.length_filter_le _ _
end Go.Proofs.YtolhckahphmffaaDoor
