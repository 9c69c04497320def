/- Worlds that grow but for one block; a list with a part put in; what the library's deletion has done behind so many rounds. No program in it, no conditions. -/
import Derived.Test.YtolhckahphmffaaDoorSmw
namespace Go.Proofs.YtolhckahphmffaaDoor
open Go.RowKit Go.Shelf
theorem grow_refl (w : World) (g : Nat) : w.grownBy w (some g) := ⟨rfl, rfl, rfl, Nat.le_refl _, fun _ _ _ => rfl⟩
theorem grow_below {w a b : World} {g : Nat} (h : w.grownBy a (some g)) (hb : Below a.heap.size a b) : w.grownBy b (some g) :=
  ⟨hb.os.trans h.os, hb.tape.trans h.tape, hb.output.trans h.output, Nat.le_trans h.size hb.size, fun k hk hne => (hb.block k (Nat.lt_of_lt_of_le hk h.size)).trans (h.block k hk hne)⟩
theorem grow_set {w a : World} {g : Nat} (h : w.grownBy a (some g)) (o : Nat) (v : Value) : w.grownBy (a.setCell ⟨g, o, none⟩ v) (some g) :=
  ⟨h.os, h.tape, h.output, by simpa using h.size, fun k hk hne => (Below.heap_setCell a ⟨g, o, none⟩ v k (fun e => hne (by rw [e]))).trans (h.block k hk hne)⟩
theorem grow_sets {w : World} {g : Nat} : ∀ (vs : List Value) (o : Nat) (a : World), w.grownBy a (some g) → w.grownBy (a.setCells g o vs) (some g)
  | [], _, _, h => h
  | v :: vs, o, _, h => grow_sets vs (o + 1) _ (grow_set h o v)
/-- A list with a part put in. -/
def putL (l : List Value) (o : Nat) (vs : List Value) : List Value := l.take o ++ vs ++ l.drop (o + vs.length)
theorem putL_len {l : List Value} {o : Nat} {vs : List Value} (h : o + vs.length ≤ l.length) : (putL l o vs).length = l.length := by
  unfold putL; simp; omega
theorem Blk.sets {g : Nat} {T : TypeId} : ∀ (vs : List Value) (o : Nat) (a : World) (l : List Value), Blk a g T l → o + vs.length ≤ l.length → Blk (a.setCells g o vs) g T (putL l o vs)
  | [], o, a, l, h, ho => by
    have e : putL l o [] = l := by unfold putL; simp
    rw [e]; exact h
  | v :: vs, o, a, l, h, ho => by
    have ho1 : o < l.length := by simp at ho; omega
    have h1 := Blk.sets vs (o + 1) _ _ (h.put1 ho1 v) (by rw [List.length_set]; simp at ho; omega)
    have e : putL (l.set o v) (o + 1) vs = putL l o (v :: vs) := by
      unfold putL
      rw [List.drop_set_of_lt (by omega), List.length_cons, show o + 1 + vs.length = o + (vs.length + 1) by omega]
      congr 1
      rw [List.take_succ_eq_append_getElem (by simpa using ho1)]
      simp [List.take_set_of_le]
    rw [e] at h1
    exact h1
theorem putL_take {l vs : List Value} {o : Nat} (h : o ≤ l.length) : (putL l o vs).take (o + vs.length) = l.take o ++ vs := by
  unfold putL
  rw [List.take_append_of_le_length (by simp; omega), List.take_of_length_le (by simp; omega)]
theorem putL_front {l vs : List Value} {o : Nat} (h : o ≤ l.length) : (putL l o vs).take o = l.take o := by
  unfold putL
  rw [List.append_assoc, List.take_append_of_le_length (by simp; omega), List.take_of_length_le (by simp; omega)]
theorem putL_drop {l vs : List Value} {o k : Nat} (h : o + vs.length ≤ k) (hl : o + vs.length ≤ l.length) : (putL l o vs).drop k = l.drop k := by
  unfold putL
  rw [List.drop_append, List.drop_of_length_le (by simp; omega), List.nil_append, List.drop_drop]
  congr 1
  simp; omega
/-- What the deletion has done behind j rounds. -/
structure DelI (L : List Sm) (l l' : List Value) (i j : Nat) : Prop where
  len : l'.length = l.length
  cnt : i = (dmL (L.take j)).length
  front : l'.take (i * 7) = (dmL (L.take j)).flatMap Sm.C
  back : l'.drop (j * 7) = l.drop (j * 7)
theorem dm_le (L : List Sm) (j : Nat) : (dmL (L.take j)).length ≤ j := by
  unfold dmL
  exact Nat.le_trans (List.length_filter_le _ _) (by simp; omega)
theorem dm_take (L : List Sm) {j : Nat} (hj : j < L.length) : dmL (L.take (j + 1)) = dmL (L.take j) ++ if L[j].c = 2 then [L[j]] else [] := by
  unfold dmL
  rw [List.take_succ_eq_append_getElem hj, List.filter_append]
  congr 1
  by_cases h : L[j].c = 2
  · rw [if_pos h, List.filter_cons_of_pos (by simpa using h)]; rfl
  · rw [if_neg h, List.filter_cons_of_neg (by simpa using h)]; rfl
theorem DelI.keep {L : List Sm} {l l' : List Value} {i j : Nat} (h : DelI L l l' i j) (hij : i < j) (hj : j < L.length) (hl : L.length * 7 ≤ l.length) (hc : L[j].c = 2) : DelI L l (putL l' (i * 7) L[j].C) (i + 1) (j + 1) := by
  have h7 : (L[j].C).length = 7 := Sm.C_len _
  have hle : i * 7 + (L[j].C).length ≤ l'.length := by rw [h.len, h7]; omega
  refine ⟨(putL_len hle).trans h.len, ?_, ?_, ?_⟩
  · rw [dm_take L hj, if_pos hc, List.length_append, ← h.cnt]; rfl
  · have := putL_take (l := l') (vs := L[j].C) (o := i * 7) (by omega)
    rw [h7] at this
    rw [show (i + 1) * 7 = i * 7 + 7 by omega, this, h.front, dm_take L hj, if_pos hc, List.flatMap_append]
    simp
  · rw [putL_drop (by rw [h7]; omega) hle, show (j + 1) * 7 = j * 7 + 7 by omega, ← List.drop_drop, ← List.drop_drop, h.back]
theorem DelI.skip {L : List Sm} {l l' : List Value} {i j : Nat} (h : DelI L l l' i j) (hj : j < L.length) (hc : ¬ L[j].c = 2) : DelI L l l' i (j + 1) := by
  have e : dmL (L.take (j + 1)) = dmL (L.take j) := by rw [dm_take L hj, if_neg hc, List.append_nil]
  refine ⟨h.len, by rw [e]; exact h.cnt, by rw [e]; exact h.front, ?_⟩
  rw [show (j + 1) * 7 = j * 7 + 7 by omega, ← List.drop_drop, ← List.drop_drop, h.back]
theorem DelI.start {L : List Sm} {l : List Value} {k : Nat} (hk : k < L.length) (hl : l.take (L.length * 7) = L.flatMap Sm.C) (hb : ∀ j (hj : j < L.length), j < k → L[j].c = 2) (hc : ¬ L[k].c = 2) : DelI L l l k (k + 1) := by
  have e : dmL (L.take k) = L.take k := by
    unfold dmL
    rw [List.filter_eq_self]
    intro x hx
    obtain ⟨j, hj, rfl⟩ := List.getElem_of_mem hx
    have hj2 : j < k := by simp at hj; omega
    rw [List.getElem_take]
    simpa using hb j (by omega) hj2
  have e2 : dmL (L.take (k + 1)) = L.take k := by rw [dm_take L hk, if_neg hc, List.append_nil, e]
  have hlt : (L.take k).length = k := by simp; omega
  refine ⟨rfl, by rw [e2, hlt], ?_, rfl⟩
  rw [e2]
  have : l.take (k * 7) = (l.take (L.length * 7)).take (k * 7) := by rw [List.take_take, Nat.min_eq_left (by omega)]
  rw [this, hl]
  have h2 : L.flatMap Sm.C = (L.take k).flatMap Sm.C ++ (L.drop k).flatMap Sm.C := by rw [← List.flatMap_append, List.take_append_drop]
  rw [h2, List.take_append_of_le_length (by rw [flat_len 7 Sm.C Sm.C_len, hlt]; omega), List.take_of_length_le (by rw [flat_len 7 Sm.C Sm.C_len, hlt]; omega)]
theorem DelI.at {L : List Sm} {l l' : List Value} {i j : Nat} (h : DelI L l l' i j) (hj : j < L.length) (hl : l.take (L.length * 7) = L.flatMap Sm.C) {q : Nat} {u : Value} (hu : (L[j].C)[q]? = some u) : l'[j * 7 + q]? = some u := by
  have hq : q < 7 := by have := (List.getElem?_eq_some_iff.1 hu).1; rwa [Sm.C_len] at this
  have h1 : l'[j * 7 + q]? = (l'.drop (j * 7))[q]? := by rw [List.getElem?_drop]
  rw [h1, h.back, List.getElem?_drop]
  have h2 := flat_at 7 Sm.C Sm.C_len L j q hj hq
  rw [← hl, List.getElem?_take_of_lt (by omega)] at h2
  rw [h2, hu]
theorem DelI.done {L : List Sm} {l l' : List Value} {i : Nat} (h : DelI L l l' i L.length) : i = (dmL L).length ∧ l'.take ((dmL L).length * 7) = (dmL L).flatMap Sm.C := by
  have h1 := h.cnt; have h2 := h.front
  rw [List.take_length] at h1 h2
  exact ⟨h1, by rw [← h1]; exact h2⟩
end Go.Proofs.YtolhckahphmffaaDoor
