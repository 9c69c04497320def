/- The library's sort by the order of ranks. Conditions: the slice is the call's own, and there are at most a million elements. -/
import Derived.Test.YtolhckahphmffaaDoorSmk
namespace Go.Proofs.YtolhckahphmffaaDoor
open Go.RowKit Go.Shelf Go.Sort
instance : Inhabited Sm := ⟨sm0⟩
theorem cfS_lt (x y : Sm) : cfS x y < 0 ↔ (x.d < y.d ∨ (x.d = y.d ∧ x.i < y.i)) := by
  unfold cfS orI Lib.compareInt
  by_cases h1 : x.d < y.d
  · simp [h1]
  · by_cases h2 : y.d < x.d
    · have h3 : ¬ x.d = y.d := by omega
      simp [h1, h2, h3]
    · have h3 : x.d = y.d := by omega
      by_cases h4 : x.i < y.i
      · simp [h3, h4]
      · by_cases h5 : y.i < x.i
        · simp [h3, h4, h5]
        · simp [h3, h4, h5]
theorem swoS : SWO (ltOf cfS) where
  irrefl x := by simp [ltOf, cfS_lt]
  trans x y z h1 h2 := by
    simp only [ltOf, decide_eq_true_eq, cfS_lt] at h1 h2 ⊢
    omega
  ntrans x y z h1 h2 := by
    simp only [ltOf, decide_eq_false_iff_not, cfS_lt] at h1 h2 ⊢
    omega
theorem toArr_get {L : List Sm} {j : Nat} (hj : j < L.length) : L.toArray[j]! = L[j] := by
  rw [getElem!_pos L.toArray j (by simpa using hj)]; simp
theorem C_get (x : Sm) {i : Nat} (hi : i < 7) : x.C[i]? = some (x.C[i]!) := by
  rw [List.getElem!_eq_getElem?_getD, List.getElem?_eq_getElem (by rw [Sm.C_len]; exact hi)]; rfl
theorem holds_of {w : World} {g : Nat} {L : List Sm} (hc : ∀ j (hj : j < L.length) i u, (L[j].C)[i]? = some u → w.cell? ⟨g, j * 7 + i, none⟩ = some u) (hf : ∀ p, p < L.length * 7 → w.frozen? ⟨g, p, none⟩ = false) : HoldsK Sm.C 7 w g 0 L.toArray := by
  intro t ht
  rw [size_flatK] at ht
  have ht' : t < L.length * 7 := by simpa using ht
  rw [get_flatK _ _ _ t ht, Nat.zero_add]
  have h7 : t / 7 < L.length := by omega
  refine ⟨?_, hf t ht'⟩
  rw [toArr_get h7]
  have := hc (t / 7) h7 (t % 7) _ (C_get _ (Nat.mod_lt _ (by omega)))
  rw [show t / 7 * 7 + t % 7 = t by omega] at this
  exact this
theorem of_holds {w : World} {g : Nat} {D : Array Sm} (h : HoldsK Sm.C 7 w g 0 D) {j : Nat} (hj : j < D.size) {i : Nat} {u : Value} (hu : (D[j]!.C)[i]? = some u) : w.cell? ⟨g, j * 7 + i, none⟩ = some u := by
  have hi : i < 7 := by have := (List.getElem?_eq_some_iff.1 hu).1; rwa [Sm.C_len] at this
  have h1 := (h (j * 7 + i) (by rw [size_flatK]; omega)).1
  rw [get_flatK _ _ _ _ (by omega), Nat.zero_add, show (j * 7 + i) / 7 = j by omega, show (j * 7 + i) % 7 = i by omega] at h1
  rw [h1]
  have := C_get D[j]! hi
  rw [hu] at this
  exact this.symm
theorem grown_sort {w : World} {g n : Nat} {os : Array Obj} (d : Array Sm) : w.grownBy (sortWorldK Sm.C 7 w g 0 n d os) (some g) := by
  unfold sortWorldK putRowK
  refine ⟨rfl, rfl, rfl, by simp, fun k hk hne => ?_⟩
  rw [heap_grow_old _ _ (by simpa using hk)]
  have : g ≠ k := fun e => hne (by rw [e])
  simp [putRow, mapBlock, Sort.ahead, Array.getElem?_modify, this]
/-- A slice of the call's own is sorted by the order of ranks: it holds the same streams, none behind one that is sooner; nothing else turns. -/
theorem ssort_any (g cap : Nat) (L : List Sm) (hL : L.length ≤ 1000000) (w : World) (hg : g < w.heap.size) (hc : ∀ j (hj : j < L.length) i u, (L[j].C)[i]? = some u → w.cell? ⟨g, j * 7 + i, none⟩ = some u) (hf : ∀ p, p < L.length * 7 → w.frozen? ⟨g, p, none⟩ = false) :
    Calls Tryd.prog 52 #[.slice (some ⟨g, 0, none⟩) L.length cap, .func (.func 53) #[] #[]] w fun y w' => y = .returned (.tuple #[]) ∧ ∃ D : List Sm, D.Perm L ∧ (∀ i j (hi : i < D.length) (hj : j < D.length), i < j → ¬ cfS D[j] D[i] < 0) ∧ (∀ j (hj : j < D.length) i u, (D[j].C)[i]? = some u → w'.cell? ⟨g, j * 7 + i, none⟩ = some u) ∧ w.grownBy w' (some g) := by
  have h := Tryd.slices_SortFunc (α := Sm) 7 Tryd.isAgg30 Tryd.sizeOf30 Sm.C Sm.C_len (fun x v hv => by simp [Sm.C] at hv; rcases hv with rfl | rfl | rfl | rfl | rfl | rfl | rfl <;> rfl) cfS swoS 53 #[] g 0 cap L.toArray w (enters_of Tryd.func53 (by kernel_rfl) rfl) (fun m os dk _ x y => sooner_any x y _) (holds_of hc hf) hg (by simp; omega)
  simp only [List.size_toArray] at h
  refine h.mono fun y w' ⟨h1, D, n, os, hp, hs, hw⟩ => ⟨h1, D.toList, ?_, ?_, ?_, ?_⟩
  · have := hp.2.2
    have e1 : D.size = L.length := by have := hp.1; simpa using this
    rw [show D.extract 0 L.length = D by rw [← e1]; simp, show L.toArray.extract 0 L.length = L.toArray by simp] at this
    simpa using this
  · intro i j hi hj hij
    have e1 : D.size = L.length := by have := hp.1; simpa using this
    have hi' : i < D.size := by simpa using hi
    have hj' : j < D.size := by simpa using hj
    have := hs i j (Nat.zero_le _) hij (by omega)
    rw [getElem!_pos D j hj', getElem!_pos D i hi'] at this
    simpa [ltOf] using this
  · intro j hj i u hu
    have e1 : D.size = L.length := by have := hp.1; simpa using this
    have hj' : j < D.size := by simpa using hj
    have hh := holdsK_sortWorldK_c Sm.C 7 w g 0 L.toArray D n os (holds_of hc hf) hg (by simpa using e1)
    rw [← hw] at hh
    refine of_holds hh hj' ?_
    rw [getElem!_pos D j hj']
    simpa using hu
  · rw [hw]; exact grown_sort D
end Go.Proofs.YtolhckahphmffaaDoor
