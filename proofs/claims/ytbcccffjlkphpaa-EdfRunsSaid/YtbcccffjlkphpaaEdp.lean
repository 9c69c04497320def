/- The library's sort at jobs with their places, by when they come. Conditions: the slice is the call's own, and there are at most a million. -/
import Derived.Test.YtbcccffjlkphpaaEdo
namespace Go.Proofs.Ytbcccffjlkphpaa
open Go.RowKit Go.Shelf Go.Sort
set_option linter.unusedSimpArgs false
set_option linter.unusedVariables false
attribute [local go_sem] Oper.semAt_some
/-- Which of two comes first. -/
def cfR (x y : PJ) : Int := Lib.compareInt x.j.r y.j.r
theorem cfR_lt (x y : PJ) : cfR x y < 0 ↔ x.j.r < y.j.r := by
  unfold cfR
  rcases cmpI_cases x.j.r y.j.r with ⟨e1, e⟩ | ⟨e1, e⟩ | ⟨e1, e⟩ <;> rw [e] <;> simp <;> omega
theorem swoR : SWO (ltOf cfR) where
  irrefl x := by simp [ltOf, cfR_lt]
  trans x y z h1 h2 := by
    simp only [ltOf, decide_eq_true_eq, cfR_lt] at h1 h2 ⊢
    omega
  ntrans x y z h1 h2 := by
    simp only [ltOf, decide_eq_false_iff_not, cfR_lt] at h1 h2 ⊢
    omega
theorem byrel_any (x y : PJ) (w : World) : Calls Try.prog 41 #[.agg x.C.toArray, .agg y.C.toArray] w fun e w' => e = .returned (.int .i64 (cfR x y)) ∧ ∃ q os, w' = grow (w.drewN q) os := by
  have HC := Lib.hid (fun u => cmp64_any x.j.r y.j.r u)
  unfold cfR PJ.C
  obtain ⟨k, hk⟩ : ∃ k, k = Lib.compareInt x.j.r y.j.r := ⟨_, rfl⟩
  rw [← hk] at HC ⊢
  clear hk
  go_enter Try.func41, Try.ntmps41
  go_wp2_with fail
  refine (HC.out _).mono ?_
  rintro e w1 ⟨rfl, rfl⟩
  go_wp2_with fail
  go_ret
  refine ⟨rfl, 0, #[.cells #[.int .i64 x.j.s, .int .i64 x.j.r, .int .i64 x.j.d, .int .i64 x.j.c, .int .i64 (x.k : Int)] 64, .cells #[.int .i64 y.j.s, .int .i64 y.j.r, .int .i64 y.j.d, .int .i64 y.j.c, .int .i64 (y.k : Int)] 64], ?_⟩
  have h : w.heap ++ #[Obj.cells #[.int .i64 x.j.s, .int .i64 x.j.r, .int .i64 x.j.d, .int .i64 x.j.c, .int .i64 (x.k : Int)] 64, Obj.cells #[.int .i64 y.j.s, .int .i64 y.j.r, .int .i64 y.j.d, .int .i64 y.j.c, .int .i64 (y.k : Int)] 64] = (w.heap.push (.cells #[.int .i64 x.j.s, .int .i64 x.j.r, .int .i64 x.j.d, .int .i64 x.j.c, .int .i64 (x.k : Int)] 64)).push (.cells #[.int .i64 y.j.s, .int .i64 y.j.r, .int .i64 y.j.d, .int .i64 y.j.c, .int .i64 (y.k : Int)] 64) := by
    apply Array.ext'
    simp
  show _ = { w.drewN 0 with heap := w.heap ++ #[Obj.cells #[.int .i64 x.j.s, .int .i64 x.j.r, .int .i64 x.j.d, .int .i64 x.j.c, .int .i64 (x.k : Int)] 64, Obj.cells #[.int .i64 y.j.s, .int .i64 y.j.r, .int .i64 y.j.d, .int .i64 y.j.c, .int .i64 (y.k : Int)] 64] }
  rw [h]
  rfl
theorem toArrP {L : List PJ} {j : Nat} (hj : j < L.length) : L.toArray[j]! = L[j] := by
  rw [getElem!_pos L.toArray j (by simpa using hj)]; simp
theorem PC_get (x : PJ) {i : Nat} (hi : i < 5) : x.C[i]? = some (x.C[i]!) := by
  rw [List.getElem!_eq_getElem?_getD, List.getElem?_eq_getElem (by rw [PJ.C_len]; exact hi)]; rfl
theorem holdsP {w : World} {g : Nat} {L : List PJ} (hc : ∀ j (hj : j < L.length) i u, (L[j].C)[i]? = some u → w.cell? ⟨g, j * 5 + i, none⟩ = some u) (hf : ∀ p, p < L.length * 5 → w.frozen? ⟨g, p, none⟩ = false) : HoldsK PJ.C 5 w g 0 L.toArray := by
  intro t ht
  rw [size_flatK] at ht
  have ht' : t < L.length * 5 := by simpa using ht
  rw [get_flatK _ _ _ t ht, Nat.zero_add]
  have h5 : t / 5 < L.length := by omega
  refine ⟨?_, hf t ht'⟩
  rw [toArrP h5]
  have := hc (t / 5) h5 (t % 5) _ (PC_get _ (Nat.mod_lt _ (by omega)))
  rw [show t / 5 * 5 + t % 5 = t by omega] at this
  exact this
theorem ofHoldsP {w : World} {g : Nat} {D : Array PJ} (h : HoldsK PJ.C 5 w g 0 D) {j : Nat} (hj : j < D.size) {i : Nat} {u : Value} (hu : (D[j]!.C)[i]? = some u) : w.cell? ⟨g, j * 5 + i, none⟩ = some u := by
  have hi : i < 5 := by have := (List.getElem?_eq_some_iff.1 hu).1; rwa [PJ.C_len] at this
  have h1 := (h (j * 5 + i) (by rw [size_flatK]; omega)).1
  rw [get_flatK _ _ _ _ (by omega), Nat.zero_add, show (j * 5 + i) / 5 = j by omega, show (j * 5 + i) % 5 = i by omega] at h1
  rw [h1]
  have := PC_get D[j]! hi
  rw [hu] at this
  exact this.symm
theorem grownSortP {w : World} {g n : Nat} {os : Array Obj} (d : Array PJ) : w.grownBy (sortWorldK PJ.C 5 w g 0 n d os) (some g) := by
  unfold sortWorldK putRowK
  refine ⟨rfl, rfl, rfl, by simp, fun k hk hne => ?_⟩
  rw [heap_grow_old _ _ (by simpa using hk)]
  have : g ≠ k := fun e => hne (by rw [e])
  simp [putRow, mapBlock, Sort.ahead, Array.getElem?_modify, this]
/-- A slice of the call's own is sorted by the order of ranks: it holds the same streams, none behind one that is sooner; nothing else turns. -/
theorem rsort_any (g cap : Nat) (L : List PJ) (hL : L.length ≤ 1000000) (w : World) (hg : g < w.heap.size) (hc : ∀ j (hj : j < L.length) i u, (L[j].C)[i]? = some u → w.cell? ⟨g, j * 5 + i, none⟩ = some u) (hf : ∀ p, p < L.length * 5 → w.frozen? ⟨g, p, none⟩ = false) :
    Calls Try.prog 40 #[.slice (some ⟨g, 0, none⟩) L.length cap, .func (.func 41) #[] #[]] w fun y w' => y = .returned (.tuple #[]) ∧ ∃ D : List PJ, D.Perm L ∧ (∀ i j (hi : i < D.length) (hj : j < D.length), i < j → ¬ cfR D[j] D[i] < 0) ∧ (∀ j (hj : j < D.length) i u, (D[j].C)[i]? = some u → w'.cell? ⟨g, j * 5 + i, none⟩ = some u) ∧ w.grownBy w' (some g) := by
  have h := Try.slices_SortFunc (α := PJ) 5 Try.isAgg64 Try.sizeOf64 PJ.C PJ.C_len (fun x v hv => by simp [PJ.C] at hv; rcases hv with rfl | rfl | rfl | rfl | rfl <;> rfl) cfR swoR 41 #[] g 0 cap L.toArray w (enters_of Try.func41 (by kernel_rfl) rfl) (fun m os dk _ x y => byrel_any x y _) (holdsP hc hf) hg (by simp; omega)
  simp only [List.size_toArray] at h
  refine h.mono fun y w' ⟨h1, D, n, os, hp, hs, hw⟩ => ⟨h1, D.toList, ?_, ?_, ?_, ?_⟩
  · have := hp.2.2
    have e1 : D.size = L.length := by have := hp.1; simpa using this
    rw [show D.extract 0 L.length = D by rw [← e1]; simp, show L.toArray.extract 0 L.length = L.toArray by simp] at this
    simpa using this
  · intro i j hi hj hij
    have e1 : D.size = L.length := by have := hp.1; simpa using this
    have hi' : i < D.size := by simpa using hi
    have hj' : j < D.size := by simpa using hj
    have := hs i j (Nat.zero_le _) hij (by omega)
    rw [getElem!_pos D j hj', getElem!_pos D i hi'] at this
    simpa [ltOf] using this
  · intro j hj i u hu
    have e1 : D.size = L.length := by have := hp.1; simpa using this
    have hj' : j < D.size := by simpa using hj
    have hh := holdsK_sortWorldK_c PJ.C 5 w g 0 L.toArray D n os (holdsP hc hf) hg (by simpa using e1)
    rw [← hw] at hh
    refine ofHoldsP hh hj' ?_
    rw [getElem!_pos D j hj']
    simpa using hu
  · rw [hw]; exact grownSortP D
theorem blkSort {w : World} {g n : Nat} {T : TypeId} {l : List Value} {os : Array Obj} (D : Array PJ) (h : Blk w g T l) : ∃ l', Blk (sortWorldK PJ.C 5 w g 0 n D os) g T l' := by
  have h' := h
  unfold Blk at h' ⊢
  unfold sortWorldK putRowK
  rw [heap_grow_old _ _ (by simpa using h.lt)]
  simp [putRow, mapBlock, Sort.ahead, Array.getElem?_modify, h']
  exact ⟨(putCells id 0 (flatK PJ.C 5 D) l.toArray).toList, by simp [onCells]⟩
theorem rsort2_any (g cap : Nat) (L : List PJ) (l : List Value) (hL : L.length ≤ 1000000) (w : World) (hBl : Blk w g 64 l) (hc : ∀ j (hj : j < L.length) i u, (L[j].C)[i]? = some u → w.cell? ⟨g, j * 5 + i, none⟩ = some u) :
    Calls Try.prog 40 #[.slice (some ⟨g, 0, none⟩) L.length cap, .func (.func 41) #[] #[]] w fun y w' => y = .returned (.tuple #[]) ∧ ∃ D : List PJ, D.Perm L ∧ (∀ i j (hi : i < D.length) (hj : j < D.length), i < j → ¬ cfR D[j] D[i] < 0) ∧ (∀ j (hj : j < D.length) i u, (D[j].C)[i]? = some u → w'.cell? ⟨g, j * 5 + i, none⟩ = some u) ∧ w.grownBy w' (some g) ∧ ∃ l', Blk w' g 64 l' := by
  have hf : ∀ p, p < L.length * 5 → w.frozen? ⟨g, p, none⟩ = false := fun p _ => hBl.frozenAt p
  have hg := hBl.lt
  have h := Try.slices_SortFunc (α := PJ) 5 Try.isAgg64 Try.sizeOf64 PJ.C PJ.C_len (fun x v hv => by simp [PJ.C] at hv; rcases hv with rfl | rfl | rfl | rfl | rfl <;> rfl) cfR swoR 41 #[] g 0 cap L.toArray w (enters_of Try.func41 (by kernel_rfl) rfl) (fun m os dk _ x y => byrel_any x y _) (holdsP hc hf) hg (by simp; omega)
  simp only [List.size_toArray] at h
  refine h.mono fun y w' ⟨h1, D, n, os, hp, hs, hw⟩ => ⟨h1, D.toList, ?_, ?_, ?_, ?_, ?_⟩
  · have := hp.2.2
    have e1 : D.size = L.length := by have := hp.1; simpa using this
    rw [show D.extract 0 L.length = D by rw [← e1]; simp, show L.toArray.extract 0 L.length = L.toArray by simp] at this
    simpa using this
  · intro i j hi hj hij
    have e1 : D.size = L.length := by have := hp.1; simpa using this
    have hi' : i < D.size := by simpa using hi
    have hj' : j < D.size := by simpa using hj
    have := hs i j (Nat.zero_le _) hij (by omega)
    rw [getElem!_pos D j hj', getElem!_pos D i hi'] at this
    simpa [ltOf] using this
  · intro j hj i u hu
    have e1 : D.size = L.length := by have := hp.1; simpa using this
    have hj' : j < D.size := by simpa using hj
    have hh := holdsK_sortWorldK_c PJ.C 5 w g 0 L.toArray D n os (holdsP hc hf) hg (by simpa using e1)
    rw [← hw] at hh
    refine ofHoldsP hh hj' ?_
    rw [getElem!_pos D j hj']
    simpa using hu
  · rw [hw]; exact grownSortP D
  · rw [hw]; exact blkSort D hBl
end Go.Proofs.Ytbcccffjlkphpaa
