/- Slices of structs of whole numbers (acts, samples), and such structs, that are handed to a statement, opened. No conditions. -/
import Derived.Test.YtbcccffjlkphpaaBas
import Derived.Test.YtbcccffjlkphpaaGna
import Derived.WalkKit
import Derived.ProofKit
import Derived.OpenShut
import Derived.Lib.SmallJoins
import Derived.Deep.Strs
import Derived.Deep.Slices
namespace Go.Proofs.Ytbcccffjlkphpaa
open Go.ChangeShapes Go.WideShapes Go.ChangeAt Go.RowKit
theorem flat_len {α : Type} (k : Nat) (c : α → List Value) (hc : ∀ x, (c x).length = k) (L : List α) : (L.flatMap c).length = L.length * k := by
  induction L with
  | nil => simp
  | cons x L ih => rw [List.flatMap_cons, List.length_append, hc, ih, List.length_cons, Nat.succ_mul, Nat.add_comm]
theorem flat_at {α : Type} (k : Nat) (c : α → List Value) (hc : ∀ x, (c x).length = k) (L : List α) (j i : Nat) (hj : j < L.length) (hi : i < k) : (L.flatMap c)[j * k + i]? = (c (L[j]'hj))[i]? := by
  induction L generalizing j with
  | nil => simp at hj
  | cons x L ih =>
    rw [List.flatMap_cons]
    match j, hj with
    | 0, _ =>
      rw [Nat.zero_mul, Nat.zero_add, List.getElem?_append_left (by rw [hc]; exact hi)]
      rfl
    | j + 1, hj =>
      rw [List.getElem?_append_right (by rw [hc, Nat.succ_mul]; omega), hc, show (j + 1) * k + i - k = j * k + i by rw [Nat.succ_mul]; omega]
      exact ih j (by simpa using hj)
/-- An element of a row of structs. -/
theorem rd_at {S : Type} (C : S → List Value) (k : Nat) (hCl : ∀ s, (C s).length = k) {W : World} {a : Option Addr} {n cap : Nat} {L : List S} (h : Rd W k (.slice a n cap) (L.flatMap C)) {j : Nat} (hj : j < L.length) (hk : 0 < k) : ∃ g off, a = some ⟨g, off, none⟩ ∧ g < W.heap.size ∧ ∀ i u, (C L[j])[i]? = some u → W.cell? ⟨g, off + j * k + i, none⟩ = some u := by
  obtain ⟨n', cap', a', e, h1, h2, h3, h4⟩ := h
  obtain ⟨e1, e2, e3⟩ := Value.slice.inj e
  rw [flat_len k C hCl] at h1
  have h1 : L.length = n' := Nat.eq_of_mul_eq_mul_right hk h1
  rw [← e2] at h1 h4
  rw [← e1] at h4
  rcases h4 with h5 | ⟨g, off, rfl, hg, hc⟩
  · omega
  · refine ⟨g, off, rfl, hg, fun i u hi => ?_⟩
    have hl : i < k := by have := (List.getElem?_eq_some_iff.1 hi).1; rw [hCl] at this; exact this
    rw [Nat.add_assoc]
    exact hc (j * k + i) u ((flat_at k C hCl L j i hj hl).trans hi)
/-- What is done to a field. -/
structure A21 where
  k : Int
  a : Int
  b : Int
def A21.C (s : A21) : List Value := [.int .i64 s.k, .int .i64 s.a, .int .i64 s.b]
def A21.wf (s : A21) : Prop := (-9223372036854775808 ≤ s.a ∧ s.a ≤ 9223372036854775807) ∧ (-9223372036854775808 ≤ s.b ∧ s.b ≤ 9223372036854775807)
section
variable {H : Type} {enc : TypeId × Value → H} {W : World} {base : Nat} {sp : Nat → Bool} {held : Bool} {r : Reach} {b0 : Nat} {v : Value} {d : DataW H} {p : List MemPlace}
/-- A slice of structs of k cells. -/
theorem open_rows {S : Type} (C : S → List Value) (wf : S → Prop) (k : Nat) (hk : 0 < k) {T E : TypeId} (hu : Try.prog.underlying T = some (.slice E)) (hc : Try.prog.cellsOf E = k) (hCl : ∀ s, (C s).length = k)
    (hcell : ∀ fuel cs x, cs.length = k → DataW.trod enc Try.prog W base sp held fuel E cs = some x → ∃ s, cs = C s ∧ wf s) {fuel : Nat} {a : Option Addr} {len cap : Nat} {x : DataW H × List MemPlace} (h : DataW.trod enc Try.prog W base sp held fuel T [.slice a len cap] = some x) :
    ∃ L : List S, L.length = len ∧ (∀ s ∈ L, wf s) ∧ Rd W k (.slice a len cap) (L.flatMap C) := by
  rcases Deep.open_slice hu h with ⟨hcs, _⟩ | ⟨ad, len', cap', m, n, D, Pl, hcs, hb, hl, hm, hmm, _, hall⟩
  · injection hcs with hcs _
    injection hcs with h1 h2 h3
    subst h1 h2 h3
    exact ⟨[], rfl, fun s h => (by cases h), 0, 0, _, rfl, by simp, Nat.le_refl _, Nat.zero_le _, .inl rfl⟩
  · injection hcs with hcs _
    injection hcs with h1 h2 h3
    subst h1 h2 h3
    by_cases h0 : len = 0
    · subst h0
      exact ⟨[], rfl, fun s h => (by cases h), 0, cap, _, rfl, by simp, hl, hm, .inl rfl⟩
    have hlm : len ≤ m := by rw [hmm]; split <;> omega
    rw [hc] at hall
    obtain ⟨b, off, spot⟩ := ad
    have cell0 : ∀ j : Fin len, ∃ s : S, wf s ∧ ∀ i, i < k → W.cell? (((⟨b, off, spot⟩ : Addr).add (j.val * k)).add i) = (C s)[i]? := by
      intro j
      obtain ⟨cs', h1, h2⟩ := hall j.val (by have := j.isLt; omega)
      obtain ⟨_, hlen, hcell'⟩ := World.cells?_some h1
      obtain ⟨s, rfl, hw⟩ := hcell _ _ _ hlen h2
      exact ⟨s, hw, hcell'⟩
    have hspot : spot = none := by
      obtain ⟨s, _, hs⟩ := cell0 ⟨0, by omega⟩
      have h1 := hs 0 hk
      rw [List.getElem?_eq_getElem (by rw [hCl]; exact hk)] at h1
      have := World.cell?_spot h1
      simpa [Addr.add] using this
    subst hspot
    have hadd : ∀ j i, (((⟨b, off, none⟩ : Addr).add (j * k)).add i) = ⟨b, off + j * k + i, none⟩ := fun j i => by rw [Addr.add_lit, Addr.add_lit]
    have hch : ∃ f : Fin len → S, ∀ j, wf (f j) ∧ ∀ i, i < k → W.cell? (((⟨b, off, none⟩ : Addr).add (j.val * k)).add i) = (C (f j))[i]? :=
      ⟨fun j => Classical.choose (cell0 j), fun j => Classical.choose_spec (cell0 j)⟩
    obtain ⟨f, hf⟩ := hch
    refine ⟨List.ofFn f, by simp, fun s hs => ?_, len, cap, _, rfl, ?_, hl, hm, .inr ⟨b, off, rfl, ?_, fun j u hj => ?_⟩⟩
    · obtain ⟨j, rfl⟩ := List.mem_ofFn.1 hs
      exact (hf j).1
    · rw [flat_len k C hCl]; simp
    · have h1 := (hf ⟨0, by omega⟩).2 0 hk
      rw [hadd, List.getElem?_eq_getElem (by rw [hCl]; exact hk)] at h1
      exact cell_ltG h1
    · have hlt := (List.getElem?_eq_some_iff.1 hj).1
      rw [flat_len k C hCl, List.length_ofFn] at hlt
      have hdiv : j / k < len := (Nat.div_lt_iff_lt_mul hk).2 hlt
      have hmod : j % k < k := Nat.mod_lt _ hk
      have e : j / k * k + j % k = j := by rw [Nat.mul_comm]; exact Nat.div_add_mod j k
      have h2 := flat_at k C hCl (List.ofFn f) (j / k) (j % k) (by simpa using hdiv) hmod
      rw [e, hj] at h2
      have h3 := (hf ⟨j / k, hdiv⟩).2 (j % k) hmod
      rw [hadd, Nat.add_assoc, e] at h3
      rw [h3, h2]
      simp
end
end Go.Proofs.Ytbcccffjlkphpaa
