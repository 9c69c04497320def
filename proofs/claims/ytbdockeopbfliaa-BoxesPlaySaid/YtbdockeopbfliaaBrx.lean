/- Acts of boxes as they are handed in. Conditions: none. -/
import Derived.Test.YtbdockeopbfliaaBrh
import Derived.Test.YtbdockeopbfliaaOpg
namespace Go.Proofs.Ytbdockeopbfliaa
open Go.RowKit
set_option linter.unusedSimpArgs false
set_option linter.unusedVariables false
/-- What is done. -/
structure A13 where
  k : Int
  i : Int
  p : PD
def A13.C (a : A13) : List Value := .int .i64 a.k :: .int .i64 a.i :: a.p.C
def A13.wf (a : A13) : Prop := a.p.n < 4294967296
section
open Go.ChangeShapes Go.WideShapes Go.ChangeAt
variable {H : Type} {enc : TypeId × Value → H} {W : World} {base : Nat} {sp : Nat → Bool} {held : Bool}
theorem postG {fuel : Nat} {cs : List Value} {x : DataW H × List MemPlace} (hl : cs.length = 14) (h : DataW.trod enc Try.prog W base sp held fuel 39 cs = some x) : ∃ p : PD, cs = p.C ∧ p.n < 4294967296 := by
  obtain ⟨c0, c1, c2, c3, c4, c5, c6, c7, c8, c9, c10, c11, c12, c13, hcs⟩ : ∃ c0 c1 c2 c3 c4 c5 c6 c7 c8 c9 c10 c11 c12 c13, cs = [c0, c1, c2, c3, c4, c5, c6, c7, c8, c9, c10, c11, c12, c13] := by
    match cs, hl with
    | [c0, c1, c2, c3, c4, c5, c6, c7, c8, c9, c10, c11, c12, c13], _ => exact ⟨c0, c1, c2, c3, c4, c5, c6, c7, c8, c9, c10, c11, c12, c13, rfl⟩
  subst hcs
  obtain ⟨y0, y1, y2, m, _, _, h0, h1, h2⟩ := Deep.trod_struct3 Try.underlying39 h
  have sFR : Try.prog.cellsOf 37 = 12 := by kernel_rfl
  have sB : Try.prog.cellsOf 4 = 1 := by kernel_rfl
  have sI : Try.prog.cellsOf 3 = 1 := by kernel_rfl
  simp [sFR] at h0
  simp [sB] at h1
  simp [sI] at h2
  obtain ⟨e, n, q, l, x0, x1, x2, x3, x4, x5, x6, x7, hf, hn, g0, g1, g2, g3, g4, g5, g6, g7⟩ := frameG rfl h0
  obtain ⟨o, ho, _⟩ := DataW.trod_bool Try.underlying4 h1
  obtain ⟨t, hf2, _, _⟩ := DataW.trod_int Try.underlying3 h2
  obtain rfl : c12 = .bool o := by simpa using ho
  obtain rfl : c13 = .int .i64 t := by simpa using hf2
  simp only [List.cons.injEq, and_true] at hf
  obtain ⟨rfl, rfl, rfl, rfl, rfl, rfl, rfl, rfl, rfl, rfl, rfl, rfl⟩ := hf
  refine ⟨⟨e, n.toNat, q, l, x0.toNat, x1.toNat, x2.toNat, x3.toNat, x4.toNat, x5.toNat, x6.toNat, x7.toNat, o, t⟩, ?_, by show n.toNat < 4294967296; omega⟩
  unfold PD.C
  simp only
  rw [Int.toNat_of_nonneg (by omega), Int.toNat_of_nonneg (by omega), Int.toNat_of_nonneg (by omega), Int.toNat_of_nonneg (by omega), Int.toNat_of_nonneg (by omega), Int.toNat_of_nonneg (by omega), Int.toNat_of_nonneg (by omega), Int.toNat_of_nonneg (by omega), Int.toNat_of_nonneg (by omega)]
theorem act13G {fuel : Nat} {cs : List Value} {x : DataW H × List MemPlace} (hl : cs.length = 16) (h : DataW.trod enc Try.prog W base sp held fuel 46 cs = some x) : ∃ a : A13, cs = a.C ∧ a.wf := by
  obtain ⟨c0, c1, c2, c3, c4, c5, c6, c7, c8, c9, c10, c11, c12, c13, c14, c15, hcs⟩ : ∃ c0 c1 c2 c3 c4 c5 c6 c7 c8 c9 c10 c11 c12 c13 c14 c15, cs = [c0, c1, c2, c3, c4, c5, c6, c7, c8, c9, c10, c11, c12, c13, c14, c15] := by
    match cs, hl with
    | [c0, c1, c2, c3, c4, c5, c6, c7, c8, c9, c10, c11, c12, c13, c14, c15], _ => exact ⟨c0, c1, c2, c3, c4, c5, c6, c7, c8, c9, c10, c11, c12, c13, c14, c15, rfl⟩
  subst hcs
  obtain ⟨y0, y1, y2, m, _, _, h0, h1, h2⟩ := Deep.trod_struct3 Try.underlying46 h
  have sI : Try.prog.cellsOf 3 = 1 := by kernel_rfl
  have sP : Try.prog.cellsOf 39 = 14 := by kernel_rfl
  simp [sI] at h0
  simp [sI] at h1
  simp [sI, sP] at h2
  obtain ⟨k, hk, _, _⟩ := DataW.trod_int Try.underlying3 h0
  obtain ⟨i, hi, _, _⟩ := DataW.trod_int Try.underlying3 h1
  obtain rfl : c0 = .int .i64 k := by simpa using hk
  obtain rfl : c1 = .int .i64 i := by simpa using hi
  obtain ⟨p, hp, hw⟩ := postG rfl h2
  exact ⟨⟨k, i, p⟩, by unfold A13.C; rw [hp], hw⟩
end
theorem rd_act13 {W : World} {a : Option Addr} {n cap : Nat} {L : List A13} (h : Rd W 16 (.slice a n cap) (L.flatMap A13.C)) {j : Nat} (hj : j < L.length) : ∃ g off, a = some ⟨g, off, none⟩ ∧ g < W.heap.size ∧ ∀ i u, L[j].C[i]? = some u → W.cell? ⟨g, off + j * 16 + i, none⟩ = some u := by
  obtain ⟨n', cap', a', e, h1, h2, h3, h4⟩ := h
  obtain ⟨e1, e2, e3⟩ := Value.slice.inj e
  rw [flat_len 16 A13.C (fun _ => rfl)] at h1
  rw [← e2] at h1 h4
  rw [← e1] at h4
  rcases h4 with h5 | ⟨g, off, rfl, hg, hc⟩
  · omega
  · refine ⟨g, off, rfl, hg, fun i u hi => ?_⟩
    have hl : i < 16 := (List.getElem?_eq_some_iff.1 hi).1
    rw [Nat.add_assoc]
    exact hc (j * 16 + i) u ((flat_at 16 A13.C (fun _ => rfl) L j i hj hl).trans hi)
end Go.Proofs.Ytbdockeopbfliaa
