/- Jobs, and slices of jobs, that are handed to a statement, opened. No conditions. -/
import Derived.Test.YtbcccffjlkphpaaOpr
import Derived.Test.YtbcccffjlkphpaaEda
namespace Go.Proofs.Ytbcccffjlkphpaa
open Go.ChangeShapes Go.WideShapes Go.ChangeAt Go.RowKit
section
variable {H : Type} {enc : TypeId × Value → H} {W : World} {base : Nat} {sp : Nat → Bool} {held : Bool} {r : Reach} {b0 : Nat} {v : Value} {d : DataW H} {p : List MemPlace}
theorem jobR {fuel : Nat} {cs : List Value} {x : DataW H × List MemPlace} (hl : cs.length = 4) (h : DataW.trod enc Try.prog W base sp held fuel 42 cs = some x) : ∃ s : Jb, cs = s.C ∧ s.wf := by
  obtain ⟨c0, c1, c2, c3, hcs⟩ : ∃ c0 c1 c2 c3, cs = [c0, c1, c2, c3] := by
    match cs, hl with
    | [c0, c1, c2, c3], _ => exact ⟨c0, c1, c2, c3, rfl⟩
  subst hcs
  obtain ⟨y0, y1, y2, y3, m, _, _, h0, h1, h2, h3⟩ := Joins.trod_struct4 Try.underlying42 h
  have sI : Try.prog.cellsOf 3 = 1 := by kernel_rfl
  have sL : Try.prog.cellsOf 2 = 1 := by kernel_rfl
  simp [sI] at h0
  simp [sL] at h1
  simp [sL] at h2
  simp [sL] at h3
  obtain ⟨n0, hn0, _, hw0⟩ := DataW.trod_int Try.underlying3 h0
  obtain ⟨n1, hn1, _, hw1⟩ := DataW.trod_int Try.underlying2 h1
  obtain ⟨n2, hn2, _, hw2⟩ := DataW.trod_int Try.underlying2 h2
  obtain ⟨n3, hn3, _, hw3⟩ := DataW.trod_int Try.underlying2 h3
  obtain rfl : c0 = .int .i64 n0 := by simpa using hn0
  obtain rfl : c1 = .int .i64 n1 := by simpa using hn1
  obtain rfl : c2 = .int .i64 n2 := by simpa using hn2
  obtain rfl : c3 = .int .i64 n3 := by simpa using hn3
  exact ⟨⟨n0, n1, n2, n3⟩, rfl, wf64 hw0, wf64 hw1, wf64 hw2, wf64 hw3⟩
set_option maxRecDepth 100000 in
theorem open_job (hv : Value.okWide Try.prog W r b0 42 v) (h : DataW.Trod enc Try.prog W base sp held 42 v d p) : ∃ l : Jb, v = l.v ∧ l.wf := by
  obtain ⟨cs, rfl, hsz⟩ := okWide_struct Try.underlying42 hv
  obtain ⟨c0, c1, c2, c3, rfl⟩ := Joins.array4 (hsz.trans (by kernel_rfl))
  obtain ⟨fuel, hf⟩ := h
  obtain ⟨l, hx, hw⟩ := jobR (cs := [c0, c1, c2, c3]) rfl (by simpa [Value.cells] using hf)
  unfold Jb.C at hx
  simp only [List.cons.injEq, and_true] at hx
  obtain ⟨rfl, rfl, rfl, rfl⟩ := hx
  exact ⟨l, rfl, hw⟩
end
end Go.Proofs.Ytbcccffjlkphpaa
