/- Words, and slices of words with counts, that are handed to a statement, opened. No conditions. -/
import Derived.Test.YtmlnobiakfapcaaOpk
namespace Go.Proofs.Ytmlnobiakfapcaa
open Go.ChangeShapes Go.WideShapes Go.ChangeAt Go.RowKit
/-- What is heard: a word, and a count. -/
structure HD where
  f : Bool
  r : Int
  n : Int
  t : Int
  c : Int
def HD.C (s : HD) : List Value := [.bool s.f, .int .i64 s.r, .int .i64 s.n, .int .i64 s.t, .int .i64 s.c]
def HD.wf (_ : HD) : Prop := True
section
variable {H : Type} {enc : TypeId × Value → H} {W : World} {base : Nat} {sp : Nat → Bool} {held : Bool} {r : Reach} {b0 : Nat} {v : Value} {d : DataW H} {p : List MemPlace}
theorem wordG {fuel : Nat} {cs : List Value} {x : DataW H × List MemPlace} (hl : cs.length = 4) (h : DataW.trod enc Try.prog W base sp held fuel 61 cs = some x) : ∃ (f : Bool) (r n t : Int), cs = [.bool f, .int .i64 r, .int .i64 n, .int .i64 t] := by
  obtain ⟨c0, c1, c2, c3, hcs⟩ : ∃ c0 c1 c2 c3, cs = [c0, c1, c2, c3] := by
    match cs, hl with
    | [c0, c1, c2, c3], _ => exact ⟨c0, c1, c2, c3, rfl⟩
  subst hcs
  obtain ⟨y0, y1, y2, y3, m, _, _, h0, h1, h2, h3⟩ := Joins.trod_struct4 Try.underlying61 h
  have sB : Try.prog.cellsOf 4 = 1 := by kernel_rfl
  have sINT : Try.prog.cellsOf 3 = 1 := by kernel_rfl
  have sI64 : Try.prog.cellsOf 2 = 1 := by kernel_rfl
  simp [sB] at h0
  simp [sINT] at h1
  simp [sINT] at h2
  simp [sI64] at h3
  obtain ⟨f, hf, _⟩ := DataW.trod_bool Try.underlying4 h0
  obtain ⟨n1, hn1, _, _⟩ := DataW.trod_int Try.underlying3 h1
  obtain ⟨n2, hn2, _, _⟩ := DataW.trod_int Try.underlying3 h2
  obtain ⟨n3, hn3, _, _⟩ := DataW.trod_int Try.underlying2 h3
  obtain rfl : c0 = .bool f := by simpa using hf
  obtain rfl : c1 = .int .i64 n1 := by simpa using hn1
  obtain rfl : c2 = .int .i64 n2 := by simpa using hn2
  obtain rfl : c3 = .int .i64 n3 := by simpa using hn3
  exact ⟨f, n1, n2, n3, rfl⟩
theorem heardG {fuel : Nat} {cs : List Value} {x : DataW H × List MemPlace} (hl : cs.length = 5) (h : DataW.trod enc Try.prog W base sp held fuel 88 cs = some x) : ∃ s : HD, cs = s.C ∧ s.wf := by
  obtain ⟨c0, c1, c2, c3, c4, hcs⟩ : ∃ c0 c1 c2 c3 c4, cs = [c0, c1, c2, c3, c4] := by
    match cs, hl with
    | [c0, c1, c2, c3, c4], _ => exact ⟨c0, c1, c2, c3, c4, rfl⟩
  subst hcs
  obtain ⟨y0, y1, m, _, _, h0, h1⟩ := trod_struct2 Try.underlying88 h
  have sW : Try.prog.cellsOf 61 = 4 := by kernel_rfl
  have sI64 : Try.prog.cellsOf 2 = 1 := by kernel_rfl
  simp [sW] at h0
  simp [sI64] at h1
  obtain ⟨f, r, n, t, hw⟩ := wordG rfl h0
  obtain ⟨c, hc, _, _⟩ := DataW.trod_int Try.underlying2 h1
  obtain rfl : c4 = .int .i64 c := by simpa using hc
  simp only [List.cons.injEq, and_true] at hw
  obtain ⟨rfl, rfl, rfl, rfl⟩ := hw
  exact ⟨⟨f, r, n, t, c⟩, rfl, trivial⟩
set_option maxRecDepth 100000 in
theorem open_word (hv : Value.okWide Try.prog W r b0 61 v) (h : DataW.Trod enc Try.prog W base sp held 61 v d p) : ∃ (f : Bool) (r n t : Int), v = .agg #[.bool f, .int .i64 r, .int .i64 n, .int .i64 t] ∧ True := by
  obtain ⟨cs, rfl, hsz⟩ := okWide_struct Try.underlying61 hv
  obtain ⟨c0, c1, c2, c3, rfl⟩ := Joins.array4 (hsz.trans (by kernel_rfl))
  obtain ⟨fuel, hf⟩ := h
  obtain ⟨f, r, n, t, hx⟩ := wordG (cs := [c0, c1, c2, c3]) rfl (by simpa [Value.cells] using hf)
  simp only [List.cons.injEq, and_true] at hx
  obtain ⟨rfl, rfl, rfl, rfl⟩ := hx
  exact ⟨f, r, n, t, rfl, trivial⟩
end
end Go.Proofs.Ytmlnobiakfapcaa
