/- Labels, slices of labels, and of what is done to a queue, that are handed to a statement, opened. No conditions. -/
import Derived.Test.YtmealljdecancaaDoorOpr
namespace Go.Proofs.YtmealljdecancaaDoor
open Go.ChangeShapes Go.WideShapes Go.ChangeAt Go.RowKit
/-- A label. -/
structure Lb where
  c : Int
  s : Int
  t : Int
  n : Int
deriving DecidableEq
def Lb.C (l : Lb) : List Value := [.int .i64 l.c, .int .i64 l.s, .int .i64 l.t, .int .i64 l.n]
def Lb.wf (_ : Lb) : Prop := True
def Lb.v (l : Lb) : Value := .agg #[.int .i64 l.c, .int .i64 l.s, .int .i64 l.t, .int .i64 l.n]
theorem Lb.C_len (l : Lb) : l.C.length = 4 := rfl
section
variable {H : Type} {enc : TypeId × Value → H} {W : World} {base : Nat} {sp : Nat → Bool} {held : Bool} {r : Reach} {b0 : Nat} {v : Value} {d : DataW H} {p : List MemPlace}
theorem labelG {fuel : Nat} {cs : List Value} {x : DataW H × List MemPlace} (hl : cs.length = 4) (h : DataW.trod enc Tryd.prog W base sp held fuel 24 cs = some x) : ∃ s : Lb, cs = s.C ∧ s.wf := by
  obtain ⟨c0, c1, c2, c3, hcs⟩ : ∃ c0 c1 c2 c3, cs = [c0, c1, c2, c3] := by
    match cs, hl with
    | [c0, c1, c2, c3], _ => exact ⟨c0, c1, c2, c3, rfl⟩
  subst hcs
  obtain ⟨y0, y1, y2, y3, m, _, _, h0, h1, h2, h3⟩ := Joins.trod_struct4 Tryd.underlying24 h
  have sC : Tryd.prog.cellsOf 22 = 1 := by kernel_rfl
  have sI : Tryd.prog.cellsOf 3 = 1 := by kernel_rfl
  simp [sC] at h0
  simp [sI] at h1
  simp [sI] at h2
  simp [sI] at h3
  obtain ⟨n0, hn0, _, _⟩ := DataW.trod_int Tryd.underlying22 h0
  obtain ⟨n1, hn1, _, _⟩ := DataW.trod_int Tryd.underlying3 h1
  obtain ⟨n2, hn2, _, _⟩ := DataW.trod_int Tryd.underlying3 h2
  obtain ⟨n3, hn3, _, _⟩ := DataW.trod_int Tryd.underlying3 h3
  obtain rfl : c0 = .int .i64 n0 := by simpa using hn0
  obtain rfl : c1 = .int .i64 n1 := by simpa using hn1
  obtain rfl : c2 = .int .i64 n2 := by simpa using hn2
  obtain rfl : c3 = .int .i64 n3 := by simpa using hn3
  exact ⟨⟨n0, n1, n2, n3⟩, rfl, trivial⟩
set_option maxRecDepth 100000 in
theorem open_label (hv : Value.okWide Tryd.prog W r b0 24 v) (h : DataW.Trod enc Tryd.prog W base sp held 24 v d p) : ∃ l : Lb, v = l.v := by
  obtain ⟨cs, rfl, hsz⟩ := okWide_struct Tryd.underlying24 hv
  obtain ⟨c0, c1, c2, c3, rfl⟩ := Joins.array4 (hsz.trans (by kernel_rfl))
  obtain ⟨fuel, hf⟩ := h
  obtain ⟨l, hx, _⟩ := labelG (cs := [c0, c1, c2, c3]) rfl (by simpa [Value.cells] using hf)
  unfold Lb.C at hx
  simp only [List.cons.injEq, and_true] at hx
  obtain ⟨rfl, rfl, rfl, rfl⟩ := hx
  exact ⟨l, rfl⟩
/-- What is done to a queue. -/
structure A24 where
  k : Int
  l : Lb
  g : Int
def A24.C (a : A24) : List Value := [.int .i64 a.k, .int .i64 a.l.c, .int .i64 a.l.s, .int .i64 a.l.t, .int .i64 a.l.n, .int .i64 a.g]
def A24.wf (_ : A24) : Prop := True
end
end Go.Proofs.YtmealljdecancaaDoor
