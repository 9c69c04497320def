/- Arrays of three numbers, and of two jobs, that are handed to a statement, opened. No conditions. -/
import Derived.Test.YtcfkbadpoefajaaDoorSmd
import Derived.Laws.IdiomArrays
namespace Go.Proofs.YtcfkbadpoefajaaDoor
open Go.ChangeShapes Go.WideShapes Go.ChangeAt Go.RowKit
theorem open_arr3i {H : Type} {enc : TypeId × Value → H} {P : Program} {W : World} {base : Nat} {sp : Nat → Bool} {held : Bool} {r : Reach} {b0 : Nat} {v : Value} {d : DataW H} {p : List MemPlace} {t e : TypeId}
    (ht : P.underlying t = some (.array 3 e)) (he : P.underlying e = some (.int .i64)) (hce : P.cellsOf e = 1) (hct : P.cellsOf t = 3) (hv : Value.okWide P W r b0 t v) (h : DataW.Trod enc P W base sp held t v d p) :
    ∃ a b c : Int, v = .agg #[.int .i64 a, .int .i64 b, .int .i64 c] ∧ (Lit.int .i64 a).wf = true ∧ (Lit.int .i64 b).wf = true ∧ (Lit.int .i64 c).wf = true := by
  simp only [Value.okWide, ht] at hv
  obtain ⟨cs, rfl, hsz, _⟩ := hv
  rw [hct] at hsz
  obtain ⟨c0, c1, c2, rfl⟩ : ∃ c0 c1 c2, cs = #[c0, c1, c2] := by
    obtain ⟨l⟩ := cs
    match l, hsz with
    | [c0, c1, c2], _ => exact ⟨c0, c1, c2, rfl⟩
  obtain ⟨fuel, hf⟩ := h
  obtain ⟨y0, y1, y2, m, _, h0, h1, h2⟩ := trod_array3 ht hce (by simpa [Value.cells] using hf)
  obtain ⟨n0, e0, _, w0⟩ := DataW.trod_int he h0
  obtain ⟨n1, e1, _, w1⟩ := DataW.trod_int he h1
  obtain ⟨n2, e2, _, w2⟩ := DataW.trod_int he h2
  obtain rfl : c0 = .int .i64 n0 := by simpa using e0
  obtain rfl : c1 = .int .i64 n1 := by simpa using e1
  obtain rfl : c2 = .int .i64 n2 := by simpa using e2
  exact ⟨n0, n1, n2, rfl, w0, w1, w2⟩
theorem trod_arr2x4 {H : Type} {enc : TypeId × Value → H} {P : Program} {w : World} {base : Nat} {spare : Nat → Bool} {held : Bool} {t e : TypeId} {fuel : Nat} {c0 c1 c2 c3 c4 c5 c6 c7 : Value} {x : DataW H × List MemPlace} (ht : P.underlying t = some (.array 2 e)) (hce : P.cellsOf e = 4)
    (h : DataW.trod enc P w base spare held fuel t [c0, c1, c2, c3, c4, c5, c6, c7] = some x) :
    ∃ y0 y1 n, DataW.trod enc P w base spare held n e [c0, c1, c2, c3] = some y0 ∧ DataW.trod enc P w base spare held n e [c4, c5, c6, c7] = some y1 := by
  cases fuel with
  | zero => simp [DataW.trod] at h
  | succ n =>
    unfold DataW.trod at h
    rw [ht] at h
    have r2 : List.range 2 = [0, 1] := rfl
    simp [r2, hce] at h
    obtain ⟨_, h⟩ := h
    cases h0 : DataW.trod enc P w base spare held n e [c0, c1, c2, c3] with
    | none => simp [h0] at h
    | some y0 =>
      cases h1 : DataW.trod enc P w base spare held n e [c4, c5, c6, c7] with
      | none => simp [h0, h1] at h
      | some y1 => exact ⟨y0, y1, n, h0, h1⟩
section
variable {H : Type} {enc : TypeId × Value → H} {W : World} {base : Nat} {sp : Nat → Bool} {held : Bool} {r : Reach} {b0 : Nat} {v : Value} {d : DataW H} {p : List MemPlace}
theorem jobG {fuel : Nat} {c0 c1 c2 c3 : Value} {x : DataW H × List MemPlace} (h : DataW.trod enc Tryd.prog W base sp held fuel 39 [c0, c1, c2, c3] = some x) : ∃ n0 n1 n2 n3 : Int, c0 = .int .i64 n0 ∧ c1 = .int .i64 n1 ∧ c2 = .int .i64 n2 ∧ c3 = .int .i64 n3 := by
  obtain ⟨y0, y1, y2, y3, m, _, _, h0, h1, h2, h3⟩ := Joins.trod_struct4 Tryd.underlying39 h
  have sI : Tryd.prog.cellsOf 3 = 1 := by kernel_rfl
  have sL : Tryd.prog.cellsOf 2 = 1 := by kernel_rfl
  simp [sI] at h0
  simp [sL] at h1
  simp [sL] at h2
  simp [sL] at h3
  obtain ⟨n0, hn0, _, _⟩ := DataW.trod_int Tryd.underlying3 h0
  obtain ⟨n1, hn1, _, _⟩ := DataW.trod_int Tryd.underlying2 h1
  obtain ⟨n2, hn2, _, _⟩ := DataW.trod_int Tryd.underlying2 h2
  obtain ⟨n3, hn3, _, _⟩ := DataW.trod_int Tryd.underlying2 h3
  exact ⟨n0, n1, n2, n3, by simpa using hn0, by simpa using hn1, by simpa using hn2, by simpa using hn3⟩
set_option maxRecDepth 100000 in
theorem open_jobs2 (hv : Value.okWide Tryd.prog W r b0 40 v) (h : DataW.Trod enc Tryd.prog W base sp held 40 v d p) : ∃ ja ra ea ka jb rb eb kb : Int, v = .agg #[.int .i64 ja, .int .i64 ra, .int .i64 ea, .int .i64 ka, .int .i64 jb, .int .i64 rb, .int .i64 eb, .int .i64 kb] := by
  simp only [Value.okWide, Tryd.underlying40] at hv
  obtain ⟨cs, rfl, hsz, _⟩ := hv
  have hs : cs.size = 8 := hsz.trans (by kernel_rfl)
  obtain ⟨c0, c1, c2, c3, c4, c5, c6, c7, rfl⟩ : ∃ c0 c1 c2 c3 c4 c5 c6 c7, cs = #[c0, c1, c2, c3, c4, c5, c6, c7] := by
    obtain ⟨l⟩ := cs
    match l, hs with
    | [c0, c1, c2, c3, c4, c5, c6, c7], _ => exact ⟨c0, c1, c2, c3, c4, c5, c6, c7, rfl⟩
  obtain ⟨fuel, hf⟩ := h
  obtain ⟨y0, y1, m, h0, h1⟩ := trod_arr2x4 Tryd.underlying40 (by kernel_rfl) (by simpa [Value.cells] using hf)
  obtain ⟨n0, n1, n2, n3, rfl, rfl, rfl, rfl⟩ := jobG h0
  obtain ⟨m0, m1, m2, m3, rfl, rfl, rfl, rfl⟩ := jobG h1
  exact ⟨n0, n1, n2, n3, m0, m1, m2, m3, rfl⟩
end
end Go.Proofs.YtcfkbadpoefajaaDoor
