/- Structs that are handed to the statements of package ident, opened: an identifier, and one that is asked for or not. No conditions. -/
import Derived.Test.YtodeaddmachcjaaIda
import Derived.WalkKit
import Derived.ProofKit
import Derived.OpenShut
import Derived.Lib.SmallJoins
namespace Go.Proofs.Ytodeaddmachcjaa
open Go.ChangeShapes Go.WideShapes Go.ChangeAt Go.RowKit
def asksV (e : Bool) (n : Nat) (r : Bool) : Value := .agg #[.bool e, .int .u32 (n : Int), .bool r]
theorem wfu32 {a : Int} (h : (Lit.int .u32 a).wf = true) : 0 ≤ a ∧ a ≤ 4294967295 := by
  simp [Lit.wf, IntKind.min, IntKind.max, IntKind.bits, IntKind.signed] at h
  omega
section
variable {H : Type} {enc : TypeId × Value → H} {W : World} {base : Nat} {sp : Nat → Bool} {held : Bool} {r : Reach} {b0 : Nat} {v : Value} {d : DataW H} {p : List MemPlace}
theorem ident_cells {fuel : Nat} {c0 c1 : Value} {x : DataW H × List MemPlace} (h : DataW.trod enc Try.prog W base sp held fuel 24 [c0, c1] = some x) : ∃ (e : Bool) (n : Nat), c0 = .bool e ∧ c1 = .int .u32 (n : Int) ∧ n < 4294967296 := by
  obtain ⟨y0, y1, m, _, _, h0, h1⟩ := trod_struct2 Try.underlying24 h
  have hb : Try.prog.cellsOf 4 = 1 := by kernel_rfl
  have hu : Try.prog.cellsOf 22 = 1 := by kernel_rfl
  simp [hb] at h0
  simp [hu] at h1
  obtain ⟨e, he, _⟩ := DataW.trod_bool Try.underlying4 h0
  obtain ⟨n, hn, _, hw⟩ := DataW.trod_int Try.underlying22 h1
  have hr := wfu32 hw
  obtain rfl : c0 = .bool e := by simpa using he
  obtain rfl : c1 = .int .u32 n := by simpa using hn
  exact ⟨e, n.toNat, rfl, by rw [show ((n.toNat : Nat) : Int) = n by omega], by omega⟩
theorem open_ident (hv : Value.okWide Try.prog W r b0 24 v) (h : DataW.Trod enc Try.prog W base sp held 24 v d p) : ∃ (e : Bool) (n : Nat), v = identV e n ∧ n < 4294967296 := by
  obtain ⟨cs, rfl, hsz⟩ := okWide_struct Try.underlying24 hv
  obtain ⟨c0, c1, rfl⟩ := Joins.array2 (hsz.trans (by kernel_rfl))
  obtain ⟨fuel, hf⟩ := h
  obtain ⟨e, n, rfl, rfl, hn⟩ := ident_cells (by simpa [Value.cells] using hf)
  exact ⟨e, n, rfl, hn⟩
theorem open_asks (hv : Value.okWide Try.prog W r b0 38 v) (h : DataW.Trod enc Try.prog W base sp held 38 v d p) : ∃ (e : Bool) (n : Nat) (q : Bool), v = asksV e n q ∧ n < 4294967296 := by
  obtain ⟨cs, rfl, hsz⟩ := okWide_struct Try.underlying38 hv
  obtain ⟨c0, c1, c2, rfl⟩ := Joins.array3 (hsz.trans (by kernel_rfl))
  obtain ⟨fuel, hf⟩ := h
  obtain ⟨y0, y1, m, _, _, h0, h1⟩ := trod_struct2 Try.underlying38 (by simpa [Value.cells] using hf)
  have hi : Try.prog.cellsOf 24 = 2 := by kernel_rfl
  have hb : Try.prog.cellsOf 4 = 1 := by kernel_rfl
  simp [hi] at h0
  simp [hb] at h1
  obtain ⟨e, n, rfl, rfl, hn⟩ := ident_cells h0
  obtain ⟨q, hq, _⟩ := DataW.trod_bool Try.underlying4 h1
  obtain rfl : c2 = .bool q := by simpa using hq
  exact ⟨e, n, q, rfl, hn⟩
end
end Go.Proofs.Ytodeaddmachcjaa
