/- Structs that are handed to the statements of package ident, opened: an identifier, and one that is asked for or not. No conditions. -/
import Derived.Test.YtmealljdecancaaDoorBat
import Derived.WalkKit
import Derived.ProofKit
import Derived.OpenShut
import Derived.Lib.SmallJoins
namespace Go.Proofs.YtmealljdecancaaDoor
open Go.ChangeShapes Go.WideShapes Go.ChangeAt Go.RowKit
def asksV (e : Bool) (n : Nat) (r : Bool) : Value := .agg #[.bool e, .int .u32 (n : Int), .bool r]
theorem wfu32 {a : Int} (h : (Lit.int .u32 a).wf = true) : 0 ≤ a ∧ a ≤ 4294967295 := by
  simp [Lit.wf, IntKind.min, IntKind.max, IntKind.bits, IntKind.signed] at h
  omega
section
variable {H : Type} {enc : TypeId × Value → H} {W : World} {base : Nat} {sp : Nat → Bool} {held : Bool} {r : Reach} {b0 : Nat} {v : Value} {d : DataW H} {p : List MemPlace}
theorem ident_cells {fuel : Nat} {c0 c1 : Value} {x : DataW H × List MemPlace} (h : DataW.trod enc Tryd.prog W base sp held fuel 27 [c0, c1] = some x) : ∃ (e : Bool) (n : Nat), c0 = .bool e ∧ c1 = .int .u32 (n : Int) ∧ n < 4294967296 := by
  obtain ⟨y0, y1, m, _, _, h0, h1⟩ := trod_struct2 Tryd.underlying27 h
  have hb : Tryd.prog.cellsOf 4 = 1 := by kernel_rfl
  have hu : Tryd.prog.cellsOf 25 = 1 := by kernel_rfl
  simp [hb] at h0
  simp [hu] at h1
  obtain ⟨e, he, _⟩ := DataW.trod_bool Tryd.underlying4 h0
  obtain ⟨n, hn, _, hw⟩ := DataW.trod_int Tryd.underlying25 h1
  have hr := wfu32 hw
  obtain rfl : c0 = .bool e := by simpa using he
  obtain rfl : c1 = .int .u32 n := by simpa using hn
  exact ⟨e, n.toNat, rfl, by rw [show ((n.toNat : Nat) : Int) = n by omega], by omega⟩
set_option maxRecDepth 100000 in
theorem open_ident (hv : Value.okWide Tryd.prog W r b0 27 v) (h : DataW.Trod enc Tryd.prog W base sp held 27 v d p) : ∃ (e : Bool) (n : Nat), v = identV e n ∧ n < 4294967296 := by
  obtain ⟨cs, rfl, hsz⟩ := okWide_struct Tryd.underlying27 hv
  obtain ⟨c0, c1, rfl⟩ := Joins.array2 (hsz.trans (by kernel_rfl))
  obtain ⟨fuel, hf⟩ := h
  obtain ⟨e, n, rfl, rfl, hn⟩ := ident_cells (by simpa [Value.cells] using hf)
  exact ⟨e, n, rfl, hn⟩
end
end Go.Proofs.YtmealljdecancaaDoor
