/- The code of package wire (opened): what it returns. Conditions: not more than a thousand bits. -/
import Derived.Test.YtmfnkfiocnngeaaDoorWrb
import Derived.Laws.AppendOwn
import Derived.Scope
namespace Go.Proofs.YtmfnkfiocnngeaaDoor
open Go.RowKit Go.Shelf
/-- What opened has laid: its body's box, and its run's. -/
structure OpS (w W : World) (r : Nat × Nat) (raw : List Nat) (v : Value) : Prop where
  cell : W.cell? ⟨w.heap.size, 0, none⟩ = some v
  froz : W.frozen? ⟨w.heap.size, 0, none⟩ = false
  own : Ow (w.heap.size + 2) W v raw
  two : Two W (w.heap.size + 1) (.int .u8 (r.1 : Nat)) (.int .i64 (r.2 : Nat))
  bit : r.1 ≤ 1
  size : w.heap.size + 2 ≤ W.heap.size
  below : Below w.heap.size w W
theorem OpS.on {w W X : World} {r : Nat × Nat} {raw : List Nat} {v : Value} (h : OpS w W r raw v) (hb : Below W.heap.size W X) : OpS w X r raw v :=
  ⟨((bcell2 hb).1 _ _ (by have := h.size; omega)).trans h.cell, ((bcell2 hb).2 _ _ (by have := h.size; omega)).trans h.froz, h.own.on hb, h.two.keep hb (by have := h.size; omega), h.bit, by have := h.size; have := hb.size; omega, h.below.trans (hb.mono h.below.size)⟩
theorem two_new8 {base X : World} (u : World) (h : Below base.heap.size base u) (hb : Below (u.alloc (.cells #[.int .u8 0, .int .i64 0] 134)).heap.size (u.alloc (.cells #[.int .u8 0, .int .i64 0] 134)) X) : base.heap.size ≤ u.heap.size ∧ u.heap.size < X.heap.size ∧ Two X u.heap.size (.int .u8 0) (.int .i64 0) :=
  ⟨h.size, by have := hb.size; simp at this; omega, (Two.new u _ _ _ rfl).keep hb (by simp)⟩
theorem two_new8d {base X : World} (u : World) (h : Below base.heap.size base u) (hb : Below (u.alloc (.cells #[.int .u8 0, .int .i64 0] 134)).drew.heap.size (u.alloc (.cells #[.int .u8 0, .int .i64 0] 134)).drew X) : base.heap.size ≤ u.heap.size ∧ u.heap.size < X.heap.size ∧ Two X u.heap.size (.int .u8 0) (.int .i64 0) :=
  two_new8 u h ((Below.refl _ _).drew.trans hb)
end Go.Proofs.YtmfnkfiocnngeaaDoor
