/- A frame that is handed to a statement, opened. No conditions. -/
import Derived.Test.YtmlnobiakfapcaaFcb
import Derived.WalkKit
import Derived.ProofKit
import Derived.OpenShut
import Derived.Lib.SmallJoins
namespace Go.Proofs.Ytmlnobiakfapcaa
open Go.ChangeShapes Go.WideShapes Go.ChangeAt Go.RowKit
theorem wfu32' {a : Int} (h : (Lit.int .u32 a).wf = true) : 0 ≤ a ∧ a ≤ 4294967295 := by
  simp [Lit.wf, IntKind.min, IntKind.max, IntKind.bits, IntKind.signed] at h
  omega
theorem array12 {α : Type} {cs : Array α} (h : cs.size = 12) : ∃ c0 c1 c2 c3 c4 c5 c6 c7 c8 c9 c10 c11, cs = #[c0, c1, c2, c3, c4, c5, c6, c7, c8, c9, c10, c11] := by
  obtain ⟨l⟩ := cs
  match l, h with
  | [c0, c1, c2, c3, c4, c5, c6, c7, c8, c9, c10, c11], _ => exact ⟨c0, c1, c2, c3, c4, c5, c6, c7, c8, c9, c10, c11, rfl⟩
section
variable {H : Type} {enc : TypeId × Value → H} {W : World} {base : Nat} {sp : Nat → Bool} {held : Bool} {r : Reach} {b0 : Nat} {v : Value} {d : DataW H} {p : List MemPlace}
theorem byte_cell {fuel : Nat} {c : Value} {x : DataW H × List MemPlace} (h : DataW.trod enc Try.prog W base sp held fuel 5 [c] = some x) : ∃ n : Nat, c = .int .u8 (n : Int) ∧ n < 256 := by
  obtain ⟨n, hn, _, hw⟩ := DataW.trod_int Try.underlying5 h
  have hr := wfu8 hw
  obtain rfl : c = .int .u8 n := by simpa using hn
  exact ⟨n.toNat, by rw [show ((n.toNat : Nat) : Int) = n by omega], by omega⟩
theorem bytes_cells {fuel : Nat} {c4 c5 c6 c7 c8 c9 c10 c11 : Value} {x : DataW H × List MemPlace} (h : DataW.trod enc Try.prog W base sp held fuel 65 [c4, c5, c6, c7, c8, c9, c10, c11] = some x) : ∃ data : List Nat, data.length = 8 ∧ (∀ y ∈ data, y < 256) ∧ [c4, c5, c6, c7, c8, c9, c10, c11] = data.map (fun n : Nat => Value.int .u8 ((n : Nat) : Int)) := by
  obtain ⟨ys, m, _, _, _, hlen, hf⟩ := DataW.trod_array Try.underlying65 h
  have hu : Try.prog.cellsOf 5 = 1 := by kernel_rfl
  rw [hu] at hf
  match ys, hlen with
  | [y0, y1, y2, y3, y4, y5, y6, y7], _ =>
    obtain ⟨n0, rfl, h0⟩ := byte_cell (by simpa using hf 0 (by omega))
    obtain ⟨n1, rfl, h1⟩ := byte_cell (by simpa using hf 1 (by omega))
    obtain ⟨n2, rfl, h2⟩ := byte_cell (by simpa using hf 2 (by omega))
    obtain ⟨n3, rfl, h3⟩ := byte_cell (by simpa using hf 3 (by omega))
    obtain ⟨n4, rfl, h4⟩ := byte_cell (by simpa using hf 4 (by omega))
    obtain ⟨n5, rfl, h5⟩ := byte_cell (by simpa using hf 5 (by omega))
    obtain ⟨n6, rfl, h6⟩ := byte_cell (by simpa using hf 6 (by omega))
    obtain ⟨n7, rfl, h7⟩ := byte_cell (by simpa using hf 7 (by omega))
    refine ⟨[n0, n1, n2, n3, n4, n5, n6, n7], rfl, ?_, rfl⟩
    intro y hy
    simp at hy
    rcases hy with rfl | rfl | rfl | rfl | rfl | rfl | rfl | rfl <;> assumption
set_option maxRecDepth 100000 in
theorem open_frame (hv : Value.okWide Try.prog W r b0 67 v) (h : DataW.Trod enc Try.prog W base sp held 67 v d p) : ∃ (e : Bool) (n : Nat) (q : Bool) (l : Int) (x : List Nat), v = frameV e n q l x ∧ n < 4294967296 ∧ x.length = 8 ∧ ∀ y ∈ x, y < 256 := by
  obtain ⟨cs, rfl, hsz⟩ := okWide_struct Try.underlying67 hv
  obtain ⟨c0, c1, c2, c3, c4, c5, c6, c7, c8, c9, c10, c11, rfl⟩ := array12 (hsz.trans (by kernel_rfl))
  obtain ⟨fuel, hf⟩ := h
  obtain ⟨y0, y1, y2, y3, m, _, _, h0, h1, h2, h3⟩ := Joins.trod_struct4 Try.underlying67 (by simpa [Value.cells] using hf)
  have hi : Try.prog.cellsOf 64 = 2 := by kernel_rfl
  have hb : Try.prog.cellsOf 4 = 1 := by kernel_rfl
  have hn : Try.prog.cellsOf 3 = 1 := by kernel_rfl
  have ha : Try.prog.cellsOf 65 = 8 := by kernel_rfl
  have hu : Try.prog.cellsOf 62 = 1 := by kernel_rfl
  simp [hi] at h0
  simp [hb] at h1
  simp [hn] at h2
  simp [ha] at h3
  obtain ⟨z0, z1, m2, _, _, g0, g1⟩ := trod_struct2 Try.underlying64 h0
  simp [hb] at g0
  simp [hu] at g1
  obtain ⟨e, he, _⟩ := DataW.trod_bool Try.underlying4 g0
  obtain ⟨n, hnn, _, hw⟩ := DataW.trod_int Try.underlying62 g1
  obtain ⟨q, hq, _⟩ := DataW.trod_bool Try.underlying4 h1
  obtain ⟨l, hl, _, _⟩ := DataW.trod_int Try.underlying3 h2
  obtain ⟨x, hx8, hxb, hx⟩ := bytes_cells h3
  have hr := wfu32' hw
  obtain rfl : c0 = .bool e := by simpa using he
  obtain rfl : c1 = .int .u32 n := by simpa using hnn
  obtain rfl : c2 = .bool q := by simpa using hq
  obtain rfl : c3 = .int .i64 l := by simpa using hl
  refine ⟨e, n.toNat, q, l, x, ?_, by omega, hx8, hxb⟩
  unfold frameV frameC
  rw [← hx, show ((n.toNat : Nat) : Int) = n by omega]
end
end Go.Proofs.Ytmlnobiakfapcaa
