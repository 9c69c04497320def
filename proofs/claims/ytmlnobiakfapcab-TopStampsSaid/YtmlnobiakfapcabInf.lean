/- Package inbox: calls on a nil one; what must be whatever is asked (live of layer 14). No conditions. -/
import Derived.Test.YtmlnobiakfapcabIne
namespace Go.Proofs.Ytmlnobiakfapcab
open Go.RowKit
set_option maxRecDepth 100000 in
set_option maxHeartbeats 1000000 in
theorem pop_nil (w : World) : Calls Try.prog 54 #[.pointer none] w fun y w' => y = .returned (.tuple #[SD.zero.V, .bool false]) ∧ Below w.heap.size w w' := by
  obtain ⟨W0, hW0⟩ : ∃ W0, W0 = w.alloc (.cells #[.bool false, .int .u32 0, .bool false, .int .i64 0, .int .u8 0, .int .u8 0, .int .u8 0, .int .u8 0, .int .u8 0, .int .u8 0, .int .u8 0, .int .u8 0, .int .i64 0, .int .i64 0] 48) := ⟨_, rfl⟩
  have hb0 : Below w.heap.size w W0 := by rw [hW0]; exact (Below.refl _ w).alloc (Nat.le_refl _) _
  have hS := (show Blk W0 w.heap.size 48 [.bool false, .int .u32 0, .bool false, .int .i64 0, .int .u8 0, .int .u8 0, .int .u8 0, .int .u8 0, .int .u8 0, .int .u8 0, .int .u8 0, .int .u8 0, .int .i64 0, .int .i64 0] by rw [hW0]; exact Blk.new w _ [.bool false, .int .u32 0, .bool false, .int .i64 0, .int .u8 0, .int .u8 0, .int .u8 0, .int .u8 0, .int .u8 0, .int .u8 0, .int .u8 0, .int .u8 0, .int .i64 0, .int .i64 0])
  have HB0 := Lib.hid hb0
  have HL := Lib.hid (ilen_nil W0)
  obtain ⟨D, hD⟩ : ∃ D, D = w.heap.size := ⟨_, rfl⟩
  have HD := Lib.hid hD
  rw [← hD] at hS
  have d0 := hS.cellAt (i := 0) (by simp)
  have f0 := hS.frozenAt 0
  have d1 := hS.cellAt (i := 1) (by simp)
  have f1 := hS.frozenAt 1
  have d2 := hS.cellAt (i := 2) (by simp)
  have f2 := hS.frozenAt 2
  have d3 := hS.cellAt (i := 3) (by simp)
  have f3 := hS.frozenAt 3
  have d4 := hS.cellAt (i := 4) (by simp)
  have f4 := hS.frozenAt 4
  have d5 := hS.cellAt (i := 5) (by simp)
  have f5 := hS.frozenAt 5
  have d6 := hS.cellAt (i := 6) (by simp)
  have f6 := hS.frozenAt 6
  have d7 := hS.cellAt (i := 7) (by simp)
  have f7 := hS.frozenAt 7
  have d8 := hS.cellAt (i := 8) (by simp)
  have f8 := hS.frozenAt 8
  have d9 := hS.cellAt (i := 9) (by simp)
  have f9 := hS.frozenAt 9
  have d10 := hS.cellAt (i := 10) (by simp)
  have f10 := hS.frozenAt 10
  have d11 := hS.cellAt (i := 11) (by simp)
  have f11 := hS.frozenAt 11
  have d12 := hS.cellAt (i := 12) (by simp)
  have f12 := hS.frozenAt 12
  have d13 := hS.cellAt (i := 13) (by simp)
  have f13 := hS.frozenAt 13
  simp only [List.getElem_cons_zero, List.getElem_cons_succ] at d0 d1 d2 d3 d4 d5 d6 d7 d8 d9 d10 d11 d12 d13
  clear hS hb0
  go_enter Try.func54, Try.ntmps54
  go_upto_region 1 with fail
  rw [← hW0, ← hD]
  clear hW0 hD
  go_wp2_with fail
  refine HL.out.mono ?_
  rintro y w1 ⟨rfl, rfl⟩
  go_wp2_with fail
  refine bodyPost_ret (v := .tuple #[.agg #[.bool false, .int .u32 0, .bool false, .int .i64 0, .int .u8 0, .int .u8 0, .int .u8 0, .int .u8 0, .int .u8 0, .int .u8 0, .int .u8 0, .int .u8 0, .int .i64 0, .int .i64 0], .bool false]) (by simp [results, Try.results54, go_sem, World.cell?_setCell_same', d0, d1, d2, d3, d4, d5, d6, d7, d8, d9, d10, d11, d12, d13]) rfl ?_
  exact ⟨rfl, below14 (n := w.heap.size) (B := D) (by rw [HD.out]; exact Nat.le_refl _) HB0.out (.bool false) (.int .u32 0) (.bool false) (.int .i64 0) (.int .u8 0) (.int .u8 0) (.int .u8 0) (.int .u8 0) (.int .u8 0) (.int .u8 0) (.int .u8 0) (.int .u8 0) (.int .i64 0) (.int .i64 0)⟩
set_option maxRecDepth 100000 in
set_option maxHeartbeats 1000000 in
theorem offer_nil (s : SD) (w : World) : Calls Try.prog 52 #[.pointer none, s.V] w fun y w' => y = .returned (.bool false) ∧ Below w.heap.size w w' := by
  obtain ⟨e, n, q, l, x0, x1, x2, x3, x4, x5, x6, x7, f, t⟩ := s
  obtain ⟨W0, hW0⟩ : ∃ W0, W0 = w.alloc (.cells #[.bool e, .int .u32 n, .bool q, .int .i64 l, .int .u8 x0, .int .u8 x1, .int .u8 x2, .int .u8 x3, .int .u8 x4, .int .u8 x5, .int .u8 x6, .int .u8 x7, .int .i64 f, .int .i64 t] 48) := ⟨_, rfl⟩
  have hb0 : Below w.heap.size w W0 := by rw [hW0]; exact (Below.refl _ w).alloc (Nat.le_refl _) _
  have hS := (show Blk W0 w.heap.size 48 [.bool e, .int .u32 n, .bool q, .int .i64 l, .int .u8 x0, .int .u8 x1, .int .u8 x2, .int .u8 x3, .int .u8 x4, .int .u8 x5, .int .u8 x6, .int .u8 x7, .int .i64 f, .int .i64 t] by rw [hW0]; exact Blk.new w _ [.bool e, .int .u32 n, .bool q, .int .i64 l, .int .u8 x0, .int .u8 x1, .int .u8 x2, .int .u8 x3, .int .u8 x4, .int .u8 x5, .int .u8 x6, .int .u8 x7, .int .i64 f, .int .i64 t])
  have HB0 := Lib.hid hb0
  have HL := Lib.hid (lets_nil e n q l x0 x1 x2 x3 x4 x5 x6 x7 W0)
  have d0 := hS.cellAt (i := 0) (by simp)
  have f0 := hS.frozenAt 0
  have d1 := hS.cellAt (i := 1) (by simp)
  have f1 := hS.frozenAt 1
  have d2 := hS.cellAt (i := 2) (by simp)
  have f2 := hS.frozenAt 2
  have d3 := hS.cellAt (i := 3) (by simp)
  have f3 := hS.frozenAt 3
  have d4 := hS.cellAt (i := 4) (by simp)
  have f4 := hS.frozenAt 4
  have d5 := hS.cellAt (i := 5) (by simp)
  have f5 := hS.frozenAt 5
  have d6 := hS.cellAt (i := 6) (by simp)
  have f6 := hS.frozenAt 6
  have d7 := hS.cellAt (i := 7) (by simp)
  have f7 := hS.frozenAt 7
  have d8 := hS.cellAt (i := 8) (by simp)
  have f8 := hS.frozenAt 8
  have d9 := hS.cellAt (i := 9) (by simp)
  have f9 := hS.frozenAt 9
  have d10 := hS.cellAt (i := 10) (by simp)
  have f10 := hS.frozenAt 10
  have d11 := hS.cellAt (i := 11) (by simp)
  have f11 := hS.frozenAt 11
  have d12 := hS.cellAt (i := 12) (by simp)
  have f12 := hS.frozenAt 12
  have d13 := hS.cellAt (i := 13) (by simp)
  have f13 := hS.frozenAt 13
  simp only [List.getElem_cons_zero, List.getElem_cons_succ] at d0 d1 d2 d3 d4 d5 d6 d7 d8 d9 d10 d11 d12 d13
  clear hS hb0
  unfold SD.V
  simp only
  go_enter Try.func52, Try.ntmps52
  go_upto_region 1 with fail
  rw [← hW0]
  clear hW0
  go_wp2_with fail
  refine HL.out.mono ?_
  rintro y w1 ⟨rfl, hb⟩
  have HB1 := Lib.hid (HB0.out.trans (hb.mono HB0.out.size))
  clear hb
  go_wp2_with fail
  go_ret
  exact ⟨rfl, HB1.out⟩
theorem rd_lit (w : World) (T : TypeId) (f : Fl) : Rd (w.alloc (.cells #[.bool f.x, .int .u32 f.m, .int .u32 f.t] T)) 3 (.slice (some ⟨w.heap.size, 0, none⟩) 1 1) (flC [f]) := by
  refine ⟨1, 1, _, rfl, rfl, Nat.le_refl _, by decide, .inr ⟨w.heap.size, 0, rfl, by simp, fun j u hj => ?_⟩⟩
  match j, hj with
  | 0, hj => injection hj with hj; subst hj; simp
  | 1, hj => injection hj with hj; subst hj; simp
  | 2, hj => injection hj with hj; subst hj; simp
theorem rd_nil (w : World) : Rd w 3 (.slice none 0 0) (flC []) := (Rw.nil w 3).rd
theorem IA.fvb {W : World} {T : TypeId} {B room : Nat} {F : List Fl} {fv : Value} {Q : List SD} {v : Value} {o : Bool} (h : IA W T B room F fv Q v o) : ∀ g, fv.ownBlock = some g → g < W.heap.size := fun g hg => (h.flt g hg).1
theorem off_a : offF 1 [⟨false, 7, 3⟩] [] false ⟨false, 11, false, 0, 0, 0, 0, 0, 0, 0, 0, 0, 0, 5⟩ = ([⟨false, 11, false, 0, 0, 0, 0, 0, 0, 0, 0, 0, 0, 5⟩], false, true) := by
  have h : letsB [⟨false, 7, 3⟩] false 11 = true := by decide +kernel
  unfold offF
  rw [if_neg (by rw [show (letsB [⟨false, 7, 3⟩] (SD.e ⟨false, 11, false, 0, 0, 0, 0, 0, 0, 0, 0, 0, 0, 5⟩) (SD.n ⟨false, 11, false, 0, 0, 0, 0, 0, 0, 0, 0, 0, 0, 5⟩)) = true from h]; simp), if_neg (by decide)]
  rfl
theorem off_b : offF 1 [⟨false, 7, 3⟩] [⟨false, 11, false, 0, 0, 0, 0, 0, 0, 0, 0, 0, 0, 5⟩] false ⟨false, 3, false, 0, 0, 0, 0, 0, 0, 0, 0, 0, 0, 0⟩ = ([⟨false, 11, false, 0, 0, 0, 0, 0, 0, 0, 0, 0, 0, 5⟩], true, false) := by
  have h : letsB [⟨false, 7, 3⟩] false 3 = true := by decide +kernel
  unfold offF
  rw [if_neg (by rw [show (letsB [⟨false, 7, 3⟩] (SD.e ⟨false, 3, false, 0, 0, 0, 0, 0, 0, 0, 0, 0, 0, 0⟩) (SD.n ⟨false, 3, false, 0, 0, 0, 0, 0, 0, 0, 0, 0, 0, 0⟩)) = true from h]; simp), if_pos (by decide)]
theorem lets_c : letsB [⟨false, 7, 3⟩] false 4 = false := by decide +kernel
end Go.Proofs.Ytmlnobiakfapcab
