/- The code of package boxes: what is in a mailbox, and what is taken out. Conditions: there are at most eight. -/
import Derived.Test.YtbdockeopbfliaaBxa
import Derived.Test.YtbdockeopbfliaaInc
namespace Go.Proofs.Ytbdockeopbfliaa
open Go.RowKit
theorem Blk.drewG {W : World} {B : Nat} {T : TypeId} {l : List Value} (h : Blk W B T l) : Blk W.drew B T l := h
theorem pd_flat (p : PD) : ∀ u ∈ p.C, u.oneCell' = true := by
  intro u hu
  simp only [PD.C, List.mem_cons, List.not_mem_nil, or_false] at hu
  rcases hu with rfl | rfl | rfl | rfl | rfl | rfl | rfl | rfl | rfl | rfl | rfl | rfl | rfl | rfl <;> rfl
theorem there_nil (i : Int) (w : World) : Calls Try.prog 25 #[.pointer none, .int .i64 i] w fun y w' => y = .returned (.bool false) ∧ Below w.heap.size w w' := by
  have HA := Lib.hid (room_nil w)
  by_cases i1 : 0 ≤ i
  · have i2 : ¬ i < 0 := by omega
    go_enter Try.func25, Try.ntmps25
    go_wp2_with fail
    refine HA.out.mono ?_
    rintro y w1 ⟨rfl, hb⟩
    have HB := Lib.hid hb
    clear hb
    go_wp2_with fail
    go_ret
    exact ⟨by first | rfl | (show Ending.returned (Value.bool (decide (i < 0))) = _; rw [decide_eq_false (by omega)]), HB.out⟩
  · go_enter Try.func25, Try.ntmps25
    go_wp2_with fail
    go_ret
    exact ⟨rfl, Below.refl _ _⟩
set_option maxRecDepth 100000 in
set_option maxHeartbeats 4000000 in
theorem get_out (P : Value) (i : Int) (w : World) (HA : ∀ u, Below w.heap.size w u → Calls Try.prog 25 #[P, .int .i64 i] u fun y w' => y = .returned (.bool false) ∧ Below u.heap.size u w') : Calls Try.prog 15 #[P, .int .i64 i] w fun y w' => y = .returned (.tuple #[PD.zero.V, .bool false]) ∧ Below w.heap.size w w' := by
  obtain ⟨W0, hW0⟩ : ∃ W0, W0 = w.alloc (.cells #[.bool false, .int .u32 0, .bool false, .int .i64 0, .int .u8 0, .int .u8 0, .int .u8 0, .int .u8 0, .int .u8 0, .int .u8 0, .int .u8 0, .int .u8 0, .bool false, .int .i64 0] 39) := ⟨_, rfl⟩
  have hb0 : Below w.heap.size w W0 := by rw [hW0]; exact (Below.refl _ w).alloc (Nat.le_refl _) _
  have hS := (show Blk W0 w.heap.size 39 [.bool false, .int .u32 0, .bool false, .int .i64 0, .int .u8 0, .int .u8 0, .int .u8 0, .int .u8 0, .int .u8 0, .int .u8 0, .int .u8 0, .int .u8 0, .bool false, .int .i64 0] by rw [hW0]; exact Blk.new w _ [.bool false, .int .u32 0, .bool false, .int .i64 0, .int .u8 0, .int .u8 0, .int .u8 0, .int .u8 0, .int .u8 0, .int .u8 0, .int .u8 0, .int .u8 0, .bool false, .int .i64 0])
  have HB0 := Lib.hid hb0
  obtain ⟨D, hD⟩ : ∃ D, D = w.heap.size := ⟨_, rfl⟩
  have HD := Lib.hid hD
  rw [← hD] at hS
  have HSB := Lib.hid hS
  have HA := Lib.hid (HA W0 hb0)
  have d0 := hS.cellAt (i := 0) (by simp)
  have f0 := hS.frozenAt 0
  have d1 := hS.cellAt (i := 1) (by simp)
  have f1 := hS.frozenAt 1
  have d2 := hS.cellAt (i := 2) (by simp)
  have f2 := hS.frozenAt 2
  have d3 := hS.cellAt (i := 3) (by simp)
  have f3 := hS.frozenAt 3
  have d4 := hS.cellAt (i := 4) (by simp)
  have f4 := hS.frozenAt 4
  have d5 := hS.cellAt (i := 5) (by simp)
  have f5 := hS.frozenAt 5
  have d6 := hS.cellAt (i := 6) (by simp)
  have f6 := hS.frozenAt 6
  have d7 := hS.cellAt (i := 7) (by simp)
  have f7 := hS.frozenAt 7
  have d8 := hS.cellAt (i := 8) (by simp)
  have f8 := hS.frozenAt 8
  have d9 := hS.cellAt (i := 9) (by simp)
  have f9 := hS.frozenAt 9
  have d10 := hS.cellAt (i := 10) (by simp)
  have f10 := hS.frozenAt 10
  have d11 := hS.cellAt (i := 11) (by simp)
  have f11 := hS.frozenAt 11
  have d12 := hS.cellAt (i := 12) (by simp)
  have f12 := hS.frozenAt 12
  have d13 := hS.cellAt (i := 13) (by simp)
  have f13 := hS.frozenAt 13
  simp only [List.getElem_cons_zero, List.getElem_cons_succ] at d0 d1 d2 d3 d4 d5 d6 d7 d8 d9 d10 d11 d12 d13
  clear hS hb0
  go_enter Try.func15, Try.ntmps15
  go_upto_region 1 with fail
  rw [← hW0, ← hD]
  clear hW0 hD
  go_wp2_with fail
  refine HA.out.mono ?_
  rintro y w1 ⟨rfl, hb⟩
  have HB1 := Lib.hid (below_transG HB0.out hb)
  have hS := HSB.out.keep hb HSB.out.lt
  clear hb d0 d1 d2 d3 d4 d5 d6 d7 d8 d9 d10 d11 d12 d13 f0 f1 f2 f3 f4 f5 f6 f7 f8 f9 f10 f11 f12 f13
  have d0 := hS.cellAt (i := 0) (by simp)
  have f0 := hS.frozenAt 0
  have d1 := hS.cellAt (i := 1) (by simp)
  have f1 := hS.frozenAt 1
  have d2 := hS.cellAt (i := 2) (by simp)
  have f2 := hS.frozenAt 2
  have d3 := hS.cellAt (i := 3) (by simp)
  have f3 := hS.frozenAt 3
  have d4 := hS.cellAt (i := 4) (by simp)
  have f4 := hS.frozenAt 4
  have d5 := hS.cellAt (i := 5) (by simp)
  have f5 := hS.frozenAt 5
  have d6 := hS.cellAt (i := 6) (by simp)
  have f6 := hS.frozenAt 6
  have d7 := hS.cellAt (i := 7) (by simp)
  have f7 := hS.frozenAt 7
  have d8 := hS.cellAt (i := 8) (by simp)
  have f8 := hS.frozenAt 8
  have d9 := hS.cellAt (i := 9) (by simp)
  have f9 := hS.frozenAt 9
  have d10 := hS.cellAt (i := 10) (by simp)
  have f10 := hS.frozenAt 10
  have d11 := hS.cellAt (i := 11) (by simp)
  have f11 := hS.frozenAt 11
  have d12 := hS.cellAt (i := 12) (by simp)
  have f12 := hS.frozenAt 12
  have d13 := hS.cellAt (i := 13) (by simp)
  have f13 := hS.frozenAt 13
  simp only [List.getElem_cons_zero, List.getElem_cons_succ] at d0 d1 d2 d3 d4 d5 d6 d7 d8 d9 d10 d11 d12 d13
  clear hS
  go_wp2_with fail
  refine bodyPost_ret (v := .tuple #[.agg #[.bool false, .int .u32 0, .bool false, .int .i64 0, .int .u8 0, .int .u8 0, .int .u8 0, .int .u8 0, .int .u8 0, .int .u8 0, .int .u8 0, .int .u8 0, .bool false, .int .i64 0], .bool false]) (by simp [results, Try.results15, go_sem, World.cell?_setCell_same', d0, d1, d2, d3, d4, d5, d6, d7, d8, d9, d10, d11, d12, d13]) rfl ?_
  exact ⟨rfl, below14 (n := w.heap.size) (B := D) (by rw [HD.out]; exact Nat.le_refl _) HB1.out (.bool false) (.int .u32 0) (.bool false) (.int .i64 0) (.int .u8 0) (.int .u8 0) (.int .u8 0) (.int .u8 0) (.int .u8 0) (.int .u8 0) (.int .u8 0) (.int .u8 0) (.bool false) (.int .i64 0)⟩
theorem get_no (B : Nat) (L : List BD) (room : Nat) (i : Int) (hi : ¬ (0 ≤ i ∧ i < (room : Int))) (w : World) (h : BxA w B L room) : Calls Try.prog 15 #[.pointer (some ⟨B, 0, none⟩), .int .i64 i] w fun y w' => y = .returned (.tuple #[PD.zero.V, .bool false]) ∧ Below w.heap.size w w' :=
  get_out _ i w (fun u hu => by have := there_any B L room i u (h.on hu); rw [decide_eq_false hi] at this; exact this)
theorem get_nil (i : Int) (w : World) : Calls Try.prog 15 #[.pointer none, .int .i64 i] w fun y w' => y = .returned (.tuple #[PD.zero.V, .bool false]) ∧ Below w.heap.size w w' :=
  get_out _ i w (fun u _ => there_nil i u)
set_option maxRecDepth 100000 in
set_option maxHeartbeats 8000000 in
theorem get_yes (B : Nat) (L : List BD) (room j : Nat) (hj : j < room) (w : World) (h : BxA w B L room) : Calls Try.prog 15 #[.pointer (some ⟨B, 0, none⟩), .int .i64 (j : Int)] w fun y w' => y = .returned (.tuple #[(bxAt L j).p.V, .bool (bxAt L j).full]) ∧ Below w.heap.size w w' := by
  obtain ⟨W0, hW0⟩ : ∃ W0, W0 = w.alloc (.cells #[.bool false, .int .u32 0, .bool false, .int .i64 0, .int .u8 0, .int .u8 0, .int .u8 0, .int .u8 0, .int .u8 0, .int .u8 0, .int .u8 0, .int .u8 0, .bool false, .int .i64 0] 39) := ⟨_, rfl⟩
  have hb0 : Below w.heap.size w W0 := by rw [hW0]; exact (Below.refl _ w).alloc (Nat.le_refl _) _
  have hS := (show Blk W0 w.heap.size 39 [.bool false, .int .u32 0, .bool false, .int .i64 0, .int .u8 0, .int .u8 0, .int .u8 0, .int .u8 0, .int .u8 0, .int .u8 0, .int .u8 0, .int .u8 0, .bool false, .int .i64 0] by rw [hW0]; exact Blk.new w _ [.bool false, .int .u32 0, .bool false, .int .i64 0, .int .u8 0, .int .u8 0, .int .u8 0, .int .u8 0, .int .u8 0, .int .u8 0, .int .u8 0, .int .u8 0, .bool false, .int .i64 0])
  have HB0 := Lib.hid hb0
  obtain ⟨D, hD⟩ : ∃ D, D = w.heap.size := ⟨_, rfl⟩
  have HD := Lib.hid hD
  rw [← hD] at hS
  have HSB := Lib.hid hS
  have h8 := h.r8
  have HA := Lib.hid (show Calls Try.prog 25 #[.pointer (some ⟨B, 0, none⟩), .int .i64 (j : Int)] W0 fun y w' => y = .returned (.bool true) ∧ Below W0.heap.size W0 w' from by have := there_any B L room (j : Int) W0 (h.on hb0); rw [decide_eq_true (by omega)] at this; exact this)
  have HBX := Lib.hid (h.on hb0)
  have HBW := Lib.hid h.lt
  obtain ⟨b, hb⟩ : ∃ b, b = bxAt L j := ⟨_, rfl⟩
  have HBB := Lib.hid hb
  rw [← hb]
  clear hb h hb0
  obtain ⟨full, ⟨e, n, q, l, x0, x1, x2, x3, x4, x5, x6, x7, once, tag⟩⟩ := b
  unfold PD.V
  simp only
  have i1 : (0 : Int) ≤ (j : Int) := by omega
  have i2 : (j : Int) < 8 := by omega
  have d0 := hS.cellAt (i := 0) (by simp)
  have f0 := hS.frozenAt 0
  have d1 := hS.cellAt (i := 1) (by simp)
  have f1 := hS.frozenAt 1
  have d2 := hS.cellAt (i := 2) (by simp)
  have f2 := hS.frozenAt 2
  have d3 := hS.cellAt (i := 3) (by simp)
  have f3 := hS.frozenAt 3
  have d4 := hS.cellAt (i := 4) (by simp)
  have f4 := hS.frozenAt 4
  have d5 := hS.cellAt (i := 5) (by simp)
  have f5 := hS.frozenAt 5
  have d6 := hS.cellAt (i := 6) (by simp)
  have f6 := hS.frozenAt 6
  have d7 := hS.cellAt (i := 7) (by simp)
  have f7 := hS.frozenAt 7
  have d8 := hS.cellAt (i := 8) (by simp)
  have f8 := hS.frozenAt 8
  have d9 := hS.cellAt (i := 9) (by simp)
  have f9 := hS.frozenAt 9
  have d10 := hS.cellAt (i := 10) (by simp)
  have f10 := hS.frozenAt 10
  have d11 := hS.cellAt (i := 11) (by simp)
  have f11 := hS.frozenAt 11
  have d12 := hS.cellAt (i := 12) (by simp)
  have f12 := hS.frozenAt 12
  have d13 := hS.cellAt (i := 13) (by simp)
  have f13 := hS.frozenAt 13
  simp only [List.getElem_cons_zero, List.getElem_cons_succ] at d0 d1 d2 d3 d4 d5 d6 d7 d8 d9 d10 d11 d12 d13
  clear hS
  go_enter Try.func15, Try.ntmps15
  go_upto_region 1 with fail
  rw [← hW0, ← hD]
  clear hW0 hD
  go_wp2_with fail
  refine HA.out.mono ?_
  rintro y w1 ⟨rfl, hb⟩
  have HB1 := Lib.hid (below_transG HB0.out hb)
  have HS1 := Lib.hid (HSB.out.keep hb HSB.out.lt)
  have hX := HBX.out.on hb
  have hc : ∀ i u, (BD.C ⟨full, ⟨e, n, q, l, x0, x1, x2, x3, x4, x5, x6, x7, once, tag⟩⟩)[i]? = some u → w1.cell? ⟨B, j * 15 + i, none⟩ = some u := fun i u hu => (hX.cell (by omega) (by rw [← HBB.out]; exact hu)).1
  have e0 : w1.cell? ⟨B, j * 15, none⟩ = some (.bool full) := hc 0 _ rfl
  have e1 : w1.cell? ⟨B, j * 15 + 1, none⟩ = some (.bool e) := hc 1 _ rfl
  have e2 : w1.cell? ⟨B, j * 15 + 2, none⟩ = some (.int .u32 (n : Int)) := hc 2 _ rfl
  have e3 : w1.cell? ⟨B, j * 15 + 3, none⟩ = some (.bool q) := hc 3 _ rfl
  have e4 : w1.cell? ⟨B, j * 15 + 4, none⟩ = some (.int .i64 l) := hc 4 _ rfl
  have e5 : w1.cell? ⟨B, j * 15 + 5, none⟩ = some (.int .u8 (x0 : Int)) := hc 5 _ rfl
  have e6 : w1.cell? ⟨B, j * 15 + 6, none⟩ = some (.int .u8 (x1 : Int)) := hc 6 _ rfl
  have e7 : w1.cell? ⟨B, j * 15 + 7, none⟩ = some (.int .u8 (x2 : Int)) := hc 7 _ rfl
  have e8 : w1.cell? ⟨B, j * 15 + 8, none⟩ = some (.int .u8 (x3 : Int)) := hc 8 _ rfl
  have e9 : w1.cell? ⟨B, j * 15 + 9, none⟩ = some (.int .u8 (x4 : Int)) := hc 9 _ rfl
  have e10 : w1.cell? ⟨B, j * 15 + 10, none⟩ = some (.int .u8 (x5 : Int)) := hc 10 _ rfl
  have e11 : w1.cell? ⟨B, j * 15 + 11, none⟩ = some (.int .u8 (x6 : Int)) := hc 11 _ rfl
  have e12 : w1.cell? ⟨B, j * 15 + 12, none⟩ = some (.int .u8 (x7 : Int)) := hc 12 _ rfl
  have e13 : w1.cell? ⟨B, j * 15 + 13, none⟩ = some (.bool once) := hc 13 _ rfl
  have e14 : w1.cell? ⟨B, j * 15 + 14, none⟩ = some (.int .i64 tag) := hc 14 _ rfl
  have hDB : D ≠ B := fun e => by have := HBW.out; have := HD.out; omega
  clear hb hX hc d0 d1 d2 d3 d4 d5 d6 d7 d8 d9 d10 d11 d12 d13 f0 f1 f2 f3 f4 f5 f6 f7 f8 f9 f10 f11 f12 f13
  have hS := HS1.out
  have d0 := hS.cellAt (i := 0) (by simp)
  have f0 := hS.frozenAt 0
  have d1 := hS.cellAt (i := 1) (by simp)
  have f1 := hS.frozenAt 1
  have d2 := hS.cellAt (i := 2) (by simp)
  have f2 := hS.frozenAt 2
  have d3 := hS.cellAt (i := 3) (by simp)
  have f3 := hS.frozenAt 3
  have d4 := hS.cellAt (i := 4) (by simp)
  have f4 := hS.frozenAt 4
  have d5 := hS.cellAt (i := 5) (by simp)
  have f5 := hS.frozenAt 5
  have d6 := hS.cellAt (i := 6) (by simp)
  have f6 := hS.frozenAt 6
  have d7 := hS.cellAt (i := 7) (by simp)
  have f7 := hS.frozenAt 7
  have d8 := hS.cellAt (i := 8) (by simp)
  have f8 := hS.frozenAt 8
  have d9 := hS.cellAt (i := 9) (by simp)
  have f9 := hS.frozenAt 9
  have d10 := hS.cellAt (i := 10) (by simp)
  have f10 := hS.frozenAt 10
  have d11 := hS.cellAt (i := 11) (by simp)
  have f11 := hS.frozenAt 11
  have d12 := hS.cellAt (i := 12) (by simp)
  have f12 := hS.frozenAt 12
  have d13 := hS.cellAt (i := 13) (by simp)
  have f13 := hS.frozenAt 13
  simp only [List.getElem_cons_zero, List.getElem_cons_succ] at d0 d1 d2 d3 d4 d5 d6 d7 d8 d9 d10 d11 d12 d13
  clear hS
  go_upto_region 3 with fail
  go_cut [5] (fun s5 wx => s5 = .bool full ∧ Blk wx D 39 [.bool e, .int .u32 (n : Int), .bool q, .int .i64 l, .int .u8 (x0 : Int), .int .u8 (x1 : Int), .int .u8 (x2 : Int), .int .u8 (x3 : Int), .int .u8 (x4 : Int), .int .u8 (x5 : Int), .int .u8 (x6 : Int), .int .u8 (x7 : Int), .bool once, .int .i64 tag] ∧ Below w.heap.size w wx)
  case first =>
    go_region
    go_wp2_with fail
    go_meet
    exact ⟨rfl, (HS1.out.set14 rfl (.bool e) (.int .u32 (n : Int)) (.bool q) (.int .i64 l) (.int .u8 (x0 : Int)) (.int .u8 (x1 : Int)) (.int .u8 (x2 : Int)) (.int .u8 (x3 : Int)) (.int .u8 (x4 : Int)) (.int .u8 (x5 : Int)) (.int .u8 (x6 : Int)) (.int .u8 (x7 : Int)) (.bool once) (.int .i64 tag)).drewG, (below14 (n := w.heap.size) (B := D) (by rw [HD.out]; exact Nat.le_refl _) HB1.out (.bool e) (.int .u32 (n : Int)) (.bool q) (.int .i64 l) (.int .u8 (x0 : Int)) (.int .u8 (x1 : Int)) (.int .u8 (x2 : Int)) (.int .u8 (x3 : Int)) (.int .u8 (x4 : Int)) (.int .u8 (x5 : Int)) (.int .u8 (x6 : Int)) (.int .u8 (x7 : Int)) (.bool once) (.int .i64 tag)).drew⟩
  case rest =>
  obtain ⟨rfl, hSx, hbx⟩ := hcut
  have HBx := Lib.hid hbx
  clear d0 d1 d2 d3 d4 d5 d6 d7 d8 d9 d10 d11 d12 d13 f0 f1 f2 f3 f4 f5 f6 f7 f8 f9 f10 f11 f12 f13 e0 e1 e2 e3 e4 e5 e6 e7 e8 e9 e10 e11 e12 e13 e14 hbx
  have d0 := hSx.cellAt (i := 0) (by simp)
  have f0 := hSx.frozenAt 0
  have d1 := hSx.cellAt (i := 1) (by simp)
  have f1 := hSx.frozenAt 1
  have d2 := hSx.cellAt (i := 2) (by simp)
  have f2 := hSx.frozenAt 2
  have d3 := hSx.cellAt (i := 3) (by simp)
  have f3 := hSx.frozenAt 3
  have d4 := hSx.cellAt (i := 4) (by simp)
  have f4 := hSx.frozenAt 4
  have d5 := hSx.cellAt (i := 5) (by simp)
  have f5 := hSx.frozenAt 5
  have d6 := hSx.cellAt (i := 6) (by simp)
  have f6 := hSx.frozenAt 6
  have d7 := hSx.cellAt (i := 7) (by simp)
  have f7 := hSx.frozenAt 7
  have d8 := hSx.cellAt (i := 8) (by simp)
  have f8 := hSx.frozenAt 8
  have d9 := hSx.cellAt (i := 9) (by simp)
  have f9 := hSx.frozenAt 9
  have d10 := hSx.cellAt (i := 10) (by simp)
  have f10 := hSx.frozenAt 10
  have d11 := hSx.cellAt (i := 11) (by simp)
  have f11 := hSx.frozenAt 11
  have d12 := hSx.cellAt (i := 12) (by simp)
  have f12 := hSx.frozenAt 12
  have d13 := hSx.cellAt (i := 13) (by simp)
  have f13 := hSx.frozenAt 13
  simp only [List.getElem_cons_zero, List.getElem_cons_succ] at d0 d1 d2 d3 d4 d5 d6 d7 d8 d9 d10 d11 d12 d13
  clear hSx
  go_wp2_with fail
  refine bodyPost_ret (v := .tuple #[.agg #[.bool e, .int .u32 (n : Int), .bool q, .int .i64 l, .int .u8 (x0 : Int), .int .u8 (x1 : Int), .int .u8 (x2 : Int), .int .u8 (x3 : Int), .int .u8 (x4 : Int), .int .u8 (x5 : Int), .int .u8 (x6 : Int), .int .u8 (x7 : Int), .bool once, .int .i64 tag], .bool full]) (by simp [results, Try.results15, go_sem, d0, d1, d2, d3, d4, d5, d6, d7, d8, d9, d10, d11, d12, d13]) rfl ?_
  exact ⟨rfl, HBx.out⟩
theorem Kp.setCells {B : Nat} {v : Value} {w : World} : ∀ (vs : List Value) (o : Nat) (w' : World), Kp B v w w' → Kp B v w (w'.setCells B o vs)
  | [], _, _, h => h
  | x :: vs, o, w', h => Kp.setCells vs (o + 1) (w'.setCell ⟨B, o, none⟩ x) (h.set o x)
theorem bx_get (L : List BD) (room : Nat) (hL : L.length = 8) (i : Nat) (hi : i < 121) : (bxC L room)[i]? = if i < 120 then (bxAt L (i / 15)).C[i % 15]? else some (.int .i64 (room : Int)) := by
  unfold bxC
  by_cases h : i < 120
  · rw [if_pos h, List.getElem?_append_left (by rw [flat15]; omega)]
    have e : i / 15 * 15 + i % 15 = i := by omega
    have h2 := flat_at 15 BD.C BD.len L (i / 15) (i % 15) (by omega) (Nat.mod_lt _ (by decide))
    rw [e] at h2
    have e3 : bxAt L (i / 15) = L[i / 15]'(by omega) := by
      unfold bxAt
      rw [List.getElem?_eq_getElem (by omega)]
      rfl
    rw [h2, e3]
  · rw [if_neg h, List.getElem?_append_right (by rw [flat15]; omega), flat15, hL]
    obtain rfl : i = 120 := by omega
    rfl
theorem bxAt_set (L : List BD) (j : Nat) (hj : j < L.length) (b : BD) (k : Nat) : bxAt (L.set j b) k = if k = j then b else bxAt L k := by
  unfold bxAt
  by_cases h : k = j
  · subst h
    rw [if_pos rfl, List.getElem?_set_self hj]
    rfl
  · rw [if_neg h, List.getElem?_set_ne (fun e => h e.symm)]
theorem BxA.put {W : World} {B : Nat} {L : List BD} {room : Nat} (h : BxA W B L room) {j : Nat} (hj : j < 8) (b : BD) : BxA (W.setCells B (j * 15) b.C) B (L.set j b) room := by
  have h8 := h.eight
  refine ⟨?_, by rw [List.length_set]; exact h8, h.r1, h.r8⟩
  refine Blk.of_row (Go.rowIs_setCells b.C (j * 15) W _ h.blk.row) (bxC (L.set j b) room) (by rw [bxC_len, bxC_len, List.length_set]) (fun i hi => ?_)
  rw [bxC_len, List.length_set, h8] at hi
  have e := bx_get (L.set j b) room (by rw [List.length_set]; exact h8) i (by omega)
  have hlt : i < (bxC (L.set j b) room).length := by rw [bxC_len, List.length_set, h8]; omega
  rw [List.getElem?_eq_getElem hlt] at e
  have e0 := bx_get L room h8 i (by omega)
  by_cases hin : j * 15 ≤ i ∧ i < j * 15 + b.C.length
  · rw [if_pos hin]
    have hl := hin.2
    rw [BD.len] at hl
    rw [if_pos (by omega), bxAt_set L j (by omega), if_pos (by omega), show i % 15 = i - j * 15 by omega] at e
    rw [← e]
    rfl
  · rw [if_neg hin, e0]
    rw [BD.len] at hin
    by_cases h2 : i < 120
    · rw [if_pos h2, bxAt_set L j (by omega), if_neg (by omega)] at e
      rw [if_pos h2, ← e]
      rfl
    · rw [if_neg h2] at e ⊢
      exact (Option.some.inj e).symm
end Go.Proofs.Ytbdockeopbfliaa
