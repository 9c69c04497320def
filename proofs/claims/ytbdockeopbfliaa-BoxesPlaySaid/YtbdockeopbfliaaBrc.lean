/- The document's own boxes: what is in one. Conditions: there are at most eight. -/
import Derived.Test.YtbdockeopbfliaaBrb
namespace Go.Proofs.Ytbdockeopbfliaa
open Go.RowKit
set_option maxRecDepth 100000 in
set_option maxHeartbeats 4000000 in
theorem rbget_low (B P H : Nat) (L : List BD) (m : Nat) (i : Int) (i1 : i < 0) (w : World) (h : RB w B P H L m) : Calls Try.prog 16 #[.pointer (some ⟨B, 0, none⟩), .int .i64 i] w fun y w' => y = .returned (.tuple #[PD.zero.V, .bool false]) ∧ Below w.heap.size w w' := by
  obtain ⟨W0, hW0⟩ : ∃ W0, W0 = w.alloc (.cells #[.bool false, .int .u32 0, .bool false, .int .i64 0, .int .u8 0, .int .u8 0, .int .u8 0, .int .u8 0, .int .u8 0, .int .u8 0, .int .u8 0, .int .u8 0, .bool false, .int .i64 0] 39) := ⟨_, rfl⟩
  have hb0 : Below w.heap.size w W0 := by rw [hW0]; exact (Below.refl _ w).alloc (Nat.le_refl _) _
  have hS := (show Blk W0 w.heap.size 39 [.bool false, .int .u32 0, .bool false, .int .i64 0, .int .u8 0, .int .u8 0, .int .u8 0, .int .u8 0, .int .u8 0, .int .u8 0, .int .u8 0, .int .u8 0, .bool false, .int .i64 0] by rw [hW0]; exact Blk.new w _ [.bool false, .int .u32 0, .bool false, .int .i64 0, .int .u8 0, .int .u8 0, .int .u8 0, .int .u8 0, .int .u8 0, .int .u8 0, .int .u8 0, .int .u8 0, .bool false, .int .i64 0])
  have HB0 := Lib.hid hb0
  obtain ⟨D, hD⟩ : ∃ D, D = w.heap.size := ⟨_, rfl⟩
  have HD := Lib.hid hD
  rw [← hD] at hS
  have g0 := (h.on hb0).c0
  have g1 := (h.on hb0).c1
  have d0 := hS.cellAt (i := 0) (by simp)
  have f0 := hS.frozenAt 0
  have d1 := hS.cellAt (i := 1) (by simp)
  have f1 := hS.frozenAt 1
  have d2 := hS.cellAt (i := 2) (by simp)
  have f2 := hS.frozenAt 2
  have d3 := hS.cellAt (i := 3) (by simp)
  have f3 := hS.frozenAt 3
  have d4 := hS.cellAt (i := 4) (by simp)
  have f4 := hS.frozenAt 4
  have d5 := hS.cellAt (i := 5) (by simp)
  have f5 := hS.frozenAt 5
  have d6 := hS.cellAt (i := 6) (by simp)
  have f6 := hS.frozenAt 6
  have d7 := hS.cellAt (i := 7) (by simp)
  have f7 := hS.frozenAt 7
  have d8 := hS.cellAt (i := 8) (by simp)
  have f8 := hS.frozenAt 8
  have d9 := hS.cellAt (i := 9) (by simp)
  have f9 := hS.frozenAt 9
  have d10 := hS.cellAt (i := 10) (by simp)
  have f10 := hS.frozenAt 10
  have d11 := hS.cellAt (i := 11) (by simp)
  have f11 := hS.frozenAt 11
  have d12 := hS.cellAt (i := 12) (by simp)
  have f12 := hS.frozenAt 12
  have d13 := hS.cellAt (i := 13) (by simp)
  have f13 := hS.frozenAt 13
  simp only [List.getElem_cons_zero, List.getElem_cons_succ] at d0 d1 d2 d3 d4 d5 d6 d7 d8 d9 d10 d11 d12 d13
  have hDB : D ≠ B := fun e => by have := h.blk.lt; omega
  clear hS hb0 h
  go_enter Try.func16, Try.ntmps16
  go_upto_region 1 with fail
  rw [← hW0, ← hD]
  clear hW0 hD
  go_wp2_with fail
  refine bodyPost_ret (v := .tuple #[.agg #[.bool false, .int .u32 0, .bool false, .int .i64 0, .int .u8 0, .int .u8 0, .int .u8 0, .int .u8 0, .int .u8 0, .int .u8 0, .int .u8 0, .int .u8 0, .bool false, .int .i64 0], .bool false]) (by simp [results, Try.results16, go_sem, World.cell?_setCell_same', d0, d1, d2, d3, d4, d5, d6, d7, d8, d9, d10, d11, d12, d13]) rfl ?_
  exact ⟨rfl, below14 (n := w.heap.size) (B := D) (by rw [HD.out]; exact Nat.le_refl _) HB0.out (.bool false) (.int .u32 0) (.bool false) (.int .i64 0) (.int .u8 0) (.int .u8 0) (.int .u8 0) (.int .u8 0) (.int .u8 0) (.int .u8 0) (.int .u8 0) (.int .u8 0) (.bool false) (.int .i64 0)⟩
set_option maxRecDepth 100000 in
set_option maxHeartbeats 4000000 in
theorem rbget_high (B P H : Nat) (L : List BD) (m : Nat) (i : Int) (i1 : (m : Int) ≤ i) (w : World) (h : RB w B P H L m) : Calls Try.prog 16 #[.pointer (some ⟨B, 0, none⟩), .int .i64 i] w fun y w' => y = .returned (.tuple #[PD.zero.V, .bool false]) ∧ Below w.heap.size w w' := by
  have i2 : ¬ i < 0 := by omega
  obtain ⟨W0, hW0⟩ : ∃ W0, W0 = w.alloc (.cells #[.bool false, .int .u32 0, .bool false, .int .i64 0, .int .u8 0, .int .u8 0, .int .u8 0, .int .u8 0, .int .u8 0, .int .u8 0, .int .u8 0, .int .u8 0, .bool false, .int .i64 0] 39) := ⟨_, rfl⟩
  have hb0 : Below w.heap.size w W0 := by rw [hW0]; exact (Below.refl _ w).alloc (Nat.le_refl _) _
  have hS := (show Blk W0 w.heap.size 39 [.bool false, .int .u32 0, .bool false, .int .i64 0, .int .u8 0, .int .u8 0, .int .u8 0, .int .u8 0, .int .u8 0, .int .u8 0, .int .u8 0, .int .u8 0, .bool false, .int .i64 0] by rw [hW0]; exact Blk.new w _ [.bool false, .int .u32 0, .bool false, .int .i64 0, .int .u8 0, .int .u8 0, .int .u8 0, .int .u8 0, .int .u8 0, .int .u8 0, .int .u8 0, .int .u8 0, .bool false, .int .i64 0])
  have HB0 := Lib.hid hb0
  obtain ⟨D, hD⟩ : ∃ D, D = w.heap.size := ⟨_, rfl⟩
  have HD := Lib.hid hD
  rw [← hD] at hS
  have g0 := (h.on hb0).c0
  have g1 := (h.on hb0).c1
  have d0 := hS.cellAt (i := 0) (by simp)
  have f0 := hS.frozenAt 0
  have d1 := hS.cellAt (i := 1) (by simp)
  have f1 := hS.frozenAt 1
  have d2 := hS.cellAt (i := 2) (by simp)
  have f2 := hS.frozenAt 2
  have d3 := hS.cellAt (i := 3) (by simp)
  have f3 := hS.frozenAt 3
  have d4 := hS.cellAt (i := 4) (by simp)
  have f4 := hS.frozenAt 4
  have d5 := hS.cellAt (i := 5) (by simp)
  have f5 := hS.frozenAt 5
  have d6 := hS.cellAt (i := 6) (by simp)
  have f6 := hS.frozenAt 6
  have d7 := hS.cellAt (i := 7) (by simp)
  have f7 := hS.frozenAt 7
  have d8 := hS.cellAt (i := 8) (by simp)
  have f8 := hS.frozenAt 8
  have d9 := hS.cellAt (i := 9) (by simp)
  have f9 := hS.frozenAt 9
  have d10 := hS.cellAt (i := 10) (by simp)
  have f10 := hS.frozenAt 10
  have d11 := hS.cellAt (i := 11) (by simp)
  have f11 := hS.frozenAt 11
  have d12 := hS.cellAt (i := 12) (by simp)
  have f12 := hS.frozenAt 12
  have d13 := hS.cellAt (i := 13) (by simp)
  have f13 := hS.frozenAt 13
  simp only [List.getElem_cons_zero, List.getElem_cons_succ] at d0 d1 d2 d3 d4 d5 d6 d7 d8 d9 d10 d11 d12 d13
  have hDB : D ≠ B := fun e => by have := h.blk.lt; omega
  clear hS hb0 h
  go_enter Try.func16, Try.ntmps16
  go_upto_region 1 with fail
  rw [← hW0, ← hD]
  clear hW0 hD
  go_wp2_with fail
  refine bodyPost_ret (v := .tuple #[.agg #[.bool false, .int .u32 0, .bool false, .int .i64 0, .int .u8 0, .int .u8 0, .int .u8 0, .int .u8 0, .int .u8 0, .int .u8 0, .int .u8 0, .int .u8 0, .bool false, .int .i64 0], .bool false]) (by simp [results, Try.results16, go_sem, World.cell?_setCell_same', d0, d1, d2, d3, d4, d5, d6, d7, d8, d9, d10, d11, d12, d13]) rfl ?_
  exact ⟨rfl, below14 (n := w.heap.size) (B := D) (by rw [HD.out]; exact Nat.le_refl _) HB0.out (.bool false) (.int .u32 0) (.bool false) (.int .i64 0) (.int .u8 0) (.int .u8 0) (.int .u8 0) (.int .u8 0) (.int .u8 0) (.int .u8 0) (.int .u8 0) (.int .u8 0) (.bool false) (.int .i64 0)⟩
set_option maxRecDepth 100000 in
set_option maxHeartbeats 4000000 in
theorem rbget_free (B P H : Nat) (L : List BD) (m j : Nat) (hj : j < m) (hf : (bxAt L j).full = false) (w : World) (h : RB w B P H L m) : Calls Try.prog 16 #[.pointer (some ⟨B, 0, none⟩), .int .i64 (j : Int)] w fun y w' => y = .returned (.tuple #[PD.zero.V, .bool false]) ∧ Below w.heap.size w w' := by
  have i1 : ¬ (j : Int) < 0 := by omega
  have i2 : ¬ (m : Int) ≤ (j : Int) := by omega
  have i3 : (0 : Int) ≤ (j : Int) := by omega
  have i4 : (j : Int) < (m : Int) := by omega
  obtain ⟨W0, hW0⟩ : ∃ W0, W0 = w.alloc (.cells #[.bool false, .int .u32 0, .bool false, .int .i64 0, .int .u8 0, .int .u8 0, .int .u8 0, .int .u8 0, .int .u8 0, .int .u8 0, .int .u8 0, .int .u8 0, .bool false, .int .i64 0] 39) := ⟨_, rfl⟩
  have hb0 : Below w.heap.size w W0 := by rw [hW0]; exact (Below.refl _ w).alloc (Nat.le_refl _) _
  have hS := (show Blk W0 w.heap.size 39 [.bool false, .int .u32 0, .bool false, .int .i64 0, .int .u8 0, .int .u8 0, .int .u8 0, .int .u8 0, .int .u8 0, .int .u8 0, .int .u8 0, .int .u8 0, .bool false, .int .i64 0] by rw [hW0]; exact Blk.new w _ [.bool false, .int .u32 0, .bool false, .int .i64 0, .int .u8 0, .int .u8 0, .int .u8 0, .int .u8 0, .int .u8 0, .int .u8 0, .int .u8 0, .int .u8 0, .bool false, .int .i64 0])
  have HB0 := Lib.hid hb0
  obtain ⟨D, hD⟩ : ∃ D, D = w.heap.size := ⟨_, rfl⟩
  have HD := Lib.hid hD
  rw [← hD] at hS
  have g0 := (h.on hb0).c0
  have g1 := (h.on hb0).c1
  have g2 := (h.on hb0).full hj
  rw [hf] at g2
  have d0 := hS.cellAt (i := 0) (by simp)
  have f0 := hS.frozenAt 0
  have d1 := hS.cellAt (i := 1) (by simp)
  have f1 := hS.frozenAt 1
  have d2 := hS.cellAt (i := 2) (by simp)
  have f2 := hS.frozenAt 2
  have d3 := hS.cellAt (i := 3) (by simp)
  have f3 := hS.frozenAt 3
  have d4 := hS.cellAt (i := 4) (by simp)
  have f4 := hS.frozenAt 4
  have d5 := hS.cellAt (i := 5) (by simp)
  have f5 := hS.frozenAt 5
  have d6 := hS.cellAt (i := 6) (by simp)
  have f6 := hS.frozenAt 6
  have d7 := hS.cellAt (i := 7) (by simp)
  have f7 := hS.frozenAt 7
  have d8 := hS.cellAt (i := 8) (by simp)
  have f8 := hS.frozenAt 8
  have d9 := hS.cellAt (i := 9) (by simp)
  have f9 := hS.frozenAt 9
  have d10 := hS.cellAt (i := 10) (by simp)
  have f10 := hS.frozenAt 10
  have d11 := hS.cellAt (i := 11) (by simp)
  have f11 := hS.frozenAt 11
  have d12 := hS.cellAt (i := 12) (by simp)
  have f12 := hS.frozenAt 12
  have d13 := hS.cellAt (i := 13) (by simp)
  have f13 := hS.frozenAt 13
  simp only [List.getElem_cons_zero, List.getElem_cons_succ] at d0 d1 d2 d3 d4 d5 d6 d7 d8 d9 d10 d11 d12 d13
  have hDB : D ≠ B := fun e => by have := h.blk.lt; omega
  have hDH : D ≠ H := fun e => by have := h.has.lt; omega
  clear hS hb0 h hf
  go_enter Try.func16, Try.ntmps16
  go_upto_region 1 with fail
  rw [← hW0, ← hD]
  clear hW0 hD
  go_wp2_with fail
  refine bodyPost_ret (v := .tuple #[.agg #[.bool false, .int .u32 0, .bool false, .int .i64 0, .int .u8 0, .int .u8 0, .int .u8 0, .int .u8 0, .int .u8 0, .int .u8 0, .int .u8 0, .int .u8 0, .bool false, .int .i64 0], .bool false]) (by simp [results, Try.results16, go_sem, World.cell?_setCell_same', d0, d1, d2, d3, d4, d5, d6, d7, d8, d9, d10, d11, d12, d13]) rfl ?_
  exact ⟨rfl, below14 (n := w.heap.size) (B := D) (by rw [HD.out]; exact Nat.le_refl _) HB0.out (.bool false) (.int .u32 0) (.bool false) (.int .i64 0) (.int .u8 0) (.int .u8 0) (.int .u8 0) (.int .u8 0) (.int .u8 0) (.int .u8 0) (.int .u8 0) (.int .u8 0) (.bool false) (.int .i64 0)⟩
set_option maxRecDepth 100000 in
set_option maxHeartbeats 4000000 in
theorem rbget_yes (B P H : Nat) (L : List BD) (m j : Nat) (hj : j < m) (hf : (bxAt L j).full = true) (w : World) (h : RB w B P H L m) : Calls Try.prog 16 #[.pointer (some ⟨B, 0, none⟩), .int .i64 (j : Int)] w fun y w' => y = .returned (.tuple #[(bxAt L j).p.V, .bool true]) ∧ Below w.heap.size w w' := by
  have i1 : ¬ (j : Int) < 0 := by omega
  have i2 : ¬ (m : Int) ≤ (j : Int) := by omega
  have i3 : (0 : Int) ≤ (j : Int) := by omega
  have i4 : (j : Int) < (m : Int) := by omega
  obtain ⟨W0, hW0⟩ : ∃ W0, W0 = w.alloc (.cells #[.bool false, .int .u32 0, .bool false, .int .i64 0, .int .u8 0, .int .u8 0, .int .u8 0, .int .u8 0, .int .u8 0, .int .u8 0, .int .u8 0, .int .u8 0, .bool false, .int .i64 0] 39) := ⟨_, rfl⟩
  have hb0 : Below w.heap.size w W0 := by rw [hW0]; exact (Below.refl _ w).alloc (Nat.le_refl _) _
  have hS := (show Blk W0 w.heap.size 39 [.bool false, .int .u32 0, .bool false, .int .i64 0, .int .u8 0, .int .u8 0, .int .u8 0, .int .u8 0, .int .u8 0, .int .u8 0, .int .u8 0, .int .u8 0, .bool false, .int .i64 0] by rw [hW0]; exact Blk.new w _ [.bool false, .int .u32 0, .bool false, .int .i64 0, .int .u8 0, .int .u8 0, .int .u8 0, .int .u8 0, .int .u8 0, .int .u8 0, .int .u8 0, .int .u8 0, .bool false, .int .i64 0])
  have HB0 := Lib.hid hb0
  obtain ⟨D, hD⟩ : ∃ D, D = w.heap.size := ⟨_, rfl⟩
  have HD := Lib.hid hD
  rw [← hD] at hS
  have g0 := (h.on hb0).c0
  have g1 := (h.on hb0).c1
  have g2 := (h.on hb0).full hj
  rw [hf] at g2
  have d0 := hS.cellAt (i := 0) (by simp)
  have f0 := hS.frozenAt 0
  have d1 := hS.cellAt (i := 1) (by simp)
  have f1 := hS.frozenAt 1
  have d2 := hS.cellAt (i := 2) (by simp)
  have f2 := hS.frozenAt 2
  have d3 := hS.cellAt (i := 3) (by simp)
  have f3 := hS.frozenAt 3
  have d4 := hS.cellAt (i := 4) (by simp)
  have f4 := hS.frozenAt 4
  have d5 := hS.cellAt (i := 5) (by simp)
  have f5 := hS.frozenAt 5
  have d6 := hS.cellAt (i := 6) (by simp)
  have f6 := hS.frozenAt 6
  have d7 := hS.cellAt (i := 7) (by simp)
  have f7 := hS.frozenAt 7
  have d8 := hS.cellAt (i := 8) (by simp)
  have f8 := hS.frozenAt 8
  have d9 := hS.cellAt (i := 9) (by simp)
  have f9 := hS.frozenAt 9
  have d10 := hS.cellAt (i := 10) (by simp)
  have f10 := hS.frozenAt 10
  have d11 := hS.cellAt (i := 11) (by simp)
  have f11 := hS.frozenAt 11
  have d12 := hS.cellAt (i := 12) (by simp)
  have f12 := hS.frozenAt 12
  have d13 := hS.cellAt (i := 13) (by simp)
  have f13 := hS.frozenAt 13
  simp only [List.getElem_cons_zero, List.getElem_cons_succ] at d0 d1 d2 d3 d4 d5 d6 d7 d8 d9 d10 d11 d12 d13
  have hDB : D ≠ B := fun e => by have := h.blk.lt; omega
  have hDH : D ≠ H := fun e => by have := h.has.lt; omega
  have hDP : D ≠ P := fun e => by have := h.posts.lt; omega
  have hc : ∀ i u, (bxAt L j).p.C[i]? = some u → W0.cell? ⟨P, j * 14 + i, none⟩ = some u := fun i u hu => (h.on hb0).post hj hu
  obtain ⟨b, hb⟩ : ∃ b, b = (bxAt L j).p := ⟨_, rfl⟩
  rw [← hb] at hc ⊢
  clear hb
  obtain ⟨e, n, q, l, x0, x1, x2, x3, x4, x5, x6, x7, once, tag⟩ := b
  unfold PD.V
  simp only
  have e0 : W0.cell? ⟨P, j * 14, none⟩ = some (.bool e) := hc 0 _ rfl
  have e1 : W0.cell? ⟨P, j * 14 + 1, none⟩ = some (.int .u32 (n : Int)) := hc 1 _ rfl
  have e2 : W0.cell? ⟨P, j * 14 + 2, none⟩ = some (.bool q) := hc 2 _ rfl
  have e3 : W0.cell? ⟨P, j * 14 + 3, none⟩ = some (.int .i64 l) := hc 3 _ rfl
  have e4 : W0.cell? ⟨P, j * 14 + 4, none⟩ = some (.int .u8 (x0 : Int)) := hc 4 _ rfl
  have e5 : W0.cell? ⟨P, j * 14 + 5, none⟩ = some (.int .u8 (x1 : Int)) := hc 5 _ rfl
  have e6 : W0.cell? ⟨P, j * 14 + 6, none⟩ = some (.int .u8 (x2 : Int)) := hc 6 _ rfl
  have e7 : W0.cell? ⟨P, j * 14 + 7, none⟩ = some (.int .u8 (x3 : Int)) := hc 7 _ rfl
  have e8 : W0.cell? ⟨P, j * 14 + 8, none⟩ = some (.int .u8 (x4 : Int)) := hc 8 _ rfl
  have e9 : W0.cell? ⟨P, j * 14 + 9, none⟩ = some (.int .u8 (x5 : Int)) := hc 9 _ rfl
  have e10 : W0.cell? ⟨P, j * 14 + 10, none⟩ = some (.int .u8 (x6 : Int)) := hc 10 _ rfl
  have e11 : W0.cell? ⟨P, j * 14 + 11, none⟩ = some (.int .u8 (x7 : Int)) := hc 11 _ rfl
  have e12 : W0.cell? ⟨P, j * 14 + 12, none⟩ = some (.bool once) := hc 12 _ rfl
  have e13 : W0.cell? ⟨P, j * 14 + 13, none⟩ = some (.int .i64 tag) := hc 13 _ rfl
  clear hS hb0 h hf hc
  go_enter Try.func16, Try.ntmps16
  go_upto_region 1 with fail
  rw [← hW0, ← hD]
  clear hW0 hD
  go_wp2_with fail
  refine bodyPost_ret (v := .tuple #[.agg #[.bool e, .int .u32 (n : Int), .bool q, .int .i64 l, .int .u8 (x0 : Int), .int .u8 (x1 : Int), .int .u8 (x2 : Int), .int .u8 (x3 : Int), .int .u8 (x4 : Int), .int .u8 (x5 : Int), .int .u8 (x6 : Int), .int .u8 (x7 : Int), .bool once, .int .i64 tag], .bool true]) (by simp [results, Try.results16, go_sem, World.cell?_setCell_same', d0, d1, d2, d3, d4, d5, d6, d7, d8, d9, d10, d11, d12, d13]) rfl ?_
  exact ⟨rfl, below14 (n := w.heap.size) (B := D) (by rw [HD.out]; exact Nat.le_refl _) HB0.out (.bool e) (.int .u32 (n : Int)) (.bool q) (.int .i64 l) (.int .u8 (x0 : Int)) (.int .u8 (x1 : Int)) (.int .u8 (x2 : Int)) (.int .u8 (x3 : Int)) (.int .u8 (x4 : Int)) (.int .u8 (x5 : Int)) (.int .u8 (x6 : Int)) (.int .u8 (x7 : Int)) (.bool once) (.int .i64 tag)⟩
end Go.Proofs.Ytbdockeopbfliaa
