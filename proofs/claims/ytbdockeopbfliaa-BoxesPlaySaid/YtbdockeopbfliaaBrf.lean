/- The document's own boxes: Take. Conditions: there are at most eight. -/
import Derived.Test.YtbdockeopbfliaaBrc
namespace Go.Proofs.Ytbdockeopbfliaa
open Go.RowKit
set_option linter.unusedSimpArgs false
set_option linter.unusedVariables false
theorem rp_put {W : World} {P : Nat} {M : List BD} (h : Blk W P 39 (rpC M)) {j : Nat} (hj : j < M.length) (b : BD) : Blk (W.setCells P (j * 14) b.p.C) P 39 (rpC (M.set j b)) := by
  refine Blk.of_row (Go.rowIs_setCells b.p.C (j * 14) W _ h.row) (rpC (M.set j b)) (by rw [rpC_len, rpC_len, List.length_set]) (fun i hi => ?_)
  rw [rpC_len, List.length_set] at hi
  have hq : i / 14 < M.length := by omega
  have hr : i % 14 < 14 := Nat.mod_lt _ (by omega)
  have e0 := flat_at 14 (fun b : BD => b.p.C) (fun b => PD.len b.p) M (i / 14) (i % 14) hq hr
  have e1 := flat_at 14 (fun b : BD => b.p.C) (fun b => PD.len b.p) (M.set j b) (i / 14) (i % 14) (by rw [List.length_set]; exact hq) hr
  rw [show i / 14 * 14 + i % 14 = i by omega] at e0 e1
  have hlt : i < (rpC (M.set j b)).length := by rw [rpC_len, List.length_set]; exact hi
  have hlt0 : i < (rpC M).length := by rw [rpC_len]; exact hi
  have e2 : (rpC (M.set j b))[i]? = ((M.set j b)[i / 14]'(by rw [List.length_set]; exact hq)).p.C[i % 14]? := e1
  have e3 : (rpC M)[i]? = (M[i / 14]).p.C[i % 14]? := e0
  rw [List.getElem?_eq_getElem hlt] at e2
  by_cases hin : j * 14 ≤ i ∧ i < j * 14 + b.p.C.length
  · rw [if_pos hin]
    have hl := hin.2
    rw [PD.len] at hl
    have hji : j = i / 14 := by omega
    rw [List.getElem_set, if_pos hji] at e2
    rw [show i % 14 = i - j * 14 by omega] at e2
    rw [← e2]
    rfl
  · rw [if_neg hin]
    rw [PD.len] at hin
    have hji : ¬ j = i / 14 := by omega
    rw [List.getElem_set, if_neg hji, ← e3] at e2
    rw [← e2]
    rfl
theorem rh_put {W : World} {H : Nat} {M : List BD} (h : Blk W H 4 (rhC M)) {j : Nat} (hj : j < M.length) (b : BD) : Blk (W.setCell ⟨H, j, none⟩ (.bool b.full)) H 4 (rhC (M.set j b)) := by
  have e : rhC (M.set j b) = (rhC M).set j (.bool b.full) := by unfold rhC; rw [List.map_set]
  rw [e]
  exact h.put1 (by rw [rhC_len]; exact hj) _
theorem RB.mk2 {W X : World} {B P H : Nat} {L : List BD} {m : Nat} (h : RB W B P H L m) {j : Nat} (b : BD) (hB : Blk X B 51 [.slice (some ⟨P, 0, none⟩) m m, .slice (some ⟨H, 0, none⟩) m m]) (hP : Blk X P 39 (rpC ((L.take m).set j b))) (hH : Blk X H 4 (rhC ((L.take m).set j b))) : RB X B P H (L.set j b) m :=
  ⟨hB, by rw [List.take_set]; exact hP, by rw [List.take_set]; exact hH, by rw [List.length_set]; exact h.eight, h.r1, h.r8, h.bp, h.bh, h.ph⟩
set_option maxRecDepth 100000 in
set_option maxHeartbeats 8000000 in
theorem rbtake_low (B P H : Nat) (L : List BD) (m : Nat) (i : Int) (i1 : i < 0) (w : World) (h : RB w B P H L m) : Calls Try.prog 14 #[.pointer (some ⟨B, 0, none⟩), .int .i64 i] w fun y w' => y = .returned (.tuple #[PD.zero.V, .int .i64 1]) ∧ Below w.heap.size w w' := by
  obtain ⟨W0, hW0⟩ : ∃ W0, W0 = w.alloc (.cells #[.bool false, .int .u32 0, .bool false, .int .i64 0, .int .u8 0, .int .u8 0, .int .u8 0, .int .u8 0, .int .u8 0, .int .u8 0, .int .u8 0, .int .u8 0, .bool false, .int .i64 0] 39) := ⟨_, rfl⟩
  have hb0 : Below w.heap.size w W0 := by rw [hW0]; exact (Below.refl _ w).alloc (Nat.le_refl _) _
  have hS := (show Blk W0 w.heap.size 39 [.bool false, .int .u32 0, .bool false, .int .i64 0, .int .u8 0, .int .u8 0, .int .u8 0, .int .u8 0, .int .u8 0, .int .u8 0, .int .u8 0, .int .u8 0, .bool false, .int .i64 0] by rw [hW0]; exact Blk.new w _ [.bool false, .int .u32 0, .bool false, .int .i64 0, .int .u8 0, .int .u8 0, .int .u8 0, .int .u8 0, .int .u8 0, .int .u8 0, .int .u8 0, .int .u8 0, .bool false, .int .i64 0])
  have HB0 := Lib.hid hb0
  obtain ⟨D, hD⟩ : ∃ D, D = w.heap.size := ⟨_, rfl⟩
  have HD := Lib.hid hD
  rw [← hD] at hS
  have HSB := Lib.hid hS
  have g0 := (h.on hb0).c0
  have g1 := (h.on hb0).c1
  have d0 := hS.cellAt (i := 0) (by simp)
  have f0 := hS.frozenAt 0
  have d1 := hS.cellAt (i := 1) (by simp)
  have f1 := hS.frozenAt 1
  have d2 := hS.cellAt (i := 2) (by simp)
  have f2 := hS.frozenAt 2
  have d3 := hS.cellAt (i := 3) (by simp)
  have f3 := hS.frozenAt 3
  have d4 := hS.cellAt (i := 4) (by simp)
  have f4 := hS.frozenAt 4
  have d5 := hS.cellAt (i := 5) (by simp)
  have f5 := hS.frozenAt 5
  have d6 := hS.cellAt (i := 6) (by simp)
  have f6 := hS.frozenAt 6
  have d7 := hS.cellAt (i := 7) (by simp)
  have f7 := hS.frozenAt 7
  have d8 := hS.cellAt (i := 8) (by simp)
  have f8 := hS.frozenAt 8
  have d9 := hS.cellAt (i := 9) (by simp)
  have f9 := hS.frozenAt 9
  have d10 := hS.cellAt (i := 10) (by simp)
  have f10 := hS.frozenAt 10
  have d11 := hS.cellAt (i := 11) (by simp)
  have f11 := hS.frozenAt 11
  have d12 := hS.cellAt (i := 12) (by simp)
  have f12 := hS.frozenAt 12
  have d13 := hS.cellAt (i := 13) (by simp)
  have f13 := hS.frozenAt 13
  simp only [List.getElem_cons_zero, List.getElem_cons_succ] at d0 d1 d2 d3 d4 d5 d6 d7 d8 d9 d10 d11 d12 d13
  have hDB : D ≠ B := fun e => by have := h.blk.lt; omega
  clear hS hb0 h
  go_enter Try.func14, Try.ntmps14
  go_upto_region 1 with fail
  rw [← hW0, ← hD]
  clear hW0 hD
  go_wp2_with fail
  refine bodyPost_ret (v := .tuple #[.agg #[.bool false, .int .u32 0, .bool false, .int .i64 0, .int .u8 0, .int .u8 0, .int .u8 0, .int .u8 0, .int .u8 0, .int .u8 0, .int .u8 0, .int .u8 0, .bool false, .int .i64 0], .int .i64 1]) (by simp [results, Try.results14, go_sem, World.cell?_setCell_same', d0, d1, d2, d3, d4, d5, d6, d7, d8, d9, d10, d11, d12, d13]) rfl ?_
  exact ⟨rfl, below14 (n := w.heap.size) (B := D) (by rw [HD.out]; exact Nat.le_refl _) HB0.out (.bool false) (.int .u32 0) (.bool false) (.int .i64 0) (.int .u8 0) (.int .u8 0) (.int .u8 0) (.int .u8 0) (.int .u8 0) (.int .u8 0) (.int .u8 0) (.int .u8 0) (.bool false) (.int .i64 0)⟩
set_option maxRecDepth 100000 in
set_option maxHeartbeats 8000000 in
theorem rbtake_high (B P H : Nat) (L : List BD) (m : Nat) (i : Int) (i1 : (m : Int) ≤ i) (w : World) (h : RB w B P H L m) : Calls Try.prog 14 #[.pointer (some ⟨B, 0, none⟩), .int .i64 i] w fun y w' => y = .returned (.tuple #[PD.zero.V, .int .i64 1]) ∧ Below w.heap.size w w' := by
  have i2 : ¬ i < 0 := by omega
  obtain ⟨W0, hW0⟩ : ∃ W0, W0 = w.alloc (.cells #[.bool false, .int .u32 0, .bool false, .int .i64 0, .int .u8 0, .int .u8 0, .int .u8 0, .int .u8 0, .int .u8 0, .int .u8 0, .int .u8 0, .int .u8 0, .bool false, .int .i64 0] 39) := ⟨_, rfl⟩
  have hb0 : Below w.heap.size w W0 := by rw [hW0]; exact (Below.refl _ w).alloc (Nat.le_refl _) _
  have hS := (show Blk W0 w.heap.size 39 [.bool false, .int .u32 0, .bool false, .int .i64 0, .int .u8 0, .int .u8 0, .int .u8 0, .int .u8 0, .int .u8 0, .int .u8 0, .int .u8 0, .int .u8 0, .bool false, .int .i64 0] by rw [hW0]; exact Blk.new w _ [.bool false, .int .u32 0, .bool false, .int .i64 0, .int .u8 0, .int .u8 0, .int .u8 0, .int .u8 0, .int .u8 0, .int .u8 0, .int .u8 0, .int .u8 0, .bool false, .int .i64 0])
  have HB0 := Lib.hid hb0
  obtain ⟨D, hD⟩ : ∃ D, D = w.heap.size := ⟨_, rfl⟩
  have HD := Lib.hid hD
  rw [← hD] at hS
  have HSB := Lib.hid hS
  have g0 := (h.on hb0).c0
  have g1 := (h.on hb0).c1
  have d0 := hS.cellAt (i := 0) (by simp)
  have f0 := hS.frozenAt 0
  have d1 := hS.cellAt (i := 1) (by simp)
  have f1 := hS.frozenAt 1
  have d2 := hS.cellAt (i := 2) (by simp)
  have f2 := hS.frozenAt 2
  have d3 := hS.cellAt (i := 3) (by simp)
  have f3 := hS.frozenAt 3
  have d4 := hS.cellAt (i := 4) (by simp)
  have f4 := hS.frozenAt 4
  have d5 := hS.cellAt (i := 5) (by simp)
  have f5 := hS.frozenAt 5
  have d6 := hS.cellAt (i := 6) (by simp)
  have f6 := hS.frozenAt 6
  have d7 := hS.cellAt (i := 7) (by simp)
  have f7 := hS.frozenAt 7
  have d8 := hS.cellAt (i := 8) (by simp)
  have f8 := hS.frozenAt 8
  have d9 := hS.cellAt (i := 9) (by simp)
  have f9 := hS.frozenAt 9
  have d10 := hS.cellAt (i := 10) (by simp)
  have f10 := hS.frozenAt 10
  have d11 := hS.cellAt (i := 11) (by simp)
  have f11 := hS.frozenAt 11
  have d12 := hS.cellAt (i := 12) (by simp)
  have f12 := hS.frozenAt 12
  have d13 := hS.cellAt (i := 13) (by simp)
  have f13 := hS.frozenAt 13
  simp only [List.getElem_cons_zero, List.getElem_cons_succ] at d0 d1 d2 d3 d4 d5 d6 d7 d8 d9 d10 d11 d12 d13
  have hDB : D ≠ B := fun e => by have := h.blk.lt; omega
  clear hS hb0 h
  go_enter Try.func14, Try.ntmps14
  go_upto_region 1 with fail
  rw [← hW0, ← hD]
  clear hW0 hD
  go_wp2_with fail
  refine bodyPost_ret (v := .tuple #[.agg #[.bool false, .int .u32 0, .bool false, .int .i64 0, .int .u8 0, .int .u8 0, .int .u8 0, .int .u8 0, .int .u8 0, .int .u8 0, .int .u8 0, .int .u8 0, .bool false, .int .i64 0], .int .i64 1]) (by simp [results, Try.results14, go_sem, World.cell?_setCell_same', d0, d1, d2, d3, d4, d5, d6, d7, d8, d9, d10, d11, d12, d13]) rfl ?_
  exact ⟨rfl, below14 (n := w.heap.size) (B := D) (by rw [HD.out]; exact Nat.le_refl _) HB0.out (.bool false) (.int .u32 0) (.bool false) (.int .i64 0) (.int .u8 0) (.int .u8 0) (.int .u8 0) (.int .u8 0) (.int .u8 0) (.int .u8 0) (.int .u8 0) (.int .u8 0) (.bool false) (.int .i64 0)⟩
set_option maxRecDepth 100000 in
set_option maxHeartbeats 8000000 in
theorem rbtake_free (B P H : Nat) (L : List BD) (m j : Nat) (hj : j < m) (hf : (bxAt L j).full = false) (w : World) (h : RB w B P H L m) : Calls Try.prog 14 #[.pointer (some ⟨B, 0, none⟩), .int .i64 (j : Int)] w fun y w' => y = .returned (.tuple #[PD.zero.V, .int .i64 7]) ∧ Below w.heap.size w w' := by
  have i1 : ¬ (j : Int) < 0 := by omega
  have i2 : ¬ (m : Int) ≤ (j : Int) := by omega
  obtain ⟨W0, hW0⟩ : ∃ W0, W0 = w.alloc (.cells #[.bool false, .int .u32 0, .bool false, .int .i64 0, .int .u8 0, .int .u8 0, .int .u8 0, .int .u8 0, .int .u8 0, .int .u8 0, .int .u8 0, .int .u8 0, .bool false, .int .i64 0] 39) := ⟨_, rfl⟩
  have hb0 : Below w.heap.size w W0 := by rw [hW0]; exact (Below.refl _ w).alloc (Nat.le_refl _) _
  have hS := (show Blk W0 w.heap.size 39 [.bool false, .int .u32 0, .bool false, .int .i64 0, .int .u8 0, .int .u8 0, .int .u8 0, .int .u8 0, .int .u8 0, .int .u8 0, .int .u8 0, .int .u8 0, .bool false, .int .i64 0] by rw [hW0]; exact Blk.new w _ [.bool false, .int .u32 0, .bool false, .int .i64 0, .int .u8 0, .int .u8 0, .int .u8 0, .int .u8 0, .int .u8 0, .int .u8 0, .int .u8 0, .int .u8 0, .bool false, .int .i64 0])
  have HB0 := Lib.hid hb0
  obtain ⟨D, hD⟩ : ∃ D, D = w.heap.size := ⟨_, rfl⟩
  have HD := Lib.hid hD
  rw [← hD] at hS
  have HSB := Lib.hid hS
  have g0 := (h.on hb0).c0
  have g1 := (h.on hb0).c1
  have HGE := Lib.hid (rbget_free B P H L m j hj hf W0 (h.on hb0))
  unfold PD.V PD.zero at HGE
  simp only at HGE
  have hDB : D ≠ B := fun e => by have := h.blk.lt; omega
  clear hS hb0 h hf
  go_enter Try.func14, Try.ntmps14
  go_upto_region 1 with fail
  rw [← hW0, ← hD]
  clear hW0 hD
  go_wp2_with fail
  refine HGE.out.mono ?_
  rintro y w2 ⟨rfl, hb⟩
  have HB1 := Lib.hid hb
  obtain ⟨W2, hW2⟩ : ∃ W2, W2 = w2.alloc (.cells #[.bool false, .int .u32 0, .bool false, .int .i64 0, .int .u8 0, .int .u8 0, .int .u8 0, .int .u8 0, .int .u8 0, .int .u8 0, .int .u8 0, .int .u8 0, .bool false, .int .i64 0] 39) := ⟨_, rfl⟩
  have hb2 : Below w2.heap.size w2 W2 := by rw [hW2]; exact (Below.refl _ w2).alloc (Nat.le_refl _) _
  have HB2 := Lib.hid (below_transG HB0.out (below_transG HB1.out hb2))
  have hS2 := (HSB.out.keep hb HSB.out.lt).keep hb2 (Nat.lt_of_lt_of_le HSB.out.lt hb.size)
  clear hb hb2
  go_upto_region 6 with fail
  rw [← hW2]
  clear hW2 g0 g1
  have d0 := hS2.cellAt (i := 0) (by simp)
  have f0 := hS2.frozenAt 0
  have d1 := hS2.cellAt (i := 1) (by simp)
  have f1 := hS2.frozenAt 1
  have d2 := hS2.cellAt (i := 2) (by simp)
  have f2 := hS2.frozenAt 2
  have d3 := hS2.cellAt (i := 3) (by simp)
  have f3 := hS2.frozenAt 3
  have d4 := hS2.cellAt (i := 4) (by simp)
  have f4 := hS2.frozenAt 4
  have d5 := hS2.cellAt (i := 5) (by simp)
  have f5 := hS2.frozenAt 5
  have d6 := hS2.cellAt (i := 6) (by simp)
  have f6 := hS2.frozenAt 6
  have d7 := hS2.cellAt (i := 7) (by simp)
  have f7 := hS2.frozenAt 7
  have d8 := hS2.cellAt (i := 8) (by simp)
  have f8 := hS2.frozenAt 8
  have d9 := hS2.cellAt (i := 9) (by simp)
  have f9 := hS2.frozenAt 9
  have d10 := hS2.cellAt (i := 10) (by simp)
  have f10 := hS2.frozenAt 10
  have d11 := hS2.cellAt (i := 11) (by simp)
  have f11 := hS2.frozenAt 11
  have d12 := hS2.cellAt (i := 12) (by simp)
  have f12 := hS2.frozenAt 12
  have d13 := hS2.cellAt (i := 13) (by simp)
  have f13 := hS2.frozenAt 13
  simp only [List.getElem_cons_zero, List.getElem_cons_succ] at d0 d1 d2 d3 d4 d5 d6 d7 d8 d9 d10 d11 d12 d13
  clear hS2
  go_wp2_with fail
  refine bodyPost_ret (v := .tuple #[.agg #[.bool false, .int .u32 0, .bool false, .int .i64 0, .int .u8 0, .int .u8 0, .int .u8 0, .int .u8 0, .int .u8 0, .int .u8 0, .int .u8 0, .int .u8 0, .bool false, .int .i64 0], .int .i64 7]) (by simp [results, Try.results14, go_sem, World.cell?_setCell_same', d0, d1, d2, d3, d4, d5, d6, d7, d8, d9, d10, d11, d12, d13]) rfl ?_
  exact ⟨rfl, below14 (n := w.heap.size) (B := D) (by rw [HD.out]; exact Nat.le_refl _) HB2.out (.bool false) (.int .u32 0) (.bool false) (.int .i64 0) (.int .u8 0) (.int .u8 0) (.int .u8 0) (.int .u8 0) (.int .u8 0) (.int .u8 0) (.int .u8 0) (.int .u8 0) (.bool false) (.int .i64 0)⟩
theorem Kp.setV {B H c j : Nat} {m : Nat} {w W : World} (h : Kp B (.slice (some ⟨H, 0, none⟩) m c) w W) (u : Value) : Kp B (.slice (some ⟨H, 0, none⟩) m c) w (W.setCell ⟨H, j, none⟩ u) := by
  have hk : Kp H (.slice none 0 0) W (W.setCell ⟨H, j, none⟩ u) := (Kp.refl H (.slice none 0 0) W).set j u
  refine ⟨hk.os.trans h.os, hk.tape.trans h.tape, hk.output.trans h.output, Nat.le_trans h.size hk.size, fun k h1 h2 h3 => ?_⟩
  have hne : k ≠ H := fun e => h3 (by rw [e]; rfl)
  exact (hk.block k (Nat.lt_of_lt_of_le h1 h.size) hne (fun e => by cases e)).trans (h.block k h1 h2 h3)
theorem RB.onN {W X : World} {B P H N : Nat} {L : List BD} {m : Nat} (h : RB W B P H L m) (hb : Below N W X) (hB : B < N) (hP : P < N) (hH : H < N) : RB X B P H L m := ⟨h.blk.keep hb hB, h.posts.keep hb hP, h.has.keep hb hH, h.eight, h.r1, h.r8, h.bp, h.bh, h.ph⟩
theorem post_cells {W : World} {P : Nat} {M : List BD} (h : Blk W P 39 (rpC M)) {j : Nat} (hj : j < M.length) : ∀ i, i < 14 → ∃ u, W.cell? ⟨P, j * 14 + i, none⟩ = some u ∧ W.frozen? ⟨P, j * 14 + i, none⟩ = false := fun i hi => by
  have hl : j * 14 + i < (rpC M).length := by rw [rpC_len]; omega
  exact ⟨_, h.cellAt hl, h.frozenAt _⟩
set_option maxRecDepth 100000 in
set_option maxHeartbeats 8000000 in
theorem rbtake_yes (B P H : Nat) (L : List BD) (m j : Nat) (hj : j < m) (hf : (bxAt L j).full = true) (w : World) (h : RB w B P H L m) : Calls Try.prog 14 #[.pointer (some ⟨B, 0, none⟩), .int .i64 (j : Int)] w fun y w' => y = .returned (.tuple #[(bxAt L j).p.V, .int .i64 0]) ∧ RB w' B P H (L.set j BD.zero) m ∧ Kp P (.slice (some ⟨H, 0, none⟩) m m) w w' := by
  have i1 : ¬ (j : Int) < 0 := by omega
  have i2 : ¬ (m : Int) ≤ (j : Int) := by omega
  have i3 : (0 : Int) ≤ (j : Int) := by omega
  have i4 : (j : Int) < (m : Int) := by omega
  obtain ⟨W0, hW0⟩ : ∃ W0, W0 = w.alloc (.cells #[.bool false, .int .u32 0, .bool false, .int .i64 0, .int .u8 0, .int .u8 0, .int .u8 0, .int .u8 0, .int .u8 0, .int .u8 0, .int .u8 0, .int .u8 0, .bool false, .int .i64 0] 39) := ⟨_, rfl⟩
  have hb0 : Below w.heap.size w W0 := by rw [hW0]; exact (Below.refl _ w).alloc (Nat.le_refl _) _
  have hS := (show Blk W0 w.heap.size 39 [.bool false, .int .u32 0, .bool false, .int .i64 0, .int .u8 0, .int .u8 0, .int .u8 0, .int .u8 0, .int .u8 0, .int .u8 0, .int .u8 0, .int .u8 0, .bool false, .int .i64 0] by rw [hW0]; exact Blk.new w _ [.bool false, .int .u32 0, .bool false, .int .i64 0, .int .u8 0, .int .u8 0, .int .u8 0, .int .u8 0, .int .u8 0, .int .u8 0, .int .u8 0, .int .u8 0, .bool false, .int .i64 0])
  have HB0 := Lib.hid hb0
  obtain ⟨D, hD⟩ : ∃ D, D = w.heap.size := ⟨_, rfl⟩
  have HD := Lib.hid hD
  rw [← hD] at hS
  have HSB := Lib.hid hS
  have g0 := (h.on hb0).c0
  have g1 := (h.on hb0).c1
  have HGE := Lib.hid (rbget_yes B P H L m j hj hf W0 (h.on hb0))
  have HX0 := Lib.hid (h.on hb0)
  have HBLT := Lib.hid h.blk.lt; have HPLT := Lib.hid h.posts.lt; have HHLT := Lib.hid h.has.lt
  have HP0 := Lib.hid (show Kp P (.slice (some ⟨H, 0, none⟩) m m) w W0 from Kp.of_below hb0)
  obtain ⟨b, hb⟩ : ∃ b, b = (bxAt L j).p := ⟨_, rfl⟩
  rw [← hb] at HGE ⊢
  clear hb
  obtain ⟨e, n, q, l, x0, x1, x2, x3, x4, x5, x6, x7, once, tag⟩ := b
  unfold PD.V at HGE ⊢
  simp only at HGE ⊢
  have HJM := Lib.hid (show j < (L.take m).length by rw [h.tl]; exact hj)
  clear hS hb0 h hf
  go_enter Try.func14, Try.ntmps14
  go_upto_region 1 with fail
  rw [← hW0, ← hD]
  clear hW0 hD
  go_wp2_with fail
  refine HGE.out.mono ?_
  rintro y w2 ⟨rfl, hb⟩
  have HB1 := Lib.hid hb
  obtain ⟨W2, hW2⟩ : ∃ W2, W2 = w2.alloc (.cells #[.bool e, .int .u32 (n : Int), .bool q, .int .i64 l, .int .u8 (x0 : Int), .int .u8 (x1 : Int), .int .u8 (x2 : Int), .int .u8 (x3 : Int), .int .u8 (x4 : Int), .int .u8 (x5 : Int), .int .u8 (x6 : Int), .int .u8 (x7 : Int), .bool once, .int .i64 tag] 39) := ⟨_, rfl⟩
  have hb2 : Below w2.heap.size w2 W2 := by rw [hW2]; exact (Below.refl _ w2).alloc (Nat.le_refl _) _
  have HB2 := Lib.hid (below_transG HB1.out hb2)
  have HS2 := Lib.hid ((HSB.out.keep hb HSB.out.lt).keep hb2 (Nat.lt_of_lt_of_le HSB.out.lt hb.size))
  have HPB := Lib.hid (show Blk W2 w2.heap.size 39 [.bool e, .int .u32 (n : Int), .bool q, .int .i64 l, .int .u8 (x0 : Int), .int .u8 (x1 : Int), .int .u8 (x2 : Int), .int .u8 (x3 : Int), .int .u8 (x4 : Int), .int .u8 (x5 : Int), .int .u8 (x6 : Int), .int .u8 (x7 : Int), .bool once, .int .i64 tag] by rw [hW2]; exact Blk.new w2 _ [.bool e, .int .u32 (n : Int), .bool q, .int .i64 l, .int .u8 (x0 : Int), .int .u8 (x1 : Int), .int .u8 (x2 : Int), .int .u8 (x3 : Int), .int .u8 (x4 : Int), .int .u8 (x5 : Int), .int .u8 (x6 : Int), .int .u8 (x7 : Int), .bool once, .int .i64 tag])
  have HD2 := Lib.hid (show D < w2.heap.size from Nat.lt_of_lt_of_le HSB.out.lt hb.size)
  have HX2 := Lib.hid (HX0.out.on HB2.out)
  clear hb hb2 g0 g1
  go_upto_region 6 with fail
  rw [← hW2]
  clear hW2
  obtain ⟨D2, hD2⟩ : ∃ D2, D2 = w2.heap.size := ⟨_, rfl⟩
  rw [← hD2] at HPB HD2 ⊢
  clear hD2
  have g1 := HX2.out.c1
  have g2 := HX2.out.has.cellAt (i := j) (by rw [rhC_len]; exact HJM.out)
  have g3 := HX2.out.has.frozenAt j
  go_upto_region 9 with fail
  obtain ⟨W3, hW3⟩ : ∃ W3, W3 = W2.setCell ⟨H, j, none⟩ (.bool false) := ⟨_, rfl⟩
  have HH3 := Lib.hid (show Blk W3 H 4 (rhC ((L.take m).set j BD.zero)) by rw [hW3]; exact rh_put HX2.out.has HJM.out BD.zero)
  have HP3 := Lib.hid (show Blk W3 P 39 (rpC (L.take m)) by rw [hW3]; exact HX2.out.posts.puts (fun e => HX2.out.ph e.symm) _ _)
  have HA3 := Lib.hid (show Blk W3 B 51 [.slice (some ⟨P, 0, none⟩) m m, .slice (some ⟨H, 0, none⟩) m m] by rw [hW3]; exact HX2.out.blk.puts (fun e => HX2.out.bh e.symm) _ _)
  have HK3 := Lib.hid (show Kp P (.slice (some ⟨H, 0, none⟩) m m) w W3 by rw [hW3]; exact (HP0.out.step HB2.out).setV _)
  have hDH : H ≠ D := fun e => by have := HHLT.out; have := HD.out; omega
  have hD2H : H ≠ D2 := fun e => by have := HHLT.out; have := HD.out; have := HD2.out; omega
  have HS3 := Lib.hid (show Blk W3 D 39 [.bool false, .int .u32 0, .bool false, .int .i64 0, .int .u8 0, .int .u8 0, .int .u8 0, .int .u8 0, .int .u8 0, .int .u8 0, .int .u8 0, .int .u8 0, .bool false, .int .i64 0] by rw [hW3]; exact HS2.out.puts hDH _ _)
  have HQ3 := Lib.hid (show Blk W3 D2 39 [.bool e, .int .u32 (n : Int), .bool q, .int .i64 l, .int .u8 (x0 : Int), .int .u8 (x1 : Int), .int .u8 (x2 : Int), .int .u8 (x3 : Int), .int .u8 (x4 : Int), .int .u8 (x5 : Int), .int .u8 (x6 : Int), .int .u8 (x7 : Int), .bool once, .int .i64 tag] by rw [hW3]; exact HPB.out.puts hD2H _ _)
  rw [← hW3]
  clear hW3 g1 g2 g3
  have g0 : W3.cell? ⟨B, 0, none⟩ = some (.slice (some ⟨P, 0, none⟩) m m) := HA3.out.cellAt (i := 0) (by simp)
  have hcx := post_cells HP3.out HJM.out
  obtain ⟨u0, c0, z0⟩ := hcx 0 (by omega)
  obtain ⟨u1, c1, z1⟩ := hcx 1 (by omega)
  obtain ⟨u2, c2, z2⟩ := hcx 2 (by omega)
  obtain ⟨u3, c3, z3⟩ := hcx 3 (by omega)
  obtain ⟨u4, c4, z4⟩ := hcx 4 (by omega)
  obtain ⟨u5, c5, z5⟩ := hcx 5 (by omega)
  obtain ⟨u6, c6, z6⟩ := hcx 6 (by omega)
  obtain ⟨u7, c7, z7⟩ := hcx 7 (by omega)
  obtain ⟨u8, c8, z8⟩ := hcx 8 (by omega)
  obtain ⟨u9, c9, z9⟩ := hcx 9 (by omega)
  obtain ⟨u10, c10, z10⟩ := hcx 10 (by omega)
  obtain ⟨u11, c11, z11⟩ := hcx 11 (by omega)
  obtain ⟨u12, c12, z12⟩ := hcx 12 (by omega)
  obtain ⟨u13, c13, z13⟩ := hcx 13 (by omega)
  rw [Nat.add_zero] at c0 z0
  obtain ⟨X, hX⟩ : ∃ X, X = ((((((((((((((W3.setCell ⟨P, j * 14, none⟩ (.bool false)).setCell ⟨P, j * 14 + 1, none⟩ (.int .u32 0)).setCell ⟨P, j * 14 + 2, none⟩ (.bool false)).setCell ⟨P, j * 14 + 3, none⟩ (.int .i64 0)).setCell ⟨P, j * 14 + 4, none⟩ (.int .u8 0)).setCell ⟨P, j * 14 + 5, none⟩ (.int .u8 0)).setCell ⟨P, j * 14 + 6, none⟩ (.int .u8 0)).setCell ⟨P, j * 14 + 7, none⟩ (.int .u8 0)).setCell ⟨P, j * 14 + 8, none⟩ (.int .u8 0)).setCell ⟨P, j * 14 + 9, none⟩ (.int .u8 0)).setCell ⟨P, j * 14 + 10, none⟩ (.int .u8 0)).setCell ⟨P, j * 14 + 11, none⟩ (.int .u8 0)).setCell ⟨P, j * 14 + 12, none⟩ (.bool false)).setCell ⟨P, j * 14 + 13, none⟩ (.int .i64 0)) := ⟨_, rfl⟩
  have hXe : X = W3.setCells P (j * 14) PD.zero.C := by rw [hX]; rfl
  have HPX := Lib.hid (show Blk X P 39 (rpC ((L.take m).set j BD.zero)) by rw [hXe]; exact rp_put HP3.out HJM.out BD.zero)
  have HHX := Lib.hid (show Blk X H 4 (rhC ((L.take m).set j BD.zero)) by rw [hXe]; exact HH3.out.on (heap_setCellsG (fun e => HX2.out.ph e.symm) _ _ _))
  have HAX := Lib.hid (show Blk X B 51 [.slice (some ⟨P, 0, none⟩) m m, .slice (some ⟨H, 0, none⟩) m m] by rw [hXe]; exact HA3.out.on (heap_setCellsG HX2.out.bp _ _ _))
  have HKX := Lib.hid (show Kp P (.slice (some ⟨H, 0, none⟩) m m) w X by rw [hXe]; exact Kp.setCells _ _ _ HK3.out)
  have hDP : D ≠ P := fun e => by have := HPLT.out; have := HD.out; omega
  have hD2P : D2 ≠ P := fun e => by have := HPLT.out; have := HD.out; have := HD2.out; omega
  have hS := (show Blk X D 39 [.bool false, .int .u32 0, .bool false, .int .i64 0, .int .u8 0, .int .u8 0, .int .u8 0, .int .u8 0, .int .u8 0, .int .u8 0, .int .u8 0, .int .u8 0, .bool false, .int .i64 0] by rw [hXe]; exact HS3.out.on (heap_setCellsG hDP _ _ _))
  have hQ := (show Blk X D2 39 [.bool e, .int .u32 (n : Int), .bool q, .int .i64 l, .int .u8 (x0 : Int), .int .u8 (x1 : Int), .int .u8 (x2 : Int), .int .u8 (x3 : Int), .int .u8 (x4 : Int), .int .u8 (x5 : Int), .int .u8 (x6 : Int), .int .u8 (x7 : Int), .bool once, .int .i64 tag] by rw [hXe]; exact HQ3.out.on (heap_setCellsG hD2P _ _ _))
  have HRX := Lib.hid (HX2.out.mk2 (j := j) BD.zero HAX.out HPX.out HHX.out)
  have d0 := hS.cellAt (i := 0) (by simp)
  have f0 := hS.frozenAt 0
  have d1 := hS.cellAt (i := 1) (by simp)
  have f1 := hS.frozenAt 1
  have d2 := hS.cellAt (i := 2) (by simp)
  have f2 := hS.frozenAt 2
  have d3 := hS.cellAt (i := 3) (by simp)
  have f3 := hS.frozenAt 3
  have d4 := hS.cellAt (i := 4) (by simp)
  have f4 := hS.frozenAt 4
  have d5 := hS.cellAt (i := 5) (by simp)
  have f5 := hS.frozenAt 5
  have d6 := hS.cellAt (i := 6) (by simp)
  have f6 := hS.frozenAt 6
  have d7 := hS.cellAt (i := 7) (by simp)
  have f7 := hS.frozenAt 7
  have d8 := hS.cellAt (i := 8) (by simp)
  have f8 := hS.frozenAt 8
  have d9 := hS.cellAt (i := 9) (by simp)
  have f9 := hS.frozenAt 9
  have d10 := hS.cellAt (i := 10) (by simp)
  have f10 := hS.frozenAt 10
  have d11 := hS.cellAt (i := 11) (by simp)
  have f11 := hS.frozenAt 11
  have d12 := hS.cellAt (i := 12) (by simp)
  have f12 := hS.frozenAt 12
  have d13 := hS.cellAt (i := 13) (by simp)
  have f13 := hS.frozenAt 13
  simp only [List.getElem_cons_zero, List.getElem_cons_succ] at d0 d1 d2 d3 d4 d5 d6 d7 d8 d9 d10 d11 d12 d13
  have k0 := hQ.cellAt (i := 0) (by simp)
  have k1 := hQ.cellAt (i := 1) (by simp)
  have k2 := hQ.cellAt (i := 2) (by simp)
  have k3 := hQ.cellAt (i := 3) (by simp)
  have k4 := hQ.cellAt (i := 4) (by simp)
  have k5 := hQ.cellAt (i := 5) (by simp)
  have k6 := hQ.cellAt (i := 6) (by simp)
  have k7 := hQ.cellAt (i := 7) (by simp)
  have k8 := hQ.cellAt (i := 8) (by simp)
  have k9 := hQ.cellAt (i := 9) (by simp)
  have k10 := hQ.cellAt (i := 10) (by simp)
  have k11 := hQ.cellAt (i := 11) (by simp)
  have k12 := hQ.cellAt (i := 12) (by simp)
  have k13 := hQ.cellAt (i := 13) (by simp)
  simp only [List.getElem_cons_zero, List.getElem_cons_succ] at k0 k1 k2 k3 k4 k5 k6 k7 k8 k9 k10 k11 k12 k13
  clear hS hQ hcx hXe
  go_upto_region 10 with fail
  rw [← hX]
  clear hX c0 z0 c1 z1 c2 z2 c3 z3 c4 z4 c5 z5 c6 z6 c7 z7 c8 z8 c9 z9 c10 z10 c11 z11 c12 z12 c13 z13 g0
  go_wp2_with fail
  refine bodyPost_ret (v := .tuple #[.agg #[.bool e, .int .u32 (n : Int), .bool q, .int .i64 l, .int .u8 (x0 : Int), .int .u8 (x1 : Int), .int .u8 (x2 : Int), .int .u8 (x3 : Int), .int .u8 (x4 : Int), .int .u8 (x5 : Int), .int .u8 (x6 : Int), .int .u8 (x7 : Int), .bool once, .int .i64 tag], .int .i64 0]) (by simp [results, Try.results14, go_sem, World.cell?_setCell_same', d0, d1, d2, d3, d4, d5, d6, d7, d8, d9, d10, d11, d12, d13]) rfl ?_
  have hb14 := below14 (n := w.heap.size) (B := D) (by rw [HD.out]; exact Nat.le_refl _) (Below.refl w.heap.size X) (.bool e) (.int .u32 (n : Int)) (.bool q) (.int .i64 l) (.int .u8 (x0 : Int)) (.int .u8 (x1 : Int)) (.int .u8 (x2 : Int)) (.int .u8 (x3 : Int)) (.int .u8 (x4 : Int)) (.int .u8 (x5 : Int)) (.int .u8 (x6 : Int)) (.int .u8 (x7 : Int)) (.bool once) (.int .i64 tag)
  exact ⟨rfl, HRX.out.onN hb14 HBLT.out HPLT.out HHLT.out, HKX.out.stepN hb14⟩
end Go.Proofs.Ytbdockeopbfliaa
