/- Boxes that are nil; the law of numbers of boxes that can't be. Conditions: none. -/
import Derived.Test.YtbdockeopbfliaaBrx
namespace Go.Proofs.Ytbdockeopbfliaa
open Go.RowKit
set_option linter.unusedSimpArgs false
set_option linter.unusedVariables false
set_option maxRecDepth 100000 in
set_option maxHeartbeats 8000000 in
theorem take_nil (i : Int) (w : World) : Calls Try.prog 7 #[.pointer none, .int .i64 i] w fun y w' => y = .returned (.tuple #[PD.zero.V, .int .i64 7]) ∧ Below w.heap.size w w' := by
  obtain ⟨W0, hW0⟩ : ∃ W0, W0 = w.alloc (.cells #[.bool false, .int .u32 0, .bool false, .int .i64 0, .int .u8 0, .int .u8 0, .int .u8 0, .int .u8 0, .int .u8 0, .int .u8 0, .int .u8 0, .int .u8 0, .bool false, .int .i64 0] 39) := ⟨_, rfl⟩
  have hb0 : Below w.heap.size w W0 := by rw [hW0]; exact (Below.refl _ w).alloc (Nat.le_refl _) _
  have hS := (show Blk W0 w.heap.size 39 [.bool false, .int .u32 0, .bool false, .int .i64 0, .int .u8 0, .int .u8 0, .int .u8 0, .int .u8 0, .int .u8 0, .int .u8 0, .int .u8 0, .int .u8 0, .bool false, .int .i64 0] by rw [hW0]; exact Blk.new w _ [.bool false, .int .u32 0, .bool false, .int .i64 0, .int .u8 0, .int .u8 0, .int .u8 0, .int .u8 0, .int .u8 0, .int .u8 0, .int .u8 0, .int .u8 0, .bool false, .int .i64 0])
  have HB0 := Lib.hid hb0
  obtain ⟨D, hD⟩ : ∃ D, D = w.heap.size := ⟨_, rfl⟩
  have HD := Lib.hid hD
  rw [← hD] at hS
  have HSB := Lib.hid hS
  have HGE := Lib.hid (get_nil i W0)
  unfold PD.V PD.zero at HGE
  simp only at HGE
  clear hS hb0
  go_enter Try.func7, Try.ntmps7
  go_upto_region 1 with fail
  rw [← hW0, ← hD]
  clear hW0 hD
  go_wp2_with fail
  refine HGE.out.mono ?_
  rintro y w2 ⟨rfl, hb⟩
  have HB1 := Lib.hid hb
  obtain ⟨W2, hW2⟩ : ∃ W2, W2 = w2.alloc (.cells #[.bool false, .int .u32 0, .bool false, .int .i64 0, .int .u8 0, .int .u8 0, .int .u8 0, .int .u8 0, .int .u8 0, .int .u8 0, .int .u8 0, .int .u8 0, .bool false, .int .i64 0] 39) := ⟨_, rfl⟩
  have hb2 : Below w2.heap.size w2 W2 := by rw [hW2]; exact (Below.refl _ w2).alloc (Nat.le_refl _) _
  have HB2 := Lib.hid (below_transG HB0.out (below_transG HB1.out hb2))
  have hS2 := (HSB.out.keep hb HSB.out.lt).keep hb2 (Nat.lt_of_lt_of_le HSB.out.lt hb.size)
  clear hb hb2
  go_upto_region 4 with fail
  rw [← hW2]
  clear hW2
  have d0 := hS2.cellAt (i := 0) (by simp)
  have f0 := hS2.frozenAt 0
  have d1 := hS2.cellAt (i := 1) (by simp)
  have f1 := hS2.frozenAt 1
  have d2 := hS2.cellAt (i := 2) (by simp)
  have f2 := hS2.frozenAt 2
  have d3 := hS2.cellAt (i := 3) (by simp)
  have f3 := hS2.frozenAt 3
  have d4 := hS2.cellAt (i := 4) (by simp)
  have f4 := hS2.frozenAt 4
  have d5 := hS2.cellAt (i := 5) (by simp)
  have f5 := hS2.frozenAt 5
  have d6 := hS2.cellAt (i := 6) (by simp)
  have f6 := hS2.frozenAt 6
  have d7 := hS2.cellAt (i := 7) (by simp)
  have f7 := hS2.frozenAt 7
  have d8 := hS2.cellAt (i := 8) (by simp)
  have f8 := hS2.frozenAt 8
  have d9 := hS2.cellAt (i := 9) (by simp)
  have f9 := hS2.frozenAt 9
  have d10 := hS2.cellAt (i := 10) (by simp)
  have f10 := hS2.frozenAt 10
  have d11 := hS2.cellAt (i := 11) (by simp)
  have f11 := hS2.frozenAt 11
  have d12 := hS2.cellAt (i := 12) (by simp)
  have f12 := hS2.frozenAt 12
  have d13 := hS2.cellAt (i := 13) (by simp)
  have f13 := hS2.frozenAt 13
  simp only [List.getElem_cons_zero, List.getElem_cons_succ] at d0 d1 d2 d3 d4 d5 d6 d7 d8 d9 d10 d11 d12 d13
  clear hS2
  go_wp2_with fail
  refine bodyPost_ret (v := .tuple #[.agg #[.bool false, .int .u32 0, .bool false, .int .i64 0, .int .u8 0, .int .u8 0, .int .u8 0, .int .u8 0, .int .u8 0, .int .u8 0, .int .u8 0, .int .u8 0, .bool false, .int .i64 0], .int .i64 7]) (by simp [results, Try.results7, go_sem, World.cell?_setCell_same', d0, d1, d2, d3, d4, d5, d6, d7, d8, d9, d10, d11, d12, d13]) rfl ?_
  exact ⟨rfl, below14 (n := w.heap.size) (B := D) (by rw [HD.out]; exact Nat.le_refl _) HB2.out (.bool false) (.int .u32 0) (.bool false) (.int .i64 0) (.int .u8 0) (.int .u8 0) (.int .u8 0) (.int .u8 0) (.int .u8 0) (.int .u8 0) (.int .u8 0) (.int .u8 0) (.bool false) (.int .i64 0)⟩
theorem index_nil (F : Value) (w : World) : Calls Try.prog 22 #[.slice none 0 0, F] w fun y w' => y = .returned (.int .i64 (-1)) ∧ Below w.heap.size w w' := by
  go_enter Try.func22, Try.ntmps22
  go_wp2_with fail
  refine wp_loop_rounds 1 ?_
  rw [rounds_succ]
  go_wp2_with fail
  go_ret
  exact ⟨rfl, by first | exact Below.refl _ _ | exact (Below.refl _ _).drew⟩
theorem find_nil (tg : Int) (w : World) : Calls Try.prog 10 #[.pointer none, .int .i64 tg] w fun y w' => y = .returned (.int .i64 (-1)) ∧ Below w.heap.size w w' := by
  obtain ⟨W0, hW0⟩ : ∃ W0, W0 = w.alloc (.cells #[.int .i64 tg] 3) := ⟨_, rfl⟩
  have HB0 := Lib.hid (show Below w.heap.size w W0 by rw [hW0]; exact (Below.refl _ w).alloc (Nat.le_refl _) _)
  have HA := Lib.hid (all_nil W0)
  have HI := Lib.hid (fun F u => index_nil F u)
  go_enter Try.func10, Try.ntmps10
  go_upto_region 1 with fail
  rw [← hW0]
  clear hW0
  go_wp2_with fail
  refine HA.out.mono ?_
  rintro y w1 ⟨rfl, hb⟩
  have HB1 := Lib.hid (below_transG HB0.out hb)
  clear hb
  go_wp2_with fail
  refine (HI.out _ _).mono ?_
  rintro y w2 ⟨rfl, hb⟩
  have HB2 := Lib.hid (below_transG HB1.out hb)
  clear hb
  go_wp2_with fail
  go_ret
  exact ⟨rfl, HB2.out⟩
set_option maxRecDepth 1000000 in
set_option maxHeartbeats 8000000 in
theorem lplay_no (n : Int) (hn : ¬ (1 ≤ n ∧ n ≤ 8)) (v : Value) (w : World) : Calls Try.prog 3 #[.int .i64 n, v] w fun y w' => y = .returned (.bool true) ∧ Below w.heap.size w w' := by
  have HN1 := Lib.hid (fun u => new_no n hn u)
  have HN2 := Lib.hid (fun u => rbnew_no n hn u)
  have HPU := Lib.hid (fun u => put_nil PD.zero u)
  have HTA := Lib.hid (fun u => take_nil 0 u)
  have HRO := Lib.hid (fun u => room_nil u)
  have HFI := Lib.hid (fun u => find_nil 0 u)
  have HLV := Lib.hid (fun u => live13 u)
  unfold PD.V PD.zero at HPU HTA
  simp only at HPU HTA
  clear hn
  go_enter Try.func3, Try.ntmps3
  go_wp2_with fail
  refine (HN1.out _).mono ?_
  rintro y w1 ⟨rfl, rfl⟩
  go_wp2_with fail
  refine (HN2.out _).mono ?_
  rintro y w2 ⟨rfl, rfl⟩
  go_wp2_with fail
  refine (HPU.out _).mono ?_
  rintro y w3 ⟨rfl, hb⟩
  have HB3 := Lib.hid hb
  clear hb
  go_wp2_with fail
  refine (HTA.out _).mono ?_
  rintro y w4 ⟨rfl, hb⟩
  have HB4 := Lib.hid (below_transG HB3.out hb)
  clear hb
  have HB5 := Lib.hid (below_transG HB4.out ((Below.refl w4.heap.size w4).alloc (Nat.le_refl _) (.cells #[.bool false, .int .u32 0, .bool false, .int .i64 0, .int .u8 0, .int .u8 0, .int .u8 0, .int .u8 0, .int .u8 0, .int .u8 0, .int .u8 0, .int .u8 0, .bool false, .int .i64 0] 39)))
  go_wp2_with fail
  refine (HLV.out _).mono ?_
  rintro y w5 ⟨rfl, hb⟩
  have HB6 := Lib.hid (below_transG HB5.out hb)
  clear hb
  go_wp2_with fail
  refine (HRO.out _).mono ?_
  rintro y w6 ⟨rfl, hb⟩
  have HB7 := Lib.hid (below_transG HB6.out hb)
  clear hb
  go_wp2_with fail
  refine (HFI.out _).mono ?_
  rintro y w7 ⟨rfl, hb⟩
  have HB8 := Lib.hid (below_transG HB7.out hb)
  clear hb
  go_wp2_with fail
  go_ret
  exact ⟨rfl, HB8.out⟩
end Go.Proofs.Ytbdockeopbfliaa
