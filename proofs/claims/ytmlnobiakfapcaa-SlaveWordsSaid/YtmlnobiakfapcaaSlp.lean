/- Live of layer 20. No conditions. -/
import Derived.Test.YtmlnobiakfapcaaSlo
namespace Go.Proofs.Ytmlnobiakfapcaa
open Go.RowKit
set_option maxRecDepth 100000 in
set_option maxHeartbeats 8000000 in
theorem live20 (w : World) : Calls Try.prog 41 #[] w fun y w' => y = .returned (.bool true) ∧ Below w.heap.size w w' := by
  go_enter Try.func41, Try.ntmps41
  go_upto_region 2 with fail
  obtain ⟨w1, hww⟩ : ∃ x, x = w.alloc (.cells #[.bool true, .int .i64 3, .int .i64 258, .int .i64 9] 61) := ⟨_, rfl⟩
  rw [← hww]
  have HW := Lib.hid (show Blk w1 w.heap.size 61 [.bool true, .int .i64 3, .int .i64 258, .int .i64 9] by rw [hww]; exact Blk.new w 61 [.bool true, .int .i64 3, .int .i64 258, .int .i64 9])
  have HB := Lib.hid (show Below w.heap.size w w1 by rw [hww]; exact (Below.refl _ w).alloc (Nat.le_refl _) _)
  clear hww
  have q0 : w1.cell? ⟨w.heap.size, 0, none⟩ = some (.bool true) := HW.out.cellAt (i := 0) (by simp)
  have q1 : w1.cell? ⟨w.heap.size, 1, none⟩ = some (.int .i64 3) := HW.out.cellAt (i := 1) (by simp)
  have q2 : w1.cell? ⟨w.heap.size, 2, none⟩ = some (.int .i64 258) := HW.out.cellAt (i := 2) (by simp)
  have q3 : w1.cell? ⟨w.heap.size, 3, none⟩ = some (.int .i64 9) := HW.out.cellAt (i := 3) (by simp)
  go_wp2_with fail
  refine (frame_live _).mono ?_
  rintro y w2 ⟨rfl, hb⟩
  have HW := Lib.hid (HW.out.keep hb HW.out.lt)
  have HB := Lib.hid (below_transG HB.out hb)
  clear hb
  clear q0 q1 q2 q3
  go_upto_region 3 with fail
  obtain ⟨w3, hww⟩ : ∃ x, x = w2.alloc (.cells #[.bool false, .int .u32 35, .bool false, .int .i64 8, .int .u8 1, .int .u8 2, .int .u8 0, .int .u8 0, .int .u8 0, .int .u8 0, .int .u8 0, .int .u8 9] 67) := ⟨_, rfl⟩
  rw [← hww]
  have HW := Lib.hid (show Blk w3 (w.heap.size) 61 [.bool true, .int .i64 3, .int .i64 258, .int .i64 9] by rw [hww]; exact keep_box HW.out)
  have HF := Lib.hid (show Blk w3 w2.heap.size 67 [.bool false, .int .u32 35, .bool false, .int .i64 8, .int .u8 1, .int .u8 2, .int .u8 0, .int .u8 0, .int .u8 0, .int .u8 0, .int .u8 0, .int .u8 9] by rw [hww]; exact Blk.new w2 67 [.bool false, .int .u32 35, .bool false, .int .i64 8, .int .u8 1, .int .u8 2, .int .u8 0, .int .u8 0, .int .u8 0, .int .u8 0, .int .u8 0, .int .u8 9])
  have HB := Lib.hid (show Below w.heap.size w w3 by rw [hww]; exact HB.out.alloc HB.out.size _)
  clear hww
  have q0 : w3.cell? ⟨w2.heap.size, 0, none⟩ = some (.bool false) := HF.out.cellAt (i := 0) (by simp)
  have q1 : w3.cell? ⟨w2.heap.size, 1, none⟩ = some (.int .u32 35) := HF.out.cellAt (i := 1) (by simp)
  have q2 : w3.cell? ⟨w2.heap.size, 2, none⟩ = some (.bool false) := HF.out.cellAt (i := 2) (by simp)
  have q3 : w3.cell? ⟨w2.heap.size, 3, none⟩ = some (.int .i64 8) := HF.out.cellAt (i := 3) (by simp)
  have q4 : w3.cell? ⟨w2.heap.size, 4, none⟩ = some (.int .u8 1) := HF.out.cellAt (i := 4) (by simp)
  have q5 : w3.cell? ⟨w2.heap.size, 5, none⟩ = some (.int .u8 2) := HF.out.cellAt (i := 5) (by simp)
  have q6 : w3.cell? ⟨w2.heap.size, 6, none⟩ = some (.int .u8 0) := HF.out.cellAt (i := 6) (by simp)
  have q7 : w3.cell? ⟨w2.heap.size, 7, none⟩ = some (.int .u8 0) := HF.out.cellAt (i := 7) (by simp)
  have q8 : w3.cell? ⟨w2.heap.size, 8, none⟩ = some (.int .u8 0) := HF.out.cellAt (i := 8) (by simp)
  have q9 : w3.cell? ⟨w2.heap.size, 9, none⟩ = some (.int .u8 0) := HF.out.cellAt (i := 9) (by simp)
  have q10 : w3.cell? ⟨w2.heap.size, 10, none⟩ = some (.int .u8 0) := HF.out.cellAt (i := 10) (by simp)
  have q11 : w3.cell? ⟨w2.heap.size, 11, none⟩ = some (.int .u8 9) := HF.out.cellAt (i := 11) (by simp)
  go_wp2_with fail
  refine (of_live _).mono ?_
  rintro y w4 ⟨rfl, hb⟩
  have HW := Lib.hid (HW.out.keep hb HW.out.lt)
  have HF := Lib.hid (HF.out.keep hb HF.out.lt)
  have HB := Lib.hid (below_transG HB.out hb)
  clear hb
  clear q0 q1 q2 q3 q4 q5 q6 q7 q8 q9 q10 q11
  go_upto_region 4 with fail
  obtain ⟨w5, hww⟩ : ∃ x, x = w4.alloc (.cells #[.bool true, .int .i64 3, .int .i64 258, .int .i64 9] 61) := ⟨_, rfl⟩
  rw [← hww]
  have HW := Lib.hid (show Blk w5 (w.heap.size) 61 [.bool true, .int .i64 3, .int .i64 258, .int .i64 9] by rw [hww]; exact keep_box HW.out)
  have HF := Lib.hid (show Blk w5 (w2.heap.size) 67 [.bool false, .int .u32 35, .bool false, .int .i64 8, .int .u8 1, .int .u8 2, .int .u8 0, .int .u8 0, .int .u8 0, .int .u8 0, .int .u8 0, .int .u8 9] by rw [hww]; exact keep_box HF.out)
  have HX := Lib.hid (show Blk w5 w4.heap.size 61 [.bool true, .int .i64 3, .int .i64 258, .int .i64 9] by rw [hww]; exact Blk.new w4 61 [.bool true, .int .i64 3, .int .i64 258, .int .i64 9])
  have HB := Lib.hid (show Below w.heap.size w w5 by rw [hww]; exact HB.out.alloc HB.out.size _)
  clear hww
  go_wp2_with fail
  refine (frame_bad _).mono ?_
  rintro y w6 ⟨rfl, hb⟩
  have HW := Lib.hid (HW.out.keep hb HW.out.lt)
  have HF := Lib.hid (HF.out.keep hb HF.out.lt)
  have HX := Lib.hid (HX.out.keep hb HX.out.lt)
  have HB := Lib.hid (below_transG HB.out hb)
  clear hb
  go_upto_region 5 with fail
  obtain ⟨w7, hww⟩ : ∃ x, x = w6.alloc (.cells #[.bool false, .int .u32 0, .bool false, .int .i64 0, .int .u8 0, .int .u8 0, .int .u8 0, .int .u8 0, .int .u8 0, .int .u8 0, .int .u8 0, .int .u8 0] 67) := ⟨_, rfl⟩
  rw [← hww]
  have HW := Lib.hid (show Blk w7 (w.heap.size) 61 [.bool true, .int .i64 3, .int .i64 258, .int .i64 9] by rw [hww]; exact keep_box HW.out)
  have HF := Lib.hid (show Blk w7 (w2.heap.size) 67 [.bool false, .int .u32 35, .bool false, .int .i64 8, .int .u8 1, .int .u8 2, .int .u8 0, .int .u8 0, .int .u8 0, .int .u8 0, .int .u8 0, .int .u8 9] by rw [hww]; exact keep_box HF.out)
  have HX := Lib.hid (show Blk w7 (w4.heap.size) 61 [.bool true, .int .i64 3, .int .i64 258, .int .i64 9] by rw [hww]; exact keep_box HX.out)
  have HG := Lib.hid (show Blk w7 w6.heap.size 67 [.bool false, .int .u32 0, .bool false, .int .i64 0, .int .u8 0, .int .u8 0, .int .u8 0, .int .u8 0, .int .u8 0, .int .u8 0, .int .u8 0, .int .u8 0] by rw [hww]; exact Blk.new w6 67 [.bool false, .int .u32 0, .bool false, .int .i64 0, .int .u8 0, .int .u8 0, .int .u8 0, .int .u8 0, .int .u8 0, .int .u8 0, .int .u8 0, .int .u8 0])
  have HB := Lib.hid (show Below w.heap.size w w7 by rw [hww]; exact HB.out.alloc HB.out.size _)
  clear hww
  go_wp2_with fail
  refine (slnew_any _).mono ?_
  rintro y w8 ⟨B, rfl, hO, hBB, hb⟩
  have NEHW := Lib.hid (show w.heap.size ≠ B by have := HW.out.lt; omega)
  have NEHF := Lib.hid (show w2.heap.size ≠ B by have := HF.out.lt; omega)
  have NEHX := Lib.hid (show w4.heap.size ≠ B by have := HX.out.lt; omega)
  have NEHG := Lib.hid (show w6.heap.size ≠ B by have := HG.out.lt; omega)
  have HBB := Lib.hid (Nat.le_trans HB.out.size hBB)
  have HW := Lib.hid (HW.out.keep hb HW.out.lt)
  have HF := Lib.hid (HF.out.keep hb HF.out.lt)
  have HX := Lib.hid (HX.out.keep hb HX.out.lt)
  have HG := Lib.hid (HG.out.keep hb HG.out.lt)
  have HB := Lib.hid (below_transG HB.out hb)
  have HM := Lib.hid hO
  clear hb hO hBB
  have q0 : w8.cell? ⟨w.heap.size, 0, none⟩ = some (.bool true) := HW.out.cellAt (i := 0) (by simp)
  have q1 : w8.cell? ⟨w.heap.size, 1, none⟩ = some (.int .i64 3) := HW.out.cellAt (i := 1) (by simp)
  have q2 : w8.cell? ⟨w.heap.size, 2, none⟩ = some (.int .i64 258) := HW.out.cellAt (i := 2) (by simp)
  have q3 : w8.cell? ⟨w.heap.size, 3, none⟩ = some (.int .i64 9) := HW.out.cellAt (i := 3) (by simp)
  go_wp2_with fail
  refine (lv1 _ B HM.out).mono ?_
  rintro y w9 ⟨rfl, hm, hk⟩
  have HW := Lib.hid (HW.out.on (hk.block _ HW.out.lt (NEHW.out) (fun e => by cases e)))
  have HF := Lib.hid (HF.out.on (hk.block _ HF.out.lt (NEHF.out) (fun e => by cases e)))
  have HX := Lib.hid (HX.out.on (hk.block _ HX.out.lt (NEHX.out) (fun e => by cases e)))
  have HG := Lib.hid (HG.out.on (hk.block _ HG.out.lt (NEHG.out) (fun e => by cases e)))
  have HB := Lib.hid (HB.out.trans (hk.belowN HBB.out HB.out.size (fun k e => by cases e)))
  have HM := Lib.hid hm
  clear hm hk
  clear q0 q1 q2 q3
  go_wp2_with fail
  refine (lv2 _ B HM.out).mono ?_
  rintro y w10 ⟨rfl, hm, hk⟩
  have HW := Lib.hid (HW.out.on (hk.block _ HW.out.lt (NEHW.out) (fun e => by cases e)))
  have HF := Lib.hid (HF.out.on (hk.block _ HF.out.lt (NEHF.out) (fun e => by cases e)))
  have HX := Lib.hid (HX.out.on (hk.block _ HX.out.lt (NEHX.out) (fun e => by cases e)))
  have HG := Lib.hid (HG.out.on (hk.block _ HG.out.lt (NEHG.out) (fun e => by cases e)))
  have HB := Lib.hid (HB.out.trans (hk.belowN HBB.out HB.out.size (fun k e => by cases e)))
  have HM := Lib.hid hm
  clear hm hk
  go_wp2_with fail
  refine (slwaits_any true 3 258 7 B _ HM.out).mono ?_
  rintro y w11 ⟨rfl, hb⟩
  have HW := Lib.hid (HW.out.keep hb HW.out.lt)
  have HF := Lib.hid (HF.out.keep hb HF.out.lt)
  have HX := Lib.hid (HX.out.keep hb HX.out.lt)
  have HG := Lib.hid (HG.out.keep hb HG.out.lt)
  have HM := Lib.hid (HM.out.keep hb HM.out.lt)
  have HB := Lib.hid (below_transG HB.out hb)
  clear hb
  have q0 : w11.cell? ⟨w.heap.size, 0, none⟩ = some (.bool true) := HW.out.cellAt (i := 0) (by simp)
  have q1 : w11.cell? ⟨w.heap.size, 1, none⟩ = some (.int .i64 3) := HW.out.cellAt (i := 1) (by simp)
  have q2 : w11.cell? ⟨w.heap.size, 2, none⟩ = some (.int .i64 258) := HW.out.cellAt (i := 2) (by simp)
  have q3 : w11.cell? ⟨w.heap.size, 3, none⟩ = some (.int .i64 9) := HW.out.cellAt (i := 3) (by simp)
  go_wp2_with fail
  refine (lv3 _ B HM.out).mono ?_
  rintro y w12 ⟨rfl, hm, hk⟩
  have HW := Lib.hid (HW.out.on (hk.block _ HW.out.lt (NEHW.out) (fun e => by cases e)))
  have HF := Lib.hid (HF.out.on (hk.block _ HF.out.lt (NEHF.out) (fun e => by cases e)))
  have HX := Lib.hid (HX.out.on (hk.block _ HX.out.lt (NEHX.out) (fun e => by cases e)))
  have HG := Lib.hid (HG.out.on (hk.block _ HG.out.lt (NEHG.out) (fun e => by cases e)))
  have HB := Lib.hid (HB.out.trans (hk.belowN HBB.out HB.out.size (fun k e => by cases e)))
  have HM := Lib.hid hm
  clear hm hk
  clear q0 q1 q2 q3
  have q0 : w12.cell? ⟨w.heap.size, 0, none⟩ = some (.bool true) := HW.out.cellAt (i := 0) (by simp)
  have q1 : w12.cell? ⟨w.heap.size, 1, none⟩ = some (.int .i64 3) := HW.out.cellAt (i := 1) (by simp)
  have q2 : w12.cell? ⟨w.heap.size, 2, none⟩ = some (.int .i64 258) := HW.out.cellAt (i := 2) (by simp)
  have q3 : w12.cell? ⟨w.heap.size, 3, none⟩ = some (.int .i64 9) := HW.out.cellAt (i := 3) (by simp)
  go_wp2_with fail
  refine (lv4 _ B HM.out).mono ?_
  rintro y w13 ⟨rfl, hm, hk⟩
  have HW := Lib.hid (HW.out.on (hk.block _ HW.out.lt (NEHW.out) (fun e => by cases e)))
  have HF := Lib.hid (HF.out.on (hk.block _ HF.out.lt (NEHF.out) (fun e => by cases e)))
  have HX := Lib.hid (HX.out.on (hk.block _ HX.out.lt (NEHX.out) (fun e => by cases e)))
  have HG := Lib.hid (HG.out.on (hk.block _ HG.out.lt (NEHG.out) (fun e => by cases e)))
  have HB := Lib.hid (HB.out.trans (hk.belowN HBB.out HB.out.size (fun k e => by cases e)))
  have HM := Lib.hid hm
  clear hm hk
  clear q0 q1 q2 q3
  have q0 : w13.cell? ⟨w.heap.size, 0, none⟩ = some (.bool true) := HW.out.cellAt (i := 0) (by simp)
  have q1 : w13.cell? ⟨w.heap.size, 1, none⟩ = some (.int .i64 3) := HW.out.cellAt (i := 1) (by simp)
  have q2 : w13.cell? ⟨w.heap.size, 2, none⟩ = some (.int .i64 258) := HW.out.cellAt (i := 2) (by simp)
  have q3 : w13.cell? ⟨w.heap.size, 3, none⟩ = some (.int .i64 9) := HW.out.cellAt (i := 3) (by simp)
  go_wp2_with fail
  refine (slhear_nil true 3 258 9 1 _).mono ?_
  rintro y w14 ⟨rfl, hb⟩
  have HW := Lib.hid (HW.out.keep hb HW.out.lt)
  have HF := Lib.hid (HF.out.keep hb HF.out.lt)
  have HX := Lib.hid (HX.out.keep hb HX.out.lt)
  have HG := Lib.hid (HG.out.keep hb HG.out.lt)
  have HB := Lib.hid (below_transG HB.out hb)
  clear hb
  clear q0 q1 q2 q3
  go_wp2_with fail
  refine (slwaits_nil _).mono ?_
  rintro y w15 ⟨rfl, rfl⟩
  have q0 : w14.cell? ⟨w.heap.size, 0, none⟩ = some (.bool true) := HW.out.cellAt (i := 0) (by simp)
  have q1 : w14.cell? ⟨w.heap.size, 1, none⟩ = some (.int .i64 3) := HW.out.cellAt (i := 1) (by simp)
  have q2 : w14.cell? ⟨w.heap.size, 2, none⟩ = some (.int .i64 258) := HW.out.cellAt (i := 2) (by simp)
  have q3 : w14.cell? ⟨w.heap.size, 3, none⟩ = some (.int .i64 9) := HW.out.cellAt (i := 3) (by simp)
  have f0 : w14.cell? ⟨w2.heap.size, 0, none⟩ = some (.bool false) := HF.out.cellAt (i := 0) (by simp)
  have f1 : w14.cell? ⟨w2.heap.size, 1, none⟩ = some (.int .u32 35) := HF.out.cellAt (i := 1) (by simp)
  have f2 : w14.cell? ⟨w2.heap.size, 2, none⟩ = some (.bool false) := HF.out.cellAt (i := 2) (by simp)
  have f3 : w14.cell? ⟨w2.heap.size, 3, none⟩ = some (.int .i64 8) := HF.out.cellAt (i := 3) (by simp)
  have f4 : w14.cell? ⟨w2.heap.size, 4, none⟩ = some (.int .u8 1) := HF.out.cellAt (i := 4) (by simp)
  have f5 : w14.cell? ⟨w2.heap.size, 5, none⟩ = some (.int .u8 2) := HF.out.cellAt (i := 5) (by simp)
  have f6 : w14.cell? ⟨w2.heap.size, 6, none⟩ = some (.int .u8 0) := HF.out.cellAt (i := 6) (by simp)
  have f7 : w14.cell? ⟨w2.heap.size, 7, none⟩ = some (.int .u8 0) := HF.out.cellAt (i := 7) (by simp)
  have f8 : w14.cell? ⟨w2.heap.size, 8, none⟩ = some (.int .u8 0) := HF.out.cellAt (i := 8) (by simp)
  have f9 : w14.cell? ⟨w2.heap.size, 9, none⟩ = some (.int .u8 0) := HF.out.cellAt (i := 9) (by simp)
  have f10 : w14.cell? ⟨w2.heap.size, 10, none⟩ = some (.int .u8 0) := HF.out.cellAt (i := 10) (by simp)
  have f11 : w14.cell? ⟨w2.heap.size, 11, none⟩ = some (.int .u8 9) := HF.out.cellAt (i := 11) (by simp)
  have x0 : w14.cell? ⟨w4.heap.size, 0, none⟩ = some (.bool true) := HX.out.cellAt (i := 0) (by simp)
  have x1 : w14.cell? ⟨w4.heap.size, 1, none⟩ = some (.int .i64 3) := HX.out.cellAt (i := 1) (by simp)
  have x2 : w14.cell? ⟨w4.heap.size, 2, none⟩ = some (.int .i64 258) := HX.out.cellAt (i := 2) (by simp)
  have x3 : w14.cell? ⟨w4.heap.size, 3, none⟩ = some (.int .i64 9) := HX.out.cellAt (i := 3) (by simp)
  go_wp2_with fail
  refine (right_live _).mono ?_
  rintro y w16 ⟨rfl, hb⟩
  have HB := Lib.hid (below_transG HB.out hb)
  clear hb
  go_wp2_with fail
  go_ret
  exact ⟨rfl, HB.out⟩
end Go.Proofs.Ytmlnobiakfapcaa
