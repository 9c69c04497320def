/- SlaveWords (P20.1): any word's frame, and what any frame is as a word, and whether a word can be, is what the document says. No conditions. -/
import Derived.Test.YtmlnobiakfapcaaRows
import Derived.Deep.DeepCutAuto
import Derived.Test.YtmlnobiakfapcaaSlt
import Derived.Test.YtmlnobiakfapcaaQui
import Derived.Test.YtmlnobiakfapcaaOpw
import Derived.Test.YtmlnobiakfapcaaOpe
import Derived.Test.YtmlnobiakfapcaaFra
import Derived.WalkKit
import Derived.ProofKit
import Derived.OpenShut
import Derived.ShutString
import Derived.ChangeOld
import Derived.Below
namespace Go.Proofs.Ytmlnobiakfapcaa.slaveWords
open Go.ChangeShapes Go.WideShapes Go.ChangeAt Go.RowKit
theorem own : ownKnob Try.prog.godebug = none := by kernel_rfl
theorem laidOut : laidOutB Try.prog = true := by kernel_rfl
theorem word_frames (f : Bool) (r m t : Int) : ∃ (gn : Nat) (gl : Int) (y0 y1 y2 y3 y4 y5 y6 y7 : Nat) (er : Int),
    (∀ u, Calls Try.prog 36 #[.agg #[.bool f, .int .i64 r, .int .i64 m, .int .i64 t]] u fun y w' => y = .returned (.tuple #[.agg #[.bool false, .int .u32 (gn : Int), .bool false, .int .i64 gl, .int .u8 (y0 : Int), .int .u8 (y1 : Int), .int .u8 (y2 : Int), .int .u8 (y3 : Int), .int .u8 (y4 : Int), .int .u8 (y5 : Int), .int .u8 (y6 : Int), .int .u8 (y7 : Int)], .int .i64 er]) ∧ Below u.heap.size u w') ∧
    (∀ u, Calls Try.prog 37 #[.agg #[.bool f, .int .i64 r, .int .i64 m, .int .i64 t]] u fun y w' => y = .returned (.tuple #[.agg #[.bool false, .int .u32 (gn : Int), .bool false, .int .i64 gl, .int .u8 (y0 : Int), .int .u8 (y1 : Int), .int .u8 (y2 : Int), .int .u8 (y3 : Int), .int .u8 (y4 : Int), .int .u8 (y5 : Int), .int .u8 (y6 : Int), .int .u8 (y7 : Int)], .int .i64 er]) ∧ Below u.heap.size u w') := by
  cases h : rightW f r m t
  · exact ⟨0, 0, 0, 0, 0, 0, 0, 0, 0, 0, 1, fun u => slframe_no f r m t h u, fun u => rslframe_no f r m t h u⟩
  · obtain ⟨⟨h1, h2⟩, ⟨h3, h4⟩, ⟨h5, h6⟩, h7⟩ := rightW_of h
    obtain ⟨r, rfl⟩ : ∃ k : Nat, r = (k : Int) := ⟨r.toNat, by omega⟩
    obtain ⟨m, rfl⟩ : ∃ k : Nat, m = (k : Int) := ⟨m.toNat, by omega⟩
    obtain ⟨t, rfl⟩ : ∃ k : Nat, t = (k : Int) := ⟨t.toNat, by omega⟩
    cases f
    · obtain rfl : t = 0 := by simpa using h7
      exact ⟨r, 2, _, _, 0, 0, 0, 0, 0, 0, 0, fun u => slframe_turn r m (by omega) (by omega) u, fun u => rslframe_turn r m (by omega) (by omega) u⟩
    · exact ⟨r + 32, 8, _, _, _, _, _, _, _, _, 0, fun u => slframe_follow r m t (by omega) (by omega) (by omega) u, fun u => rslframe_follow r m t (by omega) (by omega) (by omega) u⟩
theorem frame_words (e : Bool) (n : Nat) (hn : n < 4294967296) (q : Bool) (l : Int) (x0 x1 x2 x3 x4 x5 x6 x7 : Nat) (hx0 : x0 < 256) (hx1 : x1 < 256) (hx2 : x2 < 256) (hx3 : x3 < 256) (hx4 : x4 < 256) (hx5 : x5 < 256) (hx6 : x6 < 256) (hx7 : x7 < 256) : ∃ (f2 : Bool) (r2 m2 t2 : Int) (ok : Bool),
    (∀ u, Calls Try.prog 39 #[.agg #[.bool e, .int .u32 (n : Int), .bool q, .int .i64 l, .int .u8 (x0 : Int), .int .u8 (x1 : Int), .int .u8 (x2 : Int), .int .u8 (x3 : Int), .int .u8 (x4 : Int), .int .u8 (x5 : Int), .int .u8 (x6 : Int), .int .u8 (x7 : Int)]] u fun y w' => y = .returned (.tuple #[.agg #[.bool f2, .int .i64 r2, .int .i64 m2, .int .i64 t2], .bool ok]) ∧ Below u.heap.size u w') ∧
    (∀ u, Calls Try.prog 40 #[.agg #[.bool e, .int .u32 (n : Int), .bool q, .int .i64 l, .int .u8 (x0 : Int), .int .u8 (x1 : Int), .int .u8 (x2 : Int), .int .u8 (x3 : Int), .int .u8 (x4 : Int), .int .u8 (x5 : Int), .int .u8 (x6 : Int), .int .u8 (x7 : Int)]] u fun y w' => y = .returned (.tuple #[.agg #[.bool f2, .int .i64 r2, .int .i64 m2, .int .i64 t2], .bool ok]) ∧ Below u.heap.size u w') := by
  have h1 := fun u => slof_any e n hn q l x0 x1 x2 x3 x4 x5 x6 x7 hx0 hx1 hx2 hx3 hx4 hx5 hx6 hx7 u
  have h2 := fun u => rslof_any e n hn q l x0 x1 x2 x3 x4 x5 x6 x7 hx0 hx1 hx2 hx3 hx4 hx5 hx6 hx7 u
  unfold ofV at h1 h2
  cases hw : isW e n q l x0 x1 x2 x3 x4 x5 x6 x7
  · rw [hw] at h1 h2
    exact ⟨false, 0, 0, 0, false, h1, h2⟩
  · rw [hw] at h1 h2
    exact ⟨_, _, _, _, true, h1, h2⟩
set_option maxRecDepth 100000 in
set_option maxHeartbeats 16000000 in
theorem walk (f : Bool) (r m t : Int) (e : Bool) (n : Nat) (q : Bool) (l : Int) (x : List Nat) (_w0 : True) (w1 : n < 4294967296 ∧ x.length = 8 ∧ ∀ y ∈ x, y < 256) (w : World) :
    Calls Try.prog 7 #[.agg #[.bool f, .int .i64 r, .int .i64 m, .int .i64 t], frameV e n q l x] w fun y w' => y = .returned (.bool true) ∧ Below w.heap.size w w' := by
  obtain ⟨hn, hl, hb⟩ := w1
  obtain ⟨x0, x1, x2, x3, x4, x5, x6, x7, rfl⟩ := eight hl
  obtain ⟨f2, r2, m2, t2, ok, hO, hRO⟩ := frame_words e n hn q l x0 x1 x2 x3 x4 x5 x6 x7 (hb x0 (by simp)) (hb x1 (by simp)) (hb x2 (by simp)) (hb x3 (by simp)) (hb x4 (by simp)) (hb x5 (by simp)) (hb x6 (by simp)) (hb x7 (by simp))
  obtain ⟨gn, gl, y0, y1, y2, y3, y4, y5, y6, y7, er, hF, hRF⟩ := word_frames f r m t
  have HO := Lib.hid hO; have HRO := Lib.hid hRO; have HFF := Lib.hid hF; have HRF := Lib.hid hRF
  clear hb hl hn hO hRO hF hRF
  rw [show frameV e n q l [x0, x1, x2, x3, x4, x5, x6, x7] = .agg #[.bool e, .int .u32 (n : Int), .bool q, .int .i64 l, .int .u8 (x0 : Int), .int .u8 (x1 : Int), .int .u8 (x2 : Int), .int .u8 (x3 : Int), .int .u8 (x4 : Int), .int .u8 (x5 : Int), .int .u8 (x6 : Int), .int .u8 (x7 : Int)] from rfl]
  obtain ⟨rg, hrg⟩ : ∃ x, x = rightW f r m t := ⟨_, rfl⟩
  have HR := Lib.hid (fun (u : World) => slright_any f r m t u)
  have HRR := Lib.hid (fun (u : World) => rslright_any f r m t u)
  rw [← hrg] at HR HRR
  clear hrg
  go_enter Try.func7, Try.ntmps7
  go_upto_region 1 with fail
  obtain ⟨w0, hww⟩ : ∃ x, x = (w.alloc (.cells #[.bool f, .int .i64 r, .int .i64 m, .int .i64 t] 61)).alloc (.cells #[.bool e, .int .u32 (n : Int), .bool q, .int .i64 l, .int .u8 (x0 : Int), .int .u8 (x1 : Int), .int .u8 (x2 : Int), .int .u8 (x3 : Int), .int .u8 (x4 : Int), .int .u8 (x5 : Int), .int .u8 (x6 : Int), .int .u8 (x7 : Int)] 67) := ⟨_, rfl⟩
  rw [← hww]
  have HW := Lib.hid (show Blk w0 w.heap.size 61 [.bool f, .int .i64 r, .int .i64 m, .int .i64 t] by rw [hww]; exact (Blk.new w 61 [.bool f, .int .i64 r, .int .i64 m, .int .i64 t]).keep ((Below.refl _ _).alloc (Nat.le_refl _) _) (by simp))
  have HF := Lib.hid (show Blk w0 (w.heap.size + 1) 67 [.bool e, .int .u32 (n : Int), .bool q, .int .i64 l, .int .u8 (x0 : Int), .int .u8 (x1 : Int), .int .u8 (x2 : Int), .int .u8 (x3 : Int), .int .u8 (x4 : Int), .int .u8 (x5 : Int), .int .u8 (x6 : Int), .int .u8 (x7 : Int)] by rw [hww]; exact blk_two w _ 67 [.bool e, .int .u32 (n : Int), .bool q, .int .i64 l, .int .u8 (x0 : Int), .int .u8 (x1 : Int), .int .u8 (x2 : Int), .int .u8 (x3 : Int), .int .u8 (x4 : Int), .int .u8 (x5 : Int), .int .u8 (x6 : Int), .int .u8 (x7 : Int)])
  have HB := Lib.hid (show Below w.heap.size w w0 by rw [hww]; exact ((Below.refl _ w).alloc (Nat.le_refl _) _).alloc (by simp) _)
  clear hww
  have q0 : w0.cell? ⟨(w.heap.size), 0, none⟩ = some (.bool f) := HW.out.cellAt (i := 0) (by simp)
  have q1 : w0.cell? ⟨(w.heap.size), 1, none⟩ = some (.int .i64 r) := HW.out.cellAt (i := 1) (by simp)
  have q2 : w0.cell? ⟨(w.heap.size), 2, none⟩ = some (.int .i64 m) := HW.out.cellAt (i := 2) (by simp)
  have q3 : w0.cell? ⟨(w.heap.size), 3, none⟩ = some (.int .i64 t) := HW.out.cellAt (i := 3) (by simp)
  go_wp2_with fail
  refine (HFF.out _).mono ?_
  rintro y w1 ⟨rfl, hb⟩
  have HW := Lib.hid (HW.out.keep hb HW.out.lt)
  have HF := Lib.hid (HF.out.keep hb HF.out.lt)
  have HB := Lib.hid (below_transG HB.out hb)
  clear hb
  clear q0 q1 q2 q3
  go_upto_region 2 with fail
  obtain ⟨w2, hww⟩ : ∃ x, x = w1.alloc (.cells #[.bool false, .int .u32 (gn : Int), .bool false, .int .i64 gl, .int .u8 (y0 : Int), .int .u8 (y1 : Int), .int .u8 (y2 : Int), .int .u8 (y3 : Int), .int .u8 (y4 : Int), .int .u8 (y5 : Int), .int .u8 (y6 : Int), .int .u8 (y7 : Int)] 67) := ⟨_, rfl⟩
  rw [← hww]
  have HW := Lib.hid (show Blk w2 (w.heap.size) 61 [.bool f, .int .i64 r, .int .i64 m, .int .i64 t] by rw [hww]; exact keep_box HW.out)
  have HF := Lib.hid (show Blk w2 (w.heap.size + 1) 67 [.bool e, .int .u32 (n : Int), .bool q, .int .i64 l, .int .u8 (x0 : Int), .int .u8 (x1 : Int), .int .u8 (x2 : Int), .int .u8 (x3 : Int), .int .u8 (x4 : Int), .int .u8 (x5 : Int), .int .u8 (x6 : Int), .int .u8 (x7 : Int)] by rw [hww]; exact keep_box HF.out)
  have HX := Lib.hid (show Blk w2 w1.heap.size 67 [.bool false, .int .u32 (gn : Int), .bool false, .int .i64 gl, .int .u8 (y0 : Int), .int .u8 (y1 : Int), .int .u8 (y2 : Int), .int .u8 (y3 : Int), .int .u8 (y4 : Int), .int .u8 (y5 : Int), .int .u8 (y6 : Int), .int .u8 (y7 : Int)] by rw [hww]; exact Blk.new w1 67 [.bool false, .int .u32 (gn : Int), .bool false, .int .i64 gl, .int .u8 (y0 : Int), .int .u8 (y1 : Int), .int .u8 (y2 : Int), .int .u8 (y3 : Int), .int .u8 (y4 : Int), .int .u8 (y5 : Int), .int .u8 (y6 : Int), .int .u8 (y7 : Int)])
  have HB := Lib.hid (show Below w.heap.size w w2 by rw [hww]; exact HB.out.alloc HB.out.size _)
  clear hww
  have q0 : w2.cell? ⟨(w.heap.size), 0, none⟩ = some (.bool f) := HW.out.cellAt (i := 0) (by simp)
  have q1 : w2.cell? ⟨(w.heap.size), 1, none⟩ = some (.int .i64 r) := HW.out.cellAt (i := 1) (by simp)
  have q2 : w2.cell? ⟨(w.heap.size), 2, none⟩ = some (.int .i64 m) := HW.out.cellAt (i := 2) (by simp)
  have q3 : w2.cell? ⟨(w.heap.size), 3, none⟩ = some (.int .i64 t) := HW.out.cellAt (i := 3) (by simp)
  go_wp2_with fail
  refine (plain20_any f r m t _).mono ?_
  rintro y w3 ⟨rfl, hb⟩
  have HW := Lib.hid (HW.out.keep hb HW.out.lt)
  have HF := Lib.hid (HF.out.keep hb HF.out.lt)
  have HX := Lib.hid (HX.out.keep hb HX.out.lt)
  have HB := Lib.hid (below_transG HB.out hb)
  clear hb
  go_wp2_with fail
  refine (HRF.out _).mono ?_
  rintro y w4 ⟨rfl, hb⟩
  have HW := Lib.hid (HW.out.keep hb HW.out.lt)
  have HF := Lib.hid (HF.out.keep hb HF.out.lt)
  have HX := Lib.hid (HX.out.keep hb HX.out.lt)
  have HB := Lib.hid (below_transG HB.out hb)
  clear hb
  clear q0 q1 q2 q3
  go_upto_region 3 with fail
  obtain ⟨w5, hww⟩ : ∃ x, x = w4.alloc (.cells #[.bool false, .int .u32 (gn : Int), .bool false, .int .i64 gl, .int .u8 (y0 : Int), .int .u8 (y1 : Int), .int .u8 (y2 : Int), .int .u8 (y3 : Int), .int .u8 (y4 : Int), .int .u8 (y5 : Int), .int .u8 (y6 : Int), .int .u8 (y7 : Int)] 67) := ⟨_, rfl⟩
  rw [← hww]
  have HW := Lib.hid (show Blk w5 (w.heap.size) 61 [.bool f, .int .i64 r, .int .i64 m, .int .i64 t] by rw [hww]; exact keep_box HW.out)
  have HF := Lib.hid (show Blk w5 (w.heap.size + 1) 67 [.bool e, .int .u32 (n : Int), .bool q, .int .i64 l, .int .u8 (x0 : Int), .int .u8 (x1 : Int), .int .u8 (x2 : Int), .int .u8 (x3 : Int), .int .u8 (x4 : Int), .int .u8 (x5 : Int), .int .u8 (x6 : Int), .int .u8 (x7 : Int)] by rw [hww]; exact keep_box HF.out)
  have HX := Lib.hid (show Blk w5 (w1.heap.size) 67 [.bool false, .int .u32 (gn : Int), .bool false, .int .i64 gl, .int .u8 (y0 : Int), .int .u8 (y1 : Int), .int .u8 (y2 : Int), .int .u8 (y3 : Int), .int .u8 (y4 : Int), .int .u8 (y5 : Int), .int .u8 (y6 : Int), .int .u8 (y7 : Int)] by rw [hww]; exact keep_box HX.out)
  have HY := Lib.hid (show Blk w5 w4.heap.size 67 [.bool false, .int .u32 (gn : Int), .bool false, .int .i64 gl, .int .u8 (y0 : Int), .int .u8 (y1 : Int), .int .u8 (y2 : Int), .int .u8 (y3 : Int), .int .u8 (y4 : Int), .int .u8 (y5 : Int), .int .u8 (y6 : Int), .int .u8 (y7 : Int)] by rw [hww]; exact Blk.new w4 67 [.bool false, .int .u32 (gn : Int), .bool false, .int .i64 gl, .int .u8 (y0 : Int), .int .u8 (y1 : Int), .int .u8 (y2 : Int), .int .u8 (y3 : Int), .int .u8 (y4 : Int), .int .u8 (y5 : Int), .int .u8 (y6 : Int), .int .u8 (y7 : Int)])
  have HB := Lib.hid (show Below w.heap.size w w5 by rw [hww]; exact HB.out.alloc HB.out.size _)
  clear hww
  have q0 : w5.cell? ⟨(w.heap.size + 1), 0, none⟩ = some (.bool e) := HF.out.cellAt (i := 0) (by simp)
  have q1 : w5.cell? ⟨(w.heap.size + 1), 1, none⟩ = some (.int .u32 (n : Int)) := HF.out.cellAt (i := 1) (by simp)
  have q2 : w5.cell? ⟨(w.heap.size + 1), 2, none⟩ = some (.bool q) := HF.out.cellAt (i := 2) (by simp)
  have q3 : w5.cell? ⟨(w.heap.size + 1), 3, none⟩ = some (.int .i64 l) := HF.out.cellAt (i := 3) (by simp)
  have q4 : w5.cell? ⟨(w.heap.size + 1), 4, none⟩ = some (.int .u8 (x0 : Int)) := HF.out.cellAt (i := 4) (by simp)
  have q5 : w5.cell? ⟨(w.heap.size + 1), 5, none⟩ = some (.int .u8 (x1 : Int)) := HF.out.cellAt (i := 5) (by simp)
  have q6 : w5.cell? ⟨(w.heap.size + 1), 6, none⟩ = some (.int .u8 (x2 : Int)) := HF.out.cellAt (i := 6) (by simp)
  have q7 : w5.cell? ⟨(w.heap.size + 1), 7, none⟩ = some (.int .u8 (x3 : Int)) := HF.out.cellAt (i := 7) (by simp)
  have q8 : w5.cell? ⟨(w.heap.size + 1), 8, none⟩ = some (.int .u8 (x4 : Int)) := HF.out.cellAt (i := 8) (by simp)
  have q9 : w5.cell? ⟨(w.heap.size + 1), 9, none⟩ = some (.int .u8 (x5 : Int)) := HF.out.cellAt (i := 9) (by simp)
  have q10 : w5.cell? ⟨(w.heap.size + 1), 10, none⟩ = some (.int .u8 (x6 : Int)) := HF.out.cellAt (i := 10) (by simp)
  have q11 : w5.cell? ⟨(w.heap.size + 1), 11, none⟩ = some (.int .u8 (x7 : Int)) := HF.out.cellAt (i := 11) (by simp)
  go_wp2_with fail
  refine (HO.out _).mono ?_
  rintro y w6 ⟨rfl, hb⟩
  have HW := Lib.hid (HW.out.keep hb HW.out.lt)
  have HF := Lib.hid (HF.out.keep hb HF.out.lt)
  have HX := Lib.hid (HX.out.keep hb HX.out.lt)
  have HY := Lib.hid (HY.out.keep hb HY.out.lt)
  have HB := Lib.hid (below_transG HB.out hb)
  clear hb
  clear q0 q1 q2 q3 q4 q5 q6 q7 q8 q9 q10 q11
  go_upto_region 4 with fail
  obtain ⟨w7, hww⟩ : ∃ x, x = w6.alloc (.cells #[.bool f2, .int .i64 r2, .int .i64 m2, .int .i64 t2] 61) := ⟨_, rfl⟩
  rw [← hww]
  have HW := Lib.hid (show Blk w7 (w.heap.size) 61 [.bool f, .int .i64 r, .int .i64 m, .int .i64 t] by rw [hww]; exact keep_box HW.out)
  have HF := Lib.hid (show Blk w7 (w.heap.size + 1) 67 [.bool e, .int .u32 (n : Int), .bool q, .int .i64 l, .int .u8 (x0 : Int), .int .u8 (x1 : Int), .int .u8 (x2 : Int), .int .u8 (x3 : Int), .int .u8 (x4 : Int), .int .u8 (x5 : Int), .int .u8 (x6 : Int), .int .u8 (x7 : Int)] by rw [hww]; exact keep_box HF.out)
  have HX := Lib.hid (show Blk w7 (w1.heap.size) 67 [.bool false, .int .u32 (gn : Int), .bool false, .int .i64 gl, .int .u8 (y0 : Int), .int .u8 (y1 : Int), .int .u8 (y2 : Int), .int .u8 (y3 : Int), .int .u8 (y4 : Int), .int .u8 (y5 : Int), .int .u8 (y6 : Int), .int .u8 (y7 : Int)] by rw [hww]; exact keep_box HX.out)
  have HY := Lib.hid (show Blk w7 (w4.heap.size) 67 [.bool false, .int .u32 (gn : Int), .bool false, .int .i64 gl, .int .u8 (y0 : Int), .int .u8 (y1 : Int), .int .u8 (y2 : Int), .int .u8 (y3 : Int), .int .u8 (y4 : Int), .int .u8 (y5 : Int), .int .u8 (y6 : Int), .int .u8 (y7 : Int)] by rw [hww]; exact keep_box HY.out)
  have HA := Lib.hid (show Blk w7 w6.heap.size 61 [.bool f2, .int .i64 r2, .int .i64 m2, .int .i64 t2] by rw [hww]; exact Blk.new w6 61 [.bool f2, .int .i64 r2, .int .i64 m2, .int .i64 t2])
  have HB := Lib.hid (show Below w.heap.size w w7 by rw [hww]; exact HB.out.alloc HB.out.size _)
  clear hww
  have q0 : w7.cell? ⟨(w.heap.size + 1), 0, none⟩ = some (.bool e) := HF.out.cellAt (i := 0) (by simp)
  have q1 : w7.cell? ⟨(w.heap.size + 1), 1, none⟩ = some (.int .u32 (n : Int)) := HF.out.cellAt (i := 1) (by simp)
  have q2 : w7.cell? ⟨(w.heap.size + 1), 2, none⟩ = some (.bool q) := HF.out.cellAt (i := 2) (by simp)
  have q3 : w7.cell? ⟨(w.heap.size + 1), 3, none⟩ = some (.int .i64 l) := HF.out.cellAt (i := 3) (by simp)
  have q4 : w7.cell? ⟨(w.heap.size + 1), 4, none⟩ = some (.int .u8 (x0 : Int)) := HF.out.cellAt (i := 4) (by simp)
  have q5 : w7.cell? ⟨(w.heap.size + 1), 5, none⟩ = some (.int .u8 (x1 : Int)) := HF.out.cellAt (i := 5) (by simp)
  have q6 : w7.cell? ⟨(w.heap.size + 1), 6, none⟩ = some (.int .u8 (x2 : Int)) := HF.out.cellAt (i := 6) (by simp)
  have q7 : w7.cell? ⟨(w.heap.size + 1), 7, none⟩ = some (.int .u8 (x3 : Int)) := HF.out.cellAt (i := 7) (by simp)
  have q8 : w7.cell? ⟨(w.heap.size + 1), 8, none⟩ = some (.int .u8 (x4 : Int)) := HF.out.cellAt (i := 8) (by simp)
  have q9 : w7.cell? ⟨(w.heap.size + 1), 9, none⟩ = some (.int .u8 (x5 : Int)) := HF.out.cellAt (i := 9) (by simp)
  have q10 : w7.cell? ⟨(w.heap.size + 1), 10, none⟩ = some (.int .u8 (x6 : Int)) := HF.out.cellAt (i := 10) (by simp)
  have q11 : w7.cell? ⟨(w.heap.size + 1), 11, none⟩ = some (.int .u8 (x7 : Int)) := HF.out.cellAt (i := 11) (by simp)
  go_wp2_with fail
  refine (HRO.out _).mono ?_
  rintro y w8 ⟨rfl, hb⟩
  have HW := Lib.hid (HW.out.keep hb HW.out.lt)
  have HF := Lib.hid (HF.out.keep hb HF.out.lt)
  have HX := Lib.hid (HX.out.keep hb HX.out.lt)
  have HY := Lib.hid (HY.out.keep hb HY.out.lt)
  have HA := Lib.hid (HA.out.keep hb HA.out.lt)
  have HB := Lib.hid (below_transG HB.out hb)
  clear hb
  clear q0 q1 q2 q3 q4 q5 q6 q7 q8 q9 q10 q11
  go_upto_region 5 with fail
  obtain ⟨w9, hww⟩ : ∃ x, x = w8.alloc (.cells #[.bool f2, .int .i64 r2, .int .i64 m2, .int .i64 t2] 71) := ⟨_, rfl⟩
  rw [← hww]
  have HW := Lib.hid (show Blk w9 (w.heap.size) 61 [.bool f, .int .i64 r, .int .i64 m, .int .i64 t] by rw [hww]; exact keep_box HW.out)
  have HF := Lib.hid (show Blk w9 (w.heap.size + 1) 67 [.bool e, .int .u32 (n : Int), .bool q, .int .i64 l, .int .u8 (x0 : Int), .int .u8 (x1 : Int), .int .u8 (x2 : Int), .int .u8 (x3 : Int), .int .u8 (x4 : Int), .int .u8 (x5 : Int), .int .u8 (x6 : Int), .int .u8 (x7 : Int)] by rw [hww]; exact keep_box HF.out)
  have HX := Lib.hid (show Blk w9 (w1.heap.size) 67 [.bool false, .int .u32 (gn : Int), .bool false, .int .i64 gl, .int .u8 (y0 : Int), .int .u8 (y1 : Int), .int .u8 (y2 : Int), .int .u8 (y3 : Int), .int .u8 (y4 : Int), .int .u8 (y5 : Int), .int .u8 (y6 : Int), .int .u8 (y7 : Int)] by rw [hww]; exact keep_box HX.out)
  have HY := Lib.hid (show Blk w9 (w4.heap.size) 67 [.bool false, .int .u32 (gn : Int), .bool false, .int .i64 gl, .int .u8 (y0 : Int), .int .u8 (y1 : Int), .int .u8 (y2 : Int), .int .u8 (y3 : Int), .int .u8 (y4 : Int), .int .u8 (y5 : Int), .int .u8 (y6 : Int), .int .u8 (y7 : Int)] by rw [hww]; exact keep_box HY.out)
  have HA := Lib.hid (show Blk w9 (w6.heap.size) 61 [.bool f2, .int .i64 r2, .int .i64 m2, .int .i64 t2] by rw [hww]; exact keep_box HA.out)
  have HC := Lib.hid (show Blk w9 w8.heap.size 71 [.bool f2, .int .i64 r2, .int .i64 m2, .int .i64 t2] by rw [hww]; exact Blk.new w8 71 [.bool f2, .int .i64 r2, .int .i64 m2, .int .i64 t2])
  have HB := Lib.hid (show Below w.heap.size w w9 by rw [hww]; exact HB.out.alloc HB.out.size _)
  clear hww
  have HZW := Lib.hid (show ∀ x, Below w9.heap.size w9 x → x.cell? ⟨w.heap.size, 0, none⟩ = some (.bool f) ∧ x.cell? ⟨w.heap.size, 1, none⟩ = some (.int .i64 r) ∧ x.cell? ⟨w.heap.size, 2, none⟩ = some (.int .i64 m) ∧ x.cell? ⟨w.heap.size, 3, none⟩ = some (.int .i64 t) from fun x hx => ⟨(HW.out.keep hx HW.out.lt).cellAt (i := 0) (by simp), (HW.out.keep hx HW.out.lt).cellAt (i := 1) (by simp), (HW.out.keep hx HW.out.lt).cellAt (i := 2) (by simp), (HW.out.keep hx HW.out.lt).cellAt (i := 3) (by simp)⟩)
  have HZX := Lib.hid (show ∀ x, Below w9.heap.size w9 x → x.cell? ⟨w1.heap.size, 0, none⟩ = some (.bool false) ∧ x.cell? ⟨w1.heap.size, 1, none⟩ = some (.int .u32 (gn : Int)) ∧ x.cell? ⟨w1.heap.size, 2, none⟩ = some (.bool false) ∧ x.cell? ⟨w1.heap.size, 3, none⟩ = some (.int .i64 gl) ∧ x.cell? ⟨w1.heap.size, 4, none⟩ = some (.int .u8 (y0 : Int)) ∧ x.cell? ⟨w1.heap.size, 5, none⟩ = some (.int .u8 (y1 : Int)) ∧ x.cell? ⟨w1.heap.size, 6, none⟩ = some (.int .u8 (y2 : Int)) ∧ x.cell? ⟨w1.heap.size, 7, none⟩ = some (.int .u8 (y3 : Int)) ∧ x.cell? ⟨w1.heap.size, 8, none⟩ = some (.int .u8 (y4 : Int)) ∧ x.cell? ⟨w1.heap.size, 9, none⟩ = some (.int .u8 (y5 : Int)) ∧ x.cell? ⟨w1.heap.size, 10, none⟩ = some (.int .u8 (y6 : Int)) ∧ x.cell? ⟨w1.heap.size, 11, none⟩ = some (.int .u8 (y7 : Int)) from fun x hx => ⟨(HX.out.keep hx HX.out.lt).cellAt (i := 0) (by simp), (HX.out.keep hx HX.out.lt).cellAt (i := 1) (by simp), (HX.out.keep hx HX.out.lt).cellAt (i := 2) (by simp), (HX.out.keep hx HX.out.lt).cellAt (i := 3) (by simp), (HX.out.keep hx HX.out.lt).cellAt (i := 4) (by simp), (HX.out.keep hx HX.out.lt).cellAt (i := 5) (by simp), (HX.out.keep hx HX.out.lt).cellAt (i := 6) (by simp), (HX.out.keep hx HX.out.lt).cellAt (i := 7) (by simp), (HX.out.keep hx HX.out.lt).cellAt (i := 8) (by simp), (HX.out.keep hx HX.out.lt).cellAt (i := 9) (by simp), (HX.out.keep hx HX.out.lt).cellAt (i := 10) (by simp), (HX.out.keep hx HX.out.lt).cellAt (i := 11) (by simp)⟩)
  have HZY := Lib.hid (show ∀ x, Below w9.heap.size w9 x → x.cell? ⟨w4.heap.size, 0, none⟩ = some (.bool false) ∧ x.cell? ⟨w4.heap.size, 1, none⟩ = some (.int .u32 (gn : Int)) ∧ x.cell? ⟨w4.heap.size, 2, none⟩ = some (.bool false) ∧ x.cell? ⟨w4.heap.size, 3, none⟩ = some (.int .i64 gl) ∧ x.cell? ⟨w4.heap.size, 4, none⟩ = some (.int .u8 (y0 : Int)) ∧ x.cell? ⟨w4.heap.size, 5, none⟩ = some (.int .u8 (y1 : Int)) ∧ x.cell? ⟨w4.heap.size, 6, none⟩ = some (.int .u8 (y2 : Int)) ∧ x.cell? ⟨w4.heap.size, 7, none⟩ = some (.int .u8 (y3 : Int)) ∧ x.cell? ⟨w4.heap.size, 8, none⟩ = some (.int .u8 (y4 : Int)) ∧ x.cell? ⟨w4.heap.size, 9, none⟩ = some (.int .u8 (y5 : Int)) ∧ x.cell? ⟨w4.heap.size, 10, none⟩ = some (.int .u8 (y6 : Int)) ∧ x.cell? ⟨w4.heap.size, 11, none⟩ = some (.int .u8 (y7 : Int)) from fun x hx => ⟨(HY.out.keep hx HY.out.lt).cellAt (i := 0) (by simp), (HY.out.keep hx HY.out.lt).cellAt (i := 1) (by simp), (HY.out.keep hx HY.out.lt).cellAt (i := 2) (by simp), (HY.out.keep hx HY.out.lt).cellAt (i := 3) (by simp), (HY.out.keep hx HY.out.lt).cellAt (i := 4) (by simp), (HY.out.keep hx HY.out.lt).cellAt (i := 5) (by simp), (HY.out.keep hx HY.out.lt).cellAt (i := 6) (by simp), (HY.out.keep hx HY.out.lt).cellAt (i := 7) (by simp), (HY.out.keep hx HY.out.lt).cellAt (i := 8) (by simp), (HY.out.keep hx HY.out.lt).cellAt (i := 9) (by simp), (HY.out.keep hx HY.out.lt).cellAt (i := 10) (by simp), (HY.out.keep hx HY.out.lt).cellAt (i := 11) (by simp)⟩)
  have HZA := Lib.hid (show ∀ x, Below w9.heap.size w9 x → x.cell? ⟨w6.heap.size, 0, none⟩ = some (.bool f2) ∧ x.cell? ⟨w6.heap.size, 1, none⟩ = some (.int .i64 r2) ∧ x.cell? ⟨w6.heap.size, 2, none⟩ = some (.int .i64 m2) ∧ x.cell? ⟨w6.heap.size, 3, none⟩ = some (.int .i64 t2) from fun x hx => ⟨(HA.out.keep hx HA.out.lt).cellAt (i := 0) (by simp), (HA.out.keep hx HA.out.lt).cellAt (i := 1) (by simp), (HA.out.keep hx HA.out.lt).cellAt (i := 2) (by simp), (HA.out.keep hx HA.out.lt).cellAt (i := 3) (by simp)⟩)
  have HZC := Lib.hid (show ∀ x, Below w9.heap.size w9 x → x.cell? ⟨w8.heap.size, 0, none⟩ = some (.bool f2) ∧ x.cell? ⟨w8.heap.size, 1, none⟩ = some (.int .i64 r2) ∧ x.cell? ⟨w8.heap.size, 2, none⟩ = some (.int .i64 m2) ∧ x.cell? ⟨w8.heap.size, 3, none⟩ = some (.int .i64 t2) from fun x hx => ⟨(HC.out.keep hx HC.out.lt).cellAt (i := 0) (by simp), (HC.out.keep hx HC.out.lt).cellAt (i := 1) (by simp), (HC.out.keep hx HC.out.lt).cellAt (i := 2) (by simp), (HC.out.keep hx HC.out.lt).cellAt (i := 3) (by simp)⟩)
  have heq : ∀ u, Sem.run Try.prog (Op.equalIn 9999 65 (.agg #[.int .u8 (y0 : Int), .int .u8 (y1 : Int), .int .u8 (y2 : Int), .int .u8 (y3 : Int), .int .u8 (y4 : Int), .int .u8 (y5 : Int), .int .u8 (y6 : Int), .int .u8 (y7 : Int)]) (.agg #[.int .u8 (y0 : Int), .int .u8 (y1 : Int), .int .u8 (y2 : Int), .int .u8 (y3 : Int), .int .u8 (y4 : Int), .int .u8 (y5 : Int), .int .u8 (y6 : Int), .int .u8 (y7 : Int)])) u = .ok true u := fun u => by rw [equal8 9997]; simp
  have k0 : (rg == rg) = true := by simp
  have k1 : ((gn : Int) == (gn : Int)) = true := by simp
  have k2 : (gl == gl) = true := by simp
  have k3 : (er == er) = true := by simp
  have k4 : (ok == ok) = true := by simp
  have k5 : (f2 == f2) = true := by simp
  have k6 : (r2 == r2) = true := by simp
  have k7 : (m2 == m2) = true := by simp
  have k8 : (t2 == t2) = true := by simp
  refine wp_region_class (C := fun x => Below w9.heap.size w9 x) (by kernel_rfl) (by kernel_rfl) (Below.refl _ _).drew ?_
  repeat
    with_reducible refine wpQuiet_step (fun K hK => ?_)
    first
      | (refine quiet_skip (by rfl) ?_; (with_reducible refine hK _ ?_); clear hK K)
      | (refine quiet_want (by rfl) ?_
         apply Exists.intro
         refine ⟨fun x hx => ?_, hK _ ?_⟩
         (first | (go_simp; first | done | rfl | (first | (go_at_call 41; exact (live20 x).mono fun y w' ⟨h1, h2⟩ => ⟨h1, below_transG hx h2⟩) | (go_at_call 42; exact (HR.out x).mono fun y w' ⟨h1, h2⟩ => ⟨h1, below_transG hx h2⟩) | (go_at_call 43; exact (HRR.out x).mono fun y w' ⟨h1, h2⟩ => ⟨h1, below_transG hx h2⟩) | (go_at_call 38; exact (plain20_any _ _ _ _ x).mono fun y w' ⟨h1, h2⟩ => ⟨h1, below_transG hx h2⟩))) | (obtain ⟨hx0, hx1, hx2, hx3⟩ := HZW.out x hx; clear hx; go_simp; first | done | rfl) | (obtain ⟨hx0, hx1, hx2, hx3, hx4, hx5, hx6, hx7, hx8, hx9, hx10, hx11⟩ := HZX.out x hx; clear hx; go_simp; first | done | rfl) | (obtain ⟨hx0, hx1, hx2, hx3, hx4, hx5, hx6, hx7, hx8, hx9, hx10, hx11⟩ := HZY.out x hx; clear hx; go_simp; first | done | rfl) | (obtain ⟨hx0, hx1, hx2, hx3⟩ := HZA.out x hx; clear hx; go_simp; first | done | rfl) | (obtain ⟨hx0, hx1, hx2, hx3⟩ := HZC.out x hx; clear hx; go_simp; first | done | rfl))
         clear hK K)
    try simp only [Act.put, List.setIfInBounds_toArray, List.set_cons_zero, List.set_cons_succ]
  with_reducible refine wpQuiet_nil ?_
  intro wq hq
  have HB5 := Lib.hid (below_transG HB.out hq)
  clear hq
  go_wp2_with fail
  go_ret
  exact ⟨rfl, HB5.out⟩
set_option maxRecDepth 100000 in
theorem lifted (os : Os) (started : os.Started) (H : Type) (enc : TypeId × Value → H) :
    ReturnsInHanded {} Try.checked os 7 .any (Rows.slaveWordsSpec.pre6 enc Try.prog Try.f7 Rows.slaveWordsRow.domain false) (Rows.slaveWordsSpec.post enc Try.prog Try.f7 false true false false) := by
  refine returnsInHanded_of_change (C := Try.checked) own started (by kernel_rfl) Try.func7
    (ChangeSpec.witness6 (enc := enc) (C := Try.checked) false ⟨#[], #[.agg #[.bool false, .int .i64 0, .int .i64 0, .int .i64 0], .agg #[.bool false, .int .u32 0, .bool false, .int .i64 0, .int .u8 0, .int .u8 0, .int .u8 0, .int .u8 0, .int .u8 0, .int .u8 0, .int .u8 0, .int .u8 0]], []⟩ 8 (by kernel_rfl) (by kernel_rfl) (by kernel_rfl) (by kernel_rfl)) ?_
  intro W base args ds gs before hval0 hW _ _
  have hval : ∀ (j : Nat) t v, Try.f7.params[j]? = some t → args[j]? = some v → Value.okWide Try.prog W .any base t v := hval0
  have hW' := hW
  obtain ⟨p, q, hA0, hV, rfl, hfz, hnd⟩ := hW
  have hA : DataW.TrodAll enc Try.prog W 0 (fun _ => true) true Try.f7.params.toList args.toList ds p := hA0
  rw [Try.params7] at hA hval
  obtain ⟨v0, vs0, d0, ds0, p0, q0, hargs, rfl, rfl, h0, r0⟩ := trodAll_cons hA
  obtain ⟨v1, vs1, d1, ds1, p1, q1, rfl, rfl, rfl, h1, r1⟩ := trodAll_cons r0
  obtain ⟨rfl, rfl, rfl⟩ := trodAll_nil r1
  obtain rfl : args = #[v0, v1] := by cases args; simp_all
  obtain ⟨rfl, rfl⟩ := trodVars_none hV
  have k0 := h0
  have lt0 : ∀ x ∈ p0, x.block < W.heap.size := by obtain ⟨m, hm⟩ := k0; exact DataW.trod_lt m _ _ _ hm
  obtain ⟨f0, r0_, n0, t0_, rfl, w0⟩ := open_word (hval 0 61 v0 rfl rfl) h0
  have k1 := h1
  have lt1 : ∀ x ∈ p1, x.block < W.heap.size := by obtain ⟨m, hm⟩ := k1; exact DataW.trod_lt m _ _ _ hm
  obtain ⟨e1, n1, q1, l1, x1, rfl, w1⟩ := open_frame (hval 1 67 v1 rfl rfl) h1
  clear hA0 hval0
  refine (walk f0 r0_ n0 t0_ e1 n1 q1 l1 x1 w0 w1 W).mono fun e W' ⟨he, bel⟩ => ?_
  subst he
  exact ⟨_, rfl, _, _, _, [], _, [], hW', trodAll_mk1 (shut_bool Try.underlying4 _), (trodAll_cons_mk (Below.trod laidOut (by kernel_rfl) (of_decide_eq_true (by kernel_rfl)) k0 bel lt0) (trodAll_cons_mk (Below.trod laidOut (by kernel_rfl) (of_decide_eq_true (by kernel_rfl)) k1 bel lt1) trodAll_mk0)), rfl, bel.frame _, fun h => by cases h⟩
theorem over : Rows.slaveWordsRow.holds Try.pinned (OpenSpec.ofChange Rows.slaveWordsSpec) :=
  OpenClaim.holds_of_wide 7 Try.f7 rfl rfl rfl rfl rfl rfl rfl ⟨rfl, rfl, rfl, rfl, rfl⟩ rfl rfl rfl rfl rfl (by kernel_rfl) Try.func7 (by kernel_rfl)
    (of_decide_eq_true (by kernel_rfl)) (by unfold Func.isWrapper; first | (rw [if_pos (by decide +kernel)]; kernel_rfl) | (rw [if_neg (by decide +kernel)]; exact ⟨rfl, rfl⟩))
    (fun os started H enc _ => lifted os started H enc)
/-- The statement. -/
theorem proved : Rows.SlaveWordsSaid := over
end Go.Proofs.Ytmlnobiakfapcaa.slaveWords
