/- Package slave: the word of a frame. Conditions: each theorem says its own. -/
import Derived.Test.YtpamkmpaldepnaaSld
namespace Go.Proofs.Ytpamkmpaldepnaa
open Go.RowKit
theorem keep_box {w1 : World} {o : Obj} {B : Nat} {T : TypeId} {l : List Value} (h : Blk w1 B T l) : Blk (w1.alloc o) B T l := h.keep ((Below.refl _ _).alloc (Nat.le_refl _) _) h.lt
set_option maxHeartbeats 4000000 in
theorem of_walk (e : Bool) (n : Int) (q : Bool) (l x0 x1 x2 x3 x4 x5 x6 x7 : Int) (f0 : Bool) (a b c gn gl y0 y1 y2 y3 y4 y5 y6 y7 er : Int) (k8 : Bool)
    (hm : ∀ u, Calls Try.prog 64 #[.agg #[.bool e, .int .u32 n, .bool q, .int .i64 l, .int .u8 x0, .int .u8 x1, .int .u8 x2, .int .u8 x3, .int .u8 x4, .int .u8 x5, .int .u8 x6, .int .u8 x7]] u fun y w' => y = .returned (.agg #[.bool f0, .int .i64 a, .int .i64 b, .int .i64 c]) ∧ Below u.heap.size u w')
    (hf : ∀ u, Calls Try.prog 34 #[.agg #[.bool f0, .int .i64 a, .int .i64 b, .int .i64 c]] u fun y w' => y = .returned (.tuple #[.agg #[.bool false, .int .u32 gn, .bool false, .int .i64 gl, .int .u8 y0, .int .u8 y1, .int .u8 y2, .int .u8 y3, .int .u8 y4, .int .u8 y5, .int .u8 y6, .int .u8 y7], .int .i64 er]) ∧ Below u.heap.size u w')
    (h8 : ∀ u, Sem.run Try.prog (Op.equalIn 9999 69 (.agg #[.int .u8 y0, .int .u8 y1, .int .u8 y2, .int .u8 y3, .int .u8 y4, .int .u8 y5, .int .u8 y6, .int .u8 y7]) (.agg #[.int .u8 x0, .int .u8 x1, .int .u8 x2, .int .u8 x3, .int .u8 x4, .int .u8 x5, .int .u8 x6, .int .u8 x7])) u = .ok k8 u) (w : World) :
    Calls Try.prog 35 #[.agg #[.bool e, .int .u32 n, .bool q, .int .i64 l, .int .u8 x0, .int .u8 x1, .int .u8 x2, .int .u8 x3, .int .u8 x4, .int .u8 x5, .int .u8 x6, .int .u8 x7]] w fun y w' => y = .returned (if er = 0 ∧ e = false ∧ gn = n ∧ q = false ∧ gl = l ∧ k8 = true then .tuple #[.agg #[.bool f0, .int .i64 a, .int .i64 b, .int .i64 c], .bool true] else .tuple #[.agg #[.bool false, .int .i64 0, .int .i64 0, .int .i64 0], .bool false]) ∧ Below w.heap.size w w' := by
  have HM := Lib.hid hm; have HFR := Lib.hid hf
  clear hm hf
  obtain ⟨V, hV⟩ : ∃ V, V = (if er = 0 ∧ e = false ∧ gn = n ∧ q = false ∧ gl = l ∧ k8 = true then Value.tuple #[.agg #[.bool f0, .int .i64 a, .int .i64 b, .int .i64 c], .bool true] else .tuple #[.agg #[.bool false, .int .i64 0, .int .i64 0, .int .i64 0], .bool false]) := ⟨_, rfl⟩
  rw [← hV]
  have HV := Lib.hid hV
  clear hV
  go_enter Try.func35, Try.ntmps35
  go_upto_region 1 with fail
  obtain ⟨w1, hw1⟩ : ∃ w1, w1 = (w.alloc (.cells #[.bool e, .int .u32 n, .bool q, .int .i64 l, .int .u8 x0, .int .u8 x1, .int .u8 x2, .int .u8 x3, .int .u8 x4, .int .u8 x5, .int .u8 x6, .int .u8 x7] 71)).alloc (.cells #[.bool false, .int .i64 0, .int .i64 0, .int .i64 0] 75) := ⟨_, rfl⟩
  rw [← hw1]
  have HF1 := Lib.hid (show Blk w1 w.heap.size 71 [.bool e, .int .u32 n, .bool q, .int .i64 l, .int .u8 x0, .int .u8 x1, .int .u8 x2, .int .u8 x3, .int .u8 x4, .int .u8 x5, .int .u8 x6, .int .u8 x7] by rw [hw1]; exact (Blk.new w 71 [.bool e, .int .u32 n, .bool q, .int .i64 l, .int .u8 x0, .int .u8 x1, .int .u8 x2, .int .u8 x3, .int .u8 x4, .int .u8 x5, .int .u8 x6, .int .u8 x7]).keep ((Below.refl _ _).alloc (Nat.le_refl _) _) (by simp))
  have HR1 := Lib.hid (show Blk w1 (w.heap.size + 1) 75 [.bool false, .int .i64 0, .int .i64 0, .int .i64 0] by rw [hw1]; exact blk_two w _ 75 [.bool false, .int .i64 0, .int .i64 0, .int .i64 0])
  have HB1 := Lib.hid (show Below w.heap.size w w1 by rw [hw1]; exact ((Below.refl _ w).alloc (Nat.le_refl _) _).alloc (by simp) _)
  clear hw1
  have q0 : w1.cell? ⟨w.heap.size, 0, none⟩ = some (.bool e) := HF1.out.cellAt (i := 0) (by simp)
  have q1 : w1.cell? ⟨w.heap.size, 1, none⟩ = some (.int .u32 n) := HF1.out.cellAt (i := 1) (by simp)
  have q2 : w1.cell? ⟨w.heap.size, 2, none⟩ = some (.bool q) := HF1.out.cellAt (i := 2) (by simp)
  have q3 : w1.cell? ⟨w.heap.size, 3, none⟩ = some (.int .i64 l) := HF1.out.cellAt (i := 3) (by simp)
  have q4 : w1.cell? ⟨w.heap.size, 4, none⟩ = some (.int .u8 x0) := HF1.out.cellAt (i := 4) (by simp)
  have q5 : w1.cell? ⟨w.heap.size, 5, none⟩ = some (.int .u8 x1) := HF1.out.cellAt (i := 5) (by simp)
  have q6 : w1.cell? ⟨w.heap.size, 6, none⟩ = some (.int .u8 x2) := HF1.out.cellAt (i := 6) (by simp)
  have q7 : w1.cell? ⟨w.heap.size, 7, none⟩ = some (.int .u8 x3) := HF1.out.cellAt (i := 7) (by simp)
  have q8 : w1.cell? ⟨w.heap.size, 8, none⟩ = some (.int .u8 x4) := HF1.out.cellAt (i := 8) (by simp)
  have q9 : w1.cell? ⟨w.heap.size, 9, none⟩ = some (.int .u8 x5) := HF1.out.cellAt (i := 9) (by simp)
  have q10 : w1.cell? ⟨w.heap.size, 10, none⟩ = some (.int .u8 x6) := HF1.out.cellAt (i := 10) (by simp)
  have q11 : w1.cell? ⟨w.heap.size, 11, none⟩ = some (.int .u8 x7) := HF1.out.cellAt (i := 11) (by simp)
  go_wp2_with fail
  refine (HM.out _).mono ?_
  rintro y w2 ⟨rfl, hb⟩
  have HF2 := Lib.hid (HF1.out.keep hb HF1.out.lt); have HR2 := Lib.hid (HR1.out.keep hb HR1.out.lt); have HB2 := Lib.hid (below_transG HB1.out hb)
  clear hb q0 q1 q2 q3 q4 q5 q6 q7 q8 q9 q10 q11
  go_upto_region 2 with fail
  obtain ⟨w3, hw3⟩ : ∃ w3, w3 = w2.alloc (.cells #[.bool f0, .int .i64 a, .int .i64 b, .int .i64 c] 75) := ⟨_, rfl⟩
  rw [← hw3]
  have HW3 := Lib.hid (show Blk w3 w2.heap.size 75 [.bool f0, .int .i64 a, .int .i64 b, .int .i64 c] by rw [hw3]; exact Blk.new w2 75 [.bool f0, .int .i64 a, .int .i64 b, .int .i64 c])
  have HF3 := Lib.hid (show Blk w3 w.heap.size 71 [.bool e, .int .u32 n, .bool q, .int .i64 l, .int .u8 x0, .int .u8 x1, .int .u8 x2, .int .u8 x3, .int .u8 x4, .int .u8 x5, .int .u8 x6, .int .u8 x7] by rw [hw3]; exact keep_box HF2.out); have HR3 := Lib.hid (show Blk w3 (w.heap.size + 1) 75 [.bool false, .int .i64 0, .int .i64 0, .int .i64 0] by rw [hw3]; exact keep_box HR2.out)
  have HB3 := Lib.hid (show Below w.heap.size w w3 by rw [hw3]; exact HB2.out.alloc HB2.out.size _)
  clear hw3
  have q0 : w3.cell? ⟨w2.heap.size, 0, none⟩ = some (.bool f0) := HW3.out.cellAt (i := 0) (by simp)
  have q1 : w3.cell? ⟨w2.heap.size, 1, none⟩ = some (.int .i64 a) := HW3.out.cellAt (i := 1) (by simp)
  have q2 : w3.cell? ⟨w2.heap.size, 2, none⟩ = some (.int .i64 b) := HW3.out.cellAt (i := 2) (by simp)
  have q3 : w3.cell? ⟨w2.heap.size, 3, none⟩ = some (.int .i64 c) := HW3.out.cellAt (i := 3) (by simp)
  go_wp2_with fail
  refine (HFR.out _).mono ?_
  rintro y w4 ⟨rfl, hb⟩
  have HW4 := Lib.hid (HW3.out.keep hb HW3.out.lt); have HF4 := Lib.hid (HF3.out.keep hb HF3.out.lt); have HR4 := Lib.hid (HR3.out.keep hb HR3.out.lt); have HB4 := Lib.hid (below_transG HB3.out hb)
  clear hb q0 q1 q2 q3
  go_upto_region 3 with fail
  obtain ⟨w5, hw5⟩ : ∃ w5, w5 = w4.alloc (.cells #[.bool false, .int .u32 gn, .bool false, .int .i64 gl, .int .u8 y0, .int .u8 y1, .int .u8 y2, .int .u8 y3, .int .u8 y4, .int .u8 y5, .int .u8 y6, .int .u8 y7] 71) := ⟨_, rfl⟩
  rw [← hw5]
  have HG5 := Lib.hid (show Blk w5 w4.heap.size 71 [.bool false, .int .u32 gn, .bool false, .int .i64 gl, .int .u8 y0, .int .u8 y1, .int .u8 y2, .int .u8 y3, .int .u8 y4, .int .u8 y5, .int .u8 y6, .int .u8 y7] by rw [hw5]; exact Blk.new w4 71 [.bool false, .int .u32 gn, .bool false, .int .i64 gl, .int .u8 y0, .int .u8 y1, .int .u8 y2, .int .u8 y3, .int .u8 y4, .int .u8 y5, .int .u8 y6, .int .u8 y7])
  have HW5 := Lib.hid (show Blk w5 w2.heap.size 75 [.bool f0, .int .i64 a, .int .i64 b, .int .i64 c] by rw [hw5]; exact keep_box HW4.out)
  have HF5 := Lib.hid (show Blk w5 w.heap.size 71 [.bool e, .int .u32 n, .bool q, .int .i64 l, .int .u8 x0, .int .u8 x1, .int .u8 x2, .int .u8 x3, .int .u8 x4, .int .u8 x5, .int .u8 x6, .int .u8 x7] by rw [hw5]; exact keep_box HF4.out); have HR5 := Lib.hid (show Blk w5 (w.heap.size + 1) 75 [.bool false, .int .i64 0, .int .i64 0, .int .i64 0] by rw [hw5]; exact keep_box HR4.out)
  have HB5 := Lib.hid (show Below w.heap.size w w5 by rw [hw5]; exact HB4.out.alloc HB4.out.size _)
  clear hw5
  have g0 : w5.cell? ⟨w4.heap.size, 0, none⟩ = some (.bool false) := HG5.out.cellAt (i := 0) (by simp)
  have g1 : w5.cell? ⟨w4.heap.size, 1, none⟩ = some (.int .u32 gn) := HG5.out.cellAt (i := 1) (by simp)
  have g2 : w5.cell? ⟨w4.heap.size, 2, none⟩ = some (.bool false) := HG5.out.cellAt (i := 2) (by simp)
  have g3 : w5.cell? ⟨w4.heap.size, 3, none⟩ = some (.int .i64 gl) := HG5.out.cellAt (i := 3) (by simp)
  have g4 : w5.cell? ⟨w4.heap.size, 4, none⟩ = some (.int .u8 y0) := HG5.out.cellAt (i := 4) (by simp)
  have g5 : w5.cell? ⟨w4.heap.size, 5, none⟩ = some (.int .u8 y1) := HG5.out.cellAt (i := 5) (by simp)
  have g6 : w5.cell? ⟨w4.heap.size, 6, none⟩ = some (.int .u8 y2) := HG5.out.cellAt (i := 6) (by simp)
  have g7 : w5.cell? ⟨w4.heap.size, 7, none⟩ = some (.int .u8 y3) := HG5.out.cellAt (i := 7) (by simp)
  have g8 : w5.cell? ⟨w4.heap.size, 8, none⟩ = some (.int .u8 y4) := HG5.out.cellAt (i := 8) (by simp)
  have g9 : w5.cell? ⟨w4.heap.size, 9, none⟩ = some (.int .u8 y5) := HG5.out.cellAt (i := 9) (by simp)
  have g10 : w5.cell? ⟨w4.heap.size, 10, none⟩ = some (.int .u8 y6) := HG5.out.cellAt (i := 10) (by simp)
  have g11 : w5.cell? ⟨w4.heap.size, 11, none⟩ = some (.int .u8 y7) := HG5.out.cellAt (i := 11) (by simp)
  have q0 : w5.cell? ⟨w.heap.size, 0, none⟩ = some (.bool e) := HF5.out.cellAt (i := 0) (by simp)
  have q1 : w5.cell? ⟨w.heap.size, 1, none⟩ = some (.int .u32 n) := HF5.out.cellAt (i := 1) (by simp)
  have q2 : w5.cell? ⟨w.heap.size, 2, none⟩ = some (.bool q) := HF5.out.cellAt (i := 2) (by simp)
  have q3 : w5.cell? ⟨w.heap.size, 3, none⟩ = some (.int .i64 l) := HF5.out.cellAt (i := 3) (by simp)
  have q4 : w5.cell? ⟨w.heap.size, 4, none⟩ = some (.int .u8 x0) := HF5.out.cellAt (i := 4) (by simp)
  have q5 : w5.cell? ⟨w.heap.size, 5, none⟩ = some (.int .u8 x1) := HF5.out.cellAt (i := 5) (by simp)
  have q6 : w5.cell? ⟨w.heap.size, 6, none⟩ = some (.int .u8 x2) := HF5.out.cellAt (i := 6) (by simp)
  have q7 : w5.cell? ⟨w.heap.size, 7, none⟩ = some (.int .u8 x3) := HF5.out.cellAt (i := 7) (by simp)
  have q8 : w5.cell? ⟨w.heap.size, 8, none⟩ = some (.int .u8 x4) := HF5.out.cellAt (i := 8) (by simp)
  have q9 : w5.cell? ⟨w.heap.size, 9, none⟩ = some (.int .u8 x5) := HF5.out.cellAt (i := 9) (by simp)
  have q10 : w5.cell? ⟨w.heap.size, 10, none⟩ = some (.int .u8 x6) := HF5.out.cellAt (i := 10) (by simp)
  have q11 : w5.cell? ⟨w.heap.size, 11, none⟩ = some (.int .u8 x7) := HF5.out.cellAt (i := 11) (by simp)
  have r0 : w5.cell? ⟨w2.heap.size, 0, none⟩ = some (.bool f0) := HW5.out.cellAt (i := 0) (by simp)
  have r1 : w5.cell? ⟨w2.heap.size, 1, none⟩ = some (.int .i64 a) := HW5.out.cellAt (i := 1) (by simp)
  have r2 : w5.cell? ⟨w2.heap.size, 2, none⟩ = some (.int .i64 b) := HW5.out.cellAt (i := 2) (by simp)
  have r3 : w5.cell? ⟨w2.heap.size, 3, none⟩ = some (.int .i64 c) := HW5.out.cellAt (i := 3) (by simp)
  have d0 : w5.cell? ⟨w.heap.size + 1, 0, none⟩ = some (.bool false) := HR5.out.cellAt (i := 0) (by simp)
  have d1 : w5.cell? ⟨w.heap.size + 1, 1, none⟩ = some (.int .i64 0) := HR5.out.cellAt (i := 1) (by simp)
  have d2 : w5.cell? ⟨w.heap.size + 1, 2, none⟩ = some (.int .i64 0) := HR5.out.cellAt (i := 2) (by simp)
  have d3 : w5.cell? ⟨w.heap.size + 1, 3, none⟩ = some (.int .i64 0) := HR5.out.cellAt (i := 3) (by simp)
  have p0 : w5.frozen? ⟨w.heap.size + 1, 0, none⟩ = false := HR5.out.frozenAt 0
  have p1 : w5.frozen? ⟨w.heap.size + 1, 1, none⟩ = false := HR5.out.frozenAt 1
  have p2 : w5.frozen? ⟨w.heap.size + 1, 2, none⟩ = false := HR5.out.frozenAt 2
  have p3 : w5.frozen? ⟨w.heap.size + 1, 3, none⟩ = false := HR5.out.frozenAt 3
  by_cases h0 : er = 0
  case neg =>
    have i0 : (er != 0) = true := by simp [h0]
    obtain rfl : V = .tuple #[.agg #[.bool false, .int .i64 0, .int .i64 0, .int .i64 0], .bool false] := by rw [HV.out, if_neg (by simp_all)]
    clear HV
    go_wp2_with fail
    obtain ⟨W, hWW⟩ : ∃ W, W = ((((w5.setCell ⟨w.heap.size + 1, 0, none⟩ (.bool false)).setCell ⟨w.heap.size + 1, 1, none⟩ (.int .i64 0)).setCell ⟨w.heap.size + 1, 2, none⟩ (.int .i64 0)).setCell ⟨w.heap.size + 1, 3, none⟩ (.int .i64 0)) := ⟨_, rfl⟩
    rw [← hWW]
    have hRS : Blk W (w.heap.size + 1) 75 [.bool false, .int .i64 0, .int .i64 0, .int .i64 0] := by rw [hWW]; exact (HR5.out).set [.bool false, .int .i64 0, .int .i64 0, .int .i64 0] rfl
    have hb := (show Below w.heap.size w W by rw [hWW]; exact Go.below_setCells (by first | omega | simp) [.bool false, .int .i64 0, .int .i64 0, .int .i64 0] 0 _ HB5.out)
    clear hWW
    have z0 : W.cell? ⟨w.heap.size + 1, 0, none⟩ = some (.bool false) := hRS.cellAt (i := 0) (by simp)
    have z1 : W.cell? ⟨w.heap.size + 1, 1, none⟩ = some (.int .i64 0) := hRS.cellAt (i := 1) (by simp)
    have z2 : W.cell? ⟨w.heap.size + 1, 2, none⟩ = some (.int .i64 0) := hRS.cellAt (i := 2) (by simp)
    have z3 : W.cell? ⟨w.heap.size + 1, 3, none⟩ = some (.int .i64 0) := hRS.cellAt (i := 3) (by simp)
    exact bodyPost_ret (v := .tuple #[.agg #[.bool false, .int .i64 0, .int .i64 0, .int .i64 0], .bool false]) (by simp [results, Try.results35, go_sem, z0, z1, z2, z3]) rfl ⟨rfl, hb⟩
  obtain rfl := h0
  cases e
  case true =>
    obtain rfl : V = .tuple #[.agg #[.bool false, .int .i64 0, .int .i64 0, .int .i64 0], .bool false] := by rw [HV.out, if_neg (by simp_all)]
    clear HV
    go_wp2_with fail
    obtain ⟨W, hWW⟩ : ∃ W, W = ((((w5.setCell ⟨w.heap.size + 1, 0, none⟩ (.bool false)).setCell ⟨w.heap.size + 1, 1, none⟩ (.int .i64 0)).setCell ⟨w.heap.size + 1, 2, none⟩ (.int .i64 0)).setCell ⟨w.heap.size + 1, 3, none⟩ (.int .i64 0)) := ⟨_, rfl⟩
    rw [← hWW]
    have hRS : Blk W (w.heap.size + 1) 75 [.bool false, .int .i64 0, .int .i64 0, .int .i64 0] := by rw [hWW]; exact (HR5.out).set [.bool false, .int .i64 0, .int .i64 0, .int .i64 0] rfl
    have hb := (show Below w.heap.size w W by rw [hWW]; exact Go.below_setCells (by first | omega | simp) [.bool false, .int .i64 0, .int .i64 0, .int .i64 0] 0 _ HB5.out)
    clear hWW
    have z0 : W.cell? ⟨w.heap.size + 1, 0, none⟩ = some (.bool false) := hRS.cellAt (i := 0) (by simp)
    have z1 : W.cell? ⟨w.heap.size + 1, 1, none⟩ = some (.int .i64 0) := hRS.cellAt (i := 1) (by simp)
    have z2 : W.cell? ⟨w.heap.size + 1, 2, none⟩ = some (.int .i64 0) := hRS.cellAt (i := 2) (by simp)
    have z3 : W.cell? ⟨w.heap.size + 1, 3, none⟩ = some (.int .i64 0) := hRS.cellAt (i := 3) (by simp)
    exact bodyPost_ret (v := .tuple #[.agg #[.bool false, .int .i64 0, .int .i64 0, .int .i64 0], .bool false]) (by simp [results, Try.results35, go_sem, z0, z1, z2, z3]) rfl ⟨rfl, hb⟩
  by_cases h1 : gn = n
  case neg =>
    have i0 : (gn == n) = false := by simp [h1]
    obtain rfl : V = .tuple #[.agg #[.bool false, .int .i64 0, .int .i64 0, .int .i64 0], .bool false] := by rw [HV.out, if_neg (by simp_all)]
    clear HV
    go_wp2_with fail
    obtain ⟨W, hWW⟩ : ∃ W, W = ((((w5.setCell ⟨w.heap.size + 1, 0, none⟩ (.bool false)).setCell ⟨w.heap.size + 1, 1, none⟩ (.int .i64 0)).setCell ⟨w.heap.size + 1, 2, none⟩ (.int .i64 0)).setCell ⟨w.heap.size + 1, 3, none⟩ (.int .i64 0)) := ⟨_, rfl⟩
    rw [← hWW]
    have hRS : Blk W (w.heap.size + 1) 75 [.bool false, .int .i64 0, .int .i64 0, .int .i64 0] := by rw [hWW]; exact (HR5.out).set [.bool false, .int .i64 0, .int .i64 0, .int .i64 0] rfl
    have hb := (show Below w.heap.size w W by rw [hWW]; exact Go.below_setCells (by first | omega | simp) [.bool false, .int .i64 0, .int .i64 0, .int .i64 0] 0 _ HB5.out)
    clear hWW
    have z0 : W.cell? ⟨w.heap.size + 1, 0, none⟩ = some (.bool false) := hRS.cellAt (i := 0) (by simp)
    have z1 : W.cell? ⟨w.heap.size + 1, 1, none⟩ = some (.int .i64 0) := hRS.cellAt (i := 1) (by simp)
    have z2 : W.cell? ⟨w.heap.size + 1, 2, none⟩ = some (.int .i64 0) := hRS.cellAt (i := 2) (by simp)
    have z3 : W.cell? ⟨w.heap.size + 1, 3, none⟩ = some (.int .i64 0) := hRS.cellAt (i := 3) (by simp)
    exact bodyPost_ret (v := .tuple #[.agg #[.bool false, .int .i64 0, .int .i64 0, .int .i64 0], .bool false]) (by simp [results, Try.results35, go_sem, z0, z1, z2, z3]) rfl ⟨rfl, hb⟩
  obtain rfl := h1
  cases q
  case true =>
    obtain rfl : V = .tuple #[.agg #[.bool false, .int .i64 0, .int .i64 0, .int .i64 0], .bool false] := by rw [HV.out, if_neg (by simp_all)]
    clear HV
    go_wp2_with fail
    obtain ⟨W, hWW⟩ : ∃ W, W = ((((w5.setCell ⟨w.heap.size + 1, 0, none⟩ (.bool false)).setCell ⟨w.heap.size + 1, 1, none⟩ (.int .i64 0)).setCell ⟨w.heap.size + 1, 2, none⟩ (.int .i64 0)).setCell ⟨w.heap.size + 1, 3, none⟩ (.int .i64 0)) := ⟨_, rfl⟩
    rw [← hWW]
    have hRS : Blk W (w.heap.size + 1) 75 [.bool false, .int .i64 0, .int .i64 0, .int .i64 0] := by rw [hWW]; exact (HR5.out).set [.bool false, .int .i64 0, .int .i64 0, .int .i64 0] rfl
    have hb := (show Below w.heap.size w W by rw [hWW]; exact Go.below_setCells (by first | omega | simp) [.bool false, .int .i64 0, .int .i64 0, .int .i64 0] 0 _ HB5.out)
    clear hWW
    have z0 : W.cell? ⟨w.heap.size + 1, 0, none⟩ = some (.bool false) := hRS.cellAt (i := 0) (by simp)
    have z1 : W.cell? ⟨w.heap.size + 1, 1, none⟩ = some (.int .i64 0) := hRS.cellAt (i := 1) (by simp)
    have z2 : W.cell? ⟨w.heap.size + 1, 2, none⟩ = some (.int .i64 0) := hRS.cellAt (i := 2) (by simp)
    have z3 : W.cell? ⟨w.heap.size + 1, 3, none⟩ = some (.int .i64 0) := hRS.cellAt (i := 3) (by simp)
    exact bodyPost_ret (v := .tuple #[.agg #[.bool false, .int .i64 0, .int .i64 0, .int .i64 0], .bool false]) (by simp [results, Try.results35, go_sem, z0, z1, z2, z3]) rfl ⟨rfl, hb⟩
  by_cases h2 : gl = l
  case neg =>
    have i0 : (gl == l) = false := by simp [h2]
    obtain rfl : V = .tuple #[.agg #[.bool false, .int .i64 0, .int .i64 0, .int .i64 0], .bool false] := by rw [HV.out, if_neg (by simp_all)]
    clear HV
    go_wp2_with fail
    obtain ⟨W, hWW⟩ : ∃ W, W = ((((w5.setCell ⟨w.heap.size + 1, 0, none⟩ (.bool false)).setCell ⟨w.heap.size + 1, 1, none⟩ (.int .i64 0)).setCell ⟨w.heap.size + 1, 2, none⟩ (.int .i64 0)).setCell ⟨w.heap.size + 1, 3, none⟩ (.int .i64 0)) := ⟨_, rfl⟩
    rw [← hWW]
    have hRS : Blk W (w.heap.size + 1) 75 [.bool false, .int .i64 0, .int .i64 0, .int .i64 0] := by rw [hWW]; exact (HR5.out).set [.bool false, .int .i64 0, .int .i64 0, .int .i64 0] rfl
    have hb := (show Below w.heap.size w W by rw [hWW]; exact Go.below_setCells (by first | omega | simp) [.bool false, .int .i64 0, .int .i64 0, .int .i64 0] 0 _ HB5.out)
    clear hWW
    have z0 : W.cell? ⟨w.heap.size + 1, 0, none⟩ = some (.bool false) := hRS.cellAt (i := 0) (by simp)
    have z1 : W.cell? ⟨w.heap.size + 1, 1, none⟩ = some (.int .i64 0) := hRS.cellAt (i := 1) (by simp)
    have z2 : W.cell? ⟨w.heap.size + 1, 2, none⟩ = some (.int .i64 0) := hRS.cellAt (i := 2) (by simp)
    have z3 : W.cell? ⟨w.heap.size + 1, 3, none⟩ = some (.int .i64 0) := hRS.cellAt (i := 3) (by simp)
    exact bodyPost_ret (v := .tuple #[.agg #[.bool false, .int .i64 0, .int .i64 0, .int .i64 0], .bool false]) (by simp [results, Try.results35, go_sem, z0, z1, z2, z3]) rfl ⟨rfl, hb⟩
  obtain rfl := h2
  cases k8
  case false =>
    obtain rfl : V = .tuple #[.agg #[.bool false, .int .i64 0, .int .i64 0, .int .i64 0], .bool false] := by rw [HV.out, if_neg (by simp_all)]
    clear HV
    go_wp2_with fail
    obtain ⟨W, hWW⟩ : ∃ W, W = ((((w5.setCell ⟨w.heap.size + 1, 0, none⟩ (.bool false)).setCell ⟨w.heap.size + 1, 1, none⟩ (.int .i64 0)).setCell ⟨w.heap.size + 1, 2, none⟩ (.int .i64 0)).setCell ⟨w.heap.size + 1, 3, none⟩ (.int .i64 0)) := ⟨_, rfl⟩
    rw [← hWW]
    have hRS : Blk W (w.heap.size + 1) 75 [.bool false, .int .i64 0, .int .i64 0, .int .i64 0] := by rw [hWW]; exact (HR5.out).set [.bool false, .int .i64 0, .int .i64 0, .int .i64 0] rfl
    have hb := (show Below w.heap.size w W by rw [hWW]; exact Go.below_setCells (by first | omega | simp) [.bool false, .int .i64 0, .int .i64 0, .int .i64 0] 0 _ HB5.out)
    clear hWW
    have z0 : W.cell? ⟨w.heap.size + 1, 0, none⟩ = some (.bool false) := hRS.cellAt (i := 0) (by simp)
    have z1 : W.cell? ⟨w.heap.size + 1, 1, none⟩ = some (.int .i64 0) := hRS.cellAt (i := 1) (by simp)
    have z2 : W.cell? ⟨w.heap.size + 1, 2, none⟩ = some (.int .i64 0) := hRS.cellAt (i := 2) (by simp)
    have z3 : W.cell? ⟨w.heap.size + 1, 3, none⟩ = some (.int .i64 0) := hRS.cellAt (i := 3) (by simp)
    exact bodyPost_ret (v := .tuple #[.agg #[.bool false, .int .i64 0, .int .i64 0, .int .i64 0], .bool false]) (by simp [results, Try.results35, go_sem, z0, z1, z2, z3]) rfl ⟨rfl, hb⟩
  case true =>
    obtain rfl : V = .tuple #[.agg #[.bool f0, .int .i64 a, .int .i64 b, .int .i64 c], .bool true] := by rw [HV.out, if_pos (by simp_all)]
    clear HV
    go_wp2_with fail
    obtain ⟨W, hWW⟩ : ∃ W, W = ((((w5.setCell ⟨w.heap.size + 1, 0, none⟩ (.bool f0)).setCell ⟨w.heap.size + 1, 1, none⟩ (.int .i64 a)).setCell ⟨w.heap.size + 1, 2, none⟩ (.int .i64 b)).setCell ⟨w.heap.size + 1, 3, none⟩ (.int .i64 c)) := ⟨_, rfl⟩
    rw [← hWW]
    have hRS : Blk W (w.heap.size + 1) 75 [.bool f0, .int .i64 a, .int .i64 b, .int .i64 c] := by rw [hWW]; exact (HR5.out).set [.bool f0, .int .i64 a, .int .i64 b, .int .i64 c] rfl
    have hb := (show Below w.heap.size w W by rw [hWW]; exact Go.below_setCells (by first | omega | simp) [.bool f0, .int .i64 a, .int .i64 b, .int .i64 c] 0 _ HB5.out)
    clear hWW
    have z0 : W.cell? ⟨w.heap.size + 1, 0, none⟩ = some (.bool f0) := hRS.cellAt (i := 0) (by simp)
    have z1 : W.cell? ⟨w.heap.size + 1, 1, none⟩ = some (.int .i64 a) := hRS.cellAt (i := 1) (by simp)
    have z2 : W.cell? ⟨w.heap.size + 1, 2, none⟩ = some (.int .i64 b) := hRS.cellAt (i := 2) (by simp)
    have z3 : W.cell? ⟨w.heap.size + 1, 3, none⟩ = some (.int .i64 c) := hRS.cellAt (i := 3) (by simp)
    exact bodyPost_ret (v := .tuple #[.agg #[.bool f0, .int .i64 a, .int .i64 b, .int .i64 c], .bool true]) (by simp [results, Try.results35, go_sem, z0, z1, z2, z3]) rfl ⟨rfl, hb⟩
end Go.Proofs.Ytpamkmpaldepnaa
