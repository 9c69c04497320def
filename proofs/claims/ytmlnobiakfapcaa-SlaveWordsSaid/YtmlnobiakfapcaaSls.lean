/- The document's own word of a frame. Conditions: the frame's bytes are bytes. -/
import Derived.Test.YtmlnobiakfapcaaSlr
import Derived.Test.YtmlnobiakfapcaaFrc
namespace Go.Proofs.Ytmlnobiakfapcaa
open Go.RowKit
set_option maxHeartbeats 1000000
theorem mulK (a u : Nat) (h : u < 9223372036854775808) (hu : u = a * 256) : wrap64 ((a : Int) * 256) = (u : Int) := by rw [hu]; exact (w64_in _ (by omega)).trans (by omega)
theorem remK (n k : Nat) (h : k = n % 32) : (n : Int).tmod 32 = (k : Int) := by rw [Int.tmod_eq_emod_of_nonneg (by omega)]; omega
theorem addK (a b c : Nat) (h : c < 9223372036854775808) (hc : c = a + b) : wrap64 ((a : Int) + (b : Int)) = (c : Int) := by rw [hc]; exact (w64_in _ (by omega)).trans (by omega)
theorem rslof_e (n : Nat) (q : Bool) (l : Int) (x0 x1 x2 x3 x4 x5 x6 x7 : Nat) (w : World) : Calls Try.prog 40 #[.agg #[.bool true, .int .u32 (n : Int), .bool q, .int .i64 l, .int .u8 (x0 : Int), .int .u8 (x1 : Int), .int .u8 (x2 : Int), .int .u8 (x3 : Int), .int .u8 (x4 : Int), .int .u8 (x5 : Int), .int .u8 (x6 : Int), .int .u8 (x7 : Int)]] w fun y w' => y = .returned (.tuple #[.agg #[.bool false, .int .i64 0, .int .i64 0, .int .i64 0], .bool false]) ∧ Below w.heap.size w w' := by
  go_enter Try.func40, Try.ntmps40
  go_upto_region 1 with fail
  obtain ⟨w1, hw1⟩ : ∃ w1, w1 = (w.alloc (.cells #[.bool true, .int .u32 (n : Int), .bool q, .int .i64 l, .int .u8 (x0 : Int), .int .u8 (x1 : Int), .int .u8 (x2 : Int), .int .u8 (x3 : Int), .int .u8 (x4 : Int), .int .u8 (x5 : Int), .int .u8 (x6 : Int), .int .u8 (x7 : Int)] 67)).alloc (.cells #[.bool false, .int .i64 0, .int .i64 0, .int .i64 0] 71) := ⟨_, rfl⟩
  rw [← hw1]
  have HF1 := Lib.hid (show Blk w1 w.heap.size 67 [.bool true, .int .u32 (n : Int), .bool q, .int .i64 l, .int .u8 (x0 : Int), .int .u8 (x1 : Int), .int .u8 (x2 : Int), .int .u8 (x3 : Int), .int .u8 (x4 : Int), .int .u8 (x5 : Int), .int .u8 (x6 : Int), .int .u8 (x7 : Int)] by rw [hw1]; exact (Blk.new w 67 [.bool true, .int .u32 (n : Int), .bool q, .int .i64 l, .int .u8 (x0 : Int), .int .u8 (x1 : Int), .int .u8 (x2 : Int), .int .u8 (x3 : Int), .int .u8 (x4 : Int), .int .u8 (x5 : Int), .int .u8 (x6 : Int), .int .u8 (x7 : Int)]).keep ((Below.refl _ _).alloc (Nat.le_refl _) _) (by simp))
  have HR1 := Lib.hid (show Blk w1 (w.heap.size + 1) 71 [.bool false, .int .i64 0, .int .i64 0, .int .i64 0] by rw [hw1]; exact blk_two w _ 71 [.bool false, .int .i64 0, .int .i64 0, .int .i64 0])
  have HB1 := Lib.hid (show Below w.heap.size w w1 by rw [hw1]; exact ((Below.refl _ w).alloc (Nat.le_refl _) _).alloc (by simp) _)
  clear hw1
  have q0 : w1.cell? ⟨w.heap.size, 0, none⟩ = some (.bool true) := HF1.out.cellAt (i := 0) (by simp)
  have q1 : w1.cell? ⟨w.heap.size, 1, none⟩ = some (.int .u32 (n : Int)) := HF1.out.cellAt (i := 1) (by simp)
  have q2 : w1.cell? ⟨w.heap.size, 2, none⟩ = some (.bool q) := HF1.out.cellAt (i := 2) (by simp)
  have q3 : w1.cell? ⟨w.heap.size, 3, none⟩ = some (.int .i64 l) := HF1.out.cellAt (i := 3) (by simp)
  have q4 : w1.cell? ⟨w.heap.size, 4, none⟩ = some (.int .u8 (x0 : Int)) := HF1.out.cellAt (i := 4) (by simp)
  have q5 : w1.cell? ⟨w.heap.size, 5, none⟩ = some (.int .u8 (x1 : Int)) := HF1.out.cellAt (i := 5) (by simp)
  have q6 : w1.cell? ⟨w.heap.size, 6, none⟩ = some (.int .u8 (x2 : Int)) := HF1.out.cellAt (i := 6) (by simp)
  have q7 : w1.cell? ⟨w.heap.size, 7, none⟩ = some (.int .u8 (x3 : Int)) := HF1.out.cellAt (i := 7) (by simp)
  have q8 : w1.cell? ⟨w.heap.size, 8, none⟩ = some (.int .u8 (x4 : Int)) := HF1.out.cellAt (i := 8) (by simp)
  have q9 : w1.cell? ⟨w.heap.size, 9, none⟩ = some (.int .u8 (x5 : Int)) := HF1.out.cellAt (i := 9) (by simp)
  have q10 : w1.cell? ⟨w.heap.size, 10, none⟩ = some (.int .u8 (x6 : Int)) := HF1.out.cellAt (i := 10) (by simp)
  have q11 : w1.cell? ⟨w.heap.size, 11, none⟩ = some (.int .u8 (x7 : Int)) := HF1.out.cellAt (i := 11) (by simp)
  have d0 : w1.cell? ⟨w.heap.size + 1, 0, none⟩ = some (.bool false) := HR1.out.cellAt (i := 0) (by simp)
  have d1 : w1.cell? ⟨w.heap.size + 1, 1, none⟩ = some (.int .i64 0) := HR1.out.cellAt (i := 1) (by simp)
  have d2 : w1.cell? ⟨w.heap.size + 1, 2, none⟩ = some (.int .i64 0) := HR1.out.cellAt (i := 2) (by simp)
  have d3 : w1.cell? ⟨w.heap.size + 1, 3, none⟩ = some (.int .i64 0) := HR1.out.cellAt (i := 3) (by simp)
  have p0 : w1.frozen? ⟨w.heap.size + 1, 0, none⟩ = false := HR1.out.frozenAt 0
  have p1 : w1.frozen? ⟨w.heap.size + 1, 1, none⟩ = false := HR1.out.frozenAt 1
  have p2 : w1.frozen? ⟨w.heap.size + 1, 2, none⟩ = false := HR1.out.frozenAt 2
  have p3 : w1.frozen? ⟨w.heap.size + 1, 3, none⟩ = false := HR1.out.frozenAt 3
  go_wp2_with fail
  obtain ⟨W, hWW⟩ : ∃ W, W = ((((w1.setCell ⟨w.heap.size + 1, 0, none⟩ (.bool false)).setCell ⟨w.heap.size + 1, 1, none⟩ (.int .i64 0)).setCell ⟨w.heap.size + 1, 2, none⟩ (.int .i64 0)).setCell ⟨w.heap.size + 1, 3, none⟩ (.int .i64 0)) := ⟨_, rfl⟩
  rw [← hWW]
  have hRS : Blk W (w.heap.size + 1) 71 [.bool false, .int .i64 0, .int .i64 0, .int .i64 0] := by rw [hWW]; exact (HR1.out).set [.bool false, .int .i64 0, .int .i64 0, .int .i64 0] rfl
  have hb := (show Below w.heap.size w W by rw [hWW]; exact Go.below_setCells (by first | omega | simp) [.bool false, .int .i64 0, .int .i64 0, .int .i64 0] 0 _ HB1.out)
  clear hWW
  have z0 : W.cell? ⟨w.heap.size + 1, 0, none⟩ = some (.bool false) := hRS.cellAt (i := 0) (by simp)
  have z1 : W.cell? ⟨w.heap.size + 1, 1, none⟩ = some (.int .i64 0) := hRS.cellAt (i := 1) (by simp)
  have z2 : W.cell? ⟨w.heap.size + 1, 2, none⟩ = some (.int .i64 0) := hRS.cellAt (i := 2) (by simp)
  have z3 : W.cell? ⟨w.heap.size + 1, 3, none⟩ = some (.int .i64 0) := hRS.cellAt (i := 3) (by simp)
  exact bodyPost_ret (v := .tuple #[.agg #[.bool false, .int .i64 0, .int .i64 0, .int .i64 0], .bool false]) (by simp [results, Try.results40, go_sem, z0, z1, z2, z3]) rfl ⟨rfl, hb⟩
theorem rslof_q (n : Nat) (l : Int) (x0 x1 x2 x3 x4 x5 x6 x7 : Nat) (w : World) : Calls Try.prog 40 #[.agg #[.bool false, .int .u32 (n : Int), .bool true, .int .i64 l, .int .u8 (x0 : Int), .int .u8 (x1 : Int), .int .u8 (x2 : Int), .int .u8 (x3 : Int), .int .u8 (x4 : Int), .int .u8 (x5 : Int), .int .u8 (x6 : Int), .int .u8 (x7 : Int)]] w fun y w' => y = .returned (.tuple #[.agg #[.bool false, .int .i64 0, .int .i64 0, .int .i64 0], .bool false]) ∧ Below w.heap.size w w' := by
  go_enter Try.func40, Try.ntmps40
  go_upto_region 1 with fail
  obtain ⟨w1, hw1⟩ : ∃ w1, w1 = (w.alloc (.cells #[.bool false, .int .u32 (n : Int), .bool true, .int .i64 l, .int .u8 (x0 : Int), .int .u8 (x1 : Int), .int .u8 (x2 : Int), .int .u8 (x3 : Int), .int .u8 (x4 : Int), .int .u8 (x5 : Int), .int .u8 (x6 : Int), .int .u8 (x7 : Int)] 67)).alloc (.cells #[.bool false, .int .i64 0, .int .i64 0, .int .i64 0] 71) := ⟨_, rfl⟩
  rw [← hw1]
  have HF1 := Lib.hid (show Blk w1 w.heap.size 67 [.bool false, .int .u32 (n : Int), .bool true, .int .i64 l, .int .u8 (x0 : Int), .int .u8 (x1 : Int), .int .u8 (x2 : Int), .int .u8 (x3 : Int), .int .u8 (x4 : Int), .int .u8 (x5 : Int), .int .u8 (x6 : Int), .int .u8 (x7 : Int)] by rw [hw1]; exact (Blk.new w 67 [.bool false, .int .u32 (n : Int), .bool true, .int .i64 l, .int .u8 (x0 : Int), .int .u8 (x1 : Int), .int .u8 (x2 : Int), .int .u8 (x3 : Int), .int .u8 (x4 : Int), .int .u8 (x5 : Int), .int .u8 (x6 : Int), .int .u8 (x7 : Int)]).keep ((Below.refl _ _).alloc (Nat.le_refl _) _) (by simp))
  have HR1 := Lib.hid (show Blk w1 (w.heap.size + 1) 71 [.bool false, .int .i64 0, .int .i64 0, .int .i64 0] by rw [hw1]; exact blk_two w _ 71 [.bool false, .int .i64 0, .int .i64 0, .int .i64 0])
  have HB1 := Lib.hid (show Below w.heap.size w w1 by rw [hw1]; exact ((Below.refl _ w).alloc (Nat.le_refl _) _).alloc (by simp) _)
  clear hw1
  have q0 : w1.cell? ⟨w.heap.size, 0, none⟩ = some (.bool false) := HF1.out.cellAt (i := 0) (by simp)
  have q1 : w1.cell? ⟨w.heap.size, 1, none⟩ = some (.int .u32 (n : Int)) := HF1.out.cellAt (i := 1) (by simp)
  have q2 : w1.cell? ⟨w.heap.size, 2, none⟩ = some (.bool true) := HF1.out.cellAt (i := 2) (by simp)
  have q3 : w1.cell? ⟨w.heap.size, 3, none⟩ = some (.int .i64 l) := HF1.out.cellAt (i := 3) (by simp)
  have q4 : w1.cell? ⟨w.heap.size, 4, none⟩ = some (.int .u8 (x0 : Int)) := HF1.out.cellAt (i := 4) (by simp)
  have q5 : w1.cell? ⟨w.heap.size, 5, none⟩ = some (.int .u8 (x1 : Int)) := HF1.out.cellAt (i := 5) (by simp)
  have q6 : w1.cell? ⟨w.heap.size, 6, none⟩ = some (.int .u8 (x2 : Int)) := HF1.out.cellAt (i := 6) (by simp)
  have q7 : w1.cell? ⟨w.heap.size, 7, none⟩ = some (.int .u8 (x3 : Int)) := HF1.out.cellAt (i := 7) (by simp)
  have q8 : w1.cell? ⟨w.heap.size, 8, none⟩ = some (.int .u8 (x4 : Int)) := HF1.out.cellAt (i := 8) (by simp)
  have q9 : w1.cell? ⟨w.heap.size, 9, none⟩ = some (.int .u8 (x5 : Int)) := HF1.out.cellAt (i := 9) (by simp)
  have q10 : w1.cell? ⟨w.heap.size, 10, none⟩ = some (.int .u8 (x6 : Int)) := HF1.out.cellAt (i := 10) (by simp)
  have q11 : w1.cell? ⟨w.heap.size, 11, none⟩ = some (.int .u8 (x7 : Int)) := HF1.out.cellAt (i := 11) (by simp)
  have d0 : w1.cell? ⟨w.heap.size + 1, 0, none⟩ = some (.bool false) := HR1.out.cellAt (i := 0) (by simp)
  have d1 : w1.cell? ⟨w.heap.size + 1, 1, none⟩ = some (.int .i64 0) := HR1.out.cellAt (i := 1) (by simp)
  have d2 : w1.cell? ⟨w.heap.size + 1, 2, none⟩ = some (.int .i64 0) := HR1.out.cellAt (i := 2) (by simp)
  have d3 : w1.cell? ⟨w.heap.size + 1, 3, none⟩ = some (.int .i64 0) := HR1.out.cellAt (i := 3) (by simp)
  have p0 : w1.frozen? ⟨w.heap.size + 1, 0, none⟩ = false := HR1.out.frozenAt 0
  have p1 : w1.frozen? ⟨w.heap.size + 1, 1, none⟩ = false := HR1.out.frozenAt 1
  have p2 : w1.frozen? ⟨w.heap.size + 1, 2, none⟩ = false := HR1.out.frozenAt 2
  have p3 : w1.frozen? ⟨w.heap.size + 1, 3, none⟩ = false := HR1.out.frozenAt 3
  go_wp2_with fail
  obtain ⟨W, hWW⟩ : ∃ W, W = ((((w1.setCell ⟨w.heap.size + 1, 0, none⟩ (.bool false)).setCell ⟨w.heap.size + 1, 1, none⟩ (.int .i64 0)).setCell ⟨w.heap.size + 1, 2, none⟩ (.int .i64 0)).setCell ⟨w.heap.size + 1, 3, none⟩ (.int .i64 0)) := ⟨_, rfl⟩
  rw [← hWW]
  have hRS : Blk W (w.heap.size + 1) 71 [.bool false, .int .i64 0, .int .i64 0, .int .i64 0] := by rw [hWW]; exact (HR1.out).set [.bool false, .int .i64 0, .int .i64 0, .int .i64 0] rfl
  have hb := (show Below w.heap.size w W by rw [hWW]; exact Go.below_setCells (by first | omega | simp) [.bool false, .int .i64 0, .int .i64 0, .int .i64 0] 0 _ HB1.out)
  clear hWW
  have z0 : W.cell? ⟨w.heap.size + 1, 0, none⟩ = some (.bool false) := hRS.cellAt (i := 0) (by simp)
  have z1 : W.cell? ⟨w.heap.size + 1, 1, none⟩ = some (.int .i64 0) := hRS.cellAt (i := 1) (by simp)
  have z2 : W.cell? ⟨w.heap.size + 1, 2, none⟩ = some (.int .i64 0) := hRS.cellAt (i := 2) (by simp)
  have z3 : W.cell? ⟨w.heap.size + 1, 3, none⟩ = some (.int .i64 0) := hRS.cellAt (i := 3) (by simp)
  exact bodyPost_ret (v := .tuple #[.agg #[.bool false, .int .i64 0, .int .i64 0, .int .i64 0], .bool false]) (by simp [results, Try.results40, go_sem, z0, z1, z2, z3]) rfl ⟨rfl, hb⟩
theorem rslof_bad (n : Nat) (l : Int) (x0 x1 x2 x3 x4 x5 x6 x7 : Nat) (h : rightF false n false l [x0, x1, x2, x3, x4, x5, x6, x7] ≠ 0) (w : World) : Calls Try.prog 40 #[.agg #[.bool false, .int .u32 (n : Int), .bool false, .int .i64 l, .int .u8 (x0 : Int), .int .u8 (x1 : Int), .int .u8 (x2 : Int), .int .u8 (x3 : Int), .int .u8 (x4 : Int), .int .u8 (x5 : Int), .int .u8 (x6 : Int), .int .u8 (x7 : Int)]] w fun y w' => y = .returned (.tuple #[.agg #[.bool false, .int .i64 0, .int .i64 0, .int .i64 0], .bool false]) ∧ Below w.heap.size w w' := by
  have HRT := Lib.hid (show ∀ u : World, Calls Try.prog 78 #[.agg #[.bool false, .int .u32 (n : Int), .bool false, .int .i64 l, .int .u8 (x0 : Int), .int .u8 (x1 : Int), .int .u8 (x2 : Int), .int .u8 (x3 : Int), .int .u8 (x4 : Int), .int .u8 (x5 : Int), .int .u8 (x6 : Int), .int .u8 (x7 : Int)]] u fun x w' => x = .returned (.int .i64 ((rightF false n false l [x0, x1, x2, x3, x4, x5, x6, x7] : Nat) : Int)) ∧ Below u.heap.size u w' from fun u => ref6Right_any false n false l [x0, x1, x2, x3, x4, x5, x6, x7] rfl u)
  obtain ⟨er, her⟩ : ∃ er, er = rightF false n false l [x0, x1, x2, x3, x4, x5, x6, x7] := ⟨_, rfl⟩
  rw [← her] at HRT h
  have i0 : ((er : Int) != 0) = true := by simp; omega
  clear her h
  go_enter Try.func40, Try.ntmps40
  go_upto_region 1 with fail
  obtain ⟨w1, hw1⟩ : ∃ w1, w1 = (w.alloc (.cells #[.bool false, .int .u32 (n : Int), .bool false, .int .i64 l, .int .u8 (x0 : Int), .int .u8 (x1 : Int), .int .u8 (x2 : Int), .int .u8 (x3 : Int), .int .u8 (x4 : Int), .int .u8 (x5 : Int), .int .u8 (x6 : Int), .int .u8 (x7 : Int)] 67)).alloc (.cells #[.bool false, .int .i64 0, .int .i64 0, .int .i64 0] 71) := ⟨_, rfl⟩
  rw [← hw1]
  have HF1 := Lib.hid (show Blk w1 w.heap.size 67 [.bool false, .int .u32 (n : Int), .bool false, .int .i64 l, .int .u8 (x0 : Int), .int .u8 (x1 : Int), .int .u8 (x2 : Int), .int .u8 (x3 : Int), .int .u8 (x4 : Int), .int .u8 (x5 : Int), .int .u8 (x6 : Int), .int .u8 (x7 : Int)] by rw [hw1]; exact (Blk.new w 67 [.bool false, .int .u32 (n : Int), .bool false, .int .i64 l, .int .u8 (x0 : Int), .int .u8 (x1 : Int), .int .u8 (x2 : Int), .int .u8 (x3 : Int), .int .u8 (x4 : Int), .int .u8 (x5 : Int), .int .u8 (x6 : Int), .int .u8 (x7 : Int)]).keep ((Below.refl _ _).alloc (Nat.le_refl _) _) (by simp))
  have HR1 := Lib.hid (show Blk w1 (w.heap.size + 1) 71 [.bool false, .int .i64 0, .int .i64 0, .int .i64 0] by rw [hw1]; exact blk_two w _ 71 [.bool false, .int .i64 0, .int .i64 0, .int .i64 0])
  have HB1 := Lib.hid (show Below w.heap.size w w1 by rw [hw1]; exact ((Below.refl _ w).alloc (Nat.le_refl _) _).alloc (by simp) _)
  clear hw1
  have q0 : w1.cell? ⟨w.heap.size, 0, none⟩ = some (.bool false) := HF1.out.cellAt (i := 0) (by simp)
  have q1 : w1.cell? ⟨w.heap.size, 1, none⟩ = some (.int .u32 (n : Int)) := HF1.out.cellAt (i := 1) (by simp)
  have q2 : w1.cell? ⟨w.heap.size, 2, none⟩ = some (.bool false) := HF1.out.cellAt (i := 2) (by simp)
  have q3 : w1.cell? ⟨w.heap.size, 3, none⟩ = some (.int .i64 l) := HF1.out.cellAt (i := 3) (by simp)
  have q4 : w1.cell? ⟨w.heap.size, 4, none⟩ = some (.int .u8 (x0 : Int)) := HF1.out.cellAt (i := 4) (by simp)
  have q5 : w1.cell? ⟨w.heap.size, 5, none⟩ = some (.int .u8 (x1 : Int)) := HF1.out.cellAt (i := 5) (by simp)
  have q6 : w1.cell? ⟨w.heap.size, 6, none⟩ = some (.int .u8 (x2 : Int)) := HF1.out.cellAt (i := 6) (by simp)
  have q7 : w1.cell? ⟨w.heap.size, 7, none⟩ = some (.int .u8 (x3 : Int)) := HF1.out.cellAt (i := 7) (by simp)
  have q8 : w1.cell? ⟨w.heap.size, 8, none⟩ = some (.int .u8 (x4 : Int)) := HF1.out.cellAt (i := 8) (by simp)
  have q9 : w1.cell? ⟨w.heap.size, 9, none⟩ = some (.int .u8 (x5 : Int)) := HF1.out.cellAt (i := 9) (by simp)
  have q10 : w1.cell? ⟨w.heap.size, 10, none⟩ = some (.int .u8 (x6 : Int)) := HF1.out.cellAt (i := 10) (by simp)
  have q11 : w1.cell? ⟨w.heap.size, 11, none⟩ = some (.int .u8 (x7 : Int)) := HF1.out.cellAt (i := 11) (by simp)
  go_wp2_with fail
  refine (HRT.out _).mono ?_
  rintro y w2 ⟨rfl, hb⟩
  have HF2 := Lib.hid (HF1.out.keep hb HF1.out.lt); have HR2 := Lib.hid (HR1.out.keep hb HR1.out.lt); have HB2 := Lib.hid (below_transG HB1.out hb)
  clear hb q0 q1 q2 q3 q4 q5 q6 q7 q8 q9 q10 q11
  have q0 : w2.cell? ⟨w.heap.size, 0, none⟩ = some (.bool false) := HF2.out.cellAt (i := 0) (by simp)
  have q1 : w2.cell? ⟨w.heap.size, 1, none⟩ = some (.int .u32 (n : Int)) := HF2.out.cellAt (i := 1) (by simp)
  have q2 : w2.cell? ⟨w.heap.size, 2, none⟩ = some (.bool false) := HF2.out.cellAt (i := 2) (by simp)
  have q3 : w2.cell? ⟨w.heap.size, 3, none⟩ = some (.int .i64 l) := HF2.out.cellAt (i := 3) (by simp)
  have q4 : w2.cell? ⟨w.heap.size, 4, none⟩ = some (.int .u8 (x0 : Int)) := HF2.out.cellAt (i := 4) (by simp)
  have q5 : w2.cell? ⟨w.heap.size, 5, none⟩ = some (.int .u8 (x1 : Int)) := HF2.out.cellAt (i := 5) (by simp)
  have q6 : w2.cell? ⟨w.heap.size, 6, none⟩ = some (.int .u8 (x2 : Int)) := HF2.out.cellAt (i := 6) (by simp)
  have q7 : w2.cell? ⟨w.heap.size, 7, none⟩ = some (.int .u8 (x3 : Int)) := HF2.out.cellAt (i := 7) (by simp)
  have q8 : w2.cell? ⟨w.heap.size, 8, none⟩ = some (.int .u8 (x4 : Int)) := HF2.out.cellAt (i := 8) (by simp)
  have q9 : w2.cell? ⟨w.heap.size, 9, none⟩ = some (.int .u8 (x5 : Int)) := HF2.out.cellAt (i := 9) (by simp)
  have q10 : w2.cell? ⟨w.heap.size, 10, none⟩ = some (.int .u8 (x6 : Int)) := HF2.out.cellAt (i := 10) (by simp)
  have q11 : w2.cell? ⟨w.heap.size, 11, none⟩ = some (.int .u8 (x7 : Int)) := HF2.out.cellAt (i := 11) (by simp)
  have d0 : w2.cell? ⟨w.heap.size + 1, 0, none⟩ = some (.bool false) := HR2.out.cellAt (i := 0) (by simp)
  have d1 : w2.cell? ⟨w.heap.size + 1, 1, none⟩ = some (.int .i64 0) := HR2.out.cellAt (i := 1) (by simp)
  have d2 : w2.cell? ⟨w.heap.size + 1, 2, none⟩ = some (.int .i64 0) := HR2.out.cellAt (i := 2) (by simp)
  have d3 : w2.cell? ⟨w.heap.size + 1, 3, none⟩ = some (.int .i64 0) := HR2.out.cellAt (i := 3) (by simp)
  have p0 : w2.frozen? ⟨w.heap.size + 1, 0, none⟩ = false := HR2.out.frozenAt 0
  have p1 : w2.frozen? ⟨w.heap.size + 1, 1, none⟩ = false := HR2.out.frozenAt 1
  have p2 : w2.frozen? ⟨w.heap.size + 1, 2, none⟩ = false := HR2.out.frozenAt 2
  have p3 : w2.frozen? ⟨w.heap.size + 1, 3, none⟩ = false := HR2.out.frozenAt 3
  go_wp2_with fail
  obtain ⟨W, hWW⟩ : ∃ W, W = ((((w2.setCell ⟨w.heap.size + 1, 0, none⟩ (.bool false)).setCell ⟨w.heap.size + 1, 1, none⟩ (.int .i64 0)).setCell ⟨w.heap.size + 1, 2, none⟩ (.int .i64 0)).setCell ⟨w.heap.size + 1, 3, none⟩ (.int .i64 0)) := ⟨_, rfl⟩
  rw [← hWW]
  have hRS : Blk W (w.heap.size + 1) 71 [.bool false, .int .i64 0, .int .i64 0, .int .i64 0] := by rw [hWW]; exact (HR2.out).set [.bool false, .int .i64 0, .int .i64 0, .int .i64 0] rfl
  have hb := (show Below w.heap.size w W by rw [hWW]; exact Go.below_setCells (by first | omega | simp) [.bool false, .int .i64 0, .int .i64 0, .int .i64 0] 0 _ HB2.out)
  clear hWW
  have z0 : W.cell? ⟨w.heap.size + 1, 0, none⟩ = some (.bool false) := hRS.cellAt (i := 0) (by simp)
  have z1 : W.cell? ⟨w.heap.size + 1, 1, none⟩ = some (.int .i64 0) := hRS.cellAt (i := 1) (by simp)
  have z2 : W.cell? ⟨w.heap.size + 1, 2, none⟩ = some (.int .i64 0) := hRS.cellAt (i := 2) (by simp)
  have z3 : W.cell? ⟨w.heap.size + 1, 3, none⟩ = some (.int .i64 0) := hRS.cellAt (i := 3) (by simp)
  exact bodyPost_ret (v := .tuple #[.agg #[.bool false, .int .i64 0, .int .i64 0, .int .i64 0], .bool false]) (by simp [results, Try.results40, go_sem, z0, z1, z2, z3]) rfl ⟨rfl, hb⟩
set_option maxRecDepth 100000 in
set_option maxHeartbeats 4000000 in
theorem rslof_far (n : Nat) (l : Int) (x0 x1 x2 x3 x4 x5 x6 x7 : Nat)  (h64 : 64 ≤ n) (h : rightF false n false l [x0, x1, x2, x3, x4, x5, x6, x7] = 0) (w : World) : Calls Try.prog 40 #[.agg #[.bool false, .int .u32 (n : Int), .bool false, .int .i64 l, .int .u8 (x0 : Int), .int .u8 (x1 : Int), .int .u8 (x2 : Int), .int .u8 (x3 : Int), .int .u8 (x4 : Int), .int .u8 (x5 : Int), .int .u8 (x6 : Int), .int .u8 (x7 : Int)]] w fun y w' => y = .returned (.tuple #[.agg #[.bool false, .int .i64 0, .int .i64 0, .int .i64 0], .bool false]) ∧ Below w.heap.size w w' := by
  have HRT := Lib.hid (show ∀ u : World, Calls Try.prog 78 #[.agg #[.bool false, .int .u32 (n : Int), .bool false, .int .i64 l, .int .u8 (x0 : Int), .int .u8 (x1 : Int), .int .u8 (x2 : Int), .int .u8 (x3 : Int), .int .u8 (x4 : Int), .int .u8 (x5 : Int), .int .u8 (x6 : Int), .int .u8 (x7 : Int)]] u fun x w' => x = .returned (.int .i64 0) ∧ Below u.heap.size u w' from fun u => by
    have h2 := ref6Right_any false n false l [x0, x1, x2, x3, x4, x5, x6, x7] rfl u
    rw [h] at h2
    exact h2)
  have i0 : (64 : Int) ≤ (n : Int) := by omega
  clear h h64
  go_enter Try.func40, Try.ntmps40
  go_upto_region 1 with fail
  obtain ⟨w1, hw1⟩ : ∃ w1, w1 = (w.alloc (.cells #[.bool false, .int .u32 (n : Int), .bool false, .int .i64 l, .int .u8 (x0 : Int), .int .u8 (x1 : Int), .int .u8 (x2 : Int), .int .u8 (x3 : Int), .int .u8 (x4 : Int), .int .u8 (x5 : Int), .int .u8 (x6 : Int), .int .u8 (x7 : Int)] 67)).alloc (.cells #[.bool false, .int .i64 0, .int .i64 0, .int .i64 0] 71) := ⟨_, rfl⟩
  rw [← hw1]
  have HF1 := Lib.hid (show Blk w1 w.heap.size 67 [.bool false, .int .u32 (n : Int), .bool false, .int .i64 l, .int .u8 (x0 : Int), .int .u8 (x1 : Int), .int .u8 (x2 : Int), .int .u8 (x3 : Int), .int .u8 (x4 : Int), .int .u8 (x5 : Int), .int .u8 (x6 : Int), .int .u8 (x7 : Int)] by rw [hw1]; exact (Blk.new w 67 [.bool false, .int .u32 (n : Int), .bool false, .int .i64 l, .int .u8 (x0 : Int), .int .u8 (x1 : Int), .int .u8 (x2 : Int), .int .u8 (x3 : Int), .int .u8 (x4 : Int), .int .u8 (x5 : Int), .int .u8 (x6 : Int), .int .u8 (x7 : Int)]).keep ((Below.refl _ _).alloc (Nat.le_refl _) _) (by simp))
  have HR1 := Lib.hid (show Blk w1 (w.heap.size + 1) 71 [.bool false, .int .i64 0, .int .i64 0, .int .i64 0] by rw [hw1]; exact blk_two w _ 71 [.bool false, .int .i64 0, .int .i64 0, .int .i64 0])
  have HB1 := Lib.hid (show Below w.heap.size w w1 by rw [hw1]; exact ((Below.refl _ w).alloc (Nat.le_refl _) _).alloc (by simp) _)
  clear hw1
  have q0 : w1.cell? ⟨w.heap.size, 0, none⟩ = some (.bool false) := HF1.out.cellAt (i := 0) (by simp)
  have q1 : w1.cell? ⟨w.heap.size, 1, none⟩ = some (.int .u32 (n : Int)) := HF1.out.cellAt (i := 1) (by simp)
  have q2 : w1.cell? ⟨w.heap.size, 2, none⟩ = some (.bool false) := HF1.out.cellAt (i := 2) (by simp)
  have q3 : w1.cell? ⟨w.heap.size, 3, none⟩ = some (.int .i64 l) := HF1.out.cellAt (i := 3) (by simp)
  have q4 : w1.cell? ⟨w.heap.size, 4, none⟩ = some (.int .u8 (x0 : Int)) := HF1.out.cellAt (i := 4) (by simp)
  have q5 : w1.cell? ⟨w.heap.size, 5, none⟩ = some (.int .u8 (x1 : Int)) := HF1.out.cellAt (i := 5) (by simp)
  have q6 : w1.cell? ⟨w.heap.size, 6, none⟩ = some (.int .u8 (x2 : Int)) := HF1.out.cellAt (i := 6) (by simp)
  have q7 : w1.cell? ⟨w.heap.size, 7, none⟩ = some (.int .u8 (x3 : Int)) := HF1.out.cellAt (i := 7) (by simp)
  have q8 : w1.cell? ⟨w.heap.size, 8, none⟩ = some (.int .u8 (x4 : Int)) := HF1.out.cellAt (i := 8) (by simp)
  have q9 : w1.cell? ⟨w.heap.size, 9, none⟩ = some (.int .u8 (x5 : Int)) := HF1.out.cellAt (i := 9) (by simp)
  have q10 : w1.cell? ⟨w.heap.size, 10, none⟩ = some (.int .u8 (x6 : Int)) := HF1.out.cellAt (i := 10) (by simp)
  have q11 : w1.cell? ⟨w.heap.size, 11, none⟩ = some (.int .u8 (x7 : Int)) := HF1.out.cellAt (i := 11) (by simp)
  go_wp2_with fail
  refine (HRT.out _).mono ?_
  rintro y w2 ⟨rfl, hb⟩
  have HF2 := Lib.hid (HF1.out.keep hb HF1.out.lt); have HR2 := Lib.hid (HR1.out.keep hb HR1.out.lt); have HB2 := Lib.hid (below_transG HB1.out hb)
  clear hb q0 q1 q2 q3 q4 q5 q6 q7 q8 q9 q10 q11
  have q0 : w2.cell? ⟨w.heap.size, 0, none⟩ = some (.bool false) := HF2.out.cellAt (i := 0) (by simp)
  have q1 : w2.cell? ⟨w.heap.size, 1, none⟩ = some (.int .u32 (n : Int)) := HF2.out.cellAt (i := 1) (by simp)
  have q2 : w2.cell? ⟨w.heap.size, 2, none⟩ = some (.bool false) := HF2.out.cellAt (i := 2) (by simp)
  have q3 : w2.cell? ⟨w.heap.size, 3, none⟩ = some (.int .i64 l) := HF2.out.cellAt (i := 3) (by simp)
  have q4 : w2.cell? ⟨w.heap.size, 4, none⟩ = some (.int .u8 (x0 : Int)) := HF2.out.cellAt (i := 4) (by simp)
  have q5 : w2.cell? ⟨w.heap.size, 5, none⟩ = some (.int .u8 (x1 : Int)) := HF2.out.cellAt (i := 5) (by simp)
  have q6 : w2.cell? ⟨w.heap.size, 6, none⟩ = some (.int .u8 (x2 : Int)) := HF2.out.cellAt (i := 6) (by simp)
  have q7 : w2.cell? ⟨w.heap.size, 7, none⟩ = some (.int .u8 (x3 : Int)) := HF2.out.cellAt (i := 7) (by simp)
  have q8 : w2.cell? ⟨w.heap.size, 8, none⟩ = some (.int .u8 (x4 : Int)) := HF2.out.cellAt (i := 8) (by simp)
  have q9 : w2.cell? ⟨w.heap.size, 9, none⟩ = some (.int .u8 (x5 : Int)) := HF2.out.cellAt (i := 9) (by simp)
  have q10 : w2.cell? ⟨w.heap.size, 10, none⟩ = some (.int .u8 (x6 : Int)) := HF2.out.cellAt (i := 10) (by simp)
  have q11 : w2.cell? ⟨w.heap.size, 11, none⟩ = some (.int .u8 (x7 : Int)) := HF2.out.cellAt (i := 11) (by simp)
  have d0 : w2.cell? ⟨w.heap.size + 1, 0, none⟩ = some (.bool false) := HR2.out.cellAt (i := 0) (by simp)
  have d1 : w2.cell? ⟨w.heap.size + 1, 1, none⟩ = some (.int .i64 0) := HR2.out.cellAt (i := 1) (by simp)
  have d2 : w2.cell? ⟨w.heap.size + 1, 2, none⟩ = some (.int .i64 0) := HR2.out.cellAt (i := 2) (by simp)
  have d3 : w2.cell? ⟨w.heap.size + 1, 3, none⟩ = some (.int .i64 0) := HR2.out.cellAt (i := 3) (by simp)
  have p0 : w2.frozen? ⟨w.heap.size + 1, 0, none⟩ = false := HR2.out.frozenAt 0
  have p1 : w2.frozen? ⟨w.heap.size + 1, 1, none⟩ = false := HR2.out.frozenAt 1
  have p2 : w2.frozen? ⟨w.heap.size + 1, 2, none⟩ = false := HR2.out.frozenAt 2
  have p3 : w2.frozen? ⟨w.heap.size + 1, 3, none⟩ = false := HR2.out.frozenAt 3
  go_wp2_with fail
  obtain ⟨W, hWW⟩ : ∃ W, W = ((((w2.setCell ⟨w.heap.size + 1, 0, none⟩ (.bool false)).setCell ⟨w.heap.size + 1, 1, none⟩ (.int .i64 0)).setCell ⟨w.heap.size + 1, 2, none⟩ (.int .i64 0)).setCell ⟨w.heap.size + 1, 3, none⟩ (.int .i64 0)) := ⟨_, rfl⟩
  rw [← hWW]
  have hRS : Blk W (w.heap.size + 1) 71 [.bool false, .int .i64 0, .int .i64 0, .int .i64 0] := by rw [hWW]; exact (HR2.out).set [.bool false, .int .i64 0, .int .i64 0, .int .i64 0] rfl
  have hb := (show Below w.heap.size w W by rw [hWW]; exact Go.below_setCells (by first | omega | simp) [.bool false, .int .i64 0, .int .i64 0, .int .i64 0] 0 _ HB2.out)
  clear hWW
  have z0 : W.cell? ⟨w.heap.size + 1, 0, none⟩ = some (.bool false) := hRS.cellAt (i := 0) (by simp)
  have z1 : W.cell? ⟨w.heap.size + 1, 1, none⟩ = some (.int .i64 0) := hRS.cellAt (i := 1) (by simp)
  have z2 : W.cell? ⟨w.heap.size + 1, 2, none⟩ = some (.int .i64 0) := hRS.cellAt (i := 2) (by simp)
  have z3 : W.cell? ⟨w.heap.size + 1, 3, none⟩ = some (.int .i64 0) := hRS.cellAt (i := 3) (by simp)
  exact bodyPost_ret (v := .tuple #[.agg #[.bool false, .int .i64 0, .int .i64 0, .int .i64 0], .bool false]) (by simp [results, Try.results40, go_sem, z0, z1, z2, z3]) rfl ⟨rfl, hb⟩
set_option maxRecDepth 100000 in
set_option maxHeartbeats 4000000 in
theorem rslof_low (n : Nat) (hn : n < 4294967296) (x0 x1 x2 x3 x4 x5 x6 x7 : Nat) (hx0 : x0 < 256) (hx1 : x1 < 256) (h32 : n < 32) (h : rightF false n false 2 [x0, x1, x2, x3, x4, x5, x6, x7] = 0) (w : World) : Calls Try.prog 40 #[.agg #[.bool false, .int .u32 (n : Int), .bool false, .int .i64 2, .int .u8 (x0 : Int), .int .u8 (x1 : Int), .int .u8 (x2 : Int), .int .u8 (x3 : Int), .int .u8 (x4 : Int), .int .u8 (x5 : Int), .int .u8 (x6 : Int), .int .u8 (x7 : Int)]] w fun y w' => y = .returned (.tuple #[.agg #[.bool false, .int .i64 ((n % 32 : Nat) : Int), .int .i64 ((x0 * 256 + x1 : Nat) : Int), .int .i64 0], .bool true]) ∧ Below w.heap.size w w' := by
  have HRT := Lib.hid (show ∀ u : World, Calls Try.prog 78 #[.agg #[.bool false, .int .u32 (n : Int), .bool false, .int .i64 2, .int .u8 (x0 : Int), .int .u8 (x1 : Int), .int .u8 (x2 : Int), .int .u8 (x3 : Int), .int .u8 (x4 : Int), .int .u8 (x5 : Int), .int .u8 (x6 : Int), .int .u8 (x7 : Int)]] u fun x w' => x = .returned (.int .i64 0) ∧ Below u.heap.size u w' from fun u => by
    have h2 := ref6Right_any false n false 2 [x0, x1, x2, x3, x4, x5, x6, x7] rfl u
    rw [h] at h2
    exact h2)
  obtain ⟨k, hk⟩ : ∃ k, k = n % 32 := ⟨_, rfl⟩
  obtain ⟨U, hU⟩ : ∃ U, U = x0 * 256 := ⟨_, rfl⟩
  obtain ⟨R, hR⟩ : ∃ R, R = U + x1 := ⟨_, rfl⟩
  have hR2 : x0 * 256 + x1 = R := by rw [hR, hU]
  have z1 : k < 9223372036854775808 := by omega
  have z2 : x0 < 9223372036854775808 := by omega
  have z3 : x1 < 9223372036854775808 := by omega
  have z4 : U < 9223372036854775808 := by omega
  have z5 : R < 9223372036854775808 := by omega
  have i0 : ¬ (64 : Int) ≤ (n : Int) := by omega
  have i1 : ¬ (32 : Int) ≤ (n : Int) := by omega
  have HI1 := Lib.hid (show decide ((32 : Int) ≤ (n : Int)) = false from decide_eq_false i1)
  rw [← hk, hR2]
  have i2 := remK n k hk
  have i3 := w64K k z1
  have i4 := w64K x0 z2
  have i5 := w64K x1 z3
  have i6 := mulK x0 U z4 hU
  have i7 := addK U x1 R z5 hR
  clear z1 z2 z3 z4 z5
  clear hR2 hk hR hU h hn h32 hx0 hx1
  go_enter Try.func40, Try.ntmps40
  go_upto_region 1 with fail
  obtain ⟨w1, hw1⟩ : ∃ w1, w1 = (w.alloc (.cells #[.bool false, .int .u32 (n : Int), .bool false, .int .i64 2, .int .u8 (x0 : Int), .int .u8 (x1 : Int), .int .u8 (x2 : Int), .int .u8 (x3 : Int), .int .u8 (x4 : Int), .int .u8 (x5 : Int), .int .u8 (x6 : Int), .int .u8 (x7 : Int)] 67)).alloc (.cells #[.bool false, .int .i64 0, .int .i64 0, .int .i64 0] 71) := ⟨_, rfl⟩
  rw [← hw1]
  have HF1 := Lib.hid (show Blk w1 w.heap.size 67 [.bool false, .int .u32 (n : Int), .bool false, .int .i64 2, .int .u8 (x0 : Int), .int .u8 (x1 : Int), .int .u8 (x2 : Int), .int .u8 (x3 : Int), .int .u8 (x4 : Int), .int .u8 (x5 : Int), .int .u8 (x6 : Int), .int .u8 (x7 : Int)] by rw [hw1]; exact (Blk.new w 67 [.bool false, .int .u32 (n : Int), .bool false, .int .i64 2, .int .u8 (x0 : Int), .int .u8 (x1 : Int), .int .u8 (x2 : Int), .int .u8 (x3 : Int), .int .u8 (x4 : Int), .int .u8 (x5 : Int), .int .u8 (x6 : Int), .int .u8 (x7 : Int)]).keep ((Below.refl _ _).alloc (Nat.le_refl _) _) (by simp))
  have HR1 := Lib.hid (show Blk w1 (w.heap.size + 1) 71 [.bool false, .int .i64 0, .int .i64 0, .int .i64 0] by rw [hw1]; exact blk_two w _ 71 [.bool false, .int .i64 0, .int .i64 0, .int .i64 0])
  have HB1 := Lib.hid (show Below w.heap.size w w1 by rw [hw1]; exact ((Below.refl _ w).alloc (Nat.le_refl _) _).alloc (by simp) _)
  clear hw1
  have q0 : w1.cell? ⟨w.heap.size, 0, none⟩ = some (.bool false) := HF1.out.cellAt (i := 0) (by simp)
  have q1 : w1.cell? ⟨w.heap.size, 1, none⟩ = some (.int .u32 (n : Int)) := HF1.out.cellAt (i := 1) (by simp)
  have q2 : w1.cell? ⟨w.heap.size, 2, none⟩ = some (.bool false) := HF1.out.cellAt (i := 2) (by simp)
  have q3 : w1.cell? ⟨w.heap.size, 3, none⟩ = some (.int .i64 2) := HF1.out.cellAt (i := 3) (by simp)
  have q4 : w1.cell? ⟨w.heap.size, 4, none⟩ = some (.int .u8 (x0 : Int)) := HF1.out.cellAt (i := 4) (by simp)
  have q5 : w1.cell? ⟨w.heap.size, 5, none⟩ = some (.int .u8 (x1 : Int)) := HF1.out.cellAt (i := 5) (by simp)
  have q6 : w1.cell? ⟨w.heap.size, 6, none⟩ = some (.int .u8 (x2 : Int)) := HF1.out.cellAt (i := 6) (by simp)
  have q7 : w1.cell? ⟨w.heap.size, 7, none⟩ = some (.int .u8 (x3 : Int)) := HF1.out.cellAt (i := 7) (by simp)
  have q8 : w1.cell? ⟨w.heap.size, 8, none⟩ = some (.int .u8 (x4 : Int)) := HF1.out.cellAt (i := 8) (by simp)
  have q9 : w1.cell? ⟨w.heap.size, 9, none⟩ = some (.int .u8 (x5 : Int)) := HF1.out.cellAt (i := 9) (by simp)
  have q10 : w1.cell? ⟨w.heap.size, 10, none⟩ = some (.int .u8 (x6 : Int)) := HF1.out.cellAt (i := 10) (by simp)
  have q11 : w1.cell? ⟨w.heap.size, 11, none⟩ = some (.int .u8 (x7 : Int)) := HF1.out.cellAt (i := 11) (by simp)
  go_wp2_with fail
  refine (HRT.out _).mono ?_
  rintro y w2 ⟨rfl, hb⟩
  have HF2 := Lib.hid (HF1.out.keep hb HF1.out.lt); have HR2 := Lib.hid (HR1.out.keep hb HR1.out.lt); have HB2 := Lib.hid (below_transG HB1.out hb)
  clear hb q0 q1 q2 q3 q4 q5 q6 q7 q8 q9 q10 q11
  have q0 : w2.cell? ⟨w.heap.size, 0, none⟩ = some (.bool false) := HF2.out.cellAt (i := 0) (by simp)
  have q1 : w2.cell? ⟨w.heap.size, 1, none⟩ = some (.int .u32 (n : Int)) := HF2.out.cellAt (i := 1) (by simp)
  have q2 : w2.cell? ⟨w.heap.size, 2, none⟩ = some (.bool false) := HF2.out.cellAt (i := 2) (by simp)
  have q3 : w2.cell? ⟨w.heap.size, 3, none⟩ = some (.int .i64 2) := HF2.out.cellAt (i := 3) (by simp)
  have q4 : w2.cell? ⟨w.heap.size, 4, none⟩ = some (.int .u8 (x0 : Int)) := HF2.out.cellAt (i := 4) (by simp)
  have q5 : w2.cell? ⟨w.heap.size, 5, none⟩ = some (.int .u8 (x1 : Int)) := HF2.out.cellAt (i := 5) (by simp)
  have q6 : w2.cell? ⟨w.heap.size, 6, none⟩ = some (.int .u8 (x2 : Int)) := HF2.out.cellAt (i := 6) (by simp)
  have q7 : w2.cell? ⟨w.heap.size, 7, none⟩ = some (.int .u8 (x3 : Int)) := HF2.out.cellAt (i := 7) (by simp)
  have q8 : w2.cell? ⟨w.heap.size, 8, none⟩ = some (.int .u8 (x4 : Int)) := HF2.out.cellAt (i := 8) (by simp)
  have q9 : w2.cell? ⟨w.heap.size, 9, none⟩ = some (.int .u8 (x5 : Int)) := HF2.out.cellAt (i := 9) (by simp)
  have q10 : w2.cell? ⟨w.heap.size, 10, none⟩ = some (.int .u8 (x6 : Int)) := HF2.out.cellAt (i := 10) (by simp)
  have q11 : w2.cell? ⟨w.heap.size, 11, none⟩ = some (.int .u8 (x7 : Int)) := HF2.out.cellAt (i := 11) (by simp)
  go_upto_region 4 with fail
  obtain ⟨w3, hw3⟩ : ∃ w3, w3 = w2.alloc (.cells #[.bool (decide ((32 : Int) ≤ (n : Int))), .int .i64 (k : Int), .int .i64 (R : Int), .int .i64 0] 71) := ⟨_, rfl⟩
  rw [← hw3]
  have HW3 := Lib.hid (show Blk w3 w2.heap.size 71 [.bool false, .int .i64 (k : Int), .int .i64 (R : Int), .int .i64 0] by rw [hw3, HI1.out]; exact Blk.new w2 71 [.bool false, .int .i64 (k : Int), .int .i64 (R : Int), .int .i64 0])
  have HF3 := Lib.hid (show Blk w3 w.heap.size 67 [.bool false, .int .u32 (n : Int), .bool false, .int .i64 2, .int .u8 (x0 : Int), .int .u8 (x1 : Int), .int .u8 (x2 : Int), .int .u8 (x3 : Int), .int .u8 (x4 : Int), .int .u8 (x5 : Int), .int .u8 (x6 : Int), .int .u8 (x7 : Int)] by rw [hw3]; exact keep_box HF2.out); have HR3 := Lib.hid (show Blk w3 (w.heap.size + 1) 71 [.bool false, .int .i64 0, .int .i64 0, .int .i64 0] by rw [hw3]; exact keep_box HR2.out)
  have HB3 := Lib.hid (show Below w.heap.size w w3 by rw [hw3]; exact HB2.out.alloc HB2.out.size _)
  clear hw3 q0 q1 q2 q3 q4 q5 q6 q7 q8 q9 q10 q11
  have r0 : w3.cell? ⟨w2.heap.size, 0, none⟩ = some (.bool false) := HW3.out.cellAt (i := 0) (by simp)
  have r1 : w3.cell? ⟨w2.heap.size, 1, none⟩ = some (.int .i64 (k : Int)) := HW3.out.cellAt (i := 1) (by simp)
  have r2 : w3.cell? ⟨w2.heap.size, 2, none⟩ = some (.int .i64 (R : Int)) := HW3.out.cellAt (i := 2) (by simp)
  have r3 : w3.cell? ⟨w2.heap.size, 3, none⟩ = some (.int .i64 0) := HW3.out.cellAt (i := 3) (by simp)
  have q0 : w3.cell? ⟨w.heap.size, 0, none⟩ = some (.bool false) := HF3.out.cellAt (i := 0) (by simp)
  have q1 : w3.cell? ⟨w.heap.size, 1, none⟩ = some (.int .u32 (n : Int)) := HF3.out.cellAt (i := 1) (by simp)
  have q2 : w3.cell? ⟨w.heap.size, 2, none⟩ = some (.bool false) := HF3.out.cellAt (i := 2) (by simp)
  have q3 : w3.cell? ⟨w.heap.size, 3, none⟩ = some (.int .i64 2) := HF3.out.cellAt (i := 3) (by simp)
  have q4 : w3.cell? ⟨w.heap.size, 4, none⟩ = some (.int .u8 (x0 : Int)) := HF3.out.cellAt (i := 4) (by simp)
  have q5 : w3.cell? ⟨w.heap.size, 5, none⟩ = some (.int .u8 (x1 : Int)) := HF3.out.cellAt (i := 5) (by simp)
  have q6 : w3.cell? ⟨w.heap.size, 6, none⟩ = some (.int .u8 (x2 : Int)) := HF3.out.cellAt (i := 6) (by simp)
  have q7 : w3.cell? ⟨w.heap.size, 7, none⟩ = some (.int .u8 (x3 : Int)) := HF3.out.cellAt (i := 7) (by simp)
  have q8 : w3.cell? ⟨w.heap.size, 8, none⟩ = some (.int .u8 (x4 : Int)) := HF3.out.cellAt (i := 8) (by simp)
  have q9 : w3.cell? ⟨w.heap.size, 9, none⟩ = some (.int .u8 (x5 : Int)) := HF3.out.cellAt (i := 9) (by simp)
  have q10 : w3.cell? ⟨w.heap.size, 10, none⟩ = some (.int .u8 (x6 : Int)) := HF3.out.cellAt (i := 10) (by simp)
  have q11 : w3.cell? ⟨w.heap.size, 11, none⟩ = some (.int .u8 (x7 : Int)) := HF3.out.cellAt (i := 11) (by simp)
  have d0 : w3.cell? ⟨w.heap.size + 1, 0, none⟩ = some (.bool false) := HR3.out.cellAt (i := 0) (by simp)
  have d1 : w3.cell? ⟨w.heap.size + 1, 1, none⟩ = some (.int .i64 0) := HR3.out.cellAt (i := 1) (by simp)
  have d2 : w3.cell? ⟨w.heap.size + 1, 2, none⟩ = some (.int .i64 0) := HR3.out.cellAt (i := 2) (by simp)
  have d3 : w3.cell? ⟨w.heap.size + 1, 3, none⟩ = some (.int .i64 0) := HR3.out.cellAt (i := 3) (by simp)
  have p0 : w3.frozen? ⟨w.heap.size + 1, 0, none⟩ = false := HR3.out.frozenAt 0
  have p1 : w3.frozen? ⟨w.heap.size + 1, 1, none⟩ = false := HR3.out.frozenAt 1
  have p2 : w3.frozen? ⟨w.heap.size + 1, 2, none⟩ = false := HR3.out.frozenAt 2
  have p3 : w3.frozen? ⟨w.heap.size + 1, 3, none⟩ = false := HR3.out.frozenAt 3
  go_wp2_with fail
  obtain ⟨W, hWW⟩ : ∃ W, W = ((((w3.setCell ⟨w.heap.size + 1, 0, none⟩ (.bool false)).setCell ⟨w.heap.size + 1, 1, none⟩ (.int .i64 (k : Int))).setCell ⟨w.heap.size + 1, 2, none⟩ (.int .i64 (R : Int))).setCell ⟨w.heap.size + 1, 3, none⟩ (.int .i64 0)) := ⟨_, rfl⟩
  rw [← hWW]
  have hRS : Blk W (w.heap.size + 1) 71 [.bool false, .int .i64 (k : Int), .int .i64 (R : Int), .int .i64 0] := by rw [hWW]; exact (HR3.out).set [.bool false, .int .i64 (k : Int), .int .i64 (R : Int), .int .i64 0] rfl
  have hb := (show Below w.heap.size w W by rw [hWW]; exact Go.below_setCells (by first | omega | simp) [.bool false, .int .i64 (k : Int), .int .i64 (R : Int), .int .i64 0] 0 _ HB3.out)
  clear hWW
  have z0 : W.cell? ⟨w.heap.size + 1, 0, none⟩ = some (.bool false) := hRS.cellAt (i := 0) (by simp)
  have z1 : W.cell? ⟨w.heap.size + 1, 1, none⟩ = some (.int .i64 (k : Int)) := hRS.cellAt (i := 1) (by simp)
  have z2 : W.cell? ⟨w.heap.size + 1, 2, none⟩ = some (.int .i64 (R : Int)) := hRS.cellAt (i := 2) (by simp)
  have z3 : W.cell? ⟨w.heap.size + 1, 3, none⟩ = some (.int .i64 0) := hRS.cellAt (i := 3) (by simp)
  exact bodyPost_ret (v := .tuple #[.agg #[.bool false, .int .i64 (k : Int), .int .i64 (R : Int), .int .i64 0], .bool true]) (by simp [results, Try.results40, go_sem, z0, z1, z2, z3]) rfl ⟨rfl, hb⟩
set_option maxRecDepth 100000 in
set_option maxHeartbeats 4000000 in
theorem rslof_low8 (n : Nat) (hn : n < 4294967296) (x0 x1 x2 x3 x4 x5 x6 x7 : Nat) (hx0 : x0 < 256) (hx1 : x1 < 256) (h32 : n < 32) (h : rightF false n false 8 [x0, x1, x2, x3, x4, x5, x6, x7] = 0) (w : World) : Calls Try.prog 40 #[.agg #[.bool false, .int .u32 (n : Int), .bool false, .int .i64 8, .int .u8 (x0 : Int), .int .u8 (x1 : Int), .int .u8 (x2 : Int), .int .u8 (x3 : Int), .int .u8 (x4 : Int), .int .u8 (x5 : Int), .int .u8 (x6 : Int), .int .u8 (x7 : Int)]] w fun y w' => y = .returned (.tuple #[.agg #[.bool false, .int .i64 0, .int .i64 0, .int .i64 0], .bool false]) ∧ Below w.heap.size w w' := by
  have HRT := Lib.hid (show ∀ u : World, Calls Try.prog 78 #[.agg #[.bool false, .int .u32 (n : Int), .bool false, .int .i64 8, .int .u8 (x0 : Int), .int .u8 (x1 : Int), .int .u8 (x2 : Int), .int .u8 (x3 : Int), .int .u8 (x4 : Int), .int .u8 (x5 : Int), .int .u8 (x6 : Int), .int .u8 (x7 : Int)]] u fun x w' => x = .returned (.int .i64 0) ∧ Below u.heap.size u w' from fun u => by
    have h2 := ref6Right_any false n false 8 [x0, x1, x2, x3, x4, x5, x6, x7] rfl u
    rw [h] at h2
    exact h2)
  obtain ⟨k, hk⟩ : ∃ k, k = n % 32 := ⟨_, rfl⟩
  obtain ⟨U, hU⟩ : ∃ U, U = x0 * 256 := ⟨_, rfl⟩
  obtain ⟨R, hR⟩ : ∃ R, R = U + x1 := ⟨_, rfl⟩
  have hR2 : x0 * 256 + x1 = R := by rw [hR, hU]
  have z1 : k < 9223372036854775808 := by omega
  have z2 : x0 < 9223372036854775808 := by omega
  have z3 : x1 < 9223372036854775808 := by omega
  have z4 : U < 9223372036854775808 := by omega
  have z5 : R < 9223372036854775808 := by omega
  have i0 : ¬ (64 : Int) ≤ (n : Int) := by omega
  have i1 : ¬ (32 : Int) ≤ (n : Int) := by omega
  have HI1 := Lib.hid (show decide ((32 : Int) ≤ (n : Int)) = false from decide_eq_false i1)
  have i2 := remK n k hk
  have i3 := w64K k z1
  have i4 := w64K x0 z2
  have i5 := w64K x1 z3
  have i6 := mulK x0 U z4 hU
  have i7 := addK U x1 R z5 hR
  clear z1 z2 z3 z4 z5
  clear hR2 hk hR hU h hn h32 hx0 hx1
  go_enter Try.func40, Try.ntmps40
  go_upto_region 1 with fail
  obtain ⟨w1, hw1⟩ : ∃ w1, w1 = (w.alloc (.cells #[.bool false, .int .u32 (n : Int), .bool false, .int .i64 8, .int .u8 (x0 : Int), .int .u8 (x1 : Int), .int .u8 (x2 : Int), .int .u8 (x3 : Int), .int .u8 (x4 : Int), .int .u8 (x5 : Int), .int .u8 (x6 : Int), .int .u8 (x7 : Int)] 67)).alloc (.cells #[.bool false, .int .i64 0, .int .i64 0, .int .i64 0] 71) := ⟨_, rfl⟩
  rw [← hw1]
  have HF1 := Lib.hid (show Blk w1 w.heap.size 67 [.bool false, .int .u32 (n : Int), .bool false, .int .i64 8, .int .u8 (x0 : Int), .int .u8 (x1 : Int), .int .u8 (x2 : Int), .int .u8 (x3 : Int), .int .u8 (x4 : Int), .int .u8 (x5 : Int), .int .u8 (x6 : Int), .int .u8 (x7 : Int)] by rw [hw1]; exact (Blk.new w 67 [.bool false, .int .u32 (n : Int), .bool false, .int .i64 8, .int .u8 (x0 : Int), .int .u8 (x1 : Int), .int .u8 (x2 : Int), .int .u8 (x3 : Int), .int .u8 (x4 : Int), .int .u8 (x5 : Int), .int .u8 (x6 : Int), .int .u8 (x7 : Int)]).keep ((Below.refl _ _).alloc (Nat.le_refl _) _) (by simp))
  have HR1 := Lib.hid (show Blk w1 (w.heap.size + 1) 71 [.bool false, .int .i64 0, .int .i64 0, .int .i64 0] by rw [hw1]; exact blk_two w _ 71 [.bool false, .int .i64 0, .int .i64 0, .int .i64 0])
  have HB1 := Lib.hid (show Below w.heap.size w w1 by rw [hw1]; exact ((Below.refl _ w).alloc (Nat.le_refl _) _).alloc (by simp) _)
  clear hw1
  have q0 : w1.cell? ⟨w.heap.size, 0, none⟩ = some (.bool false) := HF1.out.cellAt (i := 0) (by simp)
  have q1 : w1.cell? ⟨w.heap.size, 1, none⟩ = some (.int .u32 (n : Int)) := HF1.out.cellAt (i := 1) (by simp)
  have q2 : w1.cell? ⟨w.heap.size, 2, none⟩ = some (.bool false) := HF1.out.cellAt (i := 2) (by simp)
  have q3 : w1.cell? ⟨w.heap.size, 3, none⟩ = some (.int .i64 8) := HF1.out.cellAt (i := 3) (by simp)
  have q4 : w1.cell? ⟨w.heap.size, 4, none⟩ = some (.int .u8 (x0 : Int)) := HF1.out.cellAt (i := 4) (by simp)
  have q5 : w1.cell? ⟨w.heap.size, 5, none⟩ = some (.int .u8 (x1 : Int)) := HF1.out.cellAt (i := 5) (by simp)
  have q6 : w1.cell? ⟨w.heap.size, 6, none⟩ = some (.int .u8 (x2 : Int)) := HF1.out.cellAt (i := 6) (by simp)
  have q7 : w1.cell? ⟨w.heap.size, 7, none⟩ = some (.int .u8 (x3 : Int)) := HF1.out.cellAt (i := 7) (by simp)
  have q8 : w1.cell? ⟨w.heap.size, 8, none⟩ = some (.int .u8 (x4 : Int)) := HF1.out.cellAt (i := 8) (by simp)
  have q9 : w1.cell? ⟨w.heap.size, 9, none⟩ = some (.int .u8 (x5 : Int)) := HF1.out.cellAt (i := 9) (by simp)
  have q10 : w1.cell? ⟨w.heap.size, 10, none⟩ = some (.int .u8 (x6 : Int)) := HF1.out.cellAt (i := 10) (by simp)
  have q11 : w1.cell? ⟨w.heap.size, 11, none⟩ = some (.int .u8 (x7 : Int)) := HF1.out.cellAt (i := 11) (by simp)
  go_wp2_with fail
  refine (HRT.out _).mono ?_
  rintro y w2 ⟨rfl, hb⟩
  have HF2 := Lib.hid (HF1.out.keep hb HF1.out.lt); have HR2 := Lib.hid (HR1.out.keep hb HR1.out.lt); have HB2 := Lib.hid (below_transG HB1.out hb)
  clear hb q0 q1 q2 q3 q4 q5 q6 q7 q8 q9 q10 q11
  have q0 : w2.cell? ⟨w.heap.size, 0, none⟩ = some (.bool false) := HF2.out.cellAt (i := 0) (by simp)
  have q1 : w2.cell? ⟨w.heap.size, 1, none⟩ = some (.int .u32 (n : Int)) := HF2.out.cellAt (i := 1) (by simp)
  have q2 : w2.cell? ⟨w.heap.size, 2, none⟩ = some (.bool false) := HF2.out.cellAt (i := 2) (by simp)
  have q3 : w2.cell? ⟨w.heap.size, 3, none⟩ = some (.int .i64 8) := HF2.out.cellAt (i := 3) (by simp)
  have q4 : w2.cell? ⟨w.heap.size, 4, none⟩ = some (.int .u8 (x0 : Int)) := HF2.out.cellAt (i := 4) (by simp)
  have q5 : w2.cell? ⟨w.heap.size, 5, none⟩ = some (.int .u8 (x1 : Int)) := HF2.out.cellAt (i := 5) (by simp)
  have q6 : w2.cell? ⟨w.heap.size, 6, none⟩ = some (.int .u8 (x2 : Int)) := HF2.out.cellAt (i := 6) (by simp)
  have q7 : w2.cell? ⟨w.heap.size, 7, none⟩ = some (.int .u8 (x3 : Int)) := HF2.out.cellAt (i := 7) (by simp)
  have q8 : w2.cell? ⟨w.heap.size, 8, none⟩ = some (.int .u8 (x4 : Int)) := HF2.out.cellAt (i := 8) (by simp)
  have q9 : w2.cell? ⟨w.heap.size, 9, none⟩ = some (.int .u8 (x5 : Int)) := HF2.out.cellAt (i := 9) (by simp)
  have q10 : w2.cell? ⟨w.heap.size, 10, none⟩ = some (.int .u8 (x6 : Int)) := HF2.out.cellAt (i := 10) (by simp)
  have q11 : w2.cell? ⟨w.heap.size, 11, none⟩ = some (.int .u8 (x7 : Int)) := HF2.out.cellAt (i := 11) (by simp)
  go_upto_region 4 with fail
  obtain ⟨w3, hw3⟩ : ∃ w3, w3 = w2.alloc (.cells #[.bool (decide ((32 : Int) ≤ (n : Int))), .int .i64 (k : Int), .int .i64 (R : Int), .int .i64 0] 71) := ⟨_, rfl⟩
  rw [← hw3]
  have HW3 := Lib.hid (show Blk w3 w2.heap.size 71 [.bool false, .int .i64 (k : Int), .int .i64 (R : Int), .int .i64 0] by rw [hw3, HI1.out]; exact Blk.new w2 71 [.bool false, .int .i64 (k : Int), .int .i64 (R : Int), .int .i64 0])
  have HF3 := Lib.hid (show Blk w3 w.heap.size 67 [.bool false, .int .u32 (n : Int), .bool false, .int .i64 8, .int .u8 (x0 : Int), .int .u8 (x1 : Int), .int .u8 (x2 : Int), .int .u8 (x3 : Int), .int .u8 (x4 : Int), .int .u8 (x5 : Int), .int .u8 (x6 : Int), .int .u8 (x7 : Int)] by rw [hw3]; exact keep_box HF2.out); have HR3 := Lib.hid (show Blk w3 (w.heap.size + 1) 71 [.bool false, .int .i64 0, .int .i64 0, .int .i64 0] by rw [hw3]; exact keep_box HR2.out)
  have HB3 := Lib.hid (show Below w.heap.size w w3 by rw [hw3]; exact HB2.out.alloc HB2.out.size _)
  clear hw3 q0 q1 q2 q3 q4 q5 q6 q7 q8 q9 q10 q11
  have r0 : w3.cell? ⟨w2.heap.size, 0, none⟩ = some (.bool false) := HW3.out.cellAt (i := 0) (by simp)
  have r1 : w3.cell? ⟨w2.heap.size, 1, none⟩ = some (.int .i64 (k : Int)) := HW3.out.cellAt (i := 1) (by simp)
  have r2 : w3.cell? ⟨w2.heap.size, 2, none⟩ = some (.int .i64 (R : Int)) := HW3.out.cellAt (i := 2) (by simp)
  have r3 : w3.cell? ⟨w2.heap.size, 3, none⟩ = some (.int .i64 0) := HW3.out.cellAt (i := 3) (by simp)
  have q0 : w3.cell? ⟨w.heap.size, 0, none⟩ = some (.bool false) := HF3.out.cellAt (i := 0) (by simp)
  have q1 : w3.cell? ⟨w.heap.size, 1, none⟩ = some (.int .u32 (n : Int)) := HF3.out.cellAt (i := 1) (by simp)
  have q2 : w3.cell? ⟨w.heap.size, 2, none⟩ = some (.bool false) := HF3.out.cellAt (i := 2) (by simp)
  have q3 : w3.cell? ⟨w.heap.size, 3, none⟩ = some (.int .i64 8) := HF3.out.cellAt (i := 3) (by simp)
  have q4 : w3.cell? ⟨w.heap.size, 4, none⟩ = some (.int .u8 (x0 : Int)) := HF3.out.cellAt (i := 4) (by simp)
  have q5 : w3.cell? ⟨w.heap.size, 5, none⟩ = some (.int .u8 (x1 : Int)) := HF3.out.cellAt (i := 5) (by simp)
  have q6 : w3.cell? ⟨w.heap.size, 6, none⟩ = some (.int .u8 (x2 : Int)) := HF3.out.cellAt (i := 6) (by simp)
  have q7 : w3.cell? ⟨w.heap.size, 7, none⟩ = some (.int .u8 (x3 : Int)) := HF3.out.cellAt (i := 7) (by simp)
  have q8 : w3.cell? ⟨w.heap.size, 8, none⟩ = some (.int .u8 (x4 : Int)) := HF3.out.cellAt (i := 8) (by simp)
  have q9 : w3.cell? ⟨w.heap.size, 9, none⟩ = some (.int .u8 (x5 : Int)) := HF3.out.cellAt (i := 9) (by simp)
  have q10 : w3.cell? ⟨w.heap.size, 10, none⟩ = some (.int .u8 (x6 : Int)) := HF3.out.cellAt (i := 10) (by simp)
  have q11 : w3.cell? ⟨w.heap.size, 11, none⟩ = some (.int .u8 (x7 : Int)) := HF3.out.cellAt (i := 11) (by simp)
  have d0 : w3.cell? ⟨w.heap.size + 1, 0, none⟩ = some (.bool false) := HR3.out.cellAt (i := 0) (by simp)
  have d1 : w3.cell? ⟨w.heap.size + 1, 1, none⟩ = some (.int .i64 0) := HR3.out.cellAt (i := 1) (by simp)
  have d2 : w3.cell? ⟨w.heap.size + 1, 2, none⟩ = some (.int .i64 0) := HR3.out.cellAt (i := 2) (by simp)
  have d3 : w3.cell? ⟨w.heap.size + 1, 3, none⟩ = some (.int .i64 0) := HR3.out.cellAt (i := 3) (by simp)
  have p0 : w3.frozen? ⟨w.heap.size + 1, 0, none⟩ = false := HR3.out.frozenAt 0
  have p1 : w3.frozen? ⟨w.heap.size + 1, 1, none⟩ = false := HR3.out.frozenAt 1
  have p2 : w3.frozen? ⟨w.heap.size + 1, 2, none⟩ = false := HR3.out.frozenAt 2
  have p3 : w3.frozen? ⟨w.heap.size + 1, 3, none⟩ = false := HR3.out.frozenAt 3
  go_wp2_with fail
  obtain ⟨W, hWW⟩ : ∃ W, W = ((((w3.setCell ⟨w.heap.size + 1, 0, none⟩ (.bool false)).setCell ⟨w.heap.size + 1, 1, none⟩ (.int .i64 0)).setCell ⟨w.heap.size + 1, 2, none⟩ (.int .i64 0)).setCell ⟨w.heap.size + 1, 3, none⟩ (.int .i64 0)) := ⟨_, rfl⟩
  rw [← hWW]
  have hRS : Blk W (w.heap.size + 1) 71 [.bool false, .int .i64 0, .int .i64 0, .int .i64 0] := by rw [hWW]; exact (HR3.out).set [.bool false, .int .i64 0, .int .i64 0, .int .i64 0] rfl
  have hb := (show Below w.heap.size w W by rw [hWW]; exact Go.below_setCells (by first | omega | simp) [.bool false, .int .i64 0, .int .i64 0, .int .i64 0] 0 _ HB3.out)
  clear hWW
  have z0 : W.cell? ⟨w.heap.size + 1, 0, none⟩ = some (.bool false) := hRS.cellAt (i := 0) (by simp)
  have z1 : W.cell? ⟨w.heap.size + 1, 1, none⟩ = some (.int .i64 0) := hRS.cellAt (i := 1) (by simp)
  have z2 : W.cell? ⟨w.heap.size + 1, 2, none⟩ = some (.int .i64 0) := hRS.cellAt (i := 2) (by simp)
  have z3 : W.cell? ⟨w.heap.size + 1, 3, none⟩ = some (.int .i64 0) := hRS.cellAt (i := 3) (by simp)
  exact bodyPost_ret (v := .tuple #[.agg #[.bool false, .int .i64 0, .int .i64 0, .int .i64 0], .bool false]) (by simp [results, Try.results40, go_sem, z0, z1, z2, z3]) rfl ⟨rfl, hb⟩
set_option maxRecDepth 100000 in
set_option maxHeartbeats 4000000 in
theorem rslof_lowx (n : Nat) (hn : n < 4294967296) (l : Int) (x0 x1 x2 x3 x4 x5 x6 x7 : Nat) (hx0 : x0 < 256) (hx1 : x1 < 256) (h32 : n < 32) (hl : l ≠ 2 ∧ l ≠ 8) (h : rightF false n false l [x0, x1, x2, x3, x4, x5, x6, x7] = 0) (w : World) : Calls Try.prog 40 #[.agg #[.bool false, .int .u32 (n : Int), .bool false, .int .i64 l, .int .u8 (x0 : Int), .int .u8 (x1 : Int), .int .u8 (x2 : Int), .int .u8 (x3 : Int), .int .u8 (x4 : Int), .int .u8 (x5 : Int), .int .u8 (x6 : Int), .int .u8 (x7 : Int)]] w fun y w' => y = .returned (.tuple #[.agg #[.bool false, .int .i64 0, .int .i64 0, .int .i64 0], .bool false]) ∧ Below w.heap.size w w' := by
  have HRT := Lib.hid (show ∀ u : World, Calls Try.prog 78 #[.agg #[.bool false, .int .u32 (n : Int), .bool false, .int .i64 l, .int .u8 (x0 : Int), .int .u8 (x1 : Int), .int .u8 (x2 : Int), .int .u8 (x3 : Int), .int .u8 (x4 : Int), .int .u8 (x5 : Int), .int .u8 (x6 : Int), .int .u8 (x7 : Int)]] u fun x w' => x = .returned (.int .i64 0) ∧ Below u.heap.size u w' from fun u => by
    have h2 := ref6Right_any false n false l [x0, x1, x2, x3, x4, x5, x6, x7] rfl u
    rw [h] at h2
    exact h2)
  obtain ⟨k, hk⟩ : ∃ k, k = n % 32 := ⟨_, rfl⟩
  obtain ⟨U, hU⟩ : ∃ U, U = x0 * 256 := ⟨_, rfl⟩
  obtain ⟨R, hR⟩ : ∃ R, R = U + x1 := ⟨_, rfl⟩
  have hR2 : x0 * 256 + x1 = R := by rw [hR, hU]
  have z1 : k < 9223372036854775808 := by omega
  have z2 : x0 < 9223372036854775808 := by omega
  have z3 : x1 < 9223372036854775808 := by omega
  have z4 : U < 9223372036854775808 := by omega
  have z5 : R < 9223372036854775808 := by omega
  have i0 : ¬ (64 : Int) ≤ (n : Int) := by omega
  have i1 : ¬ (32 : Int) ≤ (n : Int) := by omega
  have HI1 := Lib.hid (show decide ((32 : Int) ≤ (n : Int)) = false from decide_eq_false i1)
  have j0 : (l == 8) = false := by simp [hl.2]
  have j1 : (l != 2) = true := by simp [hl.1]
  clear hl
  have i2 := remK n k hk
  have i3 := w64K k z1
  have i4 := w64K x0 z2
  have i5 := w64K x1 z3
  have i6 := mulK x0 U z4 hU
  have i7 := addK U x1 R z5 hR
  clear z1 z2 z3 z4 z5
  clear hR2 hk hR hU h hn h32 hx0 hx1
  go_enter Try.func40, Try.ntmps40
  go_upto_region 1 with fail
  obtain ⟨w1, hw1⟩ : ∃ w1, w1 = (w.alloc (.cells #[.bool false, .int .u32 (n : Int), .bool false, .int .i64 l, .int .u8 (x0 : Int), .int .u8 (x1 : Int), .int .u8 (x2 : Int), .int .u8 (x3 : Int), .int .u8 (x4 : Int), .int .u8 (x5 : Int), .int .u8 (x6 : Int), .int .u8 (x7 : Int)] 67)).alloc (.cells #[.bool false, .int .i64 0, .int .i64 0, .int .i64 0] 71) := ⟨_, rfl⟩
  rw [← hw1]
  have HF1 := Lib.hid (show Blk w1 w.heap.size 67 [.bool false, .int .u32 (n : Int), .bool false, .int .i64 l, .int .u8 (x0 : Int), .int .u8 (x1 : Int), .int .u8 (x2 : Int), .int .u8 (x3 : Int), .int .u8 (x4 : Int), .int .u8 (x5 : Int), .int .u8 (x6 : Int), .int .u8 (x7 : Int)] by rw [hw1]; exact (Blk.new w 67 [.bool false, .int .u32 (n : Int), .bool false, .int .i64 l, .int .u8 (x0 : Int), .int .u8 (x1 : Int), .int .u8 (x2 : Int), .int .u8 (x3 : Int), .int .u8 (x4 : Int), .int .u8 (x5 : Int), .int .u8 (x6 : Int), .int .u8 (x7 : Int)]).keep ((Below.refl _ _).alloc (Nat.le_refl _) _) (by simp))
  have HR1 := Lib.hid (show Blk w1 (w.heap.size + 1) 71 [.bool false, .int .i64 0, .int .i64 0, .int .i64 0] by rw [hw1]; exact blk_two w _ 71 [.bool false, .int .i64 0, .int .i64 0, .int .i64 0])
  have HB1 := Lib.hid (show Below w.heap.size w w1 by rw [hw1]; exact ((Below.refl _ w).alloc (Nat.le_refl _) _).alloc (by simp) _)
  clear hw1
  have q0 : w1.cell? ⟨w.heap.size, 0, none⟩ = some (.bool false) := HF1.out.cellAt (i := 0) (by simp)
  have q1 : w1.cell? ⟨w.heap.size, 1, none⟩ = some (.int .u32 (n : Int)) := HF1.out.cellAt (i := 1) (by simp)
  have q2 : w1.cell? ⟨w.heap.size, 2, none⟩ = some (.bool false) := HF1.out.cellAt (i := 2) (by simp)
  have q3 : w1.cell? ⟨w.heap.size, 3, none⟩ = some (.int .i64 l) := HF1.out.cellAt (i := 3) (by simp)
  have q4 : w1.cell? ⟨w.heap.size, 4, none⟩ = some (.int .u8 (x0 : Int)) := HF1.out.cellAt (i := 4) (by simp)
  have q5 : w1.cell? ⟨w.heap.size, 5, none⟩ = some (.int .u8 (x1 : Int)) := HF1.out.cellAt (i := 5) (by simp)
  have q6 : w1.cell? ⟨w.heap.size, 6, none⟩ = some (.int .u8 (x2 : Int)) := HF1.out.cellAt (i := 6) (by simp)
  have q7 : w1.cell? ⟨w.heap.size, 7, none⟩ = some (.int .u8 (x3 : Int)) := HF1.out.cellAt (i := 7) (by simp)
  have q8 : w1.cell? ⟨w.heap.size, 8, none⟩ = some (.int .u8 (x4 : Int)) := HF1.out.cellAt (i := 8) (by simp)
  have q9 : w1.cell? ⟨w.heap.size, 9, none⟩ = some (.int .u8 (x5 : Int)) := HF1.out.cellAt (i := 9) (by simp)
  have q10 : w1.cell? ⟨w.heap.size, 10, none⟩ = some (.int .u8 (x6 : Int)) := HF1.out.cellAt (i := 10) (by simp)
  have q11 : w1.cell? ⟨w.heap.size, 11, none⟩ = some (.int .u8 (x7 : Int)) := HF1.out.cellAt (i := 11) (by simp)
  go_wp2_with fail
  refine (HRT.out _).mono ?_
  rintro y w2 ⟨rfl, hb⟩
  have HF2 := Lib.hid (HF1.out.keep hb HF1.out.lt); have HR2 := Lib.hid (HR1.out.keep hb HR1.out.lt); have HB2 := Lib.hid (below_transG HB1.out hb)
  clear hb q0 q1 q2 q3 q4 q5 q6 q7 q8 q9 q10 q11
  have q0 : w2.cell? ⟨w.heap.size, 0, none⟩ = some (.bool false) := HF2.out.cellAt (i := 0) (by simp)
  have q1 : w2.cell? ⟨w.heap.size, 1, none⟩ = some (.int .u32 (n : Int)) := HF2.out.cellAt (i := 1) (by simp)
  have q2 : w2.cell? ⟨w.heap.size, 2, none⟩ = some (.bool false) := HF2.out.cellAt (i := 2) (by simp)
  have q3 : w2.cell? ⟨w.heap.size, 3, none⟩ = some (.int .i64 l) := HF2.out.cellAt (i := 3) (by simp)
  have q4 : w2.cell? ⟨w.heap.size, 4, none⟩ = some (.int .u8 (x0 : Int)) := HF2.out.cellAt (i := 4) (by simp)
  have q5 : w2.cell? ⟨w.heap.size, 5, none⟩ = some (.int .u8 (x1 : Int)) := HF2.out.cellAt (i := 5) (by simp)
  have q6 : w2.cell? ⟨w.heap.size, 6, none⟩ = some (.int .u8 (x2 : Int)) := HF2.out.cellAt (i := 6) (by simp)
  have q7 : w2.cell? ⟨w.heap.size, 7, none⟩ = some (.int .u8 (x3 : Int)) := HF2.out.cellAt (i := 7) (by simp)
  have q8 : w2.cell? ⟨w.heap.size, 8, none⟩ = some (.int .u8 (x4 : Int)) := HF2.out.cellAt (i := 8) (by simp)
  have q9 : w2.cell? ⟨w.heap.size, 9, none⟩ = some (.int .u8 (x5 : Int)) := HF2.out.cellAt (i := 9) (by simp)
  have q10 : w2.cell? ⟨w.heap.size, 10, none⟩ = some (.int .u8 (x6 : Int)) := HF2.out.cellAt (i := 10) (by simp)
  have q11 : w2.cell? ⟨w.heap.size, 11, none⟩ = some (.int .u8 (x7 : Int)) := HF2.out.cellAt (i := 11) (by simp)
  go_upto_region 4 with fail
  obtain ⟨w3, hw3⟩ : ∃ w3, w3 = w2.alloc (.cells #[.bool (decide ((32 : Int) ≤ (n : Int))), .int .i64 (k : Int), .int .i64 (R : Int), .int .i64 0] 71) := ⟨_, rfl⟩
  rw [← hw3]
  have HW3 := Lib.hid (show Blk w3 w2.heap.size 71 [.bool false, .int .i64 (k : Int), .int .i64 (R : Int), .int .i64 0] by rw [hw3, HI1.out]; exact Blk.new w2 71 [.bool false, .int .i64 (k : Int), .int .i64 (R : Int), .int .i64 0])
  have HF3 := Lib.hid (show Blk w3 w.heap.size 67 [.bool false, .int .u32 (n : Int), .bool false, .int .i64 l, .int .u8 (x0 : Int), .int .u8 (x1 : Int), .int .u8 (x2 : Int), .int .u8 (x3 : Int), .int .u8 (x4 : Int), .int .u8 (x5 : Int), .int .u8 (x6 : Int), .int .u8 (x7 : Int)] by rw [hw3]; exact keep_box HF2.out); have HR3 := Lib.hid (show Blk w3 (w.heap.size + 1) 71 [.bool false, .int .i64 0, .int .i64 0, .int .i64 0] by rw [hw3]; exact keep_box HR2.out)
  have HB3 := Lib.hid (show Below w.heap.size w w3 by rw [hw3]; exact HB2.out.alloc HB2.out.size _)
  clear hw3 q0 q1 q2 q3 q4 q5 q6 q7 q8 q9 q10 q11
  have r0 : w3.cell? ⟨w2.heap.size, 0, none⟩ = some (.bool false) := HW3.out.cellAt (i := 0) (by simp)
  have r1 : w3.cell? ⟨w2.heap.size, 1, none⟩ = some (.int .i64 (k : Int)) := HW3.out.cellAt (i := 1) (by simp)
  have r2 : w3.cell? ⟨w2.heap.size, 2, none⟩ = some (.int .i64 (R : Int)) := HW3.out.cellAt (i := 2) (by simp)
  have r3 : w3.cell? ⟨w2.heap.size, 3, none⟩ = some (.int .i64 0) := HW3.out.cellAt (i := 3) (by simp)
  have q0 : w3.cell? ⟨w.heap.size, 0, none⟩ = some (.bool false) := HF3.out.cellAt (i := 0) (by simp)
  have q1 : w3.cell? ⟨w.heap.size, 1, none⟩ = some (.int .u32 (n : Int)) := HF3.out.cellAt (i := 1) (by simp)
  have q2 : w3.cell? ⟨w.heap.size, 2, none⟩ = some (.bool false) := HF3.out.cellAt (i := 2) (by simp)
  have q3 : w3.cell? ⟨w.heap.size, 3, none⟩ = some (.int .i64 l) := HF3.out.cellAt (i := 3) (by simp)
  have q4 : w3.cell? ⟨w.heap.size, 4, none⟩ = some (.int .u8 (x0 : Int)) := HF3.out.cellAt (i := 4) (by simp)
  have q5 : w3.cell? ⟨w.heap.size, 5, none⟩ = some (.int .u8 (x1 : Int)) := HF3.out.cellAt (i := 5) (by simp)
  have q6 : w3.cell? ⟨w.heap.size, 6, none⟩ = some (.int .u8 (x2 : Int)) := HF3.out.cellAt (i := 6) (by simp)
  have q7 : w3.cell? ⟨w.heap.size, 7, none⟩ = some (.int .u8 (x3 : Int)) := HF3.out.cellAt (i := 7) (by simp)
  have q8 : w3.cell? ⟨w.heap.size, 8, none⟩ = some (.int .u8 (x4 : Int)) := HF3.out.cellAt (i := 8) (by simp)
  have q9 : w3.cell? ⟨w.heap.size, 9, none⟩ = some (.int .u8 (x5 : Int)) := HF3.out.cellAt (i := 9) (by simp)
  have q10 : w3.cell? ⟨w.heap.size, 10, none⟩ = some (.int .u8 (x6 : Int)) := HF3.out.cellAt (i := 10) (by simp)
  have q11 : w3.cell? ⟨w.heap.size, 11, none⟩ = some (.int .u8 (x7 : Int)) := HF3.out.cellAt (i := 11) (by simp)
  have d0 : w3.cell? ⟨w.heap.size + 1, 0, none⟩ = some (.bool false) := HR3.out.cellAt (i := 0) (by simp)
  have d1 : w3.cell? ⟨w.heap.size + 1, 1, none⟩ = some (.int .i64 0) := HR3.out.cellAt (i := 1) (by simp)
  have d2 : w3.cell? ⟨w.heap.size + 1, 2, none⟩ = some (.int .i64 0) := HR3.out.cellAt (i := 2) (by simp)
  have d3 : w3.cell? ⟨w.heap.size + 1, 3, none⟩ = some (.int .i64 0) := HR3.out.cellAt (i := 3) (by simp)
  have p0 : w3.frozen? ⟨w.heap.size + 1, 0, none⟩ = false := HR3.out.frozenAt 0
  have p1 : w3.frozen? ⟨w.heap.size + 1, 1, none⟩ = false := HR3.out.frozenAt 1
  have p2 : w3.frozen? ⟨w.heap.size + 1, 2, none⟩ = false := HR3.out.frozenAt 2
  have p3 : w3.frozen? ⟨w.heap.size + 1, 3, none⟩ = false := HR3.out.frozenAt 3
  go_wp2_with fail
  obtain ⟨W, hWW⟩ : ∃ W, W = ((((w3.setCell ⟨w.heap.size + 1, 0, none⟩ (.bool false)).setCell ⟨w.heap.size + 1, 1, none⟩ (.int .i64 0)).setCell ⟨w.heap.size + 1, 2, none⟩ (.int .i64 0)).setCell ⟨w.heap.size + 1, 3, none⟩ (.int .i64 0)) := ⟨_, rfl⟩
  rw [← hWW]
  have hRS : Blk W (w.heap.size + 1) 71 [.bool false, .int .i64 0, .int .i64 0, .int .i64 0] := by rw [hWW]; exact (HR3.out).set [.bool false, .int .i64 0, .int .i64 0, .int .i64 0] rfl
  have hb := (show Below w.heap.size w W by rw [hWW]; exact Go.below_setCells (by first | omega | simp) [.bool false, .int .i64 0, .int .i64 0, .int .i64 0] 0 _ HB3.out)
  clear hWW
  have z0 : W.cell? ⟨w.heap.size + 1, 0, none⟩ = some (.bool false) := hRS.cellAt (i := 0) (by simp)
  have z1 : W.cell? ⟨w.heap.size + 1, 1, none⟩ = some (.int .i64 0) := hRS.cellAt (i := 1) (by simp)
  have z2 : W.cell? ⟨w.heap.size + 1, 2, none⟩ = some (.int .i64 0) := hRS.cellAt (i := 2) (by simp)
  have z3 : W.cell? ⟨w.heap.size + 1, 3, none⟩ = some (.int .i64 0) := hRS.cellAt (i := 3) (by simp)
  exact bodyPost_ret (v := .tuple #[.agg #[.bool false, .int .i64 0, .int .i64 0, .int .i64 0], .bool false]) (by simp [results, Try.results40, go_sem, z0, z1, z2, z3]) rfl ⟨rfl, hb⟩
set_option maxRecDepth 100000 in
set_option maxHeartbeats 4000000 in
theorem rslof_high (n : Nat) (hn : n < 4294967296) (x0 x1 x2 x3 x4 x5 x6 x7 : Nat) (hx0 : x0 < 256) (hx1 : x1 < 256) (hx2 : x2 < 256) (hx3 : x3 < 256) (hx4 : x4 < 256) (hx5 : x5 < 256) (hx6 : x6 < 256) (hx7 : x7 < 256) (h32 : 32 ≤ n ∧ n < 64) (h : rightF false n false 8 [x0, x1, x2, x3, x4, x5, x6, x7] = 0) (w : World) : Calls Try.prog 40 #[.agg #[.bool false, .int .u32 (n : Int), .bool false, .int .i64 8, .int .u8 (x0 : Int), .int .u8 (x1 : Int), .int .u8 (x2 : Int), .int .u8 (x3 : Int), .int .u8 (x4 : Int), .int .u8 (x5 : Int), .int .u8 (x6 : Int), .int .u8 (x7 : Int)]] w fun y w' => y = .returned (.tuple #[.agg #[.bool true, .int .i64 ((n % 32 : Nat) : Int), .int .i64 ((x0 * 256 + x1 : Nat) : Int), .int .i64 ((be6 x2 x3 x4 x5 x6 x7 : Nat) : Int)], .bool true]) ∧ Below w.heap.size w w' := by
  have HRT := Lib.hid (show ∀ u : World, Calls Try.prog 78 #[.agg #[.bool false, .int .u32 (n : Int), .bool false, .int .i64 8, .int .u8 (x0 : Int), .int .u8 (x1 : Int), .int .u8 (x2 : Int), .int .u8 (x3 : Int), .int .u8 (x4 : Int), .int .u8 (x5 : Int), .int .u8 (x6 : Int), .int .u8 (x7 : Int)]] u fun x w' => x = .returned (.int .i64 0) ∧ Below u.heap.size u w' from fun u => by
    have h2 := ref6Right_any false n false 8 [x0, x1, x2, x3, x4, x5, x6, x7] rfl u
    rw [h] at h2
    exact h2)
  obtain ⟨k, hk⟩ : ∃ k, k = n % 32 := ⟨_, rfl⟩
  obtain ⟨U, hU⟩ : ∃ U, U = x0 * 256 := ⟨_, rfl⟩
  obtain ⟨R, hR⟩ : ∃ R, R = U + x1 := ⟨_, rfl⟩
  have hR2 : x0 * 256 + x1 = R := by rw [hR, hU]
  have z1 : k < 9223372036854775808 := by omega
  have z2 : x0 < 9223372036854775808 := by omega
  have z3 : x1 < 9223372036854775808 := by omega
  have z4 : U < 9223372036854775808 := by omega
  have z5 : R < 9223372036854775808 := by omega
  have i0 : ¬ (64 : Int) ≤ (n : Int) := by omega
  have i1 : (32 : Int) ≤ (n : Int) := by omega
  have HI1 := Lib.hid (show decide ((32 : Int) ≤ (n : Int)) = true from decide_eq_true i1)
  obtain ⟨u1, hu1⟩ : ∃ u, u = x2 * 256 := ⟨_, rfl⟩
  obtain ⟨t2, ht2⟩ : ∃ t, t = u1 + x3 := ⟨_, rfl⟩
  obtain ⟨u2, hu2⟩ : ∃ u, u = t2 * 256 := ⟨_, rfl⟩
  obtain ⟨t3, ht3⟩ : ∃ t, t = u2 + x4 := ⟨_, rfl⟩
  obtain ⟨u3, hu3⟩ : ∃ u, u = t3 * 256 := ⟨_, rfl⟩
  obtain ⟨t4, ht4⟩ : ∃ t, t = u3 + x5 := ⟨_, rfl⟩
  obtain ⟨u4, hu4⟩ : ∃ u, u = t4 * 256 := ⟨_, rfl⟩
  obtain ⟨t5, ht5⟩ : ∃ t, t = u4 + x6 := ⟨_, rfl⟩
  obtain ⟨u5, hu5⟩ : ∃ u, u = t5 * 256 := ⟨_, rfl⟩
  obtain ⟨t6, ht6⟩ : ∃ t, t = u5 + x7 := ⟨_, rfl⟩
  have hT : be6 x2 x3 x4 x5 x6 x7 = t6 := by unfold be6; clear hk hR hU z1 z2 z3 z4 z5 hR2 i0 i1 HI1; omega
  have x90 : x2 < 9223372036854775808 := by clear hT hk hR hU z1 z2 z3 z4 z5 hR2 i0 i1 HI1; omega
  have c1 : t2 < 9223372036854775808 := by clear hT hk hR hU z1 z2 z3 z4 z5 hR2 i0 i1 HI1; omega
  have d1 : u1 < 9223372036854775808 := by clear hT hk hR hU z1 z2 z3 z4 z5 hR2 i0 i1 HI1; omega
  have x91 : x3 < 9223372036854775808 := by clear hT hk hR hU z1 z2 z3 z4 z5 hR2 i0 i1 HI1; omega
  have c2 : t3 < 9223372036854775808 := by clear hT hk hR hU z1 z2 z3 z4 z5 hR2 i0 i1 HI1; omega
  have d2 : u2 < 9223372036854775808 := by clear hT hk hR hU z1 z2 z3 z4 z5 hR2 i0 i1 HI1; omega
  have x92 : x4 < 9223372036854775808 := by clear hT hk hR hU z1 z2 z3 z4 z5 hR2 i0 i1 HI1; omega
  have c3 : t4 < 9223372036854775808 := by clear hT hk hR hU z1 z2 z3 z4 z5 hR2 i0 i1 HI1; omega
  have d3 : u3 < 9223372036854775808 := by clear hT hk hR hU z1 z2 z3 z4 z5 hR2 i0 i1 HI1; omega
  have x93 : x5 < 9223372036854775808 := by clear hT hk hR hU z1 z2 z3 z4 z5 hR2 i0 i1 HI1; omega
  have c4 : t5 < 9223372036854775808 := by clear hT hk hR hU z1 z2 z3 z4 z5 hR2 i0 i1 HI1; omega
  have d4 : u4 < 9223372036854775808 := by clear hT hk hR hU z1 z2 z3 z4 z5 hR2 i0 i1 HI1; omega
  have x94 : x6 < 9223372036854775808 := by clear hT hk hR hU z1 z2 z3 z4 z5 hR2 i0 i1 HI1; omega
  have c5 : t6 < 9223372036854775808 := by clear hT hk hR hU z1 z2 z3 z4 z5 hR2 i0 i1 HI1; omega
  have d5 : u5 < 9223372036854775808 := by clear hT hk hR hU z1 z2 z3 z4 z5 hR2 i0 i1 HI1; omega
  have x95 : x7 < 9223372036854775808 := by clear hT hk hR hU z1 z2 z3 z4 z5 hR2 i0 i1 HI1; omega
  rw [← hk, hR2, hT]
  have i2 := remK n k hk
  have i3 := w64K k z1
  have i4 := w64K x0 z2
  have i5 := w64K x1 z3
  have i6 := mulK x0 U z4 hU
  have i7 := addK U x1 R z5 hR
  clear z1 z2 z3 z4 z5
  have e0 := w64K x2 x90
  have a1 := mulK x2 u1 d1 hu1
  have b1 := addK u1 x3 t2 c1 ht2
  have e1 := w64K x3 x91
  have a2 := mulK t2 u2 d2 hu2
  have b2 := addK u2 x4 t3 c2 ht3
  have e2 := w64K x4 x92
  have a3 := mulK t3 u3 d3 hu3
  have b3 := addK u3 x5 t4 c3 ht4
  have e3 := w64K x5 x93
  have a4 := mulK t4 u4 d4 hu4
  have b4 := addK u4 x6 t5 c4 ht5
  have e4 := w64K x6 x94
  have a5 := mulK t5 u5 d5 hu5
  have b5 := addK u5 x7 t6 c5 ht6
  have e5 := w64K x7 x95
  clear x90 hR2 hk hR hU h hn h32 hx0 hx1 hx2 hx3 hx4 hx5 hx6 hx7 hT hu1 c1 d1 x91 hu2 c2 d2 x92 hu3 c3 d3 x93 hu4 c4 d4 x94 hu5 c5 d5 x95 ht2 ht3 ht4 ht5 ht6
  go_enter Try.func40, Try.ntmps40
  go_upto_region 1 with fail
  obtain ⟨w1, hw1⟩ : ∃ w1, w1 = (w.alloc (.cells #[.bool false, .int .u32 (n : Int), .bool false, .int .i64 8, .int .u8 (x0 : Int), .int .u8 (x1 : Int), .int .u8 (x2 : Int), .int .u8 (x3 : Int), .int .u8 (x4 : Int), .int .u8 (x5 : Int), .int .u8 (x6 : Int), .int .u8 (x7 : Int)] 67)).alloc (.cells #[.bool false, .int .i64 0, .int .i64 0, .int .i64 0] 71) := ⟨_, rfl⟩
  rw [← hw1]
  have HF1 := Lib.hid (show Blk w1 w.heap.size 67 [.bool false, .int .u32 (n : Int), .bool false, .int .i64 8, .int .u8 (x0 : Int), .int .u8 (x1 : Int), .int .u8 (x2 : Int), .int .u8 (x3 : Int), .int .u8 (x4 : Int), .int .u8 (x5 : Int), .int .u8 (x6 : Int), .int .u8 (x7 : Int)] by rw [hw1]; exact (Blk.new w 67 [.bool false, .int .u32 (n : Int), .bool false, .int .i64 8, .int .u8 (x0 : Int), .int .u8 (x1 : Int), .int .u8 (x2 : Int), .int .u8 (x3 : Int), .int .u8 (x4 : Int), .int .u8 (x5 : Int), .int .u8 (x6 : Int), .int .u8 (x7 : Int)]).keep ((Below.refl _ _).alloc (Nat.le_refl _) _) (by simp))
  have HR1 := Lib.hid (show Blk w1 (w.heap.size + 1) 71 [.bool false, .int .i64 0, .int .i64 0, .int .i64 0] by rw [hw1]; exact blk_two w _ 71 [.bool false, .int .i64 0, .int .i64 0, .int .i64 0])
  have HB1 := Lib.hid (show Below w.heap.size w w1 by rw [hw1]; exact ((Below.refl _ w).alloc (Nat.le_refl _) _).alloc (by simp) _)
  clear hw1
  have q0 : w1.cell? ⟨w.heap.size, 0, none⟩ = some (.bool false) := HF1.out.cellAt (i := 0) (by simp)
  have q1 : w1.cell? ⟨w.heap.size, 1, none⟩ = some (.int .u32 (n : Int)) := HF1.out.cellAt (i := 1) (by simp)
  have q2 : w1.cell? ⟨w.heap.size, 2, none⟩ = some (.bool false) := HF1.out.cellAt (i := 2) (by simp)
  have q3 : w1.cell? ⟨w.heap.size, 3, none⟩ = some (.int .i64 8) := HF1.out.cellAt (i := 3) (by simp)
  have q4 : w1.cell? ⟨w.heap.size, 4, none⟩ = some (.int .u8 (x0 : Int)) := HF1.out.cellAt (i := 4) (by simp)
  have q5 : w1.cell? ⟨w.heap.size, 5, none⟩ = some (.int .u8 (x1 : Int)) := HF1.out.cellAt (i := 5) (by simp)
  have q6 : w1.cell? ⟨w.heap.size, 6, none⟩ = some (.int .u8 (x2 : Int)) := HF1.out.cellAt (i := 6) (by simp)
  have q7 : w1.cell? ⟨w.heap.size, 7, none⟩ = some (.int .u8 (x3 : Int)) := HF1.out.cellAt (i := 7) (by simp)
  have q8 : w1.cell? ⟨w.heap.size, 8, none⟩ = some (.int .u8 (x4 : Int)) := HF1.out.cellAt (i := 8) (by simp)
  have q9 : w1.cell? ⟨w.heap.size, 9, none⟩ = some (.int .u8 (x5 : Int)) := HF1.out.cellAt (i := 9) (by simp)
  have q10 : w1.cell? ⟨w.heap.size, 10, none⟩ = some (.int .u8 (x6 : Int)) := HF1.out.cellAt (i := 10) (by simp)
  have q11 : w1.cell? ⟨w.heap.size, 11, none⟩ = some (.int .u8 (x7 : Int)) := HF1.out.cellAt (i := 11) (by simp)
  go_wp2_with fail
  refine (HRT.out _).mono ?_
  rintro y w2 ⟨rfl, hb⟩
  have HF2 := Lib.hid (HF1.out.keep hb HF1.out.lt); have HR2 := Lib.hid (HR1.out.keep hb HR1.out.lt); have HB2 := Lib.hid (below_transG HB1.out hb)
  clear hb q0 q1 q2 q3 q4 q5 q6 q7 q8 q9 q10 q11
  have q0 : w2.cell? ⟨w.heap.size, 0, none⟩ = some (.bool false) := HF2.out.cellAt (i := 0) (by simp)
  have q1 : w2.cell? ⟨w.heap.size, 1, none⟩ = some (.int .u32 (n : Int)) := HF2.out.cellAt (i := 1) (by simp)
  have q2 : w2.cell? ⟨w.heap.size, 2, none⟩ = some (.bool false) := HF2.out.cellAt (i := 2) (by simp)
  have q3 : w2.cell? ⟨w.heap.size, 3, none⟩ = some (.int .i64 8) := HF2.out.cellAt (i := 3) (by simp)
  have q4 : w2.cell? ⟨w.heap.size, 4, none⟩ = some (.int .u8 (x0 : Int)) := HF2.out.cellAt (i := 4) (by simp)
  have q5 : w2.cell? ⟨w.heap.size, 5, none⟩ = some (.int .u8 (x1 : Int)) := HF2.out.cellAt (i := 5) (by simp)
  have q6 : w2.cell? ⟨w.heap.size, 6, none⟩ = some (.int .u8 (x2 : Int)) := HF2.out.cellAt (i := 6) (by simp)
  have q7 : w2.cell? ⟨w.heap.size, 7, none⟩ = some (.int .u8 (x3 : Int)) := HF2.out.cellAt (i := 7) (by simp)
  have q8 : w2.cell? ⟨w.heap.size, 8, none⟩ = some (.int .u8 (x4 : Int)) := HF2.out.cellAt (i := 8) (by simp)
  have q9 : w2.cell? ⟨w.heap.size, 9, none⟩ = some (.int .u8 (x5 : Int)) := HF2.out.cellAt (i := 9) (by simp)
  have q10 : w2.cell? ⟨w.heap.size, 10, none⟩ = some (.int .u8 (x6 : Int)) := HF2.out.cellAt (i := 10) (by simp)
  have q11 : w2.cell? ⟨w.heap.size, 11, none⟩ = some (.int .u8 (x7 : Int)) := HF2.out.cellAt (i := 11) (by simp)
  go_upto_region 4 with fail
  obtain ⟨w3, hw3⟩ : ∃ w3, w3 = w2.alloc (.cells #[.bool true, .int .i64 (k : Int), .int .i64 (R : Int), .int .i64 0] 71) := ⟨_, rfl⟩
  rw [← hw3]
  have HW3 := Lib.hid (show Blk w3 w2.heap.size 71 [.bool true, .int .i64 (k : Int), .int .i64 (R : Int), .int .i64 0] by rw [hw3]; exact Blk.new w2 71 [.bool true, .int .i64 (k : Int), .int .i64 (R : Int), .int .i64 0])
  have HF3 := Lib.hid (show Blk w3 w.heap.size 67 [.bool false, .int .u32 (n : Int), .bool false, .int .i64 8, .int .u8 (x0 : Int), .int .u8 (x1 : Int), .int .u8 (x2 : Int), .int .u8 (x3 : Int), .int .u8 (x4 : Int), .int .u8 (x5 : Int), .int .u8 (x6 : Int), .int .u8 (x7 : Int)] by rw [hw3]; exact keep_box HF2.out); have HR3 := Lib.hid (show Blk w3 (w.heap.size + 1) 71 [.bool false, .int .i64 0, .int .i64 0, .int .i64 0] by rw [hw3]; exact keep_box HR2.out)
  have HB3 := Lib.hid (show Below w.heap.size w w3 by rw [hw3]; exact HB2.out.alloc HB2.out.size _)
  clear hw3 q0 q1 q2 q3 q4 q5 q6 q7 q8 q9 q10 q11
  have HN := Lib.hid (show w2.heap.size ≠ w.heap.size ∧ w2.heap.size ≠ w.heap.size + 1 by have := HR2.out.lt; omega)
  have r0 : w3.cell? ⟨w2.heap.size, 0, none⟩ = some (.bool true) := HW3.out.cellAt (i := 0) (by simp)
  go_wp2_with fail
  clear r0
  go_loopw [5] (fun s5 wr => ((s5 = .int .i64 2 ∧ Blk wr w2.heap.size 71 [.bool true, .int .i64 (k : Int), .int .i64 (R : Int), .int .i64 0]) ∨ (s5 = .int .i64 3 ∧ Blk wr w2.heap.size 71 [.bool true, .int .i64 (k : Int), .int .i64 (R : Int), .int .i64 (x2 : Int)]) ∨ (s5 = .int .i64 4 ∧ Blk wr w2.heap.size 71 [.bool true, .int .i64 (k : Int), .int .i64 (R : Int), .int .i64 (t2 : Int)]) ∨ (s5 = .int .i64 5 ∧ Blk wr w2.heap.size 71 [.bool true, .int .i64 (k : Int), .int .i64 (R : Int), .int .i64 (t3 : Int)]) ∨ (s5 = .int .i64 6 ∧ Blk wr w2.heap.size 71 [.bool true, .int .i64 (k : Int), .int .i64 (R : Int), .int .i64 (t4 : Int)]) ∨ (s5 = .int .i64 7 ∧ Blk wr w2.heap.size 71 [.bool true, .int .i64 (k : Int), .int .i64 (R : Int), .int .i64 (t5 : Int)]) ∨ (s5 = .int .i64 8 ∧ Blk wr w2.heap.size 71 [.bool true, .int .i64 (k : Int), .int .i64 (R : Int), .int .i64 (t6 : Int)])) ∧ Blk wr w.heap.size 67 [.bool false, .int .u32 (n : Int), .bool false, .int .i64 8, .int .u8 (x0 : Int), .int .u8 (x1 : Int), .int .u8 (x2 : Int), .int .u8 (x3 : Int), .int .u8 (x4 : Int), .int .u8 (x5 : Int), .int .u8 (x6 : Int), .int .u8 (x7 : Int)] ∧ Blk wr (w.heap.size + 1) 71 [.bool false, .int .i64 0, .int .i64 0, .int .i64 0] ∧ Below w.heap.size w wr) (fun s5 _ => (8 - intOf s5).toNat)
  case atStart => exact ⟨.inl ⟨rfl, HW3.out⟩, HF3.out, HR3.out, HB3.out⟩
  case round =>
    obtain ⟨hst, hf, hz, hb⟩ := hrel
    have HFr := Lib.hid hf; have HZr := Lib.hid hz; have HBr := Lib.hid hb
    clear hf hz hb
    rcases hst with ⟨rfl, hW⟩ | ⟨rfl, hW⟩ | ⟨rfl, hW⟩ | ⟨rfl, hW⟩ | ⟨rfl, hW⟩ | ⟨rfl, hW⟩ | ⟨rfl, hW⟩
    · have HWr := Lib.hid hW
      have dd : wr.cell? ⟨w2.heap.size, 3, none⟩ = some (.int .i64 0) := HWr.out.cellAt (i := 3) (by simp)
      have pp : wr.frozen? ⟨w2.heap.size, 3, none⟩ = false := HWr.out.frozenAt 3
      have xx : wr.cell? ⟨w.heap.size, 6, none⟩ = some (.int .u8 (x2 : Int)) := HFr.out.cellAt (i := 6) (by simp)
      clear hW
      go_wp2_with fail
      go_region
      go_wp2_with fail
      go_roundw
      case rel => exact ⟨.inr (.inl ⟨rfl, HWr.out.put1 (i := 3) (by simp) _⟩), HFr.out.puts HN.out.1 3 _, HZr.out.puts HN.out.2 3 _, (HBr.out.setCell (p := ⟨w2.heap.size, 3, none⟩) HB2.out.size _).drew⟩
      case measure => simp [intOf]
    · have HWr := Lib.hid hW
      have dd : wr.cell? ⟨w2.heap.size, 3, none⟩ = some (.int .i64 (x2 : Int)) := HWr.out.cellAt (i := 3) (by simp)
      have pp : wr.frozen? ⟨w2.heap.size, 3, none⟩ = false := HWr.out.frozenAt 3
      have xx : wr.cell? ⟨w.heap.size, 7, none⟩ = some (.int .u8 (x3 : Int)) := HFr.out.cellAt (i := 7) (by simp)
      clear hW
      go_wp2_with fail
      go_region
      go_wp2_with fail
      go_roundw
      case rel => exact ⟨.inr (.inr (.inl ⟨rfl, HWr.out.put1 (i := 3) (by simp) _⟩)), HFr.out.puts HN.out.1 3 _, HZr.out.puts HN.out.2 3 _, (HBr.out.setCell (p := ⟨w2.heap.size, 3, none⟩) HB2.out.size _).drew⟩
      case measure => simp [intOf]
    · have HWr := Lib.hid hW
      have dd : wr.cell? ⟨w2.heap.size, 3, none⟩ = some (.int .i64 (t2 : Int)) := HWr.out.cellAt (i := 3) (by simp)
      have pp : wr.frozen? ⟨w2.heap.size, 3, none⟩ = false := HWr.out.frozenAt 3
      have xx : wr.cell? ⟨w.heap.size, 8, none⟩ = some (.int .u8 (x4 : Int)) := HFr.out.cellAt (i := 8) (by simp)
      clear hW
      go_wp2_with fail
      go_region
      go_wp2_with fail
      go_roundw
      case rel => exact ⟨.inr (.inr (.inr (.inl ⟨rfl, HWr.out.put1 (i := 3) (by simp) _⟩))), HFr.out.puts HN.out.1 3 _, HZr.out.puts HN.out.2 3 _, (HBr.out.setCell (p := ⟨w2.heap.size, 3, none⟩) HB2.out.size _).drew⟩
      case measure => simp [intOf]
    · have HWr := Lib.hid hW
      have dd : wr.cell? ⟨w2.heap.size, 3, none⟩ = some (.int .i64 (t3 : Int)) := HWr.out.cellAt (i := 3) (by simp)
      have pp : wr.frozen? ⟨w2.heap.size, 3, none⟩ = false := HWr.out.frozenAt 3
      have xx : wr.cell? ⟨w.heap.size, 9, none⟩ = some (.int .u8 (x5 : Int)) := HFr.out.cellAt (i := 9) (by simp)
      clear hW
      go_wp2_with fail
      go_region
      go_wp2_with fail
      go_roundw
      case rel => exact ⟨.inr (.inr (.inr (.inr (.inl ⟨rfl, HWr.out.put1 (i := 3) (by simp) _⟩)))), HFr.out.puts HN.out.1 3 _, HZr.out.puts HN.out.2 3 _, (HBr.out.setCell (p := ⟨w2.heap.size, 3, none⟩) HB2.out.size _).drew⟩
      case measure => simp [intOf]
    · have HWr := Lib.hid hW
      have dd : wr.cell? ⟨w2.heap.size, 3, none⟩ = some (.int .i64 (t4 : Int)) := HWr.out.cellAt (i := 3) (by simp)
      have pp : wr.frozen? ⟨w2.heap.size, 3, none⟩ = false := HWr.out.frozenAt 3
      have xx : wr.cell? ⟨w.heap.size, 10, none⟩ = some (.int .u8 (x6 : Int)) := HFr.out.cellAt (i := 10) (by simp)
      clear hW
      go_wp2_with fail
      go_region
      go_wp2_with fail
      go_roundw
      case rel => exact ⟨.inr (.inr (.inr (.inr (.inr (.inl ⟨rfl, HWr.out.put1 (i := 3) (by simp) _⟩))))), HFr.out.puts HN.out.1 3 _, HZr.out.puts HN.out.2 3 _, (HBr.out.setCell (p := ⟨w2.heap.size, 3, none⟩) HB2.out.size _).drew⟩
      case measure => simp [intOf]
    · have HWr := Lib.hid hW
      have dd : wr.cell? ⟨w2.heap.size, 3, none⟩ = some (.int .i64 (t5 : Int)) := HWr.out.cellAt (i := 3) (by simp)
      have pp : wr.frozen? ⟨w2.heap.size, 3, none⟩ = false := HWr.out.frozenAt 3
      have xx : wr.cell? ⟨w.heap.size, 11, none⟩ = some (.int .u8 (x7 : Int)) := HFr.out.cellAt (i := 11) (by simp)
      clear hW
      go_wp2_with fail
      go_region
      go_wp2_with fail
      go_roundw
      case rel => exact ⟨.inr (.inr (.inr (.inr (.inr (.inr (⟨rfl, HWr.out.put1 (i := 3) (by simp) _⟩)))))), HFr.out.puts HN.out.1 3 _, HZr.out.puts HN.out.2 3 _, (HBr.out.setCell (p := ⟨w2.heap.size, 3, none⟩) HB2.out.size _).drew⟩
      case measure => simp [intOf]
    · have HWr := Lib.hid hW
      have r0 : wr.cell? ⟨w2.heap.size, 0, none⟩ = some (.bool true) := HWr.out.cellAt (i := 0) (by simp)
      have r1 : wr.cell? ⟨w2.heap.size, 1, none⟩ = some (.int .i64 (k : Int)) := HWr.out.cellAt (i := 1) (by simp)
      have r2 : wr.cell? ⟨w2.heap.size, 2, none⟩ = some (.int .i64 (R : Int)) := HWr.out.cellAt (i := 2) (by simp)
      have r3 : wr.cell? ⟨w2.heap.size, 3, none⟩ = some (.int .i64 (t6 : Int)) := HWr.out.cellAt (i := 3) (by simp)
      have q0 : wr.cell? ⟨w.heap.size, 0, none⟩ = some (.bool false) := HFr.out.cellAt (i := 0) (by simp)
      have q1 : wr.cell? ⟨w.heap.size, 1, none⟩ = some (.int .u32 (n : Int)) := HFr.out.cellAt (i := 1) (by simp)
      have q2 : wr.cell? ⟨w.heap.size, 2, none⟩ = some (.bool false) := HFr.out.cellAt (i := 2) (by simp)
      have q3 : wr.cell? ⟨w.heap.size, 3, none⟩ = some (.int .i64 8) := HFr.out.cellAt (i := 3) (by simp)
      have q4 : wr.cell? ⟨w.heap.size, 4, none⟩ = some (.int .u8 (x0 : Int)) := HFr.out.cellAt (i := 4) (by simp)
      have q5 : wr.cell? ⟨w.heap.size, 5, none⟩ = some (.int .u8 (x1 : Int)) := HFr.out.cellAt (i := 5) (by simp)
      have q6 : wr.cell? ⟨w.heap.size, 6, none⟩ = some (.int .u8 (x2 : Int)) := HFr.out.cellAt (i := 6) (by simp)
      have q7 : wr.cell? ⟨w.heap.size, 7, none⟩ = some (.int .u8 (x3 : Int)) := HFr.out.cellAt (i := 7) (by simp)
      have q8 : wr.cell? ⟨w.heap.size, 8, none⟩ = some (.int .u8 (x4 : Int)) := HFr.out.cellAt (i := 8) (by simp)
      have q9 : wr.cell? ⟨w.heap.size, 9, none⟩ = some (.int .u8 (x5 : Int)) := HFr.out.cellAt (i := 9) (by simp)
      have q10 : wr.cell? ⟨w.heap.size, 10, none⟩ = some (.int .u8 (x6 : Int)) := HFr.out.cellAt (i := 10) (by simp)
      have q11 : wr.cell? ⟨w.heap.size, 11, none⟩ = some (.int .u8 (x7 : Int)) := HFr.out.cellAt (i := 11) (by simp)
      clear hW
      have d0 : wr.cell? ⟨w.heap.size + 1, 0, none⟩ = some (.bool false) := HZr.out.cellAt (i := 0) (by simp)
      have d1 : wr.cell? ⟨w.heap.size + 1, 1, none⟩ = some (.int .i64 0) := HZr.out.cellAt (i := 1) (by simp)
      have d2 : wr.cell? ⟨w.heap.size + 1, 2, none⟩ = some (.int .i64 0) := HZr.out.cellAt (i := 2) (by simp)
      have d3 : wr.cell? ⟨w.heap.size + 1, 3, none⟩ = some (.int .i64 0) := HZr.out.cellAt (i := 3) (by simp)
      have p0 : wr.frozen? ⟨w.heap.size + 1, 0, none⟩ = false := HZr.out.frozenAt 0
      have p1 : wr.frozen? ⟨w.heap.size + 1, 1, none⟩ = false := HZr.out.frozenAt 1
      have p2 : wr.frozen? ⟨w.heap.size + 1, 2, none⟩ = false := HZr.out.frozenAt 2
      have p3 : wr.frozen? ⟨w.heap.size + 1, 3, none⟩ = false := HZr.out.frozenAt 3
      go_wp2_with fail
      obtain ⟨W, hWW⟩ : ∃ W, W = ((((wr.setCell ⟨w.heap.size + 1, 0, none⟩ (.bool true)).setCell ⟨w.heap.size + 1, 1, none⟩ (.int .i64 (k : Int))).setCell ⟨w.heap.size + 1, 2, none⟩ (.int .i64 (R : Int))).setCell ⟨w.heap.size + 1, 3, none⟩ (.int .i64 (t6 : Int))) := ⟨_, rfl⟩
      rw [← hWW]
      have hRS : Blk W (w.heap.size + 1) 71 [.bool true, .int .i64 (k : Int), .int .i64 (R : Int), .int .i64 (t6 : Int)] := by rw [hWW]; exact (HZr.out).set [.bool true, .int .i64 (k : Int), .int .i64 (R : Int), .int .i64 (t6 : Int)] rfl
      have hb := (show Below w.heap.size w W by rw [hWW]; exact Go.below_setCells (by first | omega | simp) [.bool true, .int .i64 (k : Int), .int .i64 (R : Int), .int .i64 (t6 : Int)] 0 _ HBr.out)
      clear hWW
      have z0 : W.cell? ⟨w.heap.size + 1, 0, none⟩ = some (.bool true) := hRS.cellAt (i := 0) (by simp)
      have z1 : W.cell? ⟨w.heap.size + 1, 1, none⟩ = some (.int .i64 (k : Int)) := hRS.cellAt (i := 1) (by simp)
      have z2 : W.cell? ⟨w.heap.size + 1, 2, none⟩ = some (.int .i64 (R : Int)) := hRS.cellAt (i := 2) (by simp)
      have z3 : W.cell? ⟨w.heap.size + 1, 3, none⟩ = some (.int .i64 (t6 : Int)) := hRS.cellAt (i := 3) (by simp)
      exact bodyPost_ret (v := .tuple #[.agg #[.bool true, .int .i64 (k : Int), .int .i64 (R : Int), .int .i64 (t6 : Int)], .bool true]) (by simp [results, Try.results40, go_sem, z0, z1, z2, z3]) rfl ⟨rfl, hb⟩
set_option maxRecDepth 100000 in
set_option maxHeartbeats 4000000 in
theorem rslof_highx (n : Nat) (hn : n < 4294967296) (l : Int) (x0 x1 x2 x3 x4 x5 x6 x7 : Nat) (hx0 : x0 < 256) (hx1 : x1 < 256) (hx2 : x2 < 256) (hx3 : x3 < 256) (hx4 : x4 < 256) (hx5 : x5 < 256) (hx6 : x6 < 256) (hx7 : x7 < 256) (h32 : 32 ≤ n ∧ n < 64) (hl : l ≠ 8) (h : rightF false n false l [x0, x1, x2, x3, x4, x5, x6, x7] = 0) (w : World) : Calls Try.prog 40 #[.agg #[.bool false, .int .u32 (n : Int), .bool false, .int .i64 l, .int .u8 (x0 : Int), .int .u8 (x1 : Int), .int .u8 (x2 : Int), .int .u8 (x3 : Int), .int .u8 (x4 : Int), .int .u8 (x5 : Int), .int .u8 (x6 : Int), .int .u8 (x7 : Int)]] w fun y w' => y = .returned (.tuple #[.agg #[.bool false, .int .i64 0, .int .i64 0, .int .i64 0], .bool false]) ∧ Below w.heap.size w w' := by
  have HRT := Lib.hid (show ∀ u : World, Calls Try.prog 78 #[.agg #[.bool false, .int .u32 (n : Int), .bool false, .int .i64 l, .int .u8 (x0 : Int), .int .u8 (x1 : Int), .int .u8 (x2 : Int), .int .u8 (x3 : Int), .int .u8 (x4 : Int), .int .u8 (x5 : Int), .int .u8 (x6 : Int), .int .u8 (x7 : Int)]] u fun x w' => x = .returned (.int .i64 0) ∧ Below u.heap.size u w' from fun u => by
    have h2 := ref6Right_any false n false l [x0, x1, x2, x3, x4, x5, x6, x7] rfl u
    rw [h] at h2
    exact h2)
  obtain ⟨k, hk⟩ : ∃ k, k = n % 32 := ⟨_, rfl⟩
  obtain ⟨U, hU⟩ : ∃ U, U = x0 * 256 := ⟨_, rfl⟩
  obtain ⟨R, hR⟩ : ∃ R, R = U + x1 := ⟨_, rfl⟩
  have hR2 : x0 * 256 + x1 = R := by rw [hR, hU]
  have z1 : k < 9223372036854775808 := by omega
  have z2 : x0 < 9223372036854775808 := by omega
  have z3 : x1 < 9223372036854775808 := by omega
  have z4 : U < 9223372036854775808 := by omega
  have z5 : R < 9223372036854775808 := by omega
  have i0 : ¬ (64 : Int) ≤ (n : Int) := by omega
  have i1 : (32 : Int) ≤ (n : Int) := by omega
  have HI1 := Lib.hid (show decide ((32 : Int) ≤ (n : Int)) = true from decide_eq_true i1)
  obtain ⟨u1, hu1⟩ : ∃ u, u = x2 * 256 := ⟨_, rfl⟩
  obtain ⟨t2, ht2⟩ : ∃ t, t = u1 + x3 := ⟨_, rfl⟩
  obtain ⟨u2, hu2⟩ : ∃ u, u = t2 * 256 := ⟨_, rfl⟩
  obtain ⟨t3, ht3⟩ : ∃ t, t = u2 + x4 := ⟨_, rfl⟩
  obtain ⟨u3, hu3⟩ : ∃ u, u = t3 * 256 := ⟨_, rfl⟩
  obtain ⟨t4, ht4⟩ : ∃ t, t = u3 + x5 := ⟨_, rfl⟩
  obtain ⟨u4, hu4⟩ : ∃ u, u = t4 * 256 := ⟨_, rfl⟩
  obtain ⟨t5, ht5⟩ : ∃ t, t = u4 + x6 := ⟨_, rfl⟩
  obtain ⟨u5, hu5⟩ : ∃ u, u = t5 * 256 := ⟨_, rfl⟩
  obtain ⟨t6, ht6⟩ : ∃ t, t = u5 + x7 := ⟨_, rfl⟩
  have hT : be6 x2 x3 x4 x5 x6 x7 = t6 := by unfold be6; clear hk hR hU z1 z2 z3 z4 z5 hR2 i0 i1 HI1; omega
  have x90 : x2 < 9223372036854775808 := by clear hT hk hR hU z1 z2 z3 z4 z5 hR2 i0 i1 HI1; omega
  have c1 : t2 < 9223372036854775808 := by clear hT hk hR hU z1 z2 z3 z4 z5 hR2 i0 i1 HI1; omega
  have d1 : u1 < 9223372036854775808 := by clear hT hk hR hU z1 z2 z3 z4 z5 hR2 i0 i1 HI1; omega
  have x91 : x3 < 9223372036854775808 := by clear hT hk hR hU z1 z2 z3 z4 z5 hR2 i0 i1 HI1; omega
  have c2 : t3 < 9223372036854775808 := by clear hT hk hR hU z1 z2 z3 z4 z5 hR2 i0 i1 HI1; omega
  have d2 : u2 < 9223372036854775808 := by clear hT hk hR hU z1 z2 z3 z4 z5 hR2 i0 i1 HI1; omega
  have x92 : x4 < 9223372036854775808 := by clear hT hk hR hU z1 z2 z3 z4 z5 hR2 i0 i1 HI1; omega
  have c3 : t4 < 9223372036854775808 := by clear hT hk hR hU z1 z2 z3 z4 z5 hR2 i0 i1 HI1; omega
  have d3 : u3 < 9223372036854775808 := by clear hT hk hR hU z1 z2 z3 z4 z5 hR2 i0 i1 HI1; omega
  have x93 : x5 < 9223372036854775808 := by clear hT hk hR hU z1 z2 z3 z4 z5 hR2 i0 i1 HI1; omega
  have c4 : t5 < 9223372036854775808 := by clear hT hk hR hU z1 z2 z3 z4 z5 hR2 i0 i1 HI1; omega
  have d4 : u4 < 9223372036854775808 := by clear hT hk hR hU z1 z2 z3 z4 z5 hR2 i0 i1 HI1; omega
  have x94 : x6 < 9223372036854775808 := by clear hT hk hR hU z1 z2 z3 z4 z5 hR2 i0 i1 HI1; omega
  have c5 : t6 < 9223372036854775808 := by clear hT hk hR hU z1 z2 z3 z4 z5 hR2 i0 i1 HI1; omega
  have d5 : u5 < 9223372036854775808 := by clear hT hk hR hU z1 z2 z3 z4 z5 hR2 i0 i1 HI1; omega
  have x95 : x7 < 9223372036854775808 := by clear hT hk hR hU z1 z2 z3 z4 z5 hR2 i0 i1 HI1; omega
  have j0 : (l == 8) = false := by simp [hl]
  clear hl
  have i2 := remK n k hk
  have i3 := w64K k z1
  have i4 := w64K x0 z2
  have i5 := w64K x1 z3
  have i6 := mulK x0 U z4 hU
  have i7 := addK U x1 R z5 hR
  clear z1 z2 z3 z4 z5
  have e0 := w64K x2 x90
  have a1 := mulK x2 u1 d1 hu1
  have b1 := addK u1 x3 t2 c1 ht2
  have e1 := w64K x3 x91
  have a2 := mulK t2 u2 d2 hu2
  have b2 := addK u2 x4 t3 c2 ht3
  have e2 := w64K x4 x92
  have a3 := mulK t3 u3 d3 hu3
  have b3 := addK u3 x5 t4 c3 ht4
  have e3 := w64K x5 x93
  have a4 := mulK t4 u4 d4 hu4
  have b4 := addK u4 x6 t5 c4 ht5
  have e4 := w64K x6 x94
  have a5 := mulK t5 u5 d5 hu5
  have b5 := addK u5 x7 t6 c5 ht6
  have e5 := w64K x7 x95
  clear x90 hR2 hk hR hU h hn h32 hx0 hx1 hx2 hx3 hx4 hx5 hx6 hx7 hT hu1 c1 d1 x91 hu2 c2 d2 x92 hu3 c3 d3 x93 hu4 c4 d4 x94 hu5 c5 d5 x95 ht2 ht3 ht4 ht5 ht6
  go_enter Try.func40, Try.ntmps40
  go_upto_region 1 with fail
  obtain ⟨w1, hw1⟩ : ∃ w1, w1 = (w.alloc (.cells #[.bool false, .int .u32 (n : Int), .bool false, .int .i64 l, .int .u8 (x0 : Int), .int .u8 (x1 : Int), .int .u8 (x2 : Int), .int .u8 (x3 : Int), .int .u8 (x4 : Int), .int .u8 (x5 : Int), .int .u8 (x6 : Int), .int .u8 (x7 : Int)] 67)).alloc (.cells #[.bool false, .int .i64 0, .int .i64 0, .int .i64 0] 71) := ⟨_, rfl⟩
  rw [← hw1]
  have HF1 := Lib.hid (show Blk w1 w.heap.size 67 [.bool false, .int .u32 (n : Int), .bool false, .int .i64 l, .int .u8 (x0 : Int), .int .u8 (x1 : Int), .int .u8 (x2 : Int), .int .u8 (x3 : Int), .int .u8 (x4 : Int), .int .u8 (x5 : Int), .int .u8 (x6 : Int), .int .u8 (x7 : Int)] by rw [hw1]; exact (Blk.new w 67 [.bool false, .int .u32 (n : Int), .bool false, .int .i64 l, .int .u8 (x0 : Int), .int .u8 (x1 : Int), .int .u8 (x2 : Int), .int .u8 (x3 : Int), .int .u8 (x4 : Int), .int .u8 (x5 : Int), .int .u8 (x6 : Int), .int .u8 (x7 : Int)]).keep ((Below.refl _ _).alloc (Nat.le_refl _) _) (by simp))
  have HR1 := Lib.hid (show Blk w1 (w.heap.size + 1) 71 [.bool false, .int .i64 0, .int .i64 0, .int .i64 0] by rw [hw1]; exact blk_two w _ 71 [.bool false, .int .i64 0, .int .i64 0, .int .i64 0])
  have HB1 := Lib.hid (show Below w.heap.size w w1 by rw [hw1]; exact ((Below.refl _ w).alloc (Nat.le_refl _) _).alloc (by simp) _)
  clear hw1
  have q0 : w1.cell? ⟨w.heap.size, 0, none⟩ = some (.bool false) := HF1.out.cellAt (i := 0) (by simp)
  have q1 : w1.cell? ⟨w.heap.size, 1, none⟩ = some (.int .u32 (n : Int)) := HF1.out.cellAt (i := 1) (by simp)
  have q2 : w1.cell? ⟨w.heap.size, 2, none⟩ = some (.bool false) := HF1.out.cellAt (i := 2) (by simp)
  have q3 : w1.cell? ⟨w.heap.size, 3, none⟩ = some (.int .i64 l) := HF1.out.cellAt (i := 3) (by simp)
  have q4 : w1.cell? ⟨w.heap.size, 4, none⟩ = some (.int .u8 (x0 : Int)) := HF1.out.cellAt (i := 4) (by simp)
  have q5 : w1.cell? ⟨w.heap.size, 5, none⟩ = some (.int .u8 (x1 : Int)) := HF1.out.cellAt (i := 5) (by simp)
  have q6 : w1.cell? ⟨w.heap.size, 6, none⟩ = some (.int .u8 (x2 : Int)) := HF1.out.cellAt (i := 6) (by simp)
  have q7 : w1.cell? ⟨w.heap.size, 7, none⟩ = some (.int .u8 (x3 : Int)) := HF1.out.cellAt (i := 7) (by simp)
  have q8 : w1.cell? ⟨w.heap.size, 8, none⟩ = some (.int .u8 (x4 : Int)) := HF1.out.cellAt (i := 8) (by simp)
  have q9 : w1.cell? ⟨w.heap.size, 9, none⟩ = some (.int .u8 (x5 : Int)) := HF1.out.cellAt (i := 9) (by simp)
  have q10 : w1.cell? ⟨w.heap.size, 10, none⟩ = some (.int .u8 (x6 : Int)) := HF1.out.cellAt (i := 10) (by simp)
  have q11 : w1.cell? ⟨w.heap.size, 11, none⟩ = some (.int .u8 (x7 : Int)) := HF1.out.cellAt (i := 11) (by simp)
  go_wp2_with fail
  refine (HRT.out _).mono ?_
  rintro y w2 ⟨rfl, hb⟩
  have HF2 := Lib.hid (HF1.out.keep hb HF1.out.lt); have HR2 := Lib.hid (HR1.out.keep hb HR1.out.lt); have HB2 := Lib.hid (below_transG HB1.out hb)
  clear hb q0 q1 q2 q3 q4 q5 q6 q7 q8 q9 q10 q11
  have q0 : w2.cell? ⟨w.heap.size, 0, none⟩ = some (.bool false) := HF2.out.cellAt (i := 0) (by simp)
  have q1 : w2.cell? ⟨w.heap.size, 1, none⟩ = some (.int .u32 (n : Int)) := HF2.out.cellAt (i := 1) (by simp)
  have q2 : w2.cell? ⟨w.heap.size, 2, none⟩ = some (.bool false) := HF2.out.cellAt (i := 2) (by simp)
  have q3 : w2.cell? ⟨w.heap.size, 3, none⟩ = some (.int .i64 l) := HF2.out.cellAt (i := 3) (by simp)
  have q4 : w2.cell? ⟨w.heap.size, 4, none⟩ = some (.int .u8 (x0 : Int)) := HF2.out.cellAt (i := 4) (by simp)
  have q5 : w2.cell? ⟨w.heap.size, 5, none⟩ = some (.int .u8 (x1 : Int)) := HF2.out.cellAt (i := 5) (by simp)
  have q6 : w2.cell? ⟨w.heap.size, 6, none⟩ = some (.int .u8 (x2 : Int)) := HF2.out.cellAt (i := 6) (by simp)
  have q7 : w2.cell? ⟨w.heap.size, 7, none⟩ = some (.int .u8 (x3 : Int)) := HF2.out.cellAt (i := 7) (by simp)
  have q8 : w2.cell? ⟨w.heap.size, 8, none⟩ = some (.int .u8 (x4 : Int)) := HF2.out.cellAt (i := 8) (by simp)
  have q9 : w2.cell? ⟨w.heap.size, 9, none⟩ = some (.int .u8 (x5 : Int)) := HF2.out.cellAt (i := 9) (by simp)
  have q10 : w2.cell? ⟨w.heap.size, 10, none⟩ = some (.int .u8 (x6 : Int)) := HF2.out.cellAt (i := 10) (by simp)
  have q11 : w2.cell? ⟨w.heap.size, 11, none⟩ = some (.int .u8 (x7 : Int)) := HF2.out.cellAt (i := 11) (by simp)
  go_upto_region 4 with fail
  obtain ⟨w3, hw3⟩ : ∃ w3, w3 = w2.alloc (.cells #[.bool true, .int .i64 (k : Int), .int .i64 (R : Int), .int .i64 0] 71) := ⟨_, rfl⟩
  rw [← hw3]
  have HW3 := Lib.hid (show Blk w3 w2.heap.size 71 [.bool true, .int .i64 (k : Int), .int .i64 (R : Int), .int .i64 0] by rw [hw3]; exact Blk.new w2 71 [.bool true, .int .i64 (k : Int), .int .i64 (R : Int), .int .i64 0])
  have HF3 := Lib.hid (show Blk w3 w.heap.size 67 [.bool false, .int .u32 (n : Int), .bool false, .int .i64 l, .int .u8 (x0 : Int), .int .u8 (x1 : Int), .int .u8 (x2 : Int), .int .u8 (x3 : Int), .int .u8 (x4 : Int), .int .u8 (x5 : Int), .int .u8 (x6 : Int), .int .u8 (x7 : Int)] by rw [hw3]; exact keep_box HF2.out); have HR3 := Lib.hid (show Blk w3 (w.heap.size + 1) 71 [.bool false, .int .i64 0, .int .i64 0, .int .i64 0] by rw [hw3]; exact keep_box HR2.out)
  have HB3 := Lib.hid (show Below w.heap.size w w3 by rw [hw3]; exact HB2.out.alloc HB2.out.size _)
  clear hw3 q0 q1 q2 q3 q4 q5 q6 q7 q8 q9 q10 q11
  have HN := Lib.hid (show w2.heap.size ≠ w.heap.size ∧ w2.heap.size ≠ w.heap.size + 1 by have := HR2.out.lt; omega)
  have r0 : w3.cell? ⟨w2.heap.size, 0, none⟩ = some (.bool true) := HW3.out.cellAt (i := 0) (by simp)
  go_wp2_with fail
  clear r0
  go_loopw [5] (fun s5 wr => ((s5 = .int .i64 2 ∧ Blk wr w2.heap.size 71 [.bool true, .int .i64 (k : Int), .int .i64 (R : Int), .int .i64 0]) ∨ (s5 = .int .i64 3 ∧ Blk wr w2.heap.size 71 [.bool true, .int .i64 (k : Int), .int .i64 (R : Int), .int .i64 (x2 : Int)]) ∨ (s5 = .int .i64 4 ∧ Blk wr w2.heap.size 71 [.bool true, .int .i64 (k : Int), .int .i64 (R : Int), .int .i64 (t2 : Int)]) ∨ (s5 = .int .i64 5 ∧ Blk wr w2.heap.size 71 [.bool true, .int .i64 (k : Int), .int .i64 (R : Int), .int .i64 (t3 : Int)]) ∨ (s5 = .int .i64 6 ∧ Blk wr w2.heap.size 71 [.bool true, .int .i64 (k : Int), .int .i64 (R : Int), .int .i64 (t4 : Int)]) ∨ (s5 = .int .i64 7 ∧ Blk wr w2.heap.size 71 [.bool true, .int .i64 (k : Int), .int .i64 (R : Int), .int .i64 (t5 : Int)]) ∨ (s5 = .int .i64 8 ∧ Blk wr w2.heap.size 71 [.bool true, .int .i64 (k : Int), .int .i64 (R : Int), .int .i64 (t6 : Int)])) ∧ Blk wr w.heap.size 67 [.bool false, .int .u32 (n : Int), .bool false, .int .i64 l, .int .u8 (x0 : Int), .int .u8 (x1 : Int), .int .u8 (x2 : Int), .int .u8 (x3 : Int), .int .u8 (x4 : Int), .int .u8 (x5 : Int), .int .u8 (x6 : Int), .int .u8 (x7 : Int)] ∧ Blk wr (w.heap.size + 1) 71 [.bool false, .int .i64 0, .int .i64 0, .int .i64 0] ∧ Below w.heap.size w wr) (fun s5 _ => (8 - intOf s5).toNat)
  case atStart => exact ⟨.inl ⟨rfl, HW3.out⟩, HF3.out, HR3.out, HB3.out⟩
  case round =>
    obtain ⟨hst, hf, hz, hb⟩ := hrel
    have HFr := Lib.hid hf; have HZr := Lib.hid hz; have HBr := Lib.hid hb
    clear hf hz hb
    rcases hst with ⟨rfl, hW⟩ | ⟨rfl, hW⟩ | ⟨rfl, hW⟩ | ⟨rfl, hW⟩ | ⟨rfl, hW⟩ | ⟨rfl, hW⟩ | ⟨rfl, hW⟩
    · have HWr := Lib.hid hW
      have dd : wr.cell? ⟨w2.heap.size, 3, none⟩ = some (.int .i64 0) := HWr.out.cellAt (i := 3) (by simp)
      have pp : wr.frozen? ⟨w2.heap.size, 3, none⟩ = false := HWr.out.frozenAt 3
      have xx : wr.cell? ⟨w.heap.size, 6, none⟩ = some (.int .u8 (x2 : Int)) := HFr.out.cellAt (i := 6) (by simp)
      clear hW
      go_wp2_with fail
      go_region
      go_wp2_with fail
      go_roundw
      case rel => exact ⟨.inr (.inl ⟨rfl, HWr.out.put1 (i := 3) (by simp) _⟩), HFr.out.puts HN.out.1 3 _, HZr.out.puts HN.out.2 3 _, (HBr.out.setCell (p := ⟨w2.heap.size, 3, none⟩) HB2.out.size _).drew⟩
      case measure => simp [intOf]
    · have HWr := Lib.hid hW
      have dd : wr.cell? ⟨w2.heap.size, 3, none⟩ = some (.int .i64 (x2 : Int)) := HWr.out.cellAt (i := 3) (by simp)
      have pp : wr.frozen? ⟨w2.heap.size, 3, none⟩ = false := HWr.out.frozenAt 3
      have xx : wr.cell? ⟨w.heap.size, 7, none⟩ = some (.int .u8 (x3 : Int)) := HFr.out.cellAt (i := 7) (by simp)
      clear hW
      go_wp2_with fail
      go_region
      go_wp2_with fail
      go_roundw
      case rel => exact ⟨.inr (.inr (.inl ⟨rfl, HWr.out.put1 (i := 3) (by simp) _⟩)), HFr.out.puts HN.out.1 3 _, HZr.out.puts HN.out.2 3 _, (HBr.out.setCell (p := ⟨w2.heap.size, 3, none⟩) HB2.out.size _).drew⟩
      case measure => simp [intOf]
    · have HWr := Lib.hid hW
      have dd : wr.cell? ⟨w2.heap.size, 3, none⟩ = some (.int .i64 (t2 : Int)) := HWr.out.cellAt (i := 3) (by simp)
      have pp : wr.frozen? ⟨w2.heap.size, 3, none⟩ = false := HWr.out.frozenAt 3
      have xx : wr.cell? ⟨w.heap.size, 8, none⟩ = some (.int .u8 (x4 : Int)) := HFr.out.cellAt (i := 8) (by simp)
      clear hW
      go_wp2_with fail
      go_region
      go_wp2_with fail
      go_roundw
      case rel => exact ⟨.inr (.inr (.inr (.inl ⟨rfl, HWr.out.put1 (i := 3) (by simp) _⟩))), HFr.out.puts HN.out.1 3 _, HZr.out.puts HN.out.2 3 _, (HBr.out.setCell (p := ⟨w2.heap.size, 3, none⟩) HB2.out.size _).drew⟩
      case measure => simp [intOf]
    · have HWr := Lib.hid hW
      have dd : wr.cell? ⟨w2.heap.size, 3, none⟩ = some (.int .i64 (t3 : Int)) := HWr.out.cellAt (i := 3) (by simp)
      have pp : wr.frozen? ⟨w2.heap.size, 3, none⟩ = false := HWr.out.frozenAt 3
      have xx : wr.cell? ⟨w.heap.size, 9, none⟩ = some (.int .u8 (x5 : Int)) := HFr.out.cellAt (i := 9) (by simp)
      clear hW
      go_wp2_with fail
      go_region
      go_wp2_with fail
      go_roundw
      case rel => exact ⟨.inr (.inr (.inr (.inr (.inl ⟨rfl, HWr.out.put1 (i := 3) (by simp) _⟩)))), HFr.out.puts HN.out.1 3 _, HZr.out.puts HN.out.2 3 _, (HBr.out.setCell (p := ⟨w2.heap.size, 3, none⟩) HB2.out.size _).drew⟩
      case measure => simp [intOf]
    · have HWr := Lib.hid hW
      have dd : wr.cell? ⟨w2.heap.size, 3, none⟩ = some (.int .i64 (t4 : Int)) := HWr.out.cellAt (i := 3) (by simp)
      have pp : wr.frozen? ⟨w2.heap.size, 3, none⟩ = false := HWr.out.frozenAt 3
      have xx : wr.cell? ⟨w.heap.size, 10, none⟩ = some (.int .u8 (x6 : Int)) := HFr.out.cellAt (i := 10) (by simp)
      clear hW
      go_wp2_with fail
      go_region
      go_wp2_with fail
      go_roundw
      case rel => exact ⟨.inr (.inr (.inr (.inr (.inr (.inl ⟨rfl, HWr.out.put1 (i := 3) (by simp) _⟩))))), HFr.out.puts HN.out.1 3 _, HZr.out.puts HN.out.2 3 _, (HBr.out.setCell (p := ⟨w2.heap.size, 3, none⟩) HB2.out.size _).drew⟩
      case measure => simp [intOf]
    · have HWr := Lib.hid hW
      have dd : wr.cell? ⟨w2.heap.size, 3, none⟩ = some (.int .i64 (t5 : Int)) := HWr.out.cellAt (i := 3) (by simp)
      have pp : wr.frozen? ⟨w2.heap.size, 3, none⟩ = false := HWr.out.frozenAt 3
      have xx : wr.cell? ⟨w.heap.size, 11, none⟩ = some (.int .u8 (x7 : Int)) := HFr.out.cellAt (i := 11) (by simp)
      clear hW
      go_wp2_with fail
      go_region
      go_wp2_with fail
      go_roundw
      case rel => exact ⟨.inr (.inr (.inr (.inr (.inr (.inr (⟨rfl, HWr.out.put1 (i := 3) (by simp) _⟩)))))), HFr.out.puts HN.out.1 3 _, HZr.out.puts HN.out.2 3 _, (HBr.out.setCell (p := ⟨w2.heap.size, 3, none⟩) HB2.out.size _).drew⟩
      case measure => simp [intOf]
    · have HWr := Lib.hid hW
      have r0 : wr.cell? ⟨w2.heap.size, 0, none⟩ = some (.bool true) := HWr.out.cellAt (i := 0) (by simp)
      have r1 : wr.cell? ⟨w2.heap.size, 1, none⟩ = some (.int .i64 (k : Int)) := HWr.out.cellAt (i := 1) (by simp)
      have r2 : wr.cell? ⟨w2.heap.size, 2, none⟩ = some (.int .i64 (R : Int)) := HWr.out.cellAt (i := 2) (by simp)
      have r3 : wr.cell? ⟨w2.heap.size, 3, none⟩ = some (.int .i64 (t6 : Int)) := HWr.out.cellAt (i := 3) (by simp)
      have q0 : wr.cell? ⟨w.heap.size, 0, none⟩ = some (.bool false) := HFr.out.cellAt (i := 0) (by simp)
      have q1 : wr.cell? ⟨w.heap.size, 1, none⟩ = some (.int .u32 (n : Int)) := HFr.out.cellAt (i := 1) (by simp)
      have q2 : wr.cell? ⟨w.heap.size, 2, none⟩ = some (.bool false) := HFr.out.cellAt (i := 2) (by simp)
      have q3 : wr.cell? ⟨w.heap.size, 3, none⟩ = some (.int .i64 l) := HFr.out.cellAt (i := 3) (by simp)
      have q4 : wr.cell? ⟨w.heap.size, 4, none⟩ = some (.int .u8 (x0 : Int)) := HFr.out.cellAt (i := 4) (by simp)
      have q5 : wr.cell? ⟨w.heap.size, 5, none⟩ = some (.int .u8 (x1 : Int)) := HFr.out.cellAt (i := 5) (by simp)
      have q6 : wr.cell? ⟨w.heap.size, 6, none⟩ = some (.int .u8 (x2 : Int)) := HFr.out.cellAt (i := 6) (by simp)
      have q7 : wr.cell? ⟨w.heap.size, 7, none⟩ = some (.int .u8 (x3 : Int)) := HFr.out.cellAt (i := 7) (by simp)
      have q8 : wr.cell? ⟨w.heap.size, 8, none⟩ = some (.int .u8 (x4 : Int)) := HFr.out.cellAt (i := 8) (by simp)
      have q9 : wr.cell? ⟨w.heap.size, 9, none⟩ = some (.int .u8 (x5 : Int)) := HFr.out.cellAt (i := 9) (by simp)
      have q10 : wr.cell? ⟨w.heap.size, 10, none⟩ = some (.int .u8 (x6 : Int)) := HFr.out.cellAt (i := 10) (by simp)
      have q11 : wr.cell? ⟨w.heap.size, 11, none⟩ = some (.int .u8 (x7 : Int)) := HFr.out.cellAt (i := 11) (by simp)
      clear hW
      have d0 : wr.cell? ⟨w.heap.size + 1, 0, none⟩ = some (.bool false) := HZr.out.cellAt (i := 0) (by simp)
      have d1 : wr.cell? ⟨w.heap.size + 1, 1, none⟩ = some (.int .i64 0) := HZr.out.cellAt (i := 1) (by simp)
      have d2 : wr.cell? ⟨w.heap.size + 1, 2, none⟩ = some (.int .i64 0) := HZr.out.cellAt (i := 2) (by simp)
      have d3 : wr.cell? ⟨w.heap.size + 1, 3, none⟩ = some (.int .i64 0) := HZr.out.cellAt (i := 3) (by simp)
      have p0 : wr.frozen? ⟨w.heap.size + 1, 0, none⟩ = false := HZr.out.frozenAt 0
      have p1 : wr.frozen? ⟨w.heap.size + 1, 1, none⟩ = false := HZr.out.frozenAt 1
      have p2 : wr.frozen? ⟨w.heap.size + 1, 2, none⟩ = false := HZr.out.frozenAt 2
      have p3 : wr.frozen? ⟨w.heap.size + 1, 3, none⟩ = false := HZr.out.frozenAt 3
      go_wp2_with fail
      obtain ⟨W, hWW⟩ : ∃ W, W = ((((wr.setCell ⟨w.heap.size + 1, 0, none⟩ (.bool false)).setCell ⟨w.heap.size + 1, 1, none⟩ (.int .i64 0)).setCell ⟨w.heap.size + 1, 2, none⟩ (.int .i64 0)).setCell ⟨w.heap.size + 1, 3, none⟩ (.int .i64 0)) := ⟨_, rfl⟩
      rw [← hWW]
      have hRS : Blk W (w.heap.size + 1) 71 [.bool false, .int .i64 0, .int .i64 0, .int .i64 0] := by rw [hWW]; exact (HZr.out).set [.bool false, .int .i64 0, .int .i64 0, .int .i64 0] rfl
      have hb := (show Below w.heap.size w W by rw [hWW]; exact Go.below_setCells (by first | omega | simp) [.bool false, .int .i64 0, .int .i64 0, .int .i64 0] 0 _ HBr.out)
      clear hWW
      have z0 : W.cell? ⟨w.heap.size + 1, 0, none⟩ = some (.bool false) := hRS.cellAt (i := 0) (by simp)
      have z1 : W.cell? ⟨w.heap.size + 1, 1, none⟩ = some (.int .i64 0) := hRS.cellAt (i := 1) (by simp)
      have z2 : W.cell? ⟨w.heap.size + 1, 2, none⟩ = some (.int .i64 0) := hRS.cellAt (i := 2) (by simp)
      have z3 : W.cell? ⟨w.heap.size + 1, 3, none⟩ = some (.int .i64 0) := hRS.cellAt (i := 3) (by simp)
      exact bodyPost_ret (v := .tuple #[.agg #[.bool false, .int .i64 0, .int .i64 0, .int .i64 0], .bool false]) (by simp [results, Try.results40, go_sem, z0, z1, z2, z3]) rfl ⟨rfl, hb⟩
end Go.Proofs.Ytmlnobiakfapcaa
