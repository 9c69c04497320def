/- The document's own frame of a word. Conditions: each theorem says its own. -/
import Derived.Test.YtmlnobiakfapcaaSlq
namespace Go.Proofs.Ytmlnobiakfapcaa
open Go.RowKit
theorem tdivK (a b : Nat) (h : b = a / 256) : (a : Int).tdiv 256 = (b : Int) := by rw [Int.tdiv_eq_ediv_of_nonneg (by omega)]; omega
theorem tmodK (a b : Nat) (h : b = a % 256) : (a : Int).tmod 256 = (b : Int) := by rw [Int.tmod_eq_emod_of_nonneg (by omega)]; omega
theorem u32K (r : Nat) (h : r < 4294967296) : IntKind.u32.wrap (r : Int) = (r : Int) := by rw [IntKind.wrap_u32]; omega
theorem u32P (r m : Nat) (h : r < 4294967000) (hm : m = r + 32) : IntKind.u32.wrap ((r : Int) + 32) = (m : Int) := by rw [IntKind.wrap_u32, hm]; omega
theorem modK (b : Nat) (h : b < 256) : (b : Int) % 256 = (b : Int) := by omega
theorem w64K (b : Nat) (h : b < 9223372036854775808) : wrap64 (b : Int) = (b : Int) := w64_in _ (by omega)
theorem rslframe_no (f : Bool) (r n t : Int) (h : rightW f r n t = false) (w : World) : Calls Try.prog 37 #[.agg #[.bool f, .int .i64 r, .int .i64 n, .int .i64 t]] w fun y w' => y = .returned (.tuple #[.agg #[.bool false, .int .u32 0, .bool false, .int .i64 0, .int .u8 0, .int .u8 0, .int .u8 0, .int .u8 0, .int .u8 0, .int .u8 0, .int .u8 0, .int .u8 0], .int .i64 1]) ∧ Below w.heap.size w w' := by
  have HR := Lib.hid (fun u => rslright_any f r n t u)
  rw [h] at HR
  clear h
  go_enter Try.func37, Try.ntmps37
  go_wp2_with fail
  refine (HR.out _).mono ?_
  rintro y w1 ⟨rfl, hb⟩
  have HB := Lib.hid (below_two hb)
  have hZ : Blk w1 (w.heap.size + 1) 67 [.bool false, .int .u32 0, .bool false, .int .i64 0, .int .u8 0, .int .u8 0, .int .u8 0, .int .u8 0, .int .u8 0, .int .u8 0, .int .u8 0, .int .u8 0] := (blk_two w _ 67 [.bool false, .int .u32 0, .bool false, .int .i64 0, .int .u8 0, .int .u8 0, .int .u8 0, .int .u8 0, .int .u8 0, .int .u8 0, .int .u8 0, .int .u8 0]).keep hb (by simp)
  have HZ := Lib.hid hZ
  have d0 : w1.cell? ⟨w.heap.size + 1, 0, none⟩ = some (.bool false) := hZ.cellAt (i := 0) (by simp)
  have d1 : w1.cell? ⟨w.heap.size + 1, 1, none⟩ = some (.int .u32 0) := hZ.cellAt (i := 1) (by simp)
  have d2 : w1.cell? ⟨w.heap.size + 1, 2, none⟩ = some (.bool false) := hZ.cellAt (i := 2) (by simp)
  have d3 : w1.cell? ⟨w.heap.size + 1, 3, none⟩ = some (.int .i64 0) := hZ.cellAt (i := 3) (by simp)
  have d4 : w1.cell? ⟨w.heap.size + 1, 4, none⟩ = some (.int .u8 0) := hZ.cellAt (i := 4) (by simp)
  have d5 : w1.cell? ⟨w.heap.size + 1, 5, none⟩ = some (.int .u8 0) := hZ.cellAt (i := 5) (by simp)
  have d6 : w1.cell? ⟨w.heap.size + 1, 6, none⟩ = some (.int .u8 0) := hZ.cellAt (i := 6) (by simp)
  have d7 : w1.cell? ⟨w.heap.size + 1, 7, none⟩ = some (.int .u8 0) := hZ.cellAt (i := 7) (by simp)
  have d8 : w1.cell? ⟨w.heap.size + 1, 8, none⟩ = some (.int .u8 0) := hZ.cellAt (i := 8) (by simp)
  have d9 : w1.cell? ⟨w.heap.size + 1, 9, none⟩ = some (.int .u8 0) := hZ.cellAt (i := 9) (by simp)
  have d10 : w1.cell? ⟨w.heap.size + 1, 10, none⟩ = some (.int .u8 0) := hZ.cellAt (i := 10) (by simp)
  have d11 : w1.cell? ⟨w.heap.size + 1, 11, none⟩ = some (.int .u8 0) := hZ.cellAt (i := 11) (by simp)
  have p0 : w1.frozen? ⟨w.heap.size + 1, 0, none⟩ = false := hZ.frozenAt 0
  have p1 : w1.frozen? ⟨w.heap.size + 1, 1, none⟩ = false := hZ.frozenAt 1
  have p2 : w1.frozen? ⟨w.heap.size + 1, 2, none⟩ = false := hZ.frozenAt 2
  have p3 : w1.frozen? ⟨w.heap.size + 1, 3, none⟩ = false := hZ.frozenAt 3
  have p4 : w1.frozen? ⟨w.heap.size + 1, 4, none⟩ = false := hZ.frozenAt 4
  have p5 : w1.frozen? ⟨w.heap.size + 1, 5, none⟩ = false := hZ.frozenAt 5
  have p6 : w1.frozen? ⟨w.heap.size + 1, 6, none⟩ = false := hZ.frozenAt 6
  have p7 : w1.frozen? ⟨w.heap.size + 1, 7, none⟩ = false := hZ.frozenAt 7
  have p8 : w1.frozen? ⟨w.heap.size + 1, 8, none⟩ = false := hZ.frozenAt 8
  have p9 : w1.frozen? ⟨w.heap.size + 1, 9, none⟩ = false := hZ.frozenAt 9
  have p10 : w1.frozen? ⟨w.heap.size + 1, 10, none⟩ = false := hZ.frozenAt 10
  have p11 : w1.frozen? ⟨w.heap.size + 1, 11, none⟩ = false := hZ.frozenAt 11
  clear hb hZ
  go_wp2_with fail
  obtain ⟨W, hWW⟩ : ∃ W, W = ((((((((((((w1.setCell ⟨w.heap.size + 1, 0, none⟩ (.bool false)).setCell ⟨w.heap.size + 1, 1, none⟩ (.int .u32 0)).setCell ⟨w.heap.size + 1, 2, none⟩ (.bool false)).setCell ⟨w.heap.size + 1, 3, none⟩ (.int .i64 0)).setCell ⟨w.heap.size + 1, 4, none⟩ (.int .u8 0)).setCell ⟨w.heap.size + 1, 5, none⟩ (.int .u8 0)).setCell ⟨w.heap.size + 1, 6, none⟩ (.int .u8 0)).setCell ⟨w.heap.size + 1, 7, none⟩ (.int .u8 0)).setCell ⟨w.heap.size + 1, 8, none⟩ (.int .u8 0)).setCell ⟨w.heap.size + 1, 9, none⟩ (.int .u8 0)).setCell ⟨w.heap.size + 1, 10, none⟩ (.int .u8 0)).setCell ⟨w.heap.size + 1, 11, none⟩ (.int .u8 0)) := ⟨_, rfl⟩
  rw [← hWW]
  have hRS : Blk W (w.heap.size + 1) 67 [.bool false, .int .u32 0, .bool false, .int .i64 0, .int .u8 0, .int .u8 0, .int .u8 0, .int .u8 0, .int .u8 0, .int .u8 0, .int .u8 0, .int .u8 0] := by rw [hWW]; exact (HZ.out).set [.bool false, .int .u32 0, .bool false, .int .i64 0, .int .u8 0, .int .u8 0, .int .u8 0, .int .u8 0, .int .u8 0, .int .u8 0, .int .u8 0, .int .u8 0] rfl
  have hb := (show Below w.heap.size w W by rw [hWW]; exact Go.below_setCells (by first | omega | simp) [.bool false, .int .u32 0, .bool false, .int .i64 0, .int .u8 0, .int .u8 0, .int .u8 0, .int .u8 0, .int .u8 0, .int .u8 0, .int .u8 0, .int .u8 0] 0 _ HB.out)
  clear hWW
  have z0 : W.cell? ⟨w.heap.size + 1, 0, none⟩ = some (.bool false) := hRS.cellAt (i := 0) (by simp)
  have z1 : W.cell? ⟨w.heap.size + 1, 1, none⟩ = some (.int .u32 0) := hRS.cellAt (i := 1) (by simp)
  have z2 : W.cell? ⟨w.heap.size + 1, 2, none⟩ = some (.bool false) := hRS.cellAt (i := 2) (by simp)
  have z3 : W.cell? ⟨w.heap.size + 1, 3, none⟩ = some (.int .i64 0) := hRS.cellAt (i := 3) (by simp)
  have z4 : W.cell? ⟨w.heap.size + 1, 4, none⟩ = some (.int .u8 0) := hRS.cellAt (i := 4) (by simp)
  have z5 : W.cell? ⟨w.heap.size + 1, 5, none⟩ = some (.int .u8 0) := hRS.cellAt (i := 5) (by simp)
  have z6 : W.cell? ⟨w.heap.size + 1, 6, none⟩ = some (.int .u8 0) := hRS.cellAt (i := 6) (by simp)
  have z7 : W.cell? ⟨w.heap.size + 1, 7, none⟩ = some (.int .u8 0) := hRS.cellAt (i := 7) (by simp)
  have z8 : W.cell? ⟨w.heap.size + 1, 8, none⟩ = some (.int .u8 0) := hRS.cellAt (i := 8) (by simp)
  have z9 : W.cell? ⟨w.heap.size + 1, 9, none⟩ = some (.int .u8 0) := hRS.cellAt (i := 9) (by simp)
  have z10 : W.cell? ⟨w.heap.size + 1, 10, none⟩ = some (.int .u8 0) := hRS.cellAt (i := 10) (by simp)
  have z11 : W.cell? ⟨w.heap.size + 1, 11, none⟩ = some (.int .u8 0) := hRS.cellAt (i := 11) (by simp)
  exact bodyPost_ret (v := .tuple #[.agg #[.bool false, .int .u32 0, .bool false, .int .i64 0, .int .u8 0, .int .u8 0, .int .u8 0, .int .u8 0, .int .u8 0, .int .u8 0, .int .u8 0, .int .u8 0], .int .i64 1]) (by simp [results, Try.results37, go_sem, z0, z1, z2, z3, z4, z5, z6, z7, z8, z9, z10, z11]) rfl ⟨rfl, hb⟩
set_option maxRecDepth 100000 in
set_option maxHeartbeats 4000000 in
theorem rslframe_turn (r n : Nat) (hr : r < 32) (hn : n < 65536) (w : World) : Calls Try.prog 37 #[.agg #[.bool false, .int .i64 (r : Int), .int .i64 (n : Int), .int .i64 0]] w fun y w' => y = .returned (.tuple #[.agg #[.bool false, .int .u32 (r : Int), .bool false, .int .i64 2, .int .u8 ((n / 256 % 256 : Nat) : Int), .int .u8 ((n % 256 : Nat) : Int), .int .u8 0, .int .u8 0, .int .u8 0, .int .u8 0, .int .u8 0, .int .u8 0], .int .i64 0]) ∧ Below w.heap.size w w' := by
  have HR := Lib.hid (fun u => rslright_any false r n 0 u)
  rw [rightW_yes (by simp; omega)] at HR
  obtain ⟨p, hp⟩ : ∃ p, p = n / 256 % 256 := ⟨_, rfl⟩
  obtain ⟨q, hq⟩ : ∃ q, q = n % 256 := ⟨_, rfl⟩
  rw [← hp, ← hq]
  have z1 : r < 4294967000 := by omega
  have z2 : p = n / 256 := by omega
  have z3 : p < 256 := by omega
  have z4 : q < 256 := by omega
  have e1 := u32K r (Nat.lt_of_lt_of_le z1 (by decide))
  have e2 := tdivK n p z2
  have e3 := tmodK n q hq
  have e4 := w64K p (Nat.lt_of_lt_of_le z3 (by decide))
  have e5 := modK p z3
  have e7 := modK q z4
  clear hp hq hr hn z1 z2 z3 z4
  go_enter Try.func37, Try.ntmps37
  go_wp2_with fail
  refine (HR.out _).mono ?_
  rintro y w1 ⟨rfl, hb⟩
  have HB := Lib.hid (below_two hb)
  have hZ : Blk w1 (w.heap.size + 1) 67 [.bool false, .int .u32 0, .bool false, .int .i64 0, .int .u8 0, .int .u8 0, .int .u8 0, .int .u8 0, .int .u8 0, .int .u8 0, .int .u8 0, .int .u8 0] := (blk_two w _ 67 [.bool false, .int .u32 0, .bool false, .int .i64 0, .int .u8 0, .int .u8 0, .int .u8 0, .int .u8 0, .int .u8 0, .int .u8 0, .int .u8 0, .int .u8 0]).keep hb (by simp)
  have hS : Blk w1 w.heap.size 71 [.bool false, .int .i64 (r : Int), .int .i64 (n : Int), .int .i64 0] := ((Blk.new w 71 [.bool false, .int .i64 (r : Int), .int .i64 (n : Int), .int .i64 0]).keep ((Below.refl _ _).alloc (Nat.le_refl _) _) (by simp)).keep hb (by simp only [World.size_alloc]; omega)
  have HZ := Lib.hid hZ; have HS := Lib.hid hS
  have q0 : w1.cell? ⟨w.heap.size, 0, none⟩ = some (.bool false) := hS.cellAt (i := 0) (by simp)
  have q1 : w1.cell? ⟨w.heap.size, 1, none⟩ = some (.int .i64 (r : Int)) := hS.cellAt (i := 1) (by simp)
  have q2 : w1.cell? ⟨w.heap.size, 2, none⟩ = some (.int .i64 (n : Int)) := hS.cellAt (i := 2) (by simp)
  have q3 : w1.cell? ⟨w.heap.size, 3, none⟩ = some (.int .i64 0) := hS.cellAt (i := 3) (by simp)
  clear hb hZ hS
  go_upto_region 4 with fail
  obtain ⟨w2, hw2⟩ : ∃ w2, w2 = w1.alloc (.cells #[.bool false, .int .u32 (r : Int), .bool false, .int .i64 2, .int .u8 0, .int .u8 0, .int .u8 0, .int .u8 0, .int .u8 0, .int .u8 0, .int .u8 0, .int .u8 0] 67) := ⟨_, rfl⟩
  rw [← hw2]
  have HF2 := Lib.hid (show Blk w2 w1.heap.size 67 [.bool false, .int .u32 (r : Int), .bool false, .int .i64 2, .int .u8 0, .int .u8 0, .int .u8 0, .int .u8 0, .int .u8 0, .int .u8 0, .int .u8 0, .int .u8 0] by rw [hw2]; exact Blk.new w1 67 [.bool false, .int .u32 (r : Int), .bool false, .int .i64 2, .int .u8 0, .int .u8 0, .int .u8 0, .int .u8 0, .int .u8 0, .int .u8 0, .int .u8 0, .int .u8 0])
  have hb2 : Below w1.heap.size w1 w2 := by rw [hw2]; exact (Below.refl _ _).alloc (Nat.le_refl _) _
  have HB2 := Lib.hid (below_transG HB.out hb2); have HZ2 := Lib.hid (HZ.out.keep hb2 HZ.out.lt); have HS2 := Lib.hid (HS.out.keep hb2 HS.out.lt)
  have HN := Lib.hid (show w1.heap.size ≠ w.heap.size ∧ w1.heap.size ≠ w.heap.size + 1 by have := HZ.out.lt; omega)
  clear hw2 hb2 q0 q1 q2 q3
  have q0 : w2.cell? ⟨w.heap.size, 0, none⟩ = some (.bool false) := HS2.out.cellAt (i := 0) (by simp)
  have q1 : w2.cell? ⟨w.heap.size, 1, none⟩ = some (.int .i64 (r : Int)) := HS2.out.cellAt (i := 1) (by simp)
  have q2 : w2.cell? ⟨w.heap.size, 2, none⟩ = some (.int .i64 (n : Int)) := HS2.out.cellAt (i := 2) (by simp)
  have q3 : w2.cell? ⟨w.heap.size, 3, none⟩ = some (.int .i64 0) := HS2.out.cellAt (i := 3) (by simp)
  have d0 : w2.cell? ⟨w1.heap.size, 0, none⟩ = some (.bool false) := HF2.out.cellAt (i := 0) (by simp)
  have d1 : w2.cell? ⟨w1.heap.size, 1, none⟩ = some (.int .u32 (r : Int)) := HF2.out.cellAt (i := 1) (by simp)
  have d2 : w2.cell? ⟨w1.heap.size, 2, none⟩ = some (.bool false) := HF2.out.cellAt (i := 2) (by simp)
  have d3 : w2.cell? ⟨w1.heap.size, 3, none⟩ = some (.int .i64 2) := HF2.out.cellAt (i := 3) (by simp)
  have d4 : w2.cell? ⟨w1.heap.size, 4, none⟩ = some (.int .u8 0) := HF2.out.cellAt (i := 4) (by simp)
  have d5 : w2.cell? ⟨w1.heap.size, 5, none⟩ = some (.int .u8 0) := HF2.out.cellAt (i := 5) (by simp)
  have d6 : w2.cell? ⟨w1.heap.size, 6, none⟩ = some (.int .u8 0) := HF2.out.cellAt (i := 6) (by simp)
  have d7 : w2.cell? ⟨w1.heap.size, 7, none⟩ = some (.int .u8 0) := HF2.out.cellAt (i := 7) (by simp)
  have d8 : w2.cell? ⟨w1.heap.size, 8, none⟩ = some (.int .u8 0) := HF2.out.cellAt (i := 8) (by simp)
  have d9 : w2.cell? ⟨w1.heap.size, 9, none⟩ = some (.int .u8 0) := HF2.out.cellAt (i := 9) (by simp)
  have d10 : w2.cell? ⟨w1.heap.size, 10, none⟩ = some (.int .u8 0) := HF2.out.cellAt (i := 10) (by simp)
  have d11 : w2.cell? ⟨w1.heap.size, 11, none⟩ = some (.int .u8 0) := HF2.out.cellAt (i := 11) (by simp)
  have p0 : w2.frozen? ⟨w1.heap.size, 0, none⟩ = false := HF2.out.frozenAt 0
  have p1 : w2.frozen? ⟨w1.heap.size, 1, none⟩ = false := HF2.out.frozenAt 1
  have p2 : w2.frozen? ⟨w1.heap.size, 2, none⟩ = false := HF2.out.frozenAt 2
  have p3 : w2.frozen? ⟨w1.heap.size, 3, none⟩ = false := HF2.out.frozenAt 3
  have p4 : w2.frozen? ⟨w1.heap.size, 4, none⟩ = false := HF2.out.frozenAt 4
  have p5 : w2.frozen? ⟨w1.heap.size, 5, none⟩ = false := HF2.out.frozenAt 5
  have p6 : w2.frozen? ⟨w1.heap.size, 6, none⟩ = false := HF2.out.frozenAt 6
  have p7 : w2.frozen? ⟨w1.heap.size, 7, none⟩ = false := HF2.out.frozenAt 7
  have p8 : w2.frozen? ⟨w1.heap.size, 8, none⟩ = false := HF2.out.frozenAt 8
  have p9 : w2.frozen? ⟨w1.heap.size, 9, none⟩ = false := HF2.out.frozenAt 9
  have p10 : w2.frozen? ⟨w1.heap.size, 10, none⟩ = false := HF2.out.frozenAt 10
  have p11 : w2.frozen? ⟨w1.heap.size, 11, none⟩ = false := HF2.out.frozenAt 11
  go_upto_region 6 with fail
  obtain ⟨w3, hw3⟩ : ∃ w3, w3 = (w2.setCell ⟨w1.heap.size, 4, none⟩ (.int .u8 (p : Int))).setCell ⟨w1.heap.size, 5, none⟩ (.int .u8 (q : Int)) := ⟨_, rfl⟩
  rw [← hw3]
  have HF3 := Lib.hid (show Blk w3 w1.heap.size 67 [.bool false, .int .u32 (r : Int), .bool false, .int .i64 2, .int .u8 (p : Int), .int .u8 (q : Int), .int .u8 0, .int .u8 0, .int .u8 0, .int .u8 0, .int .u8 0, .int .u8 0] by rw [hw3]; exact (HF2.out.put1 (i := 4) (by simp) _).put1 (i := 5) (by simp) _)
  have HZ3 := Lib.hid (show Blk w3 (w.heap.size + 1) 67 [.bool false, .int .u32 0, .bool false, .int .i64 0, .int .u8 0, .int .u8 0, .int .u8 0, .int .u8 0, .int .u8 0, .int .u8 0, .int .u8 0, .int .u8 0] by rw [hw3]; exact (HZ2.out.puts HN.out.2 4 _).puts HN.out.2 5 _)
  have HS3 := Lib.hid (show Blk w3 w.heap.size 71 [.bool false, .int .i64 (r : Int), .int .i64 (n : Int), .int .i64 0] by rw [hw3]; exact (HS2.out.puts HN.out.1 4 _).puts HN.out.1 5 _)
  have HB3 := Lib.hid (show Below w.heap.size w w3 by rw [hw3]; exact (HB2.out.setCell (p := ⟨w1.heap.size, 4, none⟩) HB.out.size _).setCell (p := ⟨w1.heap.size, 5, none⟩) HB.out.size _)
  clear hw3 d0 d1 d2 d3 d4 d5 d6 d7 d8 d9 d10 d11 p0 p1 p2 p3 p4 p5 p6 p7 p8 p9 p10 p11 q0 q1 q2 q3
  have q0 : w3.cell? ⟨w.heap.size, 0, none⟩ = some (.bool false) := HS3.out.cellAt (i := 0) (by simp)
  have q1 : w3.cell? ⟨w.heap.size, 1, none⟩ = some (.int .i64 (r : Int)) := HS3.out.cellAt (i := 1) (by simp)
  have q2 : w3.cell? ⟨w.heap.size, 2, none⟩ = some (.int .i64 (n : Int)) := HS3.out.cellAt (i := 2) (by simp)
  have q3 : w3.cell? ⟨w.heap.size, 3, none⟩ = some (.int .i64 0) := HS3.out.cellAt (i := 3) (by simp)
  go_upto_region 15 with fail
  have f0 : w3.cell? ⟨w1.heap.size, 0, none⟩ = some (.bool false) := HF3.out.cellAt (i := 0) (by simp)
  have f1 : w3.cell? ⟨w1.heap.size, 1, none⟩ = some (.int .u32 (r : Int)) := HF3.out.cellAt (i := 1) (by simp)
  have f2 : w3.cell? ⟨w1.heap.size, 2, none⟩ = some (.bool false) := HF3.out.cellAt (i := 2) (by simp)
  have f3 : w3.cell? ⟨w1.heap.size, 3, none⟩ = some (.int .i64 2) := HF3.out.cellAt (i := 3) (by simp)
  have f4 : w3.cell? ⟨w1.heap.size, 4, none⟩ = some (.int .u8 (p : Int)) := HF3.out.cellAt (i := 4) (by simp)
  have f5 : w3.cell? ⟨w1.heap.size, 5, none⟩ = some (.int .u8 (q : Int)) := HF3.out.cellAt (i := 5) (by simp)
  have f6 : w3.cell? ⟨w1.heap.size, 6, none⟩ = some (.int .u8 0) := HF3.out.cellAt (i := 6) (by simp)
  have f7 : w3.cell? ⟨w1.heap.size, 7, none⟩ = some (.int .u8 0) := HF3.out.cellAt (i := 7) (by simp)
  have f8 : w3.cell? ⟨w1.heap.size, 8, none⟩ = some (.int .u8 0) := HF3.out.cellAt (i := 8) (by simp)
  have f9 : w3.cell? ⟨w1.heap.size, 9, none⟩ = some (.int .u8 0) := HF3.out.cellAt (i := 9) (by simp)
  have f10 : w3.cell? ⟨w1.heap.size, 10, none⟩ = some (.int .u8 0) := HF3.out.cellAt (i := 10) (by simp)
  have f11 : w3.cell? ⟨w1.heap.size, 11, none⟩ = some (.int .u8 0) := HF3.out.cellAt (i := 11) (by simp)
  have d0 : w3.cell? ⟨w.heap.size + 1, 0, none⟩ = some (.bool false) := HZ3.out.cellAt (i := 0) (by simp)
  have d1 : w3.cell? ⟨w.heap.size + 1, 1, none⟩ = some (.int .u32 0) := HZ3.out.cellAt (i := 1) (by simp)
  have d2 : w3.cell? ⟨w.heap.size + 1, 2, none⟩ = some (.bool false) := HZ3.out.cellAt (i := 2) (by simp)
  have d3 : w3.cell? ⟨w.heap.size + 1, 3, none⟩ = some (.int .i64 0) := HZ3.out.cellAt (i := 3) (by simp)
  have d4 : w3.cell? ⟨w.heap.size + 1, 4, none⟩ = some (.int .u8 0) := HZ3.out.cellAt (i := 4) (by simp)
  have d5 : w3.cell? ⟨w.heap.size + 1, 5, none⟩ = some (.int .u8 0) := HZ3.out.cellAt (i := 5) (by simp)
  have d6 : w3.cell? ⟨w.heap.size + 1, 6, none⟩ = some (.int .u8 0) := HZ3.out.cellAt (i := 6) (by simp)
  have d7 : w3.cell? ⟨w.heap.size + 1, 7, none⟩ = some (.int .u8 0) := HZ3.out.cellAt (i := 7) (by simp)
  have d8 : w3.cell? ⟨w.heap.size + 1, 8, none⟩ = some (.int .u8 0) := HZ3.out.cellAt (i := 8) (by simp)
  have d9 : w3.cell? ⟨w.heap.size + 1, 9, none⟩ = some (.int .u8 0) := HZ3.out.cellAt (i := 9) (by simp)
  have d10 : w3.cell? ⟨w.heap.size + 1, 10, none⟩ = some (.int .u8 0) := HZ3.out.cellAt (i := 10) (by simp)
  have d11 : w3.cell? ⟨w.heap.size + 1, 11, none⟩ = some (.int .u8 0) := HZ3.out.cellAt (i := 11) (by simp)
  have p0 : w3.frozen? ⟨w.heap.size + 1, 0, none⟩ = false := HZ3.out.frozenAt 0
  have p1 : w3.frozen? ⟨w.heap.size + 1, 1, none⟩ = false := HZ3.out.frozenAt 1
  have p2 : w3.frozen? ⟨w.heap.size + 1, 2, none⟩ = false := HZ3.out.frozenAt 2
  have p3 : w3.frozen? ⟨w.heap.size + 1, 3, none⟩ = false := HZ3.out.frozenAt 3
  have p4 : w3.frozen? ⟨w.heap.size + 1, 4, none⟩ = false := HZ3.out.frozenAt 4
  have p5 : w3.frozen? ⟨w.heap.size + 1, 5, none⟩ = false := HZ3.out.frozenAt 5
  have p6 : w3.frozen? ⟨w.heap.size + 1, 6, none⟩ = false := HZ3.out.frozenAt 6
  have p7 : w3.frozen? ⟨w.heap.size + 1, 7, none⟩ = false := HZ3.out.frozenAt 7
  have p8 : w3.frozen? ⟨w.heap.size + 1, 8, none⟩ = false := HZ3.out.frozenAt 8
  have p9 : w3.frozen? ⟨w.heap.size + 1, 9, none⟩ = false := HZ3.out.frozenAt 9
  have p10 : w3.frozen? ⟨w.heap.size + 1, 10, none⟩ = false := HZ3.out.frozenAt 10
  have p11 : w3.frozen? ⟨w.heap.size + 1, 11, none⟩ = false := HZ3.out.frozenAt 11
  go_wp2_with fail
  obtain ⟨W, hWW⟩ : ∃ W, W = ((((((((((((w3.setCell ⟨w.heap.size + 1, 0, none⟩ (.bool false)).setCell ⟨w.heap.size + 1, 1, none⟩ (.int .u32 (r : Int))).setCell ⟨w.heap.size + 1, 2, none⟩ (.bool false)).setCell ⟨w.heap.size + 1, 3, none⟩ (.int .i64 2)).setCell ⟨w.heap.size + 1, 4, none⟩ (.int .u8 (p : Int))).setCell ⟨w.heap.size + 1, 5, none⟩ (.int .u8 (q : Int))).setCell ⟨w.heap.size + 1, 6, none⟩ (.int .u8 0)).setCell ⟨w.heap.size + 1, 7, none⟩ (.int .u8 0)).setCell ⟨w.heap.size + 1, 8, none⟩ (.int .u8 0)).setCell ⟨w.heap.size + 1, 9, none⟩ (.int .u8 0)).setCell ⟨w.heap.size + 1, 10, none⟩ (.int .u8 0)).setCell ⟨w.heap.size + 1, 11, none⟩ (.int .u8 0)) := ⟨_, rfl⟩
  rw [← hWW]
  have hRS : Blk W (w.heap.size + 1) 67 [.bool false, .int .u32 (r : Int), .bool false, .int .i64 2, .int .u8 (p : Int), .int .u8 (q : Int), .int .u8 0, .int .u8 0, .int .u8 0, .int .u8 0, .int .u8 0, .int .u8 0] := by rw [hWW]; exact (HZ3.out).set [.bool false, .int .u32 (r : Int), .bool false, .int .i64 2, .int .u8 (p : Int), .int .u8 (q : Int), .int .u8 0, .int .u8 0, .int .u8 0, .int .u8 0, .int .u8 0, .int .u8 0] rfl
  have hb := (show Below w.heap.size w W by rw [hWW]; exact Go.below_setCells (by first | omega | simp) [.bool false, .int .u32 (r : Int), .bool false, .int .i64 2, .int .u8 (p : Int), .int .u8 (q : Int), .int .u8 0, .int .u8 0, .int .u8 0, .int .u8 0, .int .u8 0, .int .u8 0] 0 _ HB3.out)
  clear hWW
  have z0 : W.cell? ⟨w.heap.size + 1, 0, none⟩ = some (.bool false) := hRS.cellAt (i := 0) (by simp)
  have z1 : W.cell? ⟨w.heap.size + 1, 1, none⟩ = some (.int .u32 (r : Int)) := hRS.cellAt (i := 1) (by simp)
  have z2 : W.cell? ⟨w.heap.size + 1, 2, none⟩ = some (.bool false) := hRS.cellAt (i := 2) (by simp)
  have z3 : W.cell? ⟨w.heap.size + 1, 3, none⟩ = some (.int .i64 2) := hRS.cellAt (i := 3) (by simp)
  have z4 : W.cell? ⟨w.heap.size + 1, 4, none⟩ = some (.int .u8 (p : Int)) := hRS.cellAt (i := 4) (by simp)
  have z5 : W.cell? ⟨w.heap.size + 1, 5, none⟩ = some (.int .u8 (q : Int)) := hRS.cellAt (i := 5) (by simp)
  have z6 : W.cell? ⟨w.heap.size + 1, 6, none⟩ = some (.int .u8 0) := hRS.cellAt (i := 6) (by simp)
  have z7 : W.cell? ⟨w.heap.size + 1, 7, none⟩ = some (.int .u8 0) := hRS.cellAt (i := 7) (by simp)
  have z8 : W.cell? ⟨w.heap.size + 1, 8, none⟩ = some (.int .u8 0) := hRS.cellAt (i := 8) (by simp)
  have z9 : W.cell? ⟨w.heap.size + 1, 9, none⟩ = some (.int .u8 0) := hRS.cellAt (i := 9) (by simp)
  have z10 : W.cell? ⟨w.heap.size + 1, 10, none⟩ = some (.int .u8 0) := hRS.cellAt (i := 10) (by simp)
  have z11 : W.cell? ⟨w.heap.size + 1, 11, none⟩ = some (.int .u8 0) := hRS.cellAt (i := 11) (by simp)
  exact bodyPost_ret (v := .tuple #[.agg #[.bool false, .int .u32 (r : Int), .bool false, .int .i64 2, .int .u8 (p : Int), .int .u8 (q : Int), .int .u8 0, .int .u8 0, .int .u8 0, .int .u8 0, .int .u8 0, .int .u8 0], .int .i64 0]) (by simp [results, Try.results37, go_sem, z0, z1, z2, z3, z4, z5, z6, z7, z8, z9, z10, z11]) rfl ⟨rfl, hb⟩
set_option maxRecDepth 100000 in
set_option maxHeartbeats 4000000 in
theorem rslframe_follow (r n t : Nat) (hr : r < 32) (hn : n < 65536) (ht : t < 281474976710656) (w : World) : Calls Try.prog 37 #[.agg #[.bool true, .int .i64 (r : Int), .int .i64 (n : Int), .int .i64 (t : Int)]] w fun y w' => y = .returned (.tuple #[.agg #[.bool false, .int .u32 ((r + 32 : Nat) : Int), .bool false, .int .i64 8, .int .u8 ((n / 256 % 256 : Nat) : Int), .int .u8 ((n % 256 : Nat) : Int), .int .u8 ((t / 1099511627776 % 256 : Nat) : Int), .int .u8 ((t / 4294967296 % 256 : Nat) : Int), .int .u8 ((t / 16777216 % 256 : Nat) : Int), .int .u8 ((t / 65536 % 256 : Nat) : Int), .int .u8 ((t / 256 % 256 : Nat) : Int), .int .u8 ((t % 256 : Nat) : Int)], .int .i64 0]) ∧ Below w.heap.size w w' := by
  have HR := Lib.hid (fun u => rslright_any true r n (t : Int) u)
  rw [rightW_yes (by simp; omega)] at HR
  obtain ⟨p, hp⟩ : ∃ p, p = n / 256 % 256 := ⟨_, rfl⟩
  obtain ⟨q, hq⟩ : ∃ q, q = n % 256 := ⟨_, rfl⟩
  rw [← hp, ← hq]
  have z1 : r < 4294967000 := by omega
  have z2 : p = n / 256 := by omega
  have z3 : p < 256 := by omega
  have z4 : q < 256 := by omega
  have e1 := u32K r (Nat.lt_of_lt_of_le z1 (by decide))
  have e2 := tdivK n p z2
  have e3 := tmodK n q hq
  have e4 := w64K p (Nat.lt_of_lt_of_le z3 (by decide))
  have e5 := modK p z3
  have e7 := modK q z4
  obtain ⟨m, hm⟩ : ∃ m, m = r + 32 := ⟨_, rfl⟩
  have e6 := u32P r m z1 hm
  obtain ⟨t0, ht0⟩ : ∃ x, x = t := ⟨_, rfl⟩
  obtain ⟨t1, ht1⟩ : ∃ x, x = t0 / 256 := ⟨_, rfl⟩
  obtain ⟨t2, ht2⟩ : ∃ x, x = t1 / 256 := ⟨_, rfl⟩
  obtain ⟨t3, ht3⟩ : ∃ x, x = t2 / 256 := ⟨_, rfl⟩
  obtain ⟨t4, ht4⟩ : ∃ x, x = t3 / 256 := ⟨_, rfl⟩
  obtain ⟨t5, ht5⟩ : ∃ x, x = t4 / 256 := ⟨_, rfl⟩
  obtain ⟨t6, ht6⟩ : ∃ x, x = t5 / 256 := ⟨_, rfl⟩
  obtain ⟨b0, hb0⟩ : ∃ x, x = t0 % 256 := ⟨_, rfl⟩
  obtain ⟨b1, hb1⟩ : ∃ x, x = t1 % 256 := ⟨_, rfl⟩
  obtain ⟨b2, hb2⟩ : ∃ x, x = t2 % 256 := ⟨_, rfl⟩
  obtain ⟨b3, hb3⟩ : ∃ x, x = t3 % 256 := ⟨_, rfl⟩
  obtain ⟨b4, hb4⟩ : ∃ x, x = t4 % 256 := ⟨_, rfl⟩
  obtain ⟨b5, hb5⟩ : ∃ x, x = t5 % 256 := ⟨_, rfl⟩
  rw [show t / 1099511627776 % 256 = b5 by clear hp hq e1 e2 e3 e4 e5 e6 e7 HR z1 z2 z3 z4; omega, show t / 4294967296 % 256 = b4 by clear hp hq e1 e2 e3 e4 e5 e6 e7 HR z1 z2 z3 z4; omega, show t / 16777216 % 256 = b3 by clear hp hq e1 e2 e3 e4 e5 e6 e7 HR z1 z2 z3 z4; omega, show t / 65536 % 256 = b2 by clear hp hq e1 e2 e3 e4 e5 e6 e7 HR z1 z2 z3 z4; omega, show t / 256 % 256 = b1 by clear hp hq e1 e2 e3 e4 e5 e6 e7 HR z1 z2 z3 z4; omega, show t % 256 = b0 by clear hp hq e1 e2 e3 e4 e5 e6 e7 HR z1 z2 z3 z4; omega, ← hm]
  have u0 : t0 < 9223372036854775808 := by clear hp hq e1 e2 e3 e4 e5 e6 e7 HR z1 z2 z3 z4; omega
  have u1 : t1 < 9223372036854775808 := by clear hp hq e1 e2 e3 e4 e5 e6 e7 HR z1 z2 z3 z4; omega
  have u2 : t2 < 9223372036854775808 := by clear hp hq e1 e2 e3 e4 e5 e6 e7 HR z1 z2 z3 z4; omega
  have u3 : t3 < 9223372036854775808 := by clear hp hq e1 e2 e3 e4 e5 e6 e7 HR z1 z2 z3 z4; omega
  have u4 : t4 < 9223372036854775808 := by clear hp hq e1 e2 e3 e4 e5 e6 e7 HR z1 z2 z3 z4; omega
  have u5 : t5 < 9223372036854775808 := by clear hp hq e1 e2 e3 e4 e5 e6 e7 HR z1 z2 z3 z4; omega
  have u6 : t6 < 9223372036854775808 := by clear hp hq e1 e2 e3 e4 e5 e6 e7 HR z1 z2 z3 z4; omega
  have v0 : b0 < 256 := by rw [hb0]; exact Nat.mod_lt _ (by decide)
  have v1 : b1 < 256 := by rw [hb1]; exact Nat.mod_lt _ (by decide)
  have v2 : b2 < 256 := by rw [hb2]; exact Nat.mod_lt _ (by decide)
  have v3 : b3 < 256 := by rw [hb3]; exact Nat.mod_lt _ (by decide)
  have v4 : b4 < 256 := by rw [hb4]; exact Nat.mod_lt _ (by decide)
  have v5 : b5 < 256 := by rw [hb5]; exact Nat.mod_lt _ (by decide)
  have f0 := tdivK t0 t1 ht1
  have g0 := tmodK t0 b0 hb0
  have h0 := modK b0 v0
  have i0 := w64K t1 u1
  have f1 := tdivK t1 t2 ht2
  have g1 := tmodK t1 b1 hb1
  have h1 := modK b1 v1
  have i1 := w64K t2 u2
  have f2 := tdivK t2 t3 ht3
  have g2 := tmodK t2 b2 hb2
  have h2 := modK b2 v2
  have i2 := w64K t3 u3
  have f3 := tdivK t3 t4 ht4
  have g3 := tmodK t3 b3 hb3
  have h3 := modK b3 v3
  have i3 := w64K t4 u4
  have f4 := tdivK t4 t5 ht5
  have g4 := tmodK t4 b4 hb4
  have h4 := modK b4 v4
  have i4 := w64K t5 u5
  have f5 := tdivK t5 t6 ht6
  have g5 := tmodK t5 b5 hb5
  have h5 := modK b5 v5
  have i5 := w64K t6 u6
  obtain rfl := ht0
  clear ht1 ht2 ht3 ht4 ht5 ht6 hb0 hb1 hb2 hb3 hb4 hb5 u0 u1 u2 u3 u4 u5 u6 v0 v1 v2 v3 v4 v5 hm ht
  clear hp hq hr hn z1 z2 z3 z4
  go_enter Try.func37, Try.ntmps37
  go_wp2_with fail
  refine (HR.out _).mono ?_
  rintro y w1 ⟨rfl, hb⟩
  have HB := Lib.hid (below_two hb)
  have hZ : Blk w1 (w.heap.size + 1) 67 [.bool false, .int .u32 0, .bool false, .int .i64 0, .int .u8 0, .int .u8 0, .int .u8 0, .int .u8 0, .int .u8 0, .int .u8 0, .int .u8 0, .int .u8 0] := (blk_two w _ 67 [.bool false, .int .u32 0, .bool false, .int .i64 0, .int .u8 0, .int .u8 0, .int .u8 0, .int .u8 0, .int .u8 0, .int .u8 0, .int .u8 0, .int .u8 0]).keep hb (by simp)
  have hS : Blk w1 w.heap.size 71 [.bool true, .int .i64 (r : Int), .int .i64 (n : Int), .int .i64 (t0 : Int)] := ((Blk.new w 71 [.bool true, .int .i64 (r : Int), .int .i64 (n : Int), .int .i64 (t0 : Int)]).keep ((Below.refl _ _).alloc (Nat.le_refl _) _) (by simp)).keep hb (by simp only [World.size_alloc]; omega)
  have HZ := Lib.hid hZ; have HS := Lib.hid hS
  have q0 : w1.cell? ⟨w.heap.size, 0, none⟩ = some (.bool true) := hS.cellAt (i := 0) (by simp)
  have q1 : w1.cell? ⟨w.heap.size, 1, none⟩ = some (.int .i64 (r : Int)) := hS.cellAt (i := 1) (by simp)
  have q2 : w1.cell? ⟨w.heap.size, 2, none⟩ = some (.int .i64 (n : Int)) := hS.cellAt (i := 2) (by simp)
  have q3 : w1.cell? ⟨w.heap.size, 3, none⟩ = some (.int .i64 (t0 : Int)) := hS.cellAt (i := 3) (by simp)
  clear hb hZ hS
  go_upto_region 4 with fail
  obtain ⟨w2, hw2⟩ : ∃ w2, w2 = w1.alloc (.cells #[.bool false, .int .u32 (r : Int), .bool false, .int .i64 2, .int .u8 0, .int .u8 0, .int .u8 0, .int .u8 0, .int .u8 0, .int .u8 0, .int .u8 0, .int .u8 0] 67) := ⟨_, rfl⟩
  rw [← hw2]
  have HF2 := Lib.hid (show Blk w2 w1.heap.size 67 [.bool false, .int .u32 (r : Int), .bool false, .int .i64 2, .int .u8 0, .int .u8 0, .int .u8 0, .int .u8 0, .int .u8 0, .int .u8 0, .int .u8 0, .int .u8 0] by rw [hw2]; exact Blk.new w1 67 [.bool false, .int .u32 (r : Int), .bool false, .int .i64 2, .int .u8 0, .int .u8 0, .int .u8 0, .int .u8 0, .int .u8 0, .int .u8 0, .int .u8 0, .int .u8 0])
  have hb2 : Below w1.heap.size w1 w2 := by rw [hw2]; exact (Below.refl _ _).alloc (Nat.le_refl _) _
  have HB2 := Lib.hid (below_transG HB.out hb2); have HZ2 := Lib.hid (HZ.out.keep hb2 HZ.out.lt); have HS2 := Lib.hid (HS.out.keep hb2 HS.out.lt)
  have HN := Lib.hid (show w1.heap.size ≠ w.heap.size ∧ w1.heap.size ≠ w.heap.size + 1 by have := HZ.out.lt; omega)
  clear hw2 hb2 q0 q1 q2 q3
  have q0 : w2.cell? ⟨w.heap.size, 0, none⟩ = some (.bool true) := HS2.out.cellAt (i := 0) (by simp)
  have q1 : w2.cell? ⟨w.heap.size, 1, none⟩ = some (.int .i64 (r : Int)) := HS2.out.cellAt (i := 1) (by simp)
  have q2 : w2.cell? ⟨w.heap.size, 2, none⟩ = some (.int .i64 (n : Int)) := HS2.out.cellAt (i := 2) (by simp)
  have q3 : w2.cell? ⟨w.heap.size, 3, none⟩ = some (.int .i64 (t0 : Int)) := HS2.out.cellAt (i := 3) (by simp)
  have d0 : w2.cell? ⟨w1.heap.size, 0, none⟩ = some (.bool false) := HF2.out.cellAt (i := 0) (by simp)
  have d1 : w2.cell? ⟨w1.heap.size, 1, none⟩ = some (.int .u32 (r : Int)) := HF2.out.cellAt (i := 1) (by simp)
  have d2 : w2.cell? ⟨w1.heap.size, 2, none⟩ = some (.bool false) := HF2.out.cellAt (i := 2) (by simp)
  have d3 : w2.cell? ⟨w1.heap.size, 3, none⟩ = some (.int .i64 2) := HF2.out.cellAt (i := 3) (by simp)
  have d4 : w2.cell? ⟨w1.heap.size, 4, none⟩ = some (.int .u8 0) := HF2.out.cellAt (i := 4) (by simp)
  have d5 : w2.cell? ⟨w1.heap.size, 5, none⟩ = some (.int .u8 0) := HF2.out.cellAt (i := 5) (by simp)
  have d6 : w2.cell? ⟨w1.heap.size, 6, none⟩ = some (.int .u8 0) := HF2.out.cellAt (i := 6) (by simp)
  have d7 : w2.cell? ⟨w1.heap.size, 7, none⟩ = some (.int .u8 0) := HF2.out.cellAt (i := 7) (by simp)
  have d8 : w2.cell? ⟨w1.heap.size, 8, none⟩ = some (.int .u8 0) := HF2.out.cellAt (i := 8) (by simp)
  have d9 : w2.cell? ⟨w1.heap.size, 9, none⟩ = some (.int .u8 0) := HF2.out.cellAt (i := 9) (by simp)
  have d10 : w2.cell? ⟨w1.heap.size, 10, none⟩ = some (.int .u8 0) := HF2.out.cellAt (i := 10) (by simp)
  have d11 : w2.cell? ⟨w1.heap.size, 11, none⟩ = some (.int .u8 0) := HF2.out.cellAt (i := 11) (by simp)
  have p0 : w2.frozen? ⟨w1.heap.size, 0, none⟩ = false := HF2.out.frozenAt 0
  have p1 : w2.frozen? ⟨w1.heap.size, 1, none⟩ = false := HF2.out.frozenAt 1
  have p2 : w2.frozen? ⟨w1.heap.size, 2, none⟩ = false := HF2.out.frozenAt 2
  have p3 : w2.frozen? ⟨w1.heap.size, 3, none⟩ = false := HF2.out.frozenAt 3
  have p4 : w2.frozen? ⟨w1.heap.size, 4, none⟩ = false := HF2.out.frozenAt 4
  have p5 : w2.frozen? ⟨w1.heap.size, 5, none⟩ = false := HF2.out.frozenAt 5
  have p6 : w2.frozen? ⟨w1.heap.size, 6, none⟩ = false := HF2.out.frozenAt 6
  have p7 : w2.frozen? ⟨w1.heap.size, 7, none⟩ = false := HF2.out.frozenAt 7
  have p8 : w2.frozen? ⟨w1.heap.size, 8, none⟩ = false := HF2.out.frozenAt 8
  have p9 : w2.frozen? ⟨w1.heap.size, 9, none⟩ = false := HF2.out.frozenAt 9
  have p10 : w2.frozen? ⟨w1.heap.size, 10, none⟩ = false := HF2.out.frozenAt 10
  have p11 : w2.frozen? ⟨w1.heap.size, 11, none⟩ = false := HF2.out.frozenAt 11
  go_upto_region 6 with fail
  obtain ⟨w3, hw3⟩ : ∃ w3, w3 = (w2.setCell ⟨w1.heap.size, 4, none⟩ (.int .u8 (p : Int))).setCell ⟨w1.heap.size, 5, none⟩ (.int .u8 (q : Int)) := ⟨_, rfl⟩
  rw [← hw3]
  have HF3 := Lib.hid (show Blk w3 w1.heap.size 67 [.bool false, .int .u32 (r : Int), .bool false, .int .i64 2, .int .u8 (p : Int), .int .u8 (q : Int), .int .u8 0, .int .u8 0, .int .u8 0, .int .u8 0, .int .u8 0, .int .u8 0] by rw [hw3]; exact (HF2.out.put1 (i := 4) (by simp) _).put1 (i := 5) (by simp) _)
  have HZ3 := Lib.hid (show Blk w3 (w.heap.size + 1) 67 [.bool false, .int .u32 0, .bool false, .int .i64 0, .int .u8 0, .int .u8 0, .int .u8 0, .int .u8 0, .int .u8 0, .int .u8 0, .int .u8 0, .int .u8 0] by rw [hw3]; exact (HZ2.out.puts HN.out.2 4 _).puts HN.out.2 5 _)
  have HS3 := Lib.hid (show Blk w3 w.heap.size 71 [.bool true, .int .i64 (r : Int), .int .i64 (n : Int), .int .i64 (t0 : Int)] by rw [hw3]; exact (HS2.out.puts HN.out.1 4 _).puts HN.out.1 5 _)
  have HB3 := Lib.hid (show Below w.heap.size w w3 by rw [hw3]; exact (HB2.out.setCell (p := ⟨w1.heap.size, 4, none⟩) HB.out.size _).setCell (p := ⟨w1.heap.size, 5, none⟩) HB.out.size _)
  clear hw3 d0 d1 d2 d3 d4 d5 d6 d7 d8 d9 d10 d11 p0 p1 p2 p3 p4 p5 p6 p7 p8 p9 p10 p11 q0 q1 q2 q3
  have q0 : w3.cell? ⟨w.heap.size, 0, none⟩ = some (.bool true) := HS3.out.cellAt (i := 0) (by simp)
  have q1 : w3.cell? ⟨w.heap.size, 1, none⟩ = some (.int .i64 (r : Int)) := HS3.out.cellAt (i := 1) (by simp)
  have q2 : w3.cell? ⟨w.heap.size, 2, none⟩ = some (.int .i64 (n : Int)) := HS3.out.cellAt (i := 2) (by simp)
  have q3 : w3.cell? ⟨w.heap.size, 3, none⟩ = some (.int .i64 (t0 : Int)) := HS3.out.cellAt (i := 3) (by simp)
  have d1 : w3.cell? ⟨w1.heap.size, 1, none⟩ = some (.int .u32 (r : Int)) := HF3.out.cellAt (i := 1) (by simp)
  have p1 : w3.frozen? ⟨w1.heap.size, 1, none⟩ = false := HF3.out.frozenAt 1
  have d3 : w3.cell? ⟨w1.heap.size, 3, none⟩ = some (.int .i64 2) := HF3.out.cellAt (i := 3) (by simp)
  have p3 : w3.frozen? ⟨w1.heap.size, 3, none⟩ = false := HF3.out.frozenAt 3
  go_upto_region 9 with fail
  obtain ⟨w4, hw4⟩ : ∃ w4, w4 = (w3.setCell ⟨w1.heap.size, 1, none⟩ (.int .u32 (m : Int))).setCell ⟨w1.heap.size, 3, none⟩ (.int .i64 8) := ⟨_, rfl⟩
  rw [← hw4]
  have HF4 := Lib.hid (show Blk w4 w1.heap.size 67 [.bool false, .int .u32 (m : Int), .bool false, .int .i64 8, .int .u8 (p : Int), .int .u8 (q : Int), .int .u8 0, .int .u8 0, .int .u8 0, .int .u8 0, .int .u8 0, .int .u8 0] by rw [hw4]; exact (HF3.out.put1 (i := 1) (by simp) _).put1 (i := 3) (by simp) _)
  have HZ4 := Lib.hid (show Blk w4 (w.heap.size + 1) 67 [.bool false, .int .u32 0, .bool false, .int .i64 0, .int .u8 0, .int .u8 0, .int .u8 0, .int .u8 0, .int .u8 0, .int .u8 0, .int .u8 0, .int .u8 0] by rw [hw4]; exact (HZ3.out.puts HN.out.2 1 _).puts HN.out.2 3 _)
  have HS4 := Lib.hid (show Blk w4 w.heap.size 71 [.bool true, .int .i64 (r : Int), .int .i64 (n : Int), .int .i64 (t0 : Int)] by rw [hw4]; exact (HS3.out.puts HN.out.1 1 _).puts HN.out.1 3 _)
  have HB4 := Lib.hid (show Below w.heap.size w w4 by rw [hw4]; exact (HB3.out.setCell (p := ⟨w1.heap.size, 1, none⟩) HB.out.size _).setCell (p := ⟨w1.heap.size, 3, none⟩) HB.out.size _)
  clear hw4 d1 p1 d3 p3 q0 q1 q2 q3
  have q3 : w4.cell? ⟨w.heap.size, 3, none⟩ = some (.int .i64 (t0 : Int)) := HS4.out.cellAt (i := 3) (by simp)
  go_wp2_with fail
  go_loopw [6, 5] (fun s6 s5 wr => ((s6 = .int .i64 7 ∧ s5 = .int .i64 (t0 : Int) ∧ Blk wr w1.heap.size 67 [.bool false, .int .u32 (m : Int), .bool false, .int .i64 8, .int .u8 (p : Int), .int .u8 (q : Int), .int .u8 0, .int .u8 0, .int .u8 0, .int .u8 0, .int .u8 0, .int .u8 0]) ∨ (s6 = .int .i64 6 ∧ s5 = .int .i64 (t1 : Int) ∧ Blk wr w1.heap.size 67 [.bool false, .int .u32 (m : Int), .bool false, .int .i64 8, .int .u8 (p : Int), .int .u8 (q : Int), .int .u8 0, .int .u8 0, .int .u8 0, .int .u8 0, .int .u8 0, .int .u8 (b0 : Int)]) ∨ (s6 = .int .i64 5 ∧ s5 = .int .i64 (t2 : Int) ∧ Blk wr w1.heap.size 67 [.bool false, .int .u32 (m : Int), .bool false, .int .i64 8, .int .u8 (p : Int), .int .u8 (q : Int), .int .u8 0, .int .u8 0, .int .u8 0, .int .u8 0, .int .u8 (b1 : Int), .int .u8 (b0 : Int)]) ∨ (s6 = .int .i64 4 ∧ s5 = .int .i64 (t3 : Int) ∧ Blk wr w1.heap.size 67 [.bool false, .int .u32 (m : Int), .bool false, .int .i64 8, .int .u8 (p : Int), .int .u8 (q : Int), .int .u8 0, .int .u8 0, .int .u8 0, .int .u8 (b2 : Int), .int .u8 (b1 : Int), .int .u8 (b0 : Int)]) ∨ (s6 = .int .i64 3 ∧ s5 = .int .i64 (t4 : Int) ∧ Blk wr w1.heap.size 67 [.bool false, .int .u32 (m : Int), .bool false, .int .i64 8, .int .u8 (p : Int), .int .u8 (q : Int), .int .u8 0, .int .u8 0, .int .u8 (b3 : Int), .int .u8 (b2 : Int), .int .u8 (b1 : Int), .int .u8 (b0 : Int)]) ∨ (s6 = .int .i64 2 ∧ s5 = .int .i64 (t5 : Int) ∧ Blk wr w1.heap.size 67 [.bool false, .int .u32 (m : Int), .bool false, .int .i64 8, .int .u8 (p : Int), .int .u8 (q : Int), .int .u8 0, .int .u8 (b4 : Int), .int .u8 (b3 : Int), .int .u8 (b2 : Int), .int .u8 (b1 : Int), .int .u8 (b0 : Int)]) ∨ (s6 = .int .i64 1 ∧ s5 = .int .i64 (t6 : Int) ∧ Blk wr w1.heap.size 67 [.bool false, .int .u32 (m : Int), .bool false, .int .i64 8, .int .u8 (p : Int), .int .u8 (q : Int), .int .u8 (b5 : Int), .int .u8 (b4 : Int), .int .u8 (b3 : Int), .int .u8 (b2 : Int), .int .u8 (b1 : Int), .int .u8 (b0 : Int)])) ∧ Blk wr (w.heap.size + 1) 67 [.bool false, .int .u32 0, .bool false, .int .i64 0, .int .u8 0, .int .u8 0, .int .u8 0, .int .u8 0, .int .u8 0, .int .u8 0, .int .u8 0, .int .u8 0] ∧ Below w.heap.size w wr) (fun s6 _ _ => (intOf s6).toNat)
  case atStart => exact ⟨.inl ⟨rfl, rfl, HF4.out⟩, HZ4.out, HB4.out⟩
  case round =>
    obtain ⟨hst, hz, hb⟩ := hrel
    have HZr := Lib.hid hz; have HBr := Lib.hid hb
    clear hz hb q3
    rcases hst with ⟨rfl, rfl, hF⟩ | ⟨rfl, rfl, hF⟩ | ⟨rfl, rfl, hF⟩ | ⟨rfl, rfl, hF⟩ | ⟨rfl, rfl, hF⟩ | ⟨rfl, rfl, hF⟩ | ⟨rfl, rfl, hF⟩
    · have HFr := Lib.hid hF
      have dd : wr.cell? ⟨w1.heap.size, 11, none⟩ = some (.int .u8 0) := HFr.out.cellAt (i := 11) (by simp)
      have pp : wr.frozen? ⟨w1.heap.size, 11, none⟩ = false := HFr.out.frozenAt 11
      clear hF
      go_wp2_with fail
      go_roundw
      case rel => exact ⟨.inr (.inl ⟨by first | rfl | decide, by first | rfl | exact congrArg (Value.int .i64) i0, HFr.out.put1 (i := 11) (by simp) _⟩), HZr.out.puts HN.out.2 11 _, HBr.out.setCell (p := ⟨w1.heap.size, 11, none⟩) HB.out.size _⟩
      case measure => simp [intOf]
    · have HFr := Lib.hid hF
      have dd : wr.cell? ⟨w1.heap.size, 10, none⟩ = some (.int .u8 0) := HFr.out.cellAt (i := 10) (by simp)
      have pp : wr.frozen? ⟨w1.heap.size, 10, none⟩ = false := HFr.out.frozenAt 10
      clear hF
      go_wp2_with fail
      go_roundw
      case rel => exact ⟨.inr (.inr (.inl ⟨by first | rfl | decide, by first | rfl | exact congrArg (Value.int .i64) i1, HFr.out.put1 (i := 10) (by simp) _⟩)), HZr.out.puts HN.out.2 10 _, HBr.out.setCell (p := ⟨w1.heap.size, 10, none⟩) HB.out.size _⟩
      case measure => simp [intOf]
    · have HFr := Lib.hid hF
      have dd : wr.cell? ⟨w1.heap.size, 9, none⟩ = some (.int .u8 0) := HFr.out.cellAt (i := 9) (by simp)
      have pp : wr.frozen? ⟨w1.heap.size, 9, none⟩ = false := HFr.out.frozenAt 9
      clear hF
      go_wp2_with fail
      go_roundw
      case rel => exact ⟨.inr (.inr (.inr (.inl ⟨by first | rfl | decide, by first | rfl | exact congrArg (Value.int .i64) i2, HFr.out.put1 (i := 9) (by simp) _⟩))), HZr.out.puts HN.out.2 9 _, HBr.out.setCell (p := ⟨w1.heap.size, 9, none⟩) HB.out.size _⟩
      case measure => simp [intOf]
    · have HFr := Lib.hid hF
      have dd : wr.cell? ⟨w1.heap.size, 8, none⟩ = some (.int .u8 0) := HFr.out.cellAt (i := 8) (by simp)
      have pp : wr.frozen? ⟨w1.heap.size, 8, none⟩ = false := HFr.out.frozenAt 8
      clear hF
      go_wp2_with fail
      go_roundw
      case rel => exact ⟨.inr (.inr (.inr (.inr (.inl ⟨by first | rfl | decide, by first | rfl | exact congrArg (Value.int .i64) i3, HFr.out.put1 (i := 8) (by simp) _⟩)))), HZr.out.puts HN.out.2 8 _, HBr.out.setCell (p := ⟨w1.heap.size, 8, none⟩) HB.out.size _⟩
      case measure => simp [intOf]
    · have HFr := Lib.hid hF
      have dd : wr.cell? ⟨w1.heap.size, 7, none⟩ = some (.int .u8 0) := HFr.out.cellAt (i := 7) (by simp)
      have pp : wr.frozen? ⟨w1.heap.size, 7, none⟩ = false := HFr.out.frozenAt 7
      clear hF
      go_wp2_with fail
      go_roundw
      case rel => exact ⟨.inr (.inr (.inr (.inr (.inr (.inl ⟨by first | rfl | decide, by first | rfl | exact congrArg (Value.int .i64) i4, HFr.out.put1 (i := 7) (by simp) _⟩))))), HZr.out.puts HN.out.2 7 _, HBr.out.setCell (p := ⟨w1.heap.size, 7, none⟩) HB.out.size _⟩
      case measure => simp [intOf]
    · have HFr := Lib.hid hF
      have dd : wr.cell? ⟨w1.heap.size, 6, none⟩ = some (.int .u8 0) := HFr.out.cellAt (i := 6) (by simp)
      have pp : wr.frozen? ⟨w1.heap.size, 6, none⟩ = false := HFr.out.frozenAt 6
      clear hF
      go_wp2_with fail
      go_roundw
      case rel => exact ⟨.inr (.inr (.inr (.inr (.inr (.inr (⟨by first | rfl | decide, by first | rfl | exact congrArg (Value.int .i64) i5, HFr.out.put1 (i := 6) (by simp) _⟩)))))), HZr.out.puts HN.out.2 6 _, HBr.out.setCell (p := ⟨w1.heap.size, 6, none⟩) HB.out.size _⟩
      case measure => simp [intOf]
    · have HFr := Lib.hid hF
      have d0 : wr.cell? ⟨w1.heap.size, 0, none⟩ = some (.bool false) := HFr.out.cellAt (i := 0) (by simp)
      have d1 : wr.cell? ⟨w1.heap.size, 1, none⟩ = some (.int .u32 (m : Int)) := HFr.out.cellAt (i := 1) (by simp)
      have d2 : wr.cell? ⟨w1.heap.size, 2, none⟩ = some (.bool false) := HFr.out.cellAt (i := 2) (by simp)
      have d3 : wr.cell? ⟨w1.heap.size, 3, none⟩ = some (.int .i64 8) := HFr.out.cellAt (i := 3) (by simp)
      have d4 : wr.cell? ⟨w1.heap.size, 4, none⟩ = some (.int .u8 (p : Int)) := HFr.out.cellAt (i := 4) (by simp)
      have d5 : wr.cell? ⟨w1.heap.size, 5, none⟩ = some (.int .u8 (q : Int)) := HFr.out.cellAt (i := 5) (by simp)
      have d6 : wr.cell? ⟨w1.heap.size, 6, none⟩ = some (.int .u8 (b5 : Int)) := HFr.out.cellAt (i := 6) (by simp)
      have d7 : wr.cell? ⟨w1.heap.size, 7, none⟩ = some (.int .u8 (b4 : Int)) := HFr.out.cellAt (i := 7) (by simp)
      have d8 : wr.cell? ⟨w1.heap.size, 8, none⟩ = some (.int .u8 (b3 : Int)) := HFr.out.cellAt (i := 8) (by simp)
      have d9 : wr.cell? ⟨w1.heap.size, 9, none⟩ = some (.int .u8 (b2 : Int)) := HFr.out.cellAt (i := 9) (by simp)
      have d10 : wr.cell? ⟨w1.heap.size, 10, none⟩ = some (.int .u8 (b1 : Int)) := HFr.out.cellAt (i := 10) (by simp)
      have d11 : wr.cell? ⟨w1.heap.size, 11, none⟩ = some (.int .u8 (b0 : Int)) := HFr.out.cellAt (i := 11) (by simp)
      have v0 : wr.cell? ⟨w.heap.size + 1, 0, none⟩ = some (.bool false) := HZr.out.cellAt (i := 0) (by simp)
      have v1 : wr.cell? ⟨w.heap.size + 1, 1, none⟩ = some (.int .u32 0) := HZr.out.cellAt (i := 1) (by simp)
      have v2 : wr.cell? ⟨w.heap.size + 1, 2, none⟩ = some (.bool false) := HZr.out.cellAt (i := 2) (by simp)
      have v3 : wr.cell? ⟨w.heap.size + 1, 3, none⟩ = some (.int .i64 0) := HZr.out.cellAt (i := 3) (by simp)
      have v4 : wr.cell? ⟨w.heap.size + 1, 4, none⟩ = some (.int .u8 0) := HZr.out.cellAt (i := 4) (by simp)
      have v5 : wr.cell? ⟨w.heap.size + 1, 5, none⟩ = some (.int .u8 0) := HZr.out.cellAt (i := 5) (by simp)
      have v6 : wr.cell? ⟨w.heap.size + 1, 6, none⟩ = some (.int .u8 0) := HZr.out.cellAt (i := 6) (by simp)
      have v7 : wr.cell? ⟨w.heap.size + 1, 7, none⟩ = some (.int .u8 0) := HZr.out.cellAt (i := 7) (by simp)
      have v8 : wr.cell? ⟨w.heap.size + 1, 8, none⟩ = some (.int .u8 0) := HZr.out.cellAt (i := 8) (by simp)
      have v9 : wr.cell? ⟨w.heap.size + 1, 9, none⟩ = some (.int .u8 0) := HZr.out.cellAt (i := 9) (by simp)
      have v10 : wr.cell? ⟨w.heap.size + 1, 10, none⟩ = some (.int .u8 0) := HZr.out.cellAt (i := 10) (by simp)
      have v11 : wr.cell? ⟨w.heap.size + 1, 11, none⟩ = some (.int .u8 0) := HZr.out.cellAt (i := 11) (by simp)
      have p0 : wr.frozen? ⟨w.heap.size + 1, 0, none⟩ = false := HZr.out.frozenAt 0
      have p1 : wr.frozen? ⟨w.heap.size + 1, 1, none⟩ = false := HZr.out.frozenAt 1
      have p2 : wr.frozen? ⟨w.heap.size + 1, 2, none⟩ = false := HZr.out.frozenAt 2
      have p3 : wr.frozen? ⟨w.heap.size + 1, 3, none⟩ = false := HZr.out.frozenAt 3
      have p4 : wr.frozen? ⟨w.heap.size + 1, 4, none⟩ = false := HZr.out.frozenAt 4
      have p5 : wr.frozen? ⟨w.heap.size + 1, 5, none⟩ = false := HZr.out.frozenAt 5
      have p6 : wr.frozen? ⟨w.heap.size + 1, 6, none⟩ = false := HZr.out.frozenAt 6
      have p7 : wr.frozen? ⟨w.heap.size + 1, 7, none⟩ = false := HZr.out.frozenAt 7
      have p8 : wr.frozen? ⟨w.heap.size + 1, 8, none⟩ = false := HZr.out.frozenAt 8
      have p9 : wr.frozen? ⟨w.heap.size + 1, 9, none⟩ = false := HZr.out.frozenAt 9
      have p10 : wr.frozen? ⟨w.heap.size + 1, 10, none⟩ = false := HZr.out.frozenAt 10
      have p11 : wr.frozen? ⟨w.heap.size + 1, 11, none⟩ = false := HZr.out.frozenAt 11
      clear hF
      go_wp2_with fail
      obtain ⟨W, hWW⟩ : ∃ W, W = ((((((((((((wr.setCell ⟨w.heap.size + 1, 0, none⟩ (.bool false)).setCell ⟨w.heap.size + 1, 1, none⟩ (.int .u32 (m : Int))).setCell ⟨w.heap.size + 1, 2, none⟩ (.bool false)).setCell ⟨w.heap.size + 1, 3, none⟩ (.int .i64 8)).setCell ⟨w.heap.size + 1, 4, none⟩ (.int .u8 (p : Int))).setCell ⟨w.heap.size + 1, 5, none⟩ (.int .u8 (q : Int))).setCell ⟨w.heap.size + 1, 6, none⟩ (.int .u8 (b5 : Int))).setCell ⟨w.heap.size + 1, 7, none⟩ (.int .u8 (b4 : Int))).setCell ⟨w.heap.size + 1, 8, none⟩ (.int .u8 (b3 : Int))).setCell ⟨w.heap.size + 1, 9, none⟩ (.int .u8 (b2 : Int))).setCell ⟨w.heap.size + 1, 10, none⟩ (.int .u8 (b1 : Int))).setCell ⟨w.heap.size + 1, 11, none⟩ (.int .u8 (b0 : Int))) := ⟨_, rfl⟩
      rw [← hWW]
      have hRS : Blk W (w.heap.size + 1) 67 [.bool false, .int .u32 (m : Int), .bool false, .int .i64 8, .int .u8 (p : Int), .int .u8 (q : Int), .int .u8 (b5 : Int), .int .u8 (b4 : Int), .int .u8 (b3 : Int), .int .u8 (b2 : Int), .int .u8 (b1 : Int), .int .u8 (b0 : Int)] := by rw [hWW]; exact (HZr.out).set [.bool false, .int .u32 (m : Int), .bool false, .int .i64 8, .int .u8 (p : Int), .int .u8 (q : Int), .int .u8 (b5 : Int), .int .u8 (b4 : Int), .int .u8 (b3 : Int), .int .u8 (b2 : Int), .int .u8 (b1 : Int), .int .u8 (b0 : Int)] rfl
      have hb := (show Below w.heap.size w W by rw [hWW]; exact Go.below_setCells (by first | omega | simp) [.bool false, .int .u32 (m : Int), .bool false, .int .i64 8, .int .u8 (p : Int), .int .u8 (q : Int), .int .u8 (b5 : Int), .int .u8 (b4 : Int), .int .u8 (b3 : Int), .int .u8 (b2 : Int), .int .u8 (b1 : Int), .int .u8 (b0 : Int)] 0 _ HBr.out)
      clear hWW
      have z0 : W.cell? ⟨w.heap.size + 1, 0, none⟩ = some (.bool false) := hRS.cellAt (i := 0) (by simp)
      have z1 : W.cell? ⟨w.heap.size + 1, 1, none⟩ = some (.int .u32 (m : Int)) := hRS.cellAt (i := 1) (by simp)
      have z2 : W.cell? ⟨w.heap.size + 1, 2, none⟩ = some (.bool false) := hRS.cellAt (i := 2) (by simp)
      have z3 : W.cell? ⟨w.heap.size + 1, 3, none⟩ = some (.int .i64 8) := hRS.cellAt (i := 3) (by simp)
      have z4 : W.cell? ⟨w.heap.size + 1, 4, none⟩ = some (.int .u8 (p : Int)) := hRS.cellAt (i := 4) (by simp)
      have z5 : W.cell? ⟨w.heap.size + 1, 5, none⟩ = some (.int .u8 (q : Int)) := hRS.cellAt (i := 5) (by simp)
      have z6 : W.cell? ⟨w.heap.size + 1, 6, none⟩ = some (.int .u8 (b5 : Int)) := hRS.cellAt (i := 6) (by simp)
      have z7 : W.cell? ⟨w.heap.size + 1, 7, none⟩ = some (.int .u8 (b4 : Int)) := hRS.cellAt (i := 7) (by simp)
      have z8 : W.cell? ⟨w.heap.size + 1, 8, none⟩ = some (.int .u8 (b3 : Int)) := hRS.cellAt (i := 8) (by simp)
      have z9 : W.cell? ⟨w.heap.size + 1, 9, none⟩ = some (.int .u8 (b2 : Int)) := hRS.cellAt (i := 9) (by simp)
      have z10 : W.cell? ⟨w.heap.size + 1, 10, none⟩ = some (.int .u8 (b1 : Int)) := hRS.cellAt (i := 10) (by simp)
      have z11 : W.cell? ⟨w.heap.size + 1, 11, none⟩ = some (.int .u8 (b0 : Int)) := hRS.cellAt (i := 11) (by simp)
      exact bodyPost_ret (v := .tuple #[.agg #[.bool false, .int .u32 (m : Int), .bool false, .int .i64 8, .int .u8 (p : Int), .int .u8 (q : Int), .int .u8 (b5 : Int), .int .u8 (b4 : Int), .int .u8 (b3 : Int), .int .u8 (b2 : Int), .int .u8 (b1 : Int), .int .u8 (b0 : Int)], .int .i64 0]) (by simp [results, Try.results37, go_sem, z0, z1, z2, z3, z4, z5, z6, z7, z8, z9, z10, z11]) rfl ⟨rfl, hb⟩
end Go.Proofs.Ytmlnobiakfapcaa
