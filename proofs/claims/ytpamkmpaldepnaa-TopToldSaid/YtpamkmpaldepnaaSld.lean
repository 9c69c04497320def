/- Package slave: what a frame tells, if it is any word's. Conditions: the frame's bytes are bytes. -/
import Derived.Test.YtpamkmpaldepnaaSlc
import Derived.Deep.Cut
import Derived.Deep.RegionHeld3
namespace Go.Proofs.Ytpamkmpaldepnaa
open Go.RowKit
theorem below4 {n B : Nat} {base W : World} (hB : n ≤ B) (h : Below n base W) (v0 v1 v2 v3 : Value) : Below n base ((((W.setCell ⟨B, 0, none⟩ v0).setCell ⟨B, 1, none⟩ v1).setCell ⟨B, 2, none⟩ v2).setCell ⟨B, 3, none⟩ v3) :=
  Go.below_setCells hB [v0, v1, v2, v3] 0 W h
theorem fz4 {base X : World} (u : World) (h : Below base.heap.size base u) (hb : Below (u.alloc (.cells #[.bool false, .int .i64 0, .int .i64 0, .int .i64 0] 75)).heap.size (u.alloc (.cells #[.bool false, .int .i64 0, .int .i64 0, .int .i64 0] 75)) X) : base.heap.size ≤ u.heap.size ∧ Blk X u.heap.size 75 [.bool false, .int .i64 0, .int .i64 0, .int .i64 0] :=
  ⟨h.size, Blk.keep (Blk.new u 75 [.bool false, .int .i64 0, .int .i64 0, .int .i64 0]) hb (by simp)⟩
theorem fz4d {base X : World} (u : World) (h : Below base.heap.size base u) (hb : Below (u.alloc (.cells #[.bool false, .int .i64 0, .int .i64 0, .int .i64 0] 75)).drew.heap.size (u.alloc (.cells #[.bool false, .int .i64 0, .int .i64 0, .int .i64 0] 75)).drew X) : base.heap.size ≤ u.heap.size ∧ Blk X u.heap.size 75 [.bool false, .int .i64 0, .int .i64 0, .int .i64 0] :=
  fz4 u h ((Below.refl _ _).drew.trans hb)
theorem slice2 (B : Nat) (w : World) : Sem.run Try.prog (Instr.sliceAt 69 (.pointer (some ⟨B, 4, none⟩)) none (some (.int .i64 2)) none) w = .ok (.slice (some ⟨B, 4, none⟩) 2 8) w := by
  have ha : Try.prog.arrayLen 69 = 8 := by kernel_rfl
  have hs : (sizeOf (Try.prog.elem 69)).run Try.prog w = .ok 1 w := by kernel_rfl
  have h := run_sliceAt_array_h (P := Try.prog) w 69 ⟨B, 4, none⟩ (by kernel_rfl) .i64 2 (by omega) (by rw [ha]; omega)
  rw [ha, hs] at h
  exact h
theorem slice6 (B : Nat) (w : World) : Sem.run Try.prog (Instr.sliceAt 69 (.pointer (some ⟨B, 4, none⟩)) (some (.int .i64 2)) none none) w = .ok (.slice (some ⟨B, 6, none⟩) 6 6) w := by
  have ha : Try.prog.arrayLen 69 = 8 := by kernel_rfl
  have hs : (sizeOf (Try.prog.elem 69)).run Try.prog w = .ok 1 w := by kernel_rfl
  have h := run_sliceAt_array_l (P := Try.prog) w 69 ⟨B, 4, none⟩ (by kernel_rfl) .i64 2 (by omega) (by rw [ha]; omega)
  rw [ha, hs] at h
  exact h
theorem str_cells {W : World} {B o cap : Nat} (bs : List Nat) (hb : B < W.heap.size) (hc : bs.length ≤ cap) (hm : cap ≤ 9223372036854775807) (h : ∀ j, j < bs.length → W.cell? ⟨B, o + j, none⟩ = some (.int .u8 ((bs[j]?.getD 0 : Nat) : Int))) : Str W.heap.size W (.slice (some ⟨B, o, none⟩) bs.length cap) bs :=
  .inr ⟨B, o, cap, rfl, hc, hm, hb, h⟩
theorem frame_str2 {W : World} {B : Nat} {e : Bool} {n : Nat} {q : Bool} {l : Int} {x0 x1 x2 x3 x4 x5 x6 x7 : Nat} (h : Blk W B 71 [.bool e, .int .u32 (n : Int), .bool q, .int .i64 l, .int .u8 (x0 : Int), .int .u8 (x1 : Int), .int .u8 (x2 : Int), .int .u8 (x3 : Int), .int .u8 (x4 : Int), .int .u8 (x5 : Int), .int .u8 (x6 : Int), .int .u8 (x7 : Int)]) : Str W.heap.size W (.slice (some ⟨B, 4, none⟩) 2 8) [x0, x1] :=
  str_cells [x0, x1] h.lt (by simp) (by omega) (fun j hj => by
    match j, hj with
    | 0, _ => exact h.cellAt (i := 4) (by simp)
    | 1, _ => exact h.cellAt (i := 5) (by simp))
theorem frame_str6 {W : World} {B : Nat} {e : Bool} {n : Nat} {q : Bool} {l : Int} {x0 x1 x2 x3 x4 x5 x6 x7 : Nat} (h : Blk W B 71 [.bool e, .int .u32 (n : Int), .bool q, .int .i64 l, .int .u8 (x0 : Int), .int .u8 (x1 : Int), .int .u8 (x2 : Int), .int .u8 (x3 : Int), .int .u8 (x4 : Int), .int .u8 (x5 : Int), .int .u8 (x6 : Int), .int .u8 (x7 : Int)]) : Str W.heap.size W (.slice (some ⟨B, 6, none⟩) 6 6) [x2, x3, x4, x5, x6, x7] :=
  str_cells [x2, x3, x4, x5, x6, x7] h.lt (by simp) (by omega) (fun j hj => by
    match j, hj with
    | 0, _ => exact h.cellAt (i := 6) (by simp)
    | 1, _ => exact h.cellAt (i := 7) (by simp)
    | 2, _ => exact h.cellAt (i := 8) (by simp)
    | 3, _ => exact h.cellAt (i := 9) (by simp)
    | 4, _ => exact h.cellAt (i := 10) (by simp)
    | 5, _ => exact h.cellAt (i := 11) (by simp))
set_option maxHeartbeats 2000000 in
theorem meant_low (e : Bool) (n : Nat) (q : Bool) (l : Int) (x0 x1 x2 x3 x4 x5 x6 x7 : Nat) (hn : n < 4294967296) (hlo : n < 32) (hx0 : x0 < 256) (hx1 : x1 < 256) (hx2 : x2 < 256) (hx3 : x3 < 256) (hx4 : x4 < 256) (hx5 : x5 < 256) (hx6 : x6 < 256) (hx7 : x7 < 256) (w : World) : Calls Try.prog 64 #[.agg #[.bool e, .int .u32 (n : Int), .bool q, .int .i64 l, .int .u8 (x0 : Int), .int .u8 (x1 : Int), .int .u8 (x2 : Int), .int .u8 (x3 : Int), .int .u8 (x4 : Int), .int .u8 (x5 : Int), .int .u8 (x6 : Int), .int .u8 (x7 : Int)]] w fun y w' => y = .returned (.agg #[.bool false, .int .i64 (n : Int), .int .i64 ((x0 * 256 + x1 : Nat) : Int), .int .i64 0]) ∧ Below w.heap.size w w' := by
  have HN2 := Lib.hid (fun (u : World) (B : Nat) (h : Blk u B 71 [.bool e, .int .u32 (n : Int), .bool q, .int .i64 l, .int .u8 (x0 : Int), .int .u8 (x1 : Int), .int .u8 (x2 : Int), .int .u8 (x3 : Int), .int .u8 (x4 : Int), .int .u8 (x5 : Int), .int .u8 (x6 : Int), .int .u8 (x7 : Int)]) => number_int (x0 * 256 + x1) 2 (by decide) (by decide) (by omega) (some ⟨B, 4, none⟩) 8 u (by rw [← be_of2 x0 x1 hx0 hx1]; exact frame_str2 h))
  have HN6 := Lib.hid (fun (u : World) (B : Nat) (h : Blk u B 71 [.bool e, .int .u32 (n : Int), .bool q, .int .i64 l, .int .u8 (x0 : Int), .int .u8 (x1 : Int), .int .u8 (x2 : Int), .int .u8 (x3 : Int), .int .u8 (x4 : Int), .int .u8 (x5 : Int), .int .u8 (x6 : Int), .int .u8 (x7 : Int)]) => number_i64 (be6 x2 x3 x4 x5 x6 x7) 6 (by decide) (by decide) (be6_lt x2 x3 x4 x5 x6 x7 hx2 hx3 hx4 hx5 hx6 hx7) (some ⟨B, 6, none⟩) 6 u (by rw [← be_of6 x2 x3 x4 x5 x6 x7 hx2 hx3 hx4 hx5 hx6 hx7]; exact frame_str6 h))
  obtain ⟨R, hR⟩ : ∃ R, R = x0 * 256 + x1 := ⟨_, rfl⟩
  obtain ⟨M, hM⟩ : ∃ M, M = be6 x2 x3 x4 x5 x6 x7 := ⟨_, rfl⟩
  rw [← hR] at HN2 ⊢
  rw [← hM] at HN6
  have e1 : IntKind.i64.wrap (n : Int) = (n : Int) := by rw [IntKind.wrap_i64]; omega
  have e3 : wrap64 (n : Int) = (n : Int) := w64_in _ (by omega)
  have hlt := hlo
  clear hR hn hM hx0 hx1 hx2 hx3 hx4 hx5 hx6 hx7
  go_enter Try.func64, Try.ntmps64
  go_upto_region 1 with fail
  obtain ⟨w1, hw1⟩ : ∃ w1, w1 = (w.alloc (.cells #[.bool e, .int .u32 (n : Int), .bool q, .int .i64 l, .int .u8 (x0 : Int), .int .u8 (x1 : Int), .int .u8 (x2 : Int), .int .u8 (x3 : Int), .int .u8 (x4 : Int), .int .u8 (x5 : Int), .int .u8 (x6 : Int), .int .u8 (x7 : Int)] 71)).alloc (.cells #[.bool false, .int .i64 0, .int .i64 0, .int .i64 0] 75) := ⟨_, rfl⟩
  rw [← hw1]
  have HF := Lib.hid (show Blk w1 w.heap.size 71 [.bool e, .int .u32 (n : Int), .bool q, .int .i64 l, .int .u8 (x0 : Int), .int .u8 (x1 : Int), .int .u8 (x2 : Int), .int .u8 (x3 : Int), .int .u8 (x4 : Int), .int .u8 (x5 : Int), .int .u8 (x6 : Int), .int .u8 (x7 : Int)] by rw [hw1]; exact (Blk.new w 71 [.bool e, .int .u32 (n : Int), .bool q, .int .i64 l, .int .u8 (x0 : Int), .int .u8 (x1 : Int), .int .u8 (x2 : Int), .int .u8 (x3 : Int), .int .u8 (x4 : Int), .int .u8 (x5 : Int), .int .u8 (x6 : Int), .int .u8 (x7 : Int)]).keep ((Below.refl _ _).alloc (Nat.le_refl _) _) (by simp))
  have HR1 := Lib.hid (show Blk w1 (w.heap.size + 1) 75 [.bool false, .int .i64 0, .int .i64 0, .int .i64 0] by rw [hw1]; exact blk_two w _ 75 [.bool false, .int .i64 0, .int .i64 0, .int .i64 0])
  have HB1 := Lib.hid (show Below w.heap.size w w1 by rw [hw1]; exact ((Below.refl _ w).alloc (Nat.le_refl _) _).alloc (by simp) _)
  clear hw1
  have q1 : w1.cell? ⟨w.heap.size, 1, none⟩ = some (.int .u32 (n : Int)) := HF.out.cellAt (i := 1) (by simp)
  have q1d : w1.drew.cell? ⟨w.heap.size, 1, none⟩ = some (.int .u32 (n : Int)) := HF.out.cellAt (i := 1) (by simp)
  have hs2 := fun u => slice2 w.heap.size u
  have HS := Lib.hid (show ∀ u, Below w1.heap.size w1 u → (Below w1.heap.size w1 u ∧ u.cell? ⟨w.heap.size, 1, none⟩ = some (.int .u32 (n : Int))) from fun u hu => ⟨hu, (HF.out.keep hu HF.out.lt).cellAt (i := 1) (by simp)⟩)
  have HSA := Lib.hid (show ∀ u o, (Below w1.heap.size w1 u ∧ u.cell? ⟨w.heap.size, 1, none⟩ = some (.int .u32 (n : Int))) → (Below w1.heap.size w1 (u.alloc o) ∧ (u.alloc o).cell? ⟨w.heap.size, 1, none⟩ = some (.int .u32 (n : Int))) from fun u o hu => HS.out _ (hu.1.alloc hu.1.size _))
  have HNN := Lib.hid (show ∀ u, (Below w1.heap.size w1 u ∧ u.cell? ⟨w.heap.size, 1, none⟩ = some (.int .u32 (n : Int))) → Calls Try.prog 87 #[.slice (some ⟨w.heap.size, 4, none⟩) 2 8] u fun x w' => x = .returned (.int .i64 (R : Int)) ∧ Below u.heap.size u w' ∧ (Below w1.heap.size w1 w' ∧ w'.cell? ⟨w.heap.size, 1, none⟩ = some (.int .u32 (n : Int))) from fun u hu => (HN2.out u _ (HF.out.keep hu.1 HF.out.lt)).mono fun _ _ h => ⟨h.1, h.2, HS.out _ (hu.1.trans (h.2.mono hu.1.size))⟩)
  have k0 := HS.out _ (Below.refl w1.heap.size w1).drew
  have HD1 := Lib.hid (fun o => HS.out _ ((Below.refl w1.heap.size w1).alloc (Nat.le_refl _) o).drew)
  clear q1 q1d
  go_cut [3] (fun s3 wx => ∃ D, s3 = .pointer (some ⟨D, 0, none⟩) ∧ w1.heap.size ≤ D ∧ Blk wx D 75 [.bool false, .int .i64 (n : Int), .int .i64 (R : Int), .int .i64 0] ∧ Below w1.heap.size w1 wx)
  case first =>
    go_region_held3 (fun u => (Below w1.heap.size w1 u ∧ u.cell? ⟨w.heap.size, 1, none⟩ = some (.int .u32 (n : Int)))) (first | (with_reducible assumption) | (with_reducible exact HSA.out _ _ (by assumption)) | (with_reducible exact HS.out _ (below4 hge h2.1 _ _ _ _)) | (exact HD1.out _)) (first | (go_at_call 87; refine (HNN.out _ (by assumption)).mono ?_; rintro x w2 ⟨rfl, hb2, h2⟩; (first | (have FZ := Lib.hid (by with_reducible exact fz4d w1 (Below.refl _ _) hb2)) | (have FZ := Lib.hid (by with_reducible exact fz4 w1 (Below.refl _ _) hb2)) | skip); (first | (have FX := FZ.out; have z0 := FX.2.cellAt (i := 0) (by simp); have z1 := FX.2.cellAt (i := 1) (by simp); have z2 := FX.2.cellAt (i := 2) (by simp); have z3 := FX.2.cellAt (i := 3) (by simp); simp only [List.getElem_cons_zero, List.getElem_cons_succ] at z0 z1 z2 z3; have g0 := FX.2.frozenAt 0; have g1 := FX.2.frozenAt 1; have g2 := FX.2.frozenAt 2; have g3 := FX.2.frozenAt 3; have hge := FX.1; clear FX) | skip)))
    all_goals (go_wp2_with fail; go_meet; first | exact ⟨_, rfl, hge, FZ.out.2.set [.bool false, .int .i64 (n : Int), .int .i64 (R : Int), .int .i64 0] rfl, below4 hge h2.1 _ _ _ _⟩ | exact ⟨_, rfl, h2.1.size, Blk.new w2 75 [.bool false, .int .i64 (n : Int), .int .i64 (R : Int), .int .i64 0], h2.1.alloc h2.1.size _⟩)
  case rest =>
  obtain ⟨W2, hW2⟩ : ∃ W2, W2 = wc := ⟨_, rfl⟩
  rw [← hW2] at hcut ⊢
  clear hW2
  obtain ⟨D, rfl, hD, hS, hb⟩ := hcut
  have HD := Lib.hid hD; have HS := Lib.hid hS; have HB2 := Lib.hid (HB1.out.trans (hb.mono HB1.out.size)); have HR2 := Lib.hid (HR1.out.keep hb HR1.out.lt); have HF2 := Lib.hid (HF.out.keep hb HF.out.lt)
  clear hD hS hb hs2 k0
  have q0 : W2.cell? ⟨D, 0, none⟩ = some (.bool false) := HS.out.cellAt (i := 0) (by simp)
  have q1 : W2.cell? ⟨D, 1, none⟩ = some (.int .i64 (n : Int)) := HS.out.cellAt (i := 1) (by simp)
  have q2 : W2.cell? ⟨D, 2, none⟩ = some (.int .i64 (R : Int)) := HS.out.cellAt (i := 2) (by simp)
  have q3 : W2.cell? ⟨D, 3, none⟩ = some (.int .i64 0) := HS.out.cellAt (i := 3) (by simp)
  have d0 : W2.cell? ⟨w.heap.size + 1, 0, none⟩ = some (.bool false) := HR2.out.cellAt (i := 0) (by simp)
  have d1 : W2.cell? ⟨w.heap.size + 1, 1, none⟩ = some (.int .i64 0) := HR2.out.cellAt (i := 1) (by simp)
  have d2 : W2.cell? ⟨w.heap.size + 1, 2, none⟩ = some (.int .i64 0) := HR2.out.cellAt (i := 2) (by simp)
  have d3 : W2.cell? ⟨w.heap.size + 1, 3, none⟩ = some (.int .i64 0) := HR2.out.cellAt (i := 3) (by simp)
  have p0 : W2.frozen? ⟨w.heap.size + 1, 0, none⟩ = false := HR2.out.frozenAt 0
  have p1 : W2.frozen? ⟨w.heap.size + 1, 1, none⟩ = false := HR2.out.frozenAt 1
  have p2 : W2.frozen? ⟨w.heap.size + 1, 2, none⟩ = false := HR2.out.frozenAt 2
  have p3 : W2.frozen? ⟨w.heap.size + 1, 3, none⟩ = false := HR2.out.frozenAt 3
  go_wp2_with fail
  obtain ⟨W, hWW⟩ : ∃ W, W = ((((W2.setCell ⟨w.heap.size + 1, 0, none⟩ (.bool false)).setCell ⟨w.heap.size + 1, 1, none⟩ (.int .i64 (n : Int))).setCell ⟨w.heap.size + 1, 2, none⟩ (.int .i64 (R : Int))).setCell ⟨w.heap.size + 1, 3, none⟩ (.int .i64 0)) := ⟨_, rfl⟩
  rw [← hWW]
  have hRS : Blk W (w.heap.size + 1) 75 [.bool false, .int .i64 (n : Int), .int .i64 (R : Int), .int .i64 0] := by rw [hWW]; exact (HR2.out).set [.bool false, .int .i64 (n : Int), .int .i64 (R : Int), .int .i64 0] rfl
  have hb := (show Below w.heap.size w W by rw [hWW]; exact Go.below_setCells (by first | omega | simp) [.bool false, .int .i64 (n : Int), .int .i64 (R : Int), .int .i64 0] 0 _ HB2.out)
  clear hWW
  have z0 : W.cell? ⟨w.heap.size + 1, 0, none⟩ = some (.bool false) := hRS.cellAt (i := 0) (by simp)
  have z1 : W.cell? ⟨w.heap.size + 1, 1, none⟩ = some (.int .i64 (n : Int)) := hRS.cellAt (i := 1) (by simp)
  have z2 : W.cell? ⟨w.heap.size + 1, 2, none⟩ = some (.int .i64 (R : Int)) := hRS.cellAt (i := 2) (by simp)
  have z3 : W.cell? ⟨w.heap.size + 1, 3, none⟩ = some (.int .i64 0) := hRS.cellAt (i := 3) (by simp)
  exact bodyPost_ret (v := .agg #[.bool false, .int .i64 (n : Int), .int .i64 (R : Int), .int .i64 0]) (by simp [results, Try.results64, go_sem, z0, z1, z2, z3]) rfl ⟨rfl, hb⟩
set_option maxHeartbeats 2000000 in
theorem meant_high (e : Bool) (n : Nat) (q : Bool) (l : Int) (x0 x1 x2 x3 x4 x5 x6 x7 : Nat) (hn : n < 4294967296) (hlo : 32 ≤ n) (hx0 : x0 < 256) (hx1 : x1 < 256) (hx2 : x2 < 256) (hx3 : x3 < 256) (hx4 : x4 < 256) (hx5 : x5 < 256) (hx6 : x6 < 256) (hx7 : x7 < 256) (w : World) : Calls Try.prog 64 #[.agg #[.bool e, .int .u32 (n : Int), .bool q, .int .i64 l, .int .u8 (x0 : Int), .int .u8 (x1 : Int), .int .u8 (x2 : Int), .int .u8 (x3 : Int), .int .u8 (x4 : Int), .int .u8 (x5 : Int), .int .u8 (x6 : Int), .int .u8 (x7 : Int)]] w fun y w' => y = .returned (.agg #[.bool true, .int .i64 ((n - 32 : Nat) : Int), .int .i64 ((x0 * 256 + x1 : Nat) : Int), .int .i64 ((be6 x2 x3 x4 x5 x6 x7 : Nat) : Int)]) ∧ Below w.heap.size w w' := by
  have HN2 := Lib.hid (fun (u : World) (B : Nat) (h : Blk u B 71 [.bool e, .int .u32 (n : Int), .bool q, .int .i64 l, .int .u8 (x0 : Int), .int .u8 (x1 : Int), .int .u8 (x2 : Int), .int .u8 (x3 : Int), .int .u8 (x4 : Int), .int .u8 (x5 : Int), .int .u8 (x6 : Int), .int .u8 (x7 : Int)]) => number_int (x0 * 256 + x1) 2 (by decide) (by decide) (by omega) (some ⟨B, 4, none⟩) 8 u (by rw [← be_of2 x0 x1 hx0 hx1]; exact frame_str2 h))
  have HN6 := Lib.hid (fun (u : World) (B : Nat) (h : Blk u B 71 [.bool e, .int .u32 (n : Int), .bool q, .int .i64 l, .int .u8 (x0 : Int), .int .u8 (x1 : Int), .int .u8 (x2 : Int), .int .u8 (x3 : Int), .int .u8 (x4 : Int), .int .u8 (x5 : Int), .int .u8 (x6 : Int), .int .u8 (x7 : Int)]) => number_i64 (be6 x2 x3 x4 x5 x6 x7) 6 (by decide) (by decide) (be6_lt x2 x3 x4 x5 x6 x7 hx2 hx3 hx4 hx5 hx6 hx7) (some ⟨B, 6, none⟩) 6 u (by rw [← be_of6 x2 x3 x4 x5 x6 x7 hx2 hx3 hx4 hx5 hx6 hx7]; exact frame_str6 h))
  obtain ⟨R, hR⟩ : ∃ R, R = x0 * 256 + x1 := ⟨_, rfl⟩
  obtain ⟨M, hM⟩ : ∃ M, M = be6 x2 x3 x4 x5 x6 x7 := ⟨_, rfl⟩
  rw [← hR] at HN2 ⊢
  rw [← hM] at HN6 ⊢
  obtain ⟨m, hm⟩ : ∃ m, m = n - 32 := ⟨_, rfl⟩
  rw [← hm]
  have e4 : wrap64 ((n : Int) - 32) = (m : Int) := by rw [hm]; exact (w64_in _ (by omega)).trans (by omega)
  have e5 : IntKind.i64.wrap ((n : Int) - 32) = (m : Int) := by rw [hm, IntKind.wrap_i64]; omega
  have e1 : IntKind.i64.wrap (n : Int) = (n : Int) := by rw [IntKind.wrap_i64]; omega
  have e3 : wrap64 (n : Int) = (n : Int) := w64_in _ (by omega)
  have hlt := hlo
  clear hm hR hn hM hx0 hx1 hx2 hx3 hx4 hx5 hx6 hx7
  go_enter Try.func64, Try.ntmps64
  go_upto_region 1 with fail
  obtain ⟨w1, hw1⟩ : ∃ w1, w1 = (w.alloc (.cells #[.bool e, .int .u32 (n : Int), .bool q, .int .i64 l, .int .u8 (x0 : Int), .int .u8 (x1 : Int), .int .u8 (x2 : Int), .int .u8 (x3 : Int), .int .u8 (x4 : Int), .int .u8 (x5 : Int), .int .u8 (x6 : Int), .int .u8 (x7 : Int)] 71)).alloc (.cells #[.bool false, .int .i64 0, .int .i64 0, .int .i64 0] 75) := ⟨_, rfl⟩
  rw [← hw1]
  have HF := Lib.hid (show Blk w1 w.heap.size 71 [.bool e, .int .u32 (n : Int), .bool q, .int .i64 l, .int .u8 (x0 : Int), .int .u8 (x1 : Int), .int .u8 (x2 : Int), .int .u8 (x3 : Int), .int .u8 (x4 : Int), .int .u8 (x5 : Int), .int .u8 (x6 : Int), .int .u8 (x7 : Int)] by rw [hw1]; exact (Blk.new w 71 [.bool e, .int .u32 (n : Int), .bool q, .int .i64 l, .int .u8 (x0 : Int), .int .u8 (x1 : Int), .int .u8 (x2 : Int), .int .u8 (x3 : Int), .int .u8 (x4 : Int), .int .u8 (x5 : Int), .int .u8 (x6 : Int), .int .u8 (x7 : Int)]).keep ((Below.refl _ _).alloc (Nat.le_refl _) _) (by simp))
  have HR1 := Lib.hid (show Blk w1 (w.heap.size + 1) 75 [.bool false, .int .i64 0, .int .i64 0, .int .i64 0] by rw [hw1]; exact blk_two w _ 75 [.bool false, .int .i64 0, .int .i64 0, .int .i64 0])
  have HB1 := Lib.hid (show Below w.heap.size w w1 by rw [hw1]; exact ((Below.refl _ w).alloc (Nat.le_refl _) _).alloc (by simp) _)
  clear hw1
  have q1 : w1.cell? ⟨w.heap.size, 1, none⟩ = some (.int .u32 (n : Int)) := HF.out.cellAt (i := 1) (by simp)
  have q1d : w1.drew.cell? ⟨w.heap.size, 1, none⟩ = some (.int .u32 (n : Int)) := HF.out.cellAt (i := 1) (by simp)
  have hs2 := fun u => slice2 w.heap.size u
  have HS := Lib.hid (show ∀ u, Below w1.heap.size w1 u → (Below w1.heap.size w1 u ∧ u.cell? ⟨w.heap.size, 1, none⟩ = some (.int .u32 (n : Int))) from fun u hu => ⟨hu, (HF.out.keep hu HF.out.lt).cellAt (i := 1) (by simp)⟩)
  have HSA := Lib.hid (show ∀ u o, (Below w1.heap.size w1 u ∧ u.cell? ⟨w.heap.size, 1, none⟩ = some (.int .u32 (n : Int))) → (Below w1.heap.size w1 (u.alloc o) ∧ (u.alloc o).cell? ⟨w.heap.size, 1, none⟩ = some (.int .u32 (n : Int))) from fun u o hu => HS.out _ (hu.1.alloc hu.1.size _))
  have HNN := Lib.hid (show ∀ u, (Below w1.heap.size w1 u ∧ u.cell? ⟨w.heap.size, 1, none⟩ = some (.int .u32 (n : Int))) → Calls Try.prog 87 #[.slice (some ⟨w.heap.size, 4, none⟩) 2 8] u fun x w' => x = .returned (.int .i64 (R : Int)) ∧ Below u.heap.size u w' ∧ (Below w1.heap.size w1 w' ∧ w'.cell? ⟨w.heap.size, 1, none⟩ = some (.int .u32 (n : Int))) from fun u hu => (HN2.out u _ (HF.out.keep hu.1 HF.out.lt)).mono fun _ _ h => ⟨h.1, h.2, HS.out _ (hu.1.trans (h.2.mono hu.1.size))⟩)
  have k0 := HS.out _ (Below.refl w1.heap.size w1).drew
  have HD1 := Lib.hid (fun o => HS.out _ ((Below.refl w1.heap.size w1).alloc (Nat.le_refl _) o).drew)
  clear q1 q1d
  go_cut [3] (fun s3 wx => ∃ D, s3 = .pointer (some ⟨D, 0, none⟩) ∧ w1.heap.size ≤ D ∧ Blk wx D 75 [.bool false, .int .i64 (n : Int), .int .i64 (R : Int), .int .i64 0] ∧ Below w1.heap.size w1 wx)
  case first =>
    go_region_held3 (fun u => (Below w1.heap.size w1 u ∧ u.cell? ⟨w.heap.size, 1, none⟩ = some (.int .u32 (n : Int)))) (first | (with_reducible assumption) | (with_reducible exact HSA.out _ _ (by assumption)) | (with_reducible exact HS.out _ (below4 hge h2.1 _ _ _ _)) | (exact HD1.out _)) (first | (go_at_call 87; refine (HNN.out _ (by assumption)).mono ?_; rintro x w2 ⟨rfl, hb2, h2⟩; (first | (have FZ := Lib.hid (by with_reducible exact fz4d w1 (Below.refl _ _) hb2)) | (have FZ := Lib.hid (by with_reducible exact fz4 w1 (Below.refl _ _) hb2)) | skip); (first | (have FX := FZ.out; have z0 := FX.2.cellAt (i := 0) (by simp); have z1 := FX.2.cellAt (i := 1) (by simp); have z2 := FX.2.cellAt (i := 2) (by simp); have z3 := FX.2.cellAt (i := 3) (by simp); simp only [List.getElem_cons_zero, List.getElem_cons_succ] at z0 z1 z2 z3; have g0 := FX.2.frozenAt 0; have g1 := FX.2.frozenAt 1; have g2 := FX.2.frozenAt 2; have g3 := FX.2.frozenAt 3; have hge := FX.1; clear FX) | skip)))
    all_goals (go_wp2_with fail; go_meet; first | exact ⟨_, rfl, hge, FZ.out.2.set [.bool false, .int .i64 (n : Int), .int .i64 (R : Int), .int .i64 0] rfl, below4 hge h2.1 _ _ _ _⟩ | exact ⟨_, rfl, h2.1.size, Blk.new w2 75 [.bool false, .int .i64 (n : Int), .int .i64 (R : Int), .int .i64 0], h2.1.alloc h2.1.size _⟩)
  case rest =>
  obtain ⟨W2, hW2⟩ : ∃ W2, W2 = wc := ⟨_, rfl⟩
  rw [← hW2] at hcut ⊢
  clear hW2
  obtain ⟨D, rfl, hD, hS, hb⟩ := hcut
  have HD := Lib.hid hD; have HS := Lib.hid hS; have HB2 := Lib.hid (HB1.out.trans (hb.mono HB1.out.size)); have HR2 := Lib.hid (HR1.out.keep hb HR1.out.lt); have HF2 := Lib.hid (HF.out.keep hb HF.out.lt)
  clear hD hS hb hs2 k0
  have q0 : W2.cell? ⟨D, 0, none⟩ = some (.bool false) := HS.out.cellAt (i := 0) (by simp)
  have q1 : W2.cell? ⟨D, 1, none⟩ = some (.int .i64 (n : Int)) := HS.out.cellAt (i := 1) (by simp)
  have q2 : W2.cell? ⟨D, 2, none⟩ = some (.int .i64 (R : Int)) := HS.out.cellAt (i := 2) (by simp)
  have q3 : W2.cell? ⟨D, 3, none⟩ = some (.int .i64 0) := HS.out.cellAt (i := 3) (by simp)
  have g0 : W2.frozen? ⟨D, 0, none⟩ = false := HS.out.frozenAt 0
  have g1 : W2.frozen? ⟨D, 1, none⟩ = false := HS.out.frozenAt 1
  have g2 : W2.frozen? ⟨D, 2, none⟩ = false := HS.out.frozenAt 2
  have g3 : W2.frozen? ⟨D, 3, none⟩ = false := HS.out.frozenAt 3
  go_upto_region 5 with fail
  obtain ⟨W3, hW3⟩ : ∃ W3, W3 = ((W2.setCell ⟨D, 0, none⟩ (.bool true)).setCell ⟨D, 1, none⟩ (.int .i64 (m : Int))) := ⟨_, rfl⟩
  rw [← hW3]
  have HDN := Lib.hid (show D ≠ w.heap.size ∧ D ≠ w.heap.size + 1 by have := HD.out; have := HR1.out.lt; omega)
  have HS3 := Lib.hid (show Blk W3 D 75 [.bool true, .int .i64 (m : Int), .int .i64 (R : Int), .int .i64 0] by rw [hW3]; exact (HS.out.put1 (i := 0) (by simp) _).put1 (i := 1) (by simp) _)
  have HF3 := Lib.hid (show Blk W3 w.heap.size 71 [.bool e, .int .u32 (n : Int), .bool q, .int .i64 l, .int .u8 (x0 : Int), .int .u8 (x1 : Int), .int .u8 (x2 : Int), .int .u8 (x3 : Int), .int .u8 (x4 : Int), .int .u8 (x5 : Int), .int .u8 (x6 : Int), .int .u8 (x7 : Int)] by rw [hW3]; exact (HF2.out.puts HDN.out.1 0 _).puts HDN.out.1 1 _)
  have HR3 := Lib.hid (show Blk W3 (w.heap.size + 1) 75 [.bool false, .int .i64 0, .int .i64 0, .int .i64 0] by rw [hW3]; exact (HR2.out.puts HDN.out.2 0 _).puts HDN.out.2 1 _)
  have HB3 := Lib.hid (show Below w.heap.size w W3 by rw [hW3]; exact (HB2.out.setCell (p := ⟨D, 0, none⟩) (by have := HD.out; have := HR1.out.lt; show _ ≤ D; omega) _).setCell (p := ⟨D, 1, none⟩) (by have := HD.out; have := HR1.out.lt; show _ ≤ D; omega) _)
  clear hW3 q0 q1 q2 q3 g0 g1 g2 g3
  have hs6 := fun u => slice6 w.heap.size u
  go_wp2_with fail
  refine (HN6.out _ _ HF3.out).mono ?_
  rintro y W4 ⟨rfl, hb⟩
  have HS4 := Lib.hid (HS3.out.keep hb HS3.out.lt); have HR4 := Lib.hid (HR3.out.keep hb HR3.out.lt); have HB4 := Lib.hid (below_transG HB3.out hb)
  have q3 : W4.cell? ⟨D, 3, none⟩ = some (.int .i64 0) := HS4.out.cellAt (i := 3) (by simp)
  have g3 : W4.frozen? ⟨D, 3, none⟩ = false := HS4.out.frozenAt 3
  clear hb hs6
  go_upto_region 6 with fail
  obtain ⟨W5, hW5⟩ : ∃ W5, W5 = W4.setCell ⟨D, 3, none⟩ (.int .i64 (M : Int)) := ⟨_, rfl⟩
  rw [← hW5]
  have HS5 := Lib.hid (show Blk W5 D 75 [.bool true, .int .i64 (m : Int), .int .i64 (R : Int), .int .i64 (M : Int)] by rw [hW5]; exact HS4.out.put1 (i := 3) (by simp) _)
  have HR5 := Lib.hid (show Blk W5 (w.heap.size + 1) 75 [.bool false, .int .i64 0, .int .i64 0, .int .i64 0] by rw [hW5]; exact HR4.out.puts HDN.out.2 3 _)
  have HB5 := Lib.hid (show Below w.heap.size w W5 by rw [hW5]; exact HB4.out.setCell (p := ⟨D, 3, none⟩) (by have := HD.out; have := HR1.out.lt; show _ ≤ D; omega) _)
  clear hW5 q3 g3
  have q0 : W5.cell? ⟨D, 0, none⟩ = some (.bool true) := HS5.out.cellAt (i := 0) (by simp)
  have q1 : W5.cell? ⟨D, 1, none⟩ = some (.int .i64 (m : Int)) := HS5.out.cellAt (i := 1) (by simp)
  have q2 : W5.cell? ⟨D, 2, none⟩ = some (.int .i64 (R : Int)) := HS5.out.cellAt (i := 2) (by simp)
  have q3 : W5.cell? ⟨D, 3, none⟩ = some (.int .i64 (M : Int)) := HS5.out.cellAt (i := 3) (by simp)
  have d0 : W5.cell? ⟨w.heap.size + 1, 0, none⟩ = some (.bool false) := HR5.out.cellAt (i := 0) (by simp)
  have d1 : W5.cell? ⟨w.heap.size + 1, 1, none⟩ = some (.int .i64 0) := HR5.out.cellAt (i := 1) (by simp)
  have d2 : W5.cell? ⟨w.heap.size + 1, 2, none⟩ = some (.int .i64 0) := HR5.out.cellAt (i := 2) (by simp)
  have d3 : W5.cell? ⟨w.heap.size + 1, 3, none⟩ = some (.int .i64 0) := HR5.out.cellAt (i := 3) (by simp)
  have p0 : W5.frozen? ⟨w.heap.size + 1, 0, none⟩ = false := HR5.out.frozenAt 0
  have p1 : W5.frozen? ⟨w.heap.size + 1, 1, none⟩ = false := HR5.out.frozenAt 1
  have p2 : W5.frozen? ⟨w.heap.size + 1, 2, none⟩ = false := HR5.out.frozenAt 2
  have p3 : W5.frozen? ⟨w.heap.size + 1, 3, none⟩ = false := HR5.out.frozenAt 3
  go_wp2_with fail
  obtain ⟨W, hWW⟩ : ∃ W, W = ((((W5.setCell ⟨w.heap.size + 1, 0, none⟩ (.bool true)).setCell ⟨w.heap.size + 1, 1, none⟩ (.int .i64 (m : Int))).setCell ⟨w.heap.size + 1, 2, none⟩ (.int .i64 (R : Int))).setCell ⟨w.heap.size + 1, 3, none⟩ (.int .i64 (M : Int))) := ⟨_, rfl⟩
  rw [← hWW]
  have hRS : Blk W (w.heap.size + 1) 75 [.bool true, .int .i64 (m : Int), .int .i64 (R : Int), .int .i64 (M : Int)] := by rw [hWW]; exact (HR5.out).set [.bool true, .int .i64 (m : Int), .int .i64 (R : Int), .int .i64 (M : Int)] rfl
  have hb := (show Below w.heap.size w W by rw [hWW]; exact Go.below_setCells (by first | omega | simp) [.bool true, .int .i64 (m : Int), .int .i64 (R : Int), .int .i64 (M : Int)] 0 _ HB5.out)
  clear hWW
  have z0 : W.cell? ⟨w.heap.size + 1, 0, none⟩ = some (.bool true) := hRS.cellAt (i := 0) (by simp)
  have z1 : W.cell? ⟨w.heap.size + 1, 1, none⟩ = some (.int .i64 (m : Int)) := hRS.cellAt (i := 1) (by simp)
  have z2 : W.cell? ⟨w.heap.size + 1, 2, none⟩ = some (.int .i64 (R : Int)) := hRS.cellAt (i := 2) (by simp)
  have z3 : W.cell? ⟨w.heap.size + 1, 3, none⟩ = some (.int .i64 (M : Int)) := hRS.cellAt (i := 3) (by simp)
  exact bodyPost_ret (v := .agg #[.bool true, .int .i64 (m : Int), .int .i64 (R : Int), .int .i64 (M : Int)]) (by simp [results, Try.results64, go_sem, z0, z1, z2, z3]) rfl ⟨rfl, hb⟩
end Go.Proofs.Ytpamkmpaldepnaa
