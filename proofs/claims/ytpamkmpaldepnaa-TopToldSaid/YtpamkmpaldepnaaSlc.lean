/- Package slave: a word's frame. Conditions: each theorem says its own. -/
import Derived.Test.YtpamkmpaldepnaaSlb
import Derived.Test.YtpamkmpaldepnaaFca
import Derived.Test.YtpamkmpaldepnaaFrc
import Derived.Laws.AppendOwn
import Derived.Laws.CopyOwn
import Derived.Lib.LazyBuf
namespace Go.Proofs.Ytpamkmpaldepnaa
open Go.RowKit
theorem below_boxes {w w1 : World} {o o2 : Obj} (hb : Below ((w.alloc o).alloc o2).heap.size ((w.alloc o).alloc o2) w1) : Below w.heap.size w w1 := below_transG (((Below.refl _ w).alloc (Nat.le_refl _) o).alloc (by simp) o2) hb
theorem row_cells {W : World} {g : Nat} {E : TypeId} {bs : List Nat} (h : W.rowIs g E bs.length (fun j => .int .u8 ((bs[j]?.getD 0 : Nat) : Int))) : ∀ j v, (bs.map (fun n : Nat => Value.int .u8 ((n : Nat) : Int)))[j]? = some v → W.cell? ((⟨g, 0, none⟩ : Addr).add j) = some v := by
  intro j v hv
  rw [List.getElem?_map] at hv
  cases hj : bs[j]? with
  | none => rw [hj] at hv; cases hv
  | some x =>
    rw [hj] at hv
    obtain rfl : Value.int .u8 (x : Int) = v := by simpa using hv
    have hl : j < bs.length := (List.getElem?_eq_some_iff.1 hj).1
    have hc := h.cell hl
    rw [hj] at hc
    have e : (⟨g, 0, none⟩ : Addr).add j = ⟨g, j, none⟩ := by cases j <;> simp [Addr.add]
    rw [e]
    exact hc
theorem ow_same {B : Nat} {W X : World} {v : Value} {bs : List Nat} (h : Ow B W v bs) (hb : ∀ k, v.ownBlock = some k → X.heap[k]? = W.heap[k]?) : Ow B X v bs := by
  obtain ⟨h1, h2⟩ := h
  refine ⟨h1, ?_⟩
  rcases h2 with h2 | ⟨g, cap, cur, rfl, a, b, c⟩
  · exact .inl h2
  · exact .inr ⟨g, cap, cur, rfl, a, (hb g rfl).trans b, c⟩
theorem Ow.lt' {B : Nat} {W : World} {v : Value} {bs : List Nat} (h : Ow B W v bs) : ∀ k, v.ownBlock = some k → k < W.heap.size := fun k e => (World.ownsRow.lt h k e).2
theorem flat_u8 (bs : List Nat) : ∀ v ∈ bs.map (fun n : Nat => Value.int .u8 ((n : Nat) : Int)), v.oneCell' = true := by
  intro v hv
  obtain ⟨n, _, rfl⟩ := List.mem_map.1 hv
  rfl
theorem all8s (B : Nat) (w : World) : Sem.run Try.prog (Instr.sliceAt 69 (.pointer (some ⟨B, 4, none⟩)) none none none) w = .ok (.slice (some ⟨B, 4, none⟩) 8 8) w := by
  have ha : Try.prog.arrayLen 69 = 8 := by kernel_rfl
  have hs : (sizeOf (Try.prog.elem 69)).run Try.prog w = .ok 1 w := by kernel_rfl
  have h := run_sliceAt_array_all (P := Try.prog) w 69 ⟨B, 4, none⟩ (by kernel_rfl)
  rw [ha, hs] at h
  exact h
theorem slframe_no (f : Bool) (r n t : Int) (h : rightW f r n t = false) (w : World) : Calls Try.prog 34 #[.agg #[.bool f, .int .i64 r, .int .i64 n, .int .i64 t]] w fun y w' => y = .returned (.tuple #[.agg #[.bool false, .int .u32 0, .bool false, .int .i64 0, .int .u8 0, .int .u8 0, .int .u8 0, .int .u8 0, .int .u8 0, .int .u8 0, .int .u8 0, .int .u8 0], .int .i64 1]) ∧ Below w.heap.size w w' := by
  have HR := Lib.hid (fun u => slright_any f r n t u)
  rw [h] at HR
  clear h
  go_enter Try.func34, Try.ntmps34
  go_wp2_with fail
  refine (HR.out _).mono ?_
  rintro y w1 ⟨rfl, hb⟩
  have HB := Lib.hid (below_boxes hb)
  have hZ : Blk w1 (w.heap.size + 1) 71 [.bool false, .int .u32 0, .bool false, .int .i64 0, .int .u8 0, .int .u8 0, .int .u8 0, .int .u8 0, .int .u8 0, .int .u8 0, .int .u8 0, .int .u8 0] := (blk_two w _ 71 [.bool false, .int .u32 0, .bool false, .int .i64 0, .int .u8 0, .int .u8 0, .int .u8 0, .int .u8 0, .int .u8 0, .int .u8 0, .int .u8 0, .int .u8 0]).keep hb (by simp)
  have HZ := Lib.hid hZ
  have d0 : w1.cell? ⟨w.heap.size + 1, 0, none⟩ = some (.bool false) := hZ.cellAt (i := 0) (by simp)
  have d1 : w1.cell? ⟨w.heap.size + 1, 1, none⟩ = some (.int .u32 0) := hZ.cellAt (i := 1) (by simp)
  have d2 : w1.cell? ⟨w.heap.size + 1, 2, none⟩ = some (.bool false) := hZ.cellAt (i := 2) (by simp)
  have d3 : w1.cell? ⟨w.heap.size + 1, 3, none⟩ = some (.int .i64 0) := hZ.cellAt (i := 3) (by simp)
  have d4 : w1.cell? ⟨w.heap.size + 1, 4, none⟩ = some (.int .u8 0) := hZ.cellAt (i := 4) (by simp)
  have d5 : w1.cell? ⟨w.heap.size + 1, 5, none⟩ = some (.int .u8 0) := hZ.cellAt (i := 5) (by simp)
  have d6 : w1.cell? ⟨w.heap.size + 1, 6, none⟩ = some (.int .u8 0) := hZ.cellAt (i := 6) (by simp)
  have d7 : w1.cell? ⟨w.heap.size + 1, 7, none⟩ = some (.int .u8 0) := hZ.cellAt (i := 7) (by simp)
  have d8 : w1.cell? ⟨w.heap.size + 1, 8, none⟩ = some (.int .u8 0) := hZ.cellAt (i := 8) (by simp)
  have d9 : w1.cell? ⟨w.heap.size + 1, 9, none⟩ = some (.int .u8 0) := hZ.cellAt (i := 9) (by simp)
  have d10 : w1.cell? ⟨w.heap.size + 1, 10, none⟩ = some (.int .u8 0) := hZ.cellAt (i := 10) (by simp)
  have d11 : w1.cell? ⟨w.heap.size + 1, 11, none⟩ = some (.int .u8 0) := hZ.cellAt (i := 11) (by simp)
  have p0 : w1.frozen? ⟨w.heap.size + 1, 0, none⟩ = false := hZ.frozenAt 0
  have p1 : w1.frozen? ⟨w.heap.size + 1, 1, none⟩ = false := hZ.frozenAt 1
  have p2 : w1.frozen? ⟨w.heap.size + 1, 2, none⟩ = false := hZ.frozenAt 2
  have p3 : w1.frozen? ⟨w.heap.size + 1, 3, none⟩ = false := hZ.frozenAt 3
  have p4 : w1.frozen? ⟨w.heap.size + 1, 4, none⟩ = false := hZ.frozenAt 4
  have p5 : w1.frozen? ⟨w.heap.size + 1, 5, none⟩ = false := hZ.frozenAt 5
  have p6 : w1.frozen? ⟨w.heap.size + 1, 6, none⟩ = false := hZ.frozenAt 6
  have p7 : w1.frozen? ⟨w.heap.size + 1, 7, none⟩ = false := hZ.frozenAt 7
  have p8 : w1.frozen? ⟨w.heap.size + 1, 8, none⟩ = false := hZ.frozenAt 8
  have p9 : w1.frozen? ⟨w.heap.size + 1, 9, none⟩ = false := hZ.frozenAt 9
  have p10 : w1.frozen? ⟨w.heap.size + 1, 10, none⟩ = false := hZ.frozenAt 10
  have p11 : w1.frozen? ⟨w.heap.size + 1, 11, none⟩ = false := hZ.frozenAt 11
  clear hb hZ
  go_wp2_with fail
  obtain ⟨W, hWW⟩ : ∃ W, W = ((((((((((((w1.setCell ⟨w.heap.size + 1, 0, none⟩ (.bool false)).setCell ⟨w.heap.size + 1, 1, none⟩ (.int .u32 0)).setCell ⟨w.heap.size + 1, 2, none⟩ (.bool false)).setCell ⟨w.heap.size + 1, 3, none⟩ (.int .i64 0)).setCell ⟨w.heap.size + 1, 4, none⟩ (.int .u8 0)).setCell ⟨w.heap.size + 1, 5, none⟩ (.int .u8 0)).setCell ⟨w.heap.size + 1, 6, none⟩ (.int .u8 0)).setCell ⟨w.heap.size + 1, 7, none⟩ (.int .u8 0)).setCell ⟨w.heap.size + 1, 8, none⟩ (.int .u8 0)).setCell ⟨w.heap.size + 1, 9, none⟩ (.int .u8 0)).setCell ⟨w.heap.size + 1, 10, none⟩ (.int .u8 0)).setCell ⟨w.heap.size + 1, 11, none⟩ (.int .u8 0)) := ⟨_, rfl⟩
  rw [← hWW]
  have hRS : Blk W (w.heap.size + 1) 71 [.bool false, .int .u32 0, .bool false, .int .i64 0, .int .u8 0, .int .u8 0, .int .u8 0, .int .u8 0, .int .u8 0, .int .u8 0, .int .u8 0, .int .u8 0] := by rw [hWW]; exact (HZ.out).set [.bool false, .int .u32 0, .bool false, .int .i64 0, .int .u8 0, .int .u8 0, .int .u8 0, .int .u8 0, .int .u8 0, .int .u8 0, .int .u8 0, .int .u8 0] rfl
  have hb := (show Below w.heap.size w W by rw [hWW]; exact Go.below_setCells (by first | omega | simp) [.bool false, .int .u32 0, .bool false, .int .i64 0, .int .u8 0, .int .u8 0, .int .u8 0, .int .u8 0, .int .u8 0, .int .u8 0, .int .u8 0, .int .u8 0] 0 _ HB.out)
  clear hWW
  have z0 : W.cell? ⟨w.heap.size + 1, 0, none⟩ = some (.bool false) := hRS.cellAt (i := 0) (by simp)
  have z1 : W.cell? ⟨w.heap.size + 1, 1, none⟩ = some (.int .u32 0) := hRS.cellAt (i := 1) (by simp)
  have z2 : W.cell? ⟨w.heap.size + 1, 2, none⟩ = some (.bool false) := hRS.cellAt (i := 2) (by simp)
  have z3 : W.cell? ⟨w.heap.size + 1, 3, none⟩ = some (.int .i64 0) := hRS.cellAt (i := 3) (by simp)
  have z4 : W.cell? ⟨w.heap.size + 1, 4, none⟩ = some (.int .u8 0) := hRS.cellAt (i := 4) (by simp)
  have z5 : W.cell? ⟨w.heap.size + 1, 5, none⟩ = some (.int .u8 0) := hRS.cellAt (i := 5) (by simp)
  have z6 : W.cell? ⟨w.heap.size + 1, 6, none⟩ = some (.int .u8 0) := hRS.cellAt (i := 6) (by simp)
  have z7 : W.cell? ⟨w.heap.size + 1, 7, none⟩ = some (.int .u8 0) := hRS.cellAt (i := 7) (by simp)
  have z8 : W.cell? ⟨w.heap.size + 1, 8, none⟩ = some (.int .u8 0) := hRS.cellAt (i := 8) (by simp)
  have z9 : W.cell? ⟨w.heap.size + 1, 9, none⟩ = some (.int .u8 0) := hRS.cellAt (i := 9) (by simp)
  have z10 : W.cell? ⟨w.heap.size + 1, 10, none⟩ = some (.int .u8 0) := hRS.cellAt (i := 10) (by simp)
  have z11 : W.cell? ⟨w.heap.size + 1, 11, none⟩ = some (.int .u8 0) := hRS.cellAt (i := 11) (by simp)
  exact bodyPost_ret (v := .tuple #[.agg #[.bool false, .int .u32 0, .bool false, .int .i64 0, .int .u8 0, .int .u8 0, .int .u8 0, .int .u8 0, .int .u8 0, .int .u8 0, .int .u8 0, .int .u8 0], .int .i64 1]) (by simp [results, Try.results34, go_sem, z0, z1, z2, z3, z4, z5, z6, z7, z8, z9, z10, z11]) rfl ⟨rfl, hb⟩
set_option maxHeartbeats 1000000 in
theorem slframe_turn (r n : Nat) (hr : r < 32) (hn : n < 65536) (w : World) : Calls Try.prog 34 #[.agg #[.bool false, .int .i64 (r : Int), .int .i64 (n : Int), .int .i64 0]] w fun y w' => y = .returned (.tuple #[.agg #[.bool false, .int .u32 (r : Int), .bool false, .int .i64 2, .int .u8 ((n / 256 % 256 : Nat) : Int), .int .u8 ((n % 256 : Nat) : Int), .int .u8 0, .int .u8 0, .int .u8 0, .int .u8 0, .int .u8 0, .int .u8 0], .int .i64 0]) ∧ Below w.heap.size w w' := by
  have HR := Lib.hid (fun u => slright_any false r n 0 u)
  rw [rightW_yes (by simp; omega)] at HR
  have HY := Lib.hid (show ∀ u : World, Calls Try.prog 62 #[.int .i64 (n : Int), .int .i64 2] u fun y w' => ∃ v, y = .returned v ∧ Made u.heap.size w' v [n / 256 % 256, n % 256] ∧ Below u.heap.size u w' from fun u => by
    have h := bytes_int n 2 (by omega) (by decide) (by decide) u
    rw [beB_2] at h
    exact h)
  obtain ⟨p, hp⟩ : ∃ p, p = n / 256 % 256 := ⟨_, rfl⟩
  obtain ⟨q, hq⟩ : ∃ q, q = n % 256 := ⟨_, rfl⟩
  rw [← hp, ← hq] at HY
  rw [← hp, ← hq]
  have e1 : IntKind.u32.wrap (r : Int) = (r : Int) := by rw [IntKind.wrap_u32]; omega
  have hi := (show Try.prog.info? 5 = some ((Try.prog.info? 5).get!) by kernel_rfl)
  clear hp hq hr hn
  go_enter Try.func34, Try.ntmps34
  go_wp2_with fail
  refine (HR.out _).mono ?_
  rintro y w1 ⟨rfl, hb⟩
  have HB := Lib.hid (below_boxes hb)
  have hZ : Blk w1 (w.heap.size + 1) 71 [.bool false, .int .u32 0, .bool false, .int .i64 0, .int .u8 0, .int .u8 0, .int .u8 0, .int .u8 0, .int .u8 0, .int .u8 0, .int .u8 0, .int .u8 0] := (blk_two w _ 71 [.bool false, .int .u32 0, .bool false, .int .i64 0, .int .u8 0, .int .u8 0, .int .u8 0, .int .u8 0, .int .u8 0, .int .u8 0, .int .u8 0, .int .u8 0]).keep hb (by simp)
  have hS : Blk w1 w.heap.size 75 [.bool false, .int .i64 (r : Int), .int .i64 (n : Int), .int .i64 0] := ((Blk.new w 75 [.bool false, .int .i64 (r : Int), .int .i64 (n : Int), .int .i64 0]).keep ((Below.refl _ _).alloc (Nat.le_refl _) _) (by simp)).keep hb (by simp only [World.size_alloc]; omega)
  have HZ := Lib.hid hZ; have HS := Lib.hid hS
  have q0 : w1.cell? ⟨w.heap.size, 0, none⟩ = some (.bool false) := hS.cellAt (i := 0) (by simp)
  have q1 : w1.cell? ⟨w.heap.size, 1, none⟩ = some (.int .i64 (r : Int)) := hS.cellAt (i := 1) (by simp)
  have q2 : w1.cell? ⟨w.heap.size, 2, none⟩ = some (.int .i64 (n : Int)) := hS.cellAt (i := 2) (by simp)
  have q3 : w1.cell? ⟨w.heap.size, 3, none⟩ = some (.int .i64 0) := hS.cellAt (i := 3) (by simp)
  clear hb hZ hS
  go_upto_region 4 with fail
  obtain ⟨w2, hw2⟩ : ∃ w2, w2 = w1.alloc (.cells #[.bool false, .int .u32 (r : Int), .bool false, .int .i64 0, .int .u8 0, .int .u8 0, .int .u8 0, .int .u8 0, .int .u8 0, .int .u8 0, .int .u8 0, .int .u8 0] 71) := ⟨_, rfl⟩
  rw [← hw2]
  have HF2 := Lib.hid (show Blk w2 w1.heap.size 71 [.bool false, .int .u32 (r : Int), .bool false, .int .i64 0, .int .u8 0, .int .u8 0, .int .u8 0, .int .u8 0, .int .u8 0, .int .u8 0, .int .u8 0, .int .u8 0] by rw [hw2]; exact Blk.new w1 71 [.bool false, .int .u32 (r : Int), .bool false, .int .i64 0, .int .u8 0, .int .u8 0, .int .u8 0, .int .u8 0, .int .u8 0, .int .u8 0, .int .u8 0, .int .u8 0])
  have hb2 : Below w1.heap.size w1 w2 := by rw [hw2]; exact (Below.refl _ _).alloc (Nat.le_refl _) _
  have HB2 := Lib.hid (below_transG HB.out hb2); have HZ2 := Lib.hid (HZ.out.keep hb2 HZ.out.lt); have HS2 := Lib.hid (HS.out.keep hb2 HS.out.lt)
  clear hw2 hb2 q0 q1 q2 q3
  have q0 : w2.cell? ⟨w.heap.size, 0, none⟩ = some (.bool false) := HS2.out.cellAt (i := 0) (by simp)
  have q1 : w2.cell? ⟨w.heap.size, 1, none⟩ = some (.int .i64 (r : Int)) := HS2.out.cellAt (i := 1) (by simp)
  have q2 : w2.cell? ⟨w.heap.size, 2, none⟩ = some (.int .i64 (n : Int)) := HS2.out.cellAt (i := 2) (by simp)
  have q3 : w2.cell? ⟨w.heap.size, 3, none⟩ = some (.int .i64 0) := HS2.out.cellAt (i := 3) (by simp)
  go_wp2_with fail
  refine (HY.out _).mono ?_
  rintro y w3 ⟨v, rfl, hm, hb⟩
  obtain ⟨g, rfl, hg, hl, hrow⟩ := hm
  have HG := Lib.hid hg
  have HR3 := Lib.hid hrow
  have HB3 := Lib.hid (below_transG HB2.out hb); have HZ3 := Lib.hid (HZ2.out.keep hb HZ2.out.lt); have HS3 := Lib.hid (HS2.out.keep hb HS2.out.lt); have HF3 := Lib.hid (HF2.out.keep hb HF2.out.lt)
  clear hb hg hrow hl q0 q1 q2 q3
  have q0 : w3.cell? ⟨w.heap.size, 0, none⟩ = some (.bool false) := HS3.out.cellAt (i := 0) (by simp)
  have q1 : w3.cell? ⟨w.heap.size, 1, none⟩ = some (.int .i64 (r : Int)) := HS3.out.cellAt (i := 1) (by simp)
  have q2 : w3.cell? ⟨w.heap.size, 2, none⟩ = some (.int .i64 (n : Int)) := HS3.out.cellAt (i := 2) (by simp)
  have q3 : w3.cell? ⟨w.heap.size, 3, none⟩ = some (.int .i64 0) := HS3.out.cellAt (i := 3) (by simp)
  go_upto_region 8 with fail
  clear q0 q1 q2 q3
  have hs8 := fun u => all8s w1.heap.size u
  have hcells := row_cells HR3.out
  go_wp2_with (refine wpList_copy_splice rfl (.tmp 32) (.tmp 33) 108 108 rfl 5 Try.underlying108 (by kernel_rfl) _ _ _ _ _ _ rfl rfl w1.heap.size 4 [.bool false, .int .u32 (r : Int), .bool false, .int .i64 0, .int .u8 0, .int .u8 0, .int .u8 0, .int .u8 0, .int .u8 0, .int .u8 0, .int .u8 0, .int .u8 0] 71 HF3.out ([p, q].map (fun n : Nat => Value.int .u8 ((n : Nat) : Int))) rfl (fun _ => ⟨rfl, _, rfl, hcells⟩) (by simp) (flat_u8 _) w1.heap.size w3 (Below.refl _ _) (Nat.le_refl _) ?_)
  intro w4 hg4 hb4
  have HF4 := Lib.hid (show Blk w4 w1.heap.size 71 [.bool false, .int .u32 (r : Int), .bool false, .int .i64 0, .int .u8 (p : Int), .int .u8 (q : Int), .int .u8 0, .int .u8 0, .int .u8 0, .int .u8 0, .int .u8 0, .int .u8 0] from hg4.out)
  have HB4 := Lib.hid (HB3.out.trans (hb4.mono HB.out.size)); have HZ4 := Lib.hid (HZ3.out.keep hb4 HZ.out.lt)
  clear hg4 hb4 hcells
  have d3 : w4.cell? ⟨w1.heap.size, 3, none⟩ = some (.int .i64 0) := HF4.out.cellAt (i := 3) (by simp)
  have p3 : w4.frozen? ⟨w1.heap.size, 3, none⟩ = false := HF4.out.frozenAt 3
  go_upto_region 9 with fail
  obtain ⟨w5, hw5⟩ : ∃ w5, w5 = w4.setCell ⟨w1.heap.size, 3, none⟩ (.int .i64 2) := ⟨_, rfl⟩
  rw [← hw5]
  have HF5 := Lib.hid (show Blk w5 w1.heap.size 71 [.bool false, .int .u32 (r : Int), .bool false, .int .i64 2, .int .u8 (p : Int), .int .u8 (q : Int), .int .u8 0, .int .u8 0, .int .u8 0, .int .u8 0, .int .u8 0, .int .u8 0] by rw [hw5]; exact HF4.out.put1 (i := 3) (by simp) _)
  have HZ5 := Lib.hid (show Blk w5 (w.heap.size + 1) 71 [.bool false, .int .u32 0, .bool false, .int .i64 0, .int .u8 0, .int .u8 0, .int .u8 0, .int .u8 0, .int .u8 0, .int .u8 0, .int .u8 0, .int .u8 0] by rw [hw5]; exact HZ4.out.puts (by have := HZ.out.lt; omega) 3 _)
  have HB5 := Lib.hid (show Below w.heap.size w w5 by rw [hw5]; exact HB4.out.setCell (p := ⟨w1.heap.size, 3, none⟩) HB.out.size _)
  clear hw5 d3 p3
  have q0 : w5.cell? ⟨w1.heap.size, 0, none⟩ = some (.bool false) := HF5.out.cellAt (i := 0) (by simp)
  have q1 : w5.cell? ⟨w1.heap.size, 1, none⟩ = some (.int .u32 (r : Int)) := HF5.out.cellAt (i := 1) (by simp)
  have q2 : w5.cell? ⟨w1.heap.size, 2, none⟩ = some (.bool false) := HF5.out.cellAt (i := 2) (by simp)
  have q3 : w5.cell? ⟨w1.heap.size, 3, none⟩ = some (.int .i64 2) := HF5.out.cellAt (i := 3) (by simp)
  have q4 : w5.cell? ⟨w1.heap.size, 4, none⟩ = some (.int .u8 (p : Int)) := HF5.out.cellAt (i := 4) (by simp)
  have q5 : w5.cell? ⟨w1.heap.size, 5, none⟩ = some (.int .u8 (q : Int)) := HF5.out.cellAt (i := 5) (by simp)
  have q6 : w5.cell? ⟨w1.heap.size, 6, none⟩ = some (.int .u8 0) := HF5.out.cellAt (i := 6) (by simp)
  have q7 : w5.cell? ⟨w1.heap.size, 7, none⟩ = some (.int .u8 0) := HF5.out.cellAt (i := 7) (by simp)
  have q8 : w5.cell? ⟨w1.heap.size, 8, none⟩ = some (.int .u8 0) := HF5.out.cellAt (i := 8) (by simp)
  have q9 : w5.cell? ⟨w1.heap.size, 9, none⟩ = some (.int .u8 0) := HF5.out.cellAt (i := 9) (by simp)
  have q10 : w5.cell? ⟨w1.heap.size, 10, none⟩ = some (.int .u8 0) := HF5.out.cellAt (i := 10) (by simp)
  have q11 : w5.cell? ⟨w1.heap.size, 11, none⟩ = some (.int .u8 0) := HF5.out.cellAt (i := 11) (by simp)
  have d0 : w5.cell? ⟨w.heap.size + 1, 0, none⟩ = some (.bool false) := HZ5.out.cellAt (i := 0) (by simp)
  have d1 : w5.cell? ⟨w.heap.size + 1, 1, none⟩ = some (.int .u32 0) := HZ5.out.cellAt (i := 1) (by simp)
  have d2 : w5.cell? ⟨w.heap.size + 1, 2, none⟩ = some (.bool false) := HZ5.out.cellAt (i := 2) (by simp)
  have d3 : w5.cell? ⟨w.heap.size + 1, 3, none⟩ = some (.int .i64 0) := HZ5.out.cellAt (i := 3) (by simp)
  have d4 : w5.cell? ⟨w.heap.size + 1, 4, none⟩ = some (.int .u8 0) := HZ5.out.cellAt (i := 4) (by simp)
  have d5 : w5.cell? ⟨w.heap.size + 1, 5, none⟩ = some (.int .u8 0) := HZ5.out.cellAt (i := 5) (by simp)
  have d6 : w5.cell? ⟨w.heap.size + 1, 6, none⟩ = some (.int .u8 0) := HZ5.out.cellAt (i := 6) (by simp)
  have d7 : w5.cell? ⟨w.heap.size + 1, 7, none⟩ = some (.int .u8 0) := HZ5.out.cellAt (i := 7) (by simp)
  have d8 : w5.cell? ⟨w.heap.size + 1, 8, none⟩ = some (.int .u8 0) := HZ5.out.cellAt (i := 8) (by simp)
  have d9 : w5.cell? ⟨w.heap.size + 1, 9, none⟩ = some (.int .u8 0) := HZ5.out.cellAt (i := 9) (by simp)
  have d10 : w5.cell? ⟨w.heap.size + 1, 10, none⟩ = some (.int .u8 0) := HZ5.out.cellAt (i := 10) (by simp)
  have d11 : w5.cell? ⟨w.heap.size + 1, 11, none⟩ = some (.int .u8 0) := HZ5.out.cellAt (i := 11) (by simp)
  have p0 : w5.frozen? ⟨w.heap.size + 1, 0, none⟩ = false := HZ5.out.frozenAt 0
  have p1 : w5.frozen? ⟨w.heap.size + 1, 1, none⟩ = false := HZ5.out.frozenAt 1
  have p2 : w5.frozen? ⟨w.heap.size + 1, 2, none⟩ = false := HZ5.out.frozenAt 2
  have p3 : w5.frozen? ⟨w.heap.size + 1, 3, none⟩ = false := HZ5.out.frozenAt 3
  have p4 : w5.frozen? ⟨w.heap.size + 1, 4, none⟩ = false := HZ5.out.frozenAt 4
  have p5 : w5.frozen? ⟨w.heap.size + 1, 5, none⟩ = false := HZ5.out.frozenAt 5
  have p6 : w5.frozen? ⟨w.heap.size + 1, 6, none⟩ = false := HZ5.out.frozenAt 6
  have p7 : w5.frozen? ⟨w.heap.size + 1, 7, none⟩ = false := HZ5.out.frozenAt 7
  have p8 : w5.frozen? ⟨w.heap.size + 1, 8, none⟩ = false := HZ5.out.frozenAt 8
  have p9 : w5.frozen? ⟨w.heap.size + 1, 9, none⟩ = false := HZ5.out.frozenAt 9
  have p10 : w5.frozen? ⟨w.heap.size + 1, 10, none⟩ = false := HZ5.out.frozenAt 10
  have p11 : w5.frozen? ⟨w.heap.size + 1, 11, none⟩ = false := HZ5.out.frozenAt 11
  go_wp2_with fail
  obtain ⟨W, hWW⟩ : ∃ W, W = ((((((((((((w5.setCell ⟨w.heap.size + 1, 0, none⟩ (.bool false)).setCell ⟨w.heap.size + 1, 1, none⟩ (.int .u32 (r : Int))).setCell ⟨w.heap.size + 1, 2, none⟩ (.bool false)).setCell ⟨w.heap.size + 1, 3, none⟩ (.int .i64 2)).setCell ⟨w.heap.size + 1, 4, none⟩ (.int .u8 (p : Int))).setCell ⟨w.heap.size + 1, 5, none⟩ (.int .u8 (q : Int))).setCell ⟨w.heap.size + 1, 6, none⟩ (.int .u8 0)).setCell ⟨w.heap.size + 1, 7, none⟩ (.int .u8 0)).setCell ⟨w.heap.size + 1, 8, none⟩ (.int .u8 0)).setCell ⟨w.heap.size + 1, 9, none⟩ (.int .u8 0)).setCell ⟨w.heap.size + 1, 10, none⟩ (.int .u8 0)).setCell ⟨w.heap.size + 1, 11, none⟩ (.int .u8 0)) := ⟨_, rfl⟩
  rw [← hWW]
  have hRS : Blk W (w.heap.size + 1) 71 [.bool false, .int .u32 (r : Int), .bool false, .int .i64 2, .int .u8 (p : Int), .int .u8 (q : Int), .int .u8 0, .int .u8 0, .int .u8 0, .int .u8 0, .int .u8 0, .int .u8 0] := by rw [hWW]; exact (HZ5.out).set [.bool false, .int .u32 (r : Int), .bool false, .int .i64 2, .int .u8 (p : Int), .int .u8 (q : Int), .int .u8 0, .int .u8 0, .int .u8 0, .int .u8 0, .int .u8 0, .int .u8 0] rfl
  have hb := (show Below w.heap.size w W by rw [hWW]; exact Go.below_setCells (by first | omega | simp) [.bool false, .int .u32 (r : Int), .bool false, .int .i64 2, .int .u8 (p : Int), .int .u8 (q : Int), .int .u8 0, .int .u8 0, .int .u8 0, .int .u8 0, .int .u8 0, .int .u8 0] 0 _ HB5.out)
  clear hWW
  have z0 : W.cell? ⟨w.heap.size + 1, 0, none⟩ = some (.bool false) := hRS.cellAt (i := 0) (by simp)
  have z1 : W.cell? ⟨w.heap.size + 1, 1, none⟩ = some (.int .u32 (r : Int)) := hRS.cellAt (i := 1) (by simp)
  have z2 : W.cell? ⟨w.heap.size + 1, 2, none⟩ = some (.bool false) := hRS.cellAt (i := 2) (by simp)
  have z3 : W.cell? ⟨w.heap.size + 1, 3, none⟩ = some (.int .i64 2) := hRS.cellAt (i := 3) (by simp)
  have z4 : W.cell? ⟨w.heap.size + 1, 4, none⟩ = some (.int .u8 (p : Int)) := hRS.cellAt (i := 4) (by simp)
  have z5 : W.cell? ⟨w.heap.size + 1, 5, none⟩ = some (.int .u8 (q : Int)) := hRS.cellAt (i := 5) (by simp)
  have z6 : W.cell? ⟨w.heap.size + 1, 6, none⟩ = some (.int .u8 0) := hRS.cellAt (i := 6) (by simp)
  have z7 : W.cell? ⟨w.heap.size + 1, 7, none⟩ = some (.int .u8 0) := hRS.cellAt (i := 7) (by simp)
  have z8 : W.cell? ⟨w.heap.size + 1, 8, none⟩ = some (.int .u8 0) := hRS.cellAt (i := 8) (by simp)
  have z9 : W.cell? ⟨w.heap.size + 1, 9, none⟩ = some (.int .u8 0) := hRS.cellAt (i := 9) (by simp)
  have z10 : W.cell? ⟨w.heap.size + 1, 10, none⟩ = some (.int .u8 0) := hRS.cellAt (i := 10) (by simp)
  have z11 : W.cell? ⟨w.heap.size + 1, 11, none⟩ = some (.int .u8 0) := hRS.cellAt (i := 11) (by simp)
  exact bodyPost_ret (v := .tuple #[.agg #[.bool false, .int .u32 (r : Int), .bool false, .int .i64 2, .int .u8 (p : Int), .int .u8 (q : Int), .int .u8 0, .int .u8 0, .int .u8 0, .int .u8 0, .int .u8 0, .int .u8 0], .int .i64 0]) (by simp [results, Try.results34, go_sem, z0, z1, z2, z3, z4, z5, z6, z7, z8, z9, z10, z11]) rfl ⟨rfl, hb⟩
set_option maxHeartbeats 2000000 in
theorem slframe_follow (r n t : Nat) (hr : r < 32) (hn : n < 65536) (ht : t < 281474976710656) (w : World) : Calls Try.prog 34 #[.agg #[.bool true, .int .i64 (r : Int), .int .i64 (n : Int), .int .i64 (t : Int)]] w fun y w' => y = .returned (.tuple #[.agg #[.bool false, .int .u32 ((r + 32 : Nat) : Int), .bool false, .int .i64 8, .int .u8 ((n / 256 % 256 : Nat) : Int), .int .u8 ((n % 256 : Nat) : Int), .int .u8 ((t / 1099511627776 % 256 : Nat) : Int), .int .u8 ((t / 4294967296 % 256 : Nat) : Int), .int .u8 ((t / 16777216 % 256 : Nat) : Int), .int .u8 ((t / 65536 % 256 : Nat) : Int), .int .u8 ((t / 256 % 256 : Nat) : Int), .int .u8 ((t % 256 : Nat) : Int)], .int .i64 0]) ∧ Below w.heap.size w w' := by
  have HR := Lib.hid (fun u => slright_any true r n t u)
  rw [rightW_yes (by simp; omega)] at HR
  have HY := Lib.hid (show ∀ u : World, Calls Try.prog 62 #[.int .i64 (n : Int), .int .i64 2] u fun y w' => ∃ v, y = .returned v ∧ Made u.heap.size w' v [n / 256 % 256, n % 256] ∧ Below u.heap.size u w' from fun u => by
    have h := bytes_int n 2 (by omega) (by decide) (by decide) u
    rw [beB_2] at h
    exact h)
  have HX := Lib.hid (show ∀ u : World, Calls Try.prog 63 #[.int .i64 (t : Int), .int .i64 6] u fun y w' => ∃ v, y = .returned v ∧ Made u.heap.size w' v [t / 1099511627776 % 256, t / 4294967296 % 256, t / 16777216 % 256, t / 65536 % 256, t / 256 % 256, t % 256] ∧ Below u.heap.size u w' from fun u => by
    have h := bytes_i64 t 6 (by omega) (by decide) (by decide) u
    rw [beB_6] at h
    exact h)
  obtain ⟨p, hp⟩ : ∃ p, p = n / 256 % 256 := ⟨_, rfl⟩
  obtain ⟨q, hq⟩ : ∃ q, q = n % 256 := ⟨_, rfl⟩
  obtain ⟨b0, hb0⟩ : ∃ q, q = t / 1099511627776 % 256 := ⟨_, rfl⟩
  obtain ⟨b1, hb1⟩ : ∃ q, q = t / 4294967296 % 256 := ⟨_, rfl⟩
  obtain ⟨b2, hb2⟩ : ∃ q, q = t / 16777216 % 256 := ⟨_, rfl⟩
  obtain ⟨b3, hb3⟩ : ∃ q, q = t / 65536 % 256 := ⟨_, rfl⟩
  obtain ⟨b4, hb4⟩ : ∃ q, q = t / 256 % 256 := ⟨_, rfl⟩
  obtain ⟨b5, hb5⟩ : ∃ q, q = t % 256 := ⟨_, rfl⟩
  obtain ⟨m, hm⟩ : ∃ m, m = r + 32 := ⟨_, rfl⟩
  rw [← hp, ← hq] at HY
  rw [← hb0, ← hb1, ← hb2, ← hb3, ← hb4, ← hb5] at HX
  rw [← hp, ← hq, ← hb0, ← hb1, ← hb2, ← hb3, ← hb4, ← hb5, ← hm]
  have e1 : IntKind.u32.wrap (r : Int) = (r : Int) := by rw [IntKind.wrap_u32]; omega
  have e2 : IntKind.u32.wrap ((r : Int) + 32) = (m : Int) := by rw [IntKind.wrap_u32, hm]; omega
  obtain ⟨i0, hi, hz0, hz1, hz2⟩ := info_parts info_u8
  clear hp hq hr hn ht hm hb0 hb1 hb2 hb3 hb4 hb5
  go_enter Try.func34, Try.ntmps34
  go_wp2_with fail
  refine (HR.out _).mono ?_
  rintro y w1 ⟨rfl, hb⟩
  have HB := Lib.hid (below_boxes hb)
  have hZ : Blk w1 (w.heap.size + 1) 71 [.bool false, .int .u32 0, .bool false, .int .i64 0, .int .u8 0, .int .u8 0, .int .u8 0, .int .u8 0, .int .u8 0, .int .u8 0, .int .u8 0, .int .u8 0] := (blk_two w _ 71 [.bool false, .int .u32 0, .bool false, .int .i64 0, .int .u8 0, .int .u8 0, .int .u8 0, .int .u8 0, .int .u8 0, .int .u8 0, .int .u8 0, .int .u8 0]).keep hb (by simp)
  have hS : Blk w1 w.heap.size 75 [.bool true, .int .i64 (r : Int), .int .i64 (n : Int), .int .i64 (t : Int)] := ((Blk.new w 75 [.bool true, .int .i64 (r : Int), .int .i64 (n : Int), .int .i64 (t : Int)]).keep ((Below.refl _ _).alloc (Nat.le_refl _) _) (by simp)).keep hb (by simp only [World.size_alloc]; omega)
  have HZ := Lib.hid hZ; have HS := Lib.hid hS
  have q0 : w1.cell? ⟨w.heap.size, 0, none⟩ = some (.bool true) := hS.cellAt (i := 0) (by simp)
  have q1 : w1.cell? ⟨w.heap.size, 1, none⟩ = some (.int .i64 (r : Int)) := hS.cellAt (i := 1) (by simp)
  have q2 : w1.cell? ⟨w.heap.size, 2, none⟩ = some (.int .i64 (n : Int)) := hS.cellAt (i := 2) (by simp)
  have q3 : w1.cell? ⟨w.heap.size, 3, none⟩ = some (.int .i64 (t : Int)) := hS.cellAt (i := 3) (by simp)
  clear hb hZ hS
  go_upto_region 4 with fail
  obtain ⟨w2, hw2⟩ : ∃ w2, w2 = w1.alloc (.cells #[.bool false, .int .u32 (r : Int), .bool false, .int .i64 0, .int .u8 0, .int .u8 0, .int .u8 0, .int .u8 0, .int .u8 0, .int .u8 0, .int .u8 0, .int .u8 0] 71) := ⟨_, rfl⟩
  rw [← hw2]
  have HF2 := Lib.hid (show Blk w2 w1.heap.size 71 [.bool false, .int .u32 (r : Int), .bool false, .int .i64 0, .int .u8 0, .int .u8 0, .int .u8 0, .int .u8 0, .int .u8 0, .int .u8 0, .int .u8 0, .int .u8 0] by rw [hw2]; exact Blk.new w1 71 [.bool false, .int .u32 (r : Int), .bool false, .int .i64 0, .int .u8 0, .int .u8 0, .int .u8 0, .int .u8 0, .int .u8 0, .int .u8 0, .int .u8 0, .int .u8 0])
  have hb2 : Below w1.heap.size w1 w2 := by rw [hw2]; exact (Below.refl _ _).alloc (Nat.le_refl _) _
  have HB2 := Lib.hid (below_transG HB.out hb2); have HZ2 := Lib.hid (HZ.out.keep hb2 HZ.out.lt); have HS2 := Lib.hid (HS.out.keep hb2 HS.out.lt)
  clear hw2 hb2 q0 q1 q2 q3
  have q0 : w2.cell? ⟨w.heap.size, 0, none⟩ = some (.bool true) := HS2.out.cellAt (i := 0) (by simp)
  have q1 : w2.cell? ⟨w.heap.size, 1, none⟩ = some (.int .i64 (r : Int)) := HS2.out.cellAt (i := 1) (by simp)
  have q2 : w2.cell? ⟨w.heap.size, 2, none⟩ = some (.int .i64 (n : Int)) := HS2.out.cellAt (i := 2) (by simp)
  have q3 : w2.cell? ⟨w.heap.size, 3, none⟩ = some (.int .i64 (t : Int)) := HS2.out.cellAt (i := 3) (by simp)
  go_wp2_with fail
  refine (HY.out _).mono ?_
  rintro y w3 ⟨v, rfl, hm, hb⟩
  have HO3 := Lib.hid (Made.own (hm.older (show w2.heap.size ≤ w2.heap.size from Nat.le_refl _)))
  obtain ⟨g, rfl, hg, hl, hrow⟩ := hm
  have HG := Lib.hid hg
  have HB3 := Lib.hid (below_transG HB2.out hb); have HZ3 := Lib.hid (HZ2.out.keep hb HZ2.out.lt); have HS3 := Lib.hid (HS2.out.keep hb HS2.out.lt); have HF3 := Lib.hid (HF2.out.keep hb HF2.out.lt); have HN3 := Lib.hid hb.size
  clear hb hg hrow hl q0 q1 q2 q3
  have q0 : w3.cell? ⟨w.heap.size, 0, none⟩ = some (.bool true) := HS3.out.cellAt (i := 0) (by simp)
  have q1 : w3.cell? ⟨w.heap.size, 1, none⟩ = some (.int .i64 (r : Int)) := HS3.out.cellAt (i := 1) (by simp)
  have q2 : w3.cell? ⟨w.heap.size, 2, none⟩ = some (.int .i64 (n : Int)) := HS3.out.cellAt (i := 2) (by simp)
  have q3 : w3.cell? ⟨w.heap.size, 3, none⟩ = some (.int .i64 (t : Int)) := HS3.out.cellAt (i := 3) (by simp)
  have d1 : w3.cell? ⟨w1.heap.size, 1, none⟩ = some (.int .u32 (r : Int)) := HF3.out.cellAt (i := 1) (by simp)
  have p1 : w3.frozen? ⟨w1.heap.size, 1, none⟩ = false := HF3.out.frozenAt 1
  go_upto_region 7 with fail
  obtain ⟨w4, hw4⟩ : ∃ w4, w4 = w3.setCell ⟨w1.heap.size, 1, none⟩ (.int .u32 (m : Int)) := ⟨_, rfl⟩
  rw [← hw4]
  have HF4 := Lib.hid (show Blk w4 w1.heap.size 71 [.bool false, .int .u32 (m : Int), .bool false, .int .i64 0, .int .u8 0, .int .u8 0, .int .u8 0, .int .u8 0, .int .u8 0, .int .u8 0, .int .u8 0, .int .u8 0] by rw [hw4]; exact HF3.out.put1 (i := 1) (by simp) _)
  have HZ4 := Lib.hid (show Blk w4 (w.heap.size + 1) 71 [.bool false, .int .u32 0, .bool false, .int .i64 0, .int .u8 0, .int .u8 0, .int .u8 0, .int .u8 0, .int .u8 0, .int .u8 0, .int .u8 0, .int .u8 0] by rw [hw4]; exact HZ3.out.puts (by have := HZ.out.lt; omega) 1 _)
  have HS4 := Lib.hid (show Blk w4 w.heap.size 75 [.bool true, .int .i64 (r : Int), .int .i64 (n : Int), .int .i64 (t : Int)] by rw [hw4]; exact HS3.out.puts (by have := HZ.out.lt; omega) 1 _)
  have HB4 := Lib.hid (show Below w.heap.size w w4 by rw [hw4]; exact HB3.out.setCell (p := ⟨w1.heap.size, 1, none⟩) HB.out.size _)
  have HN4 := Lib.hid (show w2.heap.size ≤ w4.heap.size by rw [hw4, setCell_sizeG]; exact HN3.out)
  have hgb := (show w4.heap[g]? = w3.heap[g]? by rw [hw4]; exact Below.heap_setCell w3 ⟨w1.heap.size, 1, none⟩ _ g (by have := HG.out; have := HF2.out.lt; show g ≠ w1.heap.size; omega))
  have HO4 := Lib.hid (show Ow w2.heap.size w4 (.slice (some ⟨g, 0, none⟩) 2 2) [p, q] from ow_same HO3.out (fun k e => by cases e; exact hgb))
  clear hw4 hgb d1 p1 q0 q1 q2 q3
  have q0 : w4.cell? ⟨w.heap.size, 0, none⟩ = some (.bool true) := HS4.out.cellAt (i := 0) (by simp)
  have q1 : w4.cell? ⟨w.heap.size, 1, none⟩ = some (.int .i64 (r : Int)) := HS4.out.cellAt (i := 1) (by simp)
  have q2 : w4.cell? ⟨w.heap.size, 2, none⟩ = some (.int .i64 (n : Int)) := HS4.out.cellAt (i := 2) (by simp)
  have q3 : w4.cell? ⟨w.heap.size, 3, none⟩ = some (.int .i64 (t : Int)) := HS4.out.cellAt (i := 3) (by simp)
  go_wp2_with fail
  refine (HX.out _).mono ?_
  rintro y w5 ⟨v, rfl, hm, hb⟩
  obtain ⟨g2, rfl, hg2, hl, hrow⟩ := hm
  have HO5 := Lib.hid (show Ow w2.heap.size w5 (.slice (some ⟨g, 0, none⟩) 2 2) [p, q] from ow_same HO4.out (fun k e => by cases e; exact hb.block g (HO4.out.lt' g rfl)))
  have hcells := row_cells hrow
  have HB5 := Lib.hid (below_transG HB4.out hb); have HZ5 := Lib.hid (HZ4.out.keep hb HZ4.out.lt); have HF5 := Lib.hid (HF4.out.keep hb HF4.out.lt); have HN5 := Lib.hid (Nat.le_trans HN4.out hb.size)
  clear hb hg2 hrow hl q0 q1 q2 q3
  go_wp2_with (at_builtin; refine wpList_append_own _ rfl _ _ 108 rfl w2.heap.size 5 i0 (.int .u8 0) 1 1 Try.underlying108 hi hz0 hz1 hz2 rfl (by decide) _ _ _ rfl HO5.out.own ⟨g2, 0, none⟩ 6 6 ([b0, b1, b2, b3, b4, b5].map (fun n : Nat => Value.int .u8 ((n : Nat) : Int))) rfl rfl hcells (flat_u8 _) ?c3 ?c4 ?c5 ?_)
  case c3 => simp [maxLen]
  case c4 => simp
  case c5 => exact HN5.out
  intro v' w6 hown6 hgrow _
  have HO6 := Lib.hid (show Ow w2.heap.size w6 v' [p, q, b0, b1, b2, b3, b4, b5] from hown6)
  have hb6 := (Below.refl w2.heap.size w5).grown hgrow HN5.out HO5.out.ge
  have HB6 := Lib.hid (HB5.out.trans (hb6.mono HB2.out.size)); have HZ6 := Lib.hid (HZ5.out.keep hb6 HZ2.out.lt); have HF6 := Lib.hid (HF5.out.keep hb6 HF2.out.lt)
  obtain ⟨a6, cap6, rfl⟩ := HO6.out.shape
  obtain ⟨g6, c6, e6, hcells⟩ := HO6.out.cells (by simp)
  obtain ⟨rfl, _, rfl⟩ := Value.slice.inj e6
  clear e6 hown6 hgrow hb6
  go_upto_region 8 with fail
  have hs8 := fun u => all8s w1.heap.size u
  go_wp2_with (refine wpList_copy_splice rfl (.tmp 32) (.tmp 33) 108 108 rfl 5 Try.underlying108 (by kernel_rfl) _ _ _ _ _ _ rfl rfl w1.heap.size 4 [.bool false, .int .u32 (m : Int), .bool false, .int .i64 0, .int .u8 0, .int .u8 0, .int .u8 0, .int .u8 0, .int .u8 0, .int .u8 0, .int .u8 0, .int .u8 0] 71 HF6.out ([p, q, b0, b1, b2, b3, b4, b5].map (fun n : Nat => Value.int .u8 ((n : Nat) : Int))) rfl (fun _ => ⟨rfl, _, rfl, hcells⟩) (by simp) (flat_u8 _) w1.heap.size w6 (Below.refl _ _) (Nat.le_refl _) ?_)
  intro w7 hg7 hb7
  have HF7 := Lib.hid (show Blk w7 w1.heap.size 71 [.bool false, .int .u32 (m : Int), .bool false, .int .i64 0, .int .u8 (p : Int), .int .u8 (q : Int), .int .u8 (b0 : Int), .int .u8 (b1 : Int), .int .u8 (b2 : Int), .int .u8 (b3 : Int), .int .u8 (b4 : Int), .int .u8 (b5 : Int)] from hg7.out)
  have HB7 := Lib.hid (HB6.out.trans (hb7.mono HB.out.size)); have HZ7 := Lib.hid (HZ6.out.keep hb7 HZ.out.lt)
  clear hg7 hb7 hcells
  have d3 : w7.cell? ⟨w1.heap.size, 3, none⟩ = some (.int .i64 0) := HF7.out.cellAt (i := 3) (by simp)
  have p3 : w7.frozen? ⟨w1.heap.size, 3, none⟩ = false := HF7.out.frozenAt 3
  go_upto_region 9 with fail
  obtain ⟨w8, hw8⟩ : ∃ w8, w8 = w7.setCell ⟨w1.heap.size, 3, none⟩ (.int .i64 8) := ⟨_, rfl⟩
  rw [← hw8]
  have HF8 := Lib.hid (show Blk w8 w1.heap.size 71 [.bool false, .int .u32 (m : Int), .bool false, .int .i64 8, .int .u8 (p : Int), .int .u8 (q : Int), .int .u8 (b0 : Int), .int .u8 (b1 : Int), .int .u8 (b2 : Int), .int .u8 (b3 : Int), .int .u8 (b4 : Int), .int .u8 (b5 : Int)] by rw [hw8]; exact HF7.out.put1 (i := 3) (by simp) _)
  have HZ8 := Lib.hid (show Blk w8 (w.heap.size + 1) 71 [.bool false, .int .u32 0, .bool false, .int .i64 0, .int .u8 0, .int .u8 0, .int .u8 0, .int .u8 0, .int .u8 0, .int .u8 0, .int .u8 0, .int .u8 0] by rw [hw8]; exact HZ7.out.puts (by have := HZ.out.lt; omega) 3 _)
  have HB8 := Lib.hid (show Below w.heap.size w w8 by rw [hw8]; exact HB7.out.setCell (p := ⟨w1.heap.size, 3, none⟩) HB.out.size _)
  clear hw8 d3 p3
  have q0 : w8.cell? ⟨w1.heap.size, 0, none⟩ = some (.bool false) := HF8.out.cellAt (i := 0) (by simp)
  have q1 : w8.cell? ⟨w1.heap.size, 1, none⟩ = some (.int .u32 (m : Int)) := HF8.out.cellAt (i := 1) (by simp)
  have q2 : w8.cell? ⟨w1.heap.size, 2, none⟩ = some (.bool false) := HF8.out.cellAt (i := 2) (by simp)
  have q3 : w8.cell? ⟨w1.heap.size, 3, none⟩ = some (.int .i64 8) := HF8.out.cellAt (i := 3) (by simp)
  have q4 : w8.cell? ⟨w1.heap.size, 4, none⟩ = some (.int .u8 (p : Int)) := HF8.out.cellAt (i := 4) (by simp)
  have q5 : w8.cell? ⟨w1.heap.size, 5, none⟩ = some (.int .u8 (q : Int)) := HF8.out.cellAt (i := 5) (by simp)
  have q6 : w8.cell? ⟨w1.heap.size, 6, none⟩ = some (.int .u8 (b0 : Int)) := HF8.out.cellAt (i := 6) (by simp)
  have q7 : w8.cell? ⟨w1.heap.size, 7, none⟩ = some (.int .u8 (b1 : Int)) := HF8.out.cellAt (i := 7) (by simp)
  have q8 : w8.cell? ⟨w1.heap.size, 8, none⟩ = some (.int .u8 (b2 : Int)) := HF8.out.cellAt (i := 8) (by simp)
  have q9 : w8.cell? ⟨w1.heap.size, 9, none⟩ = some (.int .u8 (b3 : Int)) := HF8.out.cellAt (i := 9) (by simp)
  have q10 : w8.cell? ⟨w1.heap.size, 10, none⟩ = some (.int .u8 (b4 : Int)) := HF8.out.cellAt (i := 10) (by simp)
  have q11 : w8.cell? ⟨w1.heap.size, 11, none⟩ = some (.int .u8 (b5 : Int)) := HF8.out.cellAt (i := 11) (by simp)
  have d0 : w8.cell? ⟨w.heap.size + 1, 0, none⟩ = some (.bool false) := HZ8.out.cellAt (i := 0) (by simp)
  have d1 : w8.cell? ⟨w.heap.size + 1, 1, none⟩ = some (.int .u32 0) := HZ8.out.cellAt (i := 1) (by simp)
  have d2 : w8.cell? ⟨w.heap.size + 1, 2, none⟩ = some (.bool false) := HZ8.out.cellAt (i := 2) (by simp)
  have d3 : w8.cell? ⟨w.heap.size + 1, 3, none⟩ = some (.int .i64 0) := HZ8.out.cellAt (i := 3) (by simp)
  have d4 : w8.cell? ⟨w.heap.size + 1, 4, none⟩ = some (.int .u8 0) := HZ8.out.cellAt (i := 4) (by simp)
  have d5 : w8.cell? ⟨w.heap.size + 1, 5, none⟩ = some (.int .u8 0) := HZ8.out.cellAt (i := 5) (by simp)
  have d6 : w8.cell? ⟨w.heap.size + 1, 6, none⟩ = some (.int .u8 0) := HZ8.out.cellAt (i := 6) (by simp)
  have d7 : w8.cell? ⟨w.heap.size + 1, 7, none⟩ = some (.int .u8 0) := HZ8.out.cellAt (i := 7) (by simp)
  have d8 : w8.cell? ⟨w.heap.size + 1, 8, none⟩ = some (.int .u8 0) := HZ8.out.cellAt (i := 8) (by simp)
  have d9 : w8.cell? ⟨w.heap.size + 1, 9, none⟩ = some (.int .u8 0) := HZ8.out.cellAt (i := 9) (by simp)
  have d10 : w8.cell? ⟨w.heap.size + 1, 10, none⟩ = some (.int .u8 0) := HZ8.out.cellAt (i := 10) (by simp)
  have d11 : w8.cell? ⟨w.heap.size + 1, 11, none⟩ = some (.int .u8 0) := HZ8.out.cellAt (i := 11) (by simp)
  have p0 : w8.frozen? ⟨w.heap.size + 1, 0, none⟩ = false := HZ8.out.frozenAt 0
  have p1 : w8.frozen? ⟨w.heap.size + 1, 1, none⟩ = false := HZ8.out.frozenAt 1
  have p2 : w8.frozen? ⟨w.heap.size + 1, 2, none⟩ = false := HZ8.out.frozenAt 2
  have p3 : w8.frozen? ⟨w.heap.size + 1, 3, none⟩ = false := HZ8.out.frozenAt 3
  have p4 : w8.frozen? ⟨w.heap.size + 1, 4, none⟩ = false := HZ8.out.frozenAt 4
  have p5 : w8.frozen? ⟨w.heap.size + 1, 5, none⟩ = false := HZ8.out.frozenAt 5
  have p6 : w8.frozen? ⟨w.heap.size + 1, 6, none⟩ = false := HZ8.out.frozenAt 6
  have p7 : w8.frozen? ⟨w.heap.size + 1, 7, none⟩ = false := HZ8.out.frozenAt 7
  have p8 : w8.frozen? ⟨w.heap.size + 1, 8, none⟩ = false := HZ8.out.frozenAt 8
  have p9 : w8.frozen? ⟨w.heap.size + 1, 9, none⟩ = false := HZ8.out.frozenAt 9
  have p10 : w8.frozen? ⟨w.heap.size + 1, 10, none⟩ = false := HZ8.out.frozenAt 10
  have p11 : w8.frozen? ⟨w.heap.size + 1, 11, none⟩ = false := HZ8.out.frozenAt 11
  go_wp2_with fail
  obtain ⟨W, hWW⟩ : ∃ W, W = ((((((((((((w8.setCell ⟨w.heap.size + 1, 0, none⟩ (.bool false)).setCell ⟨w.heap.size + 1, 1, none⟩ (.int .u32 (m : Int))).setCell ⟨w.heap.size + 1, 2, none⟩ (.bool false)).setCell ⟨w.heap.size + 1, 3, none⟩ (.int .i64 8)).setCell ⟨w.heap.size + 1, 4, none⟩ (.int .u8 (p : Int))).setCell ⟨w.heap.size + 1, 5, none⟩ (.int .u8 (q : Int))).setCell ⟨w.heap.size + 1, 6, none⟩ (.int .u8 (b0 : Int))).setCell ⟨w.heap.size + 1, 7, none⟩ (.int .u8 (b1 : Int))).setCell ⟨w.heap.size + 1, 8, none⟩ (.int .u8 (b2 : Int))).setCell ⟨w.heap.size + 1, 9, none⟩ (.int .u8 (b3 : Int))).setCell ⟨w.heap.size + 1, 10, none⟩ (.int .u8 (b4 : Int))).setCell ⟨w.heap.size + 1, 11, none⟩ (.int .u8 (b5 : Int))) := ⟨_, rfl⟩
  rw [← hWW]
  have hRS : Blk W (w.heap.size + 1) 71 [.bool false, .int .u32 (m : Int), .bool false, .int .i64 8, .int .u8 (p : Int), .int .u8 (q : Int), .int .u8 (b0 : Int), .int .u8 (b1 : Int), .int .u8 (b2 : Int), .int .u8 (b3 : Int), .int .u8 (b4 : Int), .int .u8 (b5 : Int)] := by rw [hWW]; exact (HZ8.out).set [.bool false, .int .u32 (m : Int), .bool false, .int .i64 8, .int .u8 (p : Int), .int .u8 (q : Int), .int .u8 (b0 : Int), .int .u8 (b1 : Int), .int .u8 (b2 : Int), .int .u8 (b3 : Int), .int .u8 (b4 : Int), .int .u8 (b5 : Int)] rfl
  have hb := (show Below w.heap.size w W by rw [hWW]; exact Go.below_setCells (by first | omega | simp) [.bool false, .int .u32 (m : Int), .bool false, .int .i64 8, .int .u8 (p : Int), .int .u8 (q : Int), .int .u8 (b0 : Int), .int .u8 (b1 : Int), .int .u8 (b2 : Int), .int .u8 (b3 : Int), .int .u8 (b4 : Int), .int .u8 (b5 : Int)] 0 _ HB8.out)
  clear hWW
  have z0 : W.cell? ⟨w.heap.size + 1, 0, none⟩ = some (.bool false) := hRS.cellAt (i := 0) (by simp)
  have z1 : W.cell? ⟨w.heap.size + 1, 1, none⟩ = some (.int .u32 (m : Int)) := hRS.cellAt (i := 1) (by simp)
  have z2 : W.cell? ⟨w.heap.size + 1, 2, none⟩ = some (.bool false) := hRS.cellAt (i := 2) (by simp)
  have z3 : W.cell? ⟨w.heap.size + 1, 3, none⟩ = some (.int .i64 8) := hRS.cellAt (i := 3) (by simp)
  have z4 : W.cell? ⟨w.heap.size + 1, 4, none⟩ = some (.int .u8 (p : Int)) := hRS.cellAt (i := 4) (by simp)
  have z5 : W.cell? ⟨w.heap.size + 1, 5, none⟩ = some (.int .u8 (q : Int)) := hRS.cellAt (i := 5) (by simp)
  have z6 : W.cell? ⟨w.heap.size + 1, 6, none⟩ = some (.int .u8 (b0 : Int)) := hRS.cellAt (i := 6) (by simp)
  have z7 : W.cell? ⟨w.heap.size + 1, 7, none⟩ = some (.int .u8 (b1 : Int)) := hRS.cellAt (i := 7) (by simp)
  have z8 : W.cell? ⟨w.heap.size + 1, 8, none⟩ = some (.int .u8 (b2 : Int)) := hRS.cellAt (i := 8) (by simp)
  have z9 : W.cell? ⟨w.heap.size + 1, 9, none⟩ = some (.int .u8 (b3 : Int)) := hRS.cellAt (i := 9) (by simp)
  have z10 : W.cell? ⟨w.heap.size + 1, 10, none⟩ = some (.int .u8 (b4 : Int)) := hRS.cellAt (i := 10) (by simp)
  have z11 : W.cell? ⟨w.heap.size + 1, 11, none⟩ = some (.int .u8 (b5 : Int)) := hRS.cellAt (i := 11) (by simp)
  exact bodyPost_ret (v := .tuple #[.agg #[.bool false, .int .u32 (m : Int), .bool false, .int .i64 8, .int .u8 (p : Int), .int .u8 (q : Int), .int .u8 (b0 : Int), .int .u8 (b1 : Int), .int .u8 (b2 : Int), .int .u8 (b3 : Int), .int .u8 (b4 : Int), .int .u8 (b5 : Int)], .int .i64 0]) (by simp [results, Try.results34, go_sem, z0, z1, z2, z3, z4, z5, z6, z7, z8, z9, z10, z11]) rfl ⟨rfl, hb⟩
end Go.Proofs.Ytpamkmpaldepnaa
