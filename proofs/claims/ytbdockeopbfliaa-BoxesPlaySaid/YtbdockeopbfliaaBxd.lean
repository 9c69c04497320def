/- The code of package boxes: what is taken out, and how many are full. Conditions: there are at most eight. -/
import Derived.Test.YtbdockeopbfliaaBxc
namespace Go.Proofs.Ytbdockeopbfliaa
open Go.RowKit
theorem heap_setCellsG {B k : Nat} (hk : k ≠ B) : ∀ (vs : List Value) (o : Nat) (W : World), (W.setCells B o vs).heap[k]? = W.heap[k]?
  | [], _, _ => rfl
  | v :: vs, o, W => (heap_setCellsG hk vs (o + 1) _).trans (Below.heap_setCell W ⟨B, o, none⟩ v k hk)
theorem BxA.onN {W X : World} {B N : Nat} {L : List BD} {room : Nat} (h : BxA W B L room) (hb : Below N W X) (hN : B < N) : BxA X B L room := ⟨h.blk.keep hb hN, h.eight, h.r1, h.r8⟩
set_option maxRecDepth 100000 in
set_option maxHeartbeats 8000000 in
theorem take_any (B : Nat) (L : List BD) (room : Nat) (i : Int) (w : World) (h : BxA w B L room) :
    Calls Try.prog 7 #[.pointer (some ⟨B, 0, none⟩), .int .i64 i] w fun y w' => y = .returned (.tuple #[(takeF room L i).1.V, .int .i64 ((takeF room L i).2.1 : Int)]) ∧ BxA w' B (takeF room L i).2.2 room ∧ Kp B (.slice none 0 0) w w' := by
  obtain ⟨R, hR⟩ : ∃ R, R = takeF room L i := ⟨_, rfl⟩
  rw [← hR]
  have HR := Lib.hid hR
  obtain ⟨W0, hW0⟩ : ∃ W0, W0 = w.alloc (.cells #[.bool false, .int .u32 0, .bool false, .int .i64 0, .int .u8 0, .int .u8 0, .int .u8 0, .int .u8 0, .int .u8 0, .int .u8 0, .int .u8 0, .int .u8 0, .bool false, .int .i64 0] 39) := ⟨_, rfl⟩
  have hb0 : Below w.heap.size w W0 := by rw [hW0]; exact (Below.refl _ w).alloc (Nat.le_refl _) _
  have hS := (show Blk W0 w.heap.size 39 [.bool false, .int .u32 0, .bool false, .int .i64 0, .int .u8 0, .int .u8 0, .int .u8 0, .int .u8 0, .int .u8 0, .int .u8 0, .int .u8 0, .int .u8 0, .bool false, .int .i64 0] by rw [hW0]; exact Blk.new w _ [.bool false, .int .u32 0, .bool false, .int .i64 0, .int .u8 0, .int .u8 0, .int .u8 0, .int .u8 0, .int .u8 0, .int .u8 0, .int .u8 0, .int .u8 0, .bool false, .int .i64 0])
  have HB0 := Lib.hid hb0
  obtain ⟨D, hD⟩ : ∃ D, D = w.heap.size := ⟨_, rfl⟩
  have HD := Lib.hid hD
  rw [← hD] at hS
  have HSB := Lib.hid hS
  have HX0 := Lib.hid (h.on hb0)
  have HBW := Lib.hid h.lt
  have HP0 := Lib.hid (show Kp B (.slice none 0 0) w W0 from Kp.of_below hb0)
  have HTH := Lib.hid (there_any B L room i W0 HX0.out)
  have h8 := h.r8
  have d0 := hS.cellAt (i := 0) (by simp)
  have f0 := hS.frozenAt 0
  have d1 := hS.cellAt (i := 1) (by simp)
  have f1 := hS.frozenAt 1
  have d2 := hS.cellAt (i := 2) (by simp)
  have f2 := hS.frozenAt 2
  have d3 := hS.cellAt (i := 3) (by simp)
  have f3 := hS.frozenAt 3
  have d4 := hS.cellAt (i := 4) (by simp)
  have f4 := hS.frozenAt 4
  have d5 := hS.cellAt (i := 5) (by simp)
  have f5 := hS.frozenAt 5
  have d6 := hS.cellAt (i := 6) (by simp)
  have f6 := hS.frozenAt 6
  have d7 := hS.cellAt (i := 7) (by simp)
  have f7 := hS.frozenAt 7
  have d8 := hS.cellAt (i := 8) (by simp)
  have f8 := hS.frozenAt 8
  have d9 := hS.cellAt (i := 9) (by simp)
  have f9 := hS.frozenAt 9
  have d10 := hS.cellAt (i := 10) (by simp)
  have f10 := hS.frozenAt 10
  have d11 := hS.cellAt (i := 11) (by simp)
  have f11 := hS.frozenAt 11
  have d12 := hS.cellAt (i := 12) (by simp)
  have f12 := hS.frozenAt 12
  have d13 := hS.cellAt (i := 13) (by simp)
  have f13 := hS.frozenAt 13
  simp only [List.getElem_cons_zero, List.getElem_cons_succ] at d0 d1 d2 d3 d4 d5 d6 d7 d8 d9 d10 d11 d12 d13
  clear hS hb0 hR h
  by_cases hin : 0 ≤ i ∧ i < (room : Int)
  case neg =>
    rw [decide_eq_false hin] at HTH
    have HE := Lib.hid (show R = (PD.zero, 1, L) by rw [HR.out]; unfold takeF; rw [if_neg hin])
    clear d0 d1 d2 d3 d4 d5 d6 d7 d8 d9 d10 d11 d12 d13 f0 f1 f2 f3 f4 f5 f6 f7 f8 f9 f10 f11 f12 f13 hin
    go_enter Try.func7, Try.ntmps7
    go_upto_region 1 with fail
    rw [← hW0, ← hD]
    clear hW0 hD
    go_wp2_with fail
    refine HTH.out.mono ?_
    rintro y w1 ⟨rfl, hb⟩
    have HB1 := Lib.hid hb
    have hS := HSB.out.keep hb HSB.out.lt
    clear hb
    have d0 := hS.cellAt (i := 0) (by simp)
    have f0 := hS.frozenAt 0
    have d1 := hS.cellAt (i := 1) (by simp)
    have f1 := hS.frozenAt 1
    have d2 := hS.cellAt (i := 2) (by simp)
    have f2 := hS.frozenAt 2
    have d3 := hS.cellAt (i := 3) (by simp)
    have f3 := hS.frozenAt 3
    have d4 := hS.cellAt (i := 4) (by simp)
    have f4 := hS.frozenAt 4
    have d5 := hS.cellAt (i := 5) (by simp)
    have f5 := hS.frozenAt 5
    have d6 := hS.cellAt (i := 6) (by simp)
    have f6 := hS.frozenAt 6
    have d7 := hS.cellAt (i := 7) (by simp)
    have f7 := hS.frozenAt 7
    have d8 := hS.cellAt (i := 8) (by simp)
    have f8 := hS.frozenAt 8
    have d9 := hS.cellAt (i := 9) (by simp)
    have f9 := hS.frozenAt 9
    have d10 := hS.cellAt (i := 10) (by simp)
    have f10 := hS.frozenAt 10
    have d11 := hS.cellAt (i := 11) (by simp)
    have f11 := hS.frozenAt 11
    have d12 := hS.cellAt (i := 12) (by simp)
    have f12 := hS.frozenAt 12
    have d13 := hS.cellAt (i := 13) (by simp)
    have f13 := hS.frozenAt 13
    simp only [List.getElem_cons_zero, List.getElem_cons_succ] at d0 d1 d2 d3 d4 d5 d6 d7 d8 d9 d10 d11 d12 d13
    clear hS
    go_wp2_with fail
    refine bodyPost_ret (v := .tuple #[.agg #[.bool false, .int .u32 0, .bool false, .int .i64 0, .int .u8 0, .int .u8 0, .int .u8 0, .int .u8 0, .int .u8 0, .int .u8 0, .int .u8 0, .int .u8 0, .bool false, .int .i64 0], .int .i64 1]) (by simp [results, Try.results7, go_sem, World.cell?_setCell_same', d0, d1, d2, d3, d4, d5, d6, d7, d8, d9, d10, d11, d12, d13]) rfl ?_
    have hb14 := below14 (n := w.heap.size) (B := D) (by rw [HD.out]; exact Nat.le_refl _) (Below.refl w.heap.size w1) (.bool false) (.int .u32 0) (.bool false) (.int .i64 0) (.int .u8 0) (.int .u8 0) (.int .u8 0) (.int .u8 0) (.int .u8 0) (.int .u8 0) (.int .u8 0) (.int .u8 0) (.bool false) (.int .i64 0)
    exact ⟨by rw [HE.out]; rfl, by rw [HE.out]; exact (HX0.out.on HB1.out).onN hb14 HBW.out, (HP0.out.step HB1.out).stepN hb14⟩
  obtain ⟨j, rfl⟩ : ∃ j : Nat, i = (j : Int) := ⟨i.toNat, by omega⟩
  rw [decide_eq_true hin] at HTH
  have HGE := Lib.hid (fun u hu => get_yes B L room j (by omega) u (HX0.out.on hu))
  obtain ⟨b, hb⟩ : ∃ b, b = bxAt L j := ⟨_, rfl⟩
  rw [← hb] at HGE
  have HRR := Lib.hid (show R = if b.full = true then (b.p, 0, L.set j BD.zero) else (PD.zero, 7, L) by
    rw [HR.out, hb]; unfold takeF; rw [if_pos hin]; rfl)
  have HJ8 := Lib.hid (show j < 8 by omega)
  have i1 : (0 : Int) ≤ (j : Int) := by omega
  have i2 : (j : Int) < 8 := by omega
  clear hb hin
  obtain ⟨full, ⟨e, n, q, l, x0, x1, x2, x3, x4, x5, x6, x7, once, tag⟩⟩ := b
  unfold PD.V at HGE
  simp only at HGE HRR
  go_enter Try.func7, Try.ntmps7
  go_upto_region 1 with fail
  rw [← hW0, ← hD]
  clear hW0 hD d0 d1 d2 d3 d4 d5 d6 d7 d8 d9 d10 d11 d12 d13 f0 f1 f2 f3 f4 f5 f6 f7 f8 f9 f10 f11 f12 f13
  go_wp2_with fail
  refine HTH.out.mono ?_
  rintro y w1 ⟨rfl, hb⟩
  have HB1 := Lib.hid hb; have HS1 := Lib.hid (HSB.out.keep hb HSB.out.lt)
  clear hb
  go_wp2_with fail
  refine (HGE.out _ HB1.out).mono ?_
  rintro y w2 ⟨rfl, hb⟩
  obtain ⟨W2, hW2⟩ : ∃ W2, W2 = w2.alloc (.cells #[.bool e, .int .u32 (n : Int), .bool q, .int .i64 l, .int .u8 (x0 : Int), .int .u8 (x1 : Int), .int .u8 (x2 : Int), .int .u8 (x3 : Int), .int .u8 (x4 : Int), .int .u8 (x5 : Int), .int .u8 (x6 : Int), .int .u8 (x7 : Int), .bool once, .int .i64 tag] 39) := ⟨_, rfl⟩
  have hb2 : Below w2.heap.size w2 W2 := by rw [hW2]; exact (Below.refl _ w2).alloc (Nat.le_refl _) _
  have HB2 := Lib.hid (below_transG (below_transG HB1.out hb) hb2); have HS2 := Lib.hid ((HS1.out.keep hb HS1.out.lt).keep hb2 (Nat.lt_of_lt_of_le HS1.out.lt hb.size))
  have HPB := Lib.hid (show Blk W2 w2.heap.size 39 [.bool e, .int .u32 (n : Int), .bool q, .int .i64 l, .int .u8 (x0 : Int), .int .u8 (x1 : Int), .int .u8 (x2 : Int), .int .u8 (x3 : Int), .int .u8 (x4 : Int), .int .u8 (x5 : Int), .int .u8 (x6 : Int), .int .u8 (x7 : Int), .bool once, .int .i64 tag] by rw [hW2]; exact Blk.new w2 _ [.bool e, .int .u32 (n : Int), .bool q, .int .i64 l, .int .u8 (x0 : Int), .int .u8 (x1 : Int), .int .u8 (x2 : Int), .int .u8 (x3 : Int), .int .u8 (x4 : Int), .int .u8 (x5 : Int), .int .u8 (x6 : Int), .int .u8 (x7 : Int), .bool once, .int .i64 tag])
  have HD2 := Lib.hid (show D < w2.heap.size from Nat.lt_of_lt_of_le HS1.out.lt hb.size)
  clear hb hb2
  go_upto_region 4 with fail
  rw [← hW2]
  clear hW2
  obtain ⟨D2, hD2⟩ : ∃ D2, D2 = w2.heap.size := ⟨_, rfl⟩
  rw [← hD2] at HPB HD2 ⊢
  clear hD2
  cases full with
  | false =>
    have HE := Lib.hid (show R = (PD.zero, 7, L) by rw [HRR.out]; rfl)
    have hS := HS2.out
    have d0 := hS.cellAt (i := 0) (by simp)
    have f0 := hS.frozenAt 0
    have d1 := hS.cellAt (i := 1) (by simp)
    have f1 := hS.frozenAt 1
    have d2 := hS.cellAt (i := 2) (by simp)
    have f2 := hS.frozenAt 2
    have d3 := hS.cellAt (i := 3) (by simp)
    have f3 := hS.frozenAt 3
    have d4 := hS.cellAt (i := 4) (by simp)
    have f4 := hS.frozenAt 4
    have d5 := hS.cellAt (i := 5) (by simp)
    have f5 := hS.frozenAt 5
    have d6 := hS.cellAt (i := 6) (by simp)
    have f6 := hS.frozenAt 6
    have d7 := hS.cellAt (i := 7) (by simp)
    have f7 := hS.frozenAt 7
    have d8 := hS.cellAt (i := 8) (by simp)
    have f8 := hS.frozenAt 8
    have d9 := hS.cellAt (i := 9) (by simp)
    have f9 := hS.frozenAt 9
    have d10 := hS.cellAt (i := 10) (by simp)
    have f10 := hS.frozenAt 10
    have d11 := hS.cellAt (i := 11) (by simp)
    have f11 := hS.frozenAt 11
    have d12 := hS.cellAt (i := 12) (by simp)
    have f12 := hS.frozenAt 12
    have d13 := hS.cellAt (i := 13) (by simp)
    have f13 := hS.frozenAt 13
    simp only [List.getElem_cons_zero, List.getElem_cons_succ] at d0 d1 d2 d3 d4 d5 d6 d7 d8 d9 d10 d11 d12 d13
    clear hS
    go_wp2_with fail
    refine bodyPost_ret (v := .tuple #[.agg #[.bool false, .int .u32 0, .bool false, .int .i64 0, .int .u8 0, .int .u8 0, .int .u8 0, .int .u8 0, .int .u8 0, .int .u8 0, .int .u8 0, .int .u8 0, .bool false, .int .i64 0], .int .i64 7]) (by simp [results, Try.results7, go_sem, World.cell?_setCell_same', d0, d1, d2, d3, d4, d5, d6, d7, d8, d9, d10, d11, d12, d13]) rfl ?_
    have hb14 := below14 (n := w.heap.size) (B := D) (by rw [HD.out]; exact Nat.le_refl _) (Below.refl w.heap.size W2) (.bool false) (.int .u32 0) (.bool false) (.int .i64 0) (.int .u8 0) (.int .u8 0) (.int .u8 0) (.int .u8 0) (.int .u8 0) (.int .u8 0) (.int .u8 0) (.int .u8 0) (.bool false) (.int .i64 0)
    exact ⟨by rw [HE.out]; rfl, by rw [HE.out]; exact (HX0.out.on HB2.out).onN hb14 HBW.out, (HP0.out.step HB2.out).stepN hb14⟩
  | true =>
    have HE := Lib.hid (show R = (⟨e, n, q, l, x0, x1, x2, x3, x4, x5, x6, x7, once, tag⟩, 0, L.set j BD.zero) by rw [HRR.out]; rfl)
    have HX2 := Lib.hid (HX0.out.on HB2.out)
    have hcx : ∀ i, i < 15 → ∃ u, W2.cell? ⟨B, j * 15 + i, none⟩ = some u ∧ W2.frozen? ⟨B, j * 15 + i, none⟩ = false := fun i hi => by
      have hl : i < (bxAt L j).C.length := by rw [BD.len]; exact hi
      have := HX2.out.cell HJ8.out (i := i) (u := (bxAt L j).C[i]) (List.getElem?_eq_getElem hl)
      exact ⟨_, this.1, this.2⟩
    obtain ⟨u0, c0, z0⟩ := hcx 0 (by omega)
    obtain ⟨u1, c1, z1⟩ := hcx 1 (by omega)
    obtain ⟨u2, c2, z2⟩ := hcx 2 (by omega)
    obtain ⟨u3, c3, z3⟩ := hcx 3 (by omega)
    obtain ⟨u4, c4, z4⟩ := hcx 4 (by omega)
    obtain ⟨u5, c5, z5⟩ := hcx 5 (by omega)
    obtain ⟨u6, c6, z6⟩ := hcx 6 (by omega)
    obtain ⟨u7, c7, z7⟩ := hcx 7 (by omega)
    obtain ⟨u8, c8, z8⟩ := hcx 8 (by omega)
    obtain ⟨u9, c9, z9⟩ := hcx 9 (by omega)
    obtain ⟨u10, c10, z10⟩ := hcx 10 (by omega)
    obtain ⟨u11, c11, z11⟩ := hcx 11 (by omega)
    obtain ⟨u12, c12, z12⟩ := hcx 12 (by omega)
    obtain ⟨u13, c13, z13⟩ := hcx 13 (by omega)
    obtain ⟨u14, c14, z14⟩ := hcx 14 (by omega)
    rw [Nat.add_zero] at c0 z0
    obtain ⟨X, hX⟩ : ∃ X, X = (((((((((((((((W2.setCell ⟨B, j * 15, none⟩ (.bool false)).setCell ⟨B, j * 15 + 1, none⟩ (.bool false)).setCell ⟨B, j * 15 + 2, none⟩ (.int .u32 0)).setCell ⟨B, j * 15 + 3, none⟩ (.bool false)).setCell ⟨B, j * 15 + 4, none⟩ (.int .i64 0)).setCell ⟨B, j * 15 + 5, none⟩ (.int .u8 0)).setCell ⟨B, j * 15 + 6, none⟩ (.int .u8 0)).setCell ⟨B, j * 15 + 7, none⟩ (.int .u8 0)).setCell ⟨B, j * 15 + 8, none⟩ (.int .u8 0)).setCell ⟨B, j * 15 + 9, none⟩ (.int .u8 0)).setCell ⟨B, j * 15 + 10, none⟩ (.int .u8 0)).setCell ⟨B, j * 15 + 11, none⟩ (.int .u8 0)).setCell ⟨B, j * 15 + 12, none⟩ (.int .u8 0)).setCell ⟨B, j * 15 + 13, none⟩ (.bool false)).setCell ⟨B, j * 15 + 14, none⟩ (.int .i64 0)) := ⟨_, rfl⟩
    have hXe : X = W2.setCells B (j * 15) BD.zero.C := by rw [hX]; rfl
    have HXX := Lib.hid (show BxA X B (L.set j BD.zero) room by rw [hXe]; exact HX2.out.put HJ8.out BD.zero)
    have HKX := Lib.hid (show Kp B (.slice none 0 0) w X by rw [hXe]; exact Kp.setCells _ _ _ (HP0.out.step HB2.out))
    have hDB : D ≠ B := fun e => by have := HBW.out; have := HD.out; omega
    have hD2B : D2 ≠ B := fun e => by have := HBW.out; have := HD.out; have := HD2.out; omega
    have hS := (show Blk X D 39 [.bool false, .int .u32 0, .bool false, .int .i64 0, .int .u8 0, .int .u8 0, .int .u8 0, .int .u8 0, .int .u8 0, .int .u8 0, .int .u8 0, .int .u8 0, .bool false, .int .i64 0] by rw [hXe]; exact HS2.out.on (heap_setCellsG hDB _ _ _))
    have hQ := (show Blk X D2 39 [.bool e, .int .u32 (n : Int), .bool q, .int .i64 l, .int .u8 (x0 : Int), .int .u8 (x1 : Int), .int .u8 (x2 : Int), .int .u8 (x3 : Int), .int .u8 (x4 : Int), .int .u8 (x5 : Int), .int .u8 (x6 : Int), .int .u8 (x7 : Int), .bool once, .int .i64 tag] by rw [hXe]; exact HPB.out.on (heap_setCellsG hD2B _ _ _))
    have d0 := hS.cellAt (i := 0) (by simp)
    have f0 := hS.frozenAt 0
    have d1 := hS.cellAt (i := 1) (by simp)
    have f1 := hS.frozenAt 1
    have d2 := hS.cellAt (i := 2) (by simp)
    have f2 := hS.frozenAt 2
    have d3 := hS.cellAt (i := 3) (by simp)
    have f3 := hS.frozenAt 3
    have d4 := hS.cellAt (i := 4) (by simp)
    have f4 := hS.frozenAt 4
    have d5 := hS.cellAt (i := 5) (by simp)
    have f5 := hS.frozenAt 5
    have d6 := hS.cellAt (i := 6) (by simp)
    have f6 := hS.frozenAt 6
    have d7 := hS.cellAt (i := 7) (by simp)
    have f7 := hS.frozenAt 7
    have d8 := hS.cellAt (i := 8) (by simp)
    have f8 := hS.frozenAt 8
    have d9 := hS.cellAt (i := 9) (by simp)
    have f9 := hS.frozenAt 9
    have d10 := hS.cellAt (i := 10) (by simp)
    have f10 := hS.frozenAt 10
    have d11 := hS.cellAt (i := 11) (by simp)
    have f11 := hS.frozenAt 11
    have d12 := hS.cellAt (i := 12) (by simp)
    have f12 := hS.frozenAt 12
    have d13 := hS.cellAt (i := 13) (by simp)
    have f13 := hS.frozenAt 13
    simp only [List.getElem_cons_zero, List.getElem_cons_succ] at d0 d1 d2 d3 d4 d5 d6 d7 d8 d9 d10 d11 d12 d13
    have k0 := hQ.cellAt (i := 0) (by simp)
    have m0 := hQ.frozenAt 0
    have k1 := hQ.cellAt (i := 1) (by simp)
    have m1 := hQ.frozenAt 1
    have k2 := hQ.cellAt (i := 2) (by simp)
    have m2 := hQ.frozenAt 2
    have k3 := hQ.cellAt (i := 3) (by simp)
    have m3 := hQ.frozenAt 3
    have k4 := hQ.cellAt (i := 4) (by simp)
    have m4 := hQ.frozenAt 4
    have k5 := hQ.cellAt (i := 5) (by simp)
    have m5 := hQ.frozenAt 5
    have k6 := hQ.cellAt (i := 6) (by simp)
    have m6 := hQ.frozenAt 6
    have k7 := hQ.cellAt (i := 7) (by simp)
    have m7 := hQ.frozenAt 7
    have k8 := hQ.cellAt (i := 8) (by simp)
    have m8 := hQ.frozenAt 8
    have k9 := hQ.cellAt (i := 9) (by simp)
    have m9 := hQ.frozenAt 9
    have k10 := hQ.cellAt (i := 10) (by simp)
    have m10 := hQ.frozenAt 10
    have k11 := hQ.cellAt (i := 11) (by simp)
    have m11 := hQ.frozenAt 11
    have k12 := hQ.cellAt (i := 12) (by simp)
    have m12 := hQ.frozenAt 12
    have k13 := hQ.cellAt (i := 13) (by simp)
    have m13 := hQ.frozenAt 13
    simp only [List.getElem_cons_zero, List.getElem_cons_succ] at k0 k1 k2 k3 k4 k5 k6 k7 k8 k9 k10 k11 k12 k13
    clear hS hQ hcx hXe
    go_upto_region 7 with fail
    rw [← hX]
    clear hX c0 z0 c1 z1 c2 z2 c3 z3 c4 z4 c5 z5 c6 z6 c7 z7 c8 z8 c9 z9 c10 z10 c11 z11 c12 z12 c13 z13 c14 z14
    go_wp2_with fail
    refine bodyPost_ret (v := .tuple #[.agg #[.bool e, .int .u32 (n : Int), .bool q, .int .i64 l, .int .u8 (x0 : Int), .int .u8 (x1 : Int), .int .u8 (x2 : Int), .int .u8 (x3 : Int), .int .u8 (x4 : Int), .int .u8 (x5 : Int), .int .u8 (x6 : Int), .int .u8 (x7 : Int), .bool once, .int .i64 tag], .int .i64 0]) (by simp [results, Try.results7, go_sem, World.cell?_setCell_same', d0, d1, d2, d3, d4, d5, d6, d7, d8, d9, d10, d11, d12, d13]) rfl ?_
    have hb14 := below14 (n := w.heap.size) (B := D) (by rw [HD.out]; exact Nat.le_refl _) (Below.refl w.heap.size X) (.bool e) (.int .u32 (n : Int)) (.bool q) (.int .i64 l) (.int .u8 (x0 : Int)) (.int .u8 (x1 : Int)) (.int .u8 (x2 : Int)) (.int .u8 (x3 : Int)) (.int .u8 (x4 : Int)) (.int .u8 (x5 : Int)) (.int .u8 (x6 : Int)) (.int .u8 (x7 : Int)) (.bool once) (.int .i64 tag)
    exact ⟨by rw [HE.out]; rfl, by rw [HE.out]; exact HXX.out.onN hb14 HBW.out, HKX.out.stepN hb14⟩
/-- How many of the first n are full. -/
def lenF (L : List BD) : Nat → Nat
  | 0 => 0
  | n + 1 => lenF L n + if (bxAt L n).full = true then 1 else 0
theorem lenF_le (L : List BD) (n : Nat) : lenF L n ≤ n := by
  induction n with
  | zero => exact Nat.le_refl _
  | succ n ih => unfold lenF; split <;> omega
set_option maxRecDepth 100000 in
set_option maxHeartbeats 4000000 in
theorem blen_any (B : Nat) (L : List BD) (room : Nat) (w : World) (h : BxA w B L room) :
    Calls Try.prog 18 #[.pointer (some ⟨B, 0, none⟩)] w fun y w' => y = .returned (.int .i64 (lenF L room : Int)) ∧ Below w.heap.size w w' := by
  have HA := Lib.hid (all_any B L room w h)
  have HX := Lib.hid h
  have h8 := h.r8
  clear h
  go_enter Try.func18, Try.ntmps18
  go_wp2_with fail
  refine HA.out.mono ?_
  rintro y w1 ⟨rfl, hb⟩
  have HB1 := Lib.hid hb
  clear hb
  go_wp2_with fail
  go_loopw [3, 9] (fun s3 s9 wr => ∃ k : Nat, s9 = .int .i64 (k : Int) ∧ k ≤ room ∧ s3 = .int .i64 (lenF L k : Int) ∧ Below w.heap.size w wr) (fun _ s9 _ => room - (intOf s9).toNat)
  case atStart => exact ⟨0, rfl, by omega, rfl, HB1.out⟩
  case round =>
    obtain ⟨k, rfl, hk, rfl, hB⟩ := hrel
    have HB := Lib.hid hB
    clear hB
    by_cases hlt : k < room
    · have i1 : (k : Int) < (room : Int) := by omega
      have i2 : (0 : Int) ≤ (k : Int) := by omega
      have hX := HX.out.on HB.out
      have HLS := Lib.hid (show lenF L (k + 1) = lenF L k + if (bxAt L k).full = true then 1 else 0 from rfl)
      have hle := lenF_le L k
      obtain ⟨b, hb⟩ : ∃ b, b = bxAt L k := ⟨_, rfl⟩
      have hc : ∀ i u, b.C[i]? = some u → wr.cell? ⟨B, k * 15 + i, none⟩ = some u := fun i u hu => (hX.cell (by omega) (by rw [← hb]; exact hu)).1
      rw [← hb] at HLS
      obtain ⟨m, hm⟩ : ∃ m, m = lenF L k := ⟨_, rfl⟩
      rw [← hm] at HLS hle ⊢
      have q1 : IntKind.i64.wrap ((m : Int) + 1) = (m : Int) + 1 := by rw [IntKind.wrap_i64]; omega
      clear hb hX hm
      obtain ⟨full, ⟨e, n, q, l, x0, x1, x2, x3, x4, x5, x6, x7, once, tag⟩⟩ := b
      simp only at HLS
      have e0 : wr.cell? ⟨B, k * 15, none⟩ = some (.bool full) := hc 0 _ rfl
      have e1 : wr.cell? ⟨B, k * 15 + 1, none⟩ = some (.bool e) := hc 1 _ rfl
      have e2 : wr.cell? ⟨B, k * 15 + 2, none⟩ = some (.int .u32 (n : Int)) := hc 2 _ rfl
      have e3 : wr.cell? ⟨B, k * 15 + 3, none⟩ = some (.bool q) := hc 3 _ rfl
      have e4 : wr.cell? ⟨B, k * 15 + 4, none⟩ = some (.int .i64 l) := hc 4 _ rfl
      have e5 : wr.cell? ⟨B, k * 15 + 5, none⟩ = some (.int .u8 (x0 : Int)) := hc 5 _ rfl
      have e6 : wr.cell? ⟨B, k * 15 + 6, none⟩ = some (.int .u8 (x1 : Int)) := hc 6 _ rfl
      have e7 : wr.cell? ⟨B, k * 15 + 7, none⟩ = some (.int .u8 (x2 : Int)) := hc 7 _ rfl
      have e8 : wr.cell? ⟨B, k * 15 + 8, none⟩ = some (.int .u8 (x3 : Int)) := hc 8 _ rfl
      have e9 : wr.cell? ⟨B, k * 15 + 9, none⟩ = some (.int .u8 (x4 : Int)) := hc 9 _ rfl
      have e10 : wr.cell? ⟨B, k * 15 + 10, none⟩ = some (.int .u8 (x5 : Int)) := hc 10 _ rfl
      have e11 : wr.cell? ⟨B, k * 15 + 11, none⟩ = some (.int .u8 (x6 : Int)) := hc 11 _ rfl
      have e12 : wr.cell? ⟨B, k * 15 + 12, none⟩ = some (.int .u8 (x7 : Int)) := hc 12 _ rfl
      have e13 : wr.cell? ⟨B, k * 15 + 13, none⟩ = some (.bool once) := hc 13 _ rfl
      have e14 : wr.cell? ⟨B, k * 15 + 14, none⟩ = some (.int .i64 tag) := hc 14 _ rfl
      clear hc
      cases full
      · have HE := Lib.hid (show lenF L (k + 1) = m by rw [HLS.out]; simp)
        go_wp2_with fail
        go_roundw
        case rel => exact ⟨k + 1, by simp, by omega, by rw [HE.out], HB.out.alloc HB.out.size _⟩
        case measure => simp [intOf]; omega
      · have HE := Lib.hid (show lenF L (k + 1) = m + 1 by rw [HLS.out]; simp)
        go_wp2_with fail
        go_roundw
        case rel => exact ⟨k + 1, by simp, by omega, by rw [HE.out]; simp, HB.out.alloc HB.out.size _⟩
        case measure => simp [intOf]; omega
    · obtain rfl : k = room := by omega
      go_wp2_with fail
      go_ret
      exact ⟨rfl, HB.out⟩
theorem blen_nil (w : World) : Calls Try.prog 18 #[.pointer none] w fun y w' => y = .returned (.int .i64 0) ∧ Below w.heap.size w w' := by
  have HA := Lib.hid (all_nil w)
  go_enter Try.func18, Try.ntmps18
  go_wp2_with fail
  refine HA.out.mono ?_
  rintro y w1 ⟨rfl, hb⟩
  have HB1 := Lib.hid hb
  clear hb
  go_wp2_with fail
  go_loopw [3, 9] (fun s3 s9 wr => s3 = .int .i64 0 ∧ s9 = .int .i64 0 ∧ Below w.heap.size w wr) (fun _ s9 _ => 0)
  case atStart => exact ⟨rfl, rfl, HB1.out⟩
  case round =>
    obtain ⟨rfl, rfl, hB⟩ := hrel
    have HB := Lib.hid hB
    clear hB
    go_wp2_with fail
    go_ret
    exact ⟨rfl, HB.out⟩
end Go.Proofs.Ytbdockeopbfliaa
