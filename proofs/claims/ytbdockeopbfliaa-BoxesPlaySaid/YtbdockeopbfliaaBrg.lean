/- The document's own boxes: Put. Conditions: there are at most eight. -/
import Derived.Test.YtbdockeopbfliaaBrf
import Derived.Test.YtbdockeopbfliaaFrc
import Derived.Test.YtbdockeopbfliaaQui
import Derived.Deep.MidRow
namespace Go.Proofs.Ytbdockeopbfliaa
open Go.RowKit
set_option linter.unusedSimpArgs false
set_option linter.unusedVariables false
theorem PD.allC (p : PD) : p.C.toArray.all (·.oneCell') = true := by simp [PD.C, Value.oneCell']
theorem post_there {W : World} {P : Nat} {M : List BD} (h : Blk W P 39 (rpC M)) {j : Nat} (hj : j < M.length) : W.there P (j * 14) 14 := fun i hi => by
  have hl : j * 14 + i < (rpC M).length := by rw [rpC_len]; omega
  exact ⟨by rw [h.cellAt hl]; rfl, h.frozenAt _⟩
set_option maxRecDepth 1000000 in
set_option maxHeartbeats 8000000 in
theorem rbput_any (B P H : Nat) (L : List BD) (m : Nat) (p : PD) (w : World) (h : RB w B P H L m) : Calls Try.prog 11 #[.pointer (some ⟨B, 0, none⟩), p.V] w fun y w' => y = .returned (.tuple #[.int .i64 (putF m L p).1, .int .i64 ((putF m L p).2.1 : Int)]) ∧ RB w' B P H (putF m L p).2.2 m ∧ Kp P (.slice (some ⟨H, 0, none⟩) m m) w w' := by
  obtain ⟨R, hR⟩ : ∃ R, R = putF m L p := ⟨_, rfl⟩
  rw [← hR]
  have HR := Lib.hid hR
  have hm8 := h.r8
  have HM := Lib.hid hm8
  obtain ⟨e, n, q, l, x0, x1, x2, x3, x4, x5, x6, x7, once, tag⟩ := p
  obtain ⟨W0, hW0⟩ : ∃ W0, W0 = w.alloc (.cells #[.bool e, .int .u32 (n : Int), .bool q, .int .i64 l, .int .u8 (x0 : Int), .int .u8 (x1 : Int), .int .u8 (x2 : Int), .int .u8 (x3 : Int), .int .u8 (x4 : Int), .int .u8 (x5 : Int), .int .u8 (x6 : Int), .int .u8 (x7 : Int), .bool once, .int .i64 tag] 39) := ⟨_, rfl⟩
  have hb0 : Below w.heap.size w W0 := by rw [hW0]; exact (Below.refl _ w).alloc (Nat.le_refl _) _
  have hS := (show Blk W0 w.heap.size 39 [.bool e, .int .u32 (n : Int), .bool q, .int .i64 l, .int .u8 (x0 : Int), .int .u8 (x1 : Int), .int .u8 (x2 : Int), .int .u8 (x3 : Int), .int .u8 (x4 : Int), .int .u8 (x5 : Int), .int .u8 (x6 : Int), .int .u8 (x7 : Int), .bool once, .int .i64 tag] by rw [hW0]; exact Blk.new w _ [.bool e, .int .u32 (n : Int), .bool q, .int .i64 l, .int .u8 (x0 : Int), .int .u8 (x1 : Int), .int .u8 (x2 : Int), .int .u8 (x3 : Int), .int .u8 (x4 : Int), .int .u8 (x5 : Int), .int .u8 (x6 : Int), .int .u8 (x7 : Int), .bool once, .int .i64 tag])
  have HB0 := Lib.hid hb0
  obtain ⟨D, hD⟩ : ∃ D, D = w.heap.size := ⟨_, rfl⟩
  have HD := Lib.hid hD
  rw [← hD] at hS
  have HSB := Lib.hid hS
  have HX0 := Lib.hid (h.on hb0)
  have HBLT := Lib.hid h.blk.lt; have HPLT := Lib.hid h.posts.lt; have HHLT := Lib.hid h.has.lt
  have HP0 := Lib.hid (show Kp P (.slice (some ⟨H, 0, none⟩) m m) w W0 from Kp.of_below hb0)
  obtain ⟨r, hr⟩ : ∃ r, r = rightF e n q l [x0, x1, x2, x3, x4, x5, x6, x7] := ⟨_, rfl⟩
  have HRT := Lib.hid (fun u => ref6Right_any e n q l [x0, x1, x2, x3, x4, x5, x6, x7] rfl u)
  rw [← hr] at HRT
  have HRE := Lib.hid (show rightP ⟨e, n, q, l, x0, x1, x2, x3, x4, x5, x6, x7, once, tag⟩ = r by rw [hr]; rfl)
  unfold PD.V
  unfold frameV at HRT
  simp only at HRT ⊢
  have d0 := hS.cellAt (i := 0) (by simp)
  have f0 := hS.frozenAt 0
  have d1 := hS.cellAt (i := 1) (by simp)
  have f1 := hS.frozenAt 1
  have d2 := hS.cellAt (i := 2) (by simp)
  have f2 := hS.frozenAt 2
  have d3 := hS.cellAt (i := 3) (by simp)
  have f3 := hS.frozenAt 3
  have d4 := hS.cellAt (i := 4) (by simp)
  have f4 := hS.frozenAt 4
  have d5 := hS.cellAt (i := 5) (by simp)
  have f5 := hS.frozenAt 5
  have d6 := hS.cellAt (i := 6) (by simp)
  have f6 := hS.frozenAt 6
  have d7 := hS.cellAt (i := 7) (by simp)
  have f7 := hS.frozenAt 7
  have d8 := hS.cellAt (i := 8) (by simp)
  have f8 := hS.frozenAt 8
  have d9 := hS.cellAt (i := 9) (by simp)
  have f9 := hS.frozenAt 9
  have d10 := hS.cellAt (i := 10) (by simp)
  have f10 := hS.frozenAt 10
  have d11 := hS.cellAt (i := 11) (by simp)
  have f11 := hS.frozenAt 11
  have d12 := hS.cellAt (i := 12) (by simp)
  have f12 := hS.frozenAt 12
  have d13 := hS.cellAt (i := 13) (by simp)
  have f13 := hS.frozenAt 13
  simp only [List.getElem_cons_zero, List.getElem_cons_succ] at d0 d1 d2 d3 d4 d5 d6 d7 d8 d9 d10 d11 d12 d13
  clear hS hb0 h hR hr
  go_enter Try.func11, Try.ntmps11
  go_upto_region 1 with fail
  rw [← hW0, ← hD]
  clear hW0 hD f0 f1 f2 f3 f4 f5 f6 f7 f8 f9 f10 f11 f12 f13
  go_wp2_with fail
  refine (HRT.out _).mono ?_
  rintro y w1 ⟨rfl, hb⟩
  have HB1 := Lib.hid (below_transG HB0.out hb)
  have HS1 := Lib.hid (HSB.out.keep hb HSB.out.lt)
  have HX1 := Lib.hid (HX0.out.on hb)
  clear hb d0 d1 d2 d3 d4 d5 d6 d7 d8 d9 d10 d11 d12 d13
  by_cases h0 : r = 0
  rotate_left
  · have e1 : ((r : Int) != 0) = true := by simpa using h0
    have HE := Lib.hid (show R = (-1, r, L) by rw [HR.out]; unfold putF; rw [HRE.out, if_pos h0])
    clear h0
    go_wp2_with fail
    go_ret2
    exact ⟨by rw [HE.out] <;> rfl, by rw [HE.out]; exact HX1.out, Kp.of_below HB1.out⟩
  subst h0
  have d13 := HS1.out.cellAt (i := 13) (by simp)
  simp only [List.getElem_cons_zero, List.getElem_cons_succ] at d13
  have HFI := Lib.hid (rbfind_any B P H L m tag w1 HX1.out)
  obtain ⟨F, hF⟩ : ∃ F, F = findF L m tag := ⟨_, rfl⟩
  rw [← hF] at HFI
  have HF := Lib.hid hF
  clear hF
  go_wp2_with fail
  refine HFI.out.mono ?_
  rintro y w2 ⟨rfl, hb⟩
  have HB2 := Lib.hid (below_transG HB1.out hb)
  have HS2 := Lib.hid (HS1.out.keep hb HS1.out.lt)
  have HX2 := Lib.hid (HX1.out.on hb)
  clear hb d13
  by_cases h0 : 0 ≤ F
  · have HE := Lib.hid (show R = (-1, 13, L) by rw [HR.out]; unfold putF; rw [HRE.out, if_neg (by decide), if_pos (by rw [← HF.out]; omega)])
    go_wp2_with fail
    go_ret2
    exact ⟨by rw [HE.out] <;> rfl, by rw [HE.out]; exact HX2.out, Kp.of_below HB2.out⟩
  have hF1 : F = -1 := by
    rw [HF.out] at h0 ⊢
    rcases firstI_cases (fun j => tagB tag (bxAt L j)) m with ⟨h, _⟩ | ⟨k, h, _⟩
    · exact h
    · unfold findF at h0; rw [h] at h0; omega
  have HRQ := Lib.hid (show R = if emptyF L m = -1 then (-1, 6, L) else (emptyF L m, 0, L.set (emptyF L m).toNat ⟨true, ⟨e, n, q, l, x0, x1, x2, x3, x4, x5, x6, x7, once, tag⟩⟩) by rw [HR.out]; unfold putF; rw [HRE.out, if_neg (by decide), if_neg (by rw [← HF.out, hF1]; decide)])
  clear hF1
  go_wp2_with fail
  go_loopw [7] (fun i wr => ∃ k : Nat, i = .int .i64 (k : Int) ∧ k ≤ m ∧ (∀ j, j < k → emptyB (bxAt L j) = false) ∧ Below w2.heap.size w2 wr) (fun i _ => m - (intOf i).toNat)
  case atStart => exact ⟨0, rfl, by omega, fun j h => by omega, by first | exact Below.refl _ _ | exact (Below.refl _ _).drew⟩
  case round =>
    obtain ⟨k, rfl, hk, hno, hB⟩ := hrel
    have HB := Lib.hid hB; have HNO := Lib.hid hno
    have HXR := Lib.hid (HX2.out.on hB)
    have g0 := HXR.out.c0
    have g1 := HXR.out.c1
    clear hB hno
    have i2 : (0 : Int) ≤ (k : Int) := by omega
    have i3 : wrap64 ((k : Int) + 1) = (k : Int) + 1 := by unfold wrap64; omega
    by_cases hlt : k < m
    · have i1 : (k : Int) < (m : Int) := by omega
      have g2 := HXR.out.full hlt
      by_cases hfu : (bxAt L k).full = true
      · rw [hfu] at g2
        have HN2 := Lib.hid (show emptyB (bxAt L k) = false by unfold emptyB; rw [hfu]; rfl)
        clear hfu
        go_wp2_with fail
        go_roundw
        case rel => exact ⟨k + 1, by simp, by omega, fun j hj => by
          by_cases e : j = k
          · subst e; exact HN2.out
          · exact HNO.out j (by omega), by first | exact HB.out | exact HB.out.drew⟩
        case measure => simp [intOf]; omega
      · have hfu : (bxAt L k).full = false := by simpa using hfu
        rw [hfu] at g2
        have HE := Lib.hid (show R = ((k : Int), 0, L.set k ⟨true, ⟨e, n, q, l, x0, x1, x2, x3, x4, x5, x6, x7, once, tag⟩⟩) by
          have h1 : emptyF L m = (k : Int) := firstI_at hlt (by unfold emptyB; rw [hfu]; rfl) HNO.out
          rw [HRQ.out, h1, if_neg (by omega)]
          rfl)
        have HKM := Lib.hid (show k < (L.take m).length by rw [HXR.out.tl]; exact hlt)
        clear hfu
        obtain ⟨wd, hwd⟩ : ∃ u, u = wr.drew := ⟨_, rfl⟩
        have HBD := Lib.hid (show Below wr.heap.size wr wd by rw [hwd]; exact (Below.refl _ _).drew)
        have HWD := Lib.hid hwd
        clear hwd
        have HXD := Lib.hid (HXR.out.on HBD.out)
        have HSD := Lib.hid ((HS2.out.keep HB.out HS2.out.lt).keep HBD.out (Nat.lt_of_lt_of_le HS2.out.lt HB.out.size))
        have HSW := Lib.hid (show (True ∧ wd.cell? ⟨B, 0, none⟩ = some (.slice (some ⟨P, 0, none⟩) m m) ∧ wd.cell? ⟨D, 0, none⟩ = some (.bool e) ∧ wd.cell? ⟨D, 1, none⟩ = some (.int .u32 (n : Int)) ∧ wd.cell? ⟨D, 2, none⟩ = some (.bool q) ∧ wd.cell? ⟨D, 3, none⟩ = some (.int .i64 l) ∧ wd.cell? ⟨D, 4, none⟩ = some (.int .u8 (x0 : Int)) ∧ wd.cell? ⟨D, 5, none⟩ = some (.int .u8 (x1 : Int)) ∧ wd.cell? ⟨D, 6, none⟩ = some (.int .u8 (x2 : Int)) ∧ wd.cell? ⟨D, 7, none⟩ = some (.int .u8 (x3 : Int)) ∧ wd.cell? ⟨D, 8, none⟩ = some (.int .u8 (x4 : Int)) ∧ wd.cell? ⟨D, 9, none⟩ = some (.int .u8 (x5 : Int)) ∧ wd.cell? ⟨D, 10, none⟩ = some (.int .u8 (x6 : Int)) ∧ wd.cell? ⟨D, 11, none⟩ = some (.int .u8 (x7 : Int)) ∧ wd.cell? ⟨D, 12, none⟩ = some (.bool once) ∧ wd.cell? ⟨D, 13, none⟩ = some (.int .i64 tag)) from ⟨trivial, HXD.out.c0, HSD.out.cellAt (i := 0) (by simp), HSD.out.cellAt (i := 1) (by simp), HSD.out.cellAt (i := 2) (by simp), HSD.out.cellAt (i := 3) (by simp), HSD.out.cellAt (i := 4) (by simp), HSD.out.cellAt (i := 5) (by simp), HSD.out.cellAt (i := 6) (by simp), HSD.out.cellAt (i := 7) (by simp), HSD.out.cellAt (i := 8) (by simp), HSD.out.cellAt (i := 9) (by simp), HSD.out.cellAt (i := 10) (by simp), HSD.out.cellAt (i := 11) (by simp), HSD.out.cellAt (i := 12) (by simp), HSD.out.cellAt (i := 13) (by simp)⟩)
        have HT := Lib.hid (post_there HXD.out.posts HKM.out)
        obtain ⟨W4, hW4⟩ : ∃ u, u = ((((((((((((((wd.setCell ⟨P, k * 14, none⟩ (.bool e)).setCell ⟨P, k * 14 + 1, none⟩ (.int .u32 (n : Int))).setCell ⟨P, k * 14 + 2, none⟩ (.bool q)).setCell ⟨P, k * 14 + 3, none⟩ (.int .i64 l)).setCell ⟨P, k * 14 + 4, none⟩ (.int .u8 (x0 : Int))).setCell ⟨P, k * 14 + 5, none⟩ (.int .u8 (x1 : Int))).setCell ⟨P, k * 14 + 6, none⟩ (.int .u8 (x2 : Int))).setCell ⟨P, k * 14 + 7, none⟩ (.int .u8 (x3 : Int))).setCell ⟨P, k * 14 + 8, none⟩ (.int .u8 (x4 : Int))).setCell ⟨P, k * 14 + 9, none⟩ (.int .u8 (x5 : Int))).setCell ⟨P, k * 14 + 10, none⟩ (.int .u8 (x6 : Int))).setCell ⟨P, k * 14 + 11, none⟩ (.int .u8 (x7 : Int))).setCell ⟨P, k * 14 + 12, none⟩ (.bool once)).setCell ⟨P, k * 14 + 13, none⟩ (.int .i64 tag)) := ⟨_, rfl⟩
        have hW5 : W4 = wd.setCells P (k * 14) (PD.C ⟨e, n, q, l, x0, x1, x2, x3, x4, x5, x6, x7, once, tag⟩) := by rw [hW4]; rfl
        have hcx := post_cells HXD.out.posts HKM.out
        obtain ⟨v0, c0, z0⟩ := hcx 0 (by omega)
        obtain ⟨v1, c1, z1⟩ := hcx 1 (by omega)
        obtain ⟨v2, c2, z2⟩ := hcx 2 (by omega)
        obtain ⟨v3, c3, z3⟩ := hcx 3 (by omega)
        obtain ⟨v4, c4, z4⟩ := hcx 4 (by omega)
        obtain ⟨v5, c5, z5⟩ := hcx 5 (by omega)
        obtain ⟨v6, c6, z6⟩ := hcx 6 (by omega)
        obtain ⟨v7, c7, z7⟩ := hcx 7 (by omega)
        obtain ⟨v8, c8, z8⟩ := hcx 8 (by omega)
        obtain ⟨v9, c9, z9⟩ := hcx 9 (by omega)
        obtain ⟨v10, c10, z10⟩ := hcx 10 (by omega)
        obtain ⟨v11, c11, z11⟩ := hcx 11 (by omega)
        obtain ⟨v12, c12, z12⟩ := hcx 12 (by omega)
        obtain ⟨v13, c13, z13⟩ := hcx 13 (by omega)
        rw [Nat.add_zero] at c0 z0
        clear hcx
        have HW4 := Lib.hid hW4
        clear hW4
        have hDP : D ≠ P := fun e => by have := HPLT.out; have := HD.out; omega
        have HA4 := Lib.hid (show Blk W4 B 51 [.slice (some ⟨P, 0, none⟩) m m, .slice (some ⟨H, 0, none⟩) m m] by rw [hW5]; exact HXD.out.blk.on (heap_setCellsG HXD.out.bp _ _ _))
        have HD4 := Lib.hid (show Blk W4 D 39 [.bool e, .int .u32 (n : Int), .bool q, .int .i64 l, .int .u8 (x0 : Int), .int .u8 (x1 : Int), .int .u8 (x2 : Int), .int .u8 (x3 : Int), .int .u8 (x4 : Int), .int .u8 (x5 : Int), .int .u8 (x6 : Int), .int .u8 (x7 : Int), .bool once, .int .i64 tag] by rw [hW5]; exact HSD.out.on (heap_setCellsG hDP _ _ _))
        have HSX := Lib.hid (show (True ∧ W4.cell? ⟨B, 0, none⟩ = some (.slice (some ⟨P, 0, none⟩) m m) ∧ W4.cell? ⟨D, 0, none⟩ = some (.bool e) ∧ W4.cell? ⟨D, 1, none⟩ = some (.int .u32 (n : Int)) ∧ W4.cell? ⟨D, 2, none⟩ = some (.bool q) ∧ W4.cell? ⟨D, 3, none⟩ = some (.int .i64 l) ∧ W4.cell? ⟨D, 4, none⟩ = some (.int .u8 (x0 : Int)) ∧ W4.cell? ⟨D, 5, none⟩ = some (.int .u8 (x1 : Int)) ∧ W4.cell? ⟨D, 6, none⟩ = some (.int .u8 (x2 : Int)) ∧ W4.cell? ⟨D, 7, none⟩ = some (.int .u8 (x3 : Int)) ∧ W4.cell? ⟨D, 8, none⟩ = some (.int .u8 (x4 : Int)) ∧ W4.cell? ⟨D, 9, none⟩ = some (.int .u8 (x5 : Int)) ∧ W4.cell? ⟨D, 10, none⟩ = some (.int .u8 (x6 : Int)) ∧ W4.cell? ⟨D, 11, none⟩ = some (.int .u8 (x7 : Int)) ∧ W4.cell? ⟨D, 12, none⟩ = some (.bool once) ∧ W4.cell? ⟨D, 13, none⟩ = some (.int .i64 tag)) from ⟨trivial, HA4.out.cellAt (i := 0) (by simp), HD4.out.cellAt (i := 0) (by simp), HD4.out.cellAt (i := 1) (by simp), HD4.out.cellAt (i := 2) (by simp), HD4.out.cellAt (i := 3) (by simp), HD4.out.cellAt (i := 4) (by simp), HD4.out.cellAt (i := 5) (by simp), HD4.out.cellAt (i := 6) (by simp), HD4.out.cellAt (i := 7) (by simp), HD4.out.cellAt (i := 8) (by simp), HD4.out.cellAt (i := 9) (by simp), HD4.out.cellAt (i := 10) (by simp), HD4.out.cellAt (i := 11) (by simp), HD4.out.cellAt (i := 12) (by simp), HD4.out.cellAt (i := 13) (by simp)⟩)
        have HJ1 := Lib.hid (show Blk W4 P 39 (rpC ((L.take m).set k ⟨true, ⟨e, n, q, l, x0, x1, x2, x3, x4, x5, x6, x7, once, tag⟩⟩)) by rw [hW5]; exact rp_put HXD.out.posts HKM.out ⟨true, ⟨e, n, q, l, x0, x1, x2, x3, x4, x5, x6, x7, once, tag⟩⟩)
        have HH4 := Lib.hid (show Blk W4 H 4 (rhC (L.take m)) by rw [hW5]; exact HXD.out.has.on (heap_setCellsG (fun e => HXD.out.ph e.symm) _ _ _))
        have HK4 := Lib.hid (show Kp P (.slice (some ⟨H, 0, none⟩) m m) w W4 by rw [hW5]; exact Kp.setCells _ _ _ (Kp.of_below (below_transG (below_transG HB2.out HB.out) HBD.out)))
        clear hW5 hDP
        go_upto_region 12 with fail
        clear g0 g1 g2
        refine wp_region_held_drew (S := fun u => True ∧ u.cell? ⟨B, 0, none⟩ = some (.slice (some ⟨P, 0, none⟩) m m) ∧ u.cell? ⟨D, 0, none⟩ = some (.bool e) ∧ u.cell? ⟨D, 1, none⟩ = some (.int .u32 (n : Int)) ∧ u.cell? ⟨D, 2, none⟩ = some (.bool q) ∧ u.cell? ⟨D, 3, none⟩ = some (.int .i64 l) ∧ u.cell? ⟨D, 4, none⟩ = some (.int .u8 (x0 : Int)) ∧ u.cell? ⟨D, 5, none⟩ = some (.int .u8 (x1 : Int)) ∧ u.cell? ⟨D, 6, none⟩ = some (.int .u8 (x2 : Int)) ∧ u.cell? ⟨D, 7, none⟩ = some (.int .u8 (x3 : Int)) ∧ u.cell? ⟨D, 8, none⟩ = some (.int .u8 (x4 : Int)) ∧ u.cell? ⟨D, 9, none⟩ = some (.int .u8 (x5 : Int)) ∧ u.cell? ⟨D, 10, none⟩ = some (.int .u8 (x6 : Int)) ∧ u.cell? ⟨D, 11, none⟩ = some (.int .u8 (x7 : Int)) ∧ u.cell? ⟨D, 12, none⟩ = some (.bool once) ∧ u.cell? ⟨D, 13, none⟩ = some (.int .i64 tag)) (by kernel_rfl) (by rw [← HWD.out]; exact HSW.out) (fun hHeld => ?_)
        rw [← HWD.out] at hHeld ⊢
        refine wpAnyH_take (i := 0) (oi := _) (v := ?_) rfl (by kernel_rfl) (by kernel_rfl) (by kernel_rfl) (fun _ _ _ h => h) (Or.inl ⟨by rfl, ?_⟩) (by assumption) ?_
        rotate_left
        · intro x hSx
          try dsimp only at hSx
          obtain ⟨_, hSx0, hSx1, hSx2, hSx3, hSx4, hSx5, hSx6, hSx7, hSx8, hSx9, hSx10, hSx11, hSx12, hSx13, hSx14⟩ := hSx
          go_simp
          first | done | with_reducible rfl
        try simp only [Act.put, List.setIfInBounds_toArray, List.set_cons_zero, List.set_cons_succ]
        refine wpAnyH_take (i := 1) (oi := _) (v := ?_) rfl (by kernel_rfl) (by kernel_rfl) (by kernel_rfl) (fun _ _ _ h => h) (Or.inl ⟨by rfl, ?_⟩) (by assumption) ?_
        rotate_left
        · intro x hSx
          try dsimp only at hSx
          obtain ⟨_, hSx0, hSx1, hSx2, hSx3, hSx4, hSx5, hSx6, hSx7, hSx8, hSx9, hSx10, hSx11, hSx12, hSx13, hSx14⟩ := hSx
          go_simp
          first | done | with_reducible rfl
        try simp only [Act.put, List.setIfInBounds_toArray, List.set_cons_zero, List.set_cons_succ]
        refine wpAnyH_take (i := 2) (oi := _) (v := ?_) rfl (by kernel_rfl) (by kernel_rfl) (by kernel_rfl) (fun _ _ _ h => h) (Or.inl ⟨by rfl, ?_⟩) (by assumption) ?_
        rotate_left
        · intro x hSx
          try dsimp only at hSx
          obtain ⟨_, hSx0, hSx1, hSx2, hSx3, hSx4, hSx5, hSx6, hSx7, hSx8, hSx9, hSx10, hSx11, hSx12, hSx13, hSx14⟩ := hSx
          go_simp
          first | done | with_reducible rfl
        try simp only [Act.put, List.setIfInBounds_toArray, List.set_cons_zero, List.set_cons_succ]
        refine wpAnyH_take (i := 3) (oi := _) (v := ?_) rfl (by kernel_rfl) (by kernel_rfl) (by kernel_rfl) (fun _ _ _ h => h) (Or.inl ⟨by rfl, ?_⟩) (by assumption) ?_
        rotate_left
        · intro x hSx
          try dsimp only at hSx
          obtain ⟨_, hSx0, hSx1, hSx2, hSx3, hSx4, hSx5, hSx6, hSx7, hSx8, hSx9, hSx10, hSx11, hSx12, hSx13, hSx14⟩ := hSx
          go_simp
          first | done | with_reducible rfl
        try simp only [Act.put, List.setIfInBounds_toArray, List.set_cons_zero, List.set_cons_succ]
        refine wpAnyH_take (i := 4) (oi := _) (v := ?_) rfl (by kernel_rfl) (by kernel_rfl) (by kernel_rfl) (fun _ _ _ h => h) (Or.inl ⟨by rfl, ?_⟩) (by assumption) ?_
        rotate_left
        · intro x hSx
          try dsimp only at hSx
          obtain ⟨_, hSx0, hSx1, hSx2, hSx3, hSx4, hSx5, hSx6, hSx7, hSx8, hSx9, hSx10, hSx11, hSx12, hSx13, hSx14⟩ := hSx
          go_simp
          first | done | with_reducible rfl
        try simp only [Act.put, List.setIfInBounds_toArray, List.set_cons_zero, List.set_cons_succ]
        refine wpAnyH_take (i := 5) (oi := _) (v := ?_) rfl (by kernel_rfl) (by kernel_rfl) (by kernel_rfl) (fun _ _ _ h => h) (Or.inl ⟨by rfl, ?_⟩) (by assumption) ?_
        rotate_left
        · intro x hSx
          try dsimp only at hSx
          obtain ⟨_, hSx0, hSx1, hSx2, hSx3, hSx4, hSx5, hSx6, hSx7, hSx8, hSx9, hSx10, hSx11, hSx12, hSx13, hSx14⟩ := hSx
          go_simp
          first | done | with_reducible rfl
        try simp only [Act.put, List.setIfInBounds_toArray, List.set_cons_zero, List.set_cons_succ]
        refine wpAnyH_take (i := 6) (oi := _) (v := ?_) rfl (by kernel_rfl) (by kernel_rfl) (by kernel_rfl) (fun _ _ _ h => h) (Or.inl ⟨by rfl, ?_⟩) (by assumption) ?_
        rotate_left
        · intro x hSx
          try dsimp only at hSx
          obtain ⟨_, hSx0, hSx1, hSx2, hSx3, hSx4, hSx5, hSx6, hSx7, hSx8, hSx9, hSx10, hSx11, hSx12, hSx13, hSx14⟩ := hSx
          go_simp
          first | done | with_reducible rfl
        try simp only [Act.put, List.setIfInBounds_toArray, List.set_cons_zero, List.set_cons_succ]
        refine wpAnyH_ready (rs := [7]) (by kernel_rfl) (by simp) ?_
        refine AllReadyH.cons (o := _) rfl (fun K hK => ?_) AllReadyH.nil
        go_simp
        rw [← HW4.out]
        refine hK.out _ _ HSX.out (fun hHeld => ?_)
        clear hK K hHeld c0 z0 c1 z1 c2 z2 c3 z3 c4 z4 c5 z5 c6 z6 c7 z7 c8 z8 c9 z9 c10 z10 c11 z11 c12 z12 c13 z13
        try simp only [Act.put, List.setIfInBounds_toArray, List.set_cons_zero, List.set_cons_succ]
        refine ⟨by kernel_rfl, ?_⟩
        clear hHeld
        have g1 : W4.cell? ⟨B, 1, none⟩ = some (.slice (some ⟨H, 0, none⟩) m m) := HA4.out.cellAt (i := 1) (by simp)
        have g2 := HH4.out.cellAt (i := k) (by rw [rhC_len]; exact HKM.out)
        have g3 := HH4.out.frozenAt k
        have HRX := Lib.hid (show RB (W4.setCell ⟨H, k, none⟩ (.bool true)) B P H (L.set k ⟨true, ⟨e, n, q, l, x0, x1, x2, x3, x4, x5, x6, x7, once, tag⟩⟩) m from HXR.out.mk2 (j := k) _ (HA4.out.puts (fun e => HXR.out.bh e.symm) _ _) (HJ1.out.puts (fun e => HXR.out.ph e.symm) _ _) (rh_put HH4.out HKM.out ⟨true, ⟨e, n, q, l, x0, x1, x2, x3, x4, x5, x6, x7, once, tag⟩⟩))
        have HKX := Lib.hid (HK4.out.setV (j := k) (.bool true))
        go_wp2_with fail
        go_ret2
        exact ⟨by rw [HE.out] <;> rfl, by rw [HE.out]; exact HRX.out, HKX.out⟩
    · have i1 : ¬ (k : Int) < (m : Int) := by omega
      have HE := Lib.hid (show R = (-1, 6, L) by
        have hkm : k = m := by omega
        have h1 : emptyF L m = -1 := firstI_none (fun j hj => HNO.out j (by omega))
        rw [HRQ.out, h1, if_pos rfl])
      go_wp2_with fail
      go_ret2
      exact ⟨by rw [HE.out] <;> rfl, by rw [HE.out]; exact HXR.out, Kp.of_below (by first | exact below_transG HB2.out HB.out | exact (below_transG HB2.out HB.out).drew)⟩
end Go.Proofs.Ytbdockeopbfliaa
