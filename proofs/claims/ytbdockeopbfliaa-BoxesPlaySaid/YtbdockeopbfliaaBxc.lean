/- The code of package boxes: what is put in, and what is taken out. Conditions: there are at most eight. -/
import Derived.Test.YtbdockeopbfliaaBxb
import Derived.Test.YtbdockeopbfliaaIne
import Derived.Test.YtbdockeopbfliaaFca
namespace Go.Proofs.Ytbdockeopbfliaa
open Go.RowKit
def rightP (p : PD) : Nat := rightF p.e p.n p.q p.l [p.x0, p.x1, p.x2, p.x3, p.x4, p.x5, p.x6, p.x7]
def emptyF (L : List BD) (room : Nat) : Int := firstI (fun j => emptyB (bxAt L j)) room
/-- What putting answers, and leaves. -/
def putF (room : Nat) (L : List BD) (p : PD) : Int × Nat × List BD :=
  if rightP p ≠ 0 then (-1, rightP p, L) else if findF L room p.tag ≠ -1 then (-1, 13, L) else if emptyF L room = -1 then (-1, 6, L) else (emptyF L room, 0, L.set (emptyF L room).toNat ⟨true, p⟩)
/-- What taking answers, and leaves. -/
def takeF (room : Nat) (L : List BD) (i : Int) : PD × Nat × List BD :=
  if 0 ≤ i ∧ i < (room : Int) then (if (bxAt L i.toNat).full = true then ((bxAt L i.toNat).p, 0, L.set i.toNat BD.zero) else (PD.zero, 7, L)) else (PD.zero, 1, L)
theorem put15 {W : World} {B : Nat} {L : List BD} {room k : Nat} (h : BxA W B L room) (hk : k < 8) (full : Bool) (e : Bool) (n : Nat) (q : Bool) (l : Int) (x0 x1 x2 x3 x4 x5 x6 x7 : Nat) (once : Bool) (tag : Int) : BxA (((((((((((((((W.setCell ⟨B, k * 15, none⟩ (.bool full)).setCell ⟨B, k * 15 + 1, none⟩ (.bool e)).setCell ⟨B, k * 15 + 2, none⟩ (.int .u32 (n : Int))).setCell ⟨B, k * 15 + 3, none⟩ (.bool q)).setCell ⟨B, k * 15 + 4, none⟩ (.int .i64 l)).setCell ⟨B, k * 15 + 5, none⟩ (.int .u8 (x0 : Int))).setCell ⟨B, k * 15 + 6, none⟩ (.int .u8 (x1 : Int))).setCell ⟨B, k * 15 + 7, none⟩ (.int .u8 (x2 : Int))).setCell ⟨B, k * 15 + 8, none⟩ (.int .u8 (x3 : Int))).setCell ⟨B, k * 15 + 9, none⟩ (.int .u8 (x4 : Int))).setCell ⟨B, k * 15 + 10, none⟩ (.int .u8 (x5 : Int))).setCell ⟨B, k * 15 + 11, none⟩ (.int .u8 (x6 : Int))).setCell ⟨B, k * 15 + 12, none⟩ (.int .u8 (x7 : Int))).setCell ⟨B, k * 15 + 13, none⟩ (.bool once)).setCell ⟨B, k * 15 + 14, none⟩ (.int .i64 tag)) B (L.set k ⟨full, ⟨e, n, q, l, x0, x1, x2, x3, x4, x5, x6, x7, once, tag⟩⟩) room :=
  h.put hk ⟨full, ⟨e, n, q, l, x0, x1, x2, x3, x4, x5, x6, x7, once, tag⟩⟩
theorem kp15 {W w : World} {B k : Nat} {v : Value} (h : Kp B v w W) (full : Bool) (e : Bool) (n : Nat) (q : Bool) (l : Int) (x0 x1 x2 x3 x4 x5 x6 x7 : Nat) (once : Bool) (tag : Int) : Kp B v w (((((((((((((((W.setCell ⟨B, k * 15, none⟩ (.bool full)).setCell ⟨B, k * 15 + 1, none⟩ (.bool e)).setCell ⟨B, k * 15 + 2, none⟩ (.int .u32 (n : Int))).setCell ⟨B, k * 15 + 3, none⟩ (.bool q)).setCell ⟨B, k * 15 + 4, none⟩ (.int .i64 l)).setCell ⟨B, k * 15 + 5, none⟩ (.int .u8 (x0 : Int))).setCell ⟨B, k * 15 + 6, none⟩ (.int .u8 (x1 : Int))).setCell ⟨B, k * 15 + 7, none⟩ (.int .u8 (x2 : Int))).setCell ⟨B, k * 15 + 8, none⟩ (.int .u8 (x3 : Int))).setCell ⟨B, k * 15 + 9, none⟩ (.int .u8 (x4 : Int))).setCell ⟨B, k * 15 + 10, none⟩ (.int .u8 (x5 : Int))).setCell ⟨B, k * 15 + 11, none⟩ (.int .u8 (x6 : Int))).setCell ⟨B, k * 15 + 12, none⟩ (.int .u8 (x7 : Int))).setCell ⟨B, k * 15 + 13, none⟩ (.bool once)).setCell ⟨B, k * 15 + 14, none⟩ (.int .i64 tag)) :=
  Kp.setCells (BD.C ⟨full, ⟨e, n, q, l, x0, x1, x2, x3, x4, x5, x6, x7, once, tag⟩⟩) (k * 15) W h
theorem BxA.drewG {W : World} {B : Nat} {L : List BD} {room : Nat} (h : BxA W B L room) : BxA W.drew B L room := ⟨h.blk.drewG, h.eight, h.r1, h.r8⟩
theorem Kp.drewG {B : Nat} {v : Value} {w w' : World} (h : Kp B v w w') : Kp B v w w'.drew := ⟨h.os, h.tape, h.output, h.size, h.block⟩
set_option maxRecDepth 100000 in
set_option maxHeartbeats 8000000 in
theorem put_any (B : Nat) (L : List BD) (room : Nat) (p : PD) (w : World) (h : BxA w B L room) :
    Calls Try.prog 6 #[.pointer (some ⟨B, 0, none⟩), p.V] w fun y w' => y = .returned (.tuple #[.int .i64 (putF room L p).1, .int .i64 ((putF room L p).2.1 : Int)]) ∧ BxA w' B (putF room L p).2.2 room ∧ Kp B (.slice none 0 0) w w' := by
  obtain ⟨R, hR⟩ : ∃ R, R = putF room L p := ⟨_, rfl⟩
  rw [← hR]
  have HR := Lib.hid hR
  have HRI := Lib.hid (fun u => frameRight_any p.e p.n p.q p.l [p.x0, p.x1, p.x2, p.x3, p.x4, p.x5, p.x6, p.x7] rfl u)
  obtain ⟨rp, hrp⟩ : ∃ rp, rp = rightP p := ⟨_, rfl⟩
  have HRP := Lib.hid hrp
  rw [show rightF p.e p.n p.q p.l [p.x0, p.x1, p.x2, p.x3, p.x4, p.x5, p.x6, p.x7] = rp by rw [hrp]; rfl] at HRI
  obtain ⟨⟨e, n, q, l, x0, x1, x2, x3, x4, x5, x6, x7, once, tag⟩, hp⟩ : ∃ p', p' = p := ⟨p, rfl⟩
  have HPE := Lib.hid hp
  rw [← hp] at HRI ⊢
  obtain ⟨W0, hW0⟩ : ∃ W0, W0 = w.alloc (.cells #[.bool e, .int .u32 (n : Int), .bool q, .int .i64 l, .int .u8 (x0 : Int), .int .u8 (x1 : Int), .int .u8 (x2 : Int), .int .u8 (x3 : Int), .int .u8 (x4 : Int), .int .u8 (x5 : Int), .int .u8 (x6 : Int), .int .u8 (x7 : Int), .bool once, .int .i64 tag] 39) := ⟨_, rfl⟩
  have hb0 : Below w.heap.size w W0 := by rw [hW0]; exact (Below.refl _ w).alloc (Nat.le_refl _) _
  have hS := (show Blk W0 w.heap.size 39 [.bool e, .int .u32 (n : Int), .bool q, .int .i64 l, .int .u8 (x0 : Int), .int .u8 (x1 : Int), .int .u8 (x2 : Int), .int .u8 (x3 : Int), .int .u8 (x4 : Int), .int .u8 (x5 : Int), .int .u8 (x6 : Int), .int .u8 (x7 : Int), .bool once, .int .i64 tag] by rw [hW0]; exact Blk.new w _ [.bool e, .int .u32 (n : Int), .bool q, .int .i64 l, .int .u8 (x0 : Int), .int .u8 (x1 : Int), .int .u8 (x2 : Int), .int .u8 (x3 : Int), .int .u8 (x4 : Int), .int .u8 (x5 : Int), .int .u8 (x6 : Int), .int .u8 (x7 : Int), .bool once, .int .i64 tag])
  have HB0 := Lib.hid hb0
  obtain ⟨D, hD⟩ : ∃ D, D = w.heap.size := ⟨_, rfl⟩
  have HD := Lib.hid hD
  rw [← hD] at hS
  have HSB := Lib.hid hS
  have HX0 := Lib.hid (h.on hb0)
  have HBW := Lib.hid h.lt
  have HFD := Lib.hid (fun u hu => find_any B L room tag u (HX0.out.on hu))
  obtain ⟨fd, hfd⟩ : ∃ fd, fd = findF L room tag := ⟨_, rfl⟩
  have HFE := Lib.hid hfd
  rw [← hfd] at HFD
  have HAL := Lib.hid (fun u hu => all_any B L room u (HX0.out.on hu))
  have HIX := Lib.hid (fun u (hu : Below W0.heap.size W0 u) => ixe_any L B room (by rw [h.eight]; exact h.r8) h.r8 u (HX0.out.on hu).rd)
  obtain ⟨em, hem⟩ : ∃ em, em = emptyF L room := ⟨_, rfl⟩
  have HEE := Lib.hid hem
  rw [show firstI (fun j => emptyB (bxAt L j)) room = em by rw [hem]; rfl] at HIX
  have hcase := firstI_cases (fun j => emptyB (bxAt L j)) room
  rw [show firstI (fun j => emptyB (bxAt L j)) room = em by rw [hem]; rfl] at hcase
  have h8 := h.r8
  have HP0 := Lib.hid (show Kp B (.slice none 0 0) w W0 from Kp.of_below hb0)
  unfold PD.V
  simp only [frameV, frameC, List.map] at HRI
  simp only at HRI ⊢
  clear hR hrp hp hb0 hfd hem h
  have d0 := hS.cellAt (i := 0) (by simp)
  have f0 := hS.frozenAt 0
  have d1 := hS.cellAt (i := 1) (by simp)
  have f1 := hS.frozenAt 1
  have d2 := hS.cellAt (i := 2) (by simp)
  have f2 := hS.frozenAt 2
  have d3 := hS.cellAt (i := 3) (by simp)
  have f3 := hS.frozenAt 3
  have d4 := hS.cellAt (i := 4) (by simp)
  have f4 := hS.frozenAt 4
  have d5 := hS.cellAt (i := 5) (by simp)
  have f5 := hS.frozenAt 5
  have d6 := hS.cellAt (i := 6) (by simp)
  have f6 := hS.frozenAt 6
  have d7 := hS.cellAt (i := 7) (by simp)
  have f7 := hS.frozenAt 7
  have d8 := hS.cellAt (i := 8) (by simp)
  have f8 := hS.frozenAt 8
  have d9 := hS.cellAt (i := 9) (by simp)
  have f9 := hS.frozenAt 9
  have d10 := hS.cellAt (i := 10) (by simp)
  have f10 := hS.frozenAt 10
  have d11 := hS.cellAt (i := 11) (by simp)
  have f11 := hS.frozenAt 11
  have d12 := hS.cellAt (i := 12) (by simp)
  have f12 := hS.frozenAt 12
  have d13 := hS.cellAt (i := 13) (by simp)
  have f13 := hS.frozenAt 13
  simp only [List.getElem_cons_zero, List.getElem_cons_succ] at d0 d1 d2 d3 d4 d5 d6 d7 d8 d9 d10 d11 d12 d13
  clear hS
  go_enter Try.func6, Try.ntmps6
  go_upto_region 1 with fail
  rw [← hW0, ← hD]
  clear hW0 hD
  go_wp2_with fail
  refine (HRI.out _).mono ?_
  rintro y w1 ⟨rfl, hb⟩
  have HB1 := Lib.hid hb; have HS1 := Lib.hid (HSB.out.keep hb HSB.out.lt)
  clear hb d0 d1 d2 d3 d4 d5 d6 d7 d8 d9 d10 d11 d12 d13 f0 f1 f2 f3 f4 f5 f6 f7 f8 f9 f10 f11 f12 f13
  by_cases hr0 : rp = 0
  case neg =>
    have i1 : ((rp : Int) != 0) = true := by simp; omega
    have HE := Lib.hid (show R = (-1, rp, L) by rw [HR.out]; unfold putF; rw [← HRP.out, if_pos hr0])
    go_wp2_with fail
    refine bodyPost_ret (v := .tuple #[.int .i64 (-1), .int .i64 (rp : Int)]) (by simp [results, Try.results6, go_sem]) rfl ?_
    exact ⟨by rw [HE.out], by rw [HE.out]; exact HX0.out.on HB1.out, HP0.out.step HB1.out⟩
  subst hr0
  have i1 : (((0 : Nat) : Int) != 0) = false := rfl
  have hS := HS1.out
  have d0 := hS.cellAt (i := 0) (by simp)
  have f0 := hS.frozenAt 0
  have d1 := hS.cellAt (i := 1) (by simp)
  have f1 := hS.frozenAt 1
  have d2 := hS.cellAt (i := 2) (by simp)
  have f2 := hS.frozenAt 2
  have d3 := hS.cellAt (i := 3) (by simp)
  have f3 := hS.frozenAt 3
  have d4 := hS.cellAt (i := 4) (by simp)
  have f4 := hS.frozenAt 4
  have d5 := hS.cellAt (i := 5) (by simp)
  have f5 := hS.frozenAt 5
  have d6 := hS.cellAt (i := 6) (by simp)
  have f6 := hS.frozenAt 6
  have d7 := hS.cellAt (i := 7) (by simp)
  have f7 := hS.frozenAt 7
  have d8 := hS.cellAt (i := 8) (by simp)
  have f8 := hS.frozenAt 8
  have d9 := hS.cellAt (i := 9) (by simp)
  have f9 := hS.frozenAt 9
  have d10 := hS.cellAt (i := 10) (by simp)
  have f10 := hS.frozenAt 10
  have d11 := hS.cellAt (i := 11) (by simp)
  have f11 := hS.frozenAt 11
  have d12 := hS.cellAt (i := 12) (by simp)
  have f12 := hS.frozenAt 12
  have d13 := hS.cellAt (i := 13) (by simp)
  have f13 := hS.frozenAt 13
  simp only [List.getElem_cons_zero, List.getElem_cons_succ] at d0 d1 d2 d3 d4 d5 d6 d7 d8 d9 d10 d11 d12 d13
  clear hS
  go_wp2_with fail
  refine (HFD.out _ HB1.out).mono ?_
  rintro y w2 ⟨rfl, hb⟩
  have HB2 := Lib.hid (below_transG HB1.out hb); have HS2 := Lib.hid (HS1.out.keep hb HS1.out.lt)
  clear hb d0 d1 d2 d3 d4 d5 d6 d7 d8 d9 d10 d11 d12 d13 f0 f1 f2 f3 f4 f5 f6 f7 f8 f9 f10 f11 f12 f13
  by_cases hf0 : fd = -1
  case neg =>
    have i2 : (fd != -1) = true := by simp; exact hf0
    have HE := Lib.hid (show R = (-1, 13, L) by rw [HR.out]; unfold putF; rw [← HRP.out, if_neg (by simp), show findF L room p.tag = fd by rw [HFE.out, ← HPE.out], if_pos hf0])
    go_wp2_with fail
    refine bodyPost_ret (v := .tuple #[.int .i64 (-1), .int .i64 13]) (by simp [results, Try.results6, go_sem]) rfl ?_
    exact ⟨by rw [HE.out]; rfl, by rw [HE.out]; exact HX0.out.on HB2.out, HP0.out.step HB2.out⟩
  subst hf0
  have i2 : ((-1 : Int) != -1) = false := rfl
  go_wp2_with fail
  refine (HAL.out _ HB2.out).mono ?_
  rintro y w3 ⟨rfl, hb⟩
  have HB3 := Lib.hid (below_transG HB2.out hb); have HS3 := Lib.hid (HS2.out.keep hb HS2.out.lt)
  clear hb
  go_wp2_with fail
  refine (HIX.out _ HB3.out).mono ?_
  rintro y w4 ⟨rfl, hb⟩
  have HB4 := Lib.hid (below_transG HB3.out hb); have HS4 := Lib.hid (HS3.out.keep hb HS3.out.lt)
  clear hb
  rcases hcase with ⟨rfl, _⟩ | ⟨k, rfl, hk, _, _⟩
  · have i3 : ((-1 : Int) == -1) = true := rfl
    have HE := Lib.hid (show R = (-1, 6, L) by rw [HR.out]; unfold putF; rw [← HRP.out, if_neg (by simp), show findF L room p.tag = -1 by rw [← HPE.out]; exact HFE.out.symm, if_neg (by simp), if_pos HEE.out.symm])
    go_wp2_with fail
    refine bodyPost_ret (v := .tuple #[.int .i64 (-1), .int .i64 6]) (by simp [results, Try.results6, go_sem]) rfl ?_
    exact ⟨by rw [HE.out]; rfl, by rw [HE.out]; exact HX0.out.on HB4.out, HP0.out.step HB4.out⟩
  · have i3 : ((k : Int) == -1) = false := by rw [beq_eq_false_iff_ne]; omega
    have i4 : (0 : Int) ≤ (k : Int) := by omega
    have i5 : (k : Int) < 8 := by omega
    have HE := Lib.hid (show R = ((k : Int), 0, L.set k ⟨true, ⟨e, n, q, l, x0, x1, x2, x3, x4, x5, x6, x7, once, tag⟩⟩) by
      rw [HR.out]; unfold putF
      rw [← HRP.out, if_neg (by simp), show findF L room p.tag = -1 by rw [← HPE.out]; exact HFE.out.symm, if_neg (by simp), ← HEE.out, if_neg (by omega), ← HPE.out]
      rfl)
    have HK8 := Lib.hid (show k < 8 by omega)
    have HX4 := Lib.hid (HX0.out.on HB4.out)
    have hXl := HX4.out.lt
    have hS := HS4.out
    have d0 := hS.cellAt (i := 0) (by simp)
    have f0 := hS.frozenAt 0
    have d1 := hS.cellAt (i := 1) (by simp)
    have f1 := hS.frozenAt 1
    have d2 := hS.cellAt (i := 2) (by simp)
    have f2 := hS.frozenAt 2
    have d3 := hS.cellAt (i := 3) (by simp)
    have f3 := hS.frozenAt 3
    have d4 := hS.cellAt (i := 4) (by simp)
    have f4 := hS.frozenAt 4
    have d5 := hS.cellAt (i := 5) (by simp)
    have f5 := hS.frozenAt 5
    have d6 := hS.cellAt (i := 6) (by simp)
    have f6 := hS.frozenAt 6
    have d7 := hS.cellAt (i := 7) (by simp)
    have f7 := hS.frozenAt 7
    have d8 := hS.cellAt (i := 8) (by simp)
    have f8 := hS.frozenAt 8
    have d9 := hS.cellAt (i := 9) (by simp)
    have f9 := hS.frozenAt 9
    have d10 := hS.cellAt (i := 10) (by simp)
    have f10 := hS.frozenAt 10
    have d11 := hS.cellAt (i := 11) (by simp)
    have f11 := hS.frozenAt 11
    have d12 := hS.cellAt (i := 12) (by simp)
    have f12 := hS.frozenAt 12
    have d13 := hS.cellAt (i := 13) (by simp)
    have f13 := hS.frozenAt 13
    simp only [List.getElem_cons_zero, List.getElem_cons_succ] at d0 d1 d2 d3 d4 d5 d6 d7 d8 d9 d10 d11 d12 d13
    have hcx : ∀ i, i < 15 → ∃ u, w4.cell? ⟨B, k * 15 + i, none⟩ = some u ∧ w4.frozen? ⟨B, k * 15 + i, none⟩ = false := fun i hi => by
      have hl : i < (bxAt L k).C.length := by rw [BD.len]; exact hi
      have := HX4.out.cell HK8.out (i := i) (u := (bxAt L k).C[i]) (List.getElem?_eq_getElem hl)
      exact ⟨_, this.1, this.2⟩
    obtain ⟨u0, c0, z0⟩ := hcx 0 (by omega)
    obtain ⟨u1, c1, z1⟩ := hcx 1 (by omega)
    obtain ⟨u2, c2, z2⟩ := hcx 2 (by omega)
    obtain ⟨u3, c3, z3⟩ := hcx 3 (by omega)
    obtain ⟨u4, c4, z4⟩ := hcx 4 (by omega)
    obtain ⟨u5, c5, z5⟩ := hcx 5 (by omega)
    obtain ⟨u6, c6, z6⟩ := hcx 6 (by omega)
    obtain ⟨u7, c7, z7⟩ := hcx 7 (by omega)
    obtain ⟨u8, c8, z8⟩ := hcx 8 (by omega)
    obtain ⟨u9, c9, z9⟩ := hcx 9 (by omega)
    obtain ⟨u10, c10, z10⟩ := hcx 10 (by omega)
    obtain ⟨u11, c11, z11⟩ := hcx 11 (by omega)
    obtain ⟨u12, c12, z12⟩ := hcx 12 (by omega)
    obtain ⟨u13, c13, z13⟩ := hcx 13 (by omega)
    obtain ⟨u14, c14, z14⟩ := hcx 14 (by omega)
    rw [Nat.add_zero] at c0 z0
    have hDB : D ≠ B := fun e => by have := HBW.out; have := HD.out; omega
    clear hS hcx hXl hk
    go_upto_region 11 with fail
    go_cut [] (fun wx => BxA wx B (L.set k ⟨true, ⟨e, n, q, l, x0, x1, x2, x3, x4, x5, x6, x7, once, tag⟩⟩) room ∧ Kp B (.slice none 0 0) w wx)
    case first =>
      go_region
      go_wp2_with fail
      go_meet
      exact ⟨(put15 HX4.out HK8.out true e n q l x0 x1 x2 x3 x4 x5 x6 x7 once tag).drewG, (kp15 (k := k) (HP0.out.step HB4.out) true e n q l x0 x1 x2 x3 x4 x5 x6 x7 once tag).drewG⟩
    case rest =>
    obtain ⟨hx, hkp⟩ := hcut
    have HX5 := Lib.hid hx; have HK5 := Lib.hid hkp
    clear hx hkp d0 d1 d2 d3 d4 d5 d6 d7 d8 d9 d10 d11 d12 d13 f0 f1 f2 f3 f4 f5 f6 f7 f8 f9 f10 f11 f12 f13 c0 z0 c1 z1 c2 z2 c3 z3 c4 z4 c5 z5 c6 z6 c7 z7 c8 z8 c9 z9 c10 z10 c11 z11 c12 z12 c13 z13 c14 z14
    go_wp2_with fail
    refine bodyPost_ret (v := .tuple #[.int .i64 (k : Int), .int .i64 0]) (by simp [results, Try.results6, go_sem]) rfl ?_
    exact ⟨by rw [HE.out]; rfl, by rw [HE.out]; exact HX5.out, HK5.out⟩
theorem put_nil (p : PD) (w : World) : Calls Try.prog 6 #[.pointer none, p.V] w fun y w' => y = .returned (.tuple #[.int .i64 (-1), .int .i64 7]) ∧ Below w.heap.size w w' := by
  obtain ⟨e, n, q, l, x0, x1, x2, x3, x4, x5, x6, x7, once, tag⟩ := p
  unfold PD.V
  simp only
  go_enter Try.func6, Try.ntmps6
  go_wp2_with fail
  exact bodyPost_ret (v := .tuple #[.int .i64 (-1), .int .i64 7]) (by simp [results, Try.results6, go_sem]) rfl ⟨rfl, (Below.refl _ w).alloc (Nat.le_refl _) _⟩
end Go.Proofs.Ytbdockeopbfliaa
