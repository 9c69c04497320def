/- A listener of the code: whether the body is full, and a bit of the body. Conditions: not more than a thousand bits. -/
import Derived.Test.YtndjennhbggoiaaDoorLia
namespace Go.Proofs.YtndjennhbggoiaaDoor
open Go.RowKit Go.Shelf
set_option maxHeartbeats 2000000 in
theorem lfull_any (B p h : Nat) (r : Nat × Nat) (a : Option Addr) (cap : Nat) (raw : List Nat) (fr : List Value) (hfr : fr.length = 12) (g : Bool) (en : Nat) (vl : Bool) (hl : raw.length ≤ 1000) (w : World) (hB : Blk w B 116 (lisL p h r (.slice a raw.length cap) fr g en vl)) (hI : Str w.heap.size w (.slice a raw.length cap) raw) :
    Calls Tryd.prog 157 #[.pointer (some ⟨B, 0, none⟩)] w fun x w' => x = .returned (.bool (fullB r (bitsOf raw))) ∧ Below w.heap.size w w' := by
  obtain ⟨y0, y1, y2, y3, y4, y5, y6, y7, y8, y9, y10, y11, rfl⟩ := twelve hfr
  have HSZ := Lib.hid (frameSize_any a raw.length cap raw hl w hI)
  have HDU := Lib.hid (fun u => due_any r.1 (r.2 : Int) u)
  unfold runW at HDU
  obtain ⟨sz, hsz⟩ : ∃ sz, sz = (sizeB (bitsOf raw)).getD 0 := ⟨_, rfl⟩
  obtain ⟨ok, hok⟩ : ∃ ok, ok = (sizeB (bitsOf raw)).isSome := ⟨_, rfl⟩
  rw [← hsz, ← hok] at HSZ
  obtain ⟨dv, hdv⟩ : ∃ dv, dv = (dueW r.1 (r.2 : Int)).1 := ⟨_, rfl⟩
  obtain ⟨du, hdu⟩ : ∃ du, du = (dueW r.1 (r.2 : Int)).2 := ⟨_, rfl⟩
  rw [← hdv, ← hdu] at HDU
  have hdu2 : du = decide (5 ≤ r.2) := by
    rw [hdu]
    unfold dueW
    by_cases h : (r.2 : Int) < 5
    · rw [if_pos h]; symm; rw [decide_eq_false_iff_not]; omega
    · rw [if_neg h]; symm; rw [decide_eq_true_iff]; omega
  obtain ⟨lt, hlt⟩ : ∃ b, ((sz : Int) == (raw.length : Int)) = b := ⟨_, rfl⟩
  have HF := Lib.hid (show fullB r (bitsOf raw) = (ok && lt && !du) by
    unfold fullB
    rw [bitsOf_length, hdu2, hok, ← hlt, hsz]
    cases hb : sizeB (bitsOf raw) with
    | none => simp
    | some n =>
      have e : ((((some n).getD 0 : Nat) : Int) == (raw.length : Int)) = decide (some n = some raw.length) := by
        rw [Bool.eq_iff_iff, beq_iff_eq, decide_eq_true_iff]
        simp only [Option.getD_some, Option.some.injEq]
        omega
      rw [e]
      by_cases h : r.2 < 5
      · rw [decide_eq_true h, decide_eq_false (show ¬ 5 ≤ r.2 by omega)]; simp
      · rw [decide_eq_false h, decide_eq_true (show 5 ≤ r.2 by omega)]; simp)
  have HB := Lib.hid hB
  have hlt0 := hB.lt
  have HLT := Lib.hid hlt0
  have c2 : w.cell? ⟨B, 2, none⟩ = some (.int .u8 (r.1 : Int)) := hB.cellAt (i := 2) (by simp [lisL])
  have g2 : w.frozen? ⟨B, 2, none⟩ = false := hB.frozenAt 2
  have c3 : w.cell? ⟨B, 3, none⟩ = some (.int .i64 (r.2 : Int)) := hB.cellAt (i := 3) (by simp [lisL])
  have g3 : w.frozen? ⟨B, 3, none⟩ = false := hB.frozenAt 3
  have c4 : w.cell? ⟨B, 4, none⟩ = some (.slice a raw.length cap) := hB.cellAt (i := 4) (by simp [lisL])
  have g4 : w.frozen? ⟨B, 4, none⟩ = false := hB.frozenAt 4
  clear hsz hok hdv hdu hdu2 hB hI hlt0
  have parts : (ok = false) ∨ (ok = true ∧ lt = false) ∨ (ok = true ∧ lt = true ∧ du = true) ∨ (ok = true ∧ lt = true ∧ du = false) := by cases ok <;> cases lt <;> cases du <;> simp
  go_enter Tryd.func157, Tryd.ntmps157
  go_wp2_with fail
  refine HSZ.out.mono ?_
  rintro x w1 ⟨rfl, hb1⟩
  have HB1 := Lib.hid hb1
  have hk1 := HB.out.keep hb1 HLT.out
  clear hb1 c2 c3 c4 g2 g3 g4
  have c2 : w1.cell? ⟨B, 2, none⟩ = some (.int .u8 (r.1 : Int)) := hk1.cellAt (i := 2) (by simp [lisL])
  have g2 : w1.frozen? ⟨B, 2, none⟩ = false := hk1.frozenAt 2
  have c3 : w1.cell? ⟨B, 3, none⟩ = some (.int .i64 (r.2 : Int)) := hk1.cellAt (i := 3) (by simp [lisL])
  have g3 : w1.frozen? ⟨B, 3, none⟩ = false := hk1.frozenAt 3
  have c4 : w1.cell? ⟨B, 4, none⟩ = some (.slice a raw.length cap) := hk1.cellAt (i := 4) (by simp [lisL])
  have g4 : w1.frozen? ⟨B, 4, none⟩ = false := hk1.frozenAt 4
  clear hk1
  go_wp2_with fail
  refine (HDU.out _).mono ?_
  rintro x w2 ⟨rfl, hb2⟩
  have HB2 := Lib.hid (below_trans' HB1.out hb2)
  have hk2 := HB.out.keep HB2.out HLT.out
  clear hb2 c2 c3 c4 g2 g3 g4
  have c2 : w2.cell? ⟨B, 2, none⟩ = some (.int .u8 (r.1 : Int)) := hk2.cellAt (i := 2) (by simp [lisL])
  have g2 : w2.frozen? ⟨B, 2, none⟩ = false := hk2.frozenAt 2
  have c3 : w2.cell? ⟨B, 3, none⟩ = some (.int .i64 (r.2 : Int)) := hk2.cellAt (i := 3) (by simp [lisL])
  have g3 : w2.frozen? ⟨B, 3, none⟩ = false := hk2.frozenAt 3
  have c4 : w2.cell? ⟨B, 4, none⟩ = some (.slice a raw.length cap) := hk2.cellAt (i := 4) (by simp [lisL])
  have g4 : w2.frozen? ⟨B, 4, none⟩ = false := hk2.frozenAt 4
  clear hk2
  rcases parts with rfl | ⟨rfl, rfl⟩ | ⟨rfl, rfl, rfl⟩ | ⟨rfl, rfl, rfl⟩
  all_goals go_wp2_with fail
  all_goals go_ret
  all_goals exact ⟨by rw [HF.out]; rfl, HB2.out⟩
set_option maxRecDepth 100000 in
set_option maxHeartbeats 8000000 in
theorem linBody_any (B : Nat) (s : LS) (v : Value) (x : Nat) (hr : s.r.1 ≤ 1) (hl : s.raw.length ≤ 900) (w : World) (h0 : 0 < B) (hT : Tab w) (hA : LA w B s v) :
    Calls Tryd.prog 136 #[.pointer (some ⟨B, 0, none⟩), .int .u8 (x : Int)] w fun y w' => ∃ v', y = .returned (.int .i64 ((s.body x).2 : Nat)) ∧ LA w' B (s.body x).1 v' ∧ Kp B v w w' ∧ Nx w v v' := by
  obtain ⟨p, h, r, raw, fr, g, en, vl⟩ := s
  obtain ⟨hblk, hown, hfr⟩ := hA
  simp only at hr hl hblk hown hfr
  obtain ⟨a, cap, rfl⟩ := hown.shape
  obtain ⟨y0, y1, y2, y3, y4, y5, y6, y7, y8, y9, y10, y11, rfl⟩ := twelve hfr
  obtain ⟨S, hS⟩ : ∃ S, S = LS.body ⟨p, h, r, raw, [y0, y1, y2, y3, y4, y5, y6, y7, y8, y9, y10, y11], g, en, vl⟩ x := ⟨_, rfl⟩
  rw [← hS]
  have HS := Lib.hid hS
  have HB := Lib.hid hblk; have HO := Lib.hid hown; have HG0 := Lib.hid h0; have HT := Lib.hid hT; have HL := Lib.hid hl; have HR := Lib.hid hr
  have HLT := Lib.hid hblk.lt
  obtain ⟨i0, hi, hz0, hz1', hz2⟩ := info_parts info_u8
  have c2 : w.cell? ⟨B, 2, none⟩ = some (.int .u8 (r.1 : Int)) := hblk.cellAt (i := 2) (by simp [lisL])
  have g2 : w.frozen? ⟨B, 2, none⟩ = false := hblk.frozenAt 2
  have c3 : w.cell? ⟨B, 3, none⟩ = some (.int .i64 (r.2 : Int)) := hblk.cellAt (i := 3) (by simp [lisL])
  have g3 : w.frozen? ⟨B, 3, none⟩ = false := hblk.frozenAt 3
  have c4 : w.cell? ⟨B, 4, none⟩ = some (.slice a raw.length cap) := hblk.cellAt (i := 4) (by simp [lisL])
  have g4 : w.frozen? ⟨B, 4, none⟩ = false := hblk.frozenAt 4
  clear hS hblk hown h0 hT hl hr hfr
  by_cases hZ : raw = [] ∧ x ≠ 0
  · have i1 : ((raw.length : Int) == 0) = true := by rw [hZ.1]; rfl
    have i2 : ((x : Int) != 0) = true := by have := hZ.2; simp; omega
    have HE := Lib.hid (show S = (⟨p, h, r, raw, [y0, y1, y2, y3, y4, y5, y6, y7, y8, y9, y10, y11], g, en, vl⟩, 2) by rw [HS.out]; unfold LS.body; rw [if_pos hZ])
    clear hZ
    go_enter Tryd.func136, Tryd.ntmps136
    go_wp2_with fail
    go_ret
    exact ⟨_, by rw [HE.out]; rfl, by rw [HE.out]; exact ⟨HB.out, HO.out, rfl⟩, Kp.refl _ _ _, Nx.refl _ _⟩
  have HNZ := Lib.hid hZ
  have hT : ((raw.length : Int) == 0) = false ∨ ((raw.length : Int) == 0) = true ∧ ((x : Int) != 0) = false := by
    by_cases hn : raw = []
    · refine .inr ⟨by rw [hn]; rfl, ?_⟩
      have : x = 0 := by
        by_cases hx : x = 0
        · exact hx
        · exact absurd ⟨hn, hx⟩ hZ
      rw [this]; rfl
    · have : raw.length ≠ 0 := fun h => hn (List.length_eq_zero_iff.1 h)
      exact .inl (by rw [beq_eq_false_iff_ne]; omega)
  clear hZ
  have HN := Lib.hid (fun u => next_any r.1 (r.2 : Int) x u)
  unfold runW at HN
  obtain ⟨vb, hvb⟩ : ∃ vb, vb = bitN x := ⟨_, rfl⟩
  have hv1 : vb ≤ 1 := by rw [hvb]; exact bitN_le _
  rw [← hvb] at HN
  have HVB := Lib.hid hvb
  clear hvb
  by_cases h5 : 5 ≤ r.2
  · by_cases hvd : vb = 1 - r.1
    · have hn : nextW r.1 (r.2 : Int) vb = ((vb, 1), 1) := by unfold nextW; rw [if_pos (by omega), bitN_self HR.out, if_pos hvd]
      rw [hn] at HN
      have HE := Lib.hid (show S = (LS.step ⟨p, h, r, raw, [y0, y1, y2, y3, y4, y5, y6, y7, y8, y9, y10, y11], g, en, vl⟩ (vb, 1) raw, 0) by
        rw [HS.out]; unfold LS.body; rw [if_neg HNZ.out, if_pos h5, ← HVB.out, if_pos hvd])
      clear hn h5 hvd HS HNZ
      rcases hT with j1 | ⟨j1, j2⟩
      all_goals
        go_enter Tryd.func136, Tryd.ntmps136
        go_wp2_with fail
        refine (HN.out _).mono ?_
        rintro y w1 ⟨rfl, hb⟩
        have HLW := Lib.hid hb.size
        obtain ⟨W2, hW2⟩ : ∃ W2, W2 = w1.alloc (.cells #[.int .u8 (vb : Int), .int .i64 1] 114) := ⟨_, rfl⟩
        have hb2 : Below w.heap.size w W2 := by rw [hW2]; exact hb.alloc hb.size _
        have HBB2 := Lib.hid hb2
        have HB2 := Lib.hid (HB.out.keep hb2 HLT.out); have HO2 := Lib.hid (HO.out.on hb2)
        have HT2 := Lib.hid (show Two W2 w1.heap.size (.int .u8 (vb : Int)) (.int .i64 1) by rw [hW2]; exact Two.new w1 _ _ _ rfl)
        have HZ2 := Lib.hid (show w1.heap.size < W2.heap.size by rw [hW2]; simp)
        clear hb hb2 c2 c3 c4 g2 g3 g4
        go_upto_region 4 with fail
        rw [← hW2]
        clear hW2
        obtain ⟨D, hD⟩ : ∃ D, D = w1.heap.size := ⟨_, rfl⟩
        rw [← hD] at HT2 HZ2 HLW ⊢
        have HDB := Lib.hid (show B < D by have := HLT.out; have := HLW.out; omega)
        clear hD
        have hblk := HB2.out
        have c2 : W2.cell? ⟨B, 2, none⟩ = some (.int .u8 (r.1 : Int)) := hblk.cellAt (i := 2) (by simp [lisL])
        have g2 : W2.frozen? ⟨B, 2, none⟩ = false := hblk.frozenAt 2
        have c3 : W2.cell? ⟨B, 3, none⟩ = some (.int .i64 (r.2 : Int)) := hblk.cellAt (i := 3) (by simp [lisL])
        have g3 : W2.frozen? ⟨B, 3, none⟩ = false := hblk.frozenAt 3
        have c4 : W2.cell? ⟨B, 4, none⟩ = some (.slice a raw.length cap) := hblk.cellAt (i := 4) (by simp [lisL])
        have g4 : W2.frozen? ⟨B, 4, none⟩ = false := hblk.frozenAt 4
        obtain ⟨t0, t1, t2, t3⟩ := HT2.out
        clear hblk
        obtain ⟨W5, hW5⟩ : ∃ W5, W5 = ((W2.setCell ⟨B, 2, none⟩ (.int .u8 (vb : Int))).setCell ⟨B, 3, none⟩ (.int .i64 1)) := ⟨_, rfl⟩
        have HB5 := Lib.hid (show Blk W5 B 116 (lisL p h (vb, 1) (.slice a raw.length cap) [y0, y1, y2, y3, y4, y5, y6, y7, y8, y9, y10, y11] g en vl) by rw [hW5]; exact ((HB2.out.put1 (i := 2) (by simp [lisL]) (.int .u8 (vb : Int))).put1 (i := 3) (by simp [lisL]) (.int .i64 1)))
        have HO5 := Lib.hid (show Ow (B + 1) W5 (.slice a raw.length cap) raw by rw [hW5]; exact ((HO2.out.other (by omega)).other (by omega)))
        have HK5 := Lib.hid (show Kp B (.slice a raw.length cap) w W5 by rw [hW5]; exact (((Kp.of_below HBB2.out).set 2 (.int .u8 (vb : Int))).set 3 (.int .i64 1)))
        have HN5 := Lib.hid (show Nx w (.slice a raw.length cap) (.slice a raw.length cap) from (Nx.refl _ _))
        go_upto_region 10 with fail
        rw [← hW5]
        clear hW5 c2 c3 c4 g2 g3 g4 t0 t1 t2 t3
        have HFU := Lib.hid (lfull_any B p h (vb, 1) a cap raw [y0, y1, y2, y3, y4, y5, y6, y7, y8, y9, y10, y11] rfl g en vl (by have := HL.out; simp; omega) W5 (by exact HB5.out) (by exact HO5.out.str))
        obtain ⟨FF, hFF⟩ : ∃ FF, FF = fullB (vb, 1) (bitsOf raw) := ⟨_, rfl⟩
        rw [← hFF] at HFU
        have HFF := Lib.hid hFF
        clear hFF
        go_wp2_with fail
        refine HFU.out.mono ?_
        rintro y w6 ⟨rfl, hb6⟩
        have HB6 := Lib.hid (HB5.out.keep hb6 HB5.out.lt); have HO6 := Lib.hid (HO5.out.on hb6)
        have HK6 := Lib.hid (HK5.out.trans (Kp.of_below (v := (.slice a raw.length cap)) hb6) HN5.out)
        clear hb6 HFU
        cases FF
        case' false =>
          have HE2 := Lib.hid (show S = (⟨p, h, (vb, 1), raw, [y0, y1, y2, y3, y4, y5, y6, y7, y8, y9, y10, y11], g, en, vl⟩, 0) by rw [HE.out]; unfold LS.step; rw [if_neg (by rw [← HFF.out]; decide)])
          go_wp2_with fail
          go_ret
          exact ⟨_, by rw [HE2.out]; rfl, by rw [HE2.out]; exact ⟨HB6.out, HO6.out, rfl⟩, HK6.out, HN5.out⟩
        obtain ⟨e, n, q, mm, x0, x1, x2, x3, x4, x5, x6, x7, kk, cc, hpr, hfc, hok⟩ := pr_form (bitsOf raw)
        have HE2 := Lib.hid (show S = (⟨1, h, (vb, 1), raw, frameC e n q (mm : Int) [x0, x1, x2, x3, x4, x5, x6, x7], decide (cc = 0), en, vl⟩, 0) by
          rw [HE.out]; unfold LS.step; rw [if_pos HFF.out.symm, hfc, hok])
        have HBW := Lib.hid (HK6.out.below (Nat.le_of_lt HLT.out) (fun k e => by have := HO.out.ge k e; omega))
        have HPA := Lib.hid (show Calls Tryd.prog 21 #[(.slice a raw.length cap)] w6 fun x w' => x = .returned (.tuple #[.agg #[.bool e, .int .u32 (n : Int), .bool q, .int .i64 (mm : Int), .int .u8 (x0 : Int), .int .u8 (x1 : Int), .int .u8 (x2 : Int), .int .u8 (x3 : Int), .int .u8 (x4 : Int), .int .u8 (x5 : Int), .int .u8 (x6 : Int), .int .u8 (x7 : Int)], .int .i64 (kk : Int), .int .i64 (cc : Int)]) ∧ Below w6.heap.size w6 w' from by
          have h := frameParse_any a raw.length cap raw (by have := HL.out; simp; omega) w6 (Nat.lt_trans HG0.out HB6.out.lt) (HT.out.onB HBW.out HG0.out) HO6.out.str
          rw [hpr] at h
          exact h)
        have i7 : ((cc : Int) == 0) = decide (cc = 0) := by rw [Bool.eq_iff_iff, beq_iff_eq, decide_eq_true_iff]; omega
        clear hpr hfc hok
        have hblk := HB6.out
        have c4 : w6.cell? ⟨B, 4, none⟩ = some (.slice a raw.length cap) := hblk.cellAt (i := 4) (by simp [lisL])
        have g4 : w6.frozen? ⟨B, 4, none⟩ = false := hblk.frozenAt 4
        clear hblk
        go_wp2_with fail
        refine HPA.out.mono ?_
        rintro y w7 ⟨rfl, hb7⟩
        have HB7' := Lib.hid (HB6.out.keep hb7 HB6.out.lt); have HO7' := Lib.hid (HO6.out.on hb7)
        have HK7' := Lib.hid (HK6.out.trans (Kp.of_below (v := (.slice a raw.length cap)) hb7) HN5.out)
        obtain ⟨W8, hW8⟩ : ∃ W8, W8 = w7.alloc (.cells #[.bool e, .int .u32 (n : Int), .bool q, .int .i64 (mm : Int), .int .u8 (x0 : Int), .int .u8 (x1 : Int), .int .u8 (x2 : Int), .int .u8 (x3 : Int), .int .u8 (x4 : Int), .int .u8 (x5 : Int), .int .u8 (x6 : Int), .int .u8 (x7 : Int)] 27) := ⟨_, rfl⟩
        have ha : Below w7.heap.size w7 W8 := by rw [hW8]; exact (Below.refl _ _).alloc (Nat.le_refl _) _
        have HB8 := Lib.hid (HB7'.out.keep ha HB7'.out.lt); have HO8 := Lib.hid (HO7'.out.on ha)
        have HK8 := Lib.hid (HK7'.out.trans (Kp.of_below (v := (.slice a raw.length cap)) ha) HN5.out)
        have HF8 := Lib.hid (show Blk W8 w7.heap.size 27 (frameC e n q (mm : Int) [x0, x1, x2, x3, x4, x5, x6, x7]) by rw [hW8]; exact Blk.new w7 _ _)
        have HNE := Lib.hid (show B < w7.heap.size from HB7'.out.lt)
        clear hb7 ha c4 g4 HPA
        go_upto_region 12 with fail
        rw [← hW8]
        clear hW8
        obtain ⟨E, hE⟩ : ∃ E, E = w7.heap.size := ⟨_, rfl⟩
        rw [← hE] at HF8 HNE ⊢
        clear hE
        obtain ⟨z0, z1, z2, z3, z4, z5, z6, z7, z8, z9, z10, z11⟩ := (HF8.out.at rfl).cells
        have hblk := HB8.out
        have c0 : W8.cell? ⟨B, 0, none⟩ = some (.int .i64 (p : Int)) := hblk.cellAt (i := 0) (by simp [lisL])
        have g0 : W8.frozen? ⟨B, 0, none⟩ = false := hblk.frozenAt 0
        have c5 : W8.cell? ⟨B, 5, none⟩ = some (y0) := hblk.cellAt (i := 5) (by simp [lisL])
        have g5 : W8.frozen? ⟨B, 5, none⟩ = false := hblk.frozenAt 5
        have c6 : W8.cell? ⟨B, 6, none⟩ = some (y1) := hblk.cellAt (i := 6) (by simp [lisL])
        have g6 : W8.frozen? ⟨B, 6, none⟩ = false := hblk.frozenAt 6
        have c7 : W8.cell? ⟨B, 7, none⟩ = some (y2) := hblk.cellAt (i := 7) (by simp [lisL])
        have g7 : W8.frozen? ⟨B, 7, none⟩ = false := hblk.frozenAt 7
        have c8 : W8.cell? ⟨B, 8, none⟩ = some (y3) := hblk.cellAt (i := 8) (by simp [lisL])
        have g8 : W8.frozen? ⟨B, 8, none⟩ = false := hblk.frozenAt 8
        have c9 : W8.cell? ⟨B, 9, none⟩ = some (y4) := hblk.cellAt (i := 9) (by simp [lisL])
        have g9 : W8.frozen? ⟨B, 9, none⟩ = false := hblk.frozenAt 9
        have c10 : W8.cell? ⟨B, 10, none⟩ = some (y5) := hblk.cellAt (i := 10) (by simp [lisL])
        have g10 : W8.frozen? ⟨B, 10, none⟩ = false := hblk.frozenAt 10
        have c11 : W8.cell? ⟨B, 11, none⟩ = some (y6) := hblk.cellAt (i := 11) (by simp [lisL])
        have g11 : W8.frozen? ⟨B, 11, none⟩ = false := hblk.frozenAt 11
        have c12 : W8.cell? ⟨B, 12, none⟩ = some (y7) := hblk.cellAt (i := 12) (by simp [lisL])
        have g12 : W8.frozen? ⟨B, 12, none⟩ = false := hblk.frozenAt 12
        have c13 : W8.cell? ⟨B, 13, none⟩ = some (y8) := hblk.cellAt (i := 13) (by simp [lisL])
        have g13 : W8.frozen? ⟨B, 13, none⟩ = false := hblk.frozenAt 13
        have c14 : W8.cell? ⟨B, 14, none⟩ = some (y9) := hblk.cellAt (i := 14) (by simp [lisL])
        have g14 : W8.frozen? ⟨B, 14, none⟩ = false := hblk.frozenAt 14
        have c15 : W8.cell? ⟨B, 15, none⟩ = some (y10) := hblk.cellAt (i := 15) (by simp [lisL])
        have g15 : W8.frozen? ⟨B, 15, none⟩ = false := hblk.frozenAt 15
        have c16 : W8.cell? ⟨B, 16, none⟩ = some (y11) := hblk.cellAt (i := 16) (by simp [lisL])
        have g16 : W8.frozen? ⟨B, 16, none⟩ = false := hblk.frozenAt 16
        have c17 : W8.cell? ⟨B, 17, none⟩ = some (.bool g) := hblk.cellAt (i := 17) (by simp [lisL])
        have g17 : W8.frozen? ⟨B, 17, none⟩ = false := hblk.frozenAt 17
        clear hblk
        have HB9 := Lib.hid (((((((((((((((HB8.out.put1 (i := 5) (by simp [lisL]) (.bool e)).put1 (i := 6) (by simp [lisL]) (.int .u32 (n : Int))).put1 (i := 7) (by simp [lisL]) (.bool q)).put1 (i := 8) (by simp [lisL]) (.int .i64 (mm : Int))).put1 (i := 9) (by simp [lisL]) (.int .u8 (x0 : Int))).put1 (i := 10) (by simp [lisL]) (.int .u8 (x1 : Int))).put1 (i := 11) (by simp [lisL]) (.int .u8 (x2 : Int))).put1 (i := 12) (by simp [lisL]) (.int .u8 (x3 : Int))).put1 (i := 13) (by simp [lisL]) (.int .u8 (x4 : Int))).put1 (i := 14) (by simp [lisL]) (.int .u8 (x5 : Int))).put1 (i := 15) (by simp [lisL]) (.int .u8 (x6 : Int))).put1 (i := 16) (by simp [lisL]) (.int .u8 (x7 : Int))).put1 (i := 17) (by simp [lisL]) (.bool (decide (cc = 0)))).put1 (i := 0) (by simp [lisL]) (.int .i64 1)))
        have HK9 := Lib.hid (((((((((((((((HK8.out.set 5 (.bool e)).set 6 (.int .u32 (n : Int))).set 7 (.bool q)).set 8 (.int .i64 (mm : Int))).set 9 (.int .u8 (x0 : Int))).set 10 (.int .u8 (x1 : Int))).set 11 (.int .u8 (x2 : Int))).set 12 (.int .u8 (x3 : Int))).set 13 (.int .u8 (x4 : Int))).set 14 (.int .u8 (x5 : Int))).set 15 (.int .u8 (x6 : Int))).set 16 (.int .u8 (x7 : Int))).set 17 (.bool (decide (cc = 0)))).set 0 (.int .i64 1)))
        have HO9 := Lib.hid (show Ow (B + 1) (((((((((((((((W8.setCell ⟨B, 5, none⟩ (.bool e)).setCell ⟨B, 6, none⟩ (.int .u32 (n : Int))).setCell ⟨B, 7, none⟩ (.bool q)).setCell ⟨B, 8, none⟩ (.int .i64 (mm : Int))).setCell ⟨B, 9, none⟩ (.int .u8 (x0 : Int))).setCell ⟨B, 10, none⟩ (.int .u8 (x1 : Int))).setCell ⟨B, 11, none⟩ (.int .u8 (x2 : Int))).setCell ⟨B, 12, none⟩ (.int .u8 (x3 : Int))).setCell ⟨B, 13, none⟩ (.int .u8 (x4 : Int))).setCell ⟨B, 14, none⟩ (.int .u8 (x5 : Int))).setCell ⟨B, 15, none⟩ (.int .u8 (x6 : Int))).setCell ⟨B, 16, none⟩ (.int .u8 (x7 : Int))).setCell ⟨B, 17, none⟩ (.bool (decide (cc = 0)))).setCell ⟨B, 0, none⟩ (.int .i64 1))) (.slice a raw.length cap) raw from ((((((((((((((HO8.out.other (by omega)).other (by omega)).other (by omega)).other (by omega)).other (by omega)).other (by omega)).other (by omega)).other (by omega)).other (by omega)).other (by omega)).other (by omega)).other (by omega)).other (by omega)).other (by omega)))
        obtain ⟨W9, hW9⟩ : ∃ W9, W9 = ((((((((((((((W8.setCell ⟨B, 5, none⟩ (.bool e)).setCell ⟨B, 6, none⟩ (.int .u32 (n : Int))).setCell ⟨B, 7, none⟩ (.bool q)).setCell ⟨B, 8, none⟩ (.int .i64 (mm : Int))).setCell ⟨B, 9, none⟩ (.int .u8 (x0 : Int))).setCell ⟨B, 10, none⟩ (.int .u8 (x1 : Int))).setCell ⟨B, 11, none⟩ (.int .u8 (x2 : Int))).setCell ⟨B, 12, none⟩ (.int .u8 (x3 : Int))).setCell ⟨B, 13, none⟩ (.int .u8 (x4 : Int))).setCell ⟨B, 14, none⟩ (.int .u8 (x5 : Int))).setCell ⟨B, 15, none⟩ (.int .u8 (x6 : Int))).setCell ⟨B, 16, none⟩ (.int .u8 (x7 : Int))).setCell ⟨B, 17, none⟩ (.bool (decide (cc = 0)))).setCell ⟨B, 0, none⟩ (.int .i64 1)) := ⟨_, rfl⟩
        rw [← hW9] at HB9 HK9 HO9
        go_upto_region 14 with fail
        rw [← hW9]
        clear hW9 z0 z1 z2 z3 z4 z5 z6 z7 z8 z9 z10 z11 c0 g0 c5 g5 c6 g6 c7 g7 c8 g8 c9 g9 c10 g10 c11 g11 c12 g12 c13 g13 c14 g14 c15 g15 c16 g16 c17 g17
        go_wp2_with fail
        go_ret
        exact ⟨_, by rw [HE2.out]; rfl, by rw [HE2.out]; exact ⟨HB9.out, HO9.out, rfl⟩, HK9.out, HN5.out⟩
    · have hn : nextW r.1 (r.2 : Int) vb = ((r.1, (r.2 : Int)), 2) := by unfold nextW; rw [if_pos (by omega), bitN_self HR.out, if_neg hvd]
      rw [hn] at HN
      have HE := Lib.hid (show S = (⟨p, h, r, raw, [y0, y1, y2, y3, y4, y5, y6, y7, y8, y9, y10, y11], g, en, vl⟩, 1) by
        rw [HS.out]; unfold LS.body; rw [if_neg HNZ.out, if_pos h5, ← HVB.out, if_neg hvd])
      clear hn h5 hvd HS HNZ
      rcases hT with j1 | ⟨j1, j2⟩
      all_goals
        go_enter Tryd.func136, Tryd.ntmps136
        go_wp2_with fail
        refine (HN.out _).mono ?_
        rintro y w1 ⟨rfl, hb⟩
        have HB1 := Lib.hid (HB.out.keep hb HLT.out); have HO1 := Lib.hid (HO.out.on hb); have HK1 := Lib.hid (show Kp B (.slice a raw.length cap) w w1 from Kp.of_below hb)
        have HLW := Lib.hid hb.size
        clear hb
        go_wp2_with fail
        go_ret
        exact ⟨_, by rw [HE.out]; rfl, by rw [HE.out]; exact ⟨HB1.out.keep ((Below.refl _ w1).alloc (Nat.le_refl _) _) (Nat.lt_of_lt_of_le HLT.out HLW.out), HO1.out.on ((Below.refl _ w1).alloc (Nat.le_refl _) _), rfl⟩, HK1.out.trans (Kp.of_below ((Below.refl _ w1).alloc (Nat.le_refl _) _)) (Nx.refl _ _), Nx.refl _ _⟩
  · have hm0 := nx_fst r vb
    obtain ⟨m, hm⟩ : ∃ m, m = (nx r vb).2 := ⟨_, rfl⟩
    have hn : nextW r.1 (r.2 : Int) vb = ((vb, (m : Int)), 0) := by
      rw [show nextW r.1 (r.2 : Int) vb = nextB r.1 (r.2 : Int) vb from rfl, nextB_nx r vb (by omega) HR.out, hm0, hm]
    rw [hn] at HN
    have HE := Lib.hid (show S = (LS.step ⟨p, h, r, raw, [y0, y1, y2, y3, y4, y5, y6, y7, y8, y9, y10, y11], g, en, vl⟩ (vb, m) (raw ++ [x]), 0) by
      rw [HS.out]; unfold LS.body; rw [if_neg HNZ.out, if_neg h5, ← HVB.out, show nx r vb = (vb, m) from Prod.ext hm0 hm.symm])
    clear hn h5 hm hm0 HS HNZ
    rcases hT with j1 | ⟨j1, j2⟩
    all_goals
      go_enter Tryd.func136, Tryd.ntmps136
      go_wp2_with fail
      refine (HN.out _).mono ?_
      rintro y w1 ⟨rfl, hb⟩
      have HLW := Lib.hid hb.size
      obtain ⟨W2, hW2⟩ : ∃ W2, W2 = w1.alloc (.cells #[.int .u8 (vb : Int), .int .i64 (m : Int)] 114) := ⟨_, rfl⟩
      have hb2 : Below w.heap.size w W2 := by rw [hW2]; exact hb.alloc hb.size _
      have HBB2 := Lib.hid hb2
      have HB2 := Lib.hid (HB.out.keep hb2 HLT.out); have HO2 := Lib.hid (HO.out.on hb2)
      have HT2 := Lib.hid (show Two W2 w1.heap.size (.int .u8 (vb : Int)) (.int .i64 (m : Int)) by rw [hW2]; exact Two.new w1 _ _ _ rfl)
      have HZ2 := Lib.hid (show w1.heap.size < W2.heap.size by rw [hW2]; simp)
      clear hb hb2 c2 c3 c4 g2 g3 g4
      go_upto_region 4 with fail
      rw [← hW2]
      clear hW2
      obtain ⟨D, hD⟩ : ∃ D, D = w1.heap.size := ⟨_, rfl⟩
      rw [← hD] at HT2 HZ2 HLW ⊢
      have HDB := Lib.hid (show B < D by have := HLT.out; have := HLW.out; omega)
      clear hD
      have hblk := HB2.out
      have c2 : W2.cell? ⟨B, 2, none⟩ = some (.int .u8 (r.1 : Int)) := hblk.cellAt (i := 2) (by simp [lisL])
      have g2 : W2.frozen? ⟨B, 2, none⟩ = false := hblk.frozenAt 2
      have c3 : W2.cell? ⟨B, 3, none⟩ = some (.int .i64 (r.2 : Int)) := hblk.cellAt (i := 3) (by simp [lisL])
      have g3 : W2.frozen? ⟨B, 3, none⟩ = false := hblk.frozenAt 3
      have c4 : W2.cell? ⟨B, 4, none⟩ = some (.slice a raw.length cap) := hblk.cellAt (i := 4) (by simp [lisL])
      have g4 : W2.frozen? ⟨B, 4, none⟩ = false := hblk.frozenAt 4
      obtain ⟨t0, t1, t2, t3⟩ := HT2.out
      clear hblk
      have HOW := Lib.hid HO2.out.own
      go_wp2_with (at_builtin; refine wpList_append_lies _ rfl _ _ 28 rfl (B + 1) 5 i0 (.int .u8 0) 1 1 Tryd.underlying28 hi hz0 hz1' hz2 rfl (by decide) _ _ _ rfl (HOW.out.alloc _) ⟨_, 0, none⟩ 1 1 [.int .u8 (x : Int)] rfl rfl one_cell one_flat (by decide) ?c3 ?c4 ?c5 _ rfl ?_)
      case c3 => unfold maxLen; have := HL.out; omega
      case c4 => have := HL.out; omega
      case c5 => have := HLT.out; have := HZ2.out; have := HLW.out; simp; omega
      intro gg cap2 w3 hown3 hgrow hlies hgl
      have HO3 := Lib.hid (show Ow (B + 1) w3 (.slice (some ⟨gg, 0, none⟩) (raw.length + 1) cap2) (raw ++ [x]) from Ow.snoc hown3)
      have hnB : (Value.slice a raw.length cap).ownBlock ≠ some B := fun e => by have := HO2.out.ge B e; omega
      have hnD : (Value.slice a raw.length cap).ownBlock ≠ some D := fun e => by have h1 := (World.ownsRow.lt HO.out.own D e).2; have := HLW.out; omega
      have hk3 : ∀ k, k < W2.heap.size → (Value.slice a raw.length cap).ownBlock ≠ some k → w3.heap[k]? = W2.heap[k]? := fun k hk he => (hgrow.block k (by simp; omega) (fun e => he e.symm)).trans (((Below.refl _ W2).alloc (Nat.le_refl _) _).block k hk)
      have HB3 := Lib.hid (show Blk w3 B 116 (lisL p h r (.slice a raw.length cap) [y0, y1, y2, y3, y4, y5, y6, y7, y8, y9, y10, y11] g en vl) from HB2.out.on (hk3 B (by have := HDB.out; have := HZ2.out; omega) hnB))
      have HT3 := Lib.hid (show Two w3 D (.int .u8 (vb : Int)) (.int .i64 (m : Int)) by
        have e := hk3 D HZ2.out hnD
        exact ⟨(World.cell?_of_block e).trans t0, (World.cell?_of_block e).trans t1, (World.frozen?_of_block e).trans t2, (World.frozen?_of_block e).trans t3⟩)
      have HK3 := Lib.hid (show Kp B (.slice a raw.length cap) w w3 from
        ⟨hgrow.os.trans HBB2.out.os, hgrow.tape.trans HBB2.out.tape, hgrow.output.trans HBB2.out.output, Nat.le_trans HBB2.out.size (by have := hgrow.size; simp at this; omega), fun k hk _ hv => (hk3 k (Nat.lt_of_lt_of_le hk HBB2.out.size) hv).trans (HBB2.out.block k hk)⟩)
      have HNX := Lib.hid (show Nx w (.slice a raw.length cap) (.slice (some ⟨gg, 0, none⟩) (raw.length + 1) cap2) from fun k e => by
        have e' : gg = k := by simpa [Value.ownBlock] using e
        rcases hlies with h | h
        · exact .inl (by rw [h, e'])
        · exact .inr (by have := HBB2.out.size; omega))
      have HSZ3 := Lib.hid (show W2.heap.size ≤ w3.heap.size by have := hgrow.size; simp at this; omega)
      clear c2 c3 c4 g2 g3 g4 t0 t1 t2 t3 hown3 hgrow hlies hgl hnB hnD hk3
      have hblk := HB3.out
      have c2 : w3.cell? ⟨B, 2, none⟩ = some (.int .u8 (r.1 : Int)) := hblk.cellAt (i := 2) (by simp [lisL])
      have g2 : w3.frozen? ⟨B, 2, none⟩ = false := hblk.frozenAt 2
      have c3 : w3.cell? ⟨B, 3, none⟩ = some (.int .i64 (r.2 : Int)) := hblk.cellAt (i := 3) (by simp [lisL])
      have g3 : w3.frozen? ⟨B, 3, none⟩ = false := hblk.frozenAt 3
      have c4 : w3.cell? ⟨B, 4, none⟩ = some (.slice a raw.length cap) := hblk.cellAt (i := 4) (by simp [lisL])
      have g4 : w3.frozen? ⟨B, 4, none⟩ = false := hblk.frozenAt 4
      obtain ⟨t0, t1, t2, t3⟩ := HT3.out
      clear hblk
      obtain ⟨W5, hW5⟩ : ∃ W5, W5 = (((w3.setCell ⟨B, 4, none⟩ (.slice (some ⟨gg, 0, none⟩) (raw.length + 1) cap2)).setCell ⟨B, 2, none⟩ (.int .u8 (vb : Int))).setCell ⟨B, 3, none⟩ (.int .i64 (m : Int))) := ⟨_, rfl⟩
      have HB5 := Lib.hid (show Blk W5 B 116 (lisL p h (vb, m) (.slice (some ⟨gg, 0, none⟩) (raw.length + 1) cap2) [y0, y1, y2, y3, y4, y5, y6, y7, y8, y9, y10, y11] g en vl) by rw [hW5]; exact (((HB3.out.put1 (i := 4) (by simp [lisL]) (.slice (some ⟨gg, 0, none⟩) (raw.length + 1) cap2)).put1 (i := 2) (by simp [lisL]) (.int .u8 (vb : Int))).put1 (i := 3) (by simp [lisL]) (.int .i64 (m : Int))))
      have HO5 := Lib.hid (show Ow (B + 1) W5 (.slice (some ⟨gg, 0, none⟩) (raw.length + 1) cap2) (raw ++ [x]) by rw [hW5]; exact (((HO3.out.other (by omega)).other (by omega)).other (by omega)))
      have HK5 := Lib.hid (show Kp B (.slice a raw.length cap) w W5 by rw [hW5]; exact (((HK3.out.set 4 (.slice (some ⟨gg, 0, none⟩) (raw.length + 1) cap2)).set 2 (.int .u8 (vb : Int))).set 3 (.int .i64 (m : Int))))
      have HN5 := Lib.hid (show Nx w (.slice a raw.length cap) (.slice (some ⟨gg, 0, none⟩) (raw.length + 1) cap2) from HNX.out)
      go_upto_region 10 with fail
      rw [← hW5]
      clear hW5 c2 c3 c4 g2 g3 g4 t0 t1 t2 t3
      have HFU := Lib.hid (lfull_any B p h (vb, m) (some ⟨gg, 0, none⟩) cap2 (raw ++ [x]) [y0, y1, y2, y3, y4, y5, y6, y7, y8, y9, y10, y11] rfl g en vl (by have := HL.out; simp; omega) W5 (by rw [List.length_append]; exact HB5.out) (by have h := HO5.out.str; rw [List.length_append]; exact h))
      obtain ⟨FF, hFF⟩ : ∃ FF, FF = fullB (vb, m) (bitsOf (raw ++ [x])) := ⟨_, rfl⟩
      rw [← hFF] at HFU
      have HFF := Lib.hid hFF
      clear hFF
      go_wp2_with fail
      refine HFU.out.mono ?_
      rintro y w6 ⟨rfl, hb6⟩
      have HB6 := Lib.hid (HB5.out.keep hb6 HB5.out.lt); have HO6 := Lib.hid (HO5.out.on hb6)
      have HK6 := Lib.hid (HK5.out.trans (Kp.of_below (v := (.slice (some ⟨gg, 0, none⟩) (raw.length + 1) cap2)) hb6) HN5.out)
      clear hb6 HFU
      cases FF
      case' false =>
        have HE2 := Lib.hid (show S = (⟨p, h, (vb, m), (raw ++ [x]), [y0, y1, y2, y3, y4, y5, y6, y7, y8, y9, y10, y11], g, en, vl⟩, 0) by rw [HE.out]; unfold LS.step; rw [if_neg (by rw [← HFF.out]; decide)])
        go_wp2_with fail
        go_ret
        exact ⟨_, by rw [HE2.out]; rfl, by rw [HE2.out]; exact ⟨HB6.out, HO6.out, rfl⟩, HK6.out, HN5.out⟩
      obtain ⟨e, n, q, mm, x0, x1, x2, x3, x4, x5, x6, x7, kk, cc, hpr, hfc, hok⟩ := pr_form (bitsOf (raw ++ [x]))
      have HE2 := Lib.hid (show S = (⟨1, h, (vb, m), (raw ++ [x]), frameC e n q (mm : Int) [x0, x1, x2, x3, x4, x5, x6, x7], decide (cc = 0), en, vl⟩, 0) by
        rw [HE.out]; unfold LS.step; rw [if_pos HFF.out.symm, hfc, hok])
      have HBW := Lib.hid (HK6.out.below (Nat.le_of_lt HLT.out) (fun k e => by have := HO.out.ge k e; omega))
      have HPA := Lib.hid (show Calls Tryd.prog 21 #[(.slice (some ⟨gg, 0, none⟩) (raw.length + 1) cap2)] w6 fun x w' => x = .returned (.tuple #[.agg #[.bool e, .int .u32 (n : Int), .bool q, .int .i64 (mm : Int), .int .u8 (x0 : Int), .int .u8 (x1 : Int), .int .u8 (x2 : Int), .int .u8 (x3 : Int), .int .u8 (x4 : Int), .int .u8 (x5 : Int), .int .u8 (x6 : Int), .int .u8 (x7 : Int)], .int .i64 (kk : Int), .int .i64 (cc : Int)]) ∧ Below w6.heap.size w6 w' from by
        have h := frameParse_any (some ⟨gg, 0, none⟩) (raw.length + 1) cap2 (raw ++ [x]) (by have := HL.out; simp; omega) w6 (Nat.lt_trans HG0.out HB6.out.lt) (HT.out.onB HBW.out HG0.out) HO6.out.str
        rw [hpr] at h
        exact h)
      have i7 : ((cc : Int) == 0) = decide (cc = 0) := by rw [Bool.eq_iff_iff, beq_iff_eq, decide_eq_true_iff]; omega
      clear hpr hfc hok
      have hblk := HB6.out
      have c4 : w6.cell? ⟨B, 4, none⟩ = some (.slice (some ⟨gg, 0, none⟩) (raw.length + 1) cap2) := hblk.cellAt (i := 4) (by simp [lisL])
      have g4 : w6.frozen? ⟨B, 4, none⟩ = false := hblk.frozenAt 4
      clear hblk
      go_wp2_with fail
      refine HPA.out.mono ?_
      rintro y w7 ⟨rfl, hb7⟩
      have HB7' := Lib.hid (HB6.out.keep hb7 HB6.out.lt); have HO7' := Lib.hid (HO6.out.on hb7)
      have HK7' := Lib.hid (HK6.out.trans (Kp.of_below (v := (.slice (some ⟨gg, 0, none⟩) (raw.length + 1) cap2)) hb7) HN5.out)
      obtain ⟨W8, hW8⟩ : ∃ W8, W8 = w7.alloc (.cells #[.bool e, .int .u32 (n : Int), .bool q, .int .i64 (mm : Int), .int .u8 (x0 : Int), .int .u8 (x1 : Int), .int .u8 (x2 : Int), .int .u8 (x3 : Int), .int .u8 (x4 : Int), .int .u8 (x5 : Int), .int .u8 (x6 : Int), .int .u8 (x7 : Int)] 27) := ⟨_, rfl⟩
      have ha : Below w7.heap.size w7 W8 := by rw [hW8]; exact (Below.refl _ _).alloc (Nat.le_refl _) _
      have HB8 := Lib.hid (HB7'.out.keep ha HB7'.out.lt); have HO8 := Lib.hid (HO7'.out.on ha)
      have HK8 := Lib.hid (HK7'.out.trans (Kp.of_below (v := (.slice (some ⟨gg, 0, none⟩) (raw.length + 1) cap2)) ha) HN5.out)
      have HF8 := Lib.hid (show Blk W8 w7.heap.size 27 (frameC e n q (mm : Int) [x0, x1, x2, x3, x4, x5, x6, x7]) by rw [hW8]; exact Blk.new w7 _ _)
      have HNE := Lib.hid (show B < w7.heap.size from HB7'.out.lt)
      clear hb7 ha c4 g4 HPA
      go_upto_region 12 with fail
      rw [← hW8]
      clear hW8
      obtain ⟨E, hE⟩ : ∃ E, E = w7.heap.size := ⟨_, rfl⟩
      rw [← hE] at HF8 HNE ⊢
      clear hE
      obtain ⟨z0, z1, z2, z3, z4, z5, z6, z7, z8, z9, z10, z11⟩ := (HF8.out.at rfl).cells
      have hblk := HB8.out
      have c0 : W8.cell? ⟨B, 0, none⟩ = some (.int .i64 (p : Int)) := hblk.cellAt (i := 0) (by simp [lisL])
      have g0 : W8.frozen? ⟨B, 0, none⟩ = false := hblk.frozenAt 0
      have c5 : W8.cell? ⟨B, 5, none⟩ = some (y0) := hblk.cellAt (i := 5) (by simp [lisL])
      have g5 : W8.frozen? ⟨B, 5, none⟩ = false := hblk.frozenAt 5
      have c6 : W8.cell? ⟨B, 6, none⟩ = some (y1) := hblk.cellAt (i := 6) (by simp [lisL])
      have g6 : W8.frozen? ⟨B, 6, none⟩ = false := hblk.frozenAt 6
      have c7 : W8.cell? ⟨B, 7, none⟩ = some (y2) := hblk.cellAt (i := 7) (by simp [lisL])
      have g7 : W8.frozen? ⟨B, 7, none⟩ = false := hblk.frozenAt 7
      have c8 : W8.cell? ⟨B, 8, none⟩ = some (y3) := hblk.cellAt (i := 8) (by simp [lisL])
      have g8 : W8.frozen? ⟨B, 8, none⟩ = false := hblk.frozenAt 8
      have c9 : W8.cell? ⟨B, 9, none⟩ = some (y4) := hblk.cellAt (i := 9) (by simp [lisL])
      have g9 : W8.frozen? ⟨B, 9, none⟩ = false := hblk.frozenAt 9
      have c10 : W8.cell? ⟨B, 10, none⟩ = some (y5) := hblk.cellAt (i := 10) (by simp [lisL])
      have g10 : W8.frozen? ⟨B, 10, none⟩ = false := hblk.frozenAt 10
      have c11 : W8.cell? ⟨B, 11, none⟩ = some (y6) := hblk.cellAt (i := 11) (by simp [lisL])
      have g11 : W8.frozen? ⟨B, 11, none⟩ = false := hblk.frozenAt 11
      have c12 : W8.cell? ⟨B, 12, none⟩ = some (y7) := hblk.cellAt (i := 12) (by simp [lisL])
      have g12 : W8.frozen? ⟨B, 12, none⟩ = false := hblk.frozenAt 12
      have c13 : W8.cell? ⟨B, 13, none⟩ = some (y8) := hblk.cellAt (i := 13) (by simp [lisL])
      have g13 : W8.frozen? ⟨B, 13, none⟩ = false := hblk.frozenAt 13
      have c14 : W8.cell? ⟨B, 14, none⟩ = some (y9) := hblk.cellAt (i := 14) (by simp [lisL])
      have g14 : W8.frozen? ⟨B, 14, none⟩ = false := hblk.frozenAt 14
      have c15 : W8.cell? ⟨B, 15, none⟩ = some (y10) := hblk.cellAt (i := 15) (by simp [lisL])
      have g15 : W8.frozen? ⟨B, 15, none⟩ = false := hblk.frozenAt 15
      have c16 : W8.cell? ⟨B, 16, none⟩ = some (y11) := hblk.cellAt (i := 16) (by simp [lisL])
      have g16 : W8.frozen? ⟨B, 16, none⟩ = false := hblk.frozenAt 16
      have c17 : W8.cell? ⟨B, 17, none⟩ = some (.bool g) := hblk.cellAt (i := 17) (by simp [lisL])
      have g17 : W8.frozen? ⟨B, 17, none⟩ = false := hblk.frozenAt 17
      clear hblk
      have HB9 := Lib.hid (((((((((((((((HB8.out.put1 (i := 5) (by simp [lisL]) (.bool e)).put1 (i := 6) (by simp [lisL]) (.int .u32 (n : Int))).put1 (i := 7) (by simp [lisL]) (.bool q)).put1 (i := 8) (by simp [lisL]) (.int .i64 (mm : Int))).put1 (i := 9) (by simp [lisL]) (.int .u8 (x0 : Int))).put1 (i := 10) (by simp [lisL]) (.int .u8 (x1 : Int))).put1 (i := 11) (by simp [lisL]) (.int .u8 (x2 : Int))).put1 (i := 12) (by simp [lisL]) (.int .u8 (x3 : Int))).put1 (i := 13) (by simp [lisL]) (.int .u8 (x4 : Int))).put1 (i := 14) (by simp [lisL]) (.int .u8 (x5 : Int))).put1 (i := 15) (by simp [lisL]) (.int .u8 (x6 : Int))).put1 (i := 16) (by simp [lisL]) (.int .u8 (x7 : Int))).put1 (i := 17) (by simp [lisL]) (.bool (decide (cc = 0)))).put1 (i := 0) (by simp [lisL]) (.int .i64 1)))
      have HK9 := Lib.hid (((((((((((((((HK8.out.set 5 (.bool e)).set 6 (.int .u32 (n : Int))).set 7 (.bool q)).set 8 (.int .i64 (mm : Int))).set 9 (.int .u8 (x0 : Int))).set 10 (.int .u8 (x1 : Int))).set 11 (.int .u8 (x2 : Int))).set 12 (.int .u8 (x3 : Int))).set 13 (.int .u8 (x4 : Int))).set 14 (.int .u8 (x5 : Int))).set 15 (.int .u8 (x6 : Int))).set 16 (.int .u8 (x7 : Int))).set 17 (.bool (decide (cc = 0)))).set 0 (.int .i64 1)))
      have HO9 := Lib.hid (show Ow (B + 1) (((((((((((((((W8.setCell ⟨B, 5, none⟩ (.bool e)).setCell ⟨B, 6, none⟩ (.int .u32 (n : Int))).setCell ⟨B, 7, none⟩ (.bool q)).setCell ⟨B, 8, none⟩ (.int .i64 (mm : Int))).setCell ⟨B, 9, none⟩ (.int .u8 (x0 : Int))).setCell ⟨B, 10, none⟩ (.int .u8 (x1 : Int))).setCell ⟨B, 11, none⟩ (.int .u8 (x2 : Int))).setCell ⟨B, 12, none⟩ (.int .u8 (x3 : Int))).setCell ⟨B, 13, none⟩ (.int .u8 (x4 : Int))).setCell ⟨B, 14, none⟩ (.int .u8 (x5 : Int))).setCell ⟨B, 15, none⟩ (.int .u8 (x6 : Int))).setCell ⟨B, 16, none⟩ (.int .u8 (x7 : Int))).setCell ⟨B, 17, none⟩ (.bool (decide (cc = 0)))).setCell ⟨B, 0, none⟩ (.int .i64 1))) (.slice (some ⟨gg, 0, none⟩) (raw.length + 1) cap2) (raw ++ [x]) from ((((((((((((((HO8.out.other (by omega)).other (by omega)).other (by omega)).other (by omega)).other (by omega)).other (by omega)).other (by omega)).other (by omega)).other (by omega)).other (by omega)).other (by omega)).other (by omega)).other (by omega)).other (by omega)))
      obtain ⟨W9, hW9⟩ : ∃ W9, W9 = ((((((((((((((W8.setCell ⟨B, 5, none⟩ (.bool e)).setCell ⟨B, 6, none⟩ (.int .u32 (n : Int))).setCell ⟨B, 7, none⟩ (.bool q)).setCell ⟨B, 8, none⟩ (.int .i64 (mm : Int))).setCell ⟨B, 9, none⟩ (.int .u8 (x0 : Int))).setCell ⟨B, 10, none⟩ (.int .u8 (x1 : Int))).setCell ⟨B, 11, none⟩ (.int .u8 (x2 : Int))).setCell ⟨B, 12, none⟩ (.int .u8 (x3 : Int))).setCell ⟨B, 13, none⟩ (.int .u8 (x4 : Int))).setCell ⟨B, 14, none⟩ (.int .u8 (x5 : Int))).setCell ⟨B, 15, none⟩ (.int .u8 (x6 : Int))).setCell ⟨B, 16, none⟩ (.int .u8 (x7 : Int))).setCell ⟨B, 17, none⟩ (.bool (decide (cc = 0)))).setCell ⟨B, 0, none⟩ (.int .i64 1)) := ⟨_, rfl⟩
      rw [← hW9] at HB9 HK9 HO9
      go_upto_region 14 with fail
      rw [← hW9]
      clear hW9 z0 z1 z2 z3 z4 z5 z6 z7 z8 z9 z10 z11 c0 g0 c5 g5 c6 g6 c7 g7 c8 g8 c9 g9 c10 g10 c11 g11 c12 g12 c13 g13 c14 g14 c15 g15 c16 g16 c17 g17
      go_wp2_with fail
      go_ret
      exact ⟨_, by rw [HE2.out]; rfl, by rw [HE2.out]; exact ⟨HB9.out, HO9.out, rfl⟩, HK9.out, HN5.out⟩
end Go.Proofs.YtndjennhbggoiaaDoor
