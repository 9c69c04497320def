/- live of layer 25. Conditions: the table of the divisor. -/
import Derived.Test.YtolhckahphmffaaDoorSmo
namespace Go.Proofs.YtolhckahphmffaaDoor
open Go.RowKit Go.Shelf
theorem sts_blk {u : World} {g n cap : Nat} {l : List Value} {L : List Sm} (h : Blk u g 30 l) (hl : l = L.flatMap Sm.C) (hn : L.length = n) : Sts u.heap.size u (.slice (some ⟨g, 0, none⟩) n cap) L := by
  refine .inr ⟨g, 0, cap, by rw [hn], h.lt, fun j hj i v hv => ?_⟩
  rw [Nat.zero_add]
  exact blk_cells (n := L.length) h (by rw [hl, ← flat_len 7 Sm.C Sm.C_len, List.take_length]) rfl j hj i v hv
theorem lj1 : jobV 3 1 1 1000 500 0 8 40 = .tuple #[.agg #[.int .i64 3, .int .i64 40, .int .i64 540, .int .i64 160], .int .i64 0] := by
  unfold jobV; rw [if_pos (by decide +kernel), if_pos (by decide +kernel), show costS 3 1 1 1000 500 0 8 = 160 by decide +kernel]; rfl
theorem lj2 : jobV 3 1 1 1000 500 0 8 1040 = .tuple #[.agg #[.int .i64 3, .int .i64 1040, .int .i64 1540, .int .i64 160], .int .i64 0] := by
  unfold jobV; rw [if_pos (by decide +kernel), if_pos (by decide +kernel), show costS 3 1 1 1000 500 0 8 = 160 by decide +kernel]; rfl
theorem ll1 : labV 3 1 1 1000 500 0 8 540 0 100 = .tuple #[.agg #[.int .i64 1, .int .i64 5, .int .i64 3, .int .i64 1], .int .i64 0] := by
  unfold labV; rw [if_pos (by decide +kernel), if_pos (by decide +kernel), show slotL 1 0 (slotX 540 0 100) = 5 by decide +kernel]
theorem lc1 : checkV [(⟨3, 1, 1, 1000, 500, 0, 8⟩ : Sm)] 100 = (1, 0) := by decide +kernel
theorem lc2 : checkV [(⟨3, 1, 1, 1000, 500, 0, 8⟩ : Sm), (⟨3, 1, 1, 1000, 500, 0, 8⟩ : Sm)] 100 = (1, 13) := by decide +kernel
theorem lc3 : checkV [(⟨3, 1, 1, 1000, 500, 0, 8⟩ : Sm)] 501 = (0, 9) := by decide +kernel
theorem lk1 : rkAll [(⟨1, 0, 2, 0, 9, 0, 0⟩ : Sm), (⟨2, 0, 2, 0, 5, 0, 0⟩ : Sm)] = [(⟨1, 0, 2, 0, 9, 1, 0⟩ : Sm), (⟨2, 0, 2, 0, 5, 0, 0⟩ : Sm)] := by decide +kernel
theorem lf1 : folB 3 1 1 1000 500 0 8 3 40 540 160 3 1040 1540 160 = true := by decide +kernel
theorem lf2 : folB 3 1 1 1000 500 0 8 3 1040 1540 160 3 40 540 160 = false := by decide +kernel
set_option maxRecDepth 100000 in
set_option maxHeartbeats 8000000 in
theorem live25 (w : World) (h0 : 0 < w.heap.size) (hT : Tab w) : Calls Tryd.prog 11 #[] w fun y w' => y = .returned (.bool true) ∧ Below w.heap.size w w' := by
  have HTX := Lib.hid (show ∀ x, Below w.heap.size w x → 0 < x.heap.size ∧ Tab x from fun x hx => ⟨Nat.lt_of_lt_of_le h0 hx.size, hT.on hx h0⟩)
  clear hT h0
  have HJ1 := Lib.hid (sjob_any 3 1 1 1000 500 0 8 40); have HJ2 := Lib.hid (sjob_any 3 1 1 1000 500 0 8 1040); have HL := Lib.hid (slab_any 3 1 1 1000 500 0 8 540 0 100)
  rw [lj1] at HJ1; rw [lj2] at HJ2; rw [ll1] at HL
  have HC1 := Lib.hid (fun g u cap (h : Blk u g 30 [.int .i64 3, .int .i64 1, .int .i64 1, .int .i64 1000, .int .i64 500, .int .i64 0, .int .i64 8]) => scheck_any (some ⟨g, 0, none⟩) 1 cap [(⟨3, 1, 1, 1000, 500, 0, 8⟩ : Sm)] 100 (by decide) u (sts_blk h rfl rfl))
  have HC2 := Lib.hid (fun g u cap (h : Blk u g 30 [.int .i64 3, .int .i64 1, .int .i64 1, .int .i64 1000, .int .i64 500, .int .i64 0, .int .i64 8, .int .i64 3, .int .i64 1, .int .i64 1, .int .i64 1000, .int .i64 500, .int .i64 0, .int .i64 8]) => scheck_any (some ⟨g, 0, none⟩) 2 cap [(⟨3, 1, 1, 1000, 500, 0, 8⟩ : Sm), (⟨3, 1, 1, 1000, 500, 0, 8⟩ : Sm)] 100 (by decide) u (sts_blk h rfl rfl))
  have HC3 := Lib.hid (fun g u cap (h : Blk u g 30 [.int .i64 3, .int .i64 1, .int .i64 1, .int .i64 1000, .int .i64 500, .int .i64 0, .int .i64 8]) => scheck_any (some ⟨g, 0, none⟩) 1 cap [(⟨3, 1, 1, 1000, 500, 0, 8⟩ : Sm)] 501 (by decide) u (sts_blk h rfl rfl))
  rw [lc1] at HC1; rw [lc2] at HC2; rw [lc3] at HC3
  have HRK := Lib.hid (fun g u cap (h : Blk u g 30 [.int .i64 1, .int .i64 0, .int .i64 2, .int .i64 0, .int .i64 9, .int .i64 0, .int .i64 0, .int .i64 2, .int .i64 0, .int .i64 2, .int .i64 0, .int .i64 5, .int .i64 0, .int .i64 0]) => sranked_any g 0 cap [(⟨1, 0, 2, 0, 9, 0, 0⟩ : Sm), (⟨2, 0, 2, 0, 5, 0, 0⟩ : Sm)] (by decide) (by decide) (by decide) u h.lt (fun j hj i v hv => by rw [Nat.zero_add]; exact blk_cells (n := 2) h rfl rfl j hj i v hv))
  rw [lk1] at HRK
  have HR1 := Lib.hid (sright_any 3 1 1 1000 500 0 8); have HR2 := Lib.hid (sright_any 0 0 0 0 0 0 0)
  rw [show rightS 3 1 1 1000 500 0 8 = 0 by decide +kernel] at HR1; rw [show rightS 0 0 0 0 0 0 0 = 10 by decide +kernel] at HR2
  have HF1 := Lib.hid (fun g u cap (h : Blk u g 30 [.int .i64 3, .int .i64 1, .int .i64 1, .int .i64 1000, .int .i64 500, .int .i64 0, .int .i64 8]) => sfind_any (some ⟨g, 0, none⟩) 1 cap [(⟨3, 1, 1, 1000, 500, 0, 8⟩ : Sm)] 3 (by decide) u (sts_blk h rfl rfl))
  have HF2 := Lib.hid (fun u => sfind_any none 0 0 [] 3 (by decide) u (.inl ⟨none, 0, rfl, rfl⟩))
  rw [show findI [(⟨3, 1, 1, 1000, 500, 0, 8⟩ : Sm)] 3 = 0 by decide +kernel] at HF1; rw [show findI [] 3 = -1 by decide +kernel] at HF2
  have HO1 := Lib.hid (fun g u cap (h : Blk u g 30 [.int .i64 3, .int .i64 1, .int .i64 1, .int .i64 1000, .int .i64 500, .int .i64 0, .int .i64 8]) => sof_any (some ⟨g, 0, none⟩) 1 cap [(⟨3, 1, 1, 1000, 500, 0, 8⟩ : Sm)] 1 (by decide) u (sts_blk h rfl rfl))
  rw [show ofL [(⟨3, 1, 1, 1000, 500, 0, 8⟩ : Sm)] 1 = [(⟨3, 1, 1, 1000, 500, 0, 8⟩ : Sm)] by decide +kernel] at HO1
  have HW1 := Lib.hid (sfol_any 3 1 1 1000 500 0 8 3 40 540 160 3 1040 1540 160); have HW2 := Lib.hid (sfol_any 3 1 1 1000 500 0 8 3 1040 1540 160 3 40 540 160)
  rw [lf1] at HW1; rw [lf2] at HW2
  have HCO := Lib.hid (scost_any 3 1 1 1000 500 0 8)
  rw [show costS 3 1 1 1000 500 0 8 = 160 by decide +kernel] at HCO
  go_enter Tryd.func11, Tryd.ntmps11
  go_upto_region 2 with fail
  obtain ⟨W1, hW1⟩ : ∃ W, W = (w.alloc (.cells #[.int .i64 3, .int .i64 1, .int .i64 1, .int .i64 1000, .int .i64 500, .int .i64 0, .int .i64 8] 30)) := ⟨_, rfl⟩
  have hbel_ : Below w.heap.size w W1 := by rw [hW1]; exact ((Below.refl w.heap.size w).alloc (Nat.le_refl w.heap.size) _)
  have h_s : Blk W1 w.heap.size 30 [.int .i64 3, .int .i64 1, .int .i64 1, .int .i64 1000, .int .i64 500, .int .i64 0, .int .i64 8] := by rw [hW1]; exact (blk_at (w) w.heap.size (by rfl) 30 [.int .i64 3, .int .i64 1, .int .i64 1, .int .i64 1000, .int .i64 500, .int .i64 0, .int .i64 8]).keep (Below.refl (w.heap.size + 1) _) (by omega)
  rw [← hW1]
  have HB1 := Lib.hid hbel_
  have Hs1 := Lib.hid h_s
  clear hbel_ hW1  h_s
  have s_0 : W1.cell? ⟨w.heap.size, 0, none⟩ = some (.int .i64 3) := Hs1.out.cellAt (i := 0) (by simp)
  have s_1 : W1.cell? ⟨w.heap.size, 1, none⟩ = some (.int .i64 1) := Hs1.out.cellAt (i := 1) (by simp)
  have s_2 : W1.cell? ⟨w.heap.size, 2, none⟩ = some (.int .i64 1) := Hs1.out.cellAt (i := 2) (by simp)
  have s_3 : W1.cell? ⟨w.heap.size, 3, none⟩ = some (.int .i64 1000) := Hs1.out.cellAt (i := 3) (by simp)
  have s_4 : W1.cell? ⟨w.heap.size, 4, none⟩ = some (.int .i64 500) := Hs1.out.cellAt (i := 4) (by simp)
  have s_5 : W1.cell? ⟨w.heap.size, 5, none⟩ = some (.int .i64 0) := Hs1.out.cellAt (i := 5) (by simp)
  have s_6 : W1.cell? ⟨w.heap.size, 6, none⟩ = some (.int .i64 8) := Hs1.out.cellAt (i := 6) (by simp)
  go_wp2_with fail
  clear s_0 s_1 s_2 s_3 s_4 s_5 s_6
  refine (HJ1.out _ (HTX.out _ HB1.out).1 (HTX.out _ HB1.out).2).mono ?_
  rintro y w2 ⟨rfl, hb⟩
  have HB2 := Lib.hid (below_transG HB1.out hb)
  have Hs2 := Lib.hid (Hs1.out.keep hb Hs1.out.lt)
  clear hb
  go_upto_region 3 with fail
  obtain ⟨W3, hW3⟩ : ∃ W, W = (w2.alloc (.cells #[.int .i64 3, .int .i64 40, .int .i64 540, .int .i64 160] 55)) := ⟨_, rfl⟩
  have hbel_ : Below w.heap.size w W3 := by rw [hW3]; exact (HB2.out.alloc HB2.out.size _)
  have h_s : Blk W3 w.heap.size 30 [.int .i64 3, .int .i64 1, .int .i64 1, .int .i64 1000, .int .i64 500, .int .i64 0, .int .i64 8] := by rw [hW3]; exact Hs2.out.keep ((Below.refl w2.heap.size w2).alloc (Nat.le_refl _) _) Hs2.out.lt
  have h_j : Blk W3 w2.heap.size 55 [.int .i64 3, .int .i64 40, .int .i64 540, .int .i64 160] := by rw [hW3]; exact (blk_at (w2) w2.heap.size (by rfl) 55 [.int .i64 3, .int .i64 40, .int .i64 540, .int .i64 160]).keep (Below.refl (w2.heap.size + 1) _) (by omega)
  rw [← hW3]
  have HB3 := Lib.hid hbel_
  have Hs3 := Lib.hid h_s
  have Hj3 := Lib.hid h_j
  clear hbel_ hW3 h_s h_j
  have s_0 : W3.cell? ⟨w.heap.size, 0, none⟩ = some (.int .i64 3) := Hs3.out.cellAt (i := 0) (by simp)
  have s_1 : W3.cell? ⟨w.heap.size, 1, none⟩ = some (.int .i64 1) := Hs3.out.cellAt (i := 1) (by simp)
  have s_2 : W3.cell? ⟨w.heap.size, 2, none⟩ = some (.int .i64 1) := Hs3.out.cellAt (i := 2) (by simp)
  have s_3 : W3.cell? ⟨w.heap.size, 3, none⟩ = some (.int .i64 1000) := Hs3.out.cellAt (i := 3) (by simp)
  have s_4 : W3.cell? ⟨w.heap.size, 4, none⟩ = some (.int .i64 500) := Hs3.out.cellAt (i := 4) (by simp)
  have s_5 : W3.cell? ⟨w.heap.size, 5, none⟩ = some (.int .i64 0) := Hs3.out.cellAt (i := 5) (by simp)
  have s_6 : W3.cell? ⟨w.heap.size, 6, none⟩ = some (.int .i64 8) := Hs3.out.cellAt (i := 6) (by simp)
  go_wp2_with fail
  clear s_0 s_1 s_2 s_3 s_4 s_5 s_6
  refine (HJ2.out _ (HTX.out _ HB3.out).1 (HTX.out _ HB3.out).2).mono ?_
  rintro y w4 ⟨rfl, hb⟩
  have HB4 := Lib.hid (below_transG HB3.out hb)
  have Hs4 := Lib.hid (Hs3.out.keep hb Hs3.out.lt)
  have Hj4 := Lib.hid (Hj3.out.keep hb Hj3.out.lt)
  clear hb
  go_upto_region 4 with fail
  obtain ⟨W5, hW5⟩ : ∃ W, W = (w4.alloc (.cells #[.int .i64 3, .int .i64 1040, .int .i64 1540, .int .i64 160] 55)) := ⟨_, rfl⟩
  have hbel_ : Below w.heap.size w W5 := by rw [hW5]; exact (HB4.out.alloc HB4.out.size _)
  have h_s : Blk W5 w.heap.size 30 [.int .i64 3, .int .i64 1, .int .i64 1, .int .i64 1000, .int .i64 500, .int .i64 0, .int .i64 8] := by rw [hW5]; exact Hs4.out.keep ((Below.refl w4.heap.size w4).alloc (Nat.le_refl _) _) Hs4.out.lt
  have h_j : Blk W5 w2.heap.size 55 [.int .i64 3, .int .i64 40, .int .i64 540, .int .i64 160] := by rw [hW5]; exact Hj4.out.keep ((Below.refl w4.heap.size w4).alloc (Nat.le_refl _) _) Hj4.out.lt
  have h_k : Blk W5 w4.heap.size 55 [.int .i64 3, .int .i64 1040, .int .i64 1540, .int .i64 160] := by rw [hW5]; exact (blk_at (w4) w4.heap.size (by rfl) 55 [.int .i64 3, .int .i64 1040, .int .i64 1540, .int .i64 160]).keep (Below.refl (w4.heap.size + 1) _) (by omega)
  rw [← hW5]
  have HB5 := Lib.hid hbel_
  have Hs5 := Lib.hid h_s
  have Hj5 := Lib.hid h_j
  have Hk5 := Lib.hid h_k
  clear hbel_ hW5 h_s h_j h_k
  have s_0 : W5.cell? ⟨w.heap.size, 0, none⟩ = some (.int .i64 3) := Hs5.out.cellAt (i := 0) (by simp)
  have s_1 : W5.cell? ⟨w.heap.size, 1, none⟩ = some (.int .i64 1) := Hs5.out.cellAt (i := 1) (by simp)
  have s_2 : W5.cell? ⟨w.heap.size, 2, none⟩ = some (.int .i64 1) := Hs5.out.cellAt (i := 2) (by simp)
  have s_3 : W5.cell? ⟨w.heap.size, 3, none⟩ = some (.int .i64 1000) := Hs5.out.cellAt (i := 3) (by simp)
  have s_4 : W5.cell? ⟨w.heap.size, 4, none⟩ = some (.int .i64 500) := Hs5.out.cellAt (i := 4) (by simp)
  have s_5 : W5.cell? ⟨w.heap.size, 5, none⟩ = some (.int .i64 0) := Hs5.out.cellAt (i := 5) (by simp)
  have s_6 : W5.cell? ⟨w.heap.size, 6, none⟩ = some (.int .i64 8) := Hs5.out.cellAt (i := 6) (by simp)
  go_wp2_with fail
  clear s_0 s_1 s_2 s_3 s_4 s_5 s_6
  refine (HL.out _).mono ?_
  rintro y w6 ⟨rfl, hb⟩
  have HB6 := Lib.hid (below_transG HB5.out hb)
  have Hs6 := Lib.hid (Hs5.out.keep hb Hs5.out.lt)
  have Hj6 := Lib.hid (Hj5.out.keep hb Hj5.out.lt)
  have Hk6 := Lib.hid (Hk5.out.keep hb Hk5.out.lt)
  clear hb
  go_upto_region 5 with fail
  obtain ⟨W7, hW7⟩ : ∃ W, W = (w6.alloc (.cells #[.int .i64 1, .int .i64 5, .int .i64 3, .int .i64 1] 38)) := ⟨_, rfl⟩
  have hbel_ : Below w.heap.size w W7 := by rw [hW7]; exact (HB6.out.alloc HB6.out.size _)
  have h_s : Blk W7 w.heap.size 30 [.int .i64 3, .int .i64 1, .int .i64 1, .int .i64 1000, .int .i64 500, .int .i64 0, .int .i64 8] := by rw [hW7]; exact Hs6.out.keep ((Below.refl w6.heap.size w6).alloc (Nat.le_refl _) _) Hs6.out.lt
  have h_j : Blk W7 w2.heap.size 55 [.int .i64 3, .int .i64 40, .int .i64 540, .int .i64 160] := by rw [hW7]; exact Hj6.out.keep ((Below.refl w6.heap.size w6).alloc (Nat.le_refl _) _) Hj6.out.lt
  have h_k : Blk W7 w4.heap.size 55 [.int .i64 3, .int .i64 1040, .int .i64 1540, .int .i64 160] := by rw [hW7]; exact Hk6.out.keep ((Below.refl w6.heap.size w6).alloc (Nat.le_refl _) _) Hk6.out.lt
  have h_l : Blk W7 w6.heap.size 38 [.int .i64 1, .int .i64 5, .int .i64 3, .int .i64 1] := by rw [hW7]; exact (blk_at (w6) w6.heap.size (by rfl) 38 [.int .i64 1, .int .i64 5, .int .i64 3, .int .i64 1]).keep (Below.refl (w6.heap.size + 1) _) (by omega)
  rw [← hW7]
  have HB7 := Lib.hid hbel_
  have Hs7 := Lib.hid h_s
  have Hj7 := Lib.hid h_j
  have Hk7 := Lib.hid h_k
  have Hl7 := Lib.hid h_l
  clear hbel_ hW7 h_s h_j h_k h_l
  have s_0 : W7.cell? ⟨w.heap.size, 0, none⟩ = some (.int .i64 3) := Hs7.out.cellAt (i := 0) (by simp)
  have s_1 : W7.cell? ⟨w.heap.size, 1, none⟩ = some (.int .i64 1) := Hs7.out.cellAt (i := 1) (by simp)
  have s_2 : W7.cell? ⟨w.heap.size, 2, none⟩ = some (.int .i64 1) := Hs7.out.cellAt (i := 2) (by simp)
  have s_3 : W7.cell? ⟨w.heap.size, 3, none⟩ = some (.int .i64 1000) := Hs7.out.cellAt (i := 3) (by simp)
  have s_4 : W7.cell? ⟨w.heap.size, 4, none⟩ = some (.int .i64 500) := Hs7.out.cellAt (i := 4) (by simp)
  have s_5 : W7.cell? ⟨w.heap.size, 5, none⟩ = some (.int .i64 0) := Hs7.out.cellAt (i := 5) (by simp)
  have s_6 : W7.cell? ⟨w.heap.size, 6, none⟩ = some (.int .i64 8) := Hs7.out.cellAt (i := 6) (by simp)
  go_wp2_with fail
  clear s_0 s_1 s_2 s_3 s_4 s_5 s_6
  obtain ⟨W8, hW8⟩ : ∃ W, W = (W7.alloc (.cells #[.int .i64 3, .int .i64 1, .int .i64 1, .int .i64 1000, .int .i64 500, .int .i64 0, .int .i64 8] 30)) := ⟨_, rfl⟩
  have hbel_ : Below w.heap.size w W8 := by rw [hW8]; exact (HB7.out.alloc HB7.out.size _)
  have h_s : Blk W8 w.heap.size 30 [.int .i64 3, .int .i64 1, .int .i64 1, .int .i64 1000, .int .i64 500, .int .i64 0, .int .i64 8] := by rw [hW8]; exact Hs7.out.keep ((Below.refl W7.heap.size W7).alloc (Nat.le_refl _) _) Hs7.out.lt
  have h_j : Blk W8 w2.heap.size 55 [.int .i64 3, .int .i64 40, .int .i64 540, .int .i64 160] := by rw [hW8]; exact Hj7.out.keep ((Below.refl W7.heap.size W7).alloc (Nat.le_refl _) _) Hj7.out.lt
  have h_k : Blk W8 w4.heap.size 55 [.int .i64 3, .int .i64 1040, .int .i64 1540, .int .i64 160] := by rw [hW8]; exact Hk7.out.keep ((Below.refl W7.heap.size W7).alloc (Nat.le_refl _) _) Hk7.out.lt
  have h_l : Blk W8 w6.heap.size 38 [.int .i64 1, .int .i64 5, .int .i64 3, .int .i64 1] := by rw [hW8]; exact Hl7.out.keep ((Below.refl W7.heap.size W7).alloc (Nat.le_refl _) _) Hl7.out.lt
  have h_c : Blk W8 W7.heap.size 30 [.int .i64 3, .int .i64 1, .int .i64 1, .int .i64 1000, .int .i64 500, .int .i64 0, .int .i64 8] := by rw [hW8]; exact (blk_at (W7) W7.heap.size (by rfl) 30 [.int .i64 3, .int .i64 1, .int .i64 1, .int .i64 1000, .int .i64 500, .int .i64 0, .int .i64 8]).keep (Below.refl (W7.heap.size + 1) _) (by omega)
  rw [← hW8]
  have HB8 := Lib.hid hbel_
  have Hs8 := Lib.hid h_s
  have Hj8 := Lib.hid h_j
  have Hk8 := Lib.hid h_k
  have Hl8 := Lib.hid h_l
  have Hc8 := Lib.hid h_c
  clear hbel_ hW8 h_s h_j h_k h_l h_c
  refine (HC1.out _ _ _ Hc8.out).mono ?_
  rintro y w9 ⟨rfl, hb⟩
  have HB9 := Lib.hid (below_transG HB8.out hb)
  have Hs9 := Lib.hid (Hs8.out.keep hb Hs8.out.lt)
  have Hj9 := Lib.hid (Hj8.out.keep hb Hj8.out.lt)
  have Hk9 := Lib.hid (Hk8.out.keep hb Hk8.out.lt)
  have Hl9 := Lib.hid (Hl8.out.keep hb Hl8.out.lt)
  have Hc9 := Lib.hid (Hc8.out.keep hb Hc8.out.lt)
  clear hb
  have s_0 : w9.cell? ⟨w.heap.size, 0, none⟩ = some (.int .i64 3) := Hs9.out.cellAt (i := 0) (by simp)
  have s_1 : w9.cell? ⟨w.heap.size, 1, none⟩ = some (.int .i64 1) := Hs9.out.cellAt (i := 1) (by simp)
  have s_2 : w9.cell? ⟨w.heap.size, 2, none⟩ = some (.int .i64 1) := Hs9.out.cellAt (i := 2) (by simp)
  have s_3 : w9.cell? ⟨w.heap.size, 3, none⟩ = some (.int .i64 1000) := Hs9.out.cellAt (i := 3) (by simp)
  have s_4 : w9.cell? ⟨w.heap.size, 4, none⟩ = some (.int .i64 500) := Hs9.out.cellAt (i := 4) (by simp)
  have s_5 : w9.cell? ⟨w.heap.size, 5, none⟩ = some (.int .i64 0) := Hs9.out.cellAt (i := 5) (by simp)
  have s_6 : w9.cell? ⟨w.heap.size, 6, none⟩ = some (.int .i64 8) := Hs9.out.cellAt (i := 6) (by simp)
  go_wp2_with fail
  clear s_0 s_1 s_2 s_3 s_4 s_5 s_6
  obtain ⟨W10, hW10⟩ : ∃ W, W = (w9.alloc (.cells #[.int .i64 3, .int .i64 1, .int .i64 1, .int .i64 1000, .int .i64 500, .int .i64 0, .int .i64 8, .int .i64 3, .int .i64 1, .int .i64 1, .int .i64 1000, .int .i64 500, .int .i64 0, .int .i64 8] 30)) := ⟨_, rfl⟩
  have hbel_ : Below w.heap.size w W10 := by rw [hW10]; exact (HB9.out.alloc HB9.out.size _)
  have h_s : Blk W10 w.heap.size 30 [.int .i64 3, .int .i64 1, .int .i64 1, .int .i64 1000, .int .i64 500, .int .i64 0, .int .i64 8] := by rw [hW10]; exact Hs9.out.keep ((Below.refl w9.heap.size w9).alloc (Nat.le_refl _) _) Hs9.out.lt
  have h_j : Blk W10 w2.heap.size 55 [.int .i64 3, .int .i64 40, .int .i64 540, .int .i64 160] := by rw [hW10]; exact Hj9.out.keep ((Below.refl w9.heap.size w9).alloc (Nat.le_refl _) _) Hj9.out.lt
  have h_k : Blk W10 w4.heap.size 55 [.int .i64 3, .int .i64 1040, .int .i64 1540, .int .i64 160] := by rw [hW10]; exact Hk9.out.keep ((Below.refl w9.heap.size w9).alloc (Nat.le_refl _) _) Hk9.out.lt
  have h_l : Blk W10 w6.heap.size 38 [.int .i64 1, .int .i64 5, .int .i64 3, .int .i64 1] := by rw [hW10]; exact Hl9.out.keep ((Below.refl w9.heap.size w9).alloc (Nat.le_refl _) _) Hl9.out.lt
  have h_e : Blk W10 w9.heap.size 30 [.int .i64 3, .int .i64 1, .int .i64 1, .int .i64 1000, .int .i64 500, .int .i64 0, .int .i64 8, .int .i64 3, .int .i64 1, .int .i64 1, .int .i64 1000, .int .i64 500, .int .i64 0, .int .i64 8] := by rw [hW10]; exact (blk_at (w9) w9.heap.size (by rfl) 30 [.int .i64 3, .int .i64 1, .int .i64 1, .int .i64 1000, .int .i64 500, .int .i64 0, .int .i64 8, .int .i64 3, .int .i64 1, .int .i64 1, .int .i64 1000, .int .i64 500, .int .i64 0, .int .i64 8]).keep (Below.refl (w9.heap.size + 1) _) (by omega)
  rw [← hW10]
  have HB10 := Lib.hid hbel_
  have Hs10 := Lib.hid h_s
  have Hj10 := Lib.hid h_j
  have Hk10 := Lib.hid h_k
  have Hl10 := Lib.hid h_l
  have He10 := Lib.hid h_e
  clear hbel_ hW10 h_s h_j h_k h_l h_e
  refine (HC2.out _ _ _ He10.out).mono ?_
  rintro y w11 ⟨rfl, hb⟩
  have HB11 := Lib.hid (below_transG HB10.out hb)
  have Hs11 := Lib.hid (Hs10.out.keep hb Hs10.out.lt)
  have Hj11 := Lib.hid (Hj10.out.keep hb Hj10.out.lt)
  have Hk11 := Lib.hid (Hk10.out.keep hb Hk10.out.lt)
  have Hl11 := Lib.hid (Hl10.out.keep hb Hl10.out.lt)
  have He11 := Lib.hid (He10.out.keep hb He10.out.lt)
  clear hb
  have s_0 : w11.cell? ⟨w.heap.size, 0, none⟩ = some (.int .i64 3) := Hs11.out.cellAt (i := 0) (by simp)
  have s_1 : w11.cell? ⟨w.heap.size, 1, none⟩ = some (.int .i64 1) := Hs11.out.cellAt (i := 1) (by simp)
  have s_2 : w11.cell? ⟨w.heap.size, 2, none⟩ = some (.int .i64 1) := Hs11.out.cellAt (i := 2) (by simp)
  have s_3 : w11.cell? ⟨w.heap.size, 3, none⟩ = some (.int .i64 1000) := Hs11.out.cellAt (i := 3) (by simp)
  have s_4 : w11.cell? ⟨w.heap.size, 4, none⟩ = some (.int .i64 500) := Hs11.out.cellAt (i := 4) (by simp)
  have s_5 : w11.cell? ⟨w.heap.size, 5, none⟩ = some (.int .i64 0) := Hs11.out.cellAt (i := 5) (by simp)
  have s_6 : w11.cell? ⟨w.heap.size, 6, none⟩ = some (.int .i64 8) := Hs11.out.cellAt (i := 6) (by simp)
  go_wp2_with fail
  clear s_0 s_1 s_2 s_3 s_4 s_5 s_6
  obtain ⟨W12, hW12⟩ : ∃ W, W = (w11.alloc (.cells #[.int .i64 3, .int .i64 1, .int .i64 1, .int .i64 1000, .int .i64 500, .int .i64 0, .int .i64 8] 30)) := ⟨_, rfl⟩
  have hbel_ : Below w.heap.size w W12 := by rw [hW12]; exact (HB11.out.alloc HB11.out.size _)
  have h_s : Blk W12 w.heap.size 30 [.int .i64 3, .int .i64 1, .int .i64 1, .int .i64 1000, .int .i64 500, .int .i64 0, .int .i64 8] := by rw [hW12]; exact Hs11.out.keep ((Below.refl w11.heap.size w11).alloc (Nat.le_refl _) _) Hs11.out.lt
  have h_j : Blk W12 w2.heap.size 55 [.int .i64 3, .int .i64 40, .int .i64 540, .int .i64 160] := by rw [hW12]; exact Hj11.out.keep ((Below.refl w11.heap.size w11).alloc (Nat.le_refl _) _) Hj11.out.lt
  have h_k : Blk W12 w4.heap.size 55 [.int .i64 3, .int .i64 1040, .int .i64 1540, .int .i64 160] := by rw [hW12]; exact Hk11.out.keep ((Below.refl w11.heap.size w11).alloc (Nat.le_refl _) _) Hk11.out.lt
  have h_l : Blk W12 w6.heap.size 38 [.int .i64 1, .int .i64 5, .int .i64 3, .int .i64 1] := by rw [hW12]; exact Hl11.out.keep ((Below.refl w11.heap.size w11).alloc (Nat.le_refl _) _) Hl11.out.lt
  have h_f : Blk W12 w11.heap.size 30 [.int .i64 3, .int .i64 1, .int .i64 1, .int .i64 1000, .int .i64 500, .int .i64 0, .int .i64 8] := by rw [hW12]; exact (blk_at (w11) w11.heap.size (by rfl) 30 [.int .i64 3, .int .i64 1, .int .i64 1, .int .i64 1000, .int .i64 500, .int .i64 0, .int .i64 8]).keep (Below.refl (w11.heap.size + 1) _) (by omega)
  rw [← hW12]
  have HB12 := Lib.hid hbel_
  have Hs12 := Lib.hid h_s
  have Hj12 := Lib.hid h_j
  have Hk12 := Lib.hid h_k
  have Hl12 := Lib.hid h_l
  have Hf12 := Lib.hid h_f
  clear hbel_ hW12 h_s h_j h_k h_l h_f
  refine (HC3.out _ _ _ Hf12.out).mono ?_
  rintro y w13 ⟨rfl, hb⟩
  have HB13 := Lib.hid (below_transG HB12.out hb)
  have Hs13 := Lib.hid (Hs12.out.keep hb Hs12.out.lt)
  have Hj13 := Lib.hid (Hj12.out.keep hb Hj12.out.lt)
  have Hk13 := Lib.hid (Hk12.out.keep hb Hk12.out.lt)
  have Hl13 := Lib.hid (Hl12.out.keep hb Hl12.out.lt)
  have Hf13 := Lib.hid (Hf12.out.keep hb Hf12.out.lt)
  clear hb
  go_wp2_with fail
  obtain ⟨W14, hW14⟩ : ∃ W, W = (w13.alloc (.cells #[.int .i64 1, .int .i64 0, .int .i64 2, .int .i64 0, .int .i64 9, .int .i64 0, .int .i64 0, .int .i64 2, .int .i64 0, .int .i64 2, .int .i64 0, .int .i64 5, .int .i64 0, .int .i64 0] 30)) := ⟨_, rfl⟩
  have hbel_ : Below w.heap.size w W14 := by rw [hW14]; exact (HB13.out.alloc HB13.out.size _)
  have h_s : Blk W14 w.heap.size 30 [.int .i64 3, .int .i64 1, .int .i64 1, .int .i64 1000, .int .i64 500, .int .i64 0, .int .i64 8] := by rw [hW14]; exact Hs13.out.keep ((Below.refl w13.heap.size w13).alloc (Nat.le_refl _) _) Hs13.out.lt
  have h_j : Blk W14 w2.heap.size 55 [.int .i64 3, .int .i64 40, .int .i64 540, .int .i64 160] := by rw [hW14]; exact Hj13.out.keep ((Below.refl w13.heap.size w13).alloc (Nat.le_refl _) _) Hj13.out.lt
  have h_k : Blk W14 w4.heap.size 55 [.int .i64 3, .int .i64 1040, .int .i64 1540, .int .i64 160] := by rw [hW14]; exact Hk13.out.keep ((Below.refl w13.heap.size w13).alloc (Nat.le_refl _) _) Hk13.out.lt
  have h_l : Blk W14 w6.heap.size 38 [.int .i64 1, .int .i64 5, .int .i64 3, .int .i64 1] := by rw [hW14]; exact Hl13.out.keep ((Below.refl w13.heap.size w13).alloc (Nat.le_refl _) _) Hl13.out.lt
  have h_d : Blk W14 w13.heap.size 30 [.int .i64 1, .int .i64 0, .int .i64 2, .int .i64 0, .int .i64 9, .int .i64 0, .int .i64 0, .int .i64 2, .int .i64 0, .int .i64 2, .int .i64 0, .int .i64 5, .int .i64 0, .int .i64 0] := by rw [hW14]; exact (blk_at (w13) w13.heap.size (by rfl) 30 [.int .i64 1, .int .i64 0, .int .i64 2, .int .i64 0, .int .i64 9, .int .i64 0, .int .i64 0, .int .i64 2, .int .i64 0, .int .i64 2, .int .i64 0, .int .i64 5, .int .i64 0, .int .i64 0]).keep (Below.refl (w13.heap.size + 1) _) (by omega)
  rw [← hW14]
  have HB14 := Lib.hid hbel_
  have Hs14 := Lib.hid h_s
  have Hj14 := Lib.hid h_j
  have Hk14 := Lib.hid h_k
  have Hl14 := Lib.hid h_l
  have Hd14 := Lib.hid h_d
  clear hbel_ hW14 h_s h_j h_k h_l h_d
  refine (HRK.out _ _ _ Hd14.out).mono ?_
  rintro y w15 ⟨vd, rfl, hr, hb⟩
  obtain ⟨Gd, cpd, ld, rfl, _, hk, _, _, _, h4⟩ := own_pos hr (by decide)
  have HB15 := Lib.hid (below_transG HB14.out hb)
  have Hs15 := Lib.hid (Hs14.out.keep hb Hs14.out.lt)
  have Hj15 := Lib.hid (Hj14.out.keep hb Hj14.out.lt)
  have Hk15 := Lib.hid (Hk14.out.keep hb Hk14.out.lt)
  have Hl15 := Lib.hid (Hl14.out.keep hb Hl14.out.lt)
  have Hd15 := Lib.hid (Hd14.out.keep hb Hd14.out.lt)
  have HGX := Lib.hid hk; have HT4 := Lib.hid h4
  clear hr hb hk h4
  have s_0 : w15.cell? ⟨w.heap.size, 0, none⟩ = some (.int .i64 3) := Hs15.out.cellAt (i := 0) (by simp)
  have s_1 : w15.cell? ⟨w.heap.size, 1, none⟩ = some (.int .i64 1) := Hs15.out.cellAt (i := 1) (by simp)
  have s_2 : w15.cell? ⟨w.heap.size, 2, none⟩ = some (.int .i64 1) := Hs15.out.cellAt (i := 2) (by simp)
  have s_3 : w15.cell? ⟨w.heap.size, 3, none⟩ = some (.int .i64 1000) := Hs15.out.cellAt (i := 3) (by simp)
  have s_4 : w15.cell? ⟨w.heap.size, 4, none⟩ = some (.int .i64 500) := Hs15.out.cellAt (i := 4) (by simp)
  have s_5 : w15.cell? ⟨w.heap.size, 5, none⟩ = some (.int .i64 0) := Hs15.out.cellAt (i := 5) (by simp)
  have s_6 : w15.cell? ⟨w.heap.size, 6, none⟩ = some (.int .i64 8) := Hs15.out.cellAt (i := 6) (by simp)
  have j_0 : w15.cell? ⟨w2.heap.size, 0, none⟩ = some (.int .i64 3) := Hj15.out.cellAt (i := 0) (by simp)
  have j_1 : w15.cell? ⟨w2.heap.size, 1, none⟩ = some (.int .i64 40) := Hj15.out.cellAt (i := 1) (by simp)
  have j_2 : w15.cell? ⟨w2.heap.size, 2, none⟩ = some (.int .i64 540) := Hj15.out.cellAt (i := 2) (by simp)
  have j_3 : w15.cell? ⟨w2.heap.size, 3, none⟩ = some (.int .i64 160) := Hj15.out.cellAt (i := 3) (by simp)
  have k_0 : w15.cell? ⟨w4.heap.size, 0, none⟩ = some (.int .i64 3) := Hk15.out.cellAt (i := 0) (by simp)
  have k_1 : w15.cell? ⟨w4.heap.size, 1, none⟩ = some (.int .i64 1040) := Hk15.out.cellAt (i := 1) (by simp)
  have k_2 : w15.cell? ⟨w4.heap.size, 2, none⟩ = some (.int .i64 1540) := Hk15.out.cellAt (i := 2) (by simp)
  have k_3 : w15.cell? ⟨w4.heap.size, 3, none⟩ = some (.int .i64 160) := Hk15.out.cellAt (i := 3) (by simp)
  have l_0 : w15.cell? ⟨w6.heap.size, 0, none⟩ = some (.int .i64 1) := Hl15.out.cellAt (i := 0) (by simp)
  have l_1 : w15.cell? ⟨w6.heap.size, 1, none⟩ = some (.int .i64 5) := Hl15.out.cellAt (i := 1) (by simp)
  have l_2 : w15.cell? ⟨w6.heap.size, 2, none⟩ = some (.int .i64 3) := Hl15.out.cellAt (i := 2) (by simp)
  have l_3 : w15.cell? ⟨w6.heap.size, 3, none⟩ = some (.int .i64 1) := Hl15.out.cellAt (i := 3) (by simp)
  go_wp2_with fail
  clear s_0 s_1 s_2 s_3 s_4 s_5 s_6 j_0 j_1 j_2 j_3 k_0 k_1 k_2 k_3 l_0 l_1 l_2 l_3
  refine (HR1.out _).mono ?_
  rintro y w16 ⟨rfl, hb⟩
  have HB16 := Lib.hid (below_transG HB15.out hb)
  have Hs16 := Lib.hid (Hs15.out.keep hb Hs15.out.lt)
  have Hj16 := Lib.hid (Hj15.out.keep hb Hj15.out.lt)
  have Hk16 := Lib.hid (Hk15.out.keep hb Hk15.out.lt)
  have Hl16 := Lib.hid (Hl15.out.keep hb Hl15.out.lt)
  have Hg16 := Lib.hid (HGX.out.keep hb HGX.out.lt)
  clear hb
  have s_0 : w16.cell? ⟨w.heap.size, 0, none⟩ = some (.int .i64 3) := Hs16.out.cellAt (i := 0) (by simp)
  have s_1 : w16.cell? ⟨w.heap.size, 1, none⟩ = some (.int .i64 1) := Hs16.out.cellAt (i := 1) (by simp)
  have s_2 : w16.cell? ⟨w.heap.size, 2, none⟩ = some (.int .i64 1) := Hs16.out.cellAt (i := 2) (by simp)
  have s_3 : w16.cell? ⟨w.heap.size, 3, none⟩ = some (.int .i64 1000) := Hs16.out.cellAt (i := 3) (by simp)
  have s_4 : w16.cell? ⟨w.heap.size, 4, none⟩ = some (.int .i64 500) := Hs16.out.cellAt (i := 4) (by simp)
  have s_5 : w16.cell? ⟨w.heap.size, 5, none⟩ = some (.int .i64 0) := Hs16.out.cellAt (i := 5) (by simp)
  have s_6 : w16.cell? ⟨w.heap.size, 6, none⟩ = some (.int .i64 8) := Hs16.out.cellAt (i := 6) (by simp)
  have j_0 : w16.cell? ⟨w2.heap.size, 0, none⟩ = some (.int .i64 3) := Hj16.out.cellAt (i := 0) (by simp)
  have j_1 : w16.cell? ⟨w2.heap.size, 1, none⟩ = some (.int .i64 40) := Hj16.out.cellAt (i := 1) (by simp)
  have j_2 : w16.cell? ⟨w2.heap.size, 2, none⟩ = some (.int .i64 540) := Hj16.out.cellAt (i := 2) (by simp)
  have j_3 : w16.cell? ⟨w2.heap.size, 3, none⟩ = some (.int .i64 160) := Hj16.out.cellAt (i := 3) (by simp)
  have k_0 : w16.cell? ⟨w4.heap.size, 0, none⟩ = some (.int .i64 3) := Hk16.out.cellAt (i := 0) (by simp)
  have k_1 : w16.cell? ⟨w4.heap.size, 1, none⟩ = some (.int .i64 1040) := Hk16.out.cellAt (i := 1) (by simp)
  have k_2 : w16.cell? ⟨w4.heap.size, 2, none⟩ = some (.int .i64 1540) := Hk16.out.cellAt (i := 2) (by simp)
  have k_3 : w16.cell? ⟨w4.heap.size, 3, none⟩ = some (.int .i64 160) := Hk16.out.cellAt (i := 3) (by simp)
  have l_0 : w16.cell? ⟨w6.heap.size, 0, none⟩ = some (.int .i64 1) := Hl16.out.cellAt (i := 0) (by simp)
  have l_1 : w16.cell? ⟨w6.heap.size, 1, none⟩ = some (.int .i64 5) := Hl16.out.cellAt (i := 1) (by simp)
  have l_2 : w16.cell? ⟨w6.heap.size, 2, none⟩ = some (.int .i64 3) := Hl16.out.cellAt (i := 2) (by simp)
  have l_3 : w16.cell? ⟨w6.heap.size, 3, none⟩ = some (.int .i64 1) := Hl16.out.cellAt (i := 3) (by simp)
  go_wp2_with fail
  clear s_0 s_1 s_2 s_3 s_4 s_5 s_6 j_0 j_1 j_2 j_3 k_0 k_1 k_2 k_3 l_0 l_1 l_2 l_3
  refine (HR2.out _).mono ?_
  rintro y w17 ⟨rfl, hb⟩
  have HB17 := Lib.hid (below_transG HB16.out hb)
  have Hs17 := Lib.hid (Hs16.out.keep hb Hs16.out.lt)
  have Hj17 := Lib.hid (Hj16.out.keep hb Hj16.out.lt)
  have Hk17 := Lib.hid (Hk16.out.keep hb Hk16.out.lt)
  have Hl17 := Lib.hid (Hl16.out.keep hb Hl16.out.lt)
  have Hg17 := Lib.hid (Hg16.out.keep hb Hg16.out.lt)
  clear hb
  have s_0 : w17.cell? ⟨w.heap.size, 0, none⟩ = some (.int .i64 3) := Hs17.out.cellAt (i := 0) (by simp)
  have s_1 : w17.cell? ⟨w.heap.size, 1, none⟩ = some (.int .i64 1) := Hs17.out.cellAt (i := 1) (by simp)
  have s_2 : w17.cell? ⟨w.heap.size, 2, none⟩ = some (.int .i64 1) := Hs17.out.cellAt (i := 2) (by simp)
  have s_3 : w17.cell? ⟨w.heap.size, 3, none⟩ = some (.int .i64 1000) := Hs17.out.cellAt (i := 3) (by simp)
  have s_4 : w17.cell? ⟨w.heap.size, 4, none⟩ = some (.int .i64 500) := Hs17.out.cellAt (i := 4) (by simp)
  have s_5 : w17.cell? ⟨w.heap.size, 5, none⟩ = some (.int .i64 0) := Hs17.out.cellAt (i := 5) (by simp)
  have s_6 : w17.cell? ⟨w.heap.size, 6, none⟩ = some (.int .i64 8) := Hs17.out.cellAt (i := 6) (by simp)
  have j_0 : w17.cell? ⟨w2.heap.size, 0, none⟩ = some (.int .i64 3) := Hj17.out.cellAt (i := 0) (by simp)
  have j_1 : w17.cell? ⟨w2.heap.size, 1, none⟩ = some (.int .i64 40) := Hj17.out.cellAt (i := 1) (by simp)
  have j_2 : w17.cell? ⟨w2.heap.size, 2, none⟩ = some (.int .i64 540) := Hj17.out.cellAt (i := 2) (by simp)
  have j_3 : w17.cell? ⟨w2.heap.size, 3, none⟩ = some (.int .i64 160) := Hj17.out.cellAt (i := 3) (by simp)
  have k_0 : w17.cell? ⟨w4.heap.size, 0, none⟩ = some (.int .i64 3) := Hk17.out.cellAt (i := 0) (by simp)
  have k_1 : w17.cell? ⟨w4.heap.size, 1, none⟩ = some (.int .i64 1040) := Hk17.out.cellAt (i := 1) (by simp)
  have k_2 : w17.cell? ⟨w4.heap.size, 2, none⟩ = some (.int .i64 1540) := Hk17.out.cellAt (i := 2) (by simp)
  have k_3 : w17.cell? ⟨w4.heap.size, 3, none⟩ = some (.int .i64 160) := Hk17.out.cellAt (i := 3) (by simp)
  have l_0 : w17.cell? ⟨w6.heap.size, 0, none⟩ = some (.int .i64 1) := Hl17.out.cellAt (i := 0) (by simp)
  have l_1 : w17.cell? ⟨w6.heap.size, 1, none⟩ = some (.int .i64 5) := Hl17.out.cellAt (i := 1) (by simp)
  have l_2 : w17.cell? ⟨w6.heap.size, 2, none⟩ = some (.int .i64 3) := Hl17.out.cellAt (i := 2) (by simp)
  have l_3 : w17.cell? ⟨w6.heap.size, 3, none⟩ = some (.int .i64 1) := Hl17.out.cellAt (i := 3) (by simp)
  go_wp2_with fail
  clear s_0 s_1 s_2 s_3 s_4 s_5 s_6 j_0 j_1 j_2 j_3 k_0 k_1 k_2 k_3 l_0 l_1 l_2 l_3
  obtain ⟨W18, hW18⟩ : ∃ W, W = (w17.alloc (.cells #[.int .i64 3, .int .i64 1, .int .i64 1, .int .i64 1000, .int .i64 500, .int .i64 0, .int .i64 8] 30)) := ⟨_, rfl⟩
  have hbel_ : Below w.heap.size w W18 := by rw [hW18]; exact (HB17.out.alloc HB17.out.size _)
  have h_s : Blk W18 w.heap.size 30 [.int .i64 3, .int .i64 1, .int .i64 1, .int .i64 1000, .int .i64 500, .int .i64 0, .int .i64 8] := by rw [hW18]; exact Hs17.out.keep ((Below.refl w17.heap.size w17).alloc (Nat.le_refl _) _) Hs17.out.lt
  have h_j : Blk W18 w2.heap.size 55 [.int .i64 3, .int .i64 40, .int .i64 540, .int .i64 160] := by rw [hW18]; exact Hj17.out.keep ((Below.refl w17.heap.size w17).alloc (Nat.le_refl _) _) Hj17.out.lt
  have h_k : Blk W18 w4.heap.size 55 [.int .i64 3, .int .i64 1040, .int .i64 1540, .int .i64 160] := by rw [hW18]; exact Hk17.out.keep ((Below.refl w17.heap.size w17).alloc (Nat.le_refl _) _) Hk17.out.lt
  have h_l : Blk W18 w6.heap.size 38 [.int .i64 1, .int .i64 5, .int .i64 3, .int .i64 1] := by rw [hW18]; exact Hl17.out.keep ((Below.refl w17.heap.size w17).alloc (Nat.le_refl _) _) Hl17.out.lt
  have h_g : Blk W18 Gd 30 ld := by rw [hW18]; exact Hg17.out.keep ((Below.refl w17.heap.size w17).alloc (Nat.le_refl _) _) Hg17.out.lt
  have h_c : Blk W18 w17.heap.size 30 [.int .i64 3, .int .i64 1, .int .i64 1, .int .i64 1000, .int .i64 500, .int .i64 0, .int .i64 8] := by rw [hW18]; exact (blk_at (w17) w17.heap.size (by rfl) 30 [.int .i64 3, .int .i64 1, .int .i64 1, .int .i64 1000, .int .i64 500, .int .i64 0, .int .i64 8]).keep (Below.refl (w17.heap.size + 1) _) (by omega)
  rw [← hW18]
  have HB18 := Lib.hid hbel_
  have Hs18 := Lib.hid h_s
  have Hj18 := Lib.hid h_j
  have Hk18 := Lib.hid h_k
  have Hl18 := Lib.hid h_l
  have Hg18 := Lib.hid h_g
  have Hc18 := Lib.hid h_c
  clear hbel_ hW18 h_s h_j h_k h_l h_g h_c
  refine (HF1.out _ _ _ Hc18.out).mono ?_
  rintro y w19 ⟨rfl, hb⟩
  have HB19 := Lib.hid (below_transG HB18.out hb)
  have Hs19 := Lib.hid (Hs18.out.keep hb Hs18.out.lt)
  have Hj19 := Lib.hid (Hj18.out.keep hb Hj18.out.lt)
  have Hk19 := Lib.hid (Hk18.out.keep hb Hk18.out.lt)
  have Hl19 := Lib.hid (Hl18.out.keep hb Hl18.out.lt)
  have Hg19 := Lib.hid (Hg18.out.keep hb Hg18.out.lt)
  have Hc19 := Lib.hid (Hc18.out.keep hb Hc18.out.lt)
  clear hb
  have s_0 : w19.cell? ⟨w.heap.size, 0, none⟩ = some (.int .i64 3) := Hs19.out.cellAt (i := 0) (by simp)
  have s_1 : w19.cell? ⟨w.heap.size, 1, none⟩ = some (.int .i64 1) := Hs19.out.cellAt (i := 1) (by simp)
  have s_2 : w19.cell? ⟨w.heap.size, 2, none⟩ = some (.int .i64 1) := Hs19.out.cellAt (i := 2) (by simp)
  have s_3 : w19.cell? ⟨w.heap.size, 3, none⟩ = some (.int .i64 1000) := Hs19.out.cellAt (i := 3) (by simp)
  have s_4 : w19.cell? ⟨w.heap.size, 4, none⟩ = some (.int .i64 500) := Hs19.out.cellAt (i := 4) (by simp)
  have s_5 : w19.cell? ⟨w.heap.size, 5, none⟩ = some (.int .i64 0) := Hs19.out.cellAt (i := 5) (by simp)
  have s_6 : w19.cell? ⟨w.heap.size, 6, none⟩ = some (.int .i64 8) := Hs19.out.cellAt (i := 6) (by simp)
  have j_0 : w19.cell? ⟨w2.heap.size, 0, none⟩ = some (.int .i64 3) := Hj19.out.cellAt (i := 0) (by simp)
  have j_1 : w19.cell? ⟨w2.heap.size, 1, none⟩ = some (.int .i64 40) := Hj19.out.cellAt (i := 1) (by simp)
  have j_2 : w19.cell? ⟨w2.heap.size, 2, none⟩ = some (.int .i64 540) := Hj19.out.cellAt (i := 2) (by simp)
  have j_3 : w19.cell? ⟨w2.heap.size, 3, none⟩ = some (.int .i64 160) := Hj19.out.cellAt (i := 3) (by simp)
  have k_0 : w19.cell? ⟨w4.heap.size, 0, none⟩ = some (.int .i64 3) := Hk19.out.cellAt (i := 0) (by simp)
  have k_1 : w19.cell? ⟨w4.heap.size, 1, none⟩ = some (.int .i64 1040) := Hk19.out.cellAt (i := 1) (by simp)
  have k_2 : w19.cell? ⟨w4.heap.size, 2, none⟩ = some (.int .i64 1540) := Hk19.out.cellAt (i := 2) (by simp)
  have k_3 : w19.cell? ⟨w4.heap.size, 3, none⟩ = some (.int .i64 160) := Hk19.out.cellAt (i := 3) (by simp)
  have l_0 : w19.cell? ⟨w6.heap.size, 0, none⟩ = some (.int .i64 1) := Hl19.out.cellAt (i := 0) (by simp)
  have l_1 : w19.cell? ⟨w6.heap.size, 1, none⟩ = some (.int .i64 5) := Hl19.out.cellAt (i := 1) (by simp)
  have l_2 : w19.cell? ⟨w6.heap.size, 2, none⟩ = some (.int .i64 3) := Hl19.out.cellAt (i := 2) (by simp)
  have l_3 : w19.cell? ⟨w6.heap.size, 3, none⟩ = some (.int .i64 1) := Hl19.out.cellAt (i := 3) (by simp)
  go_wp2_with fail
  clear s_0 s_1 s_2 s_3 s_4 s_5 s_6 j_0 j_1 j_2 j_3 k_0 k_1 k_2 k_3 l_0 l_1 l_2 l_3
  refine (HF2.out _).mono ?_
  rintro y w20 ⟨rfl, hb⟩
  have HB20 := Lib.hid (below_transG HB19.out hb)
  have Hs20 := Lib.hid (Hs19.out.keep hb Hs19.out.lt)
  have Hj20 := Lib.hid (Hj19.out.keep hb Hj19.out.lt)
  have Hk20 := Lib.hid (Hk19.out.keep hb Hk19.out.lt)
  have Hl20 := Lib.hid (Hl19.out.keep hb Hl19.out.lt)
  have Hg20 := Lib.hid (Hg19.out.keep hb Hg19.out.lt)
  clear hb
  have s_0 : w20.cell? ⟨w.heap.size, 0, none⟩ = some (.int .i64 3) := Hs20.out.cellAt (i := 0) (by simp)
  have s_1 : w20.cell? ⟨w.heap.size, 1, none⟩ = some (.int .i64 1) := Hs20.out.cellAt (i := 1) (by simp)
  have s_2 : w20.cell? ⟨w.heap.size, 2, none⟩ = some (.int .i64 1) := Hs20.out.cellAt (i := 2) (by simp)
  have s_3 : w20.cell? ⟨w.heap.size, 3, none⟩ = some (.int .i64 1000) := Hs20.out.cellAt (i := 3) (by simp)
  have s_4 : w20.cell? ⟨w.heap.size, 4, none⟩ = some (.int .i64 500) := Hs20.out.cellAt (i := 4) (by simp)
  have s_5 : w20.cell? ⟨w.heap.size, 5, none⟩ = some (.int .i64 0) := Hs20.out.cellAt (i := 5) (by simp)
  have s_6 : w20.cell? ⟨w.heap.size, 6, none⟩ = some (.int .i64 8) := Hs20.out.cellAt (i := 6) (by simp)
  have j_0 : w20.cell? ⟨w2.heap.size, 0, none⟩ = some (.int .i64 3) := Hj20.out.cellAt (i := 0) (by simp)
  have j_1 : w20.cell? ⟨w2.heap.size, 1, none⟩ = some (.int .i64 40) := Hj20.out.cellAt (i := 1) (by simp)
  have j_2 : w20.cell? ⟨w2.heap.size, 2, none⟩ = some (.int .i64 540) := Hj20.out.cellAt (i := 2) (by simp)
  have j_3 : w20.cell? ⟨w2.heap.size, 3, none⟩ = some (.int .i64 160) := Hj20.out.cellAt (i := 3) (by simp)
  have k_0 : w20.cell? ⟨w4.heap.size, 0, none⟩ = some (.int .i64 3) := Hk20.out.cellAt (i := 0) (by simp)
  have k_1 : w20.cell? ⟨w4.heap.size, 1, none⟩ = some (.int .i64 1040) := Hk20.out.cellAt (i := 1) (by simp)
  have k_2 : w20.cell? ⟨w4.heap.size, 2, none⟩ = some (.int .i64 1540) := Hk20.out.cellAt (i := 2) (by simp)
  have k_3 : w20.cell? ⟨w4.heap.size, 3, none⟩ = some (.int .i64 160) := Hk20.out.cellAt (i := 3) (by simp)
  have l_0 : w20.cell? ⟨w6.heap.size, 0, none⟩ = some (.int .i64 1) := Hl20.out.cellAt (i := 0) (by simp)
  have l_1 : w20.cell? ⟨w6.heap.size, 1, none⟩ = some (.int .i64 5) := Hl20.out.cellAt (i := 1) (by simp)
  have l_2 : w20.cell? ⟨w6.heap.size, 2, none⟩ = some (.int .i64 3) := Hl20.out.cellAt (i := 2) (by simp)
  have l_3 : w20.cell? ⟨w6.heap.size, 3, none⟩ = some (.int .i64 1) := Hl20.out.cellAt (i := 3) (by simp)
  go_wp2_with fail
  clear s_0 s_1 s_2 s_3 s_4 s_5 s_6 j_0 j_1 j_2 j_3 k_0 k_1 k_2 k_3 l_0 l_1 l_2 l_3
  obtain ⟨W21, hW21⟩ : ∃ W, W = (w20.alloc (.cells #[.int .i64 3, .int .i64 1, .int .i64 1, .int .i64 1000, .int .i64 500, .int .i64 0, .int .i64 8] 30)) := ⟨_, rfl⟩
  have hbel_ : Below w.heap.size w W21 := by rw [hW21]; exact (HB20.out.alloc HB20.out.size _)
  have h_s : Blk W21 w.heap.size 30 [.int .i64 3, .int .i64 1, .int .i64 1, .int .i64 1000, .int .i64 500, .int .i64 0, .int .i64 8] := by rw [hW21]; exact Hs20.out.keep ((Below.refl w20.heap.size w20).alloc (Nat.le_refl _) _) Hs20.out.lt
  have h_j : Blk W21 w2.heap.size 55 [.int .i64 3, .int .i64 40, .int .i64 540, .int .i64 160] := by rw [hW21]; exact Hj20.out.keep ((Below.refl w20.heap.size w20).alloc (Nat.le_refl _) _) Hj20.out.lt
  have h_k : Blk W21 w4.heap.size 55 [.int .i64 3, .int .i64 1040, .int .i64 1540, .int .i64 160] := by rw [hW21]; exact Hk20.out.keep ((Below.refl w20.heap.size w20).alloc (Nat.le_refl _) _) Hk20.out.lt
  have h_l : Blk W21 w6.heap.size 38 [.int .i64 1, .int .i64 5, .int .i64 3, .int .i64 1] := by rw [hW21]; exact Hl20.out.keep ((Below.refl w20.heap.size w20).alloc (Nat.le_refl _) _) Hl20.out.lt
  have h_g : Blk W21 Gd 30 ld := by rw [hW21]; exact Hg20.out.keep ((Below.refl w20.heap.size w20).alloc (Nat.le_refl _) _) Hg20.out.lt
  have h_c : Blk W21 w20.heap.size 30 [.int .i64 3, .int .i64 1, .int .i64 1, .int .i64 1000, .int .i64 500, .int .i64 0, .int .i64 8] := by rw [hW21]; exact (blk_at (w20) w20.heap.size (by rfl) 30 [.int .i64 3, .int .i64 1, .int .i64 1, .int .i64 1000, .int .i64 500, .int .i64 0, .int .i64 8]).keep (Below.refl (w20.heap.size + 1) _) (by omega)
  rw [← hW21]
  have HB21 := Lib.hid hbel_
  have Hs21 := Lib.hid h_s
  have Hj21 := Lib.hid h_j
  have Hk21 := Lib.hid h_k
  have Hl21 := Lib.hid h_l
  have Hg21 := Lib.hid h_g
  have Hc21 := Lib.hid h_c
  clear hbel_ hW21 h_s h_j h_k h_l h_g h_c
  refine (HO1.out _ _ _ Hc21.out).mono ?_
  rintro y w22 ⟨vo, rfl, hr, hb⟩
  obtain ⟨Go, cpo, lo, rfl, _, hk, _, _, _, h4⟩ := own_pos hr (by decide)
  have HB22 := Lib.hid (below_transG HB21.out hb)
  have Hs22 := Lib.hid (Hs21.out.keep hb Hs21.out.lt)
  have Hj22 := Lib.hid (Hj21.out.keep hb Hj21.out.lt)
  have Hk22 := Lib.hid (Hk21.out.keep hb Hk21.out.lt)
  have Hl22 := Lib.hid (Hl21.out.keep hb Hl21.out.lt)
  have Hg22 := Lib.hid (Hg21.out.keep hb Hg21.out.lt)
  have Hc22 := Lib.hid (Hc21.out.keep hb Hc21.out.lt)
  clear hr hb hk h4
  have g5 : w22.cell? ⟨Gd, 5, none⟩ = some (.int .i64 1) := blk_cells (n := 2) Hg22.out HT4.out rfl 0 (by decide) 5 _ rfl
  have g12 : w22.cell? ⟨Gd, 12, none⟩ = some (.int .i64 0) := blk_cells (n := 2) Hg22.out HT4.out rfl 1 (by decide) 5 _ rfl
  have s_0 : w22.cell? ⟨w.heap.size, 0, none⟩ = some (.int .i64 3) := Hs22.out.cellAt (i := 0) (by simp)
  have s_1 : w22.cell? ⟨w.heap.size, 1, none⟩ = some (.int .i64 1) := Hs22.out.cellAt (i := 1) (by simp)
  have s_2 : w22.cell? ⟨w.heap.size, 2, none⟩ = some (.int .i64 1) := Hs22.out.cellAt (i := 2) (by simp)
  have s_3 : w22.cell? ⟨w.heap.size, 3, none⟩ = some (.int .i64 1000) := Hs22.out.cellAt (i := 3) (by simp)
  have s_4 : w22.cell? ⟨w.heap.size, 4, none⟩ = some (.int .i64 500) := Hs22.out.cellAt (i := 4) (by simp)
  have s_5 : w22.cell? ⟨w.heap.size, 5, none⟩ = some (.int .i64 0) := Hs22.out.cellAt (i := 5) (by simp)
  have s_6 : w22.cell? ⟨w.heap.size, 6, none⟩ = some (.int .i64 8) := Hs22.out.cellAt (i := 6) (by simp)
  have j_0 : w22.cell? ⟨w2.heap.size, 0, none⟩ = some (.int .i64 3) := Hj22.out.cellAt (i := 0) (by simp)
  have j_1 : w22.cell? ⟨w2.heap.size, 1, none⟩ = some (.int .i64 40) := Hj22.out.cellAt (i := 1) (by simp)
  have j_2 : w22.cell? ⟨w2.heap.size, 2, none⟩ = some (.int .i64 540) := Hj22.out.cellAt (i := 2) (by simp)
  have j_3 : w22.cell? ⟨w2.heap.size, 3, none⟩ = some (.int .i64 160) := Hj22.out.cellAt (i := 3) (by simp)
  have k_0 : w22.cell? ⟨w4.heap.size, 0, none⟩ = some (.int .i64 3) := Hk22.out.cellAt (i := 0) (by simp)
  have k_1 : w22.cell? ⟨w4.heap.size, 1, none⟩ = some (.int .i64 1040) := Hk22.out.cellAt (i := 1) (by simp)
  have k_2 : w22.cell? ⟨w4.heap.size, 2, none⟩ = some (.int .i64 1540) := Hk22.out.cellAt (i := 2) (by simp)
  have k_3 : w22.cell? ⟨w4.heap.size, 3, none⟩ = some (.int .i64 160) := Hk22.out.cellAt (i := 3) (by simp)
  have l_0 : w22.cell? ⟨w6.heap.size, 0, none⟩ = some (.int .i64 1) := Hl22.out.cellAt (i := 0) (by simp)
  have l_1 : w22.cell? ⟨w6.heap.size, 1, none⟩ = some (.int .i64 5) := Hl22.out.cellAt (i := 1) (by simp)
  have l_2 : w22.cell? ⟨w6.heap.size, 2, none⟩ = some (.int .i64 3) := Hl22.out.cellAt (i := 2) (by simp)
  have l_3 : w22.cell? ⟨w6.heap.size, 3, none⟩ = some (.int .i64 1) := Hl22.out.cellAt (i := 3) (by simp)
  go_wp2_with fail
  clear g5 g12
  clear s_0 s_1 s_2 s_3 s_4 s_5 s_6 j_0 j_1 j_2 j_3 k_0 k_1 k_2 k_3 l_0 l_1 l_2 l_3
  refine (HW1.out _ (HTX.out _ HB22.out).1 (HTX.out _ HB22.out).2).mono ?_
  rintro y w23 ⟨rfl, hb⟩
  have HB23 := Lib.hid (below_transG HB22.out hb)
  have Hs23 := Lib.hid (Hs22.out.keep hb Hs22.out.lt)
  have Hj23 := Lib.hid (Hj22.out.keep hb Hj22.out.lt)
  have Hk23 := Lib.hid (Hk22.out.keep hb Hk22.out.lt)
  have Hl23 := Lib.hid (Hl22.out.keep hb Hl22.out.lt)
  have Hg23 := Lib.hid (Hg22.out.keep hb Hg22.out.lt)
  clear hb
  have s_0 : w23.cell? ⟨w.heap.size, 0, none⟩ = some (.int .i64 3) := Hs23.out.cellAt (i := 0) (by simp)
  have s_1 : w23.cell? ⟨w.heap.size, 1, none⟩ = some (.int .i64 1) := Hs23.out.cellAt (i := 1) (by simp)
  have s_2 : w23.cell? ⟨w.heap.size, 2, none⟩ = some (.int .i64 1) := Hs23.out.cellAt (i := 2) (by simp)
  have s_3 : w23.cell? ⟨w.heap.size, 3, none⟩ = some (.int .i64 1000) := Hs23.out.cellAt (i := 3) (by simp)
  have s_4 : w23.cell? ⟨w.heap.size, 4, none⟩ = some (.int .i64 500) := Hs23.out.cellAt (i := 4) (by simp)
  have s_5 : w23.cell? ⟨w.heap.size, 5, none⟩ = some (.int .i64 0) := Hs23.out.cellAt (i := 5) (by simp)
  have s_6 : w23.cell? ⟨w.heap.size, 6, none⟩ = some (.int .i64 8) := Hs23.out.cellAt (i := 6) (by simp)
  have j_0 : w23.cell? ⟨w2.heap.size, 0, none⟩ = some (.int .i64 3) := Hj23.out.cellAt (i := 0) (by simp)
  have j_1 : w23.cell? ⟨w2.heap.size, 1, none⟩ = some (.int .i64 40) := Hj23.out.cellAt (i := 1) (by simp)
  have j_2 : w23.cell? ⟨w2.heap.size, 2, none⟩ = some (.int .i64 540) := Hj23.out.cellAt (i := 2) (by simp)
  have j_3 : w23.cell? ⟨w2.heap.size, 3, none⟩ = some (.int .i64 160) := Hj23.out.cellAt (i := 3) (by simp)
  have k_0 : w23.cell? ⟨w4.heap.size, 0, none⟩ = some (.int .i64 3) := Hk23.out.cellAt (i := 0) (by simp)
  have k_1 : w23.cell? ⟨w4.heap.size, 1, none⟩ = some (.int .i64 1040) := Hk23.out.cellAt (i := 1) (by simp)
  have k_2 : w23.cell? ⟨w4.heap.size, 2, none⟩ = some (.int .i64 1540) := Hk23.out.cellAt (i := 2) (by simp)
  have k_3 : w23.cell? ⟨w4.heap.size, 3, none⟩ = some (.int .i64 160) := Hk23.out.cellAt (i := 3) (by simp)
  have l_0 : w23.cell? ⟨w6.heap.size, 0, none⟩ = some (.int .i64 1) := Hl23.out.cellAt (i := 0) (by simp)
  have l_1 : w23.cell? ⟨w6.heap.size, 1, none⟩ = some (.int .i64 5) := Hl23.out.cellAt (i := 1) (by simp)
  have l_2 : w23.cell? ⟨w6.heap.size, 2, none⟩ = some (.int .i64 3) := Hl23.out.cellAt (i := 2) (by simp)
  have l_3 : w23.cell? ⟨w6.heap.size, 3, none⟩ = some (.int .i64 1) := Hl23.out.cellAt (i := 3) (by simp)
  go_wp2_with fail
  clear s_0 s_1 s_2 s_3 s_4 s_5 s_6 j_0 j_1 j_2 j_3 k_0 k_1 k_2 k_3 l_0 l_1 l_2 l_3
  refine (HW2.out _ (HTX.out _ HB23.out).1 (HTX.out _ HB23.out).2).mono ?_
  rintro y w24 ⟨rfl, hb⟩
  have HB24 := Lib.hid (below_transG HB23.out hb)
  have Hs24 := Lib.hid (Hs23.out.keep hb Hs23.out.lt)
  have Hj24 := Lib.hid (Hj23.out.keep hb Hj23.out.lt)
  have Hk24 := Lib.hid (Hk23.out.keep hb Hk23.out.lt)
  have Hl24 := Lib.hid (Hl23.out.keep hb Hl23.out.lt)
  have Hg24 := Lib.hid (Hg23.out.keep hb Hg23.out.lt)
  clear hb
  have s_0 : w24.cell? ⟨w.heap.size, 0, none⟩ = some (.int .i64 3) := Hs24.out.cellAt (i := 0) (by simp)
  have s_1 : w24.cell? ⟨w.heap.size, 1, none⟩ = some (.int .i64 1) := Hs24.out.cellAt (i := 1) (by simp)
  have s_2 : w24.cell? ⟨w.heap.size, 2, none⟩ = some (.int .i64 1) := Hs24.out.cellAt (i := 2) (by simp)
  have s_3 : w24.cell? ⟨w.heap.size, 3, none⟩ = some (.int .i64 1000) := Hs24.out.cellAt (i := 3) (by simp)
  have s_4 : w24.cell? ⟨w.heap.size, 4, none⟩ = some (.int .i64 500) := Hs24.out.cellAt (i := 4) (by simp)
  have s_5 : w24.cell? ⟨w.heap.size, 5, none⟩ = some (.int .i64 0) := Hs24.out.cellAt (i := 5) (by simp)
  have s_6 : w24.cell? ⟨w.heap.size, 6, none⟩ = some (.int .i64 8) := Hs24.out.cellAt (i := 6) (by simp)
  have j_0 : w24.cell? ⟨w2.heap.size, 0, none⟩ = some (.int .i64 3) := Hj24.out.cellAt (i := 0) (by simp)
  have j_1 : w24.cell? ⟨w2.heap.size, 1, none⟩ = some (.int .i64 40) := Hj24.out.cellAt (i := 1) (by simp)
  have j_2 : w24.cell? ⟨w2.heap.size, 2, none⟩ = some (.int .i64 540) := Hj24.out.cellAt (i := 2) (by simp)
  have j_3 : w24.cell? ⟨w2.heap.size, 3, none⟩ = some (.int .i64 160) := Hj24.out.cellAt (i := 3) (by simp)
  have k_0 : w24.cell? ⟨w4.heap.size, 0, none⟩ = some (.int .i64 3) := Hk24.out.cellAt (i := 0) (by simp)
  have k_1 : w24.cell? ⟨w4.heap.size, 1, none⟩ = some (.int .i64 1040) := Hk24.out.cellAt (i := 1) (by simp)
  have k_2 : w24.cell? ⟨w4.heap.size, 2, none⟩ = some (.int .i64 1540) := Hk24.out.cellAt (i := 2) (by simp)
  have k_3 : w24.cell? ⟨w4.heap.size, 3, none⟩ = some (.int .i64 160) := Hk24.out.cellAt (i := 3) (by simp)
  have l_0 : w24.cell? ⟨w6.heap.size, 0, none⟩ = some (.int .i64 1) := Hl24.out.cellAt (i := 0) (by simp)
  have l_1 : w24.cell? ⟨w6.heap.size, 1, none⟩ = some (.int .i64 5) := Hl24.out.cellAt (i := 1) (by simp)
  have l_2 : w24.cell? ⟨w6.heap.size, 2, none⟩ = some (.int .i64 3) := Hl24.out.cellAt (i := 2) (by simp)
  have l_3 : w24.cell? ⟨w6.heap.size, 3, none⟩ = some (.int .i64 1) := Hl24.out.cellAt (i := 3) (by simp)
  go_wp2_with fail
  clear s_0 s_1 s_2 s_3 s_4 s_5 s_6 j_0 j_1 j_2 j_3 k_0 k_1 k_2 k_3 l_0 l_1 l_2 l_3
  refine (HCO.out _ (HTX.out _ HB24.out).1 (HTX.out _ HB24.out).2).mono ?_
  rintro y w25 ⟨rfl, hb⟩
  have HB25 := Lib.hid (below_transG HB24.out hb)
  have Hs25 := Lib.hid (Hs24.out.keep hb Hs24.out.lt)
  have Hj25 := Lib.hid (Hj24.out.keep hb Hj24.out.lt)
  have Hk25 := Lib.hid (Hk24.out.keep hb Hk24.out.lt)
  have Hl25 := Lib.hid (Hl24.out.keep hb Hl24.out.lt)
  have Hg25 := Lib.hid (Hg24.out.keep hb Hg24.out.lt)
  clear hb
  go_wp2_with fail
  go_ret
  exact ⟨rfl, HB25.out⟩
end Go.Proofs.YtolhckahphmffaaDoor
