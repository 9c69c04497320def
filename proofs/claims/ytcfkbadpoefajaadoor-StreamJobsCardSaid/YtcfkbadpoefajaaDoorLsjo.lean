/- StreamJobs (P25.2, P25.3): any stream's label, and job, and whether one job may come behind another one. Conditions: none but the divisor's table, which the card ties. -/
import Derived.Test.YtcfkbadpoefajaaDoorRows
import Derived.Test.YtcfkbadpoefajaaDoorSmp
import Derived.Test.YtcfkbadpoefajaaDoorSmq
import Derived.Test.YtcfkbadpoefajaaDoorCrt
import Derived.WalkKit
import Derived.ProofKit
import Derived.OpenShut
import Derived.ShutString
import Derived.ChangeOld
import Derived.Below
namespace Go.Proofs.YtcfkbadpoefajaaDoor.streamJobs
open Go.ChangeShapes Go.WideShapes Go.ChangeAt Go.RowKit
theorem own : ownKnob Tryd.prog.godebug = none := by kernel_rfl
theorem laidOut : laidOutB Tryd.prog = true := by kernel_rfl
set_option maxRecDepth 100000 in
set_option maxHeartbeats 8000000 in
theorem walk (s : Sm) (ta tb tc ja ra ea ka jb rb eb kb : Int) (_ : s.wf) (_ : (Lit.int .i64 ta).wf = true) (_ : (Lit.int .i64 tb).wf = true) (_ : (Lit.int .i64 tc).wf = true) (w : World) (h0 : 0 < w.heap.size) (hT : Tab w) : Calls Tryd.prog 4 #[s.v, .agg #[.int .i64 ta, .int .i64 tb, .int .i64 tc], .agg #[.int .i64 ja, .int .i64 ra, .int .i64 ea, .int .i64 ka, .int .i64 jb, .int .i64 rb, .int .i64 eb, .int .i64 kb]] w fun y w' => y = .returned (.bool true) ∧ Below w.heap.size w w' := by
  have HTX := Lib.hid (show ∀ x, Below w.heap.size w x → 0 < x.heap.size ∧ Tab x from fun x hx => ⟨Nat.lt_of_lt_of_le h0 hx.size, hT.on hx h0⟩)
  clear hT h0
  obtain ⟨l0, l1, l2, l3, le, hl⟩ : ∃ l0 l1 l2 l3 le : Int, labV s.i s.n s.c s.p s.d s.s s.b ta tb tc = .tuple #[.agg #[.int .i64 l0, .int .i64 l1, .int .i64 l2, .int .i64 l3], .int .i64 le] := by
    unfold labV; split
    · split
      · exact ⟨_, _, _, _, _, rfl⟩
      · exact ⟨_, _, _, _, _, rfl⟩
    · exact ⟨_, _, _, _, _, rfl⟩
  obtain ⟨j0, j1, j2, j3, je, hj⟩ : ∃ j0 j1 j2 j3 je : Int, jobV s.i s.n s.c s.p s.d s.s s.b ta = .tuple #[.agg #[.int .i64 j0, .int .i64 j1, .int .i64 j2, .int .i64 j3], .int .i64 je] := by
    unfold jobV; split
    · split
      · exact ⟨_, _, _, _, _, rfl⟩
      · exact ⟨_, _, _, _, _, rfl⟩
    · exact ⟨_, _, _, _, _, rfl⟩
  have HL1 := Lib.hid (fun u => slab_any s.i s.n s.c s.p s.d s.s s.b ta tb tc u); have HL2 := Lib.hid (fun u => rslab_any s.i s.n s.c s.p s.d s.s s.b ta tb tc u)
  rw [hl] at HL1 HL2
  have HJ1 := Lib.hid (fun u a b => sjob_any s.i s.n s.c s.p s.d s.s s.b ta u a b); have HJ2 := Lib.hid (fun u => rsjob_any s.i s.n s.c s.p s.d s.s s.b ta u)
  rw [hj] at HJ1 HJ2
  have HF1 := Lib.hid (fun u a b => sfol_any s.i s.n s.c s.p s.d s.s s.b ja ra ea ka jb rb eb kb u a b); have HF2 := Lib.hid (fun u => rsfol_any s.i s.n s.c s.p s.d s.s s.b ja ra ea ka jb rb eb kb u)
  obtain ⟨fo, hfo⟩ : ∃ f, f = folB s.i s.n s.c s.p s.d s.s s.b ja ra ea ka jb rb eb kb := ⟨_, rfl⟩
  rw [← hfo] at HF1 HF2
  have HLV := Lib.hid (fun u a b => live25 u a b)
  clear hl hj hfo
  unfold Sm.v
  have e0 : (l0 == l0) = true := by simp
  have e1 : (l1 == l1) = true := by simp
  have e2 : (l2 == l2) = true := by simp
  have e3 : (l3 == l3) = true := by simp
  have e4 : (le == le) = true := by simp
  have e5 : (j0 == j0) = true := by simp
  have e6 : (j1 == j1) = true := by simp
  have e7 : (j2 == j2) = true := by simp
  have e8 : (j3 == j3) = true := by simp
  have e9 : (je == je) = true := by simp
  have e10 : (fo == fo) = true := by simp
  go_enter Tryd.func4, Tryd.ntmps4
  go_upto_region 1 with fail
  obtain ⟨W1, hW1⟩ : ∃ W, W = (((w.alloc (.cells #[.int .i64 s.i, .int .i64 s.n, .int .i64 s.c, .int .i64 s.p, .int .i64 s.d, .int .i64 s.s, .int .i64 s.b] 30)).alloc (.cells #[.int .i64 ta, .int .i64 tb, .int .i64 tc] 37)).alloc (.cells #[.int .i64 ja, .int .i64 ra, .int .i64 ea, .int .i64 ka, .int .i64 jb, .int .i64 rb, .int .i64 eb, .int .i64 kb] 40)) := ⟨_, rfl⟩
  have hbel_ : Below w.heap.size w W1 := by rw [hW1]; exact ((((Below.refl w.heap.size w).alloc (Nat.le_refl w.heap.size) _).alloc (by have := (Nat.le_refl w.heap.size); simp only [World.size_alloc]; omega) _).alloc (by have := (Nat.le_refl w.heap.size); simp only [World.size_alloc]; omega) _)
  have h_s : Blk W1 w.heap.size 30 [.int .i64 s.i, .int .i64 s.n, .int .i64 s.c, .int .i64 s.p, .int .i64 s.d, .int .i64 s.s, .int .i64 s.b] := by rw [hW1]; exact (blk_at (w) w.heap.size (by rfl) 30 [.int .i64 s.i, .int .i64 s.n, .int .i64 s.c, .int .i64 s.p, .int .i64 s.d, .int .i64 s.s, .int .i64 s.b]).keep (((Below.refl (w.heap.size + 1) _).alloc (by simp only [World.size_alloc]; omega) _).alloc (by simp only [World.size_alloc]; omega) _) (by omega)
  have h_t : Blk W1 (w.heap.size + 1) 37 [.int .i64 ta, .int .i64 tb, .int .i64 tc] := by rw [hW1]; exact (blk_at ((w.alloc (.cells #[.int .i64 s.i, .int .i64 s.n, .int .i64 s.c, .int .i64 s.p, .int .i64 s.d, .int .i64 s.s, .int .i64 s.b] 30))) (w.heap.size + 1) (by simp only [World.size_alloc]) 37 [.int .i64 ta, .int .i64 tb, .int .i64 tc]).keep ((Below.refl ((w.heap.size + 1) + 1) _).alloc (by simp only [World.size_alloc]; omega) _) (by omega)
  have h_x : Blk W1 (w.heap.size + 2) 40 [.int .i64 ja, .int .i64 ra, .int .i64 ea, .int .i64 ka, .int .i64 jb, .int .i64 rb, .int .i64 eb, .int .i64 kb] := by rw [hW1]; exact (blk_at (((w.alloc (.cells #[.int .i64 s.i, .int .i64 s.n, .int .i64 s.c, .int .i64 s.p, .int .i64 s.d, .int .i64 s.s, .int .i64 s.b] 30)).alloc (.cells #[.int .i64 ta, .int .i64 tb, .int .i64 tc] 37))) (w.heap.size + 2) (by simp only [World.size_alloc]) 40 [.int .i64 ja, .int .i64 ra, .int .i64 ea, .int .i64 ka, .int .i64 jb, .int .i64 rb, .int .i64 eb, .int .i64 kb]).keep (Below.refl ((w.heap.size + 2) + 1) _) (by omega)
  rw [← hW1]
  have HB1 := Lib.hid hbel_
  have Hs1 := Lib.hid h_s
  have Ht1 := Lib.hid h_t
  have Hx1 := Lib.hid h_x
  clear hbel_ hW1  h_s h_t h_x
  have s_0 : W1.cell? ⟨w.heap.size, 0, none⟩ = some (.int .i64 s.i) := Hs1.out.cellAt (i := 0) (by simp)
  have s_1 : W1.cell? ⟨w.heap.size, 1, none⟩ = some (.int .i64 s.n) := Hs1.out.cellAt (i := 1) (by simp)
  have s_2 : W1.cell? ⟨w.heap.size, 2, none⟩ = some (.int .i64 s.c) := Hs1.out.cellAt (i := 2) (by simp)
  have s_3 : W1.cell? ⟨w.heap.size, 3, none⟩ = some (.int .i64 s.p) := Hs1.out.cellAt (i := 3) (by simp)
  have s_4 : W1.cell? ⟨w.heap.size, 4, none⟩ = some (.int .i64 s.d) := Hs1.out.cellAt (i := 4) (by simp)
  have s_5 : W1.cell? ⟨w.heap.size, 5, none⟩ = some (.int .i64 s.s) := Hs1.out.cellAt (i := 5) (by simp)
  have s_6 : W1.cell? ⟨w.heap.size, 6, none⟩ = some (.int .i64 s.b) := Hs1.out.cellAt (i := 6) (by simp)
  have t_0 : W1.cell? ⟨(w.heap.size + 1), 0, none⟩ = some (.int .i64 ta) := Ht1.out.cellAt (i := 0) (by simp)
  have t_1 : W1.cell? ⟨(w.heap.size + 1), 1, none⟩ = some (.int .i64 tb) := Ht1.out.cellAt (i := 1) (by simp)
  have t_2 : W1.cell? ⟨(w.heap.size + 1), 2, none⟩ = some (.int .i64 tc) := Ht1.out.cellAt (i := 2) (by simp)
  go_wp2_with fail
  clear s_0 s_1 s_2 s_3 s_4 s_5 s_6 t_0 t_1 t_2
  refine (HL1.out _).mono ?_
  rintro y w2 ⟨rfl, hb⟩
  have HB2 := Lib.hid (below_transG HB1.out hb)
  have Hs2 := Lib.hid (Hs1.out.keep hb Hs1.out.lt)
  have Ht2 := Lib.hid (Ht1.out.keep hb Ht1.out.lt)
  have Hx2 := Lib.hid (Hx1.out.keep hb Hx1.out.lt)
  clear hb
  go_upto_region 2 with fail
  obtain ⟨W3, hW3⟩ : ∃ W, W = (w2.alloc (.cells #[.int .i64 l0, .int .i64 l1, .int .i64 l2, .int .i64 l3] 42)) := ⟨_, rfl⟩
  have hbel_ : Below w.heap.size w W3 := by rw [hW3]; exact (HB2.out.alloc HB2.out.size _)
  have h_s : Blk W3 w.heap.size 30 [.int .i64 s.i, .int .i64 s.n, .int .i64 s.c, .int .i64 s.p, .int .i64 s.d, .int .i64 s.s, .int .i64 s.b] := by rw [hW3]; exact Hs2.out.keep ((Below.refl w2.heap.size w2).alloc (Nat.le_refl _) _) Hs2.out.lt
  have h_t : Blk W3 (w.heap.size + 1) 37 [.int .i64 ta, .int .i64 tb, .int .i64 tc] := by rw [hW3]; exact Ht2.out.keep ((Below.refl w2.heap.size w2).alloc (Nat.le_refl _) _) Ht2.out.lt
  have h_x : Blk W3 (w.heap.size + 2) 40 [.int .i64 ja, .int .i64 ra, .int .i64 ea, .int .i64 ka, .int .i64 jb, .int .i64 rb, .int .i64 eb, .int .i64 kb] := by rw [hW3]; exact Hx2.out.keep ((Below.refl w2.heap.size w2).alloc (Nat.le_refl _) _) Hx2.out.lt
  have h_l : Blk W3 w2.heap.size 42 [.int .i64 l0, .int .i64 l1, .int .i64 l2, .int .i64 l3] := by rw [hW3]; exact (blk_at (w2) w2.heap.size (by rfl) 42 [.int .i64 l0, .int .i64 l1, .int .i64 l2, .int .i64 l3]).keep (Below.refl (w2.heap.size + 1) _) (by omega)
  rw [← hW3]
  have HB3 := Lib.hid hbel_
  have Hs3 := Lib.hid h_s
  have Ht3 := Lib.hid h_t
  have Hx3 := Lib.hid h_x
  have Hl3 := Lib.hid h_l
  clear hbel_ hW3 h_s h_t h_x h_l
  have s_0 : W3.cell? ⟨w.heap.size, 0, none⟩ = some (.int .i64 s.i) := Hs3.out.cellAt (i := 0) (by simp)
  have s_1 : W3.cell? ⟨w.heap.size, 1, none⟩ = some (.int .i64 s.n) := Hs3.out.cellAt (i := 1) (by simp)
  have s_2 : W3.cell? ⟨w.heap.size, 2, none⟩ = some (.int .i64 s.c) := Hs3.out.cellAt (i := 2) (by simp)
  have s_3 : W3.cell? ⟨w.heap.size, 3, none⟩ = some (.int .i64 s.p) := Hs3.out.cellAt (i := 3) (by simp)
  have s_4 : W3.cell? ⟨w.heap.size, 4, none⟩ = some (.int .i64 s.d) := Hs3.out.cellAt (i := 4) (by simp)
  have s_5 : W3.cell? ⟨w.heap.size, 5, none⟩ = some (.int .i64 s.s) := Hs3.out.cellAt (i := 5) (by simp)
  have s_6 : W3.cell? ⟨w.heap.size, 6, none⟩ = some (.int .i64 s.b) := Hs3.out.cellAt (i := 6) (by simp)
  have t_0 : W3.cell? ⟨(w.heap.size + 1), 0, none⟩ = some (.int .i64 ta) := Ht3.out.cellAt (i := 0) (by simp)
  have t_1 : W3.cell? ⟨(w.heap.size + 1), 1, none⟩ = some (.int .i64 tb) := Ht3.out.cellAt (i := 1) (by simp)
  have t_2 : W3.cell? ⟨(w.heap.size + 1), 2, none⟩ = some (.int .i64 tc) := Ht3.out.cellAt (i := 2) (by simp)
  go_wp2_with fail
  clear s_0 s_1 s_2 s_3 s_4 s_5 s_6 t_0 t_1 t_2
  refine (HL2.out _).mono ?_
  rintro y w4 ⟨rfl, hb⟩
  have HB4 := Lib.hid (below_transG HB3.out hb)
  have Hs4 := Lib.hid (Hs3.out.keep hb Hs3.out.lt)
  have Ht4 := Lib.hid (Ht3.out.keep hb Ht3.out.lt)
  have Hx4 := Lib.hid (Hx3.out.keep hb Hx3.out.lt)
  have Hl4 := Lib.hid (Hl3.out.keep hb Hl3.out.lt)
  clear hb
  go_upto_region 3 with fail
  obtain ⟨W5, hW5⟩ : ∃ W, W = (w4.alloc (.cells #[.int .i64 l0, .int .i64 l1, .int .i64 l2, .int .i64 l3] 42)) := ⟨_, rfl⟩
  have hbel_ : Below w.heap.size w W5 := by rw [hW5]; exact (HB4.out.alloc HB4.out.size _)
  have h_s : Blk W5 w.heap.size 30 [.int .i64 s.i, .int .i64 s.n, .int .i64 s.c, .int .i64 s.p, .int .i64 s.d, .int .i64 s.s, .int .i64 s.b] := by rw [hW5]; exact Hs4.out.keep ((Below.refl w4.heap.size w4).alloc (Nat.le_refl _) _) Hs4.out.lt
  have h_t : Blk W5 (w.heap.size + 1) 37 [.int .i64 ta, .int .i64 tb, .int .i64 tc] := by rw [hW5]; exact Ht4.out.keep ((Below.refl w4.heap.size w4).alloc (Nat.le_refl _) _) Ht4.out.lt
  have h_x : Blk W5 (w.heap.size + 2) 40 [.int .i64 ja, .int .i64 ra, .int .i64 ea, .int .i64 ka, .int .i64 jb, .int .i64 rb, .int .i64 eb, .int .i64 kb] := by rw [hW5]; exact Hx4.out.keep ((Below.refl w4.heap.size w4).alloc (Nat.le_refl _) _) Hx4.out.lt
  have h_l : Blk W5 w2.heap.size 42 [.int .i64 l0, .int .i64 l1, .int .i64 l2, .int .i64 l3] := by rw [hW5]; exact Hl4.out.keep ((Below.refl w4.heap.size w4).alloc (Nat.le_refl _) _) Hl4.out.lt
  have h_m : Blk W5 w4.heap.size 42 [.int .i64 l0, .int .i64 l1, .int .i64 l2, .int .i64 l3] := by rw [hW5]; exact (blk_at (w4) w4.heap.size (by rfl) 42 [.int .i64 l0, .int .i64 l1, .int .i64 l2, .int .i64 l3]).keep (Below.refl (w4.heap.size + 1) _) (by omega)
  rw [← hW5]
  have HB5 := Lib.hid hbel_
  have Hs5 := Lib.hid h_s
  have Ht5 := Lib.hid h_t
  have Hx5 := Lib.hid h_x
  have Hl5 := Lib.hid h_l
  have Hm5 := Lib.hid h_m
  clear hbel_ hW5 h_s h_t h_x h_l h_m
  have s_0 : W5.cell? ⟨w.heap.size, 0, none⟩ = some (.int .i64 s.i) := Hs5.out.cellAt (i := 0) (by simp)
  have s_1 : W5.cell? ⟨w.heap.size, 1, none⟩ = some (.int .i64 s.n) := Hs5.out.cellAt (i := 1) (by simp)
  have s_2 : W5.cell? ⟨w.heap.size, 2, none⟩ = some (.int .i64 s.c) := Hs5.out.cellAt (i := 2) (by simp)
  have s_3 : W5.cell? ⟨w.heap.size, 3, none⟩ = some (.int .i64 s.p) := Hs5.out.cellAt (i := 3) (by simp)
  have s_4 : W5.cell? ⟨w.heap.size, 4, none⟩ = some (.int .i64 s.d) := Hs5.out.cellAt (i := 4) (by simp)
  have s_5 : W5.cell? ⟨w.heap.size, 5, none⟩ = some (.int .i64 s.s) := Hs5.out.cellAt (i := 5) (by simp)
  have s_6 : W5.cell? ⟨w.heap.size, 6, none⟩ = some (.int .i64 s.b) := Hs5.out.cellAt (i := 6) (by simp)
  have t_0 : W5.cell? ⟨(w.heap.size + 1), 0, none⟩ = some (.int .i64 ta) := Ht5.out.cellAt (i := 0) (by simp)
  have t_1 : W5.cell? ⟨(w.heap.size + 1), 1, none⟩ = some (.int .i64 tb) := Ht5.out.cellAt (i := 1) (by simp)
  have t_2 : W5.cell? ⟨(w.heap.size + 1), 2, none⟩ = some (.int .i64 tc) := Ht5.out.cellAt (i := 2) (by simp)
  go_wp2_with fail
  clear s_0 s_1 s_2 s_3 s_4 s_5 s_6 t_0 t_1 t_2
  refine (HJ1.out _ (HTX.out _ HB5.out).1 (HTX.out _ HB5.out).2).mono ?_
  rintro y w6 ⟨rfl, hb⟩
  have HB6 := Lib.hid (below_transG HB5.out hb)
  have Hs6 := Lib.hid (Hs5.out.keep hb Hs5.out.lt)
  have Ht6 := Lib.hid (Ht5.out.keep hb Ht5.out.lt)
  have Hx6 := Lib.hid (Hx5.out.keep hb Hx5.out.lt)
  have Hl6 := Lib.hid (Hl5.out.keep hb Hl5.out.lt)
  have Hm6 := Lib.hid (Hm5.out.keep hb Hm5.out.lt)
  clear hb
  go_upto_region 4 with fail
  obtain ⟨W7, hW7⟩ : ∃ W, W = (w6.alloc (.cells #[.int .i64 j0, .int .i64 j1, .int .i64 j2, .int .i64 j3] 39)) := ⟨_, rfl⟩
  have hbel_ : Below w.heap.size w W7 := by rw [hW7]; exact (HB6.out.alloc HB6.out.size _)
  have h_s : Blk W7 w.heap.size 30 [.int .i64 s.i, .int .i64 s.n, .int .i64 s.c, .int .i64 s.p, .int .i64 s.d, .int .i64 s.s, .int .i64 s.b] := by rw [hW7]; exact Hs6.out.keep ((Below.refl w6.heap.size w6).alloc (Nat.le_refl _) _) Hs6.out.lt
  have h_t : Blk W7 (w.heap.size + 1) 37 [.int .i64 ta, .int .i64 tb, .int .i64 tc] := by rw [hW7]; exact Ht6.out.keep ((Below.refl w6.heap.size w6).alloc (Nat.le_refl _) _) Ht6.out.lt
  have h_x : Blk W7 (w.heap.size + 2) 40 [.int .i64 ja, .int .i64 ra, .int .i64 ea, .int .i64 ka, .int .i64 jb, .int .i64 rb, .int .i64 eb, .int .i64 kb] := by rw [hW7]; exact Hx6.out.keep ((Below.refl w6.heap.size w6).alloc (Nat.le_refl _) _) Hx6.out.lt
  have h_l : Blk W7 w2.heap.size 42 [.int .i64 l0, .int .i64 l1, .int .i64 l2, .int .i64 l3] := by rw [hW7]; exact Hl6.out.keep ((Below.refl w6.heap.size w6).alloc (Nat.le_refl _) _) Hl6.out.lt
  have h_m : Blk W7 w4.heap.size 42 [.int .i64 l0, .int .i64 l1, .int .i64 l2, .int .i64 l3] := by rw [hW7]; exact Hm6.out.keep ((Below.refl w6.heap.size w6).alloc (Nat.le_refl _) _) Hm6.out.lt
  have h_j : Blk W7 w6.heap.size 39 [.int .i64 j0, .int .i64 j1, .int .i64 j2, .int .i64 j3] := by rw [hW7]; exact (blk_at (w6) w6.heap.size (by rfl) 39 [.int .i64 j0, .int .i64 j1, .int .i64 j2, .int .i64 j3]).keep (Below.refl (w6.heap.size + 1) _) (by omega)
  rw [← hW7]
  have HB7 := Lib.hid hbel_
  have Hs7 := Lib.hid h_s
  have Ht7 := Lib.hid h_t
  have Hx7 := Lib.hid h_x
  have Hl7 := Lib.hid h_l
  have Hm7 := Lib.hid h_m
  have Hj7 := Lib.hid h_j
  clear hbel_ hW7 h_s h_t h_x h_l h_m h_j
  have s_0 : W7.cell? ⟨w.heap.size, 0, none⟩ = some (.int .i64 s.i) := Hs7.out.cellAt (i := 0) (by simp)
  have s_1 : W7.cell? ⟨w.heap.size, 1, none⟩ = some (.int .i64 s.n) := Hs7.out.cellAt (i := 1) (by simp)
  have s_2 : W7.cell? ⟨w.heap.size, 2, none⟩ = some (.int .i64 s.c) := Hs7.out.cellAt (i := 2) (by simp)
  have s_3 : W7.cell? ⟨w.heap.size, 3, none⟩ = some (.int .i64 s.p) := Hs7.out.cellAt (i := 3) (by simp)
  have s_4 : W7.cell? ⟨w.heap.size, 4, none⟩ = some (.int .i64 s.d) := Hs7.out.cellAt (i := 4) (by simp)
  have s_5 : W7.cell? ⟨w.heap.size, 5, none⟩ = some (.int .i64 s.s) := Hs7.out.cellAt (i := 5) (by simp)
  have s_6 : W7.cell? ⟨w.heap.size, 6, none⟩ = some (.int .i64 s.b) := Hs7.out.cellAt (i := 6) (by simp)
  have t_0 : W7.cell? ⟨(w.heap.size + 1), 0, none⟩ = some (.int .i64 ta) := Ht7.out.cellAt (i := 0) (by simp)
  have t_1 : W7.cell? ⟨(w.heap.size + 1), 1, none⟩ = some (.int .i64 tb) := Ht7.out.cellAt (i := 1) (by simp)
  have t_2 : W7.cell? ⟨(w.heap.size + 1), 2, none⟩ = some (.int .i64 tc) := Ht7.out.cellAt (i := 2) (by simp)
  go_wp2_with fail
  clear s_0 s_1 s_2 s_3 s_4 s_5 s_6 t_0 t_1 t_2
  refine (HJ2.out _).mono ?_
  rintro y w8 ⟨rfl, hb⟩
  have HB8 := Lib.hid (below_transG HB7.out hb)
  have Hs8 := Lib.hid (Hs7.out.keep hb Hs7.out.lt)
  have Ht8 := Lib.hid (Ht7.out.keep hb Ht7.out.lt)
  have Hx8 := Lib.hid (Hx7.out.keep hb Hx7.out.lt)
  have Hl8 := Lib.hid (Hl7.out.keep hb Hl7.out.lt)
  have Hm8 := Lib.hid (Hm7.out.keep hb Hm7.out.lt)
  have Hj8 := Lib.hid (Hj7.out.keep hb Hj7.out.lt)
  clear hb
  go_upto_region 5 with fail
  obtain ⟨W9, hW9⟩ : ∃ W, W = (w8.alloc (.cells #[.int .i64 j0, .int .i64 j1, .int .i64 j2, .int .i64 j3] 39)) := ⟨_, rfl⟩
  have hbel_ : Below w.heap.size w W9 := by rw [hW9]; exact (HB8.out.alloc HB8.out.size _)
  have h_s : Blk W9 w.heap.size 30 [.int .i64 s.i, .int .i64 s.n, .int .i64 s.c, .int .i64 s.p, .int .i64 s.d, .int .i64 s.s, .int .i64 s.b] := by rw [hW9]; exact Hs8.out.keep ((Below.refl w8.heap.size w8).alloc (Nat.le_refl _) _) Hs8.out.lt
  have h_t : Blk W9 (w.heap.size + 1) 37 [.int .i64 ta, .int .i64 tb, .int .i64 tc] := by rw [hW9]; exact Ht8.out.keep ((Below.refl w8.heap.size w8).alloc (Nat.le_refl _) _) Ht8.out.lt
  have h_x : Blk W9 (w.heap.size + 2) 40 [.int .i64 ja, .int .i64 ra, .int .i64 ea, .int .i64 ka, .int .i64 jb, .int .i64 rb, .int .i64 eb, .int .i64 kb] := by rw [hW9]; exact Hx8.out.keep ((Below.refl w8.heap.size w8).alloc (Nat.le_refl _) _) Hx8.out.lt
  have h_l : Blk W9 w2.heap.size 42 [.int .i64 l0, .int .i64 l1, .int .i64 l2, .int .i64 l3] := by rw [hW9]; exact Hl8.out.keep ((Below.refl w8.heap.size w8).alloc (Nat.le_refl _) _) Hl8.out.lt
  have h_m : Blk W9 w4.heap.size 42 [.int .i64 l0, .int .i64 l1, .int .i64 l2, .int .i64 l3] := by rw [hW9]; exact Hm8.out.keep ((Below.refl w8.heap.size w8).alloc (Nat.le_refl _) _) Hm8.out.lt
  have h_j : Blk W9 w6.heap.size 39 [.int .i64 j0, .int .i64 j1, .int .i64 j2, .int .i64 j3] := by rw [hW9]; exact Hj8.out.keep ((Below.refl w8.heap.size w8).alloc (Nat.le_refl _) _) Hj8.out.lt
  have h_k : Blk W9 w8.heap.size 39 [.int .i64 j0, .int .i64 j1, .int .i64 j2, .int .i64 j3] := by rw [hW9]; exact (blk_at (w8) w8.heap.size (by rfl) 39 [.int .i64 j0, .int .i64 j1, .int .i64 j2, .int .i64 j3]).keep (Below.refl (w8.heap.size + 1) _) (by omega)
  rw [← hW9]
  have HB9 := Lib.hid hbel_
  have Hs9 := Lib.hid h_s
  have Ht9 := Lib.hid h_t
  have Hx9 := Lib.hid h_x
  have Hl9 := Lib.hid h_l
  have Hm9 := Lib.hid h_m
  have Hj9 := Lib.hid h_j
  have Hk9 := Lib.hid h_k
  clear hbel_ hW9 h_s h_t h_x h_l h_m h_j h_k
  have HZ := Lib.hid (show ∀ x, Below W9.heap.size W9 x → Below W9.heap.size W9 x ∧ x.cell? ⟨w.heap.size, 0, none⟩ = some (.int .i64 s.i) ∧ x.cell? ⟨w.heap.size, 1, none⟩ = some (.int .i64 s.n) ∧ x.cell? ⟨w.heap.size, 2, none⟩ = some (.int .i64 s.c) ∧ x.cell? ⟨w.heap.size, 3, none⟩ = some (.int .i64 s.p) ∧ x.cell? ⟨w.heap.size, 4, none⟩ = some (.int .i64 s.d) ∧ x.cell? ⟨w.heap.size, 5, none⟩ = some (.int .i64 s.s) ∧ x.cell? ⟨w.heap.size, 6, none⟩ = some (.int .i64 s.b) ∧ x.cell? ⟨(w.heap.size + 2), 0, none⟩ = some (.int .i64 ja) ∧ x.cell? ⟨(w.heap.size + 2), 1, none⟩ = some (.int .i64 ra) ∧ x.cell? ⟨(w.heap.size + 2), 2, none⟩ = some (.int .i64 ea) ∧ x.cell? ⟨(w.heap.size + 2), 3, none⟩ = some (.int .i64 ka) ∧ x.cell? ⟨(w.heap.size + 2), 4, none⟩ = some (.int .i64 jb) ∧ x.cell? ⟨(w.heap.size + 2), 5, none⟩ = some (.int .i64 rb) ∧ x.cell? ⟨(w.heap.size + 2), 6, none⟩ = some (.int .i64 eb) ∧ x.cell? ⟨(w.heap.size + 2), 7, none⟩ = some (.int .i64 kb) ∧ x.cell? ⟨w2.heap.size, 0, none⟩ = some (.int .i64 l0) ∧ x.cell? ⟨w2.heap.size, 1, none⟩ = some (.int .i64 l1) ∧ x.cell? ⟨w2.heap.size, 2, none⟩ = some (.int .i64 l2) ∧ x.cell? ⟨w2.heap.size, 3, none⟩ = some (.int .i64 l3) ∧ x.cell? ⟨w4.heap.size, 0, none⟩ = some (.int .i64 l0) ∧ x.cell? ⟨w4.heap.size, 1, none⟩ = some (.int .i64 l1) ∧ x.cell? ⟨w4.heap.size, 2, none⟩ = some (.int .i64 l2) ∧ x.cell? ⟨w4.heap.size, 3, none⟩ = some (.int .i64 l3) ∧ x.cell? ⟨w6.heap.size, 0, none⟩ = some (.int .i64 j0) ∧ x.cell? ⟨w6.heap.size, 1, none⟩ = some (.int .i64 j1) ∧ x.cell? ⟨w6.heap.size, 2, none⟩ = some (.int .i64 j2) ∧ x.cell? ⟨w6.heap.size, 3, none⟩ = some (.int .i64 j3) ∧ x.cell? ⟨w8.heap.size, 0, none⟩ = some (.int .i64 j0) ∧ x.cell? ⟨w8.heap.size, 1, none⟩ = some (.int .i64 j1) ∧ x.cell? ⟨w8.heap.size, 2, none⟩ = some (.int .i64 j2) ∧ x.cell? ⟨w8.heap.size, 3, none⟩ = some (.int .i64 j3) from fun x hx => ⟨hx, (Hs9.out.keep hx Hs9.out.lt).cellAt (i := 0) (by simp), (Hs9.out.keep hx Hs9.out.lt).cellAt (i := 1) (by simp), (Hs9.out.keep hx Hs9.out.lt).cellAt (i := 2) (by simp), (Hs9.out.keep hx Hs9.out.lt).cellAt (i := 3) (by simp), (Hs9.out.keep hx Hs9.out.lt).cellAt (i := 4) (by simp), (Hs9.out.keep hx Hs9.out.lt).cellAt (i := 5) (by simp), (Hs9.out.keep hx Hs9.out.lt).cellAt (i := 6) (by simp), (Hx9.out.keep hx Hx9.out.lt).cellAt (i := 0) (by simp), (Hx9.out.keep hx Hx9.out.lt).cellAt (i := 1) (by simp), (Hx9.out.keep hx Hx9.out.lt).cellAt (i := 2) (by simp), (Hx9.out.keep hx Hx9.out.lt).cellAt (i := 3) (by simp), (Hx9.out.keep hx Hx9.out.lt).cellAt (i := 4) (by simp), (Hx9.out.keep hx Hx9.out.lt).cellAt (i := 5) (by simp), (Hx9.out.keep hx Hx9.out.lt).cellAt (i := 6) (by simp), (Hx9.out.keep hx Hx9.out.lt).cellAt (i := 7) (by simp), (Hl9.out.keep hx Hl9.out.lt).cellAt (i := 0) (by simp), (Hl9.out.keep hx Hl9.out.lt).cellAt (i := 1) (by simp), (Hl9.out.keep hx Hl9.out.lt).cellAt (i := 2) (by simp), (Hl9.out.keep hx Hl9.out.lt).cellAt (i := 3) (by simp), (Hm9.out.keep hx Hm9.out.lt).cellAt (i := 0) (by simp), (Hm9.out.keep hx Hm9.out.lt).cellAt (i := 1) (by simp), (Hm9.out.keep hx Hm9.out.lt).cellAt (i := 2) (by simp), (Hm9.out.keep hx Hm9.out.lt).cellAt (i := 3) (by simp), (Hj9.out.keep hx Hj9.out.lt).cellAt (i := 0) (by simp), (Hj9.out.keep hx Hj9.out.lt).cellAt (i := 1) (by simp), (Hj9.out.keep hx Hj9.out.lt).cellAt (i := 2) (by simp), (Hj9.out.keep hx Hj9.out.lt).cellAt (i := 3) (by simp), (Hk9.out.keep hx Hk9.out.lt).cellAt (i := 0) (by simp), (Hk9.out.keep hx Hk9.out.lt).cellAt (i := 1) (by simp), (Hk9.out.keep hx Hk9.out.lt).cellAt (i := 2) (by simp), (Hk9.out.keep hx Hk9.out.lt).cellAt (i := 3) (by simp)⟩)
  refine wp_region_class (C := fun x => Below W9.heap.size W9 x ∧ x.cell? ⟨w.heap.size, 0, none⟩ = some (.int .i64 s.i) ∧ x.cell? ⟨w.heap.size, 1, none⟩ = some (.int .i64 s.n) ∧ x.cell? ⟨w.heap.size, 2, none⟩ = some (.int .i64 s.c) ∧ x.cell? ⟨w.heap.size, 3, none⟩ = some (.int .i64 s.p) ∧ x.cell? ⟨w.heap.size, 4, none⟩ = some (.int .i64 s.d) ∧ x.cell? ⟨w.heap.size, 5, none⟩ = some (.int .i64 s.s) ∧ x.cell? ⟨w.heap.size, 6, none⟩ = some (.int .i64 s.b) ∧ x.cell? ⟨(w.heap.size + 2), 0, none⟩ = some (.int .i64 ja) ∧ x.cell? ⟨(w.heap.size + 2), 1, none⟩ = some (.int .i64 ra) ∧ x.cell? ⟨(w.heap.size + 2), 2, none⟩ = some (.int .i64 ea) ∧ x.cell? ⟨(w.heap.size + 2), 3, none⟩ = some (.int .i64 ka) ∧ x.cell? ⟨(w.heap.size + 2), 4, none⟩ = some (.int .i64 jb) ∧ x.cell? ⟨(w.heap.size + 2), 5, none⟩ = some (.int .i64 rb) ∧ x.cell? ⟨(w.heap.size + 2), 6, none⟩ = some (.int .i64 eb) ∧ x.cell? ⟨(w.heap.size + 2), 7, none⟩ = some (.int .i64 kb) ∧ x.cell? ⟨w2.heap.size, 0, none⟩ = some (.int .i64 l0) ∧ x.cell? ⟨w2.heap.size, 1, none⟩ = some (.int .i64 l1) ∧ x.cell? ⟨w2.heap.size, 2, none⟩ = some (.int .i64 l2) ∧ x.cell? ⟨w2.heap.size, 3, none⟩ = some (.int .i64 l3) ∧ x.cell? ⟨w4.heap.size, 0, none⟩ = some (.int .i64 l0) ∧ x.cell? ⟨w4.heap.size, 1, none⟩ = some (.int .i64 l1) ∧ x.cell? ⟨w4.heap.size, 2, none⟩ = some (.int .i64 l2) ∧ x.cell? ⟨w4.heap.size, 3, none⟩ = some (.int .i64 l3) ∧ x.cell? ⟨w6.heap.size, 0, none⟩ = some (.int .i64 j0) ∧ x.cell? ⟨w6.heap.size, 1, none⟩ = some (.int .i64 j1) ∧ x.cell? ⟨w6.heap.size, 2, none⟩ = some (.int .i64 j2) ∧ x.cell? ⟨w6.heap.size, 3, none⟩ = some (.int .i64 j3) ∧ x.cell? ⟨w8.heap.size, 0, none⟩ = some (.int .i64 j0) ∧ x.cell? ⟨w8.heap.size, 1, none⟩ = some (.int .i64 j1) ∧ x.cell? ⟨w8.heap.size, 2, none⟩ = some (.int .i64 j2) ∧ x.cell? ⟨w8.heap.size, 3, none⟩ = some (.int .i64 j3)) (by kernel_rfl) (by kernel_rfl) (HZ.out _ (Below.refl _ _).drew) ?_
  repeat
    with_reducible refine wpQuiet_step (fun K hK => ?_)
    first
      | (refine quiet_skip (by rfl) ?_; (with_reducible refine hK _ ?_); clear hK K)
      | (refine quiet_want (by rfl) ?_
         apply Exists.intro
         refine ⟨fun x hx => ?_, hK _ ?_⟩
         (obtain ⟨_, hx1, hx2, hx3, hx4, hx5, hx6, hx7, hx8, hx9, hx10, hx11, hx12, hx13, hx14, hx15, hx16, hx17, hx18, hx19, hx20, hx21, hx22, hx23, hx24, hx25, hx26, hx27, hx28, hx29, hx30, hx31⟩ := id hx; go_simp; first | done | rfl | (first | (go_at_call 14; with_reducible exact Calls.mono (HLV.out _ (HTX.out _ (below_transG HB9.out hx.1)).1 (HTX.out _ (below_transG HB9.out hx.1)).2) (fun y w' hh => ⟨hh.1, HZ.out _ (below_transG hx.1 hh.2)⟩)) | (go_at_call 32; with_reducible exact Calls.mono (HF1.out _ (HTX.out _ (below_transG HB9.out hx.1)).1 (HTX.out _ (below_transG HB9.out hx.1)).2) (fun y w' hh => ⟨hh.1, HZ.out _ (below_transG hx.1 hh.2)⟩)) | (go_at_call 33; with_reducible exact Calls.mono (HF2.out _) (fun y w' hh => ⟨hh.1, HZ.out _ (below_transG hx.1 hh.2)⟩))))
         clear hK K)
    try simp only [Act.put, List.setIfInBounds_toArray, List.set_cons_zero, List.set_cons_succ]
  with_reducible refine wpQuiet_nil ?_
  intro wq hq
  have HB10 := Lib.hid (below_transG HB9.out hq.1)
  have Hs10 := Lib.hid (Hs9.out.keep hq.1 Hs9.out.lt)
  have Hx10 := Lib.hid (Hx9.out.keep hq.1 Hx9.out.lt)
  have Hl10 := Lib.hid (Hl9.out.keep hq.1 Hl9.out.lt)
  have Hm10 := Lib.hid (Hm9.out.keep hq.1 Hm9.out.lt)
  have Hj10 := Lib.hid (Hj9.out.keep hq.1 Hj9.out.lt)
  have Hk10 := Lib.hid (Hk9.out.keep hq.1 Hk9.out.lt)
  obtain ⟨W10, hW10⟩ : ∃ W, W = wq := ⟨_, rfl⟩
  rw [← hW10]
  rw [← hW10] at HB10
  rw [← hW10] at Hs10
  rw [← hW10] at Hx10
  rw [← hW10] at Hl10
  rw [← hW10] at Hm10
  rw [← hW10] at Hj10
  rw [← hW10] at Hk10
  clear hq HZ hW10
  go_wp2_with fail
  go_ret
  exact ⟨rfl, HB10.out⟩
theorem door_met (os : Os) (args : Array Value) : laidMetH Tryd.prog laidD ((World.doorLaid Tryd.prog 400 os).forCall (fun _ _ => 0) ⟨#[], args, []⟩).memory :=
  laidMetH_of_parts3 (fuel := 8) (laidMet_of_run' 8 (by kernel_rfl) (by kernel_rfl)) (by kernel_rfl) (by kernel_rfl)
set_option maxRecDepth 100000 in
theorem lifted (os : Os) (started : os.Started) (H : Type) (enc : TypeId × Value → H) :
    ReturnsInHanded {} Tryd.checked os 4 .any (fun w args => (Rows.streamJobsSpec.pre enc Tryd.prog Tryd.f4 [] false w args ∧ laidMetH Tryd.prog laidD w) ∧ sizedMet enc Tryd.prog Tryd.f4 (OpenSpec.ofChange Rows.streamJobsSpec) false w args)
      (Rows.streamJobsSpec.post enc Tryd.prog Tryd.f4 false true false false) := by
  refine returnsInHanded_of_change_and (C := Tryd.checked) (X := fun w _ => laidMetH Tryd.prog laidD w) (fun _ _ _ hh h => h.of_heap hh) own started (by kernel_rfl) Tryd.func4
    (ChangeSpec.witness_shaped (enc := enc) (C := Tryd.checked) (os := os) (X := fun w _ => laidMetH Tryd.prog laidD w) false (World.doorLaid Tryd.prog 400 os) #[.agg #[.int .i64 0, .int .i64 0, .int .i64 0, .int .i64 0, .int .i64 0, .int .i64 0, .int .i64 0], .agg #[.int .i64 0, .int .i64 0, .int .i64 0], .agg #[.int .i64 0, .int .i64 0, .int .i64 0, .int .i64 0, .int .i64 0, .int .i64 0, .int .i64 0, .int .i64 0]] 8 rfl (World.shaped_of_RefB (by kernel_rfl) (by kernel_rfl)) (by kernel_rfl) (by kernel_rfl) (by kernel_rfl) (door_met os _)) ?_
  intro W base args ds gs before hval0 hW _ _ hL _
  have hval : ∀ (j : Nat) t v, Tryd.f4.params[j]? = some t → args[j]? = some v → Value.okWide Tryd.prog W .any base t v := hval0
  have hW' := hW
  obtain ⟨p, q, hA0, hV, rfl, hfz, hnd⟩ := hW
  have hA : DataW.TrodAll enc Tryd.prog W 0 (fun _ => true) true Tryd.f4.params.toList args.toList ds p := hA0
  rw [Tryd.params4] at hA hval
  obtain ⟨v0, vs0, d0, ds0, p0, q0, hargs, rfl, rfl, h0, r0⟩ := trodAll_cons hA
  obtain ⟨v1, vs1, d1, ds1, p1, q1, rfl, rfl, rfl, h1, r1⟩ := trodAll_cons r0
  obtain ⟨v2, vs2, d2, ds2, p2, q2, rfl, rfl, rfl, h2, r2⟩ := trodAll_cons r1
  obtain ⟨rfl, rfl, rfl⟩ := trodAll_nil r2
  obtain rfl : args = #[v0, v1, v2] := by cases args; simp_all
  obtain ⟨rfl, rfl⟩ := trodVars_none hV
  have k0 := h0
  have lt0 : ∀ x ∈ p0, x.block < W.heap.size := by obtain ⟨m, hm⟩ := k0; exact DataW.trod_lt m _ _ _ hm
  obtain ⟨s0, rfl, ws0⟩ := open_stream (hval 0 30 v0 rfl rfl) h0
  have k1 := h1
  have lt1 : ∀ x ∈ p1, x.block < W.heap.size := by obtain ⟨m, hm⟩ := k1; exact DataW.trod_lt m _ _ _ hm
  obtain ⟨xa1, xb1, xc1, rfl, wa1, wb1, wc1⟩ := open_arr3i Tryd.underlying37 Tryd.underlying2 (by kernel_rfl) (by kernel_rfl) (hval 1 37 v1 rfl rfl) h1
  have k2 := h2
  have lt2 : ∀ x ∈ p2, x.block < W.heap.size := by obtain ⟨m, hm⟩ := k2; exact DataW.trod_lt m _ _ _ hm
  obtain ⟨ja2, ra2, ea2, ka2, jb2, rb2, eb2, kb2, rfl⟩ := open_jobs2 (hval 2 40 v2 rfl rfl) h2
  clear hA0 hval0
  obtain ⟨hTab, hsz0⟩ := tab_of_laid hL
  refine (walk s0 xa1 xb1 xc1 ja2 ra2 ea2 ka2 jb2 rb2 eb2 kb2 ws0 wa1 wb1 wc1  W hsz0 hTab).mono fun e W' ⟨he, bel⟩ => ?_
  subst he
  exact ⟨_, rfl, _, _, _, [], _, [], hW', trodAll_mk1 (shut_bool Tryd.underlying4 _), (trodAll_cons_mk (Below.trod laidOut (by kernel_rfl) (of_decide_eq_true (by kernel_rfl)) k0 bel lt0) (trodAll_cons_mk (Below.trod laidOut (by kernel_rfl) (of_decide_eq_true (by kernel_rfl)) k1 bel lt1) (trodAll_cons_mk (Below.trod laidOut (by kernel_rfl) (of_decide_eq_true (by kernel_rfl)) k2 bel lt2) trodAll_mk0))), rfl, bel.frame _, fun h => by cases h⟩
theorem over : Rows.streamJobsRow.holds Tryd.pinned (OpenSpec.ofChange Rows.streamJobsSpec) :=
  OpenClaim.holds_of_wide 4 Tryd.f4 rfl rfl rfl rfl rfl rfl rfl ⟨rfl, rfl, rfl, rfl, rfl⟩ rfl rfl rfl rfl rfl (by kernel_rfl) Tryd.func4 (by kernel_rfl)
    (of_decide_eq_true (by kernel_rfl)) (by unfold Func.isWrapper; first | (rw [if_pos (by decide +kernel)]; kernel_rfl) | (rw [if_neg (by decide +kernel)]; exact ⟨rfl, rfl⟩))
    (fun os started H enc _ => lifted os started H enc)
/-- The statement: the row, and what it lists tied to the program's text. -/
theorem proved : Rows.StreamJobsCardSaid :=
  Claim7.holds_tied_plain_at .later [] [.data] true _ false
    over (fun _ h => by cases h) (by kernel_rfl) (fun _ h => by cases h) streamJobs_row_tie rfl ⟨rfl, rfl⟩ (by kernel_rfl) rfl
    (fun f fn hf hfn => by
      obtain rfl : f = 4 := Option.some.inj ((show Tryd.prog.funcNamed "bellbuoy/bellbuoylaw25.StreamJobs" = some 4 by kernel_rfl).symm.trans hf) |>.symm
      obtain rfl : fn = Tryd.f4 := (Option.some.inj (Tryd.func4.symm.trans hfn)).symm
      exact ⟨by kernel_rfl, fun j t ht => by
        rw [Tryd.params4] at ht
        have hm : t ∈ [30, 37, 40] := by simpa using Array.mem_of_getElem? ht
        have hall : ([30, 37, 40].all fun u => !Tryd.prog.wantsStandIn u) = true := by kernel_rfl
        exact (show Tryd.prog.wantsStandIn t = false by simpa using List.all_eq_true.1 hall t hm)⟩)
    (by kernel_rfl)
end Go.Proofs.YtcfkbadpoefajaaDoor.streamJobs
