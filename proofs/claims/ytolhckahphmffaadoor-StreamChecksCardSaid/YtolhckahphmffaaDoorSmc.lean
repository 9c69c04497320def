/- Package stream, and the document's own answers of layer 25: whether one job may come behind another one. Conditions: numbers are such as their kinds hold, and the table of the divisor. -/
import Derived.Test.YtolhckahphmffaaDoorSmb
namespace Go.Proofs.YtolhckahphmffaaDoor
open Go.RowKit
/-- What a stream's job at some release is, if there is one. -/
def jobOk (i n c p d s b r : Int) : Prop := rightS i n c p d s b = 0 ∧ inS r 0 1125899906842624 = true
theorem jobV_ok {i n c p d s b r : Int} (h : jobOk i n c p d s b r) : jobV i n c p d s b r = .tuple #[.agg #[.int .i64 i, .int .i64 r, .int .i64 (r + d), .int .i64 (costS i n c p d s b)], .int .i64 0] := by
  unfold jobV; rw [if_pos h.1, if_pos h.2]
theorem jobV_no {i n c p d s b r : Int} (h : ¬ jobOk i n c p d s b r) : ∃ e : Int, e ≠ 0 ∧ jobV i n c p d s b r = .tuple #[.agg #[.int .i64 0, .int .i64 0, .int .i64 0, .int .i64 0], .int .i64 e] := by
  unfold jobV
  by_cases h1 : rightS i n c p d s b = 0
  · rw [if_pos h1, if_neg (fun h2 => h ⟨h1, h2⟩)]; exact ⟨1, by decide, rfl⟩
  · rw [if_neg h1]; exact ⟨_, h1, rfl⟩
/-- Is a job a stream's? -/
def hasB (i n c p d s b j r e k : Int) : Bool := decide (rightS i n c p d s b = 0 ∧ inS r 0 1125899906842624 = true ∧ j = i ∧ e = r + d ∧ k = costS i n c p d s b)
theorem hasB_cases (i n c p d s b j r e k : Int) : (¬ jobOk i n c p d s b r ∧ hasB i n c p d s b j r e k = false) ∨ (jobOk i n c p d s b r ∧ ((j ≠ i ∧ hasB i n c p d s b j r e k = false) ∨ (j = i ∧ e ≠ r + d ∧ hasB i n c p d s b j r e k = false) ∨ (j = i ∧ e = r + d ∧ k ≠ costS i n c p d s b ∧ hasB i n c p d s b j r e k = false) ∨ (j = i ∧ e = r + d ∧ k = costS i n c p d s b ∧ hasB i n c p d s b j r e k = true))) := by
  unfold hasB jobOk
  by_cases h : rightS i n c p d s b = 0 ∧ inS r 0 1125899906842624 = true
  · refine .inr ⟨h, ?_⟩
    simp only [h.1, h.2, true_and, decide_eq_false_iff_not, decide_eq_true_eq]
    by_cases h1 : j = i
    · by_cases h2 : e = r + d
      · by_cases h3 : k = costS i n c p d s b
        · exact .inr (.inr (.inr ⟨h1, h2, h3, h1, h2, h3⟩))
        · exact .inr (.inr (.inl ⟨h1, h2, h3, fun x => h3 x.2.2⟩))
      · exact .inr (.inl ⟨h1, h2, fun x => h2 x.2.1⟩)
    · exact .inl ⟨h1, fun x => h1 x.1⟩
  · exact .inl ⟨h, decide_eq_false (fun x => h ⟨x.1, x.2.1⟩)⟩
theorem hasB_r {i n c p d s b j r e k : Int} (h : hasB i n c p d s b j r e k = true) : 0 ≤ r ∧ r ≤ 1125899906842624 ∧ 1 ≤ p ∧ p ≤ 1073741824 := by
  unfold hasB at h
  obtain ⟨h1, h2, _⟩ := of_decide_eq_true h
  have h3 := rightS_d h1
  unfold inS at h2
  have h4 := of_decide_eq_true h2
  omega
/-- May one job come behind another one? -/
def folB (i n c p d s b ja ra ea ka jb rb eb kb : Int) : Bool := hasB i n c p d s b ja ra ea ka && (hasB i n c p d s b jb rb eb kb && decide (p ≤ rb - ra))
set_option maxRecDepth 100000 in
set_option maxHeartbeats 4000000 in
theorem shas_any (i n c p d s b ja ra ea ka : Int) (w : World) (h0 : 0 < w.heap.size) (hT : Tab w) : Calls Tryd.prog 64 #[.agg #[.int .i64 i, .int .i64 n, .int .i64 c, .int .i64 p, .int .i64 d, .int .i64 s, .int .i64 b], .agg #[.int .i64 ja, .int .i64 ra, .int .i64 ea, .int .i64 ka]] w fun y w' => y = .returned (.bool (hasB i n c p d s b ja ra ea ka)) ∧ Below w.heap.size w w' := by
  have HTX := Lib.hid (show ∀ x, Below w.heap.size w x → 0 < x.heap.size ∧ Tab x from fun x hx => ⟨Nat.lt_of_lt_of_le h0 hx.size, hT.on hx h0⟩)
  have HJ := Lib.hid (fun u a1 a2 => sjob_any i n c p d s b ra u a1 a2)
  have hc := hasB_cases i n c p d s b ja ra ea ka
  clear h0 hT
  rcases hc with ⟨h, e1⟩ | ⟨h, hc⟩
  · rw [e1]
    obtain ⟨e, he, hv⟩ := jobV_no h
    rw [hv] at HJ
    have k0 : (e == 0) = false := by rw [beq_eq_false_iff_ne]; exact he
    clear h e1 he hv
    go_enter Tryd.func64, Tryd.ntmps64
    go_upto_region 1 with fail
    obtain ⟨W1, hW1⟩ : ∃ W, W = ((w.alloc (.cells #[.int .i64 i, .int .i64 n, .int .i64 c, .int .i64 p, .int .i64 d, .int .i64 s, .int .i64 b] 30)).alloc (.cells #[.int .i64 ja, .int .i64 ra, .int .i64 ea, .int .i64 ka] 55)) := ⟨_, rfl⟩
    have hbel_ : Below w.heap.size w W1 := by rw [hW1]; exact (((Below.refl w.heap.size w).alloc (Nat.le_refl w.heap.size) _).alloc (by have := (Nat.le_refl w.heap.size); simp only [World.size_alloc]; omega) _)
    have h_x : Blk W1 w.heap.size 30 [.int .i64 i, .int .i64 n, .int .i64 c, .int .i64 p, .int .i64 d, .int .i64 s, .int .i64 b] := by rw [hW1]; exact (blk_at (w) w.heap.size (by rfl) 30 [.int .i64 i, .int .i64 n, .int .i64 c, .int .i64 p, .int .i64 d, .int .i64 s, .int .i64 b]).keep ((Below.refl (w.heap.size + 1) _).alloc (by simp only [World.size_alloc]; omega) _) (by omega)
    have h_j : Blk W1 (w.heap.size + 1) 55 [.int .i64 ja, .int .i64 ra, .int .i64 ea, .int .i64 ka] := by rw [hW1]; exact (blk_at ((w.alloc (.cells #[.int .i64 i, .int .i64 n, .int .i64 c, .int .i64 p, .int .i64 d, .int .i64 s, .int .i64 b] 30))) (w.heap.size + 1) (by simp only [World.size_alloc]) 55 [.int .i64 ja, .int .i64 ra, .int .i64 ea, .int .i64 ka]).keep (Below.refl ((w.heap.size + 1) + 1) _) (by omega)
    rw [← hW1]
    have HB1 := Lib.hid hbel_
    have Hx1 := Lib.hid h_x
    have Hj1 := Lib.hid h_j
    clear hbel_ hW1  h_x h_j
    have x_0 : W1.cell? ⟨w.heap.size, 0, none⟩ = some (.int .i64 i) := Hx1.out.cellAt (i := 0) (by simp)
    have x_1 : W1.cell? ⟨w.heap.size, 1, none⟩ = some (.int .i64 n) := Hx1.out.cellAt (i := 1) (by simp)
    have x_2 : W1.cell? ⟨w.heap.size, 2, none⟩ = some (.int .i64 c) := Hx1.out.cellAt (i := 2) (by simp)
    have x_3 : W1.cell? ⟨w.heap.size, 3, none⟩ = some (.int .i64 p) := Hx1.out.cellAt (i := 3) (by simp)
    have x_4 : W1.cell? ⟨w.heap.size, 4, none⟩ = some (.int .i64 d) := Hx1.out.cellAt (i := 4) (by simp)
    have x_5 : W1.cell? ⟨w.heap.size, 5, none⟩ = some (.int .i64 s) := Hx1.out.cellAt (i := 5) (by simp)
    have x_6 : W1.cell? ⟨w.heap.size, 6, none⟩ = some (.int .i64 b) := Hx1.out.cellAt (i := 6) (by simp)
    have j_0 : W1.cell? ⟨(w.heap.size + 1), 0, none⟩ = some (.int .i64 ja) := Hj1.out.cellAt (i := 0) (by simp)
    have j_1 : W1.cell? ⟨(w.heap.size + 1), 1, none⟩ = some (.int .i64 ra) := Hj1.out.cellAt (i := 1) (by simp)
    have j_2 : W1.cell? ⟨(w.heap.size + 1), 2, none⟩ = some (.int .i64 ea) := Hj1.out.cellAt (i := 2) (by simp)
    have j_3 : W1.cell? ⟨(w.heap.size + 1), 3, none⟩ = some (.int .i64 ka) := Hj1.out.cellAt (i := 3) (by simp)
    go_wp2_with fail
    clear x_0 x_1 x_2 x_3 x_4 x_5 x_6 j_0 j_1 j_2 j_3
    refine (HJ.out _ (HTX.out _ HB1.out).1 (HTX.out _ HB1.out).2).mono ?_
    rintro y w2 ⟨rfl, hb⟩
    have HB2 := Lib.hid (below_transG HB1.out hb)
    have Hx2 := Lib.hid (Hx1.out.keep hb Hx1.out.lt)
    have Hj2 := Lib.hid (Hj1.out.keep hb Hj1.out.lt)
    clear hb
    go_upto_region 2 with fail
    obtain ⟨W3, hW3⟩ : ∃ W, W = (w2.alloc (.cells #[.int .i64 0, .int .i64 0, .int .i64 0, .int .i64 0] 55)) := ⟨_, rfl⟩
    have hbel_ : Below w.heap.size w W3 := by rw [hW3]; exact (HB2.out.alloc HB2.out.size _)
    have h_x : Blk W3 w.heap.size 30 [.int .i64 i, .int .i64 n, .int .i64 c, .int .i64 p, .int .i64 d, .int .i64 s, .int .i64 b] := by rw [hW3]; exact Hx2.out.keep ((Below.refl w2.heap.size w2).alloc (Nat.le_refl _) _) Hx2.out.lt
    have h_j : Blk W3 (w.heap.size + 1) 55 [.int .i64 ja, .int .i64 ra, .int .i64 ea, .int .i64 ka] := by rw [hW3]; exact Hj2.out.keep ((Below.refl w2.heap.size w2).alloc (Nat.le_refl _) _) Hj2.out.lt
    have h_o : Blk W3 w2.heap.size 55 [.int .i64 0, .int .i64 0, .int .i64 0, .int .i64 0] := by rw [hW3]; exact (blk_at (w2) w2.heap.size (by rfl) 55 [.int .i64 0, .int .i64 0, .int .i64 0, .int .i64 0]).keep (Below.refl (w2.heap.size + 1) _) (by omega)
    rw [← hW3]
    have HB3 := Lib.hid hbel_
    have Hx3 := Lib.hid h_x
    have Hj3 := Lib.hid h_j
    have Ho3 := Lib.hid h_o
    clear hbel_ hW3 h_x h_j h_o
    have j_0 : W3.cell? ⟨(w.heap.size + 1), 0, none⟩ = some (.int .i64 ja) := Hj3.out.cellAt (i := 0) (by simp)
    have j_1 : W3.cell? ⟨(w.heap.size + 1), 1, none⟩ = some (.int .i64 ra) := Hj3.out.cellAt (i := 1) (by simp)
    have j_2 : W3.cell? ⟨(w.heap.size + 1), 2, none⟩ = some (.int .i64 ea) := Hj3.out.cellAt (i := 2) (by simp)
    have j_3 : W3.cell? ⟨(w.heap.size + 1), 3, none⟩ = some (.int .i64 ka) := Hj3.out.cellAt (i := 3) (by simp)
    have o_0 : W3.cell? ⟨w2.heap.size, 0, none⟩ = some (.int .i64 0) := Ho3.out.cellAt (i := 0) (by simp)
    have o_1 : W3.cell? ⟨w2.heap.size, 1, none⟩ = some (.int .i64 0) := Ho3.out.cellAt (i := 1) (by simp)
    have o_2 : W3.cell? ⟨w2.heap.size, 2, none⟩ = some (.int .i64 0) := Ho3.out.cellAt (i := 2) (by simp)
    have o_3 : W3.cell? ⟨w2.heap.size, 3, none⟩ = some (.int .i64 0) := Ho3.out.cellAt (i := 3) (by simp)
    go_wp2_with fail
    go_ret
    exact ⟨rfl, HB3.out⟩
  rw [jobV_ok h] at HJ
  obtain ⟨rd, hrd⟩ : ∃ z, z = ra + d := ⟨_, rfl⟩
  obtain ⟨cc, hcc⟩ : ∃ z, z = costS i n c p d s b := ⟨_, rfl⟩
  rw [← hrd, ← hcc] at HJ hc
  clear h hrd hcc
  have q0 : (ra == ra) = true := by simp
  rcases hc with ⟨h1, e1⟩ | ⟨rfl, h1, e1⟩ | ⟨rfl, rfl, h1, e1⟩ | ⟨rfl, rfl, rfl, e1⟩
  · rw [e1]; clear e1
    have q1 : (ja == i) = false := by rw [beq_eq_false_iff_ne]; exact h1
    clear h1
    go_enter Tryd.func64, Tryd.ntmps64
    go_upto_region 1 with fail
    obtain ⟨W1, hW1⟩ : ∃ W, W = ((w.alloc (.cells #[.int .i64 i, .int .i64 n, .int .i64 c, .int .i64 p, .int .i64 d, .int .i64 s, .int .i64 b] 30)).alloc (.cells #[.int .i64 ja, .int .i64 ra, .int .i64 ea, .int .i64 ka] 55)) := ⟨_, rfl⟩
    have hbel_ : Below w.heap.size w W1 := by rw [hW1]; exact (((Below.refl w.heap.size w).alloc (Nat.le_refl w.heap.size) _).alloc (by have := (Nat.le_refl w.heap.size); simp only [World.size_alloc]; omega) _)
    have h_x : Blk W1 w.heap.size 30 [.int .i64 i, .int .i64 n, .int .i64 c, .int .i64 p, .int .i64 d, .int .i64 s, .int .i64 b] := by rw [hW1]; exact (blk_at (w) w.heap.size (by rfl) 30 [.int .i64 i, .int .i64 n, .int .i64 c, .int .i64 p, .int .i64 d, .int .i64 s, .int .i64 b]).keep ((Below.refl (w.heap.size + 1) _).alloc (by simp only [World.size_alloc]; omega) _) (by omega)
    have h_j : Blk W1 (w.heap.size + 1) 55 [.int .i64 ja, .int .i64 ra, .int .i64 ea, .int .i64 ka] := by rw [hW1]; exact (blk_at ((w.alloc (.cells #[.int .i64 i, .int .i64 n, .int .i64 c, .int .i64 p, .int .i64 d, .int .i64 s, .int .i64 b] 30))) (w.heap.size + 1) (by simp only [World.size_alloc]) 55 [.int .i64 ja, .int .i64 ra, .int .i64 ea, .int .i64 ka]).keep (Below.refl ((w.heap.size + 1) + 1) _) (by omega)
    rw [← hW1]
    have HB1 := Lib.hid hbel_
    have Hx1 := Lib.hid h_x
    have Hj1 := Lib.hid h_j
    clear hbel_ hW1  h_x h_j
    have x_0 : W1.cell? ⟨w.heap.size, 0, none⟩ = some (.int .i64 i) := Hx1.out.cellAt (i := 0) (by simp)
    have x_1 : W1.cell? ⟨w.heap.size, 1, none⟩ = some (.int .i64 n) := Hx1.out.cellAt (i := 1) (by simp)
    have x_2 : W1.cell? ⟨w.heap.size, 2, none⟩ = some (.int .i64 c) := Hx1.out.cellAt (i := 2) (by simp)
    have x_3 : W1.cell? ⟨w.heap.size, 3, none⟩ = some (.int .i64 p) := Hx1.out.cellAt (i := 3) (by simp)
    have x_4 : W1.cell? ⟨w.heap.size, 4, none⟩ = some (.int .i64 d) := Hx1.out.cellAt (i := 4) (by simp)
    have x_5 : W1.cell? ⟨w.heap.size, 5, none⟩ = some (.int .i64 s) := Hx1.out.cellAt (i := 5) (by simp)
    have x_6 : W1.cell? ⟨w.heap.size, 6, none⟩ = some (.int .i64 b) := Hx1.out.cellAt (i := 6) (by simp)
    have j_0 : W1.cell? ⟨(w.heap.size + 1), 0, none⟩ = some (.int .i64 ja) := Hj1.out.cellAt (i := 0) (by simp)
    have j_1 : W1.cell? ⟨(w.heap.size + 1), 1, none⟩ = some (.int .i64 ra) := Hj1.out.cellAt (i := 1) (by simp)
    have j_2 : W1.cell? ⟨(w.heap.size + 1), 2, none⟩ = some (.int .i64 ea) := Hj1.out.cellAt (i := 2) (by simp)
    have j_3 : W1.cell? ⟨(w.heap.size + 1), 3, none⟩ = some (.int .i64 ka) := Hj1.out.cellAt (i := 3) (by simp)
    go_wp2_with fail
    clear x_0 x_1 x_2 x_3 x_4 x_5 x_6 j_0 j_1 j_2 j_3
    refine (HJ.out _ (HTX.out _ HB1.out).1 (HTX.out _ HB1.out).2).mono ?_
    rintro y w2 ⟨rfl, hb⟩
    have HB2 := Lib.hid (below_transG HB1.out hb)
    have Hx2 := Lib.hid (Hx1.out.keep hb Hx1.out.lt)
    have Hj2 := Lib.hid (Hj1.out.keep hb Hj1.out.lt)
    clear hb
    go_upto_region 2 with fail
    obtain ⟨W3, hW3⟩ : ∃ W, W = (w2.alloc (.cells #[.int .i64 i, .int .i64 ra, .int .i64 rd, .int .i64 cc] 55)) := ⟨_, rfl⟩
    have hbel_ : Below w.heap.size w W3 := by rw [hW3]; exact (HB2.out.alloc HB2.out.size _)
    have h_x : Blk W3 w.heap.size 30 [.int .i64 i, .int .i64 n, .int .i64 c, .int .i64 p, .int .i64 d, .int .i64 s, .int .i64 b] := by rw [hW3]; exact Hx2.out.keep ((Below.refl w2.heap.size w2).alloc (Nat.le_refl _) _) Hx2.out.lt
    have h_j : Blk W3 (w.heap.size + 1) 55 [.int .i64 ja, .int .i64 ra, .int .i64 ea, .int .i64 ka] := by rw [hW3]; exact Hj2.out.keep ((Below.refl w2.heap.size w2).alloc (Nat.le_refl _) _) Hj2.out.lt
    have h_o : Blk W3 w2.heap.size 55 [.int .i64 i, .int .i64 ra, .int .i64 rd, .int .i64 cc] := by rw [hW3]; exact (blk_at (w2) w2.heap.size (by rfl) 55 [.int .i64 i, .int .i64 ra, .int .i64 rd, .int .i64 cc]).keep (Below.refl (w2.heap.size + 1) _) (by omega)
    rw [← hW3]
    have HB3 := Lib.hid hbel_
    have Hx3 := Lib.hid h_x
    have Hj3 := Lib.hid h_j
    have Ho3 := Lib.hid h_o
    clear hbel_ hW3 h_x h_j h_o
    have j_0 : W3.cell? ⟨(w.heap.size + 1), 0, none⟩ = some (.int .i64 ja) := Hj3.out.cellAt (i := 0) (by simp)
    have j_1 : W3.cell? ⟨(w.heap.size + 1), 1, none⟩ = some (.int .i64 ra) := Hj3.out.cellAt (i := 1) (by simp)
    have j_2 : W3.cell? ⟨(w.heap.size + 1), 2, none⟩ = some (.int .i64 ea) := Hj3.out.cellAt (i := 2) (by simp)
    have j_3 : W3.cell? ⟨(w.heap.size + 1), 3, none⟩ = some (.int .i64 ka) := Hj3.out.cellAt (i := 3) (by simp)
    have o_0 : W3.cell? ⟨w2.heap.size, 0, none⟩ = some (.int .i64 i) := Ho3.out.cellAt (i := 0) (by simp)
    have o_1 : W3.cell? ⟨w2.heap.size, 1, none⟩ = some (.int .i64 ra) := Ho3.out.cellAt (i := 1) (by simp)
    have o_2 : W3.cell? ⟨w2.heap.size, 2, none⟩ = some (.int .i64 rd) := Ho3.out.cellAt (i := 2) (by simp)
    have o_3 : W3.cell? ⟨w2.heap.size, 3, none⟩ = some (.int .i64 cc) := Ho3.out.cellAt (i := 3) (by simp)
    go_wp2_with fail
    go_ret
    exact ⟨rfl, HB3.out⟩
  · rw [e1]; clear e1
    have q1 : (ja == ja) = true := by simp
    have q2 : (ea == rd) = false := by rw [beq_eq_false_iff_ne]; exact h1
    clear h1
    go_enter Tryd.func64, Tryd.ntmps64
    go_upto_region 1 with fail
    obtain ⟨W1, hW1⟩ : ∃ W, W = ((w.alloc (.cells #[.int .i64 ja, .int .i64 n, .int .i64 c, .int .i64 p, .int .i64 d, .int .i64 s, .int .i64 b] 30)).alloc (.cells #[.int .i64 ja, .int .i64 ra, .int .i64 ea, .int .i64 ka] 55)) := ⟨_, rfl⟩
    have hbel_ : Below w.heap.size w W1 := by rw [hW1]; exact (((Below.refl w.heap.size w).alloc (Nat.le_refl w.heap.size) _).alloc (by have := (Nat.le_refl w.heap.size); simp only [World.size_alloc]; omega) _)
    have h_x : Blk W1 w.heap.size 30 [.int .i64 ja, .int .i64 n, .int .i64 c, .int .i64 p, .int .i64 d, .int .i64 s, .int .i64 b] := by rw [hW1]; exact (blk_at (w) w.heap.size (by rfl) 30 [.int .i64 ja, .int .i64 n, .int .i64 c, .int .i64 p, .int .i64 d, .int .i64 s, .int .i64 b]).keep ((Below.refl (w.heap.size + 1) _).alloc (by simp only [World.size_alloc]; omega) _) (by omega)
    have h_j : Blk W1 (w.heap.size + 1) 55 [.int .i64 ja, .int .i64 ra, .int .i64 ea, .int .i64 ka] := by rw [hW1]; exact (blk_at ((w.alloc (.cells #[.int .i64 ja, .int .i64 n, .int .i64 c, .int .i64 p, .int .i64 d, .int .i64 s, .int .i64 b] 30))) (w.heap.size + 1) (by simp only [World.size_alloc]) 55 [.int .i64 ja, .int .i64 ra, .int .i64 ea, .int .i64 ka]).keep (Below.refl ((w.heap.size + 1) + 1) _) (by omega)
    rw [← hW1]
    have HB1 := Lib.hid hbel_
    have Hx1 := Lib.hid h_x
    have Hj1 := Lib.hid h_j
    clear hbel_ hW1  h_x h_j
    have x_0 : W1.cell? ⟨w.heap.size, 0, none⟩ = some (.int .i64 ja) := Hx1.out.cellAt (i := 0) (by simp)
    have x_1 : W1.cell? ⟨w.heap.size, 1, none⟩ = some (.int .i64 n) := Hx1.out.cellAt (i := 1) (by simp)
    have x_2 : W1.cell? ⟨w.heap.size, 2, none⟩ = some (.int .i64 c) := Hx1.out.cellAt (i := 2) (by simp)
    have x_3 : W1.cell? ⟨w.heap.size, 3, none⟩ = some (.int .i64 p) := Hx1.out.cellAt (i := 3) (by simp)
    have x_4 : W1.cell? ⟨w.heap.size, 4, none⟩ = some (.int .i64 d) := Hx1.out.cellAt (i := 4) (by simp)
    have x_5 : W1.cell? ⟨w.heap.size, 5, none⟩ = some (.int .i64 s) := Hx1.out.cellAt (i := 5) (by simp)
    have x_6 : W1.cell? ⟨w.heap.size, 6, none⟩ = some (.int .i64 b) := Hx1.out.cellAt (i := 6) (by simp)
    have j_0 : W1.cell? ⟨(w.heap.size + 1), 0, none⟩ = some (.int .i64 ja) := Hj1.out.cellAt (i := 0) (by simp)
    have j_1 : W1.cell? ⟨(w.heap.size + 1), 1, none⟩ = some (.int .i64 ra) := Hj1.out.cellAt (i := 1) (by simp)
    have j_2 : W1.cell? ⟨(w.heap.size + 1), 2, none⟩ = some (.int .i64 ea) := Hj1.out.cellAt (i := 2) (by simp)
    have j_3 : W1.cell? ⟨(w.heap.size + 1), 3, none⟩ = some (.int .i64 ka) := Hj1.out.cellAt (i := 3) (by simp)
    go_wp2_with fail
    clear x_0 x_1 x_2 x_3 x_4 x_5 x_6 j_0 j_1 j_2 j_3
    refine (HJ.out _ (HTX.out _ HB1.out).1 (HTX.out _ HB1.out).2).mono ?_
    rintro y w2 ⟨rfl, hb⟩
    have HB2 := Lib.hid (below_transG HB1.out hb)
    have Hx2 := Lib.hid (Hx1.out.keep hb Hx1.out.lt)
    have Hj2 := Lib.hid (Hj1.out.keep hb Hj1.out.lt)
    clear hb
    go_upto_region 2 with fail
    obtain ⟨W3, hW3⟩ : ∃ W, W = (w2.alloc (.cells #[.int .i64 ja, .int .i64 ra, .int .i64 rd, .int .i64 cc] 55)) := ⟨_, rfl⟩
    have hbel_ : Below w.heap.size w W3 := by rw [hW3]; exact (HB2.out.alloc HB2.out.size _)
    have h_x : Blk W3 w.heap.size 30 [.int .i64 ja, .int .i64 n, .int .i64 c, .int .i64 p, .int .i64 d, .int .i64 s, .int .i64 b] := by rw [hW3]; exact Hx2.out.keep ((Below.refl w2.heap.size w2).alloc (Nat.le_refl _) _) Hx2.out.lt
    have h_j : Blk W3 (w.heap.size + 1) 55 [.int .i64 ja, .int .i64 ra, .int .i64 ea, .int .i64 ka] := by rw [hW3]; exact Hj2.out.keep ((Below.refl w2.heap.size w2).alloc (Nat.le_refl _) _) Hj2.out.lt
    have h_o : Blk W3 w2.heap.size 55 [.int .i64 ja, .int .i64 ra, .int .i64 rd, .int .i64 cc] := by rw [hW3]; exact (blk_at (w2) w2.heap.size (by rfl) 55 [.int .i64 ja, .int .i64 ra, .int .i64 rd, .int .i64 cc]).keep (Below.refl (w2.heap.size + 1) _) (by omega)
    rw [← hW3]
    have HB3 := Lib.hid hbel_
    have Hx3 := Lib.hid h_x
    have Hj3 := Lib.hid h_j
    have Ho3 := Lib.hid h_o
    clear hbel_ hW3 h_x h_j h_o
    have j_0 : W3.cell? ⟨(w.heap.size + 1), 0, none⟩ = some (.int .i64 ja) := Hj3.out.cellAt (i := 0) (by simp)
    have j_1 : W3.cell? ⟨(w.heap.size + 1), 1, none⟩ = some (.int .i64 ra) := Hj3.out.cellAt (i := 1) (by simp)
    have j_2 : W3.cell? ⟨(w.heap.size + 1), 2, none⟩ = some (.int .i64 ea) := Hj3.out.cellAt (i := 2) (by simp)
    have j_3 : W3.cell? ⟨(w.heap.size + 1), 3, none⟩ = some (.int .i64 ka) := Hj3.out.cellAt (i := 3) (by simp)
    have o_0 : W3.cell? ⟨w2.heap.size, 0, none⟩ = some (.int .i64 ja) := Ho3.out.cellAt (i := 0) (by simp)
    have o_1 : W3.cell? ⟨w2.heap.size, 1, none⟩ = some (.int .i64 ra) := Ho3.out.cellAt (i := 1) (by simp)
    have o_2 : W3.cell? ⟨w2.heap.size, 2, none⟩ = some (.int .i64 rd) := Ho3.out.cellAt (i := 2) (by simp)
    have o_3 : W3.cell? ⟨w2.heap.size, 3, none⟩ = some (.int .i64 cc) := Ho3.out.cellAt (i := 3) (by simp)
    go_wp2_with fail
    go_ret
    exact ⟨rfl, HB3.out⟩
  · rw [e1]; clear e1
    have q1 : (ja == ja) = true := by simp
    have q2 : (ea == ea) = true := by simp
    have q3 : (ka == cc) = false := by rw [beq_eq_false_iff_ne]; exact h1
    clear h1
    go_enter Tryd.func64, Tryd.ntmps64
    go_upto_region 1 with fail
    obtain ⟨W1, hW1⟩ : ∃ W, W = ((w.alloc (.cells #[.int .i64 ja, .int .i64 n, .int .i64 c, .int .i64 p, .int .i64 d, .int .i64 s, .int .i64 b] 30)).alloc (.cells #[.int .i64 ja, .int .i64 ra, .int .i64 ea, .int .i64 ka] 55)) := ⟨_, rfl⟩
    have hbel_ : Below w.heap.size w W1 := by rw [hW1]; exact (((Below.refl w.heap.size w).alloc (Nat.le_refl w.heap.size) _).alloc (by have := (Nat.le_refl w.heap.size); simp only [World.size_alloc]; omega) _)
    have h_x : Blk W1 w.heap.size 30 [.int .i64 ja, .int .i64 n, .int .i64 c, .int .i64 p, .int .i64 d, .int .i64 s, .int .i64 b] := by rw [hW1]; exact (blk_at (w) w.heap.size (by rfl) 30 [.int .i64 ja, .int .i64 n, .int .i64 c, .int .i64 p, .int .i64 d, .int .i64 s, .int .i64 b]).keep ((Below.refl (w.heap.size + 1) _).alloc (by simp only [World.size_alloc]; omega) _) (by omega)
    have h_j : Blk W1 (w.heap.size + 1) 55 [.int .i64 ja, .int .i64 ra, .int .i64 ea, .int .i64 ka] := by rw [hW1]; exact (blk_at ((w.alloc (.cells #[.int .i64 ja, .int .i64 n, .int .i64 c, .int .i64 p, .int .i64 d, .int .i64 s, .int .i64 b] 30))) (w.heap.size + 1) (by simp only [World.size_alloc]) 55 [.int .i64 ja, .int .i64 ra, .int .i64 ea, .int .i64 ka]).keep (Below.refl ((w.heap.size + 1) + 1) _) (by omega)
    rw [← hW1]
    have HB1 := Lib.hid hbel_
    have Hx1 := Lib.hid h_x
    have Hj1 := Lib.hid h_j
    clear hbel_ hW1  h_x h_j
    have x_0 : W1.cell? ⟨w.heap.size, 0, none⟩ = some (.int .i64 ja) := Hx1.out.cellAt (i := 0) (by simp)
    have x_1 : W1.cell? ⟨w.heap.size, 1, none⟩ = some (.int .i64 n) := Hx1.out.cellAt (i := 1) (by simp)
    have x_2 : W1.cell? ⟨w.heap.size, 2, none⟩ = some (.int .i64 c) := Hx1.out.cellAt (i := 2) (by simp)
    have x_3 : W1.cell? ⟨w.heap.size, 3, none⟩ = some (.int .i64 p) := Hx1.out.cellAt (i := 3) (by simp)
    have x_4 : W1.cell? ⟨w.heap.size, 4, none⟩ = some (.int .i64 d) := Hx1.out.cellAt (i := 4) (by simp)
    have x_5 : W1.cell? ⟨w.heap.size, 5, none⟩ = some (.int .i64 s) := Hx1.out.cellAt (i := 5) (by simp)
    have x_6 : W1.cell? ⟨w.heap.size, 6, none⟩ = some (.int .i64 b) := Hx1.out.cellAt (i := 6) (by simp)
    have j_0 : W1.cell? ⟨(w.heap.size + 1), 0, none⟩ = some (.int .i64 ja) := Hj1.out.cellAt (i := 0) (by simp)
    have j_1 : W1.cell? ⟨(w.heap.size + 1), 1, none⟩ = some (.int .i64 ra) := Hj1.out.cellAt (i := 1) (by simp)
    have j_2 : W1.cell? ⟨(w.heap.size + 1), 2, none⟩ = some (.int .i64 ea) := Hj1.out.cellAt (i := 2) (by simp)
    have j_3 : W1.cell? ⟨(w.heap.size + 1), 3, none⟩ = some (.int .i64 ka) := Hj1.out.cellAt (i := 3) (by simp)
    go_wp2_with fail
    clear x_0 x_1 x_2 x_3 x_4 x_5 x_6 j_0 j_1 j_2 j_3
    refine (HJ.out _ (HTX.out _ HB1.out).1 (HTX.out _ HB1.out).2).mono ?_
    rintro y w2 ⟨rfl, hb⟩
    have HB2 := Lib.hid (below_transG HB1.out hb)
    have Hx2 := Lib.hid (Hx1.out.keep hb Hx1.out.lt)
    have Hj2 := Lib.hid (Hj1.out.keep hb Hj1.out.lt)
    clear hb
    go_upto_region 2 with fail
    obtain ⟨W3, hW3⟩ : ∃ W, W = (w2.alloc (.cells #[.int .i64 ja, .int .i64 ra, .int .i64 ea, .int .i64 cc] 55)) := ⟨_, rfl⟩
    have hbel_ : Below w.heap.size w W3 := by rw [hW3]; exact (HB2.out.alloc HB2.out.size _)
    have h_x : Blk W3 w.heap.size 30 [.int .i64 ja, .int .i64 n, .int .i64 c, .int .i64 p, .int .i64 d, .int .i64 s, .int .i64 b] := by rw [hW3]; exact Hx2.out.keep ((Below.refl w2.heap.size w2).alloc (Nat.le_refl _) _) Hx2.out.lt
    have h_j : Blk W3 (w.heap.size + 1) 55 [.int .i64 ja, .int .i64 ra, .int .i64 ea, .int .i64 ka] := by rw [hW3]; exact Hj2.out.keep ((Below.refl w2.heap.size w2).alloc (Nat.le_refl _) _) Hj2.out.lt
    have h_o : Blk W3 w2.heap.size 55 [.int .i64 ja, .int .i64 ra, .int .i64 ea, .int .i64 cc] := by rw [hW3]; exact (blk_at (w2) w2.heap.size (by rfl) 55 [.int .i64 ja, .int .i64 ra, .int .i64 ea, .int .i64 cc]).keep (Below.refl (w2.heap.size + 1) _) (by omega)
    rw [← hW3]
    have HB3 := Lib.hid hbel_
    have Hx3 := Lib.hid h_x
    have Hj3 := Lib.hid h_j
    have Ho3 := Lib.hid h_o
    clear hbel_ hW3 h_x h_j h_o
    have j_0 : W3.cell? ⟨(w.heap.size + 1), 0, none⟩ = some (.int .i64 ja) := Hj3.out.cellAt (i := 0) (by simp)
    have j_1 : W3.cell? ⟨(w.heap.size + 1), 1, none⟩ = some (.int .i64 ra) := Hj3.out.cellAt (i := 1) (by simp)
    have j_2 : W3.cell? ⟨(w.heap.size + 1), 2, none⟩ = some (.int .i64 ea) := Hj3.out.cellAt (i := 2) (by simp)
    have j_3 : W3.cell? ⟨(w.heap.size + 1), 3, none⟩ = some (.int .i64 ka) := Hj3.out.cellAt (i := 3) (by simp)
    have o_0 : W3.cell? ⟨w2.heap.size, 0, none⟩ = some (.int .i64 ja) := Ho3.out.cellAt (i := 0) (by simp)
    have o_1 : W3.cell? ⟨w2.heap.size, 1, none⟩ = some (.int .i64 ra) := Ho3.out.cellAt (i := 1) (by simp)
    have o_2 : W3.cell? ⟨w2.heap.size, 2, none⟩ = some (.int .i64 ea) := Ho3.out.cellAt (i := 2) (by simp)
    have o_3 : W3.cell? ⟨w2.heap.size, 3, none⟩ = some (.int .i64 cc) := Ho3.out.cellAt (i := 3) (by simp)
    go_wp2_with fail
    go_ret
    exact ⟨rfl, HB3.out⟩
  · rw [e1]; clear e1
    have q1 : (ja == ja) = true := by simp
    have q2 : (ea == ea) = true := by simp
    have q3 : (ka == ka) = true := by simp
    go_enter Tryd.func64, Tryd.ntmps64
    go_upto_region 1 with fail
    obtain ⟨W1, hW1⟩ : ∃ W, W = ((w.alloc (.cells #[.int .i64 ja, .int .i64 n, .int .i64 c, .int .i64 p, .int .i64 d, .int .i64 s, .int .i64 b] 30)).alloc (.cells #[.int .i64 ja, .int .i64 ra, .int .i64 ea, .int .i64 ka] 55)) := ⟨_, rfl⟩
    have hbel_ : Below w.heap.size w W1 := by rw [hW1]; exact (((Below.refl w.heap.size w).alloc (Nat.le_refl w.heap.size) _).alloc (by have := (Nat.le_refl w.heap.size); simp only [World.size_alloc]; omega) _)
    have h_x : Blk W1 w.heap.size 30 [.int .i64 ja, .int .i64 n, .int .i64 c, .int .i64 p, .int .i64 d, .int .i64 s, .int .i64 b] := by rw [hW1]; exact (blk_at (w) w.heap.size (by rfl) 30 [.int .i64 ja, .int .i64 n, .int .i64 c, .int .i64 p, .int .i64 d, .int .i64 s, .int .i64 b]).keep ((Below.refl (w.heap.size + 1) _).alloc (by simp only [World.size_alloc]; omega) _) (by omega)
    have h_j : Blk W1 (w.heap.size + 1) 55 [.int .i64 ja, .int .i64 ra, .int .i64 ea, .int .i64 ka] := by rw [hW1]; exact (blk_at ((w.alloc (.cells #[.int .i64 ja, .int .i64 n, .int .i64 c, .int .i64 p, .int .i64 d, .int .i64 s, .int .i64 b] 30))) (w.heap.size + 1) (by simp only [World.size_alloc]) 55 [.int .i64 ja, .int .i64 ra, .int .i64 ea, .int .i64 ka]).keep (Below.refl ((w.heap.size + 1) + 1) _) (by omega)
    rw [← hW1]
    have HB1 := Lib.hid hbel_
    have Hx1 := Lib.hid h_x
    have Hj1 := Lib.hid h_j
    clear hbel_ hW1  h_x h_j
    have x_0 : W1.cell? ⟨w.heap.size, 0, none⟩ = some (.int .i64 ja) := Hx1.out.cellAt (i := 0) (by simp)
    have x_1 : W1.cell? ⟨w.heap.size, 1, none⟩ = some (.int .i64 n) := Hx1.out.cellAt (i := 1) (by simp)
    have x_2 : W1.cell? ⟨w.heap.size, 2, none⟩ = some (.int .i64 c) := Hx1.out.cellAt (i := 2) (by simp)
    have x_3 : W1.cell? ⟨w.heap.size, 3, none⟩ = some (.int .i64 p) := Hx1.out.cellAt (i := 3) (by simp)
    have x_4 : W1.cell? ⟨w.heap.size, 4, none⟩ = some (.int .i64 d) := Hx1.out.cellAt (i := 4) (by simp)
    have x_5 : W1.cell? ⟨w.heap.size, 5, none⟩ = some (.int .i64 s) := Hx1.out.cellAt (i := 5) (by simp)
    have x_6 : W1.cell? ⟨w.heap.size, 6, none⟩ = some (.int .i64 b) := Hx1.out.cellAt (i := 6) (by simp)
    have j_0 : W1.cell? ⟨(w.heap.size + 1), 0, none⟩ = some (.int .i64 ja) := Hj1.out.cellAt (i := 0) (by simp)
    have j_1 : W1.cell? ⟨(w.heap.size + 1), 1, none⟩ = some (.int .i64 ra) := Hj1.out.cellAt (i := 1) (by simp)
    have j_2 : W1.cell? ⟨(w.heap.size + 1), 2, none⟩ = some (.int .i64 ea) := Hj1.out.cellAt (i := 2) (by simp)
    have j_3 : W1.cell? ⟨(w.heap.size + 1), 3, none⟩ = some (.int .i64 ka) := Hj1.out.cellAt (i := 3) (by simp)
    go_wp2_with fail
    clear x_0 x_1 x_2 x_3 x_4 x_5 x_6 j_0 j_1 j_2 j_3
    refine (HJ.out _ (HTX.out _ HB1.out).1 (HTX.out _ HB1.out).2).mono ?_
    rintro y w2 ⟨rfl, hb⟩
    have HB2 := Lib.hid (below_transG HB1.out hb)
    have Hx2 := Lib.hid (Hx1.out.keep hb Hx1.out.lt)
    have Hj2 := Lib.hid (Hj1.out.keep hb Hj1.out.lt)
    clear hb
    go_upto_region 2 with fail
    obtain ⟨W3, hW3⟩ : ∃ W, W = (w2.alloc (.cells #[.int .i64 ja, .int .i64 ra, .int .i64 ea, .int .i64 ka] 55)) := ⟨_, rfl⟩
    have hbel_ : Below w.heap.size w W3 := by rw [hW3]; exact (HB2.out.alloc HB2.out.size _)
    have h_x : Blk W3 w.heap.size 30 [.int .i64 ja, .int .i64 n, .int .i64 c, .int .i64 p, .int .i64 d, .int .i64 s, .int .i64 b] := by rw [hW3]; exact Hx2.out.keep ((Below.refl w2.heap.size w2).alloc (Nat.le_refl _) _) Hx2.out.lt
    have h_j : Blk W3 (w.heap.size + 1) 55 [.int .i64 ja, .int .i64 ra, .int .i64 ea, .int .i64 ka] := by rw [hW3]; exact Hj2.out.keep ((Below.refl w2.heap.size w2).alloc (Nat.le_refl _) _) Hj2.out.lt
    have h_o : Blk W3 w2.heap.size 55 [.int .i64 ja, .int .i64 ra, .int .i64 ea, .int .i64 ka] := by rw [hW3]; exact (blk_at (w2) w2.heap.size (by rfl) 55 [.int .i64 ja, .int .i64 ra, .int .i64 ea, .int .i64 ka]).keep (Below.refl (w2.heap.size + 1) _) (by omega)
    rw [← hW3]
    have HB3 := Lib.hid hbel_
    have Hx3 := Lib.hid h_x
    have Hj3 := Lib.hid h_j
    have Ho3 := Lib.hid h_o
    clear hbel_ hW3 h_x h_j h_o
    have j_0 : W3.cell? ⟨(w.heap.size + 1), 0, none⟩ = some (.int .i64 ja) := Hj3.out.cellAt (i := 0) (by simp)
    have j_1 : W3.cell? ⟨(w.heap.size + 1), 1, none⟩ = some (.int .i64 ra) := Hj3.out.cellAt (i := 1) (by simp)
    have j_2 : W3.cell? ⟨(w.heap.size + 1), 2, none⟩ = some (.int .i64 ea) := Hj3.out.cellAt (i := 2) (by simp)
    have j_3 : W3.cell? ⟨(w.heap.size + 1), 3, none⟩ = some (.int .i64 ka) := Hj3.out.cellAt (i := 3) (by simp)
    have o_0 : W3.cell? ⟨w2.heap.size, 0, none⟩ = some (.int .i64 ja) := Ho3.out.cellAt (i := 0) (by simp)
    have o_1 : W3.cell? ⟨w2.heap.size, 1, none⟩ = some (.int .i64 ra) := Ho3.out.cellAt (i := 1) (by simp)
    have o_2 : W3.cell? ⟨w2.heap.size, 2, none⟩ = some (.int .i64 ea) := Ho3.out.cellAt (i := 2) (by simp)
    have o_3 : W3.cell? ⟨w2.heap.size, 3, none⟩ = some (.int .i64 ka) := Ho3.out.cellAt (i := 3) (by simp)
    go_wp2_with fail
    go_ret
    exact ⟨rfl, HB3.out⟩
set_option maxRecDepth 100000 in
set_option maxHeartbeats 4000000 in
theorem sfol_any (i n c p d s b ja ra ea ka jb rb eb kb : Int) (w : World) (h0 : 0 < w.heap.size) (hT : Tab w) : Calls Tryd.prog 38 #[.agg #[.int .i64 i, .int .i64 n, .int .i64 c, .int .i64 p, .int .i64 d, .int .i64 s, .int .i64 b], .agg #[.int .i64 ja, .int .i64 ra, .int .i64 ea, .int .i64 ka], .agg #[.int .i64 jb, .int .i64 rb, .int .i64 eb, .int .i64 kb]] w fun y w' => y = .returned (.bool (folB i n c p d s b ja ra ea ka jb rb eb kb)) ∧ Below w.heap.size w w' := by
  have HTX := Lib.hid (show ∀ x, Below w.heap.size w x → 0 < x.heap.size ∧ Tab x from fun x hx => ⟨Nat.lt_of_lt_of_le h0 hx.size, hT.on hx h0⟩)
  have HJ1 := Lib.hid (fun u a1 a2 => shas_any i n c p d s b ja ra ea ka u a1 a2); have HJ2 := Lib.hid (fun u a1 a2 => shas_any i n c p d s b jb rb eb kb u a1 a2)
  clear h0 hT
  unfold folB
  have r1 := hasB_r (i := i) (n := n) (c := c) (p := p) (d := d) (s := s) (b := b) (j := ja) (r := ra) (e := ea) (k := ka)
  have r2 := hasB_r (i := i) (n := n) (c := c) (p := p) (d := d) (s := s) (b := b) (j := jb) (r := rb) (e := eb) (k := kb)
  obtain ⟨g1, hg1⟩ : ∃ g, g = hasB i n c p d s b ja ra ea ka := ⟨_, rfl⟩
  obtain ⟨g2, hg2⟩ : ∃ g, g = hasB i n c p d s b jb rb eb kb := ⟨_, rfl⟩
  rw [← hg1] at HJ1 r1 ⊢; rw [← hg2] at HJ2 r2 ⊢
  clear hg1 hg2
  cases g1
  · rw [Bool.false_and]
    clear r1 r2
    go_enter Tryd.func38, Tryd.ntmps38
    go_upto_region 1 with fail
    obtain ⟨W1, hW1⟩ : ∃ W, W = (((w.alloc (.cells #[.int .i64 i, .int .i64 n, .int .i64 c, .int .i64 p, .int .i64 d, .int .i64 s, .int .i64 b] 30)).alloc (.cells #[.int .i64 ja, .int .i64 ra, .int .i64 ea, .int .i64 ka] 55)).alloc (.cells #[.int .i64 jb, .int .i64 rb, .int .i64 eb, .int .i64 kb] 55)) := ⟨_, rfl⟩
    have hbel_ : Below w.heap.size w W1 := by rw [hW1]; exact ((((Below.refl w.heap.size w).alloc (Nat.le_refl w.heap.size) _).alloc (by have := (Nat.le_refl w.heap.size); simp only [World.size_alloc]; omega) _).alloc (by have := (Nat.le_refl w.heap.size); simp only [World.size_alloc]; omega) _)
    have h_x : Blk W1 w.heap.size 30 [.int .i64 i, .int .i64 n, .int .i64 c, .int .i64 p, .int .i64 d, .int .i64 s, .int .i64 b] := by rw [hW1]; exact (blk_at (w) w.heap.size (by rfl) 30 [.int .i64 i, .int .i64 n, .int .i64 c, .int .i64 p, .int .i64 d, .int .i64 s, .int .i64 b]).keep (((Below.refl (w.heap.size + 1) _).alloc (by simp only [World.size_alloc]; omega) _).alloc (by simp only [World.size_alloc]; omega) _) (by omega)
    have h_u : Blk W1 (w.heap.size + 1) 55 [.int .i64 ja, .int .i64 ra, .int .i64 ea, .int .i64 ka] := by rw [hW1]; exact (blk_at ((w.alloc (.cells #[.int .i64 i, .int .i64 n, .int .i64 c, .int .i64 p, .int .i64 d, .int .i64 s, .int .i64 b] 30))) (w.heap.size + 1) (by simp only [World.size_alloc]) 55 [.int .i64 ja, .int .i64 ra, .int .i64 ea, .int .i64 ka]).keep ((Below.refl ((w.heap.size + 1) + 1) _).alloc (by simp only [World.size_alloc]; omega) _) (by omega)
    have h_v : Blk W1 (w.heap.size + 2) 55 [.int .i64 jb, .int .i64 rb, .int .i64 eb, .int .i64 kb] := by rw [hW1]; exact (blk_at (((w.alloc (.cells #[.int .i64 i, .int .i64 n, .int .i64 c, .int .i64 p, .int .i64 d, .int .i64 s, .int .i64 b] 30)).alloc (.cells #[.int .i64 ja, .int .i64 ra, .int .i64 ea, .int .i64 ka] 55))) (w.heap.size + 2) (by simp only [World.size_alloc]) 55 [.int .i64 jb, .int .i64 rb, .int .i64 eb, .int .i64 kb]).keep (Below.refl ((w.heap.size + 2) + 1) _) (by omega)
    rw [← hW1]
    have HB1 := Lib.hid hbel_
    have Hx1 := Lib.hid h_x
    have Hu1 := Lib.hid h_u
    have Hv1 := Lib.hid h_v
    clear hbel_ hW1  h_x h_u h_v
    have x_0 : W1.cell? ⟨w.heap.size, 0, none⟩ = some (.int .i64 i) := Hx1.out.cellAt (i := 0) (by simp)
    have x_1 : W1.cell? ⟨w.heap.size, 1, none⟩ = some (.int .i64 n) := Hx1.out.cellAt (i := 1) (by simp)
    have x_2 : W1.cell? ⟨w.heap.size, 2, none⟩ = some (.int .i64 c) := Hx1.out.cellAt (i := 2) (by simp)
    have x_3 : W1.cell? ⟨w.heap.size, 3, none⟩ = some (.int .i64 p) := Hx1.out.cellAt (i := 3) (by simp)
    have x_4 : W1.cell? ⟨w.heap.size, 4, none⟩ = some (.int .i64 d) := Hx1.out.cellAt (i := 4) (by simp)
    have x_5 : W1.cell? ⟨w.heap.size, 5, none⟩ = some (.int .i64 s) := Hx1.out.cellAt (i := 5) (by simp)
    have x_6 : W1.cell? ⟨w.heap.size, 6, none⟩ = some (.int .i64 b) := Hx1.out.cellAt (i := 6) (by simp)
    have u_0 : W1.cell? ⟨(w.heap.size + 1), 0, none⟩ = some (.int .i64 ja) := Hu1.out.cellAt (i := 0) (by simp)
    have u_1 : W1.cell? ⟨(w.heap.size + 1), 1, none⟩ = some (.int .i64 ra) := Hu1.out.cellAt (i := 1) (by simp)
    have u_2 : W1.cell? ⟨(w.heap.size + 1), 2, none⟩ = some (.int .i64 ea) := Hu1.out.cellAt (i := 2) (by simp)
    have u_3 : W1.cell? ⟨(w.heap.size + 1), 3, none⟩ = some (.int .i64 ka) := Hu1.out.cellAt (i := 3) (by simp)
    have v_0 : W1.cell? ⟨(w.heap.size + 2), 0, none⟩ = some (.int .i64 jb) := Hv1.out.cellAt (i := 0) (by simp)
    have v_1 : W1.cell? ⟨(w.heap.size + 2), 1, none⟩ = some (.int .i64 rb) := Hv1.out.cellAt (i := 1) (by simp)
    have v_2 : W1.cell? ⟨(w.heap.size + 2), 2, none⟩ = some (.int .i64 eb) := Hv1.out.cellAt (i := 2) (by simp)
    have v_3 : W1.cell? ⟨(w.heap.size + 2), 3, none⟩ = some (.int .i64 kb) := Hv1.out.cellAt (i := 3) (by simp)
    go_wp2_with fail
    clear x_0 x_1 x_2 x_3 x_4 x_5 x_6 u_0 u_1 u_2 u_3 v_0 v_1 v_2 v_3
    refine (HJ1.out _ (HTX.out _ HB1.out).1 (HTX.out _ HB1.out).2).mono ?_
    rintro y w2 ⟨rfl, hb⟩
    have HB2 := Lib.hid (below_transG HB1.out hb)
    have Hx2 := Lib.hid (Hx1.out.keep hb Hx1.out.lt)
    have Hu2 := Lib.hid (Hu1.out.keep hb Hu1.out.lt)
    have Hv2 := Lib.hid (Hv1.out.keep hb Hv1.out.lt)
    clear hb
    have x_0 : w2.cell? ⟨w.heap.size, 0, none⟩ = some (.int .i64 i) := Hx2.out.cellAt (i := 0) (by simp)
    have x_1 : w2.cell? ⟨w.heap.size, 1, none⟩ = some (.int .i64 n) := Hx2.out.cellAt (i := 1) (by simp)
    have x_2 : w2.cell? ⟨w.heap.size, 2, none⟩ = some (.int .i64 c) := Hx2.out.cellAt (i := 2) (by simp)
    have x_3 : w2.cell? ⟨w.heap.size, 3, none⟩ = some (.int .i64 p) := Hx2.out.cellAt (i := 3) (by simp)
    have x_4 : w2.cell? ⟨w.heap.size, 4, none⟩ = some (.int .i64 d) := Hx2.out.cellAt (i := 4) (by simp)
    have x_5 : w2.cell? ⟨w.heap.size, 5, none⟩ = some (.int .i64 s) := Hx2.out.cellAt (i := 5) (by simp)
    have x_6 : w2.cell? ⟨w.heap.size, 6, none⟩ = some (.int .i64 b) := Hx2.out.cellAt (i := 6) (by simp)
    have u_0 : w2.cell? ⟨(w.heap.size + 1), 0, none⟩ = some (.int .i64 ja) := Hu2.out.cellAt (i := 0) (by simp)
    have u_1 : w2.cell? ⟨(w.heap.size + 1), 1, none⟩ = some (.int .i64 ra) := Hu2.out.cellAt (i := 1) (by simp)
    have u_2 : w2.cell? ⟨(w.heap.size + 1), 2, none⟩ = some (.int .i64 ea) := Hu2.out.cellAt (i := 2) (by simp)
    have u_3 : w2.cell? ⟨(w.heap.size + 1), 3, none⟩ = some (.int .i64 ka) := Hu2.out.cellAt (i := 3) (by simp)
    have v_0 : w2.cell? ⟨(w.heap.size + 2), 0, none⟩ = some (.int .i64 jb) := Hv2.out.cellAt (i := 0) (by simp)
    have v_1 : w2.cell? ⟨(w.heap.size + 2), 1, none⟩ = some (.int .i64 rb) := Hv2.out.cellAt (i := 1) (by simp)
    have v_2 : w2.cell? ⟨(w.heap.size + 2), 2, none⟩ = some (.int .i64 eb) := Hv2.out.cellAt (i := 2) (by simp)
    have v_3 : w2.cell? ⟨(w.heap.size + 2), 3, none⟩ = some (.int .i64 kb) := Hv2.out.cellAt (i := 3) (by simp)
    go_wp2_with fail
    go_ret
    exact ⟨rfl, HB2.out⟩
  rw [Bool.true_and]
  have r1 := r1 rfl
  cases g2
  · rw [Bool.false_and]
    clear r1 r2
    go_enter Tryd.func38, Tryd.ntmps38
    go_upto_region 1 with fail
    obtain ⟨W1, hW1⟩ : ∃ W, W = (((w.alloc (.cells #[.int .i64 i, .int .i64 n, .int .i64 c, .int .i64 p, .int .i64 d, .int .i64 s, .int .i64 b] 30)).alloc (.cells #[.int .i64 ja, .int .i64 ra, .int .i64 ea, .int .i64 ka] 55)).alloc (.cells #[.int .i64 jb, .int .i64 rb, .int .i64 eb, .int .i64 kb] 55)) := ⟨_, rfl⟩
    have hbel_ : Below w.heap.size w W1 := by rw [hW1]; exact ((((Below.refl w.heap.size w).alloc (Nat.le_refl w.heap.size) _).alloc (by have := (Nat.le_refl w.heap.size); simp only [World.size_alloc]; omega) _).alloc (by have := (Nat.le_refl w.heap.size); simp only [World.size_alloc]; omega) _)
    have h_x : Blk W1 w.heap.size 30 [.int .i64 i, .int .i64 n, .int .i64 c, .int .i64 p, .int .i64 d, .int .i64 s, .int .i64 b] := by rw [hW1]; exact (blk_at (w) w.heap.size (by rfl) 30 [.int .i64 i, .int .i64 n, .int .i64 c, .int .i64 p, .int .i64 d, .int .i64 s, .int .i64 b]).keep (((Below.refl (w.heap.size + 1) _).alloc (by simp only [World.size_alloc]; omega) _).alloc (by simp only [World.size_alloc]; omega) _) (by omega)
    have h_u : Blk W1 (w.heap.size + 1) 55 [.int .i64 ja, .int .i64 ra, .int .i64 ea, .int .i64 ka] := by rw [hW1]; exact (blk_at ((w.alloc (.cells #[.int .i64 i, .int .i64 n, .int .i64 c, .int .i64 p, .int .i64 d, .int .i64 s, .int .i64 b] 30))) (w.heap.size + 1) (by simp only [World.size_alloc]) 55 [.int .i64 ja, .int .i64 ra, .int .i64 ea, .int .i64 ka]).keep ((Below.refl ((w.heap.size + 1) + 1) _).alloc (by simp only [World.size_alloc]; omega) _) (by omega)
    have h_v : Blk W1 (w.heap.size + 2) 55 [.int .i64 jb, .int .i64 rb, .int .i64 eb, .int .i64 kb] := by rw [hW1]; exact (blk_at (((w.alloc (.cells #[.int .i64 i, .int .i64 n, .int .i64 c, .int .i64 p, .int .i64 d, .int .i64 s, .int .i64 b] 30)).alloc (.cells #[.int .i64 ja, .int .i64 ra, .int .i64 ea, .int .i64 ka] 55))) (w.heap.size + 2) (by simp only [World.size_alloc]) 55 [.int .i64 jb, .int .i64 rb, .int .i64 eb, .int .i64 kb]).keep (Below.refl ((w.heap.size + 2) + 1) _) (by omega)
    rw [← hW1]
    have HB1 := Lib.hid hbel_
    have Hx1 := Lib.hid h_x
    have Hu1 := Lib.hid h_u
    have Hv1 := Lib.hid h_v
    clear hbel_ hW1  h_x h_u h_v
    have x_0 : W1.cell? ⟨w.heap.size, 0, none⟩ = some (.int .i64 i) := Hx1.out.cellAt (i := 0) (by simp)
    have x_1 : W1.cell? ⟨w.heap.size, 1, none⟩ = some (.int .i64 n) := Hx1.out.cellAt (i := 1) (by simp)
    have x_2 : W1.cell? ⟨w.heap.size, 2, none⟩ = some (.int .i64 c) := Hx1.out.cellAt (i := 2) (by simp)
    have x_3 : W1.cell? ⟨w.heap.size, 3, none⟩ = some (.int .i64 p) := Hx1.out.cellAt (i := 3) (by simp)
    have x_4 : W1.cell? ⟨w.heap.size, 4, none⟩ = some (.int .i64 d) := Hx1.out.cellAt (i := 4) (by simp)
    have x_5 : W1.cell? ⟨w.heap.size, 5, none⟩ = some (.int .i64 s) := Hx1.out.cellAt (i := 5) (by simp)
    have x_6 : W1.cell? ⟨w.heap.size, 6, none⟩ = some (.int .i64 b) := Hx1.out.cellAt (i := 6) (by simp)
    have u_0 : W1.cell? ⟨(w.heap.size + 1), 0, none⟩ = some (.int .i64 ja) := Hu1.out.cellAt (i := 0) (by simp)
    have u_1 : W1.cell? ⟨(w.heap.size + 1), 1, none⟩ = some (.int .i64 ra) := Hu1.out.cellAt (i := 1) (by simp)
    have u_2 : W1.cell? ⟨(w.heap.size + 1), 2, none⟩ = some (.int .i64 ea) := Hu1.out.cellAt (i := 2) (by simp)
    have u_3 : W1.cell? ⟨(w.heap.size + 1), 3, none⟩ = some (.int .i64 ka) := Hu1.out.cellAt (i := 3) (by simp)
    have v_0 : W1.cell? ⟨(w.heap.size + 2), 0, none⟩ = some (.int .i64 jb) := Hv1.out.cellAt (i := 0) (by simp)
    have v_1 : W1.cell? ⟨(w.heap.size + 2), 1, none⟩ = some (.int .i64 rb) := Hv1.out.cellAt (i := 1) (by simp)
    have v_2 : W1.cell? ⟨(w.heap.size + 2), 2, none⟩ = some (.int .i64 eb) := Hv1.out.cellAt (i := 2) (by simp)
    have v_3 : W1.cell? ⟨(w.heap.size + 2), 3, none⟩ = some (.int .i64 kb) := Hv1.out.cellAt (i := 3) (by simp)
    go_wp2_with fail
    clear x_0 x_1 x_2 x_3 x_4 x_5 x_6 u_0 u_1 u_2 u_3 v_0 v_1 v_2 v_3
    refine (HJ1.out _ (HTX.out _ HB1.out).1 (HTX.out _ HB1.out).2).mono ?_
    rintro y w2 ⟨rfl, hb⟩
    have HB2 := Lib.hid (below_transG HB1.out hb)
    have Hx2 := Lib.hid (Hx1.out.keep hb Hx1.out.lt)
    have Hu2 := Lib.hid (Hu1.out.keep hb Hu1.out.lt)
    have Hv2 := Lib.hid (Hv1.out.keep hb Hv1.out.lt)
    clear hb
    have x_0 : w2.cell? ⟨w.heap.size, 0, none⟩ = some (.int .i64 i) := Hx2.out.cellAt (i := 0) (by simp)
    have x_1 : w2.cell? ⟨w.heap.size, 1, none⟩ = some (.int .i64 n) := Hx2.out.cellAt (i := 1) (by simp)
    have x_2 : w2.cell? ⟨w.heap.size, 2, none⟩ = some (.int .i64 c) := Hx2.out.cellAt (i := 2) (by simp)
    have x_3 : w2.cell? ⟨w.heap.size, 3, none⟩ = some (.int .i64 p) := Hx2.out.cellAt (i := 3) (by simp)
    have x_4 : w2.cell? ⟨w.heap.size, 4, none⟩ = some (.int .i64 d) := Hx2.out.cellAt (i := 4) (by simp)
    have x_5 : w2.cell? ⟨w.heap.size, 5, none⟩ = some (.int .i64 s) := Hx2.out.cellAt (i := 5) (by simp)
    have x_6 : w2.cell? ⟨w.heap.size, 6, none⟩ = some (.int .i64 b) := Hx2.out.cellAt (i := 6) (by simp)
    have u_0 : w2.cell? ⟨(w.heap.size + 1), 0, none⟩ = some (.int .i64 ja) := Hu2.out.cellAt (i := 0) (by simp)
    have u_1 : w2.cell? ⟨(w.heap.size + 1), 1, none⟩ = some (.int .i64 ra) := Hu2.out.cellAt (i := 1) (by simp)
    have u_2 : w2.cell? ⟨(w.heap.size + 1), 2, none⟩ = some (.int .i64 ea) := Hu2.out.cellAt (i := 2) (by simp)
    have u_3 : w2.cell? ⟨(w.heap.size + 1), 3, none⟩ = some (.int .i64 ka) := Hu2.out.cellAt (i := 3) (by simp)
    have v_0 : w2.cell? ⟨(w.heap.size + 2), 0, none⟩ = some (.int .i64 jb) := Hv2.out.cellAt (i := 0) (by simp)
    have v_1 : w2.cell? ⟨(w.heap.size + 2), 1, none⟩ = some (.int .i64 rb) := Hv2.out.cellAt (i := 1) (by simp)
    have v_2 : w2.cell? ⟨(w.heap.size + 2), 2, none⟩ = some (.int .i64 eb) := Hv2.out.cellAt (i := 2) (by simp)
    have v_3 : w2.cell? ⟨(w.heap.size + 2), 3, none⟩ = some (.int .i64 kb) := Hv2.out.cellAt (i := 3) (by simp)
    go_wp2_with fail
    clear x_0 x_1 x_2 x_3 x_4 x_5 x_6 u_0 u_1 u_2 u_3 v_0 v_1 v_2 v_3
    refine (HJ2.out _ (HTX.out _ HB2.out).1 (HTX.out _ HB2.out).2).mono ?_
    rintro y w3 ⟨rfl, hb⟩
    have HB3 := Lib.hid (below_transG HB2.out hb)
    have Hx3 := Lib.hid (Hx2.out.keep hb Hx2.out.lt)
    have Hu3 := Lib.hid (Hu2.out.keep hb Hu2.out.lt)
    have Hv3 := Lib.hid (Hv2.out.keep hb Hv2.out.lt)
    clear hb
    have x_0 : w3.cell? ⟨w.heap.size, 0, none⟩ = some (.int .i64 i) := Hx3.out.cellAt (i := 0) (by simp)
    have x_1 : w3.cell? ⟨w.heap.size, 1, none⟩ = some (.int .i64 n) := Hx3.out.cellAt (i := 1) (by simp)
    have x_2 : w3.cell? ⟨w.heap.size, 2, none⟩ = some (.int .i64 c) := Hx3.out.cellAt (i := 2) (by simp)
    have x_3 : w3.cell? ⟨w.heap.size, 3, none⟩ = some (.int .i64 p) := Hx3.out.cellAt (i := 3) (by simp)
    have x_4 : w3.cell? ⟨w.heap.size, 4, none⟩ = some (.int .i64 d) := Hx3.out.cellAt (i := 4) (by simp)
    have x_5 : w3.cell? ⟨w.heap.size, 5, none⟩ = some (.int .i64 s) := Hx3.out.cellAt (i := 5) (by simp)
    have x_6 : w3.cell? ⟨w.heap.size, 6, none⟩ = some (.int .i64 b) := Hx3.out.cellAt (i := 6) (by simp)
    have u_0 : w3.cell? ⟨(w.heap.size + 1), 0, none⟩ = some (.int .i64 ja) := Hu3.out.cellAt (i := 0) (by simp)
    have u_1 : w3.cell? ⟨(w.heap.size + 1), 1, none⟩ = some (.int .i64 ra) := Hu3.out.cellAt (i := 1) (by simp)
    have u_2 : w3.cell? ⟨(w.heap.size + 1), 2, none⟩ = some (.int .i64 ea) := Hu3.out.cellAt (i := 2) (by simp)
    have u_3 : w3.cell? ⟨(w.heap.size + 1), 3, none⟩ = some (.int .i64 ka) := Hu3.out.cellAt (i := 3) (by simp)
    have v_0 : w3.cell? ⟨(w.heap.size + 2), 0, none⟩ = some (.int .i64 jb) := Hv3.out.cellAt (i := 0) (by simp)
    have v_1 : w3.cell? ⟨(w.heap.size + 2), 1, none⟩ = some (.int .i64 rb) := Hv3.out.cellAt (i := 1) (by simp)
    have v_2 : w3.cell? ⟨(w.heap.size + 2), 2, none⟩ = some (.int .i64 eb) := Hv3.out.cellAt (i := 2) (by simp)
    have v_3 : w3.cell? ⟨(w.heap.size + 2), 3, none⟩ = some (.int .i64 kb) := Hv3.out.cellAt (i := 3) (by simp)
    go_wp2_with fail
    go_ret
    exact ⟨rfl, HB3.out⟩
  rw [Bool.true_and]
  have r2 := r2 rfl
  have hw : wrap64 (rb - ra) = rb - ra := by unfold wrap64; omega
  clear r1 r2
  go_enter Tryd.func38, Tryd.ntmps38
  go_upto_region 1 with fail
  obtain ⟨W1, hW1⟩ : ∃ W, W = (((w.alloc (.cells #[.int .i64 i, .int .i64 n, .int .i64 c, .int .i64 p, .int .i64 d, .int .i64 s, .int .i64 b] 30)).alloc (.cells #[.int .i64 ja, .int .i64 ra, .int .i64 ea, .int .i64 ka] 55)).alloc (.cells #[.int .i64 jb, .int .i64 rb, .int .i64 eb, .int .i64 kb] 55)) := ⟨_, rfl⟩
  have hbel_ : Below w.heap.size w W1 := by rw [hW1]; exact ((((Below.refl w.heap.size w).alloc (Nat.le_refl w.heap.size) _).alloc (by have := (Nat.le_refl w.heap.size); simp only [World.size_alloc]; omega) _).alloc (by have := (Nat.le_refl w.heap.size); simp only [World.size_alloc]; omega) _)
  have h_x : Blk W1 w.heap.size 30 [.int .i64 i, .int .i64 n, .int .i64 c, .int .i64 p, .int .i64 d, .int .i64 s, .int .i64 b] := by rw [hW1]; exact (blk_at (w) w.heap.size (by rfl) 30 [.int .i64 i, .int .i64 n, .int .i64 c, .int .i64 p, .int .i64 d, .int .i64 s, .int .i64 b]).keep (((Below.refl (w.heap.size + 1) _).alloc (by simp only [World.size_alloc]; omega) _).alloc (by simp only [World.size_alloc]; omega) _) (by omega)
  have h_u : Blk W1 (w.heap.size + 1) 55 [.int .i64 ja, .int .i64 ra, .int .i64 ea, .int .i64 ka] := by rw [hW1]; exact (blk_at ((w.alloc (.cells #[.int .i64 i, .int .i64 n, .int .i64 c, .int .i64 p, .int .i64 d, .int .i64 s, .int .i64 b] 30))) (w.heap.size + 1) (by simp only [World.size_alloc]) 55 [.int .i64 ja, .int .i64 ra, .int .i64 ea, .int .i64 ka]).keep ((Below.refl ((w.heap.size + 1) + 1) _).alloc (by simp only [World.size_alloc]; omega) _) (by omega)
  have h_v : Blk W1 (w.heap.size + 2) 55 [.int .i64 jb, .int .i64 rb, .int .i64 eb, .int .i64 kb] := by rw [hW1]; exact (blk_at (((w.alloc (.cells #[.int .i64 i, .int .i64 n, .int .i64 c, .int .i64 p, .int .i64 d, .int .i64 s, .int .i64 b] 30)).alloc (.cells #[.int .i64 ja, .int .i64 ra, .int .i64 ea, .int .i64 ka] 55))) (w.heap.size + 2) (by simp only [World.size_alloc]) 55 [.int .i64 jb, .int .i64 rb, .int .i64 eb, .int .i64 kb]).keep (Below.refl ((w.heap.size + 2) + 1) _) (by omega)
  rw [← hW1]
  have HB1 := Lib.hid hbel_
  have Hx1 := Lib.hid h_x
  have Hu1 := Lib.hid h_u
  have Hv1 := Lib.hid h_v
  clear hbel_ hW1  h_x h_u h_v
  have x_0 : W1.cell? ⟨w.heap.size, 0, none⟩ = some (.int .i64 i) := Hx1.out.cellAt (i := 0) (by simp)
  have x_1 : W1.cell? ⟨w.heap.size, 1, none⟩ = some (.int .i64 n) := Hx1.out.cellAt (i := 1) (by simp)
  have x_2 : W1.cell? ⟨w.heap.size, 2, none⟩ = some (.int .i64 c) := Hx1.out.cellAt (i := 2) (by simp)
  have x_3 : W1.cell? ⟨w.heap.size, 3, none⟩ = some (.int .i64 p) := Hx1.out.cellAt (i := 3) (by simp)
  have x_4 : W1.cell? ⟨w.heap.size, 4, none⟩ = some (.int .i64 d) := Hx1.out.cellAt (i := 4) (by simp)
  have x_5 : W1.cell? ⟨w.heap.size, 5, none⟩ = some (.int .i64 s) := Hx1.out.cellAt (i := 5) (by simp)
  have x_6 : W1.cell? ⟨w.heap.size, 6, none⟩ = some (.int .i64 b) := Hx1.out.cellAt (i := 6) (by simp)
  have u_0 : W1.cell? ⟨(w.heap.size + 1), 0, none⟩ = some (.int .i64 ja) := Hu1.out.cellAt (i := 0) (by simp)
  have u_1 : W1.cell? ⟨(w.heap.size + 1), 1, none⟩ = some (.int .i64 ra) := Hu1.out.cellAt (i := 1) (by simp)
  have u_2 : W1.cell? ⟨(w.heap.size + 1), 2, none⟩ = some (.int .i64 ea) := Hu1.out.cellAt (i := 2) (by simp)
  have u_3 : W1.cell? ⟨(w.heap.size + 1), 3, none⟩ = some (.int .i64 ka) := Hu1.out.cellAt (i := 3) (by simp)
  have v_0 : W1.cell? ⟨(w.heap.size + 2), 0, none⟩ = some (.int .i64 jb) := Hv1.out.cellAt (i := 0) (by simp)
  have v_1 : W1.cell? ⟨(w.heap.size + 2), 1, none⟩ = some (.int .i64 rb) := Hv1.out.cellAt (i := 1) (by simp)
  have v_2 : W1.cell? ⟨(w.heap.size + 2), 2, none⟩ = some (.int .i64 eb) := Hv1.out.cellAt (i := 2) (by simp)
  have v_3 : W1.cell? ⟨(w.heap.size + 2), 3, none⟩ = some (.int .i64 kb) := Hv1.out.cellAt (i := 3) (by simp)
  go_wp2_with fail
  clear x_0 x_1 x_2 x_3 x_4 x_5 x_6 u_0 u_1 u_2 u_3 v_0 v_1 v_2 v_3
  refine (HJ1.out _ (HTX.out _ HB1.out).1 (HTX.out _ HB1.out).2).mono ?_
  rintro y w2 ⟨rfl, hb⟩
  have HB2 := Lib.hid (below_transG HB1.out hb)
  have Hx2 := Lib.hid (Hx1.out.keep hb Hx1.out.lt)
  have Hu2 := Lib.hid (Hu1.out.keep hb Hu1.out.lt)
  have Hv2 := Lib.hid (Hv1.out.keep hb Hv1.out.lt)
  clear hb
  have x_0 : w2.cell? ⟨w.heap.size, 0, none⟩ = some (.int .i64 i) := Hx2.out.cellAt (i := 0) (by simp)
  have x_1 : w2.cell? ⟨w.heap.size, 1, none⟩ = some (.int .i64 n) := Hx2.out.cellAt (i := 1) (by simp)
  have x_2 : w2.cell? ⟨w.heap.size, 2, none⟩ = some (.int .i64 c) := Hx2.out.cellAt (i := 2) (by simp)
  have x_3 : w2.cell? ⟨w.heap.size, 3, none⟩ = some (.int .i64 p) := Hx2.out.cellAt (i := 3) (by simp)
  have x_4 : w2.cell? ⟨w.heap.size, 4, none⟩ = some (.int .i64 d) := Hx2.out.cellAt (i := 4) (by simp)
  have x_5 : w2.cell? ⟨w.heap.size, 5, none⟩ = some (.int .i64 s) := Hx2.out.cellAt (i := 5) (by simp)
  have x_6 : w2.cell? ⟨w.heap.size, 6, none⟩ = some (.int .i64 b) := Hx2.out.cellAt (i := 6) (by simp)
  have u_0 : w2.cell? ⟨(w.heap.size + 1), 0, none⟩ = some (.int .i64 ja) := Hu2.out.cellAt (i := 0) (by simp)
  have u_1 : w2.cell? ⟨(w.heap.size + 1), 1, none⟩ = some (.int .i64 ra) := Hu2.out.cellAt (i := 1) (by simp)
  have u_2 : w2.cell? ⟨(w.heap.size + 1), 2, none⟩ = some (.int .i64 ea) := Hu2.out.cellAt (i := 2) (by simp)
  have u_3 : w2.cell? ⟨(w.heap.size + 1), 3, none⟩ = some (.int .i64 ka) := Hu2.out.cellAt (i := 3) (by simp)
  have v_0 : w2.cell? ⟨(w.heap.size + 2), 0, none⟩ = some (.int .i64 jb) := Hv2.out.cellAt (i := 0) (by simp)
  have v_1 : w2.cell? ⟨(w.heap.size + 2), 1, none⟩ = some (.int .i64 rb) := Hv2.out.cellAt (i := 1) (by simp)
  have v_2 : w2.cell? ⟨(w.heap.size + 2), 2, none⟩ = some (.int .i64 eb) := Hv2.out.cellAt (i := 2) (by simp)
  have v_3 : w2.cell? ⟨(w.heap.size + 2), 3, none⟩ = some (.int .i64 kb) := Hv2.out.cellAt (i := 3) (by simp)
  go_wp2_with fail
  clear x_0 x_1 x_2 x_3 x_4 x_5 x_6 u_0 u_1 u_2 u_3 v_0 v_1 v_2 v_3
  refine (HJ2.out _ (HTX.out _ HB2.out).1 (HTX.out _ HB2.out).2).mono ?_
  rintro y w3 ⟨rfl, hb⟩
  have HB3 := Lib.hid (below_transG HB2.out hb)
  have Hx3 := Lib.hid (Hx2.out.keep hb Hx2.out.lt)
  have Hu3 := Lib.hid (Hu2.out.keep hb Hu2.out.lt)
  have Hv3 := Lib.hid (Hv2.out.keep hb Hv2.out.lt)
  clear hb
  have x_0 : w3.cell? ⟨w.heap.size, 0, none⟩ = some (.int .i64 i) := Hx3.out.cellAt (i := 0) (by simp)
  have x_1 : w3.cell? ⟨w.heap.size, 1, none⟩ = some (.int .i64 n) := Hx3.out.cellAt (i := 1) (by simp)
  have x_2 : w3.cell? ⟨w.heap.size, 2, none⟩ = some (.int .i64 c) := Hx3.out.cellAt (i := 2) (by simp)
  have x_3 : w3.cell? ⟨w.heap.size, 3, none⟩ = some (.int .i64 p) := Hx3.out.cellAt (i := 3) (by simp)
  have x_4 : w3.cell? ⟨w.heap.size, 4, none⟩ = some (.int .i64 d) := Hx3.out.cellAt (i := 4) (by simp)
  have x_5 : w3.cell? ⟨w.heap.size, 5, none⟩ = some (.int .i64 s) := Hx3.out.cellAt (i := 5) (by simp)
  have x_6 : w3.cell? ⟨w.heap.size, 6, none⟩ = some (.int .i64 b) := Hx3.out.cellAt (i := 6) (by simp)
  have u_0 : w3.cell? ⟨(w.heap.size + 1), 0, none⟩ = some (.int .i64 ja) := Hu3.out.cellAt (i := 0) (by simp)
  have u_1 : w3.cell? ⟨(w.heap.size + 1), 1, none⟩ = some (.int .i64 ra) := Hu3.out.cellAt (i := 1) (by simp)
  have u_2 : w3.cell? ⟨(w.heap.size + 1), 2, none⟩ = some (.int .i64 ea) := Hu3.out.cellAt (i := 2) (by simp)
  have u_3 : w3.cell? ⟨(w.heap.size + 1), 3, none⟩ = some (.int .i64 ka) := Hu3.out.cellAt (i := 3) (by simp)
  have v_0 : w3.cell? ⟨(w.heap.size + 2), 0, none⟩ = some (.int .i64 jb) := Hv3.out.cellAt (i := 0) (by simp)
  have v_1 : w3.cell? ⟨(w.heap.size + 2), 1, none⟩ = some (.int .i64 rb) := Hv3.out.cellAt (i := 1) (by simp)
  have v_2 : w3.cell? ⟨(w.heap.size + 2), 2, none⟩ = some (.int .i64 eb) := Hv3.out.cellAt (i := 2) (by simp)
  have v_3 : w3.cell? ⟨(w.heap.size + 2), 3, none⟩ = some (.int .i64 kb) := Hv3.out.cellAt (i := 3) (by simp)
  go_wp2_with fail
  go_ret
  exact ⟨rfl, HB3.out⟩
end Go.Proofs.YtolhckahphmffaaDoor
