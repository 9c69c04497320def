/- Package boxes: what must be whatever is asked (live of layer 13), and mailboxes that are filled one by one. No conditions. -/
import Derived.Test.YtbdockeopbfliaaBxe
namespace Go.Proofs.Ytbdockeopbfliaa
open Go.RowKit
instance decPD : DecidableEq PD := fun a b => decidable_of_iff (a.e = b.e ∧ a.n = b.n ∧ a.q = b.q ∧ a.l = b.l ∧ a.x0 = b.x0 ∧ a.x1 = b.x1 ∧ a.x2 = b.x2 ∧ a.x3 = b.x3 ∧ a.x4 = b.x4 ∧ a.x5 = b.x5 ∧ a.x6 = b.x6 ∧ a.x7 = b.x7 ∧ a.once = b.once ∧ a.tag = b.tag) ⟨fun h => by
  obtain ⟨h0, h1, h2, h3, h4, h5, h6, h7, h8, h9, h10, h11, h12, h13⟩ := h
  cases a; cases b
  simp_all, fun h => by subst h; simp⟩
instance decBD : DecidableEq BD := fun a b => decidable_of_iff (a.full = b.full ∧ a.p = b.p) ⟨fun h => by
  obtain ⟨h0, h1⟩ := h
  cases a; cases b
  simp_all, fun h => by subst h; simp⟩
theorem lv_a : putF 2 (List.replicate 8 BD.zero) ⟨false, 5, false, 0, 0, 0, 0, 0, 0, 0, 0, 0, false, 1⟩ = (0, 0, ((List.replicate 8 BD.zero).set 0 ⟨true, ⟨false, 5, false, 0, 0, 0, 0, 0, 0, 0, 0, 0, false, 1⟩⟩)) := by decide +kernel
theorem lv_b : putF 2 ((List.replicate 8 BD.zero).set 0 ⟨true, ⟨false, 5, false, 0, 0, 0, 0, 0, 0, 0, 0, 0, false, 1⟩⟩) ⟨false, 3, false, 0, 0, 0, 0, 0, 0, 0, 0, 0, false, 2⟩ = (1, 0, (((List.replicate 8 BD.zero).set 0 ⟨true, ⟨false, 5, false, 0, 0, 0, 0, 0, 0, 0, 0, 0, false, 1⟩⟩).set 1 ⟨true, ⟨false, 3, false, 0, 0, 0, 0, 0, 0, 0, 0, 0, false, 2⟩⟩)) := by decide +kernel
theorem lv_c : putF 2 (((List.replicate 8 BD.zero).set 0 ⟨true, ⟨false, 5, false, 0, 0, 0, 0, 0, 0, 0, 0, 0, false, 1⟩⟩).set 1 ⟨true, ⟨false, 3, false, 0, 0, 0, 0, 0, 0, 0, 0, 0, false, 2⟩⟩) ⟨false, 0, false, 0, 0, 0, 0, 0, 0, 0, 0, 0, false, 3⟩ = (-1, 6, (((List.replicate 8 BD.zero).set 0 ⟨true, ⟨false, 5, false, 0, 0, 0, 0, 0, 0, 0, 0, 0, false, 1⟩⟩).set 1 ⟨true, ⟨false, 3, false, 0, 0, 0, 0, 0, 0, 0, 0, 0, false, 2⟩⟩)) := by decide +kernel
theorem lv_d : bestF (((List.replicate 8 BD.zero).set 0 ⟨true, ⟨false, 5, false, 0, 0, 0, 0, 0, 0, 0, 0, 0, false, 1⟩⟩).set 1 ⟨true, ⟨false, 3, false, 0, 0, 0, 0, 0, 0, 0, 0, 0, false, 2⟩⟩) 2 = 1 := by decide +kernel
theorem lv_e : findF (((List.replicate 8 BD.zero).set 0 ⟨true, ⟨false, 5, false, 0, 0, 0, 0, 0, 0, 0, 0, 0, false, 1⟩⟩).set 1 ⟨true, ⟨false, 3, false, 0, 0, 0, 0, 0, 0, 0, 0, 0, false, 2⟩⟩) 2 1 = 0 := by decide +kernel
theorem lv_f : lenF (((List.replicate 8 BD.zero).set 0 ⟨true, ⟨false, 5, false, 0, 0, 0, 0, 0, 0, 0, 0, 0, false, 1⟩⟩).set 1 ⟨true, ⟨false, 3, false, 0, 0, 0, 0, 0, 0, 0, 0, 0, false, 2⟩⟩) 2 = 2 := by decide +kernel
theorem lv_g : bxAt (((List.replicate 8 BD.zero).set 0 ⟨true, ⟨false, 5, false, 0, 0, 0, 0, 0, 0, 0, 0, 0, false, 1⟩⟩).set 1 ⟨true, ⟨false, 3, false, 0, 0, 0, 0, 0, 0, 0, 0, 0, false, 2⟩⟩) 1 = ⟨true, ⟨false, 3, false, 0, 0, 0, 0, 0, 0, 0, 0, 0, false, 2⟩⟩ := by decide +kernel
theorem bx_small {L : List BD} (h : ∀ b ∈ L, b.p.n < 4294967296) : ∀ j, (bxAt L j).p.n < 4294967296 := fun j => by
  unfold bxAt
  by_cases hj : j < L.length
  · rw [List.getElem?_eq_getElem hj]
    exact h _ (List.getElem_mem _)
  · rw [List.getElem?_eq_none (by omega)]
    decide
theorem lv_n : ∀ j, (bxAt (((List.replicate 8 BD.zero).set 0 ⟨true, ⟨false, 5, false, 0, 0, 0, 0, 0, 0, 0, 0, 0, false, 1⟩⟩).set 1 ⟨true, ⟨false, 3, false, 0, 0, 0, 0, 0, 0, 0, 0, 0, false, 2⟩⟩) j).p.n < 4294967296 := bx_small (by decide +kernel)
set_option maxRecDepth 100000 in
set_option maxHeartbeats 4000000 in
theorem live13 (w : World) : Calls Try.prog 8 #[] w fun y w' => y = .returned (.bool true) ∧ Below w.heap.size w w' := by
  have HNW := Lib.hid (new_any 2 (by decide) (by decide) w)
  have HN0 := Lib.hid (fun u => new_no 0 (by decide) u)
  obtain ⟨B, hB⟩ : ∃ B, B = w.heap.size := ⟨_, rfl⟩
  have HBB := Lib.hid hB
  rw [← hB] at HNW
  clear hB
  go_enter Try.func8, Try.ntmps8
  go_wp2_with fail
  refine HNW.out.mono ?_
  rintro y w1 ⟨rfl, hx, hb⟩
  have HX1 := Lib.hid hx; have HB1 := Lib.hid (show Below w.heap.size w w1 by rw [← HBB.out]; exact hb)
  clear hx hb
  go_wp2_with fail
  refine (HN0.out _).mono ?_
  rintro y w2 ⟨rfl, rfl⟩
  have HPA := Lib.hid (put_any B _ 2 ⟨false, 5, false, 0, 0, 0, 0, 0, 0, 0, 0, 0, false, 1⟩ w1 HX1.out)
  rw [lv_a] at HPA
  unfold PD.V at HPA
  simp only at HPA
  go_wp2_with fail
  refine HPA.out.mono ?_
  rintro y w3 ⟨rfl, hx, hk⟩
  have HX3 := Lib.hid hx; have HB3 := Lib.hid (HB1.out.trans (hk.belowN (by rw [HBB.out]; exact Nat.le_refl _) HB1.out.size (fun g hg => by cases hg)))
  have HPB := Lib.hid (put_any B _ 2 ⟨false, 3, false, 0, 0, 0, 0, 0, 0, 0, 0, 0, false, 2⟩ w3 hx)
  rw [lv_b] at HPB
  unfold PD.V at HPB
  simp only at HPB
  clear hx hk HPA
  go_wp2_with fail
  refine HPB.out.mono ?_
  rintro y w4 ⟨rfl, hx, hk⟩
  have HX4 := Lib.hid hx; have HB4 := Lib.hid (HB3.out.trans (hk.belowN (by rw [HBB.out]; exact Nat.le_refl _) HB3.out.size (fun g hg => by cases hg)))
  have HPC := Lib.hid (put_any B _ 2 ⟨false, 0, false, 0, 0, 0, 0, 0, 0, 0, 0, 0, false, 3⟩ w4 hx)
  rw [lv_c] at HPC
  unfold PD.V at HPC
  simp only at HPC
  clear hx hk HPB
  go_wp2_with fail
  refine HPC.out.mono ?_
  rintro y w5 ⟨rfl, hx, hk⟩
  have HX5 := Lib.hid hx; have HB5 := Lib.hid (HB4.out.trans (hk.belowN (by rw [HBB.out]; exact Nat.le_refl _) HB4.out.size (fun g hg => by cases hg)))
  have HGE := Lib.hid (get_yes B _ 2 1 (by decide) w5 hx)
  rw [lv_g] at HGE
  unfold PD.V at HGE
  simp only at HGE
  clear hx hk HPC
  go_wp2_with fail
  refine HGE.out.mono ?_
  rintro y w6 ⟨rfl, hb⟩
  obtain ⟨W7, hW7⟩ : ∃ W7, W7 = w6.alloc (.cells #[.bool false, .int .u32 3, .bool false, .int .i64 0, .int .u8 0, .int .u8 0, .int .u8 0, .int .u8 0, .int .u8 0, .int .u8 0, .int .u8 0, .int .u8 0, .bool false, .int .i64 2] 39) := ⟨_, rfl⟩
  have hb7 : Below w6.heap.size w6 W7 := by rw [hW7]; exact (Below.refl _ w6).alloc (Nat.le_refl _) _
  have HX7 := Lib.hid ((HX5.out.on hb).on hb7); have HB7 := Lib.hid (below_transG (below_transG HB5.out hb) hb7)
  have HS7 := Lib.hid (show Blk W7 w6.heap.size 39 [.bool false, .int .u32 3, .bool false, .int .i64 0, .int .u8 0, .int .u8 0, .int .u8 0, .int .u8 0, .int .u8 0, .int .u8 0, .int .u8 0, .int .u8 0, .bool false, .int .i64 2] by rw [hW7]; exact Blk.new w6 _ [.bool false, .int .u32 3, .bool false, .int .i64 0, .int .u8 0, .int .u8 0, .int .u8 0, .int .u8 0, .int .u8 0, .int .u8 0, .int .u8 0, .int .u8 0, .bool false, .int .i64 2])
  clear hb hb7 HGE
  go_upto_region 8 with fail
  rw [← hW7]
  clear hW7
  obtain ⟨D, hD⟩ : ∃ D, D = w6.heap.size := ⟨_, rfl⟩
  rw [← hD] at HS7 ⊢
  clear hD
  have HBE := Lib.hid (best_any B _ 2 lv_n W7 HX7.out)
  rw [lv_d] at HBE
  go_wp2_with fail
  refine HBE.out.mono ?_
  rintro y w8 ⟨rfl, hb⟩
  have HX8 := Lib.hid (HX7.out.on hb); have HB8 := Lib.hid (below_transG HB7.out hb); have HS8 := Lib.hid (HS7.out.keep hb HS7.out.lt)
  have HFI := Lib.hid (find_any B _ 2 1 w8 HX8.out)
  rw [lv_e] at HFI
  clear hb HBE
  go_wp2_with fail
  refine HFI.out.mono ?_
  rintro y w9 ⟨rfl, hb⟩
  have HX9 := Lib.hid (HX8.out.on hb); have HB9 := Lib.hid (below_transG HB8.out hb)
  have hS := HS8.out.keep hb HS8.out.lt
  have d13 := hS.cellAt (i := 13) (by simp)
  simp only [List.getElem_cons_zero, List.getElem_cons_succ] at d13
  have HLE := Lib.hid (blen_any B _ 2 w9 HX9.out)
  rw [lv_f] at HLE
  clear hb hS HFI
  go_wp2_with fail
  refine HLE.out.mono ?_
  rintro y w10 ⟨rfl, hb⟩
  have HX10 := Lib.hid (HX9.out.on hb); have HB10 := Lib.hid (below_transG HB9.out hb)
  clear hb HLE d13
  go_wp2_with fail
  refine (room_any B _ 2 w10 HX10.out).mono ?_
  rintro y w11 ⟨rfl, hb⟩
  have HB11 := Lib.hid (below_transG HB10.out hb)
  clear hb
  go_wp2_with fail
  refine (best_nil w11).mono ?_
  rintro y w12 ⟨rfl, hb⟩
  have HB12 := Lib.hid (below_transG HB11.out hb)
  clear hb
  go_wp2_with fail
  refine (blen_nil w12).mono ?_
  rintro y w13 ⟨rfl, hb⟩
  have HB13 := Lib.hid (below_transG HB12.out hb)
  clear hb
  go_wp2_with fail
  go_ret
  exact ⟨rfl, HB13.out⟩
end Go.Proofs.Ytbdockeopbfliaa
