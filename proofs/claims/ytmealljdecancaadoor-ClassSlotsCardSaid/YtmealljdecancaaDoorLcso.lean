/- ClassSlots (P23.5): of one class the lesser slot is before; a class is before all of a greater one. Conditions: none but the widths, which the card ties. -/
import Derived.Test.YtmealljdecancaaDoorRows
import Derived.Test.YtmealljdecancaaDoorCle
import Derived.Test.YtmealljdecancaaDoorClt
import Derived.WalkKit
import Derived.ProofKit
import Derived.OpenShut
import Derived.ShutString
import Derived.ChangeOld
import Derived.Below
namespace Go.Proofs.YtmealljdecancaaDoor.classSlots
open Go.ChangeShapes Go.WideShapes Go.ChangeAt Go.RowKit
theorem own : ownKnob Tryd.prog.godebug = none := by kernel_rfl
theorem laidOut : laidOutB Tryd.prog = true := by kernel_rfl
set_option maxRecDepth 100000 in
set_option maxHeartbeats 8000000 in
theorem walk (l m : Lb) (w : World) (h0 : 0 < w.heap.size) (hT : TabW w) : Calls Tryd.prog 7 #[l.v, m.v] w fun y w' => y = .returned (.bool true) ∧ Below w.heap.size w w' := by
  have HTX := Lib.hid (show ∀ x, Below w.heap.size w x → 0 < x.heap.size ∧ TabW x from fun x hx => ⟨Nat.lt_of_lt_of_le h0 hx.size, hT.on hx h0⟩)
  have HTZ := Lib.hid hT; have H00 := Lib.hid h0
  clear hT h0
  have HL := Lib.hid (fun u a b => live23 u a b)
  have H1 := Lib.hid (fun u => clbefore_any l.c l.s l.t l.n m.c m.s m.t m.n u); have H2 := Lib.hid (fun u => clbefore_any m.c m.s m.t m.n l.c l.s l.t l.n u)
  obtain ⟨lc, ls, lt_, ln⟩ := l
  obtain ⟨mc, ms, mt, mn⟩ := m
  unfold Lb.v
  dsimp only at H1 H2 ⊢
  have cs : lc < mc ∨ mc < lc ∨ (lc = mc ∧ ls < ms) ∨ (lc = mc ∧ ms < ls) ∨ (lc = mc ∧ ls = ms ∧ lt_ < mt) ∨ (lc = mc ∧ ls = ms ∧ mt < lt_) ∨ (lc = mc ∧ ls = ms ∧ lt_ = mt ∧ ln < mn) ∨ (lc = mc ∧ ls = ms ∧ lt_ = mt ∧ mn < ln) ∨ (lc = mc ∧ ls = ms ∧ lt_ = mt ∧ ln = mn) := by omega
  rcases cs with h | h | ⟨rfl, h⟩ | ⟨rfl, h⟩ | ⟨rfl, rfl, h⟩ | ⟨rfl, rfl, h⟩ | ⟨rfl, rfl, rfl, h⟩ | ⟨rfl, rfl, rfl, h⟩ | ⟨rfl, rfl, rfl, rfl⟩
  · rw [befL_0 (by omega), decide_eq_true h] at H1
    rw [befL_0 (by omega), decide_eq_false (by omega)] at H2
    have g1 : (lc == mc) = false := by rw [beq_eq_false_iff_ne]; omega
    have g2 : ¬ mc ≤ lc := by omega
    have g3 : ¬ mc = lc := by omega
    clear h
    go_enter Tryd.func7, Tryd.ntmps7
    go_upto_region 1 with fail
    obtain ⟨W1, hW1⟩ : ∃ W, W = ((w.alloc (.cells #[.int .i64 lc, .int .i64 ls, .int .i64 lt_, .int .i64 ln] 24)).alloc (.cells #[.int .i64 mc, .int .i64 ms, .int .i64 mt, .int .i64 mn] 24)) := ⟨_, rfl⟩
    have hbel_ : Below w.heap.size w W1 := by rw [hW1]; exact (((Below.refl w.heap.size w).alloc (Nat.le_refl w.heap.size) _).alloc (by have := (Nat.le_refl w.heap.size); simp only [World.size_alloc]; omega) _)
    have h_l : Blk W1 w.heap.size 24 [.int .i64 lc, .int .i64 ls, .int .i64 lt_, .int .i64 ln] := by rw [hW1]; exact (blk_at (w) w.heap.size (by rfl) 24 [.int .i64 lc, .int .i64 ls, .int .i64 lt_, .int .i64 ln]).keep ((Below.refl (w.heap.size + 1) _).alloc (by simp only [World.size_alloc]; omega) _) (by omega)
    have h_m : Blk W1 (w.heap.size + 1) 24 [.int .i64 mc, .int .i64 ms, .int .i64 mt, .int .i64 mn] := by rw [hW1]; exact (blk_at ((w.alloc (.cells #[.int .i64 lc, .int .i64 ls, .int .i64 lt_, .int .i64 ln] 24))) (w.heap.size + 1) (by simp only [World.size_alloc]) 24 [.int .i64 mc, .int .i64 ms, .int .i64 mt, .int .i64 mn]).keep (Below.refl ((w.heap.size + 1) + 1) _) (by omega)
    rw [← hW1]
    have HB1 := Lib.hid hbel_
    have Hl1 := Lib.hid h_l
    have Hm1 := Lib.hid h_m
    clear hbel_ hW1  h_l h_m
    have l_0 : W1.cell? ⟨w.heap.size, 0, none⟩ = some (.int .i64 lc) := Hl1.out.cellAt (i := 0) (by simp)
    have l_1 : W1.cell? ⟨w.heap.size, 1, none⟩ = some (.int .i64 ls) := Hl1.out.cellAt (i := 1) (by simp)
    have l_2 : W1.cell? ⟨w.heap.size, 2, none⟩ = some (.int .i64 lt_) := Hl1.out.cellAt (i := 2) (by simp)
    have l_3 : W1.cell? ⟨w.heap.size, 3, none⟩ = some (.int .i64 ln) := Hl1.out.cellAt (i := 3) (by simp)
    have m_0 : W1.cell? ⟨(w.heap.size + 1), 0, none⟩ = some (.int .i64 mc) := Hm1.out.cellAt (i := 0) (by simp)
    have m_1 : W1.cell? ⟨(w.heap.size + 1), 1, none⟩ = some (.int .i64 ms) := Hm1.out.cellAt (i := 1) (by simp)
    have m_2 : W1.cell? ⟨(w.heap.size + 1), 2, none⟩ = some (.int .i64 mt) := Hm1.out.cellAt (i := 2) (by simp)
    have m_3 : W1.cell? ⟨(w.heap.size + 1), 3, none⟩ = some (.int .i64 mn) := Hm1.out.cellAt (i := 3) (by simp)
    go_wp2_with fail
    clear l_0 l_1 l_2 l_3 m_0 m_1 m_2 m_3
    refine (HL.out _ (HTX.out _ HB1.out).1 (HTX.out _ HB1.out).2).mono ?_
    rintro y w2 ⟨rfl, hb⟩
    have HB2 := Lib.hid (below_transG HB1.out hb)
    have Hl2 := Lib.hid (Hl1.out.keep hb Hl1.out.lt)
    have Hm2 := Lib.hid (Hm1.out.keep hb Hm1.out.lt)
    clear hb
    have l_0 : w2.cell? ⟨w.heap.size, 0, none⟩ = some (.int .i64 lc) := Hl2.out.cellAt (i := 0) (by simp)
    have l_1 : w2.cell? ⟨w.heap.size, 1, none⟩ = some (.int .i64 ls) := Hl2.out.cellAt (i := 1) (by simp)
    have l_2 : w2.cell? ⟨w.heap.size, 2, none⟩ = some (.int .i64 lt_) := Hl2.out.cellAt (i := 2) (by simp)
    have l_3 : w2.cell? ⟨w.heap.size, 3, none⟩ = some (.int .i64 ln) := Hl2.out.cellAt (i := 3) (by simp)
    have m_0 : w2.cell? ⟨(w.heap.size + 1), 0, none⟩ = some (.int .i64 mc) := Hm2.out.cellAt (i := 0) (by simp)
    have m_1 : w2.cell? ⟨(w.heap.size + 1), 1, none⟩ = some (.int .i64 ms) := Hm2.out.cellAt (i := 1) (by simp)
    have m_2 : w2.cell? ⟨(w.heap.size + 1), 2, none⟩ = some (.int .i64 mt) := Hm2.out.cellAt (i := 2) (by simp)
    have m_3 : w2.cell? ⟨(w.heap.size + 1), 3, none⟩ = some (.int .i64 mn) := Hm2.out.cellAt (i := 3) (by simp)
    go_wp2_with fail
    clear l_0 l_1 l_2 l_3 m_0 m_1 m_2 m_3
    refine (H1.out _).mono ?_
    rintro y w3 ⟨rfl, hb⟩
    have HB3 := Lib.hid (below_transG HB2.out hb)
    have Hl3 := Lib.hid (Hl2.out.keep hb Hl2.out.lt)
    have Hm3 := Lib.hid (Hm2.out.keep hb Hm2.out.lt)
    clear hb
    have l_0 : w3.cell? ⟨w.heap.size, 0, none⟩ = some (.int .i64 lc) := Hl3.out.cellAt (i := 0) (by simp)
    have l_1 : w3.cell? ⟨w.heap.size, 1, none⟩ = some (.int .i64 ls) := Hl3.out.cellAt (i := 1) (by simp)
    have l_2 : w3.cell? ⟨w.heap.size, 2, none⟩ = some (.int .i64 lt_) := Hl3.out.cellAt (i := 2) (by simp)
    have l_3 : w3.cell? ⟨w.heap.size, 3, none⟩ = some (.int .i64 ln) := Hl3.out.cellAt (i := 3) (by simp)
    have m_0 : w3.cell? ⟨(w.heap.size + 1), 0, none⟩ = some (.int .i64 mc) := Hm3.out.cellAt (i := 0) (by simp)
    have m_1 : w3.cell? ⟨(w.heap.size + 1), 1, none⟩ = some (.int .i64 ms) := Hm3.out.cellAt (i := 1) (by simp)
    have m_2 : w3.cell? ⟨(w.heap.size + 1), 2, none⟩ = some (.int .i64 mt) := Hm3.out.cellAt (i := 2) (by simp)
    have m_3 : w3.cell? ⟨(w.heap.size + 1), 3, none⟩ = some (.int .i64 mn) := Hm3.out.cellAt (i := 3) (by simp)
    go_wp2_with fail
    clear l_0 l_1 l_2 l_3 m_0 m_1 m_2 m_3
    refine (H1.out _).mono ?_
    rintro y w4 ⟨rfl, hb⟩
    have HB4 := Lib.hid (below_transG HB3.out hb)
    have Hl4 := Lib.hid (Hl3.out.keep hb Hl3.out.lt)
    have Hm4 := Lib.hid (Hm3.out.keep hb Hm3.out.lt)
    clear hb
    have l_0 : w4.cell? ⟨w.heap.size, 0, none⟩ = some (.int .i64 lc) := Hl4.out.cellAt (i := 0) (by simp)
    have l_1 : w4.cell? ⟨w.heap.size, 1, none⟩ = some (.int .i64 ls) := Hl4.out.cellAt (i := 1) (by simp)
    have l_2 : w4.cell? ⟨w.heap.size, 2, none⟩ = some (.int .i64 lt_) := Hl4.out.cellAt (i := 2) (by simp)
    have l_3 : w4.cell? ⟨w.heap.size, 3, none⟩ = some (.int .i64 ln) := Hl4.out.cellAt (i := 3) (by simp)
    have m_0 : w4.cell? ⟨(w.heap.size + 1), 0, none⟩ = some (.int .i64 mc) := Hm4.out.cellAt (i := 0) (by simp)
    have m_1 : w4.cell? ⟨(w.heap.size + 1), 1, none⟩ = some (.int .i64 ms) := Hm4.out.cellAt (i := 1) (by simp)
    have m_2 : w4.cell? ⟨(w.heap.size + 1), 2, none⟩ = some (.int .i64 mt) := Hm4.out.cellAt (i := 2) (by simp)
    have m_3 : w4.cell? ⟨(w.heap.size + 1), 3, none⟩ = some (.int .i64 mn) := Hm4.out.cellAt (i := 3) (by simp)
    go_wp2_with fail
    clear l_0 l_1 l_2 l_3 m_0 m_1 m_2 m_3
    refine (H2.out _).mono ?_
    rintro y w5 ⟨rfl, hb⟩
    have HB5 := Lib.hid (below_transG HB4.out hb)
    have Hl5 := Lib.hid (Hl4.out.keep hb Hl4.out.lt)
    have Hm5 := Lib.hid (Hm4.out.keep hb Hm4.out.lt)
    clear hb
    have l_0 : w5.cell? ⟨w.heap.size, 0, none⟩ = some (.int .i64 lc) := Hl5.out.cellAt (i := 0) (by simp)
    have l_1 : w5.cell? ⟨w.heap.size, 1, none⟩ = some (.int .i64 ls) := Hl5.out.cellAt (i := 1) (by simp)
    have l_2 : w5.cell? ⟨w.heap.size, 2, none⟩ = some (.int .i64 lt_) := Hl5.out.cellAt (i := 2) (by simp)
    have l_3 : w5.cell? ⟨w.heap.size, 3, none⟩ = some (.int .i64 ln) := Hl5.out.cellAt (i := 3) (by simp)
    have m_0 : w5.cell? ⟨(w.heap.size + 1), 0, none⟩ = some (.int .i64 mc) := Hm5.out.cellAt (i := 0) (by simp)
    have m_1 : w5.cell? ⟨(w.heap.size + 1), 1, none⟩ = some (.int .i64 ms) := Hm5.out.cellAt (i := 1) (by simp)
    have m_2 : w5.cell? ⟨(w.heap.size + 1), 2, none⟩ = some (.int .i64 mt) := Hm5.out.cellAt (i := 2) (by simp)
    have m_3 : w5.cell? ⟨(w.heap.size + 1), 3, none⟩ = some (.int .i64 mn) := Hm5.out.cellAt (i := 3) (by simp)
    go_wp2_with fail
    clear l_0 l_1 l_2 l_3 m_0 m_1 m_2 m_3
    refine (H1.out _).mono ?_
    rintro y w6 ⟨rfl, hb⟩
    have HB6 := Lib.hid (below_transG HB5.out hb)
    have Hl6 := Lib.hid (Hl5.out.keep hb Hl5.out.lt)
    have Hm6 := Lib.hid (Hm5.out.keep hb Hm5.out.lt)
    clear hb
    have l_0 : w6.cell? ⟨w.heap.size, 0, none⟩ = some (.int .i64 lc) := Hl6.out.cellAt (i := 0) (by simp)
    have l_1 : w6.cell? ⟨w.heap.size, 1, none⟩ = some (.int .i64 ls) := Hl6.out.cellAt (i := 1) (by simp)
    have l_2 : w6.cell? ⟨w.heap.size, 2, none⟩ = some (.int .i64 lt_) := Hl6.out.cellAt (i := 2) (by simp)
    have l_3 : w6.cell? ⟨w.heap.size, 3, none⟩ = some (.int .i64 ln) := Hl6.out.cellAt (i := 3) (by simp)
    have m_0 : w6.cell? ⟨(w.heap.size + 1), 0, none⟩ = some (.int .i64 mc) := Hm6.out.cellAt (i := 0) (by simp)
    have m_1 : w6.cell? ⟨(w.heap.size + 1), 1, none⟩ = some (.int .i64 ms) := Hm6.out.cellAt (i := 1) (by simp)
    have m_2 : w6.cell? ⟨(w.heap.size + 1), 2, none⟩ = some (.int .i64 mt) := Hm6.out.cellAt (i := 2) (by simp)
    have m_3 : w6.cell? ⟨(w.heap.size + 1), 3, none⟩ = some (.int .i64 mn) := Hm6.out.cellAt (i := 3) (by simp)
    go_wp2_with fail
    go_ret
    exact ⟨rfl, HB6.out⟩
  · rw [befL_0 (by omega), decide_eq_false (by omega)] at H1
    rw [befL_0 (by omega), decide_eq_true h] at H2
    have g1 : (lc == mc) = false := by rw [beq_eq_false_iff_ne]; omega
    have g2 : mc ≤ lc := by omega
    have g3 : ¬ mc = lc := by omega
    clear h
    go_enter Tryd.func7, Tryd.ntmps7
    go_upto_region 1 with fail
    obtain ⟨W1, hW1⟩ : ∃ W, W = ((w.alloc (.cells #[.int .i64 lc, .int .i64 ls, .int .i64 lt_, .int .i64 ln] 24)).alloc (.cells #[.int .i64 mc, .int .i64 ms, .int .i64 mt, .int .i64 mn] 24)) := ⟨_, rfl⟩
    have hbel_ : Below w.heap.size w W1 := by rw [hW1]; exact (((Below.refl w.heap.size w).alloc (Nat.le_refl w.heap.size) _).alloc (by have := (Nat.le_refl w.heap.size); simp only [World.size_alloc]; omega) _)
    have h_l : Blk W1 w.heap.size 24 [.int .i64 lc, .int .i64 ls, .int .i64 lt_, .int .i64 ln] := by rw [hW1]; exact (blk_at (w) w.heap.size (by rfl) 24 [.int .i64 lc, .int .i64 ls, .int .i64 lt_, .int .i64 ln]).keep ((Below.refl (w.heap.size + 1) _).alloc (by simp only [World.size_alloc]; omega) _) (by omega)
    have h_m : Blk W1 (w.heap.size + 1) 24 [.int .i64 mc, .int .i64 ms, .int .i64 mt, .int .i64 mn] := by rw [hW1]; exact (blk_at ((w.alloc (.cells #[.int .i64 lc, .int .i64 ls, .int .i64 lt_, .int .i64 ln] 24))) (w.heap.size + 1) (by simp only [World.size_alloc]) 24 [.int .i64 mc, .int .i64 ms, .int .i64 mt, .int .i64 mn]).keep (Below.refl ((w.heap.size + 1) + 1) _) (by omega)
    rw [← hW1]
    have HB1 := Lib.hid hbel_
    have Hl1 := Lib.hid h_l
    have Hm1 := Lib.hid h_m
    clear hbel_ hW1  h_l h_m
    have l_0 : W1.cell? ⟨w.heap.size, 0, none⟩ = some (.int .i64 lc) := Hl1.out.cellAt (i := 0) (by simp)
    have l_1 : W1.cell? ⟨w.heap.size, 1, none⟩ = some (.int .i64 ls) := Hl1.out.cellAt (i := 1) (by simp)
    have l_2 : W1.cell? ⟨w.heap.size, 2, none⟩ = some (.int .i64 lt_) := Hl1.out.cellAt (i := 2) (by simp)
    have l_3 : W1.cell? ⟨w.heap.size, 3, none⟩ = some (.int .i64 ln) := Hl1.out.cellAt (i := 3) (by simp)
    have m_0 : W1.cell? ⟨(w.heap.size + 1), 0, none⟩ = some (.int .i64 mc) := Hm1.out.cellAt (i := 0) (by simp)
    have m_1 : W1.cell? ⟨(w.heap.size + 1), 1, none⟩ = some (.int .i64 ms) := Hm1.out.cellAt (i := 1) (by simp)
    have m_2 : W1.cell? ⟨(w.heap.size + 1), 2, none⟩ = some (.int .i64 mt) := Hm1.out.cellAt (i := 2) (by simp)
    have m_3 : W1.cell? ⟨(w.heap.size + 1), 3, none⟩ = some (.int .i64 mn) := Hm1.out.cellAt (i := 3) (by simp)
    go_wp2_with fail
    clear l_0 l_1 l_2 l_3 m_0 m_1 m_2 m_3
    refine (HL.out _ (HTX.out _ HB1.out).1 (HTX.out _ HB1.out).2).mono ?_
    rintro y w2 ⟨rfl, hb⟩
    have HB2 := Lib.hid (below_transG HB1.out hb)
    have Hl2 := Lib.hid (Hl1.out.keep hb Hl1.out.lt)
    have Hm2 := Lib.hid (Hm1.out.keep hb Hm1.out.lt)
    clear hb
    have l_0 : w2.cell? ⟨w.heap.size, 0, none⟩ = some (.int .i64 lc) := Hl2.out.cellAt (i := 0) (by simp)
    have l_1 : w2.cell? ⟨w.heap.size, 1, none⟩ = some (.int .i64 ls) := Hl2.out.cellAt (i := 1) (by simp)
    have l_2 : w2.cell? ⟨w.heap.size, 2, none⟩ = some (.int .i64 lt_) := Hl2.out.cellAt (i := 2) (by simp)
    have l_3 : w2.cell? ⟨w.heap.size, 3, none⟩ = some (.int .i64 ln) := Hl2.out.cellAt (i := 3) (by simp)
    have m_0 : w2.cell? ⟨(w.heap.size + 1), 0, none⟩ = some (.int .i64 mc) := Hm2.out.cellAt (i := 0) (by simp)
    have m_1 : w2.cell? ⟨(w.heap.size + 1), 1, none⟩ = some (.int .i64 ms) := Hm2.out.cellAt (i := 1) (by simp)
    have m_2 : w2.cell? ⟨(w.heap.size + 1), 2, none⟩ = some (.int .i64 mt) := Hm2.out.cellAt (i := 2) (by simp)
    have m_3 : w2.cell? ⟨(w.heap.size + 1), 3, none⟩ = some (.int .i64 mn) := Hm2.out.cellAt (i := 3) (by simp)
    go_wp2_with fail
    clear l_0 l_1 l_2 l_3 m_0 m_1 m_2 m_3
    refine (H1.out _).mono ?_
    rintro y w3 ⟨rfl, hb⟩
    have HB3 := Lib.hid (below_transG HB2.out hb)
    have Hl3 := Lib.hid (Hl2.out.keep hb Hl2.out.lt)
    have Hm3 := Lib.hid (Hm2.out.keep hb Hm2.out.lt)
    clear hb
    have l_0 : w3.cell? ⟨w.heap.size, 0, none⟩ = some (.int .i64 lc) := Hl3.out.cellAt (i := 0) (by simp)
    have l_1 : w3.cell? ⟨w.heap.size, 1, none⟩ = some (.int .i64 ls) := Hl3.out.cellAt (i := 1) (by simp)
    have l_2 : w3.cell? ⟨w.heap.size, 2, none⟩ = some (.int .i64 lt_) := Hl3.out.cellAt (i := 2) (by simp)
    have l_3 : w3.cell? ⟨w.heap.size, 3, none⟩ = some (.int .i64 ln) := Hl3.out.cellAt (i := 3) (by simp)
    have m_0 : w3.cell? ⟨(w.heap.size + 1), 0, none⟩ = some (.int .i64 mc) := Hm3.out.cellAt (i := 0) (by simp)
    have m_1 : w3.cell? ⟨(w.heap.size + 1), 1, none⟩ = some (.int .i64 ms) := Hm3.out.cellAt (i := 1) (by simp)
    have m_2 : w3.cell? ⟨(w.heap.size + 1), 2, none⟩ = some (.int .i64 mt) := Hm3.out.cellAt (i := 2) (by simp)
    have m_3 : w3.cell? ⟨(w.heap.size + 1), 3, none⟩ = some (.int .i64 mn) := Hm3.out.cellAt (i := 3) (by simp)
    go_wp2_with fail
    clear l_0 l_1 l_2 l_3 m_0 m_1 m_2 m_3
    refine (H1.out _).mono ?_
    rintro y w4 ⟨rfl, hb⟩
    have HB4 := Lib.hid (below_transG HB3.out hb)
    have Hl4 := Lib.hid (Hl3.out.keep hb Hl3.out.lt)
    have Hm4 := Lib.hid (Hm3.out.keep hb Hm3.out.lt)
    clear hb
    have l_0 : w4.cell? ⟨w.heap.size, 0, none⟩ = some (.int .i64 lc) := Hl4.out.cellAt (i := 0) (by simp)
    have l_1 : w4.cell? ⟨w.heap.size, 1, none⟩ = some (.int .i64 ls) := Hl4.out.cellAt (i := 1) (by simp)
    have l_2 : w4.cell? ⟨w.heap.size, 2, none⟩ = some (.int .i64 lt_) := Hl4.out.cellAt (i := 2) (by simp)
    have l_3 : w4.cell? ⟨w.heap.size, 3, none⟩ = some (.int .i64 ln) := Hl4.out.cellAt (i := 3) (by simp)
    have m_0 : w4.cell? ⟨(w.heap.size + 1), 0, none⟩ = some (.int .i64 mc) := Hm4.out.cellAt (i := 0) (by simp)
    have m_1 : w4.cell? ⟨(w.heap.size + 1), 1, none⟩ = some (.int .i64 ms) := Hm4.out.cellAt (i := 1) (by simp)
    have m_2 : w4.cell? ⟨(w.heap.size + 1), 2, none⟩ = some (.int .i64 mt) := Hm4.out.cellAt (i := 2) (by simp)
    have m_3 : w4.cell? ⟨(w.heap.size + 1), 3, none⟩ = some (.int .i64 mn) := Hm4.out.cellAt (i := 3) (by simp)
    go_wp2_with fail
    clear l_0 l_1 l_2 l_3 m_0 m_1 m_2 m_3
    refine (H2.out _).mono ?_
    rintro y w5 ⟨rfl, hb⟩
    have HB5 := Lib.hid (below_transG HB4.out hb)
    have Hl5 := Lib.hid (Hl4.out.keep hb Hl4.out.lt)
    have Hm5 := Lib.hid (Hm4.out.keep hb Hm4.out.lt)
    clear hb
    have l_0 : w5.cell? ⟨w.heap.size, 0, none⟩ = some (.int .i64 lc) := Hl5.out.cellAt (i := 0) (by simp)
    have l_1 : w5.cell? ⟨w.heap.size, 1, none⟩ = some (.int .i64 ls) := Hl5.out.cellAt (i := 1) (by simp)
    have l_2 : w5.cell? ⟨w.heap.size, 2, none⟩ = some (.int .i64 lt_) := Hl5.out.cellAt (i := 2) (by simp)
    have l_3 : w5.cell? ⟨w.heap.size, 3, none⟩ = some (.int .i64 ln) := Hl5.out.cellAt (i := 3) (by simp)
    have m_0 : w5.cell? ⟨(w.heap.size + 1), 0, none⟩ = some (.int .i64 mc) := Hm5.out.cellAt (i := 0) (by simp)
    have m_1 : w5.cell? ⟨(w.heap.size + 1), 1, none⟩ = some (.int .i64 ms) := Hm5.out.cellAt (i := 1) (by simp)
    have m_2 : w5.cell? ⟨(w.heap.size + 1), 2, none⟩ = some (.int .i64 mt) := Hm5.out.cellAt (i := 2) (by simp)
    have m_3 : w5.cell? ⟨(w.heap.size + 1), 3, none⟩ = some (.int .i64 mn) := Hm5.out.cellAt (i := 3) (by simp)
    go_wp2_with fail
    go_ret
    exact ⟨rfl, HB5.out⟩
  · rw [befL_1 (by omega), decide_eq_true h] at H1
    rw [befL_1 (by omega), decide_eq_false (by omega)] at H2
    have g1 : (ls == ms) = false := by rw [beq_eq_false_iff_ne]; omega
    have g2 : ¬ ms ≤ ls := by omega
    have g3 : ¬ ms = ls := by omega
    clear h
    go_enter Tryd.func7, Tryd.ntmps7
    go_upto_region 1 with fail
    obtain ⟨W1, hW1⟩ : ∃ W, W = ((w.alloc (.cells #[.int .i64 lc, .int .i64 ls, .int .i64 lt_, .int .i64 ln] 24)).alloc (.cells #[.int .i64 lc, .int .i64 ms, .int .i64 mt, .int .i64 mn] 24)) := ⟨_, rfl⟩
    have hbel_ : Below w.heap.size w W1 := by rw [hW1]; exact (((Below.refl w.heap.size w).alloc (Nat.le_refl w.heap.size) _).alloc (by have := (Nat.le_refl w.heap.size); simp only [World.size_alloc]; omega) _)
    have h_l : Blk W1 w.heap.size 24 [.int .i64 lc, .int .i64 ls, .int .i64 lt_, .int .i64 ln] := by rw [hW1]; exact (blk_at (w) w.heap.size (by rfl) 24 [.int .i64 lc, .int .i64 ls, .int .i64 lt_, .int .i64 ln]).keep ((Below.refl (w.heap.size + 1) _).alloc (by simp only [World.size_alloc]; omega) _) (by omega)
    have h_m : Blk W1 (w.heap.size + 1) 24 [.int .i64 lc, .int .i64 ms, .int .i64 mt, .int .i64 mn] := by rw [hW1]; exact (blk_at ((w.alloc (.cells #[.int .i64 lc, .int .i64 ls, .int .i64 lt_, .int .i64 ln] 24))) (w.heap.size + 1) (by simp only [World.size_alloc]) 24 [.int .i64 lc, .int .i64 ms, .int .i64 mt, .int .i64 mn]).keep (Below.refl ((w.heap.size + 1) + 1) _) (by omega)
    rw [← hW1]
    have HB1 := Lib.hid hbel_
    have Hl1 := Lib.hid h_l
    have Hm1 := Lib.hid h_m
    clear hbel_ hW1  h_l h_m
    have l_0 : W1.cell? ⟨w.heap.size, 0, none⟩ = some (.int .i64 lc) := Hl1.out.cellAt (i := 0) (by simp)
    have l_1 : W1.cell? ⟨w.heap.size, 1, none⟩ = some (.int .i64 ls) := Hl1.out.cellAt (i := 1) (by simp)
    have l_2 : W1.cell? ⟨w.heap.size, 2, none⟩ = some (.int .i64 lt_) := Hl1.out.cellAt (i := 2) (by simp)
    have l_3 : W1.cell? ⟨w.heap.size, 3, none⟩ = some (.int .i64 ln) := Hl1.out.cellAt (i := 3) (by simp)
    have m_0 : W1.cell? ⟨(w.heap.size + 1), 0, none⟩ = some (.int .i64 lc) := Hm1.out.cellAt (i := 0) (by simp)
    have m_1 : W1.cell? ⟨(w.heap.size + 1), 1, none⟩ = some (.int .i64 ms) := Hm1.out.cellAt (i := 1) (by simp)
    have m_2 : W1.cell? ⟨(w.heap.size + 1), 2, none⟩ = some (.int .i64 mt) := Hm1.out.cellAt (i := 2) (by simp)
    have m_3 : W1.cell? ⟨(w.heap.size + 1), 3, none⟩ = some (.int .i64 mn) := Hm1.out.cellAt (i := 3) (by simp)
    go_wp2_with fail
    clear l_0 l_1 l_2 l_3 m_0 m_1 m_2 m_3
    refine (HL.out _ (HTX.out _ HB1.out).1 (HTX.out _ HB1.out).2).mono ?_
    rintro y w2 ⟨rfl, hb⟩
    have HB2 := Lib.hid (below_transG HB1.out hb)
    have Hl2 := Lib.hid (Hl1.out.keep hb Hl1.out.lt)
    have Hm2 := Lib.hid (Hm1.out.keep hb Hm1.out.lt)
    clear hb
    have l_0 : w2.cell? ⟨w.heap.size, 0, none⟩ = some (.int .i64 lc) := Hl2.out.cellAt (i := 0) (by simp)
    have l_1 : w2.cell? ⟨w.heap.size, 1, none⟩ = some (.int .i64 ls) := Hl2.out.cellAt (i := 1) (by simp)
    have l_2 : w2.cell? ⟨w.heap.size, 2, none⟩ = some (.int .i64 lt_) := Hl2.out.cellAt (i := 2) (by simp)
    have l_3 : w2.cell? ⟨w.heap.size, 3, none⟩ = some (.int .i64 ln) := Hl2.out.cellAt (i := 3) (by simp)
    have m_0 : w2.cell? ⟨(w.heap.size + 1), 0, none⟩ = some (.int .i64 lc) := Hm2.out.cellAt (i := 0) (by simp)
    have m_1 : w2.cell? ⟨(w.heap.size + 1), 1, none⟩ = some (.int .i64 ms) := Hm2.out.cellAt (i := 1) (by simp)
    have m_2 : w2.cell? ⟨(w.heap.size + 1), 2, none⟩ = some (.int .i64 mt) := Hm2.out.cellAt (i := 2) (by simp)
    have m_3 : w2.cell? ⟨(w.heap.size + 1), 3, none⟩ = some (.int .i64 mn) := Hm2.out.cellAt (i := 3) (by simp)
    go_wp2_with fail
    clear l_0 l_1 l_2 l_3 m_0 m_1 m_2 m_3
    refine (H1.out _).mono ?_
    rintro y w3 ⟨rfl, hb⟩
    have HB3 := Lib.hid (below_transG HB2.out hb)
    have Hl3 := Lib.hid (Hl2.out.keep hb Hl2.out.lt)
    have Hm3 := Lib.hid (Hm2.out.keep hb Hm2.out.lt)
    clear hb
    have l_0 : w3.cell? ⟨w.heap.size, 0, none⟩ = some (.int .i64 lc) := Hl3.out.cellAt (i := 0) (by simp)
    have l_1 : w3.cell? ⟨w.heap.size, 1, none⟩ = some (.int .i64 ls) := Hl3.out.cellAt (i := 1) (by simp)
    have l_2 : w3.cell? ⟨w.heap.size, 2, none⟩ = some (.int .i64 lt_) := Hl3.out.cellAt (i := 2) (by simp)
    have l_3 : w3.cell? ⟨w.heap.size, 3, none⟩ = some (.int .i64 ln) := Hl3.out.cellAt (i := 3) (by simp)
    have m_0 : w3.cell? ⟨(w.heap.size + 1), 0, none⟩ = some (.int .i64 lc) := Hm3.out.cellAt (i := 0) (by simp)
    have m_1 : w3.cell? ⟨(w.heap.size + 1), 1, none⟩ = some (.int .i64 ms) := Hm3.out.cellAt (i := 1) (by simp)
    have m_2 : w3.cell? ⟨(w.heap.size + 1), 2, none⟩ = some (.int .i64 mt) := Hm3.out.cellAt (i := 2) (by simp)
    have m_3 : w3.cell? ⟨(w.heap.size + 1), 3, none⟩ = some (.int .i64 mn) := Hm3.out.cellAt (i := 3) (by simp)
    go_wp2_with fail
    clear l_0 l_1 l_2 l_3 m_0 m_1 m_2 m_3
    refine (H1.out _).mono ?_
    rintro y w4 ⟨rfl, hb⟩
    have HB4 := Lib.hid (below_transG HB3.out hb)
    have Hl4 := Lib.hid (Hl3.out.keep hb Hl3.out.lt)
    have Hm4 := Lib.hid (Hm3.out.keep hb Hm3.out.lt)
    clear hb
    have l_0 : w4.cell? ⟨w.heap.size, 0, none⟩ = some (.int .i64 lc) := Hl4.out.cellAt (i := 0) (by simp)
    have l_1 : w4.cell? ⟨w.heap.size, 1, none⟩ = some (.int .i64 ls) := Hl4.out.cellAt (i := 1) (by simp)
    have l_2 : w4.cell? ⟨w.heap.size, 2, none⟩ = some (.int .i64 lt_) := Hl4.out.cellAt (i := 2) (by simp)
    have l_3 : w4.cell? ⟨w.heap.size, 3, none⟩ = some (.int .i64 ln) := Hl4.out.cellAt (i := 3) (by simp)
    have m_0 : w4.cell? ⟨(w.heap.size + 1), 0, none⟩ = some (.int .i64 lc) := Hm4.out.cellAt (i := 0) (by simp)
    have m_1 : w4.cell? ⟨(w.heap.size + 1), 1, none⟩ = some (.int .i64 ms) := Hm4.out.cellAt (i := 1) (by simp)
    have m_2 : w4.cell? ⟨(w.heap.size + 1), 2, none⟩ = some (.int .i64 mt) := Hm4.out.cellAt (i := 2) (by simp)
    have m_3 : w4.cell? ⟨(w.heap.size + 1), 3, none⟩ = some (.int .i64 mn) := Hm4.out.cellAt (i := 3) (by simp)
    go_wp2_with fail
    clear l_0 l_1 l_2 l_3 m_0 m_1 m_2 m_3
    refine (H2.out _).mono ?_
    rintro y w5 ⟨rfl, hb⟩
    have HB5 := Lib.hid (below_transG HB4.out hb)
    have Hl5 := Lib.hid (Hl4.out.keep hb Hl4.out.lt)
    have Hm5 := Lib.hid (Hm4.out.keep hb Hm4.out.lt)
    clear hb
    have l_0 : w5.cell? ⟨w.heap.size, 0, none⟩ = some (.int .i64 lc) := Hl5.out.cellAt (i := 0) (by simp)
    have l_1 : w5.cell? ⟨w.heap.size, 1, none⟩ = some (.int .i64 ls) := Hl5.out.cellAt (i := 1) (by simp)
    have l_2 : w5.cell? ⟨w.heap.size, 2, none⟩ = some (.int .i64 lt_) := Hl5.out.cellAt (i := 2) (by simp)
    have l_3 : w5.cell? ⟨w.heap.size, 3, none⟩ = some (.int .i64 ln) := Hl5.out.cellAt (i := 3) (by simp)
    have m_0 : w5.cell? ⟨(w.heap.size + 1), 0, none⟩ = some (.int .i64 lc) := Hm5.out.cellAt (i := 0) (by simp)
    have m_1 : w5.cell? ⟨(w.heap.size + 1), 1, none⟩ = some (.int .i64 ms) := Hm5.out.cellAt (i := 1) (by simp)
    have m_2 : w5.cell? ⟨(w.heap.size + 1), 2, none⟩ = some (.int .i64 mt) := Hm5.out.cellAt (i := 2) (by simp)
    have m_3 : w5.cell? ⟨(w.heap.size + 1), 3, none⟩ = some (.int .i64 mn) := Hm5.out.cellAt (i := 3) (by simp)
    go_wp2_with fail
    clear l_0 l_1 l_2 l_3 m_0 m_1 m_2 m_3
    refine (H1.out _).mono ?_
    rintro y w6 ⟨rfl, hb⟩
    have HB6 := Lib.hid (below_transG HB5.out hb)
    have Hl6 := Lib.hid (Hl5.out.keep hb Hl5.out.lt)
    have Hm6 := Lib.hid (Hm5.out.keep hb Hm5.out.lt)
    clear hb
    have l_0 : w6.cell? ⟨w.heap.size, 0, none⟩ = some (.int .i64 lc) := Hl6.out.cellAt (i := 0) (by simp)
    have l_1 : w6.cell? ⟨w.heap.size, 1, none⟩ = some (.int .i64 ls) := Hl6.out.cellAt (i := 1) (by simp)
    have l_2 : w6.cell? ⟨w.heap.size, 2, none⟩ = some (.int .i64 lt_) := Hl6.out.cellAt (i := 2) (by simp)
    have l_3 : w6.cell? ⟨w.heap.size, 3, none⟩ = some (.int .i64 ln) := Hl6.out.cellAt (i := 3) (by simp)
    have m_0 : w6.cell? ⟨(w.heap.size + 1), 0, none⟩ = some (.int .i64 lc) := Hm6.out.cellAt (i := 0) (by simp)
    have m_1 : w6.cell? ⟨(w.heap.size + 1), 1, none⟩ = some (.int .i64 ms) := Hm6.out.cellAt (i := 1) (by simp)
    have m_2 : w6.cell? ⟨(w.heap.size + 1), 2, none⟩ = some (.int .i64 mt) := Hm6.out.cellAt (i := 2) (by simp)
    have m_3 : w6.cell? ⟨(w.heap.size + 1), 3, none⟩ = some (.int .i64 mn) := Hm6.out.cellAt (i := 3) (by simp)
    go_wp2_with fail
    go_ret
    exact ⟨rfl, HB6.out⟩
  · rw [befL_1 (by omega), decide_eq_false (by omega)] at H1
    rw [befL_1 (by omega), decide_eq_true h] at H2
    have g1 : (ls == ms) = false := by rw [beq_eq_false_iff_ne]; omega
    have g2 : ms ≤ ls := by omega
    have g3 : ¬ ms = ls := by omega
    clear h
    go_enter Tryd.func7, Tryd.ntmps7
    go_upto_region 1 with fail
    obtain ⟨W1, hW1⟩ : ∃ W, W = ((w.alloc (.cells #[.int .i64 lc, .int .i64 ls, .int .i64 lt_, .int .i64 ln] 24)).alloc (.cells #[.int .i64 lc, .int .i64 ms, .int .i64 mt, .int .i64 mn] 24)) := ⟨_, rfl⟩
    have hbel_ : Below w.heap.size w W1 := by rw [hW1]; exact (((Below.refl w.heap.size w).alloc (Nat.le_refl w.heap.size) _).alloc (by have := (Nat.le_refl w.heap.size); simp only [World.size_alloc]; omega) _)
    have h_l : Blk W1 w.heap.size 24 [.int .i64 lc, .int .i64 ls, .int .i64 lt_, .int .i64 ln] := by rw [hW1]; exact (blk_at (w) w.heap.size (by rfl) 24 [.int .i64 lc, .int .i64 ls, .int .i64 lt_, .int .i64 ln]).keep ((Below.refl (w.heap.size + 1) _).alloc (by simp only [World.size_alloc]; omega) _) (by omega)
    have h_m : Blk W1 (w.heap.size + 1) 24 [.int .i64 lc, .int .i64 ms, .int .i64 mt, .int .i64 mn] := by rw [hW1]; exact (blk_at ((w.alloc (.cells #[.int .i64 lc, .int .i64 ls, .int .i64 lt_, .int .i64 ln] 24))) (w.heap.size + 1) (by simp only [World.size_alloc]) 24 [.int .i64 lc, .int .i64 ms, .int .i64 mt, .int .i64 mn]).keep (Below.refl ((w.heap.size + 1) + 1) _) (by omega)
    rw [← hW1]
    have HB1 := Lib.hid hbel_
    have Hl1 := Lib.hid h_l
    have Hm1 := Lib.hid h_m
    clear hbel_ hW1  h_l h_m
    have l_0 : W1.cell? ⟨w.heap.size, 0, none⟩ = some (.int .i64 lc) := Hl1.out.cellAt (i := 0) (by simp)
    have l_1 : W1.cell? ⟨w.heap.size, 1, none⟩ = some (.int .i64 ls) := Hl1.out.cellAt (i := 1) (by simp)
    have l_2 : W1.cell? ⟨w.heap.size, 2, none⟩ = some (.int .i64 lt_) := Hl1.out.cellAt (i := 2) (by simp)
    have l_3 : W1.cell? ⟨w.heap.size, 3, none⟩ = some (.int .i64 ln) := Hl1.out.cellAt (i := 3) (by simp)
    have m_0 : W1.cell? ⟨(w.heap.size + 1), 0, none⟩ = some (.int .i64 lc) := Hm1.out.cellAt (i := 0) (by simp)
    have m_1 : W1.cell? ⟨(w.heap.size + 1), 1, none⟩ = some (.int .i64 ms) := Hm1.out.cellAt (i := 1) (by simp)
    have m_2 : W1.cell? ⟨(w.heap.size + 1), 2, none⟩ = some (.int .i64 mt) := Hm1.out.cellAt (i := 2) (by simp)
    have m_3 : W1.cell? ⟨(w.heap.size + 1), 3, none⟩ = some (.int .i64 mn) := Hm1.out.cellAt (i := 3) (by simp)
    go_wp2_with fail
    clear l_0 l_1 l_2 l_3 m_0 m_1 m_2 m_3
    refine (HL.out _ (HTX.out _ HB1.out).1 (HTX.out _ HB1.out).2).mono ?_
    rintro y w2 ⟨rfl, hb⟩
    have HB2 := Lib.hid (below_transG HB1.out hb)
    have Hl2 := Lib.hid (Hl1.out.keep hb Hl1.out.lt)
    have Hm2 := Lib.hid (Hm1.out.keep hb Hm1.out.lt)
    clear hb
    have l_0 : w2.cell? ⟨w.heap.size, 0, none⟩ = some (.int .i64 lc) := Hl2.out.cellAt (i := 0) (by simp)
    have l_1 : w2.cell? ⟨w.heap.size, 1, none⟩ = some (.int .i64 ls) := Hl2.out.cellAt (i := 1) (by simp)
    have l_2 : w2.cell? ⟨w.heap.size, 2, none⟩ = some (.int .i64 lt_) := Hl2.out.cellAt (i := 2) (by simp)
    have l_3 : w2.cell? ⟨w.heap.size, 3, none⟩ = some (.int .i64 ln) := Hl2.out.cellAt (i := 3) (by simp)
    have m_0 : w2.cell? ⟨(w.heap.size + 1), 0, none⟩ = some (.int .i64 lc) := Hm2.out.cellAt (i := 0) (by simp)
    have m_1 : w2.cell? ⟨(w.heap.size + 1), 1, none⟩ = some (.int .i64 ms) := Hm2.out.cellAt (i := 1) (by simp)
    have m_2 : w2.cell? ⟨(w.heap.size + 1), 2, none⟩ = some (.int .i64 mt) := Hm2.out.cellAt (i := 2) (by simp)
    have m_3 : w2.cell? ⟨(w.heap.size + 1), 3, none⟩ = some (.int .i64 mn) := Hm2.out.cellAt (i := 3) (by simp)
    go_wp2_with fail
    clear l_0 l_1 l_2 l_3 m_0 m_1 m_2 m_3
    refine (H1.out _).mono ?_
    rintro y w3 ⟨rfl, hb⟩
    have HB3 := Lib.hid (below_transG HB2.out hb)
    have Hl3 := Lib.hid (Hl2.out.keep hb Hl2.out.lt)
    have Hm3 := Lib.hid (Hm2.out.keep hb Hm2.out.lt)
    clear hb
    have l_0 : w3.cell? ⟨w.heap.size, 0, none⟩ = some (.int .i64 lc) := Hl3.out.cellAt (i := 0) (by simp)
    have l_1 : w3.cell? ⟨w.heap.size, 1, none⟩ = some (.int .i64 ls) := Hl3.out.cellAt (i := 1) (by simp)
    have l_2 : w3.cell? ⟨w.heap.size, 2, none⟩ = some (.int .i64 lt_) := Hl3.out.cellAt (i := 2) (by simp)
    have l_3 : w3.cell? ⟨w.heap.size, 3, none⟩ = some (.int .i64 ln) := Hl3.out.cellAt (i := 3) (by simp)
    have m_0 : w3.cell? ⟨(w.heap.size + 1), 0, none⟩ = some (.int .i64 lc) := Hm3.out.cellAt (i := 0) (by simp)
    have m_1 : w3.cell? ⟨(w.heap.size + 1), 1, none⟩ = some (.int .i64 ms) := Hm3.out.cellAt (i := 1) (by simp)
    have m_2 : w3.cell? ⟨(w.heap.size + 1), 2, none⟩ = some (.int .i64 mt) := Hm3.out.cellAt (i := 2) (by simp)
    have m_3 : w3.cell? ⟨(w.heap.size + 1), 3, none⟩ = some (.int .i64 mn) := Hm3.out.cellAt (i := 3) (by simp)
    go_wp2_with fail
    clear l_0 l_1 l_2 l_3 m_0 m_1 m_2 m_3
    refine (H1.out _).mono ?_
    rintro y w4 ⟨rfl, hb⟩
    have HB4 := Lib.hid (below_transG HB3.out hb)
    have Hl4 := Lib.hid (Hl3.out.keep hb Hl3.out.lt)
    have Hm4 := Lib.hid (Hm3.out.keep hb Hm3.out.lt)
    clear hb
    have l_0 : w4.cell? ⟨w.heap.size, 0, none⟩ = some (.int .i64 lc) := Hl4.out.cellAt (i := 0) (by simp)
    have l_1 : w4.cell? ⟨w.heap.size, 1, none⟩ = some (.int .i64 ls) := Hl4.out.cellAt (i := 1) (by simp)
    have l_2 : w4.cell? ⟨w.heap.size, 2, none⟩ = some (.int .i64 lt_) := Hl4.out.cellAt (i := 2) (by simp)
    have l_3 : w4.cell? ⟨w.heap.size, 3, none⟩ = some (.int .i64 ln) := Hl4.out.cellAt (i := 3) (by simp)
    have m_0 : w4.cell? ⟨(w.heap.size + 1), 0, none⟩ = some (.int .i64 lc) := Hm4.out.cellAt (i := 0) (by simp)
    have m_1 : w4.cell? ⟨(w.heap.size + 1), 1, none⟩ = some (.int .i64 ms) := Hm4.out.cellAt (i := 1) (by simp)
    have m_2 : w4.cell? ⟨(w.heap.size + 1), 2, none⟩ = some (.int .i64 mt) := Hm4.out.cellAt (i := 2) (by simp)
    have m_3 : w4.cell? ⟨(w.heap.size + 1), 3, none⟩ = some (.int .i64 mn) := Hm4.out.cellAt (i := 3) (by simp)
    go_wp2_with fail
    clear l_0 l_1 l_2 l_3 m_0 m_1 m_2 m_3
    refine (H2.out _).mono ?_
    rintro y w5 ⟨rfl, hb⟩
    have HB5 := Lib.hid (below_transG HB4.out hb)
    have Hl5 := Lib.hid (Hl4.out.keep hb Hl4.out.lt)
    have Hm5 := Lib.hid (Hm4.out.keep hb Hm4.out.lt)
    clear hb
    have l_0 : w5.cell? ⟨w.heap.size, 0, none⟩ = some (.int .i64 lc) := Hl5.out.cellAt (i := 0) (by simp)
    have l_1 : w5.cell? ⟨w.heap.size, 1, none⟩ = some (.int .i64 ls) := Hl5.out.cellAt (i := 1) (by simp)
    have l_2 : w5.cell? ⟨w.heap.size, 2, none⟩ = some (.int .i64 lt_) := Hl5.out.cellAt (i := 2) (by simp)
    have l_3 : w5.cell? ⟨w.heap.size, 3, none⟩ = some (.int .i64 ln) := Hl5.out.cellAt (i := 3) (by simp)
    have m_0 : w5.cell? ⟨(w.heap.size + 1), 0, none⟩ = some (.int .i64 lc) := Hm5.out.cellAt (i := 0) (by simp)
    have m_1 : w5.cell? ⟨(w.heap.size + 1), 1, none⟩ = some (.int .i64 ms) := Hm5.out.cellAt (i := 1) (by simp)
    have m_2 : w5.cell? ⟨(w.heap.size + 1), 2, none⟩ = some (.int .i64 mt) := Hm5.out.cellAt (i := 2) (by simp)
    have m_3 : w5.cell? ⟨(w.heap.size + 1), 3, none⟩ = some (.int .i64 mn) := Hm5.out.cellAt (i := 3) (by simp)
    go_wp2_with fail
    go_ret
    exact ⟨rfl, HB5.out⟩
  · rw [befL_2 (by omega), decide_eq_true h] at H1
    rw [befL_2 (by omega), decide_eq_false (by omega)] at H2
    have g1 : (lt_ == mt) = false := by rw [beq_eq_false_iff_ne]; omega
    have g2 : ¬ mt ≤ lt_ := by omega
    have g3 : ¬ mt = lt_ := by omega
    clear h
    go_enter Tryd.func7, Tryd.ntmps7
    go_upto_region 1 with fail
    obtain ⟨W1, hW1⟩ : ∃ W, W = ((w.alloc (.cells #[.int .i64 lc, .int .i64 ls, .int .i64 lt_, .int .i64 ln] 24)).alloc (.cells #[.int .i64 lc, .int .i64 ls, .int .i64 mt, .int .i64 mn] 24)) := ⟨_, rfl⟩
    have hbel_ : Below w.heap.size w W1 := by rw [hW1]; exact (((Below.refl w.heap.size w).alloc (Nat.le_refl w.heap.size) _).alloc (by have := (Nat.le_refl w.heap.size); simp only [World.size_alloc]; omega) _)
    have h_l : Blk W1 w.heap.size 24 [.int .i64 lc, .int .i64 ls, .int .i64 lt_, .int .i64 ln] := by rw [hW1]; exact (blk_at (w) w.heap.size (by rfl) 24 [.int .i64 lc, .int .i64 ls, .int .i64 lt_, .int .i64 ln]).keep ((Below.refl (w.heap.size + 1) _).alloc (by simp only [World.size_alloc]; omega) _) (by omega)
    have h_m : Blk W1 (w.heap.size + 1) 24 [.int .i64 lc, .int .i64 ls, .int .i64 mt, .int .i64 mn] := by rw [hW1]; exact (blk_at ((w.alloc (.cells #[.int .i64 lc, .int .i64 ls, .int .i64 lt_, .int .i64 ln] 24))) (w.heap.size + 1) (by simp only [World.size_alloc]) 24 [.int .i64 lc, .int .i64 ls, .int .i64 mt, .int .i64 mn]).keep (Below.refl ((w.heap.size + 1) + 1) _) (by omega)
    rw [← hW1]
    have HB1 := Lib.hid hbel_
    have Hl1 := Lib.hid h_l
    have Hm1 := Lib.hid h_m
    clear hbel_ hW1  h_l h_m
    have l_0 : W1.cell? ⟨w.heap.size, 0, none⟩ = some (.int .i64 lc) := Hl1.out.cellAt (i := 0) (by simp)
    have l_1 : W1.cell? ⟨w.heap.size, 1, none⟩ = some (.int .i64 ls) := Hl1.out.cellAt (i := 1) (by simp)
    have l_2 : W1.cell? ⟨w.heap.size, 2, none⟩ = some (.int .i64 lt_) := Hl1.out.cellAt (i := 2) (by simp)
    have l_3 : W1.cell? ⟨w.heap.size, 3, none⟩ = some (.int .i64 ln) := Hl1.out.cellAt (i := 3) (by simp)
    have m_0 : W1.cell? ⟨(w.heap.size + 1), 0, none⟩ = some (.int .i64 lc) := Hm1.out.cellAt (i := 0) (by simp)
    have m_1 : W1.cell? ⟨(w.heap.size + 1), 1, none⟩ = some (.int .i64 ls) := Hm1.out.cellAt (i := 1) (by simp)
    have m_2 : W1.cell? ⟨(w.heap.size + 1), 2, none⟩ = some (.int .i64 mt) := Hm1.out.cellAt (i := 2) (by simp)
    have m_3 : W1.cell? ⟨(w.heap.size + 1), 3, none⟩ = some (.int .i64 mn) := Hm1.out.cellAt (i := 3) (by simp)
    go_wp2_with fail
    clear l_0 l_1 l_2 l_3 m_0 m_1 m_2 m_3
    refine (HL.out _ (HTX.out _ HB1.out).1 (HTX.out _ HB1.out).2).mono ?_
    rintro y w2 ⟨rfl, hb⟩
    have HB2 := Lib.hid (below_transG HB1.out hb)
    have Hl2 := Lib.hid (Hl1.out.keep hb Hl1.out.lt)
    have Hm2 := Lib.hid (Hm1.out.keep hb Hm1.out.lt)
    clear hb
    have l_0 : w2.cell? ⟨w.heap.size, 0, none⟩ = some (.int .i64 lc) := Hl2.out.cellAt (i := 0) (by simp)
    have l_1 : w2.cell? ⟨w.heap.size, 1, none⟩ = some (.int .i64 ls) := Hl2.out.cellAt (i := 1) (by simp)
    have l_2 : w2.cell? ⟨w.heap.size, 2, none⟩ = some (.int .i64 lt_) := Hl2.out.cellAt (i := 2) (by simp)
    have l_3 : w2.cell? ⟨w.heap.size, 3, none⟩ = some (.int .i64 ln) := Hl2.out.cellAt (i := 3) (by simp)
    have m_0 : w2.cell? ⟨(w.heap.size + 1), 0, none⟩ = some (.int .i64 lc) := Hm2.out.cellAt (i := 0) (by simp)
    have m_1 : w2.cell? ⟨(w.heap.size + 1), 1, none⟩ = some (.int .i64 ls) := Hm2.out.cellAt (i := 1) (by simp)
    have m_2 : w2.cell? ⟨(w.heap.size + 1), 2, none⟩ = some (.int .i64 mt) := Hm2.out.cellAt (i := 2) (by simp)
    have m_3 : w2.cell? ⟨(w.heap.size + 1), 3, none⟩ = some (.int .i64 mn) := Hm2.out.cellAt (i := 3) (by simp)
    go_wp2_with fail
    clear l_0 l_1 l_2 l_3 m_0 m_1 m_2 m_3
    refine (H1.out _).mono ?_
    rintro y w3 ⟨rfl, hb⟩
    have HB3 := Lib.hid (below_transG HB2.out hb)
    have Hl3 := Lib.hid (Hl2.out.keep hb Hl2.out.lt)
    have Hm3 := Lib.hid (Hm2.out.keep hb Hm2.out.lt)
    clear hb
    have l_0 : w3.cell? ⟨w.heap.size, 0, none⟩ = some (.int .i64 lc) := Hl3.out.cellAt (i := 0) (by simp)
    have l_1 : w3.cell? ⟨w.heap.size, 1, none⟩ = some (.int .i64 ls) := Hl3.out.cellAt (i := 1) (by simp)
    have l_2 : w3.cell? ⟨w.heap.size, 2, none⟩ = some (.int .i64 lt_) := Hl3.out.cellAt (i := 2) (by simp)
    have l_3 : w3.cell? ⟨w.heap.size, 3, none⟩ = some (.int .i64 ln) := Hl3.out.cellAt (i := 3) (by simp)
    have m_0 : w3.cell? ⟨(w.heap.size + 1), 0, none⟩ = some (.int .i64 lc) := Hm3.out.cellAt (i := 0) (by simp)
    have m_1 : w3.cell? ⟨(w.heap.size + 1), 1, none⟩ = some (.int .i64 ls) := Hm3.out.cellAt (i := 1) (by simp)
    have m_2 : w3.cell? ⟨(w.heap.size + 1), 2, none⟩ = some (.int .i64 mt) := Hm3.out.cellAt (i := 2) (by simp)
    have m_3 : w3.cell? ⟨(w.heap.size + 1), 3, none⟩ = some (.int .i64 mn) := Hm3.out.cellAt (i := 3) (by simp)
    go_wp2_with fail
    clear l_0 l_1 l_2 l_3 m_0 m_1 m_2 m_3
    refine (H2.out _).mono ?_
    rintro y w4 ⟨rfl, hb⟩
    have HB4 := Lib.hid (below_transG HB3.out hb)
    have Hl4 := Lib.hid (Hl3.out.keep hb Hl3.out.lt)
    have Hm4 := Lib.hid (Hm3.out.keep hb Hm3.out.lt)
    clear hb
    have l_0 : w4.cell? ⟨w.heap.size, 0, none⟩ = some (.int .i64 lc) := Hl4.out.cellAt (i := 0) (by simp)
    have l_1 : w4.cell? ⟨w.heap.size, 1, none⟩ = some (.int .i64 ls) := Hl4.out.cellAt (i := 1) (by simp)
    have l_2 : w4.cell? ⟨w.heap.size, 2, none⟩ = some (.int .i64 lt_) := Hl4.out.cellAt (i := 2) (by simp)
    have l_3 : w4.cell? ⟨w.heap.size, 3, none⟩ = some (.int .i64 ln) := Hl4.out.cellAt (i := 3) (by simp)
    have m_0 : w4.cell? ⟨(w.heap.size + 1), 0, none⟩ = some (.int .i64 lc) := Hm4.out.cellAt (i := 0) (by simp)
    have m_1 : w4.cell? ⟨(w.heap.size + 1), 1, none⟩ = some (.int .i64 ls) := Hm4.out.cellAt (i := 1) (by simp)
    have m_2 : w4.cell? ⟨(w.heap.size + 1), 2, none⟩ = some (.int .i64 mt) := Hm4.out.cellAt (i := 2) (by simp)
    have m_3 : w4.cell? ⟨(w.heap.size + 1), 3, none⟩ = some (.int .i64 mn) := Hm4.out.cellAt (i := 3) (by simp)
    go_wp2_with fail
    clear l_0 l_1 l_2 l_3 m_0 m_1 m_2 m_3
    refine (H1.out _).mono ?_
    rintro y w5 ⟨rfl, hb⟩
    have HB5 := Lib.hid (below_transG HB4.out hb)
    have Hl5 := Lib.hid (Hl4.out.keep hb Hl4.out.lt)
    have Hm5 := Lib.hid (Hm4.out.keep hb Hm4.out.lt)
    clear hb
    have l_0 : w5.cell? ⟨w.heap.size, 0, none⟩ = some (.int .i64 lc) := Hl5.out.cellAt (i := 0) (by simp)
    have l_1 : w5.cell? ⟨w.heap.size, 1, none⟩ = some (.int .i64 ls) := Hl5.out.cellAt (i := 1) (by simp)
    have l_2 : w5.cell? ⟨w.heap.size, 2, none⟩ = some (.int .i64 lt_) := Hl5.out.cellAt (i := 2) (by simp)
    have l_3 : w5.cell? ⟨w.heap.size, 3, none⟩ = some (.int .i64 ln) := Hl5.out.cellAt (i := 3) (by simp)
    have m_0 : w5.cell? ⟨(w.heap.size + 1), 0, none⟩ = some (.int .i64 lc) := Hm5.out.cellAt (i := 0) (by simp)
    have m_1 : w5.cell? ⟨(w.heap.size + 1), 1, none⟩ = some (.int .i64 ls) := Hm5.out.cellAt (i := 1) (by simp)
    have m_2 : w5.cell? ⟨(w.heap.size + 1), 2, none⟩ = some (.int .i64 mt) := Hm5.out.cellAt (i := 2) (by simp)
    have m_3 : w5.cell? ⟨(w.heap.size + 1), 3, none⟩ = some (.int .i64 mn) := Hm5.out.cellAt (i := 3) (by simp)
    go_wp2_with fail
    go_ret
    exact ⟨rfl, HB5.out⟩
  · rw [befL_2 (by omega), decide_eq_false (by omega)] at H1
    rw [befL_2 (by omega), decide_eq_true h] at H2
    have g1 : (lt_ == mt) = false := by rw [beq_eq_false_iff_ne]; omega
    have g2 : mt ≤ lt_ := by omega
    have g3 : ¬ mt = lt_ := by omega
    clear h
    go_enter Tryd.func7, Tryd.ntmps7
    go_upto_region 1 with fail
    obtain ⟨W1, hW1⟩ : ∃ W, W = ((w.alloc (.cells #[.int .i64 lc, .int .i64 ls, .int .i64 lt_, .int .i64 ln] 24)).alloc (.cells #[.int .i64 lc, .int .i64 ls, .int .i64 mt, .int .i64 mn] 24)) := ⟨_, rfl⟩
    have hbel_ : Below w.heap.size w W1 := by rw [hW1]; exact (((Below.refl w.heap.size w).alloc (Nat.le_refl w.heap.size) _).alloc (by have := (Nat.le_refl w.heap.size); simp only [World.size_alloc]; omega) _)
    have h_l : Blk W1 w.heap.size 24 [.int .i64 lc, .int .i64 ls, .int .i64 lt_, .int .i64 ln] := by rw [hW1]; exact (blk_at (w) w.heap.size (by rfl) 24 [.int .i64 lc, .int .i64 ls, .int .i64 lt_, .int .i64 ln]).keep ((Below.refl (w.heap.size + 1) _).alloc (by simp only [World.size_alloc]; omega) _) (by omega)
    have h_m : Blk W1 (w.heap.size + 1) 24 [.int .i64 lc, .int .i64 ls, .int .i64 mt, .int .i64 mn] := by rw [hW1]; exact (blk_at ((w.alloc (.cells #[.int .i64 lc, .int .i64 ls, .int .i64 lt_, .int .i64 ln] 24))) (w.heap.size + 1) (by simp only [World.size_alloc]) 24 [.int .i64 lc, .int .i64 ls, .int .i64 mt, .int .i64 mn]).keep (Below.refl ((w.heap.size + 1) + 1) _) (by omega)
    rw [← hW1]
    have HB1 := Lib.hid hbel_
    have Hl1 := Lib.hid h_l
    have Hm1 := Lib.hid h_m
    clear hbel_ hW1  h_l h_m
    have l_0 : W1.cell? ⟨w.heap.size, 0, none⟩ = some (.int .i64 lc) := Hl1.out.cellAt (i := 0) (by simp)
    have l_1 : W1.cell? ⟨w.heap.size, 1, none⟩ = some (.int .i64 ls) := Hl1.out.cellAt (i := 1) (by simp)
    have l_2 : W1.cell? ⟨w.heap.size, 2, none⟩ = some (.int .i64 lt_) := Hl1.out.cellAt (i := 2) (by simp)
    have l_3 : W1.cell? ⟨w.heap.size, 3, none⟩ = some (.int .i64 ln) := Hl1.out.cellAt (i := 3) (by simp)
    have m_0 : W1.cell? ⟨(w.heap.size + 1), 0, none⟩ = some (.int .i64 lc) := Hm1.out.cellAt (i := 0) (by simp)
    have m_1 : W1.cell? ⟨(w.heap.size + 1), 1, none⟩ = some (.int .i64 ls) := Hm1.out.cellAt (i := 1) (by simp)
    have m_2 : W1.cell? ⟨(w.heap.size + 1), 2, none⟩ = some (.int .i64 mt) := Hm1.out.cellAt (i := 2) (by simp)
    have m_3 : W1.cell? ⟨(w.heap.size + 1), 3, none⟩ = some (.int .i64 mn) := Hm1.out.cellAt (i := 3) (by simp)
    go_wp2_with fail
    clear l_0 l_1 l_2 l_3 m_0 m_1 m_2 m_3
    refine (HL.out _ (HTX.out _ HB1.out).1 (HTX.out _ HB1.out).2).mono ?_
    rintro y w2 ⟨rfl, hb⟩
    have HB2 := Lib.hid (below_transG HB1.out hb)
    have Hl2 := Lib.hid (Hl1.out.keep hb Hl1.out.lt)
    have Hm2 := Lib.hid (Hm1.out.keep hb Hm1.out.lt)
    clear hb
    have l_0 : w2.cell? ⟨w.heap.size, 0, none⟩ = some (.int .i64 lc) := Hl2.out.cellAt (i := 0) (by simp)
    have l_1 : w2.cell? ⟨w.heap.size, 1, none⟩ = some (.int .i64 ls) := Hl2.out.cellAt (i := 1) (by simp)
    have l_2 : w2.cell? ⟨w.heap.size, 2, none⟩ = some (.int .i64 lt_) := Hl2.out.cellAt (i := 2) (by simp)
    have l_3 : w2.cell? ⟨w.heap.size, 3, none⟩ = some (.int .i64 ln) := Hl2.out.cellAt (i := 3) (by simp)
    have m_0 : w2.cell? ⟨(w.heap.size + 1), 0, none⟩ = some (.int .i64 lc) := Hm2.out.cellAt (i := 0) (by simp)
    have m_1 : w2.cell? ⟨(w.heap.size + 1), 1, none⟩ = some (.int .i64 ls) := Hm2.out.cellAt (i := 1) (by simp)
    have m_2 : w2.cell? ⟨(w.heap.size + 1), 2, none⟩ = some (.int .i64 mt) := Hm2.out.cellAt (i := 2) (by simp)
    have m_3 : w2.cell? ⟨(w.heap.size + 1), 3, none⟩ = some (.int .i64 mn) := Hm2.out.cellAt (i := 3) (by simp)
    go_wp2_with fail
    clear l_0 l_1 l_2 l_3 m_0 m_1 m_2 m_3
    refine (H1.out _).mono ?_
    rintro y w3 ⟨rfl, hb⟩
    have HB3 := Lib.hid (below_transG HB2.out hb)
    have Hl3 := Lib.hid (Hl2.out.keep hb Hl2.out.lt)
    have Hm3 := Lib.hid (Hm2.out.keep hb Hm2.out.lt)
    clear hb
    have l_0 : w3.cell? ⟨w.heap.size, 0, none⟩ = some (.int .i64 lc) := Hl3.out.cellAt (i := 0) (by simp)
    have l_1 : w3.cell? ⟨w.heap.size, 1, none⟩ = some (.int .i64 ls) := Hl3.out.cellAt (i := 1) (by simp)
    have l_2 : w3.cell? ⟨w.heap.size, 2, none⟩ = some (.int .i64 lt_) := Hl3.out.cellAt (i := 2) (by simp)
    have l_3 : w3.cell? ⟨w.heap.size, 3, none⟩ = some (.int .i64 ln) := Hl3.out.cellAt (i := 3) (by simp)
    have m_0 : w3.cell? ⟨(w.heap.size + 1), 0, none⟩ = some (.int .i64 lc) := Hm3.out.cellAt (i := 0) (by simp)
    have m_1 : w3.cell? ⟨(w.heap.size + 1), 1, none⟩ = some (.int .i64 ls) := Hm3.out.cellAt (i := 1) (by simp)
    have m_2 : w3.cell? ⟨(w.heap.size + 1), 2, none⟩ = some (.int .i64 mt) := Hm3.out.cellAt (i := 2) (by simp)
    have m_3 : w3.cell? ⟨(w.heap.size + 1), 3, none⟩ = some (.int .i64 mn) := Hm3.out.cellAt (i := 3) (by simp)
    go_wp2_with fail
    clear l_0 l_1 l_2 l_3 m_0 m_1 m_2 m_3
    refine (H1.out _).mono ?_
    rintro y w4 ⟨rfl, hb⟩
    have HB4 := Lib.hid (below_transG HB3.out hb)
    have Hl4 := Lib.hid (Hl3.out.keep hb Hl3.out.lt)
    have Hm4 := Lib.hid (Hm3.out.keep hb Hm3.out.lt)
    clear hb
    have l_0 : w4.cell? ⟨w.heap.size, 0, none⟩ = some (.int .i64 lc) := Hl4.out.cellAt (i := 0) (by simp)
    have l_1 : w4.cell? ⟨w.heap.size, 1, none⟩ = some (.int .i64 ls) := Hl4.out.cellAt (i := 1) (by simp)
    have l_2 : w4.cell? ⟨w.heap.size, 2, none⟩ = some (.int .i64 lt_) := Hl4.out.cellAt (i := 2) (by simp)
    have l_3 : w4.cell? ⟨w.heap.size, 3, none⟩ = some (.int .i64 ln) := Hl4.out.cellAt (i := 3) (by simp)
    have m_0 : w4.cell? ⟨(w.heap.size + 1), 0, none⟩ = some (.int .i64 lc) := Hm4.out.cellAt (i := 0) (by simp)
    have m_1 : w4.cell? ⟨(w.heap.size + 1), 1, none⟩ = some (.int .i64 ls) := Hm4.out.cellAt (i := 1) (by simp)
    have m_2 : w4.cell? ⟨(w.heap.size + 1), 2, none⟩ = some (.int .i64 mt) := Hm4.out.cellAt (i := 2) (by simp)
    have m_3 : w4.cell? ⟨(w.heap.size + 1), 3, none⟩ = some (.int .i64 mn) := Hm4.out.cellAt (i := 3) (by simp)
    go_wp2_with fail
    clear l_0 l_1 l_2 l_3 m_0 m_1 m_2 m_3
    refine (H2.out _).mono ?_
    rintro y w5 ⟨rfl, hb⟩
    have HB5 := Lib.hid (below_transG HB4.out hb)
    have Hl5 := Lib.hid (Hl4.out.keep hb Hl4.out.lt)
    have Hm5 := Lib.hid (Hm4.out.keep hb Hm4.out.lt)
    clear hb
    have l_0 : w5.cell? ⟨w.heap.size, 0, none⟩ = some (.int .i64 lc) := Hl5.out.cellAt (i := 0) (by simp)
    have l_1 : w5.cell? ⟨w.heap.size, 1, none⟩ = some (.int .i64 ls) := Hl5.out.cellAt (i := 1) (by simp)
    have l_2 : w5.cell? ⟨w.heap.size, 2, none⟩ = some (.int .i64 lt_) := Hl5.out.cellAt (i := 2) (by simp)
    have l_3 : w5.cell? ⟨w.heap.size, 3, none⟩ = some (.int .i64 ln) := Hl5.out.cellAt (i := 3) (by simp)
    have m_0 : w5.cell? ⟨(w.heap.size + 1), 0, none⟩ = some (.int .i64 lc) := Hm5.out.cellAt (i := 0) (by simp)
    have m_1 : w5.cell? ⟨(w.heap.size + 1), 1, none⟩ = some (.int .i64 ls) := Hm5.out.cellAt (i := 1) (by simp)
    have m_2 : w5.cell? ⟨(w.heap.size + 1), 2, none⟩ = some (.int .i64 mt) := Hm5.out.cellAt (i := 2) (by simp)
    have m_3 : w5.cell? ⟨(w.heap.size + 1), 3, none⟩ = some (.int .i64 mn) := Hm5.out.cellAt (i := 3) (by simp)
    go_wp2_with fail
    go_ret
    exact ⟨rfl, HB5.out⟩
  · rw [befL_3 (by omega), decide_eq_true h] at H1
    rw [befL_3 (by omega), decide_eq_false (by omega)] at H2
    have g1 : (ln == mn) = false := by rw [beq_eq_false_iff_ne]; omega
    have g2 : ¬ mn ≤ ln := by omega
    have g3 : ¬ mn = ln := by omega
    clear h
    go_enter Tryd.func7, Tryd.ntmps7
    go_upto_region 1 with fail
    obtain ⟨W1, hW1⟩ : ∃ W, W = ((w.alloc (.cells #[.int .i64 lc, .int .i64 ls, .int .i64 lt_, .int .i64 ln] 24)).alloc (.cells #[.int .i64 lc, .int .i64 ls, .int .i64 lt_, .int .i64 mn] 24)) := ⟨_, rfl⟩
    have hbel_ : Below w.heap.size w W1 := by rw [hW1]; exact (((Below.refl w.heap.size w).alloc (Nat.le_refl w.heap.size) _).alloc (by have := (Nat.le_refl w.heap.size); simp only [World.size_alloc]; omega) _)
    have h_l : Blk W1 w.heap.size 24 [.int .i64 lc, .int .i64 ls, .int .i64 lt_, .int .i64 ln] := by rw [hW1]; exact (blk_at (w) w.heap.size (by rfl) 24 [.int .i64 lc, .int .i64 ls, .int .i64 lt_, .int .i64 ln]).keep ((Below.refl (w.heap.size + 1) _).alloc (by simp only [World.size_alloc]; omega) _) (by omega)
    have h_m : Blk W1 (w.heap.size + 1) 24 [.int .i64 lc, .int .i64 ls, .int .i64 lt_, .int .i64 mn] := by rw [hW1]; exact (blk_at ((w.alloc (.cells #[.int .i64 lc, .int .i64 ls, .int .i64 lt_, .int .i64 ln] 24))) (w.heap.size + 1) (by simp only [World.size_alloc]) 24 [.int .i64 lc, .int .i64 ls, .int .i64 lt_, .int .i64 mn]).keep (Below.refl ((w.heap.size + 1) + 1) _) (by omega)
    rw [← hW1]
    have HB1 := Lib.hid hbel_
    have Hl1 := Lib.hid h_l
    have Hm1 := Lib.hid h_m
    clear hbel_ hW1  h_l h_m
    have l_0 : W1.cell? ⟨w.heap.size, 0, none⟩ = some (.int .i64 lc) := Hl1.out.cellAt (i := 0) (by simp)
    have l_1 : W1.cell? ⟨w.heap.size, 1, none⟩ = some (.int .i64 ls) := Hl1.out.cellAt (i := 1) (by simp)
    have l_2 : W1.cell? ⟨w.heap.size, 2, none⟩ = some (.int .i64 lt_) := Hl1.out.cellAt (i := 2) (by simp)
    have l_3 : W1.cell? ⟨w.heap.size, 3, none⟩ = some (.int .i64 ln) := Hl1.out.cellAt (i := 3) (by simp)
    have m_0 : W1.cell? ⟨(w.heap.size + 1), 0, none⟩ = some (.int .i64 lc) := Hm1.out.cellAt (i := 0) (by simp)
    have m_1 : W1.cell? ⟨(w.heap.size + 1), 1, none⟩ = some (.int .i64 ls) := Hm1.out.cellAt (i := 1) (by simp)
    have m_2 : W1.cell? ⟨(w.heap.size + 1), 2, none⟩ = some (.int .i64 lt_) := Hm1.out.cellAt (i := 2) (by simp)
    have m_3 : W1.cell? ⟨(w.heap.size + 1), 3, none⟩ = some (.int .i64 mn) := Hm1.out.cellAt (i := 3) (by simp)
    go_wp2_with fail
    clear l_0 l_1 l_2 l_3 m_0 m_1 m_2 m_3
    refine (HL.out _ (HTX.out _ HB1.out).1 (HTX.out _ HB1.out).2).mono ?_
    rintro y w2 ⟨rfl, hb⟩
    have HB2 := Lib.hid (below_transG HB1.out hb)
    have Hl2 := Lib.hid (Hl1.out.keep hb Hl1.out.lt)
    have Hm2 := Lib.hid (Hm1.out.keep hb Hm1.out.lt)
    clear hb
    have l_0 : w2.cell? ⟨w.heap.size, 0, none⟩ = some (.int .i64 lc) := Hl2.out.cellAt (i := 0) (by simp)
    have l_1 : w2.cell? ⟨w.heap.size, 1, none⟩ = some (.int .i64 ls) := Hl2.out.cellAt (i := 1) (by simp)
    have l_2 : w2.cell? ⟨w.heap.size, 2, none⟩ = some (.int .i64 lt_) := Hl2.out.cellAt (i := 2) (by simp)
    have l_3 : w2.cell? ⟨w.heap.size, 3, none⟩ = some (.int .i64 ln) := Hl2.out.cellAt (i := 3) (by simp)
    have m_0 : w2.cell? ⟨(w.heap.size + 1), 0, none⟩ = some (.int .i64 lc) := Hm2.out.cellAt (i := 0) (by simp)
    have m_1 : w2.cell? ⟨(w.heap.size + 1), 1, none⟩ = some (.int .i64 ls) := Hm2.out.cellAt (i := 1) (by simp)
    have m_2 : w2.cell? ⟨(w.heap.size + 1), 2, none⟩ = some (.int .i64 lt_) := Hm2.out.cellAt (i := 2) (by simp)
    have m_3 : w2.cell? ⟨(w.heap.size + 1), 3, none⟩ = some (.int .i64 mn) := Hm2.out.cellAt (i := 3) (by simp)
    go_wp2_with fail
    clear l_0 l_1 l_2 l_3 m_0 m_1 m_2 m_3
    refine (H1.out _).mono ?_
    rintro y w3 ⟨rfl, hb⟩
    have HB3 := Lib.hid (below_transG HB2.out hb)
    have Hl3 := Lib.hid (Hl2.out.keep hb Hl2.out.lt)
    have Hm3 := Lib.hid (Hm2.out.keep hb Hm2.out.lt)
    clear hb
    have l_0 : w3.cell? ⟨w.heap.size, 0, none⟩ = some (.int .i64 lc) := Hl3.out.cellAt (i := 0) (by simp)
    have l_1 : w3.cell? ⟨w.heap.size, 1, none⟩ = some (.int .i64 ls) := Hl3.out.cellAt (i := 1) (by simp)
    have l_2 : w3.cell? ⟨w.heap.size, 2, none⟩ = some (.int .i64 lt_) := Hl3.out.cellAt (i := 2) (by simp)
    have l_3 : w3.cell? ⟨w.heap.size, 3, none⟩ = some (.int .i64 ln) := Hl3.out.cellAt (i := 3) (by simp)
    have m_0 : w3.cell? ⟨(w.heap.size + 1), 0, none⟩ = some (.int .i64 lc) := Hm3.out.cellAt (i := 0) (by simp)
    have m_1 : w3.cell? ⟨(w.heap.size + 1), 1, none⟩ = some (.int .i64 ls) := Hm3.out.cellAt (i := 1) (by simp)
    have m_2 : w3.cell? ⟨(w.heap.size + 1), 2, none⟩ = some (.int .i64 lt_) := Hm3.out.cellAt (i := 2) (by simp)
    have m_3 : w3.cell? ⟨(w.heap.size + 1), 3, none⟩ = some (.int .i64 mn) := Hm3.out.cellAt (i := 3) (by simp)
    go_wp2_with fail
    clear l_0 l_1 l_2 l_3 m_0 m_1 m_2 m_3
    refine (H2.out _).mono ?_
    rintro y w4 ⟨rfl, hb⟩
    have HB4 := Lib.hid (below_transG HB3.out hb)
    have Hl4 := Lib.hid (Hl3.out.keep hb Hl3.out.lt)
    have Hm4 := Lib.hid (Hm3.out.keep hb Hm3.out.lt)
    clear hb
    have l_0 : w4.cell? ⟨w.heap.size, 0, none⟩ = some (.int .i64 lc) := Hl4.out.cellAt (i := 0) (by simp)
    have l_1 : w4.cell? ⟨w.heap.size, 1, none⟩ = some (.int .i64 ls) := Hl4.out.cellAt (i := 1) (by simp)
    have l_2 : w4.cell? ⟨w.heap.size, 2, none⟩ = some (.int .i64 lt_) := Hl4.out.cellAt (i := 2) (by simp)
    have l_3 : w4.cell? ⟨w.heap.size, 3, none⟩ = some (.int .i64 ln) := Hl4.out.cellAt (i := 3) (by simp)
    have m_0 : w4.cell? ⟨(w.heap.size + 1), 0, none⟩ = some (.int .i64 lc) := Hm4.out.cellAt (i := 0) (by simp)
    have m_1 : w4.cell? ⟨(w.heap.size + 1), 1, none⟩ = some (.int .i64 ls) := Hm4.out.cellAt (i := 1) (by simp)
    have m_2 : w4.cell? ⟨(w.heap.size + 1), 2, none⟩ = some (.int .i64 lt_) := Hm4.out.cellAt (i := 2) (by simp)
    have m_3 : w4.cell? ⟨(w.heap.size + 1), 3, none⟩ = some (.int .i64 mn) := Hm4.out.cellAt (i := 3) (by simp)
    go_wp2_with fail
    clear l_0 l_1 l_2 l_3 m_0 m_1 m_2 m_3
    refine (H1.out _).mono ?_
    rintro y w5 ⟨rfl, hb⟩
    have HB5 := Lib.hid (below_transG HB4.out hb)
    have Hl5 := Lib.hid (Hl4.out.keep hb Hl4.out.lt)
    have Hm5 := Lib.hid (Hm4.out.keep hb Hm4.out.lt)
    clear hb
    have l_0 : w5.cell? ⟨w.heap.size, 0, none⟩ = some (.int .i64 lc) := Hl5.out.cellAt (i := 0) (by simp)
    have l_1 : w5.cell? ⟨w.heap.size, 1, none⟩ = some (.int .i64 ls) := Hl5.out.cellAt (i := 1) (by simp)
    have l_2 : w5.cell? ⟨w.heap.size, 2, none⟩ = some (.int .i64 lt_) := Hl5.out.cellAt (i := 2) (by simp)
    have l_3 : w5.cell? ⟨w.heap.size, 3, none⟩ = some (.int .i64 ln) := Hl5.out.cellAt (i := 3) (by simp)
    have m_0 : w5.cell? ⟨(w.heap.size + 1), 0, none⟩ = some (.int .i64 lc) := Hm5.out.cellAt (i := 0) (by simp)
    have m_1 : w5.cell? ⟨(w.heap.size + 1), 1, none⟩ = some (.int .i64 ls) := Hm5.out.cellAt (i := 1) (by simp)
    have m_2 : w5.cell? ⟨(w.heap.size + 1), 2, none⟩ = some (.int .i64 lt_) := Hm5.out.cellAt (i := 2) (by simp)
    have m_3 : w5.cell? ⟨(w.heap.size + 1), 3, none⟩ = some (.int .i64 mn) := Hm5.out.cellAt (i := 3) (by simp)
    go_wp2_with fail
    go_ret
    exact ⟨rfl, HB5.out⟩
  · rw [befL_3 (by omega), decide_eq_false (by omega)] at H1
    rw [befL_3 (by omega), decide_eq_true h] at H2
    have g1 : (ln == mn) = false := by rw [beq_eq_false_iff_ne]; omega
    have g2 : mn ≤ ln := by omega
    have g3 : ¬ mn = ln := by omega
    clear h
    go_enter Tryd.func7, Tryd.ntmps7
    go_upto_region 1 with fail
    obtain ⟨W1, hW1⟩ : ∃ W, W = ((w.alloc (.cells #[.int .i64 lc, .int .i64 ls, .int .i64 lt_, .int .i64 ln] 24)).alloc (.cells #[.int .i64 lc, .int .i64 ls, .int .i64 lt_, .int .i64 mn] 24)) := ⟨_, rfl⟩
    have hbel_ : Below w.heap.size w W1 := by rw [hW1]; exact (((Below.refl w.heap.size w).alloc (Nat.le_refl w.heap.size) _).alloc (by have := (Nat.le_refl w.heap.size); simp only [World.size_alloc]; omega) _)
    have h_l : Blk W1 w.heap.size 24 [.int .i64 lc, .int .i64 ls, .int .i64 lt_, .int .i64 ln] := by rw [hW1]; exact (blk_at (w) w.heap.size (by rfl) 24 [.int .i64 lc, .int .i64 ls, .int .i64 lt_, .int .i64 ln]).keep ((Below.refl (w.heap.size + 1) _).alloc (by simp only [World.size_alloc]; omega) _) (by omega)
    have h_m : Blk W1 (w.heap.size + 1) 24 [.int .i64 lc, .int .i64 ls, .int .i64 lt_, .int .i64 mn] := by rw [hW1]; exact (blk_at ((w.alloc (.cells #[.int .i64 lc, .int .i64 ls, .int .i64 lt_, .int .i64 ln] 24))) (w.heap.size + 1) (by simp only [World.size_alloc]) 24 [.int .i64 lc, .int .i64 ls, .int .i64 lt_, .int .i64 mn]).keep (Below.refl ((w.heap.size + 1) + 1) _) (by omega)
    rw [← hW1]
    have HB1 := Lib.hid hbel_
    have Hl1 := Lib.hid h_l
    have Hm1 := Lib.hid h_m
    clear hbel_ hW1  h_l h_m
    have l_0 : W1.cell? ⟨w.heap.size, 0, none⟩ = some (.int .i64 lc) := Hl1.out.cellAt (i := 0) (by simp)
    have l_1 : W1.cell? ⟨w.heap.size, 1, none⟩ = some (.int .i64 ls) := Hl1.out.cellAt (i := 1) (by simp)
    have l_2 : W1.cell? ⟨w.heap.size, 2, none⟩ = some (.int .i64 lt_) := Hl1.out.cellAt (i := 2) (by simp)
    have l_3 : W1.cell? ⟨w.heap.size, 3, none⟩ = some (.int .i64 ln) := Hl1.out.cellAt (i := 3) (by simp)
    have m_0 : W1.cell? ⟨(w.heap.size + 1), 0, none⟩ = some (.int .i64 lc) := Hm1.out.cellAt (i := 0) (by simp)
    have m_1 : W1.cell? ⟨(w.heap.size + 1), 1, none⟩ = some (.int .i64 ls) := Hm1.out.cellAt (i := 1) (by simp)
    have m_2 : W1.cell? ⟨(w.heap.size + 1), 2, none⟩ = some (.int .i64 lt_) := Hm1.out.cellAt (i := 2) (by simp)
    have m_3 : W1.cell? ⟨(w.heap.size + 1), 3, none⟩ = some (.int .i64 mn) := Hm1.out.cellAt (i := 3) (by simp)
    go_wp2_with fail
    clear l_0 l_1 l_2 l_3 m_0 m_1 m_2 m_3
    refine (HL.out _ (HTX.out _ HB1.out).1 (HTX.out _ HB1.out).2).mono ?_
    rintro y w2 ⟨rfl, hb⟩
    have HB2 := Lib.hid (below_transG HB1.out hb)
    have Hl2 := Lib.hid (Hl1.out.keep hb Hl1.out.lt)
    have Hm2 := Lib.hid (Hm1.out.keep hb Hm1.out.lt)
    clear hb
    have l_0 : w2.cell? ⟨w.heap.size, 0, none⟩ = some (.int .i64 lc) := Hl2.out.cellAt (i := 0) (by simp)
    have l_1 : w2.cell? ⟨w.heap.size, 1, none⟩ = some (.int .i64 ls) := Hl2.out.cellAt (i := 1) (by simp)
    have l_2 : w2.cell? ⟨w.heap.size, 2, none⟩ = some (.int .i64 lt_) := Hl2.out.cellAt (i := 2) (by simp)
    have l_3 : w2.cell? ⟨w.heap.size, 3, none⟩ = some (.int .i64 ln) := Hl2.out.cellAt (i := 3) (by simp)
    have m_0 : w2.cell? ⟨(w.heap.size + 1), 0, none⟩ = some (.int .i64 lc) := Hm2.out.cellAt (i := 0) (by simp)
    have m_1 : w2.cell? ⟨(w.heap.size + 1), 1, none⟩ = some (.int .i64 ls) := Hm2.out.cellAt (i := 1) (by simp)
    have m_2 : w2.cell? ⟨(w.heap.size + 1), 2, none⟩ = some (.int .i64 lt_) := Hm2.out.cellAt (i := 2) (by simp)
    have m_3 : w2.cell? ⟨(w.heap.size + 1), 3, none⟩ = some (.int .i64 mn) := Hm2.out.cellAt (i := 3) (by simp)
    go_wp2_with fail
    clear l_0 l_1 l_2 l_3 m_0 m_1 m_2 m_3
    refine (H1.out _).mono ?_
    rintro y w3 ⟨rfl, hb⟩
    have HB3 := Lib.hid (below_transG HB2.out hb)
    have Hl3 := Lib.hid (Hl2.out.keep hb Hl2.out.lt)
    have Hm3 := Lib.hid (Hm2.out.keep hb Hm2.out.lt)
    clear hb
    have l_0 : w3.cell? ⟨w.heap.size, 0, none⟩ = some (.int .i64 lc) := Hl3.out.cellAt (i := 0) (by simp)
    have l_1 : w3.cell? ⟨w.heap.size, 1, none⟩ = some (.int .i64 ls) := Hl3.out.cellAt (i := 1) (by simp)
    have l_2 : w3.cell? ⟨w.heap.size, 2, none⟩ = some (.int .i64 lt_) := Hl3.out.cellAt (i := 2) (by simp)
    have l_3 : w3.cell? ⟨w.heap.size, 3, none⟩ = some (.int .i64 ln) := Hl3.out.cellAt (i := 3) (by simp)
    have m_0 : w3.cell? ⟨(w.heap.size + 1), 0, none⟩ = some (.int .i64 lc) := Hm3.out.cellAt (i := 0) (by simp)
    have m_1 : w3.cell? ⟨(w.heap.size + 1), 1, none⟩ = some (.int .i64 ls) := Hm3.out.cellAt (i := 1) (by simp)
    have m_2 : w3.cell? ⟨(w.heap.size + 1), 2, none⟩ = some (.int .i64 lt_) := Hm3.out.cellAt (i := 2) (by simp)
    have m_3 : w3.cell? ⟨(w.heap.size + 1), 3, none⟩ = some (.int .i64 mn) := Hm3.out.cellAt (i := 3) (by simp)
    go_wp2_with fail
    clear l_0 l_1 l_2 l_3 m_0 m_1 m_2 m_3
    refine (H1.out _).mono ?_
    rintro y w4 ⟨rfl, hb⟩
    have HB4 := Lib.hid (below_transG HB3.out hb)
    have Hl4 := Lib.hid (Hl3.out.keep hb Hl3.out.lt)
    have Hm4 := Lib.hid (Hm3.out.keep hb Hm3.out.lt)
    clear hb
    have l_0 : w4.cell? ⟨w.heap.size, 0, none⟩ = some (.int .i64 lc) := Hl4.out.cellAt (i := 0) (by simp)
    have l_1 : w4.cell? ⟨w.heap.size, 1, none⟩ = some (.int .i64 ls) := Hl4.out.cellAt (i := 1) (by simp)
    have l_2 : w4.cell? ⟨w.heap.size, 2, none⟩ = some (.int .i64 lt_) := Hl4.out.cellAt (i := 2) (by simp)
    have l_3 : w4.cell? ⟨w.heap.size, 3, none⟩ = some (.int .i64 ln) := Hl4.out.cellAt (i := 3) (by simp)
    have m_0 : w4.cell? ⟨(w.heap.size + 1), 0, none⟩ = some (.int .i64 lc) := Hm4.out.cellAt (i := 0) (by simp)
    have m_1 : w4.cell? ⟨(w.heap.size + 1), 1, none⟩ = some (.int .i64 ls) := Hm4.out.cellAt (i := 1) (by simp)
    have m_2 : w4.cell? ⟨(w.heap.size + 1), 2, none⟩ = some (.int .i64 lt_) := Hm4.out.cellAt (i := 2) (by simp)
    have m_3 : w4.cell? ⟨(w.heap.size + 1), 3, none⟩ = some (.int .i64 mn) := Hm4.out.cellAt (i := 3) (by simp)
    go_wp2_with fail
    clear l_0 l_1 l_2 l_3 m_0 m_1 m_2 m_3
    refine (H2.out _).mono ?_
    rintro y w5 ⟨rfl, hb⟩
    have HB5 := Lib.hid (below_transG HB4.out hb)
    have Hl5 := Lib.hid (Hl4.out.keep hb Hl4.out.lt)
    have Hm5 := Lib.hid (Hm4.out.keep hb Hm4.out.lt)
    clear hb
    have l_0 : w5.cell? ⟨w.heap.size, 0, none⟩ = some (.int .i64 lc) := Hl5.out.cellAt (i := 0) (by simp)
    have l_1 : w5.cell? ⟨w.heap.size, 1, none⟩ = some (.int .i64 ls) := Hl5.out.cellAt (i := 1) (by simp)
    have l_2 : w5.cell? ⟨w.heap.size, 2, none⟩ = some (.int .i64 lt_) := Hl5.out.cellAt (i := 2) (by simp)
    have l_3 : w5.cell? ⟨w.heap.size, 3, none⟩ = some (.int .i64 ln) := Hl5.out.cellAt (i := 3) (by simp)
    have m_0 : w5.cell? ⟨(w.heap.size + 1), 0, none⟩ = some (.int .i64 lc) := Hm5.out.cellAt (i := 0) (by simp)
    have m_1 : w5.cell? ⟨(w.heap.size + 1), 1, none⟩ = some (.int .i64 ls) := Hm5.out.cellAt (i := 1) (by simp)
    have m_2 : w5.cell? ⟨(w.heap.size + 1), 2, none⟩ = some (.int .i64 lt_) := Hm5.out.cellAt (i := 2) (by simp)
    have m_3 : w5.cell? ⟨(w.heap.size + 1), 3, none⟩ = some (.int .i64 mn) := Hm5.out.cellAt (i := 3) (by simp)
    go_wp2_with fail
    go_ret
    exact ⟨rfl, HB5.out⟩
  · rw [befL_4] at H1 H2
    go_enter Tryd.func7, Tryd.ntmps7
    go_upto_region 1 with fail
    obtain ⟨W1, hW1⟩ : ∃ W, W = ((w.alloc (.cells #[.int .i64 lc, .int .i64 ls, .int .i64 lt_, .int .i64 ln] 24)).alloc (.cells #[.int .i64 lc, .int .i64 ls, .int .i64 lt_, .int .i64 ln] 24)) := ⟨_, rfl⟩
    have hbel_ : Below w.heap.size w W1 := by rw [hW1]; exact (((Below.refl w.heap.size w).alloc (Nat.le_refl w.heap.size) _).alloc (by have := (Nat.le_refl w.heap.size); simp only [World.size_alloc]; omega) _)
    have h_l : Blk W1 w.heap.size 24 [.int .i64 lc, .int .i64 ls, .int .i64 lt_, .int .i64 ln] := by rw [hW1]; exact (blk_at (w) w.heap.size (by rfl) 24 [.int .i64 lc, .int .i64 ls, .int .i64 lt_, .int .i64 ln]).keep ((Below.refl (w.heap.size + 1) _).alloc (by simp only [World.size_alloc]; omega) _) (by omega)
    have h_m : Blk W1 (w.heap.size + 1) 24 [.int .i64 lc, .int .i64 ls, .int .i64 lt_, .int .i64 ln] := by rw [hW1]; exact (blk_at ((w.alloc (.cells #[.int .i64 lc, .int .i64 ls, .int .i64 lt_, .int .i64 ln] 24))) (w.heap.size + 1) (by simp only [World.size_alloc]) 24 [.int .i64 lc, .int .i64 ls, .int .i64 lt_, .int .i64 ln]).keep (Below.refl ((w.heap.size + 1) + 1) _) (by omega)
    rw [← hW1]
    have HB1 := Lib.hid hbel_
    have Hl1 := Lib.hid h_l
    have Hm1 := Lib.hid h_m
    clear hbel_ hW1  h_l h_m
    have l_0 : W1.cell? ⟨w.heap.size, 0, none⟩ = some (.int .i64 lc) := Hl1.out.cellAt (i := 0) (by simp)
    have l_1 : W1.cell? ⟨w.heap.size, 1, none⟩ = some (.int .i64 ls) := Hl1.out.cellAt (i := 1) (by simp)
    have l_2 : W1.cell? ⟨w.heap.size, 2, none⟩ = some (.int .i64 lt_) := Hl1.out.cellAt (i := 2) (by simp)
    have l_3 : W1.cell? ⟨w.heap.size, 3, none⟩ = some (.int .i64 ln) := Hl1.out.cellAt (i := 3) (by simp)
    have m_0 : W1.cell? ⟨(w.heap.size + 1), 0, none⟩ = some (.int .i64 lc) := Hm1.out.cellAt (i := 0) (by simp)
    have m_1 : W1.cell? ⟨(w.heap.size + 1), 1, none⟩ = some (.int .i64 ls) := Hm1.out.cellAt (i := 1) (by simp)
    have m_2 : W1.cell? ⟨(w.heap.size + 1), 2, none⟩ = some (.int .i64 lt_) := Hm1.out.cellAt (i := 2) (by simp)
    have m_3 : W1.cell? ⟨(w.heap.size + 1), 3, none⟩ = some (.int .i64 ln) := Hm1.out.cellAt (i := 3) (by simp)
    go_wp2_with fail
    clear l_0 l_1 l_2 l_3 m_0 m_1 m_2 m_3
    refine (HL.out _ (HTX.out _ HB1.out).1 (HTX.out _ HB1.out).2).mono ?_
    rintro y w2 ⟨rfl, hb⟩
    have HB2 := Lib.hid (below_transG HB1.out hb)
    have Hl2 := Lib.hid (Hl1.out.keep hb Hl1.out.lt)
    have Hm2 := Lib.hid (Hm1.out.keep hb Hm1.out.lt)
    clear hb
    have l_0 : w2.cell? ⟨w.heap.size, 0, none⟩ = some (.int .i64 lc) := Hl2.out.cellAt (i := 0) (by simp)
    have l_1 : w2.cell? ⟨w.heap.size, 1, none⟩ = some (.int .i64 ls) := Hl2.out.cellAt (i := 1) (by simp)
    have l_2 : w2.cell? ⟨w.heap.size, 2, none⟩ = some (.int .i64 lt_) := Hl2.out.cellAt (i := 2) (by simp)
    have l_3 : w2.cell? ⟨w.heap.size, 3, none⟩ = some (.int .i64 ln) := Hl2.out.cellAt (i := 3) (by simp)
    have m_0 : w2.cell? ⟨(w.heap.size + 1), 0, none⟩ = some (.int .i64 lc) := Hm2.out.cellAt (i := 0) (by simp)
    have m_1 : w2.cell? ⟨(w.heap.size + 1), 1, none⟩ = some (.int .i64 ls) := Hm2.out.cellAt (i := 1) (by simp)
    have m_2 : w2.cell? ⟨(w.heap.size + 1), 2, none⟩ = some (.int .i64 lt_) := Hm2.out.cellAt (i := 2) (by simp)
    have m_3 : w2.cell? ⟨(w.heap.size + 1), 3, none⟩ = some (.int .i64 ln) := Hm2.out.cellAt (i := 3) (by simp)
    go_wp2_with fail
    clear l_0 l_1 l_2 l_3 m_0 m_1 m_2 m_3
    refine (H1.out _).mono ?_
    rintro y w3 ⟨rfl, hb⟩
    have HB3 := Lib.hid (below_transG HB2.out hb)
    have Hl3 := Lib.hid (Hl2.out.keep hb Hl2.out.lt)
    have Hm3 := Lib.hid (Hm2.out.keep hb Hm2.out.lt)
    clear hb
    have l_0 : w3.cell? ⟨w.heap.size, 0, none⟩ = some (.int .i64 lc) := Hl3.out.cellAt (i := 0) (by simp)
    have l_1 : w3.cell? ⟨w.heap.size, 1, none⟩ = some (.int .i64 ls) := Hl3.out.cellAt (i := 1) (by simp)
    have l_2 : w3.cell? ⟨w.heap.size, 2, none⟩ = some (.int .i64 lt_) := Hl3.out.cellAt (i := 2) (by simp)
    have l_3 : w3.cell? ⟨w.heap.size, 3, none⟩ = some (.int .i64 ln) := Hl3.out.cellAt (i := 3) (by simp)
    have m_0 : w3.cell? ⟨(w.heap.size + 1), 0, none⟩ = some (.int .i64 lc) := Hm3.out.cellAt (i := 0) (by simp)
    have m_1 : w3.cell? ⟨(w.heap.size + 1), 1, none⟩ = some (.int .i64 ls) := Hm3.out.cellAt (i := 1) (by simp)
    have m_2 : w3.cell? ⟨(w.heap.size + 1), 2, none⟩ = some (.int .i64 lt_) := Hm3.out.cellAt (i := 2) (by simp)
    have m_3 : w3.cell? ⟨(w.heap.size + 1), 3, none⟩ = some (.int .i64 ln) := Hm3.out.cellAt (i := 3) (by simp)
    go_wp2_with fail
    clear l_0 l_1 l_2 l_3 m_0 m_1 m_2 m_3
    refine (H1.out _).mono ?_
    rintro y w4 ⟨rfl, hb⟩
    have HB4 := Lib.hid (below_transG HB3.out hb)
    have Hl4 := Lib.hid (Hl3.out.keep hb Hl3.out.lt)
    have Hm4 := Lib.hid (Hm3.out.keep hb Hm3.out.lt)
    clear hb
    have l_0 : w4.cell? ⟨w.heap.size, 0, none⟩ = some (.int .i64 lc) := Hl4.out.cellAt (i := 0) (by simp)
    have l_1 : w4.cell? ⟨w.heap.size, 1, none⟩ = some (.int .i64 ls) := Hl4.out.cellAt (i := 1) (by simp)
    have l_2 : w4.cell? ⟨w.heap.size, 2, none⟩ = some (.int .i64 lt_) := Hl4.out.cellAt (i := 2) (by simp)
    have l_3 : w4.cell? ⟨w.heap.size, 3, none⟩ = some (.int .i64 ln) := Hl4.out.cellAt (i := 3) (by simp)
    have m_0 : w4.cell? ⟨(w.heap.size + 1), 0, none⟩ = some (.int .i64 lc) := Hm4.out.cellAt (i := 0) (by simp)
    have m_1 : w4.cell? ⟨(w.heap.size + 1), 1, none⟩ = some (.int .i64 ls) := Hm4.out.cellAt (i := 1) (by simp)
    have m_2 : w4.cell? ⟨(w.heap.size + 1), 2, none⟩ = some (.int .i64 lt_) := Hm4.out.cellAt (i := 2) (by simp)
    have m_3 : w4.cell? ⟨(w.heap.size + 1), 3, none⟩ = some (.int .i64 ln) := Hm4.out.cellAt (i := 3) (by simp)
    go_wp2_with fail
    clear l_0 l_1 l_2 l_3 m_0 m_1 m_2 m_3
    refine (H2.out _).mono ?_
    rintro y w5 ⟨rfl, hb⟩
    have HB5 := Lib.hid (below_transG HB4.out hb)
    have Hl5 := Lib.hid (Hl4.out.keep hb Hl4.out.lt)
    have Hm5 := Lib.hid (Hm4.out.keep hb Hm4.out.lt)
    clear hb
    have l_0 : w5.cell? ⟨w.heap.size, 0, none⟩ = some (.int .i64 lc) := Hl5.out.cellAt (i := 0) (by simp)
    have l_1 : w5.cell? ⟨w.heap.size, 1, none⟩ = some (.int .i64 ls) := Hl5.out.cellAt (i := 1) (by simp)
    have l_2 : w5.cell? ⟨w.heap.size, 2, none⟩ = some (.int .i64 lt_) := Hl5.out.cellAt (i := 2) (by simp)
    have l_3 : w5.cell? ⟨w.heap.size, 3, none⟩ = some (.int .i64 ln) := Hl5.out.cellAt (i := 3) (by simp)
    have m_0 : w5.cell? ⟨(w.heap.size + 1), 0, none⟩ = some (.int .i64 lc) := Hm5.out.cellAt (i := 0) (by simp)
    have m_1 : w5.cell? ⟨(w.heap.size + 1), 1, none⟩ = some (.int .i64 ls) := Hm5.out.cellAt (i := 1) (by simp)
    have m_2 : w5.cell? ⟨(w.heap.size + 1), 2, none⟩ = some (.int .i64 lt_) := Hm5.out.cellAt (i := 2) (by simp)
    have m_3 : w5.cell? ⟨(w.heap.size + 1), 3, none⟩ = some (.int .i64 ln) := Hm5.out.cellAt (i := 3) (by simp)
    go_wp2_with fail
    go_ret
    exact ⟨rfl, HB5.out⟩
theorem door_met (os : Os) (args : Array Value) : laidMetH Tryd.prog laidD ((World.doorLaid Tryd.prog 400 os).forCall (fun _ _ => 0) ⟨#[], args, []⟩).memory :=
  laidMetH_of_parts3 (fuel := 8) (laidMet_of_run' 8 (by kernel_rfl) (by kernel_rfl)) (by kernel_rfl) (by kernel_rfl)
set_option maxRecDepth 100000 in
theorem lifted (os : Os) (started : os.Started) (H : Type) (enc : TypeId × Value → H) :
    ReturnsInHanded {} Tryd.checked os 7 .any (fun w args => (Rows.classSlotsSpec.pre enc Tryd.prog Tryd.f7 [] false w args ∧ laidMetH Tryd.prog laidD w) ∧ sizedMet enc Tryd.prog Tryd.f7 (OpenSpec.ofChange Rows.classSlotsSpec) false w args)
      (Rows.classSlotsSpec.post enc Tryd.prog Tryd.f7 false true false false) := by
  refine returnsInHanded_of_change_and (C := Tryd.checked) (X := fun w _ => laidMetH Tryd.prog laidD w) (fun _ _ _ hh h => h.of_heap hh) own started (by kernel_rfl) Tryd.func7
    (ChangeSpec.witness_shaped (enc := enc) (C := Tryd.checked) (os := os) (X := fun w _ => laidMetH Tryd.prog laidD w) false (World.doorLaid Tryd.prog 400 os) #[.agg #[.int .i64 0, .int .i64 0, .int .i64 0, .int .i64 0], .agg #[.int .i64 0, .int .i64 0, .int .i64 0, .int .i64 0]] 8 rfl (World.shaped_of_RefB (by kernel_rfl) (by kernel_rfl)) (by kernel_rfl) (by kernel_rfl) (by kernel_rfl) (door_met os _)) ?_
  intro W base args ds gs before hval0 hW _ _ hL _
  have hval : ∀ (j : Nat) t v, Tryd.f7.params[j]? = some t → args[j]? = some v → Value.okWide Tryd.prog W .any base t v := hval0
  have hW' := hW
  obtain ⟨p, q, hA0, hV, rfl, hfz, hnd⟩ := hW
  have hA : DataW.TrodAll enc Tryd.prog W 0 (fun _ => true) true Tryd.f7.params.toList args.toList ds p := hA0
  rw [Tryd.params7] at hA hval
  obtain ⟨v0, vs0, d0, ds0, p0, q0, hargs, rfl, rfl, h0, r0⟩ := trodAll_cons hA
  obtain ⟨v1, vs1, d1, ds1, p1, q1, rfl, rfl, rfl, h1, r1⟩ := trodAll_cons r0
  obtain ⟨rfl, rfl, rfl⟩ := trodAll_nil r1
  obtain rfl : args = #[v0, v1] := by cases args; simp_all
  obtain ⟨rfl, rfl⟩ := trodVars_none hV
  have k0 := h0
  have lt0 : ∀ x ∈ p0, x.block < W.heap.size := by obtain ⟨m, hm⟩ := k0; exact DataW.trod_lt m _ _ _ hm
  obtain ⟨l0, rfl⟩ := open_label (hval 0 24 v0 rfl rfl) h0
  have k1 := h1
  have lt1 : ∀ x ∈ p1, x.block < W.heap.size := by obtain ⟨m, hm⟩ := k1; exact DataW.trod_lt m _ _ _ hm
  obtain ⟨l1, rfl⟩ := open_label (hval 1 24 v1 rfl rfl) h1
  clear hA0 hval0
  obtain ⟨hTab, hsz0⟩ := tab_of_wid hL
  refine (walk l0 l1  W hsz0 hTab).mono fun e W' ⟨he, bel⟩ => ?_
  subst he
  exact ⟨_, rfl, _, _, _, [], _, [], hW', trodAll_mk1 (shut_bool Tryd.underlying4 _), (trodAll_cons_mk (Below.trod laidOut (by kernel_rfl) (of_decide_eq_true (by kernel_rfl)) k0 bel lt0) (trodAll_cons_mk (Below.trod laidOut (by kernel_rfl) (of_decide_eq_true (by kernel_rfl)) k1 bel lt1) trodAll_mk0)), rfl, bel.frame _, fun h => by cases h⟩
theorem over : Rows.classSlotsRow.holds Tryd.pinned (OpenSpec.ofChange Rows.classSlotsSpec) :=
  OpenClaim.holds_of_wide 7 Tryd.f7 rfl rfl rfl rfl rfl rfl rfl ⟨rfl, rfl, rfl, rfl, rfl⟩ rfl rfl rfl rfl rfl (by kernel_rfl) Tryd.func7 (by kernel_rfl)
    (of_decide_eq_true (by kernel_rfl)) (by unfold Func.isWrapper; first | (rw [if_pos (by decide +kernel)]; kernel_rfl) | (rw [if_neg (by decide +kernel)]; exact ⟨rfl, rfl⟩))
    (fun os started H enc _ => lifted os started H enc)
/-- The statement: the row, and what it lists tied to the program's text. -/
theorem proved : Rows.ClassSlotsCardSaid :=
  Claim7.holds_tied_plain_at .later [] [.data] true _ false
    over (fun _ h => by cases h) (by kernel_rfl) (fun _ h => by cases h) classSlots_row_tie rfl ⟨rfl, rfl⟩ (by kernel_rfl) rfl
    (fun f fn hf hfn => by
      obtain rfl : f = 7 := Option.some.inj ((show Tryd.prog.funcNamed "bellbuoy/bellbuoylaw23.ClassSlots" = some 7 by kernel_rfl).symm.trans hf) |>.symm
      obtain rfl : fn = Tryd.f7 := (Option.some.inj (Tryd.func7.symm.trans hfn)).symm
      exact ⟨by kernel_rfl, fun j t ht => by
        rw [Tryd.params7] at ht
        have hm : t ∈ [24, 24] := by simpa using Array.mem_of_getElem? ht
        have hall : ([24, 24].all fun u => !Tryd.prog.wantsStandIn u) = true := by kernel_rfl
        exact (show Tryd.prog.wantsStandIn t = false by simpa using List.all_eq_true.1 hall t hm)⟩)
    (by kernel_rfl)
end Go.Proofs.YtmealljdecancaaDoor.classSlots
