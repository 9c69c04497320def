/- Package inbox: calls on a nil one; what must be whatever is asked (live of layer 14). No conditions. -/
import Derived.Test.YtifpifhaajkncaaIne
namespace Go.Proofs.Ytifpifhaajkncaa
open Go.RowKit
set_option maxRecDepth 100000 in
set_option maxHeartbeats 1000000 in
theorem pop_nil (w : World) : Calls Try.prog 36 #[.pointer none] w fun y w' => y = .returned (.tuple #[SD.zero.V, .bool false]) ∧ Below w.heap.size w w' := by
  obtain ⟨W0, hW0⟩ : ∃ W0, W0 = w.alloc (.cells #[.bool false, .int .u32 0, .bool false, .int .i64 0, .int .u8 0, .int .u8 0, .int .u8 0, .int .u8 0, .int .u8 0, .int .u8 0, .int .u8 0, .int .u8 0, .int .i64 0, .int .i64 0] 69) := ⟨_, rfl⟩
  have hb0 : Below w.heap.size w W0 := by rw [hW0]; exact (Below.refl _ w).alloc (Nat.le_refl _) _
  have hS := (show Blk W0 w.heap.size 69 [.bool false, .int .u32 0, .bool false, .int .i64 0, .int .u8 0, .int .u8 0, .int .u8 0, .int .u8 0, .int .u8 0, .int .u8 0, .int .u8 0, .int .u8 0, .int .i64 0, .int .i64 0] by rw [hW0]; exact Blk.new w _ [.bool false, .int .u32 0, .bool false, .int .i64 0, .int .u8 0, .int .u8 0, .int .u8 0, .int .u8 0, .int .u8 0, .int .u8 0, .int .u8 0, .int .u8 0, .int .i64 0, .int .i64 0])
  have HB0 := Lib.hid hb0
  have HL := Lib.hid (ilen_nil W0)
  obtain ⟨D, hD⟩ : ∃ D, D = w.heap.size := ⟨_, rfl⟩
  have HD := Lib.hid hD
  rw [← hD] at hS
  have d0 := hS.cellAt (i := 0) (by simp)
  have f0 := hS.frozenAt 0
  have d1 := hS.cellAt (i := 1) (by simp)
  have f1 := hS.frozenAt 1
  have d2 := hS.cellAt (i := 2) (by simp)
  have f2 := hS.frozenAt 2
  have d3 := hS.cellAt (i := 3) (by simp)
  have f3 := hS.frozenAt 3
  have d4 := hS.cellAt (i := 4) (by simp)
  have f4 := hS.frozenAt 4
  have d5 := hS.cellAt (i := 5) (by simp)
  have f5 := hS.frozenAt 5
  have d6 := hS.cellAt (i := 6) (by simp)
  have f6 := hS.frozenAt 6
  have d7 := hS.cellAt (i := 7) (by simp)
  have f7 := hS.frozenAt 7
  have d8 := hS.cellAt (i := 8) (by simp)
  have f8 := hS.frozenAt 8
  have d9 := hS.cellAt (i := 9) (by simp)
  have f9 := hS.frozenAt 9
  have d10 := hS.cellAt (i := 10) (by simp)
  have f10 := hS.frozenAt 10
  have d11 := hS.cellAt (i := 11) (by simp)
  have f11 := hS.frozenAt 11
  have d12 := hS.cellAt (i := 12) (by simp)
  have f12 := hS.frozenAt 12
  have d13 := hS.cellAt (i := 13) (by simp)
  have f13 := hS.frozenAt 13
  simp only [List.getElem_cons_zero, List.getElem_cons_succ] at d0 d1 d2 d3 d4 d5 d6 d7 d8 d9 d10 d11 d12 d13
  clear hS hb0
  go_enter Try.func36, Try.ntmps36
  go_upto_region 1 with fail
  rw [← hW0, ← hD]
  clear hW0 hD
  go_wp2_with fail
  refine HL.out.mono ?_
  rintro y w1 ⟨rfl, rfl⟩
  go_wp2_with fail
  refine bodyPost_ret (v := .tuple #[.agg #[.bool false, .int .u32 0, .bool false, .int .i64 0, .int .u8 0, .int .u8 0, .int .u8 0, .int .u8 0, .int .u8 0, .int .u8 0, .int .u8 0, .int .u8 0, .int .i64 0, .int .i64 0], .bool false]) (by simp [results, Try.results36, go_sem, World.cell?_setCell_same', d0, d1, d2, d3, d4, d5, d6, d7, d8, d9, d10, d11, d12, d13]) rfl ?_
  exact ⟨rfl, below14 (n := w.heap.size) (B := D) (by rw [HD.out]; exact Nat.le_refl _) HB0.out (.bool false) (.int .u32 0) (.bool false) (.int .i64 0) (.int .u8 0) (.int .u8 0) (.int .u8 0) (.int .u8 0) (.int .u8 0) (.int .u8 0) (.int .u8 0) (.int .u8 0) (.int .i64 0) (.int .i64 0)⟩
set_option maxRecDepth 100000 in
set_option maxHeartbeats 1000000 in
theorem offer_nil (s : SD) (w : World) : Calls Try.prog 34 #[.pointer none, s.V] w fun y w' => y = .returned (.bool false) ∧ Below w.heap.size w w' := by
  obtain ⟨e, n, q, l, x0, x1, x2, x3, x4, x5, x6, x7, f, t⟩ := s
  obtain ⟨W0, hW0⟩ : ∃ W0, W0 = w.alloc (.cells #[.bool e, .int .u32 n, .bool q, .int .i64 l, .int .u8 x0, .int .u8 x1, .int .u8 x2, .int .u8 x3, .int .u8 x4, .int .u8 x5, .int .u8 x6, .int .u8 x7, .int .i64 f, .int .i64 t] 69) := ⟨_, rfl⟩
  have hb0 : Below w.heap.size w W0 := by rw [hW0]; exact (Below.refl _ w).alloc (Nat.le_refl _) _
  have hS := (show Blk W0 w.heap.size 69 [.bool e, .int .u32 n, .bool q, .int .i64 l, .int .u8 x0, .int .u8 x1, .int .u8 x2, .int .u8 x3, .int .u8 x4, .int .u8 x5, .int .u8 x6, .int .u8 x7, .int .i64 f, .int .i64 t] by rw [hW0]; exact Blk.new w _ [.bool e, .int .u32 n, .bool q, .int .i64 l, .int .u8 x0, .int .u8 x1, .int .u8 x2, .int .u8 x3, .int .u8 x4, .int .u8 x5, .int .u8 x6, .int .u8 x7, .int .i64 f, .int .i64 t])
  have HB0 := Lib.hid hb0
  have HL := Lib.hid (lets_nil e n q l x0 x1 x2 x3 x4 x5 x6 x7 W0)
  have d0 := hS.cellAt (i := 0) (by simp)
  have f0 := hS.frozenAt 0
  have d1 := hS.cellAt (i := 1) (by simp)
  have f1 := hS.frozenAt 1
  have d2 := hS.cellAt (i := 2) (by simp)
  have f2 := hS.frozenAt 2
  have d3 := hS.cellAt (i := 3) (by simp)
  have f3 := hS.frozenAt 3
  have d4 := hS.cellAt (i := 4) (by simp)
  have f4 := hS.frozenAt 4
  have d5 := hS.cellAt (i := 5) (by simp)
  have f5 := hS.frozenAt 5
  have d6 := hS.cellAt (i := 6) (by simp)
  have f6 := hS.frozenAt 6
  have d7 := hS.cellAt (i := 7) (by simp)
  have f7 := hS.frozenAt 7
  have d8 := hS.cellAt (i := 8) (by simp)
  have f8 := hS.frozenAt 8
  have d9 := hS.cellAt (i := 9) (by simp)
  have f9 := hS.frozenAt 9
  have d10 := hS.cellAt (i := 10) (by simp)
  have f10 := hS.frozenAt 10
  have d11 := hS.cellAt (i := 11) (by simp)
  have f11 := hS.frozenAt 11
  have d12 := hS.cellAt (i := 12) (by simp)
  have f12 := hS.frozenAt 12
  have d13 := hS.cellAt (i := 13) (by simp)
  have f13 := hS.frozenAt 13
  simp only [List.getElem_cons_zero, List.getElem_cons_succ] at d0 d1 d2 d3 d4 d5 d6 d7 d8 d9 d10 d11 d12 d13
  clear hS hb0
  unfold SD.V
  simp only
  go_enter Try.func34, Try.ntmps34
  go_upto_region 1 with fail
  rw [← hW0]
  clear hW0
  go_wp2_with fail
  refine HL.out.mono ?_
  rintro y w1 ⟨rfl, hb⟩
  have HB1 := Lib.hid (HB0.out.trans (hb.mono HB0.out.size))
  clear hb
  go_wp2_with fail
  go_ret
  exact ⟨rfl, HB1.out⟩
theorem rd_lit (w : World) (T : TypeId) (f : Fl) : Rd (w.alloc (.cells #[.bool f.x, .int .u32 f.m, .int .u32 f.t] T)) 3 (.slice (some ⟨w.heap.size, 0, none⟩) 1 1) (flC [f]) := by
  refine ⟨1, 1, _, rfl, rfl, Nat.le_refl _, by decide, .inr ⟨w.heap.size, 0, rfl, by simp, fun j u hj => ?_⟩⟩
  match j, hj with
  | 0, hj => injection hj with hj; subst hj; simp
  | 1, hj => injection hj with hj; subst hj; simp
  | 2, hj => injection hj with hj; subst hj; simp
theorem rd_nil (w : World) : Rd w 3 (.slice none 0 0) (flC []) := (Rw.nil w 3).rd
theorem IA.fvb {W : World} {T : TypeId} {B room : Nat} {F : List Fl} {fv : Value} {Q : List SD} {v : Value} {o : Bool} (h : IA W T B room F fv Q v o) : ∀ g, fv.ownBlock = some g → g < W.heap.size := fun g hg => (h.flt g hg).1
theorem off_a : offF 1 [⟨false, 7, 3⟩] [] false ⟨false, 11, false, 0, 0, 0, 0, 0, 0, 0, 0, 0, 0, 5⟩ = ([⟨false, 11, false, 0, 0, 0, 0, 0, 0, 0, 0, 0, 0, 5⟩], false, true) := by
  have h : letsB [⟨false, 7, 3⟩] false 11 = true := by decide +kernel
  unfold offF
  rw [if_neg (by rw [show (letsB [⟨false, 7, 3⟩] (SD.e ⟨false, 11, false, 0, 0, 0, 0, 0, 0, 0, 0, 0, 0, 5⟩) (SD.n ⟨false, 11, false, 0, 0, 0, 0, 0, 0, 0, 0, 0, 0, 5⟩)) = true from h]; simp), if_neg (by decide)]
  rfl
theorem off_b : offF 1 [⟨false, 7, 3⟩] [⟨false, 11, false, 0, 0, 0, 0, 0, 0, 0, 0, 0, 0, 5⟩] false ⟨false, 3, false, 0, 0, 0, 0, 0, 0, 0, 0, 0, 0, 0⟩ = ([⟨false, 11, false, 0, 0, 0, 0, 0, 0, 0, 0, 0, 0, 5⟩], true, false) := by
  have h : letsB [⟨false, 7, 3⟩] false 3 = true := by decide +kernel
  unfold offF
  rw [if_neg (by rw [show (letsB [⟨false, 7, 3⟩] (SD.e ⟨false, 3, false, 0, 0, 0, 0, 0, 0, 0, 0, 0, 0, 0⟩) (SD.n ⟨false, 3, false, 0, 0, 0, 0, 0, 0, 0, 0, 0, 0, 0⟩)) = true from h]; simp), if_pos (by decide)]
theorem lets_c : letsB [⟨false, 7, 3⟩] false 4 = false := by decide +kernel
set_option maxRecDepth 100000 in
set_option maxHeartbeats 4000000 in
theorem live14 (w : World) : Calls Try.prog 31 #[] w fun y w' => y = .returned (.bool true) ∧ Below w.heap.size w w' := by
  have HNW := Lib.hid (fun u => inew_any 1 (by decide) (by decide) [⟨false, 7, 3⟩] (some ⟨w.heap.size, 0, none⟩) 1 1 (by decide) (w.alloc (.cells #[.bool false, .int .u32 7, .int .u32 3] u)) (rd_lit w u ⟨false, 7, 3⟩))
  have HN0 := Lib.hid (fun u => inew_no 0 (by decide) none 0 0 u)
  go_enter Try.func31, Try.ntmps31
  go_wp2_with fail
  refine (HNW.out _).mono ?_
  rintro y w1 ⟨B, fv, rfl, hBB, hI, hfv, hb⟩
  have HB1 := Lib.hid (below_transG ((Below.refl _ w).alloc (Nat.le_refl _) _) hb); have HI1 := Lib.hid hI
  have HBB := Lib.hid (show w.heap.size ≤ B by simp at hBB; omega)
  clear hBB hI hfv hb
  go_wp2_with fail
  refine (HN0.out _).mono ?_
  rintro y w2 ⟨rfl, rfl⟩
  have HOA := Lib.hid (offer_any B 1 [⟨false, 7, 3⟩] fv [] (.slice none 0 0) false ⟨false, 11, false, 0, 0, 0, 0, 0, 0, 0, 0, 0, 0, 5⟩ (by decide) (by decide) w1 HI1.out)
  rw [off_a] at HOA
  unfold SD.V at HOA
  simp only at HOA
  go_wp2_with fail
  refine HOA.out.mono ?_
  rintro y w3 ⟨v3, rfl, hI, hk, hn⟩
  have HI3 := Lib.hid hI
  have HOB := Lib.hid (offer_any B 1 [⟨false, 7, 3⟩] fv [⟨false, 11, false, 0, 0, 0, 0, 0, 0, 0, 0, 0, 0, 5⟩] v3 false ⟨false, 3, false, 0, 0, 0, 0, 0, 0, 0, 0, 0, 0, 0⟩ (by decide) (by decide) w3 hI)
  have HB3 := Lib.hid (HB1.out.trans (hk.belowN HBB.out HB1.out.size (fun k e => by cases e)))
  have HV3 := Lib.hid (show ∀ k, v3.ownBlock = some k → w.heap.size ≤ k from fun k e => by
    rcases hn k e with h | h
    · cases h
    · have := HB1.out.size; omega)
  rw [off_b] at HOB
  unfold SD.V at HOB
  simp only at HOB
  clear hI hk hn HOA
  go_wp2_with fail
  refine HOB.out.mono ?_
  rintro y w4 ⟨v4, rfl, hI, hk, hn⟩
  have HI4 := Lib.hid hI
  have HB4 := Lib.hid (HB3.out.trans (hk.belowN HBB.out HB3.out.size HV3.out))
  have HV4 := Lib.hid (show ∀ k, v4.ownBlock = some k → w.heap.size ≤ k from fun k e => by
    rcases hn k e with h | h
    · exact HV3.out k h
    · have := HB3.out.size; omega)
  have HLE := Lib.hid (lets_any B 1 [⟨false, 7, 3⟩] fv [⟨false, 11, false, 0, 0, 0, 0, 0, 0, 0, 0, 0, 0, 5⟩] v4 true false 4 false 0 0 0 0 0 0 0 0 0 (by decide) w4 hI)
  rw [lets_c] at HLE
  clear hI hk hn HOB
  go_wp2_with fail
  refine HLE.out.mono ?_
  rintro y w5 ⟨rfl, hb⟩
  have HI5 := Lib.hid (HI4.out.on hb); have HB5 := Lib.hid (below_transG HB4.out hb)
  clear hb HLE
  go_wp2_with fail
  refine (iover_any B 1 [⟨false, 7, 3⟩] fv [⟨false, 11, false, 0, 0, 0, 0, 0, 0, 0, 0, 0, 0, 5⟩] v4 true w5 HI5.out).mono ?_
  rintro y w6 ⟨rfl, rfl⟩
  go_wp2_with fail
  refine (iclear_any B 1 [⟨false, 7, 3⟩] fv [⟨false, 11, false, 0, 0, 0, 0, 0, 0, 0, 0, 0, 0, 5⟩] v4 true w5 HI5.out).mono ?_
  rintro y w7 ⟨rfl, hI, hk⟩
  have HI7 := Lib.hid hI; have HB7 := Lib.hid (HB5.out.trans (hk.belowN HBB.out HB5.out.size HV4.out))
  have HPO := Lib.hid (pop_some B 1 [⟨false, 7, 3⟩] fv ⟨false, 11, false, 0, 0, 0, 0, 0, 0, 0, 0, 0, 0, 5⟩ [] v4 false (by decide) w7 hI)
  unfold SD.V at HPO
  simp only at HPO
  clear hI hk
  go_wp2_with fail
  refine HPO.out.mono ?_
  rintro y w8 ⟨v8, rfl, hI, hk, hn⟩
  obtain ⟨W9, hW9⟩ : ∃ W9, W9 = w8.alloc (.cells #[.bool false, .int .u32 11, .bool false, .int .i64 0, .int .u8 0, .int .u8 0, .int .u8 0, .int .u8 0, .int .u8 0, .int .u8 0, .int .u8 0, .int .u8 0, .int .i64 0, .int .i64 5] 69) := ⟨_, rfl⟩
  have hb9 : Below w8.heap.size w8 W9 := by rw [hW9]; exact (Below.refl _ w8).alloc (Nat.le_refl _) _
  have HI9 := Lib.hid (hI.on hb9); have HB9 := Lib.hid (below_transG (HB7.out.trans (hk.belowN HBB.out HB7.out.size HV4.out)) hb9)
  have HS9 := Lib.hid (show Blk W9 w8.heap.size 69 [.bool false, .int .u32 11, .bool false, .int .i64 0, .int .u8 0, .int .u8 0, .int .u8 0, .int .u8 0, .int .u8 0, .int .u8 0, .int .u8 0, .int .u8 0, .int .i64 0, .int .i64 5] by rw [hW9]; exact Blk.new w8 _ [.bool false, .int .u32 11, .bool false, .int .i64 0, .int .u8 0, .int .u8 0, .int .u8 0, .int .u8 0, .int .u8 0, .int .u8 0, .int .u8 0, .int .u8 0, .int .i64 0, .int .i64 5])
  clear hI hk hn hb9 HPO
  go_upto_region 9 with fail
  rw [← hW9]
  clear hW9
  obtain ⟨D, hD⟩ : ∃ D, D = w8.heap.size := ⟨_, rfl⟩
  rw [← hD] at HS9 ⊢
  clear hD
  go_wp2_with fail
  refine (iclear_nil W9).mono ?_
  rintro y w10 ⟨rfl, rfl⟩
  go_wp2_with fail
  have HPN := Lib.hid (pop_nil W9)
  unfold SD.V SD.zero at HPN
  simp only at HPN
  refine HPN.out.mono ?_
  rintro y w11 ⟨rfl, hb⟩
  obtain ⟨W12, hW12⟩ : ∃ W12, W12 = w11.alloc (.cells #[.bool false, .int .u32 0, .bool false, .int .i64 0, .int .u8 0, .int .u8 0, .int .u8 0, .int .u8 0, .int .u8 0, .int .u8 0, .int .u8 0, .int .u8 0, .int .i64 0, .int .i64 0] 69) := ⟨_, rfl⟩
  have hb12 : Below W9.heap.size W9 W12 := by rw [hW12]; exact hb.alloc hb.size _
  have HI12 := Lib.hid (HI9.out.on hb12); have HB12 := Lib.hid (below_transG HB9.out hb12); have HS12 := Lib.hid (HS9.out.keep hb12 HS9.out.lt)
  clear hb hb12 HPN
  go_upto_region 12 with fail
  rw [← hW12]
  clear hW12
  have hS := HS12.out
  have d0 := hS.cellAt (i := 0) (by simp)
  have f0 := hS.frozenAt 0
  have d1 := hS.cellAt (i := 1) (by simp)
  have f1 := hS.frozenAt 1
  have d2 := hS.cellAt (i := 2) (by simp)
  have f2 := hS.frozenAt 2
  have d3 := hS.cellAt (i := 3) (by simp)
  have f3 := hS.frozenAt 3
  have d4 := hS.cellAt (i := 4) (by simp)
  have f4 := hS.frozenAt 4
  have d5 := hS.cellAt (i := 5) (by simp)
  have f5 := hS.frozenAt 5
  have d6 := hS.cellAt (i := 6) (by simp)
  have f6 := hS.frozenAt 6
  have d7 := hS.cellAt (i := 7) (by simp)
  have f7 := hS.frozenAt 7
  have d8 := hS.cellAt (i := 8) (by simp)
  have f8 := hS.frozenAt 8
  have d9 := hS.cellAt (i := 9) (by simp)
  have f9 := hS.frozenAt 9
  have d10 := hS.cellAt (i := 10) (by simp)
  have f10 := hS.frozenAt 10
  have d11 := hS.cellAt (i := 11) (by simp)
  have f11 := hS.frozenAt 11
  have d12 := hS.cellAt (i := 12) (by simp)
  have f12 := hS.frozenAt 12
  have d13 := hS.cellAt (i := 13) (by simp)
  have f13 := hS.frozenAt 13
  simp only [List.getElem_cons_zero, List.getElem_cons_succ] at d0 d1 d2 d3 d4 d5 d6 d7 d8 d9 d10 d11 d12 d13
  clear hS
  have HON := Lib.hid (fun u => offer_nil ⟨false, 11, false, 0, 0, 0, 0, 0, 0, 0, 0, 0, 0, 5⟩ u)
  unfold SD.V at HON
  simp only at HON
  go_wp2_with fail
  refine (iover_any B 1 [⟨false, 7, 3⟩] fv [] v8 false W12 HI12.out).mono ?_
  rintro y w13 ⟨rfl, rfl⟩
  go_wp2_with fail
  refine (ilen_any B 1 [⟨false, 7, 3⟩] fv [] v8 false W12 HI12.out).mono ?_
  rintro y w13 ⟨rfl, rfl⟩
  have i0 : ((([] : List SD).length : Int) == 0) = true := rfl
  go_wp2_with fail
  refine (ilen_nil W12).mono ?_
  rintro y w13 ⟨rfl, rfl⟩
  go_wp2_with fail
  refine (HON.out W12).mono ?_
  rintro y w13 ⟨rfl, hb⟩
  have HB13 := Lib.hid (below_transG HB12.out hb)
  clear hb
  go_wp2_with fail
  refine (iover_nil w13).mono ?_
  rintro y w14 ⟨rfl, rfl⟩
  go_wp2_with fail
  go_ret
  exact ⟨rfl, HB13.out⟩
end Go.Proofs.Ytifpifhaajkncaa
