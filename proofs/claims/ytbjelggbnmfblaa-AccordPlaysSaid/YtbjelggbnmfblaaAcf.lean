/- Package accord: a side, and a pair, are made. Conditions: each theorem says its own. -/
import Derived.Test.YtbjelggbnmfblaaAce
import Derived.Deep.RegionHeld3
namespace Go.Proofs.Ytbjelggbnmfblaa
open Go.RowKit
set_option maxRecDepth 100000 in
set_option maxHeartbeats 2000000 in
theorem side_of (n d : Int) (hn : -9223372036854775808 ≤ n ∧ n ≤ 9223372036854775807) (hr : rightO n d = true) (w : World) : Calls Try.prog 108 #[.agg #[.int .i64 n, .int .i64 d]] w fun y w' => y = .returned (.agg #[.int .i64 n, .int .i64 d, .int .i64 0, .bool false, .int .i64 0, .int .i64 0, .int .i64 1048576, .int .i64 0]) ∧ Below w.heap.size w w' := by
  have HN := Lib.hid (fun u => onew_yes n d hn hr u)
  clear hn hr
  go_enter Try.func108, Try.ntmps108
  go_upto_region 1 with fail
  obtain ⟨w0, hw0⟩ : ∃ x, x = (w.alloc (.cells #[.int .i64 n, .int .i64 d] 90)).alloc (.cells #[.int .i64 0, .int .i64 0, .int .i64 0, .bool false, .int .i64 0, .int .i64 0, .int .i64 0, .int .i64 0] 201) := ⟨_, rfl⟩
  rw [← hw0]
  have HS0 := Lib.hid (show Blk w0 w.heap.size 90 [.int .i64 n, .int .i64 d] by rw [hw0]; exact (Blk.new w 90 [.int .i64 n, .int .i64 d]).keep ((Below.refl _ _).alloc (Nat.le_refl _) _) (by simp))
  have HR0 := Lib.hid (show Blk w0 (w.heap.size + 1) 201 [.int .i64 0, .int .i64 0, .int .i64 0, .bool false, .int .i64 0, .int .i64 0, .int .i64 0, .int .i64 0] by rw [hw0]; have h := Blk.new (w.alloc (.cells #[.int .i64 n, .int .i64 d] 90)) 201 [.int .i64 0, .int .i64 0, .int .i64 0, .bool false, .int .i64 0, .int .i64 0, .int .i64 0, .int .i64 0]; rw [World.size_alloc] at h; exact h)
  have HB0 := Lib.hid (show Below w.heap.size w w0 by rw [hw0]; exact ((Below.refl _ w).alloc (Nat.le_refl _) _).alloc (by simp) _)
  clear hw0
  have q0 : w0.cell? ⟨w.heap.size, 0, none⟩ = some (.int .i64 n) := HS0.out.cellAt (i := 0) (by simp)
  have q1 : w0.cell? ⟨w.heap.size, 1, none⟩ = some (.int .i64 d) := HS0.out.cellAt (i := 1) (by simp)
  go_wp2_with fail
  refine (HN.out _).mono ?_
  rintro y w1 ⟨O, rfl, hO, hOO, hb⟩
  have HO := Lib.hid hO.blk; have HR1 := Lib.hid (HR0.out.keep hb HR0.out.lt); have HB1 := Lib.hid (below_transG HB0.out hb)
  have HZ := Lib.hid (show ∀ u, Below w1.heap.size w1 u → (Below w1.heap.size w1 u ∧ u.cell? ⟨O, 0, none⟩ = some (.int .i64 n) ∧ u.cell? ⟨O, 1, none⟩ = some (.int .i64 d) ∧ u.cell? ⟨O, 2, none⟩ = some (.int .i64 0) ∧ u.cell? ⟨O, 3, none⟩ = some (.bool false)) from fun u hu => ⟨hu, (HO.out.keep hu HO.out.lt).cellAt (i := 0) (by simp), (HO.out.keep hu HO.out.lt).cellAt (i := 1) (by simp), (HO.out.keep hu HO.out.lt).cellAt (i := 2) (by simp), (HO.out.keep hu HO.out.lt).cellAt (i := 3) (by simp)⟩)
  clear hb hO hOO q0 q1
  obtain ⟨_, z0, z1, z2, z3⟩ := HZ.out _ (Below.refl _ _)
  obtain ⟨_, y0, y1, y2, y3⟩ := HZ.out _ (Below.refl _ _).drew
  go_upto_region 2 with fail
  go_cut [] (fun wx => Blk wx (w.heap.size + 1) 201 [.int .i64 n, .int .i64 d, .int .i64 0, .bool false, .int .i64 0, .int .i64 0, .int .i64 1048576, .int .i64 0] ∧ Below w.heap.size w wx)
  case first =>
    go_region_with (first | (go_at_call 157; refine (cknew_any _).mono ?_; rintro y w2 ⟨C, rfl, hC, hCB, hb⟩; have hb2 := (show Below w1.heap.size w1 w2 from (Below.refl _ _).drew.trans hb); obtain ⟨_, o0, o1, o2, o3⟩ := HZ.out _ hb2; have hR2 := HR1.out.keep hb2 HR1.out.lt; have c0 := hC.blk.cellAt (i := 0) (by simp); have c1 := hC.blk.cellAt (i := 1) (by simp); have c2 := hC.blk.cellAt (i := 2) (by simp); have c3 := hC.blk.cellAt (i := 3) (by simp); simp only [List.getElem_cons_zero, List.getElem_cons_succ] at c0 c1 c2 c3; have d0 : w2.cell? ⟨w.heap.size + 1, 0, none⟩ = some (.int .i64 0) := hR2.cellAt (i := 0) (by simp); have p0 : w2.frozen? ⟨w.heap.size + 1, 0, none⟩ = false := hR2.frozenAt 0; have d1 : w2.cell? ⟨w.heap.size + 1, 1, none⟩ = some (.int .i64 0) := hR2.cellAt (i := 1) (by simp); have p1 : w2.frozen? ⟨w.heap.size + 1, 1, none⟩ = false := hR2.frozenAt 1; have d2 : w2.cell? ⟨w.heap.size + 1, 2, none⟩ = some (.int .i64 0) := hR2.cellAt (i := 2) (by simp); have p2 : w2.frozen? ⟨w.heap.size + 1, 2, none⟩ = false := hR2.frozenAt 2; have d3 : w2.cell? ⟨w.heap.size + 1, 3, none⟩ = some (.bool false) := hR2.cellAt (i := 3) (by simp); have p3 : w2.frozen? ⟨w.heap.size + 1, 3, none⟩ = false := hR2.frozenAt 3; have d4 : w2.cell? ⟨w.heap.size + 1, 4, none⟩ = some (.int .i64 0) := hR2.cellAt (i := 4) (by simp); have p4 : w2.frozen? ⟨w.heap.size + 1, 4, none⟩ = false := hR2.frozenAt 4; have d5 : w2.cell? ⟨w.heap.size + 1, 5, none⟩ = some (.int .i64 0) := hR2.cellAt (i := 5) (by simp); have p5 : w2.frozen? ⟨w.heap.size + 1, 5, none⟩ = false := hR2.frozenAt 5; have d6 : w2.cell? ⟨w.heap.size + 1, 6, none⟩ = some (.int .i64 0) := hR2.cellAt (i := 6) (by simp); have p6 : w2.frozen? ⟨w.heap.size + 1, 6, none⟩ = false := hR2.frozenAt 6; have d7 : w2.cell? ⟨w.heap.size + 1, 7, none⟩ = some (.int .i64 0) := hR2.cellAt (i := 7) (by simp); have p7 : w2.frozen? ⟨w.heap.size + 1, 7, none⟩ = false := hR2.frozenAt 7))
    all_goals (go_wp2_with fail; go_meet; exact ⟨hR2.set [.int .i64 n, .int .i64 d, .int .i64 0, .bool false, .int .i64 0, .int .i64 0, .int .i64 1048576, .int .i64 0] rfl, Go.below_setCells (by omega) [.int .i64 n, .int .i64 d, .int .i64 0, .bool false, .int .i64 0, .int .i64 0, .int .i64 1048576, .int .i64 0] 0 _ (HB1.out.trans (hb2.mono HB1.out.size))⟩)
  case rest =>
  obtain ⟨w4, hw4⟩ : ∃ w4, w4 = wc := ⟨_, rfl⟩
  rw [← hw4] at hcut ⊢
  obtain ⟨hRS, hb⟩ := hcut
  clear hw4 z0 z1 z2 z3 y0 y1 y2 y3
  have r0 : w4.cell? ⟨w.heap.size + 1, 0, none⟩ = some (.int .i64 n) := hRS.cellAt (i := 0) (by simp)
  have r1 : w4.cell? ⟨w.heap.size + 1, 1, none⟩ = some (.int .i64 d) := hRS.cellAt (i := 1) (by simp)
  have r2 : w4.cell? ⟨w.heap.size + 1, 2, none⟩ = some (.int .i64 0) := hRS.cellAt (i := 2) (by simp)
  have r3 : w4.cell? ⟨w.heap.size + 1, 3, none⟩ = some (.bool false) := hRS.cellAt (i := 3) (by simp)
  have r4 : w4.cell? ⟨w.heap.size + 1, 4, none⟩ = some (.int .i64 0) := hRS.cellAt (i := 4) (by simp)
  have r5 : w4.cell? ⟨w.heap.size + 1, 5, none⟩ = some (.int .i64 0) := hRS.cellAt (i := 5) (by simp)
  have r6 : w4.cell? ⟨w.heap.size + 1, 6, none⟩ = some (.int .i64 1048576) := hRS.cellAt (i := 6) (by simp)
  have r7 : w4.cell? ⟨w.heap.size + 1, 7, none⟩ = some (.int .i64 0) := hRS.cellAt (i := 7) (by simp)
  go_wp2_with fail
  exact bodyPost_ret (v := .agg #[.int .i64 n, .int .i64 d, .int .i64 0, .bool false, .int .i64 0, .int .i64 0, .int .i64 1048576, .int .i64 0]) (by simp [results, Try.results108, go_sem, r0, r1, r2, r3, r4, r5, r6, r7]) rfl ⟨rfl, hb⟩
theorem look_self (c v r : Int) (hv : -1152921504606846976 ≤ v ∧ v ≤ 1152921504606846976) : lookB c v r c = true ∧ lookX c v r c = v := by
  have e1 : tickI c c = 0 := by unfold tickI; rw [Int.sub_self]; rfl
  have e2 : growI c r c = 0 := by unfold growI; rw [e1, Int.zero_mul]; rfl
  have e3 : sumI c v r c = v := by unfold sumI; rw [e2, Int.add_zero]; exact cut_yes (by omega)
  have h : lookB c v r c = true := by
    unfold lookB fitsB
    rw [e1, e2, e3, Int.sub_self, Int.zero_mul, Int.add_zero, fit_yes (x := v) (by omega), mayB_yes hv]
    rfl
  exact ⟨h, by unfold lookX; rw [if_pos h, e3]⟩
def newP (n d tu start : Int) : PD := (⟨tu, n, d, 0, false, 0, 0, 1048576, 0, 0, false, 0, start, 1048576, start, 0, none, none, false⟩ : PD)
theorem pr_new_no (n d tu start : Int) (hn : -9223372036854775808 ≤ n ∧ n ≤ 9223372036854775807) (h : (rightC n d tu && decide (0 ≤ start ∧ start ≤ 1125899906842624)) = false) (w : World) : Calls Try.prog 42 #[.agg #[.int .i64 n, .int .i64 d, .int .i64 tu], .int .i64 start] w fun y w' => y = .returned (.tuple #[.pointer none, .int .i64 1]) ∧ Below w.heap.size w w' := by
  have HR := Lib.hid (fun u => ac_right n d tu hn u)
  have HW := Lib.hid (fun u => ac_within start 0 1125899906842624 (by decide) u)
  obtain ⟨k, hk⟩ : ∃ k, k = rightC n d tu := ⟨_, rfl⟩
  obtain ⟨m, hm⟩ : ∃ m, m = decide (0 ≤ start ∧ start ≤ 1125899906842624) := ⟨_, rfl⟩
  rw [← hk] at HR
  rw [← hm] at HW
  rw [← hk, ← hm] at h
  clear hk hm hn
  cases k
  · go_enter Try.func42, Try.ntmps42
    go_wp2_with fail
    refine (HR.out _).mono ?_
    rintro y w1 ⟨rfl, hb⟩
    have HB := Lib.hid (below_transG ((Below.refl _ w).alloc (Nat.le_refl _) _) hb)
    clear hb
    go_wp2_with fail
    go_ret2
    exact ⟨rfl, HB.out⟩
  · obtain rfl : m = false := h
    go_enter Try.func42, Try.ntmps42
    go_wp2_with fail
    refine (HR.out _).mono ?_
    rintro y w1 ⟨rfl, hb⟩
    have HB := Lib.hid (below_transG ((Below.refl _ w).alloc (Nat.le_refl _) _) hb)
    clear hb
    go_wp2_with fail
    refine (HW.out _).mono ?_
    rintro y w2 ⟨rfl, rfl⟩
    go_wp2_with fail
    go_ret2
    exact ⟨rfl, HB.out⟩
set_option maxRecDepth 100000 in
set_option maxHeartbeats 2000000 in
theorem pr_new_yes (n d tu start : Int) (hn : -9223372036854775808 ≤ n ∧ n ≤ 9223372036854775807) (h : rightC n d tu = true) (hs : 0 ≤ start ∧ start ≤ 1125899906842624) (w : World) : Calls Try.prog 42 #[.agg #[.int .i64 n, .int .i64 d, .int .i64 tu], .int .i64 start] w fun y w' => ∃ B, y = .returned (.tuple #[.pointer (some ⟨B, 0, none⟩), .int .i64 0]) ∧ PA w' B (newP n d tu start) (.pointer none) (.pointer none) ∧ w.heap.size ≤ B ∧ Below w.heap.size w w' := by
  have HR := Lib.hid (fun u => ac_right n d tu hn u)
  have HW := Lib.hid (fun u => ac_within start 0 1125899906842624 (by decide) u)
  rw [h] at HR
  rw [decide_eq_true hs] at HW
  have hr : rightO n d = true ∧ (0 ≤ tu ∧ tu ≤ 4096) := by
    unfold rightC at h
    rw [Bool.and_eq_true] at h
    exact ⟨h.1, of_decide_eq_true h.2⟩
  have hb4 := of_decide_eq_true hr.1
  have HSO := Lib.hid (fun u => side_of n d hn hr.1 u)
  have hok : PD.Ok (⟨tu, n, d, 0, false, 0, 0, 1048576, 0, 0, false, 0, 0, 1048576, 0, 0, none, none, false⟩ : PD) := ⟨hr.2, hb4, (by simp), (by simp), (by simp), (by simp), (by simp), (by simp), (by simp), (by simp), (by simp), (by simp)⟩
  have hok2 : PD.Ok (⟨tu, n, d, 0, false, 0, 0, 1048576, 0, 0, false, 0, start, 1048576, 0, 0, none, none, false⟩ : PD) := ⟨hr.2, hb4, (by simp), (by simp), (by simp), (by simp), (by simp), (by simp), (by simp), ⟨by show -1152921504606846976 ≤ start; omega, by show start ≤ 1152921504606846976; omega⟩, (by simp), (by simp)⟩
  have HOK3 := Lib.hid (show PD.Ok (newP n d tu start) from ⟨hr.2, hb4, (by simp [newP]), (by simp [newP]), (by simp [newP]), (by simp [newP]), (by simp [newP]), (by simp [newP]), (by simp [newP]), ⟨by show -1152921504606846976 ≤ start; omega, by show start ≤ 1152921504606846976; omega⟩, (by simp [newP]), ⟨by show 0 ≤ start; omega, by show start ≤ 1152921504606846976; omega⟩⟩)
  have l0 := look_self 0 0 1048576 (by decide)
  have l1 := look_self 0 start 1048576 (by omega)
  have e0 : shE 0 0 1048576 0 start = 0 := by unfold shE; rw [l0.1, l0.2, Int.zero_add, fit_yes (by omega), cut_yes (by omega), mayB_yes (by omega)]; rfl
  have e1 : shC 0 0 1048576 0 start = 0 := by unfold shC; rw [if_pos e0]
  have e2 : shV 0 0 1048576 0 start = start := by unfold shV; rw [if_pos e0, l0.2, Int.zero_add, cut_yes (by omega)]
  have e3 : readT 0 start 1048576 0 0 = start := by
    unfold readT; rw [l1.1, l1.2]; clear e2; by_cases hz : 0 < start
    · rw [if_pos ⟨rfl, hz⟩]
    · rw [if_neg (fun hh => hz hh.2)]; omega
  have HSH := Lib.hid (show ∀ u B, Blk u B 205 (PD.C (⟨tu, n, d, 0, false, 0, 0, 1048576, 0, 0, false, 0, 0, 1048576, 0, 0, none, none, false⟩ : PD) (.pointer none) (.pointer none)) → Calls Try.prog 109 #[.pointer (some ⟨B, 13, none⟩), .int .i64 0, .int .i64 start] u fun y w' => y = .returned (.int .i64 0) ∧ Blk w' B 205 (PD.C (⟨tu, n, d, 0, false, 0, 0, 1048576, 0, 0, false, 0, start, 1048576, 0, 0, none, none, false⟩ : PD) (.pointer none) (.pointer none)) ∧ Kp B (.slice none 0 0) u w' from fun u B hu => by
    have h2 := cl_shift 0 start (by decide) (by omega) 205 (PD.C (⟨tu, n, d, 0, false, 0, 0, 1048576, 0, 0, false, 0, 0, 1048576, 0, 0, none, none, false⟩ : PD) (.pointer none) (.pointer none)) 13 _ _ _ _ B u hu (hok.sk (.pointer none) (.pointer none))
    simp only at h2
    rw [e0, e1, e2] at h2
    exact h2)
  have HTE := Lib.hid (show ∀ u B, Blk u B 205 (PD.C (⟨tu, n, d, 0, false, 0, 0, 1048576, 0, 0, false, 0, start, 1048576, 0, 0, none, none, false⟩ : PD) (.pointer none) (.pointer none)) → Calls Try.prog 110 #[.pointer (some ⟨B, 9, none⟩)] u fun y w' => (∃ k, y = .returned (.bool k)) ∧ Blk w' B 205 (PD.C (newP n d tu start) (.pointer none) (.pointer none)) ∧ Kp B (.slice none 0 0) u w' from fun u B hu => by
    have h2 := sd_tell 205 (PD.C (⟨tu, n, d, 0, false, 0, 0, 1048576, 0, 0, false, 0, start, 1048576, 0, 0, none, none, false⟩ : PD) (.pointer none) (.pointer none)) 9 _ _ _ _ _ _ _ _ B u hu (hok2.so (.pointer none) (.pointer none)) (hok2.sk (.pointer none) (.pointer none))
    simp only at h2
    rw [e3] at h2
    exact h2.mono fun y w' ⟨h1, h2, h3⟩ => ⟨⟨_, h1⟩, h2, h3⟩)
  clear hn h hs hr hb4 hok hok2 l0 l1 e0 e1 e2 e3
  go_enter Try.func42, Try.ntmps42
  go_wp2_with fail
  refine (HR.out _).mono ?_
  rintro y w1 ⟨rfl, hb⟩
  have HB1 := Lib.hid (below_transG ((Below.refl _ w).alloc (Nat.le_refl _) _) hb)
  have HS1 := Lib.hid ((Blk.new w 92 [.int .i64 n, .int .i64 d, .int .i64 tu]).keep hb (by simp))
  clear hb
  go_wp2_with fail
  refine (HW.out _).mono ?_
  rintro y w1' ⟨rfl, rfl⟩
  have HZ := Lib.hid (show ∀ u, Below w1.heap.size w1 u → (Below w1.heap.size w1 u ∧ u.cell? ⟨w.heap.size, 0, none⟩ = some (.int .i64 n) ∧ u.cell? ⟨w.heap.size, 1, none⟩ = some (.int .i64 d) ∧ u.cell? ⟨w.heap.size, 2, none⟩ = some (.int .i64 tu)) from fun u hu => ⟨hu, (HS1.out.keep hu HS1.out.lt).cellAt (i := 0) (by simp), (HS1.out.keep hu HS1.out.lt).cellAt (i := 1) (by simp), (HS1.out.keep hu HS1.out.lt).cellAt (i := 2) (by simp)⟩)
  have z0 := HZ.out _ (Below.refl _ _)
  have z1 := HZ.out _ (Below.refl _ _).drew
  go_upto_region 3 with fail
  go_cut [1, 6] (fun s1 s6 wx => s1 = .int .i64 start ∧ ∃ B, s6 = .pointer (some ⟨B, 0, none⟩) ∧ Blk wx B 205 (PD.C (⟨tu, n, d, 0, false, 0, 0, 1048576, 0, 0, false, 0, 0, 1048576, 0, 0, none, none, false⟩ : PD) (.pointer none) (.pointer none)) ∧ w.heap.size ≤ B ∧ Below w.heap.size w wx)
  case first =>
    go_region_held3 (fun u => (Below w1.heap.size w1 u ∧ u.cell? ⟨w.heap.size, 0, none⟩ = some (.int .i64 n) ∧ u.cell? ⟨w.heap.size, 1, none⟩ = some (.int .i64 d) ∧ u.cell? ⟨w.heap.size, 2, none⟩ = some (.int .i64 tu))) (first | (with_reducible assumption) | (with_reducible exact HZ.out _ (h3S.1.alloc h3S.1.size _))) (first | (have zz := h2S; clear zz; go_at_call 108; refine (HSO.out _).mono ?_; rintro y w3 ⟨rfl, h3⟩; have h3S := HZ.out _ (below_transG h2S.1 h3)) | (go_at_call 108; refine (HSO.out _).mono ?_; rintro y w2 ⟨rfl, h2⟩; have h2S := HZ.out _ (below_transG (Below.refl _ _).drew h2)))
    all_goals (go_wp2_with fail; go_meet; exact ⟨rfl, w3.heap.size, rfl, Blk.new w3 205 [.int .i64 tu, .int .i64 n, .int .i64 d, .int .i64 0, .bool false, .int .i64 0, .int .i64 0, .int .i64 1048576, .int .i64 0, .int .i64 n, .int .i64 d, .int .i64 0, .bool false, .int .i64 0, .int .i64 0, .int .i64 1048576, .int .i64 0, .int .i64 0, .pointer none, .pointer none, .bool false], (HB1.out.trans (h3S.1.mono HB1.out.size)).size, (HB1.out.trans (h3S.1.mono HB1.out.size)).alloc (HB1.out.trans (h3S.1.mono HB1.out.size)).size _⟩)
  case rest =>
  obtain ⟨w4, hw4⟩ : ∃ w4, w4 = wc := ⟨_, rfl⟩
  rw [← hw4] at hcut ⊢
  obtain ⟨rfl, B, rfl, h4, hBB, hb4⟩ := hcut
  have H4 := Lib.hid h4; have HB4 := Lib.hid hb4; have HBB := Lib.hid hBB
  clear h4 hb4 hBB hw4 z0 z1
  go_wp2_with fail
  refine (HSH.out _ _ H4.out).mono ?_
  rintro y w5 ⟨rfl, h5, hk5⟩
  have H5 := Lib.hid h5; have HB5 := Lib.hid (HB4.out.trans (hk5.belowN HBB.out HB4.out.size (fun k e => by cases e)))
  clear h5 hk5
  go_wp2_with fail
  refine (HTE.out _ _ H5.out).mono ?_
  rintro y w6 ⟨⟨k, rfl⟩, h6, hk6⟩
  have H6 := Lib.hid h6; have HB6 := Lib.hid (HB5.out.trans (hk6.belowN HBB.out HB5.out.size (fun k e => by cases e)))
  clear h6 hk6
  go_wp2_with fail
  go_ret2
  exact ⟨B, rfl, ⟨H6.out, rfl, rfl, HOK3.out⟩, HBB.out, HB6.out⟩
end Go.Proofs.Ytbjelggbnmfblaa
