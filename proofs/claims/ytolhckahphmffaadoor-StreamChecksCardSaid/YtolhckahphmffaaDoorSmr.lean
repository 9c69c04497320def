/- Layer 25's statements: a stream that can be, from any one. Conditions: none. -/
import Derived.Test.YtolhckahphmffaaDoorSmp
namespace Go.Proofs.YtolhckahphmffaaDoor
open Go.RowKit Go.Shelf
/-- A number from 0 on, below a bound. -/
def partI (n m : Int) : Int := if n < 0 then 0 else n % m
theorem partI_in (n : Int) {m : Int} (hm : 0 < m) : 0 ≤ partI n m ∧ partI n m < m := by
  unfold partI
  split
  · omega
  · exact ⟨Int.emod_nonneg _ (by omega), Int.emod_lt_of_pos _ hm⟩
theorem part_any (n m : Int) (hm : 0 < m) (w : World) : Calls Tryd.prog 80 #[.int .i64 n, .int .i64 m] w fun y w' => y = .returned (.int .i64 (partI n m)) ∧ Below w.heap.size w w' := by
  have HB := Lib.hid (Below.refl w.heap.size w)
  have k0 : (m == 0) = false := by rw [beq_eq_false_iff_ne]; omega
  have k1 : ¬ m = 0 := by omega
  by_cases h : n < 0
  · rw [show partI n m = 0 from if_pos h]
    go_enter Tryd.func80, Tryd.ntmps80
    go_wp2_with fail
    go_ret
    exact ⟨rfl, by first | exact HB.out | exact HB.out.drew⟩
  · have h2 : 0 ≤ n := by omega
    have h3 : Int.tmod n m = n % m := Int.tmod_eq_emod_of_nonneg h2
    rw [show partI n m = n % m from if_neg h]
    go_enter Tryd.func80, Tryd.ntmps80
    go_wp2_with fail
    go_ret
    exact ⟨by first | rfl | (rw [h3]), by first | exact HB.out | exact HB.out.drew⟩
/-- A stream that can be, from any one, of that Id. -/
def stF (x : Sm) (id : Int) : Sm := ⟨id, partI x.n 4, partI x.c 3 + 1, partI x.p 4000 + 200, partI x.d (partI x.p 4000 + 200 - 99) + 100, partI x.s 256, partI x.b 9⟩
theorem stF_right (x : Sm) {id : Int} (h : 0 ≤ id ∧ id ≤ 2047) : (stF x id).right = 0 ∧ (200 ≤ (stF x id).p ∧ (stF x id).p ≤ 4199) ∧ (100 ≤ (stF x id).d ∧ (stF x id).d ≤ (stF x id).p) := by
  have h1 := partI_in x.n (m := 4) (by omega)
  have h2 := partI_in x.c (m := 3) (by omega)
  have h3 := partI_in x.p (m := 4000) (by omega)
  have h4 := partI_in x.d (m := partI x.p 4000 + 200 - 99) (by omega)
  have h5 := partI_in x.s (m := 256) (by omega)
  have h6 := partI_in x.b (m := 9) (by omega)
  unfold Sm.right stF rightS rightL inS
  simp only
  refine ⟨?_, by omega, by omega⟩
  rw [if_neg, if_neg, if_neg, if_neg, if_neg]
  all_goals
    rw [decide_eq_false_iff_not]
    omega
set_option maxRecDepth 100000 in
set_option maxHeartbeats 8000000 in
theorem lstream_any (x : Sm) (id : Int) (w : World) : Calls Tryd.prog 55 #[x.v, .int .i64 id] w fun y w' => y = .returned (stF x id).v ∧ Below w.heap.size w w' := by
  have h1 := partI_in x.n (m := 4) (by omega)
  have h2 := partI_in x.c (m := 3) (by omega)
  have h3 := partI_in x.p (m := 4000) (by omega)
  have h4 := partI_in x.d (m := partI x.p 4000 + 200 - 99) (by omega)
  have h5 := partI_in x.s (m := 256) (by omega)
  have h6 := partI_in x.b (m := 9) (by omega)
  have HP1 := Lib.hid (fun u => part_any x.n 4 (by omega) u); have HP2 := Lib.hid (fun u => part_any x.c 3 (by omega) u); have HP3 := Lib.hid (fun u => part_any x.p 4000 (by omega) u); have HP4 := Lib.hid (fun u => part_any x.d (partI x.p 4000 + 200 - 99) (by omega) u); have HP5 := Lib.hid (fun u => part_any x.s 256 (by omega) u); have HP6 := Lib.hid (fun u => part_any x.b 9 (by omega) u)
  unfold stF Sm.v
  obtain ⟨v1, hv1⟩ : ∃ v, v = partI x.n 4 := ⟨_, rfl⟩
  obtain ⟨v2, hv2⟩ : ∃ v, v = partI x.c 3 := ⟨_, rfl⟩
  obtain ⟨v3, hv3⟩ : ∃ v, v = partI x.p 4000 := ⟨_, rfl⟩
  obtain ⟨v5, hv5⟩ : ∃ v, v = partI x.s 256 := ⟨_, rfl⟩
  obtain ⟨v6, hv6⟩ : ∃ v, v = partI x.b 9 := ⟨_, rfl⟩
  rw [← hv1] at HP1 h1; rw [← hv2] at HP2 h2; rw [← hv3] at HP3 HP4 h3 h4; rw [← hv5] at HP5 h5; rw [← hv6] at HP6 h6
  obtain ⟨v4, hv4⟩ : ∃ v, v = partI x.d (v3 + 200 - 99) := ⟨_, rfl⟩
  rw [← hv4] at HP4 h4
  rw [← hv1, ← hv2, ← hv3, ← hv4, ← hv5, ← hv6]
  clear hv1 hv2 hv3 hv4 hv5 hv6
  obtain ⟨C, hC⟩ : ∃ C, C = v2 + 1 := ⟨_, rfl⟩
  obtain ⟨P, hP⟩ : ∃ P, P = v3 + 200 := ⟨_, rfl⟩
  obtain ⟨Q, hQ⟩ : ∃ Q, Q = P - 99 := ⟨_, rfl⟩
  obtain ⟨D, hD⟩ : ∃ D, D = v4 + 100 := ⟨_, rfl⟩
  have w1 : wrap64 (v2 + 1) = C := by rw [hC]; unfold wrap64; omega
  have w2 : wrap64 (v3 + 200) = P := by rw [hP]; unfold wrap64; omega
  have w3 : wrap64 (P - 99) = Q := by rw [hQ, hP]; unfold wrap64; omega
  have w4 : wrap64 (v4 + 100) = D := by rw [hD]; unfold wrap64; omega
  rw [← hP, ← hQ] at HP4
  rw [← hC, ← hP, ← hD]
  clear h1 h2 h3 h4 h5 h6 hC hP hQ hD
  go_enter Tryd.func55, Tryd.ntmps55
  go_upto_region 1 with fail
  obtain ⟨W1, hW1⟩ : ∃ W, W = ((w.alloc (.cells #[.int .i64 x.i, .int .i64 x.n, .int .i64 x.c, .int .i64 x.p, .int .i64 x.d, .int .i64 x.s, .int .i64 x.b] 30)).alloc (.cells #[.int .i64 0, .int .i64 0, .int .i64 0, .int .i64 0, .int .i64 0, .int .i64 0, .int .i64 0] 30)) := ⟨_, rfl⟩
  have hbel_ : Below w.heap.size w W1 := by rw [hW1]; exact (((Below.refl w.heap.size w).alloc (Nat.le_refl w.heap.size) _).alloc (by have := (Nat.le_refl w.heap.size); simp only [World.size_alloc]; omega) _)
  have h_x : Blk W1 w.heap.size 30 [.int .i64 x.i, .int .i64 x.n, .int .i64 x.c, .int .i64 x.p, .int .i64 x.d, .int .i64 x.s, .int .i64 x.b] := by rw [hW1]; exact (blk_at (w) w.heap.size (by rfl) 30 [.int .i64 x.i, .int .i64 x.n, .int .i64 x.c, .int .i64 x.p, .int .i64 x.d, .int .i64 x.s, .int .i64 x.b]).keep ((Below.refl (w.heap.size + 1) _).alloc (by simp only [World.size_alloc]; omega) _) (by omega)
  have h_r : Blk W1 (w.heap.size + 1) 30 [.int .i64 0, .int .i64 0, .int .i64 0, .int .i64 0, .int .i64 0, .int .i64 0, .int .i64 0] := by rw [hW1]; exact (blk_at ((w.alloc (.cells #[.int .i64 x.i, .int .i64 x.n, .int .i64 x.c, .int .i64 x.p, .int .i64 x.d, .int .i64 x.s, .int .i64 x.b] 30))) (w.heap.size + 1) (by simp only [World.size_alloc]) 30 [.int .i64 0, .int .i64 0, .int .i64 0, .int .i64 0, .int .i64 0, .int .i64 0, .int .i64 0]).keep (Below.refl ((w.heap.size + 1) + 1) _) (by omega)
  rw [← hW1]
  have HB1 := Lib.hid hbel_
  have Hx1 := Lib.hid h_x
  have Hr1 := Lib.hid h_r
  clear hbel_ hW1  h_x h_r
  have x_0 : W1.cell? ⟨w.heap.size, 0, none⟩ = some (.int .i64 x.i) := Hx1.out.cellAt (i := 0) (by simp)
  have x_1 : W1.cell? ⟨w.heap.size, 1, none⟩ = some (.int .i64 x.n) := Hx1.out.cellAt (i := 1) (by simp)
  have x_2 : W1.cell? ⟨w.heap.size, 2, none⟩ = some (.int .i64 x.c) := Hx1.out.cellAt (i := 2) (by simp)
  have x_3 : W1.cell? ⟨w.heap.size, 3, none⟩ = some (.int .i64 x.p) := Hx1.out.cellAt (i := 3) (by simp)
  have x_4 : W1.cell? ⟨w.heap.size, 4, none⟩ = some (.int .i64 x.d) := Hx1.out.cellAt (i := 4) (by simp)
  have x_5 : W1.cell? ⟨w.heap.size, 5, none⟩ = some (.int .i64 x.s) := Hx1.out.cellAt (i := 5) (by simp)
  have x_6 : W1.cell? ⟨w.heap.size, 6, none⟩ = some (.int .i64 x.b) := Hx1.out.cellAt (i := 6) (by simp)
  have xf_0 : W1.frozen? ⟨w.heap.size, 0, none⟩ = false := Hx1.out.frozenAt 0
  have xf_1 : W1.frozen? ⟨w.heap.size, 1, none⟩ = false := Hx1.out.frozenAt 1
  have xf_2 : W1.frozen? ⟨w.heap.size, 2, none⟩ = false := Hx1.out.frozenAt 2
  have xf_3 : W1.frozen? ⟨w.heap.size, 3, none⟩ = false := Hx1.out.frozenAt 3
  have xf_4 : W1.frozen? ⟨w.heap.size, 4, none⟩ = false := Hx1.out.frozenAt 4
  have xf_5 : W1.frozen? ⟨w.heap.size, 5, none⟩ = false := Hx1.out.frozenAt 5
  have xf_6 : W1.frozen? ⟨w.heap.size, 6, none⟩ = false := Hx1.out.frozenAt 6
  go_wp2_with fail
  clear x_0 x_1 x_2 x_3 x_4 x_5 x_6 xf_0 xf_1 xf_2 xf_3 xf_4 xf_5 xf_6
  obtain ⟨W2, hW2⟩ : ∃ W, W = W1.setCell ⟨w.heap.size, 0, none⟩ (.int .i64 id) := ⟨_, rfl⟩
  have hx_ : Blk W2 w.heap.size 30 [.int .i64 id, .int .i64 x.n, .int .i64 x.c, .int .i64 x.p, .int .i64 x.d, .int .i64 x.s, .int .i64 x.b] := by rw [hW2]; exact Hx1.out.put1 (i := 0) (by simp) _
  have hb_ : Below w.heap.size w W2 := by rw [hW2]; exact HB1.out.setCell (p := ⟨w.heap.size, 0, none⟩) (Nat.le_refl _) _
  have hr_ : Blk W2 ((w.heap.size + 1)) 30 [.int .i64 0, .int .i64 0, .int .i64 0, .int .i64 0, .int .i64 0, .int .i64 0, .int .i64 0] := by rw [hW2]; exact Hr1.out.puts (by omega) 0 _
  rw [← hW2]
  have Hx2 := Lib.hid hx_; have HB2 := Lib.hid hb_; have Hr2 := Lib.hid hr_
  clear hW2 hx_ hb_ hr_
  refine (HP1.out _).mono ?_
  rintro y w3 ⟨rfl, hb⟩
  have HB3 := Lib.hid (below_transG HB2.out hb)
  have Hx3 := Lib.hid (Hx2.out.keep hb Hx2.out.lt)
  have Hr3 := Lib.hid (Hr2.out.keep hb Hr2.out.lt)
  clear hb
  have x_0 : w3.cell? ⟨w.heap.size, 0, none⟩ = some (.int .i64 id) := Hx3.out.cellAt (i := 0) (by simp)
  have x_1 : w3.cell? ⟨w.heap.size, 1, none⟩ = some (.int .i64 x.n) := Hx3.out.cellAt (i := 1) (by simp)
  have x_2 : w3.cell? ⟨w.heap.size, 2, none⟩ = some (.int .i64 x.c) := Hx3.out.cellAt (i := 2) (by simp)
  have x_3 : w3.cell? ⟨w.heap.size, 3, none⟩ = some (.int .i64 x.p) := Hx3.out.cellAt (i := 3) (by simp)
  have x_4 : w3.cell? ⟨w.heap.size, 4, none⟩ = some (.int .i64 x.d) := Hx3.out.cellAt (i := 4) (by simp)
  have x_5 : w3.cell? ⟨w.heap.size, 5, none⟩ = some (.int .i64 x.s) := Hx3.out.cellAt (i := 5) (by simp)
  have x_6 : w3.cell? ⟨w.heap.size, 6, none⟩ = some (.int .i64 x.b) := Hx3.out.cellAt (i := 6) (by simp)
  have xf_0 : w3.frozen? ⟨w.heap.size, 0, none⟩ = false := Hx3.out.frozenAt 0
  have xf_1 : w3.frozen? ⟨w.heap.size, 1, none⟩ = false := Hx3.out.frozenAt 1
  have xf_2 : w3.frozen? ⟨w.heap.size, 2, none⟩ = false := Hx3.out.frozenAt 2
  have xf_3 : w3.frozen? ⟨w.heap.size, 3, none⟩ = false := Hx3.out.frozenAt 3
  have xf_4 : w3.frozen? ⟨w.heap.size, 4, none⟩ = false := Hx3.out.frozenAt 4
  have xf_5 : w3.frozen? ⟨w.heap.size, 5, none⟩ = false := Hx3.out.frozenAt 5
  have xf_6 : w3.frozen? ⟨w.heap.size, 6, none⟩ = false := Hx3.out.frozenAt 6
  go_wp2_with fail
  clear x_0 x_1 x_2 x_3 x_4 x_5 x_6 xf_0 xf_1 xf_2 xf_3 xf_4 xf_5 xf_6
  obtain ⟨W4, hW4⟩ : ∃ W, W = w3.setCell ⟨w.heap.size, 1, none⟩ (.int .i64 v1) := ⟨_, rfl⟩
  have hx_ : Blk W4 w.heap.size 30 [.int .i64 id, .int .i64 v1, .int .i64 x.c, .int .i64 x.p, .int .i64 x.d, .int .i64 x.s, .int .i64 x.b] := by rw [hW4]; exact Hx3.out.put1 (i := 1) (by simp) _
  have hb_ : Below w.heap.size w W4 := by rw [hW4]; exact HB3.out.setCell (p := ⟨w.heap.size, 1, none⟩) (Nat.le_refl _) _
  have hr_ : Blk W4 ((w.heap.size + 1)) 30 [.int .i64 0, .int .i64 0, .int .i64 0, .int .i64 0, .int .i64 0, .int .i64 0, .int .i64 0] := by rw [hW4]; exact Hr3.out.puts (by omega) 1 _
  rw [← hW4]
  have Hx4 := Lib.hid hx_; have HB4 := Lib.hid hb_; have Hr4 := Lib.hid hr_
  clear hW4 hx_ hb_ hr_
  refine (HP2.out _).mono ?_
  rintro y w5 ⟨rfl, hb⟩
  have HB5 := Lib.hid (below_transG HB4.out hb)
  have Hx5 := Lib.hid (Hx4.out.keep hb Hx4.out.lt)
  have Hr5 := Lib.hid (Hr4.out.keep hb Hr4.out.lt)
  clear hb
  have x_0 : w5.cell? ⟨w.heap.size, 0, none⟩ = some (.int .i64 id) := Hx5.out.cellAt (i := 0) (by simp)
  have x_1 : w5.cell? ⟨w.heap.size, 1, none⟩ = some (.int .i64 v1) := Hx5.out.cellAt (i := 1) (by simp)
  have x_2 : w5.cell? ⟨w.heap.size, 2, none⟩ = some (.int .i64 x.c) := Hx5.out.cellAt (i := 2) (by simp)
  have x_3 : w5.cell? ⟨w.heap.size, 3, none⟩ = some (.int .i64 x.p) := Hx5.out.cellAt (i := 3) (by simp)
  have x_4 : w5.cell? ⟨w.heap.size, 4, none⟩ = some (.int .i64 x.d) := Hx5.out.cellAt (i := 4) (by simp)
  have x_5 : w5.cell? ⟨w.heap.size, 5, none⟩ = some (.int .i64 x.s) := Hx5.out.cellAt (i := 5) (by simp)
  have x_6 : w5.cell? ⟨w.heap.size, 6, none⟩ = some (.int .i64 x.b) := Hx5.out.cellAt (i := 6) (by simp)
  have xf_0 : w5.frozen? ⟨w.heap.size, 0, none⟩ = false := Hx5.out.frozenAt 0
  have xf_1 : w5.frozen? ⟨w.heap.size, 1, none⟩ = false := Hx5.out.frozenAt 1
  have xf_2 : w5.frozen? ⟨w.heap.size, 2, none⟩ = false := Hx5.out.frozenAt 2
  have xf_3 : w5.frozen? ⟨w.heap.size, 3, none⟩ = false := Hx5.out.frozenAt 3
  have xf_4 : w5.frozen? ⟨w.heap.size, 4, none⟩ = false := Hx5.out.frozenAt 4
  have xf_5 : w5.frozen? ⟨w.heap.size, 5, none⟩ = false := Hx5.out.frozenAt 5
  have xf_6 : w5.frozen? ⟨w.heap.size, 6, none⟩ = false := Hx5.out.frozenAt 6
  go_wp2_with fail
  clear x_0 x_1 x_2 x_3 x_4 x_5 x_6 xf_0 xf_1 xf_2 xf_3 xf_4 xf_5 xf_6
  obtain ⟨W6, hW6⟩ : ∃ W, W = w5.setCell ⟨w.heap.size, 2, none⟩ (.int .i64 C) := ⟨_, rfl⟩
  have hx_ : Blk W6 w.heap.size 30 [.int .i64 id, .int .i64 v1, .int .i64 C, .int .i64 x.p, .int .i64 x.d, .int .i64 x.s, .int .i64 x.b] := by rw [hW6]; exact Hx5.out.put1 (i := 2) (by simp) _
  have hb_ : Below w.heap.size w W6 := by rw [hW6]; exact HB5.out.setCell (p := ⟨w.heap.size, 2, none⟩) (Nat.le_refl _) _
  have hr_ : Blk W6 ((w.heap.size + 1)) 30 [.int .i64 0, .int .i64 0, .int .i64 0, .int .i64 0, .int .i64 0, .int .i64 0, .int .i64 0] := by rw [hW6]; exact Hr5.out.puts (by omega) 2 _
  rw [← hW6]
  have Hx6 := Lib.hid hx_; have HB6 := Lib.hid hb_; have Hr6 := Lib.hid hr_
  clear hW6 hx_ hb_ hr_
  refine (HP3.out _).mono ?_
  rintro y w7 ⟨rfl, hb⟩
  have HB7 := Lib.hid (below_transG HB6.out hb)
  have Hx7 := Lib.hid (Hx6.out.keep hb Hx6.out.lt)
  have Hr7 := Lib.hid (Hr6.out.keep hb Hr6.out.lt)
  clear hb
  have x_0 : w7.cell? ⟨w.heap.size, 0, none⟩ = some (.int .i64 id) := Hx7.out.cellAt (i := 0) (by simp)
  have x_1 : w7.cell? ⟨w.heap.size, 1, none⟩ = some (.int .i64 v1) := Hx7.out.cellAt (i := 1) (by simp)
  have x_2 : w7.cell? ⟨w.heap.size, 2, none⟩ = some (.int .i64 C) := Hx7.out.cellAt (i := 2) (by simp)
  have x_3 : w7.cell? ⟨w.heap.size, 3, none⟩ = some (.int .i64 x.p) := Hx7.out.cellAt (i := 3) (by simp)
  have x_4 : w7.cell? ⟨w.heap.size, 4, none⟩ = some (.int .i64 x.d) := Hx7.out.cellAt (i := 4) (by simp)
  have x_5 : w7.cell? ⟨w.heap.size, 5, none⟩ = some (.int .i64 x.s) := Hx7.out.cellAt (i := 5) (by simp)
  have x_6 : w7.cell? ⟨w.heap.size, 6, none⟩ = some (.int .i64 x.b) := Hx7.out.cellAt (i := 6) (by simp)
  have xf_0 : w7.frozen? ⟨w.heap.size, 0, none⟩ = false := Hx7.out.frozenAt 0
  have xf_1 : w7.frozen? ⟨w.heap.size, 1, none⟩ = false := Hx7.out.frozenAt 1
  have xf_2 : w7.frozen? ⟨w.heap.size, 2, none⟩ = false := Hx7.out.frozenAt 2
  have xf_3 : w7.frozen? ⟨w.heap.size, 3, none⟩ = false := Hx7.out.frozenAt 3
  have xf_4 : w7.frozen? ⟨w.heap.size, 4, none⟩ = false := Hx7.out.frozenAt 4
  have xf_5 : w7.frozen? ⟨w.heap.size, 5, none⟩ = false := Hx7.out.frozenAt 5
  have xf_6 : w7.frozen? ⟨w.heap.size, 6, none⟩ = false := Hx7.out.frozenAt 6
  go_wp2_with fail
  clear x_0 x_1 x_2 x_3 x_4 x_5 x_6 xf_0 xf_1 xf_2 xf_3 xf_4 xf_5 xf_6
  obtain ⟨W8, hW8⟩ : ∃ W, W = w7.setCell ⟨w.heap.size, 3, none⟩ (.int .i64 P) := ⟨_, rfl⟩
  have hx_ : Blk W8 w.heap.size 30 [.int .i64 id, .int .i64 v1, .int .i64 C, .int .i64 P, .int .i64 x.d, .int .i64 x.s, .int .i64 x.b] := by rw [hW8]; exact Hx7.out.put1 (i := 3) (by simp) _
  have hb_ : Below w.heap.size w W8 := by rw [hW8]; exact HB7.out.setCell (p := ⟨w.heap.size, 3, none⟩) (Nat.le_refl _) _
  have hr_ : Blk W8 ((w.heap.size + 1)) 30 [.int .i64 0, .int .i64 0, .int .i64 0, .int .i64 0, .int .i64 0, .int .i64 0, .int .i64 0] := by rw [hW8]; exact Hr7.out.puts (by omega) 3 _
  rw [← hW8]
  have Hx8 := Lib.hid hx_; have HB8 := Lib.hid hb_; have Hr8 := Lib.hid hr_
  clear hW8 hx_ hb_ hr_
  refine (HP4.out _).mono ?_
  rintro y w9 ⟨rfl, hb⟩
  have HB9 := Lib.hid (below_transG HB8.out hb)
  have Hx9 := Lib.hid (Hx8.out.keep hb Hx8.out.lt)
  have Hr9 := Lib.hid (Hr8.out.keep hb Hr8.out.lt)
  clear hb
  have x_0 : w9.cell? ⟨w.heap.size, 0, none⟩ = some (.int .i64 id) := Hx9.out.cellAt (i := 0) (by simp)
  have x_1 : w9.cell? ⟨w.heap.size, 1, none⟩ = some (.int .i64 v1) := Hx9.out.cellAt (i := 1) (by simp)
  have x_2 : w9.cell? ⟨w.heap.size, 2, none⟩ = some (.int .i64 C) := Hx9.out.cellAt (i := 2) (by simp)
  have x_3 : w9.cell? ⟨w.heap.size, 3, none⟩ = some (.int .i64 P) := Hx9.out.cellAt (i := 3) (by simp)
  have x_4 : w9.cell? ⟨w.heap.size, 4, none⟩ = some (.int .i64 x.d) := Hx9.out.cellAt (i := 4) (by simp)
  have x_5 : w9.cell? ⟨w.heap.size, 5, none⟩ = some (.int .i64 x.s) := Hx9.out.cellAt (i := 5) (by simp)
  have x_6 : w9.cell? ⟨w.heap.size, 6, none⟩ = some (.int .i64 x.b) := Hx9.out.cellAt (i := 6) (by simp)
  have xf_0 : w9.frozen? ⟨w.heap.size, 0, none⟩ = false := Hx9.out.frozenAt 0
  have xf_1 : w9.frozen? ⟨w.heap.size, 1, none⟩ = false := Hx9.out.frozenAt 1
  have xf_2 : w9.frozen? ⟨w.heap.size, 2, none⟩ = false := Hx9.out.frozenAt 2
  have xf_3 : w9.frozen? ⟨w.heap.size, 3, none⟩ = false := Hx9.out.frozenAt 3
  have xf_4 : w9.frozen? ⟨w.heap.size, 4, none⟩ = false := Hx9.out.frozenAt 4
  have xf_5 : w9.frozen? ⟨w.heap.size, 5, none⟩ = false := Hx9.out.frozenAt 5
  have xf_6 : w9.frozen? ⟨w.heap.size, 6, none⟩ = false := Hx9.out.frozenAt 6
  go_wp2_with fail
  clear x_0 x_1 x_2 x_3 x_4 x_5 x_6 xf_0 xf_1 xf_2 xf_3 xf_4 xf_5 xf_6
  obtain ⟨W10, hW10⟩ : ∃ W, W = w9.setCell ⟨w.heap.size, 4, none⟩ (.int .i64 D) := ⟨_, rfl⟩
  have hx_ : Blk W10 w.heap.size 30 [.int .i64 id, .int .i64 v1, .int .i64 C, .int .i64 P, .int .i64 D, .int .i64 x.s, .int .i64 x.b] := by rw [hW10]; exact Hx9.out.put1 (i := 4) (by simp) _
  have hb_ : Below w.heap.size w W10 := by rw [hW10]; exact HB9.out.setCell (p := ⟨w.heap.size, 4, none⟩) (Nat.le_refl _) _
  have hr_ : Blk W10 ((w.heap.size + 1)) 30 [.int .i64 0, .int .i64 0, .int .i64 0, .int .i64 0, .int .i64 0, .int .i64 0, .int .i64 0] := by rw [hW10]; exact Hr9.out.puts (by omega) 4 _
  rw [← hW10]
  have Hx10 := Lib.hid hx_; have HB10 := Lib.hid hb_; have Hr10 := Lib.hid hr_
  clear hW10 hx_ hb_ hr_
  refine (HP5.out _).mono ?_
  rintro y w11 ⟨rfl, hb⟩
  have HB11 := Lib.hid (below_transG HB10.out hb)
  have Hx11 := Lib.hid (Hx10.out.keep hb Hx10.out.lt)
  have Hr11 := Lib.hid (Hr10.out.keep hb Hr10.out.lt)
  clear hb
  have x_0 : w11.cell? ⟨w.heap.size, 0, none⟩ = some (.int .i64 id) := Hx11.out.cellAt (i := 0) (by simp)
  have x_1 : w11.cell? ⟨w.heap.size, 1, none⟩ = some (.int .i64 v1) := Hx11.out.cellAt (i := 1) (by simp)
  have x_2 : w11.cell? ⟨w.heap.size, 2, none⟩ = some (.int .i64 C) := Hx11.out.cellAt (i := 2) (by simp)
  have x_3 : w11.cell? ⟨w.heap.size, 3, none⟩ = some (.int .i64 P) := Hx11.out.cellAt (i := 3) (by simp)
  have x_4 : w11.cell? ⟨w.heap.size, 4, none⟩ = some (.int .i64 D) := Hx11.out.cellAt (i := 4) (by simp)
  have x_5 : w11.cell? ⟨w.heap.size, 5, none⟩ = some (.int .i64 x.s) := Hx11.out.cellAt (i := 5) (by simp)
  have x_6 : w11.cell? ⟨w.heap.size, 6, none⟩ = some (.int .i64 x.b) := Hx11.out.cellAt (i := 6) (by simp)
  have xf_0 : w11.frozen? ⟨w.heap.size, 0, none⟩ = false := Hx11.out.frozenAt 0
  have xf_1 : w11.frozen? ⟨w.heap.size, 1, none⟩ = false := Hx11.out.frozenAt 1
  have xf_2 : w11.frozen? ⟨w.heap.size, 2, none⟩ = false := Hx11.out.frozenAt 2
  have xf_3 : w11.frozen? ⟨w.heap.size, 3, none⟩ = false := Hx11.out.frozenAt 3
  have xf_4 : w11.frozen? ⟨w.heap.size, 4, none⟩ = false := Hx11.out.frozenAt 4
  have xf_5 : w11.frozen? ⟨w.heap.size, 5, none⟩ = false := Hx11.out.frozenAt 5
  have xf_6 : w11.frozen? ⟨w.heap.size, 6, none⟩ = false := Hx11.out.frozenAt 6
  go_wp2_with fail
  clear x_0 x_1 x_2 x_3 x_4 x_5 x_6 xf_0 xf_1 xf_2 xf_3 xf_4 xf_5 xf_6
  obtain ⟨W12, hW12⟩ : ∃ W, W = w11.setCell ⟨w.heap.size, 5, none⟩ (.int .i64 v5) := ⟨_, rfl⟩
  have hx_ : Blk W12 w.heap.size 30 [.int .i64 id, .int .i64 v1, .int .i64 C, .int .i64 P, .int .i64 D, .int .i64 v5, .int .i64 x.b] := by rw [hW12]; exact Hx11.out.put1 (i := 5) (by simp) _
  have hb_ : Below w.heap.size w W12 := by rw [hW12]; exact HB11.out.setCell (p := ⟨w.heap.size, 5, none⟩) (Nat.le_refl _) _
  have hr_ : Blk W12 ((w.heap.size + 1)) 30 [.int .i64 0, .int .i64 0, .int .i64 0, .int .i64 0, .int .i64 0, .int .i64 0, .int .i64 0] := by rw [hW12]; exact Hr11.out.puts (by omega) 5 _
  rw [← hW12]
  have Hx12 := Lib.hid hx_; have HB12 := Lib.hid hb_; have Hr12 := Lib.hid hr_
  clear hW12 hx_ hb_ hr_
  refine (HP6.out _).mono ?_
  rintro y w13 ⟨rfl, hb⟩
  have HB13 := Lib.hid (below_transG HB12.out hb)
  have Hx13 := Lib.hid (Hx12.out.keep hb Hx12.out.lt)
  have Hr13 := Lib.hid (Hr12.out.keep hb Hr12.out.lt)
  clear hb
  have x_0 : w13.cell? ⟨w.heap.size, 0, none⟩ = some (.int .i64 id) := Hx13.out.cellAt (i := 0) (by simp)
  have x_1 : w13.cell? ⟨w.heap.size, 1, none⟩ = some (.int .i64 v1) := Hx13.out.cellAt (i := 1) (by simp)
  have x_2 : w13.cell? ⟨w.heap.size, 2, none⟩ = some (.int .i64 C) := Hx13.out.cellAt (i := 2) (by simp)
  have x_3 : w13.cell? ⟨w.heap.size, 3, none⟩ = some (.int .i64 P) := Hx13.out.cellAt (i := 3) (by simp)
  have x_4 : w13.cell? ⟨w.heap.size, 4, none⟩ = some (.int .i64 D) := Hx13.out.cellAt (i := 4) (by simp)
  have x_5 : w13.cell? ⟨w.heap.size, 5, none⟩ = some (.int .i64 v5) := Hx13.out.cellAt (i := 5) (by simp)
  have x_6 : w13.cell? ⟨w.heap.size, 6, none⟩ = some (.int .i64 x.b) := Hx13.out.cellAt (i := 6) (by simp)
  have xf_0 : w13.frozen? ⟨w.heap.size, 0, none⟩ = false := Hx13.out.frozenAt 0
  have xf_1 : w13.frozen? ⟨w.heap.size, 1, none⟩ = false := Hx13.out.frozenAt 1
  have xf_2 : w13.frozen? ⟨w.heap.size, 2, none⟩ = false := Hx13.out.frozenAt 2
  have xf_3 : w13.frozen? ⟨w.heap.size, 3, none⟩ = false := Hx13.out.frozenAt 3
  have xf_4 : w13.frozen? ⟨w.heap.size, 4, none⟩ = false := Hx13.out.frozenAt 4
  have xf_5 : w13.frozen? ⟨w.heap.size, 5, none⟩ = false := Hx13.out.frozenAt 5
  have xf_6 : w13.frozen? ⟨w.heap.size, 6, none⟩ = false := Hx13.out.frozenAt 6
  have r_0 : w13.cell? ⟨(w.heap.size + 1), 0, none⟩ = some (.int .i64 0) := Hr13.out.cellAt (i := 0) (by simp)
  have r_1 : w13.cell? ⟨(w.heap.size + 1), 1, none⟩ = some (.int .i64 0) := Hr13.out.cellAt (i := 1) (by simp)
  have r_2 : w13.cell? ⟨(w.heap.size + 1), 2, none⟩ = some (.int .i64 0) := Hr13.out.cellAt (i := 2) (by simp)
  have r_3 : w13.cell? ⟨(w.heap.size + 1), 3, none⟩ = some (.int .i64 0) := Hr13.out.cellAt (i := 3) (by simp)
  have r_4 : w13.cell? ⟨(w.heap.size + 1), 4, none⟩ = some (.int .i64 0) := Hr13.out.cellAt (i := 4) (by simp)
  have r_5 : w13.cell? ⟨(w.heap.size + 1), 5, none⟩ = some (.int .i64 0) := Hr13.out.cellAt (i := 5) (by simp)
  have r_6 : w13.cell? ⟨(w.heap.size + 1), 6, none⟩ = some (.int .i64 0) := Hr13.out.cellAt (i := 6) (by simp)
  have rf_0 : w13.frozen? ⟨(w.heap.size + 1), 0, none⟩ = false := Hr13.out.frozenAt 0
  have rf_1 : w13.frozen? ⟨(w.heap.size + 1), 1, none⟩ = false := Hr13.out.frozenAt 1
  have rf_2 : w13.frozen? ⟨(w.heap.size + 1), 2, none⟩ = false := Hr13.out.frozenAt 2
  have rf_3 : w13.frozen? ⟨(w.heap.size + 1), 3, none⟩ = false := Hr13.out.frozenAt 3
  have rf_4 : w13.frozen? ⟨(w.heap.size + 1), 4, none⟩ = false := Hr13.out.frozenAt 4
  have rf_5 : w13.frozen? ⟨(w.heap.size + 1), 5, none⟩ = false := Hr13.out.frozenAt 5
  have rf_6 : w13.frozen? ⟨(w.heap.size + 1), 6, none⟩ = false := Hr13.out.frozenAt 6
  go_wp2_with fail
  clear x_0 x_1 x_2 x_3 x_4 x_5 x_6 xf_0 xf_1 xf_2 xf_3 xf_4 xf_5 xf_6 r_0 r_1 r_2 r_3 r_4 r_5 r_6 rf_0 rf_1 rf_2 rf_3 rf_4 rf_5 rf_6
  obtain ⟨W14, hW14⟩ : ∃ W, W = w13.setCell ⟨w.heap.size, 6, none⟩ (.int .i64 v6) := ⟨_, rfl⟩
  have hx_ : Blk W14 w.heap.size 30 [.int .i64 id, .int .i64 v1, .int .i64 C, .int .i64 P, .int .i64 D, .int .i64 v5, .int .i64 v6] := by rw [hW14]; exact Hx13.out.put1 (i := 6) (by simp) _
  have hb_ : Below w.heap.size w W14 := by rw [hW14]; exact HB13.out.setCell (p := ⟨w.heap.size, 6, none⟩) (Nat.le_refl _) _
  have hr_ : Blk W14 ((w.heap.size + 1)) 30 [.int .i64 0, .int .i64 0, .int .i64 0, .int .i64 0, .int .i64 0, .int .i64 0, .int .i64 0] := by rw [hW14]; exact Hr13.out.puts (by omega) 6 _
  rw [← hW14]
  have Hx14 := Lib.hid hx_; have HB14 := Lib.hid hb_; have Hr14 := Lib.hid hr_
  clear hW14 hx_ hb_ hr_
  obtain ⟨WZ, hWW⟩ : ∃ WZ, WZ = (((((((W14.setCell ⟨(w.heap.size + 1), 0, none⟩ (.int .i64 id)).setCell ⟨(w.heap.size + 1), 1, none⟩ (.int .i64 v1)).setCell ⟨(w.heap.size + 1), 2, none⟩ (.int .i64 C)).setCell ⟨(w.heap.size + 1), 3, none⟩ (.int .i64 P)).setCell ⟨(w.heap.size + 1), 4, none⟩ (.int .i64 D)).setCell ⟨(w.heap.size + 1), 5, none⟩ (.int .i64 v5)).setCell ⟨(w.heap.size + 1), 6, none⟩ (.int .i64 v6)) := ⟨_, rfl⟩
  rw [← hWW]
  have hRS : Blk WZ ((w.heap.size + 1)) 30 [.int .i64 id, .int .i64 v1, .int .i64 C, .int .i64 P, .int .i64 D, .int .i64 v5, .int .i64 v6] := by rw [hWW]; exact (Hr14.out).set [.int .i64 id, .int .i64 v1, .int .i64 C, .int .i64 P, .int .i64 D, .int .i64 v5, .int .i64 v6] rfl
  have hb := (show Below w.heap.size w WZ by rw [hWW]; exact Go.below_setCells (by first | omega | simp) [.int .i64 id, .int .i64 v1, .int .i64 C, .int .i64 P, .int .i64 D, .int .i64 v5, .int .i64 v6] 0 _ HB14.out)
  clear hWW
  have z0 : WZ.cell? ⟨(w.heap.size + 1), 0, none⟩ = some (.int .i64 id) := hRS.cellAt (i := 0) (by simp)
  have z1 : WZ.cell? ⟨(w.heap.size + 1), 1, none⟩ = some (.int .i64 v1) := hRS.cellAt (i := 1) (by simp)
  have z2 : WZ.cell? ⟨(w.heap.size + 1), 2, none⟩ = some (.int .i64 C) := hRS.cellAt (i := 2) (by simp)
  have z3 : WZ.cell? ⟨(w.heap.size + 1), 3, none⟩ = some (.int .i64 P) := hRS.cellAt (i := 3) (by simp)
  have z4 : WZ.cell? ⟨(w.heap.size + 1), 4, none⟩ = some (.int .i64 D) := hRS.cellAt (i := 4) (by simp)
  have z5 : WZ.cell? ⟨(w.heap.size + 1), 5, none⟩ = some (.int .i64 v5) := hRS.cellAt (i := 5) (by simp)
  have z6 : WZ.cell? ⟨(w.heap.size + 1), 6, none⟩ = some (.int .i64 v6) := hRS.cellAt (i := 6) (by simp)
  exact bodyPost_ret (v := .agg #[.int .i64 id, .int .i64 v1, .int .i64 C, .int .i64 P, .int .i64 D, .int .i64 v5, .int .i64 v6]) (by simp [results, Tryd.results55, go_sem, z0, z1, z2, z3, z4, z5, z6]) rfl ⟨rfl, hb⟩
end Go.Proofs.YtolhckahphmffaaDoor
