/- Layer 27's statements: jobs that can be, from any. Conditions: none. -/
import Derived.Test.YtbcccffjlkphpaaEdv
namespace Go.Proofs.Ytbcccffjlkphpaa
open Go.RowKit Go.Shelf
set_option linter.unusedSimpArgs false
set_option linter.unusedVariables false
attribute [local go_sem] Oper.semAt_some
/-- A number from 0 on, below a bound. -/
def partI (n m : Int) : Int := if n < 0 then 0 else n % m
theorem partI_in (n : Int) {m : Int} (hm : 0 < m) : 0 ≤ partI n m ∧ partI n m < m := by
  unfold partI
  split
  · omega
  · exact ⟨Int.emod_nonneg _ (by omega), Int.emod_lt_of_pos _ hm⟩
theorem part_any (n m : Int) (hm : 0 < m) (w : World) : Calls Try.prog 32 #[.int .i64 n, .int .i64 m] w fun y w' => y = .returned (.int .i64 (partI n m)) ∧ Below w.heap.size w w' := by
  have HB := Lib.hid (Below.refl w.heap.size w)
  have k0 : (m == 0) = false := by rw [beq_eq_false_iff_ne]; omega
  have k1 : ¬ m = 0 := by omega
  by_cases h : n < 0
  · rw [show partI n m = 0 from if_pos h]
    go_enter Try.func32, Try.ntmps32
    go_wp2_with fail
    go_ret
    exact ⟨rfl, by first | exact HB.out | exact HB.out.drew⟩
  · have h2 : 0 ≤ n := by omega
    have h3 : Int.tmod n m = n % m := Int.tmod_eq_emod_of_nonneg h2
    rw [show partI n m = n % m from if_neg h]
    go_enter Try.func32, Try.ntmps32
    go_wp2_with fail
    go_ret
    exact ⟨by first | rfl | (rw [h3]), by first | exact HB.out | exact HB.out.drew⟩
/-- A job that can be, from any one. -/
def jbF (x : Jb) : Jb := ⟨partI x.s 20, partI x.r 3000, partI x.r 3000 + partI x.d 2000, partI x.c 200 + 1⟩
theorem jbF_right (x : Jb) : rightJ (jbF x) = true ∧ (0 ≤ (jbF x).r ∧ (jbF x).r < 3000) ∧ (jbF x).r ≤ (jbF x).d := by
  have h1 := partI_in x.s (m := 20) (by omega)
  have h2 := partI_in x.r (m := 3000) (by omega)
  have h3 := partI_in x.d (m := 2000) (by omega)
  have h4 := partI_in x.c (m := 200) (by omega)
  unfold jbF rightJ inB
  refine ⟨?_, by simp only; omega, by simp only; omega⟩
  simp only [Bool.and_eq_true, decide_eq_true_eq]
  omega
theorem own_keepJ {A B : World} {n₀ base n size : Nat} {e : TypeId} {v : Value} {xs : List Value} (h : Below n₀ A B) (hs : A.heap.size ≤ n₀) (ho : A.ownsRow base e size v n xs) : B.ownsRow base e size v n xs := by
  refine ⟨ho.1, ?_⟩
  have h2 := ho.2
  rcases h2 with h0 | ⟨g, cap, cur, e1, e2, hg, r⟩
  · exact .inl h0
  · exact .inr ⟨g, cap, cur, e1, e2, (h.block g (Nat.lt_of_lt_of_le (Array.getElem?_eq_some_iff.1 hg).1 hs)).trans hg, r⟩
/-- The first k of some jobs, made such as can be. -/
def jobK (L : List Jb) (k : Nat) : List Jb := (L.take k).map jbF
theorem jobK_len {L : List Jb} {k : Nat} (h : k ≤ L.length) : (jobK L k).length = k := by unfold jobK; simp; omega
theorem jobK_succ {L : List Jb} {k : Nat} (h : k < L.length) : jobK L (k + 1) = jobK L k ++ [jbF (L[k])] := by
  unfold jobK
  rw [List.take_add_one, List.map_append, List.getElem?_eq_getElem h]; rfl
def jobL (L : List Jb) : List Jb := jobK L (min L.length 40)
theorem info_job : (Try.prog.info? 42).map (fun i => (i.zero, i.size, i.bytes)) = some (some (.agg #[.int .i64 0, .int .i64 0, .int .i64 0, .int .i64 0]), 4, 32) := by kernel_rfl
set_option maxRecDepth 100000 in
set_option maxHeartbeats 4000000 in
theorem ljobs_any (a : Option Addr) (len cap : Nat) (L : List Jb) (w : World) (hI : Jbs w.heap.size w (.slice a len cap) L) :
    Calls Try.prog 20 #[.slice a len cap] w fun e W' => ∃ v, e = .returned v ∧ W'.ownsRow w.heap.size 42 4 v (jobL L).length ((jobL L).flatMap Jb.C) ∧ Below w.heap.size w W' := by
  obtain rfl := hI.len
  have HI := Lib.hid hI
  clear hI
  obtain ⟨i0, hi, hz0, hz1, hz2⟩ := info_parts info_job
  go_enter Try.func20, Try.ntmps20
  go_wp2_with fail
  go_loopw [3, 4] (fun v i wr => ∃ k : Nat, i = .int .i64 (k : Int) ∧ k ≤ L.length ∧ k ≤ 40 ∧ wr.ownsRow w.heap.size 42 4 v k ((jobK L k).flatMap Jb.C) ∧ Below w.heap.size w wr) (fun _ i _ => 40 - (intOf i).toNat)
  case atStart => exact ⟨0, rfl, by omega, by omega, ⟨rfl, .inl ⟨rfl, rfl⟩⟩, by first | exact Below.refl _ _ | exact (Below.refl _ _).drew⟩
  case round =>
    obtain ⟨k, rfl, hk, hk6, hrow, hB⟩ := hrel
    have HB := Lib.hid hB; have HROW := Lib.hid hrow
    clear hB hrow
    have i3 : (0 : Int) ≤ (k : Int) := by omega
    by_cases hlt : k < L.length
    · have i1 : (k : Int) < (L.length : Int) := by omega
      obtain ⟨g, off, rfl, hc⟩ : ∃ g off, a = some ⟨g, off, none⟩ ∧ ∀ i v, (L[k].C)[i]? = some v → wr.cell? ⟨g, off + k * 4 + i, none⟩ = some v := by
        rcases HI.out with ⟨_, _, _, e⟩ | ⟨g, off, _, e, hg, hc⟩
        · rw [e] at hlt; cases hlt
        · injection e with e1 _ _
          exact ⟨g, off, e1, fun i v hv => (HB.out.cell (p := ⟨g, off + k * 4 + i, none⟩) hg).trans (hc k hlt i v hv)⟩
      by_cases h6 : k < 40
      · have i2 : (k : Int) < 40 := by omega
        obtain ⟨y, hy⟩ : ∃ y, y = L[k] := ⟨_, rfl⟩
        rw [← hy] at hc
        have p0 : wr.cell? ⟨g, off + k * 4, none⟩ = some (.int .i64 y.s) := hc 0 _ rfl
        have p1 : wr.cell? ⟨g, off + k * 4 + 1, none⟩ = some (.int .i64 y.r) := hc 1 _ rfl
        have p2 : wr.cell? ⟨g, off + k * 4 + 2, none⟩ = some (.int .i64 y.d) := hc 2 _ rfl
        have p3 : wr.cell? ⟨g, off + k * 4 + 3, none⟩ = some (.int .i64 y.c) := hc 3 _ rfl
        have HP1 := Lib.hid (fun u => part_any y.s 20 (by omega) u); have HP2 := Lib.hid (fun u => part_any y.r 3000 (by omega) u); have HP3 := Lib.hid (fun u => part_any y.d 2000 (by omega) u); have HP4 := Lib.hid (fun u => part_any y.c 200 (by omega) u)
        have g2 := partI_in y.r (m := 3000) (by omega)
        have g3 := partI_in y.d (m := 2000) (by omega)
        have g4 := partI_in y.c (m := 200) (by omega)
        obtain ⟨v1, hv1⟩ : ∃ v, v = partI y.s 20 := ⟨_, rfl⟩
        obtain ⟨v2, hv2⟩ : ∃ v, v = partI y.r 3000 := ⟨_, rfl⟩
        obtain ⟨v3, hv3⟩ : ∃ v, v = partI y.d 2000 := ⟨_, rfl⟩
        obtain ⟨v4, hv4⟩ : ∃ v, v = partI y.c 200 := ⟨_, rfl⟩
        rw [← hv1] at HP1; rw [← hv2] at HP2 g2; rw [← hv3] at HP3 g3; rw [← hv4] at HP4 g4
        obtain ⟨D, hD⟩ : ∃ D, D = v2 + v3 := ⟨_, rfl⟩
        obtain ⟨C, hC⟩ : ∃ C, C = v4 + 1 := ⟨_, rfl⟩
        have HX1 := Lib.hid (show IntKind.i64.wrap (v2 + v3) = D by rw [IntKind.wrap_i64, hD]; omega)
        have x1 : wrap64 (v2 + v3) = D := by rw [hD]; unfold wrap64; omega
        have x2 : wrap64 (v4 + 1) = C := by rw [hC]; unfold wrap64; omega
        have HF := Lib.hid (show jobK L (k + 1) = jobK L k ++ [(⟨v1, v2, D, C⟩ : Jb)] by rw [jobK_succ hlt, ← hy, hD, hC, hv1, hv2, hv3, hv4]; rfl)
        have HM := Lib.hid (show k + 1 ≤ maxLen by unfold maxLen; omega)
        clear hy hc hv1 hv2 hv3 hv4 hD hC g2 g3 g4
        go_upto_region 6 with fail
        obtain ⟨W1, hW1⟩ : ∃ W, W = (wr.alloc (.cells #[.int .i64 y.s, .int .i64 y.r, .int .i64 y.d, .int .i64 y.c] 42)) := ⟨_, rfl⟩
        have hbel_ : Below wr.heap.size wr W1 := by rw [hW1]; exact ((Below.refl wr.heap.size wr).alloc (Nat.le_refl wr.heap.size) _)
        have h_x : Blk W1 wr.heap.size 42 [.int .i64 y.s, .int .i64 y.r, .int .i64 y.d, .int .i64 y.c] := by rw [hW1]; exact (blk_at (wr) wr.heap.size (by rfl) 42 [.int .i64 y.s, .int .i64 y.r, .int .i64 y.d, .int .i64 y.c]).keep (Below.refl (wr.heap.size + 1) _) (by omega)
        rw [← hW1]
        have HB1 := Lib.hid hbel_
        have Hx1 := Lib.hid h_x
        clear hbel_ hW1  h_x
        have x_0 : W1.cell? ⟨wr.heap.size, 0, none⟩ = some (.int .i64 y.s) := Hx1.out.cellAt (i := 0) (by simp)
        have x_1 : W1.cell? ⟨wr.heap.size, 1, none⟩ = some (.int .i64 y.r) := Hx1.out.cellAt (i := 1) (by simp)
        have x_2 : W1.cell? ⟨wr.heap.size, 2, none⟩ = some (.int .i64 y.d) := Hx1.out.cellAt (i := 2) (by simp)
        have x_3 : W1.cell? ⟨wr.heap.size, 3, none⟩ = some (.int .i64 y.c) := Hx1.out.cellAt (i := 3) (by simp)
        have xf_0 : W1.frozen? ⟨wr.heap.size, 0, none⟩ = false := Hx1.out.frozenAt 0
        have xf_1 : W1.frozen? ⟨wr.heap.size, 1, none⟩ = false := Hx1.out.frozenAt 1
        have xf_2 : W1.frozen? ⟨wr.heap.size, 2, none⟩ = false := Hx1.out.frozenAt 2
        have xf_3 : W1.frozen? ⟨wr.heap.size, 3, none⟩ = false := Hx1.out.frozenAt 3
        go_wp2_with fail
        clear x_0 x_1 x_2 x_3 xf_0 xf_1 xf_2 xf_3
        refine (HP1.out _).mono ?_
        rintro y w2 ⟨rfl, hb⟩
        have HB2 := Lib.hid (below_transG HB1.out hb)
        have Hx2 := Lib.hid (Hx1.out.keep hb Hx1.out.lt)
        clear hb
        have x_0 : w2.cell? ⟨wr.heap.size, 0, none⟩ = some (.int .i64 y.s) := Hx2.out.cellAt (i := 0) (by simp)
        have x_1 : w2.cell? ⟨wr.heap.size, 1, none⟩ = some (.int .i64 y.r) := Hx2.out.cellAt (i := 1) (by simp)
        have x_2 : w2.cell? ⟨wr.heap.size, 2, none⟩ = some (.int .i64 y.d) := Hx2.out.cellAt (i := 2) (by simp)
        have x_3 : w2.cell? ⟨wr.heap.size, 3, none⟩ = some (.int .i64 y.c) := Hx2.out.cellAt (i := 3) (by simp)
        have xf_0 : w2.frozen? ⟨wr.heap.size, 0, none⟩ = false := Hx2.out.frozenAt 0
        have xf_1 : w2.frozen? ⟨wr.heap.size, 1, none⟩ = false := Hx2.out.frozenAt 1
        have xf_2 : w2.frozen? ⟨wr.heap.size, 2, none⟩ = false := Hx2.out.frozenAt 2
        have xf_3 : w2.frozen? ⟨wr.heap.size, 3, none⟩ = false := Hx2.out.frozenAt 3
        go_wp2_with fail
        clear x_0 x_1 x_2 x_3 xf_0 xf_1 xf_2 xf_3
        obtain ⟨W3, hW3⟩ : ∃ W, W = w2.setCell ⟨wr.heap.size, 0, none⟩ (.int .i64 v1) := ⟨_, rfl⟩
        have hx_ : Blk W3 wr.heap.size 42 [.int .i64 v1, .int .i64 y.r, .int .i64 y.d, .int .i64 y.c] := by rw [hW3]; exact Hx2.out.put1 (i := 0) (by simp) _
        have hb_ : Below wr.heap.size wr W3 := by rw [hW3]; exact HB2.out.setCell (p := ⟨wr.heap.size, 0, none⟩) (Nat.le_refl _) _
        rw [← hW3]
        have Hx3 := Lib.hid hx_; have HB3 := Lib.hid hb_
        clear hW3 hx_ hb_
        refine (HP2.out _).mono ?_
        rintro y w4 ⟨rfl, hb⟩
        have HB4 := Lib.hid (below_transG HB3.out hb)
        have Hx4 := Lib.hid (Hx3.out.keep hb Hx3.out.lt)
        clear hb
        have x_0 : w4.cell? ⟨wr.heap.size, 0, none⟩ = some (.int .i64 v1) := Hx4.out.cellAt (i := 0) (by simp)
        have x_1 : w4.cell? ⟨wr.heap.size, 1, none⟩ = some (.int .i64 y.r) := Hx4.out.cellAt (i := 1) (by simp)
        have x_2 : w4.cell? ⟨wr.heap.size, 2, none⟩ = some (.int .i64 y.d) := Hx4.out.cellAt (i := 2) (by simp)
        have x_3 : w4.cell? ⟨wr.heap.size, 3, none⟩ = some (.int .i64 y.c) := Hx4.out.cellAt (i := 3) (by simp)
        have xf_0 : w4.frozen? ⟨wr.heap.size, 0, none⟩ = false := Hx4.out.frozenAt 0
        have xf_1 : w4.frozen? ⟨wr.heap.size, 1, none⟩ = false := Hx4.out.frozenAt 1
        have xf_2 : w4.frozen? ⟨wr.heap.size, 2, none⟩ = false := Hx4.out.frozenAt 2
        have xf_3 : w4.frozen? ⟨wr.heap.size, 3, none⟩ = false := Hx4.out.frozenAt 3
        go_upto_region 8 with fail
        clear x_0 x_1 x_2 x_3 xf_0 xf_1 xf_2 xf_3
        obtain ⟨W5, hW5⟩ : ∃ W, W = w4.setCell ⟨wr.heap.size, 1, none⟩ (.int .i64 v2) := ⟨_, rfl⟩
        have hx_ : Blk W5 wr.heap.size 42 [.int .i64 v1, .int .i64 v2, .int .i64 y.d, .int .i64 y.c] := by rw [hW5]; exact Hx4.out.put1 (i := 1) (by simp) _
        have hb_ : Below wr.heap.size wr W5 := by rw [hW5]; exact HB4.out.setCell (p := ⟨wr.heap.size, 1, none⟩) (Nat.le_refl _) _
        rw [← hW5]
        have Hx5 := Lib.hid hx_; have HB5 := Lib.hid hb_
        clear hW5 hx_ hb_
        have HSW := Lib.hid (show ∀ u, Below W5.heap.size W5 u → (True ∧ u.cell? ⟨wr.heap.size, 1, none⟩ = some (.int .i64 v2)) from fun u hx => ⟨trivial, (Hx5.out.keep hx Hx5.out.lt).cellAt (i := 1) (by simp)⟩)
        refine wp_region_held_drew (S := fun u => True ∧ u.cell? ⟨wr.heap.size, 1, none⟩ = some (.int .i64 v2)) (by kernel_rfl) (HSW.out _ (Below.refl _ _).drew) (fun hHeld => ?_)
        refine wpAnyH_take (i := 0) (oi := _) (v := ?_) rfl (by kernel_rfl) (by kernel_rfl) (by kernel_rfl) (fun _ _ _ h => h) (Or.inl ⟨by rfl, ?_⟩) (by assumption) ?_
        rotate_left
        · intro x hSx
          try dsimp only at hSx
          obtain ⟨_, hSx0⟩ := hSx
          go_simp
          first | done | with_reducible rfl
        try simp only [Act.put, List.setIfInBounds_toArray, List.set_cons_zero, List.set_cons_succ]
        refine wpAnyH_take (i := 1) (oi := _) (v := ?_) rfl (by kernel_rfl) (by kernel_rfl) (by kernel_rfl) (fun _ _ _ h => h) (Or.inl ⟨by rfl, ?_⟩) (by assumption) ?_
        rotate_left
        · intro x hSx
          try dsimp only at hSx
          obtain ⟨_, hSx0⟩ := hSx
          go_simp
          first | done | with_reducible rfl
        try simp only [Act.put, List.setIfInBounds_toArray, List.set_cons_zero, List.set_cons_succ]
        refine wpAnyH_take (i := 2) (oi := _) (v := ?_) rfl (by kernel_rfl) (by kernel_rfl) (by kernel_rfl) (fun _ _ _ h => h) (Or.inl ⟨by rfl, ?_⟩) (by assumption) ?_
        rotate_left
        · intro x hSx
          try dsimp only at hSx
          obtain ⟨_, hSx0⟩ := hSx
          go_simp
          first | done | with_reducible rfl
        try simp only [Act.put, List.setIfInBounds_toArray, List.set_cons_zero, List.set_cons_succ]
        refine wpAnyH_ready (rs := [3]) (by kernel_rfl) (by simp) ?_
        refine AllReadyH.cons (o := _) rfl (fun K hK => ?_) AllReadyH.nil
        have q2 : W5.drew.cell? ⟨wr.heap.size, 2, none⟩ = some (.int .i64 y.d) := (Hx5.out.keep (Below.refl _ _).drew Hx5.out.lt).cellAt (i := 2) (by simp)
        go_simp
        refine hK.out _ _ (HSW.out _ (Below.refl W5.heap.size W5).drew) (fun hHeld => ?_)
        clear hK K hHeld
        try simp only [Act.put, List.setIfInBounds_toArray, List.set_cons_zero, List.set_cons_succ]
        have hHeld := HSW.out _ (Below.refl W5.heap.size W5).drew
        refine wpAnyH_ready (rs := [4]) (by kernel_rfl) (by simp) ?_
        refine AllReadyH.cons (o := _) rfl (fun K hK => ?_) AllReadyH.nil
        go_simp
        refine (HP3.out _).mono ?_
        rintro z w6 ⟨rfl, hb⟩
        have HC4 := Lib.hid (below_transG (Below.refl W5.heap.size W5).drew hb)
        clear hb
        go_wp2_with fail
        refine hK.out _ _ (HSW.out _ HC4.out) (fun hHeld => ?_)
        clear hK K hHeld
        try simp only [Act.put, List.setIfInBounds_toArray, List.set_cons_zero, List.set_cons_succ]
        have hHeld := HSW.out _ HC4.out
        refine wpAnyH_ready (rs := [5]) (by kernel_rfl) (by simp) ?_
        refine AllReadyH.cons (o := _) rfl (fun K hK => ?_) AllReadyH.nil
        go_simp
        refine hK.out _ _ (HSW.out _ HC4.out) (fun hHeld => ?_)
        clear hK K hHeld
        try simp only [Act.put, List.setIfInBounds_toArray, List.set_cons_zero, List.set_cons_succ]
        have hHeld := HSW.out _ HC4.out
        refine wpAnyH_ready (rs := [6]) (by kernel_rfl) (by simp) ?_
        refine AllReadyH.cons (o := _) rfl (fun K hK => ?_) AllReadyH.nil
        go_simp
        refine hK.out _ _ (HSW.out _ HC4.out) (fun hHeld => ?_)
        clear hK K hHeld
        try simp only [Act.put, List.setIfInBounds_toArray, List.set_cons_zero, List.set_cons_succ]
        have hHeld := HSW.out _ HC4.out
        have HX4 := Lib.hid (Hx5.out.keep HC4.out Hx5.out.lt)
        obtain ⟨WS, hWS⟩ : ∃ u, u = w6.setCell ⟨wr.heap.size, 2, none⟩ (.int .i64 D) := ⟨_, rfl⟩
        have HXS := Lib.hid (show Blk WS wr.heap.size 42 [.int .i64 v1, .int .i64 v2, .int .i64 D, .int .i64 y.c] by rw [hWS]; exact HX4.out.put1 (i := 2) (by simp) _)
        have HBS := Lib.hid (show Below wr.heap.size wr WS by rw [hWS]; exact (below_transG HB5.out HC4.out).setCell (p := ⟨wr.heap.size, 2, none⟩) (Nat.le_refl _) _)
        have HWS := Lib.hid hWS
        clear hWS
        refine wpAnyH_ready (rs := [7]) (by kernel_rfl) (by simp) ?_
        refine AllReadyH.cons (o := _) rfl (fun K hK => ?_) AllReadyH.nil
        have qf : w6.frozen? ⟨wr.heap.size, 2, none⟩ = false := HX4.out.frozenAt 2
        have qc : w6.cell? ⟨wr.heap.size, 2, none⟩ = some (.int .i64 y.d) := HX4.out.cellAt (i := 2) (by simp)
        go_simp
        rw [HX1.out, ← HWS.out]
        refine hK.out _ _ ((⟨trivial, HXS.out.cellAt (i := 1) (by simp)⟩ : True ∧ WS.cell? ⟨wr.heap.size, 1, none⟩ = some (.int .i64 v2))) (fun hHeld => ?_)
        clear hK K hHeld
        try simp only [Act.put, List.setIfInBounds_toArray, List.set_cons_zero, List.set_cons_succ]
        have hHeld := (⟨trivial, HXS.out.cellAt (i := 1) (by simp)⟩ : True ∧ WS.cell? ⟨wr.heap.size, 1, none⟩ = some (.int .i64 v2))
        refine ⟨by kernel_rfl, ?_⟩
        clear hHeld
        have HB7 := HBS; have Hx7 := HXS; obtain ⟨W7, hW7⟩ : ∃ u, u = WS := ⟨_, rfl⟩
        rw [← hW7] at HB7 Hx7 ⊢
        clear hW7 HBS HXS HWS HX4 HC4 HSW
        have x_0 : W7.cell? ⟨wr.heap.size, 0, none⟩ = some (.int .i64 v1) := Hx7.out.cellAt (i := 0) (by simp)
        have x_1 : W7.cell? ⟨wr.heap.size, 1, none⟩ = some (.int .i64 v2) := Hx7.out.cellAt (i := 1) (by simp)
        have x_2 : W7.cell? ⟨wr.heap.size, 2, none⟩ = some (.int .i64 D) := Hx7.out.cellAt (i := 2) (by simp)
        have x_3 : W7.cell? ⟨wr.heap.size, 3, none⟩ = some (.int .i64 y.c) := Hx7.out.cellAt (i := 3) (by simp)
        have xf_0 : W7.frozen? ⟨wr.heap.size, 0, none⟩ = false := Hx7.out.frozenAt 0
        have xf_1 : W7.frozen? ⟨wr.heap.size, 1, none⟩ = false := Hx7.out.frozenAt 1
        have xf_2 : W7.frozen? ⟨wr.heap.size, 2, none⟩ = false := Hx7.out.frozenAt 2
        have xf_3 : W7.frozen? ⟨wr.heap.size, 3, none⟩ = false := Hx7.out.frozenAt 3
        go_wp2_with fail
        clear x_0 x_1 x_2 x_3 xf_0 xf_1 xf_2 xf_3
        refine (HP4.out _).mono ?_
        rintro y w8 ⟨rfl, hb⟩
        have HB8 := Lib.hid (below_transG HB7.out hb)
        have Hx8 := Lib.hid (Hx7.out.keep hb Hx7.out.lt)
        clear hb
        have x_0 : w8.cell? ⟨wr.heap.size, 0, none⟩ = some (.int .i64 v1) := Hx8.out.cellAt (i := 0) (by simp)
        have x_1 : w8.cell? ⟨wr.heap.size, 1, none⟩ = some (.int .i64 v2) := Hx8.out.cellAt (i := 1) (by simp)
        have x_2 : w8.cell? ⟨wr.heap.size, 2, none⟩ = some (.int .i64 D) := Hx8.out.cellAt (i := 2) (by simp)
        have x_3 : w8.cell? ⟨wr.heap.size, 3, none⟩ = some (.int .i64 y.c) := Hx8.out.cellAt (i := 3) (by simp)
        have xf_0 : w8.frozen? ⟨wr.heap.size, 0, none⟩ = false := Hx8.out.frozenAt 0
        have xf_1 : w8.frozen? ⟨wr.heap.size, 1, none⟩ = false := Hx8.out.frozenAt 1
        have xf_2 : w8.frozen? ⟨wr.heap.size, 2, none⟩ = false := Hx8.out.frozenAt 2
        have xf_3 : w8.frozen? ⟨wr.heap.size, 3, none⟩ = false := Hx8.out.frozenAt 3
        go_upto_region 10 with fail
        clear x_0 x_1 x_2 x_3 xf_0 xf_1 xf_2 xf_3
        obtain ⟨W9, hW9⟩ : ∃ W, W = w8.setCell ⟨wr.heap.size, 3, none⟩ (.int .i64 C) := ⟨_, rfl⟩
        have hx_ : Blk W9 wr.heap.size 42 [.int .i64 v1, .int .i64 v2, .int .i64 D, .int .i64 C] := by rw [hW9]; exact Hx8.out.put1 (i := 3) (by simp) _
        have hb_ : Below wr.heap.size wr W9 := by rw [hW9]; exact HB8.out.setCell (p := ⟨wr.heap.size, 3, none⟩) (Nat.le_refl _) _
        rw [← hW9]
        have Hx9 := Lib.hid hx_; have HB9 := Lib.hid hb_
        clear hW9 hx_ hb_
        have HR1 := Lib.hid (own_keepJ HB9.out (Nat.le_refl _) HROW.out)
        have HB1 := Lib.hid (HB.out.trans (HB9.out.mono HB.out.size))
        have HN := Lib.hid (show ∀ (j : Nat) (u : Value), ([.int .i64 v1, .int .i64 v2, .int .i64 D, .int .i64 C] : List Value)[j]? = some u → (W9.alloc (.cells #[.int .i64 v1, .int .i64 v2, .int .i64 D, .int .i64 C] 42)).cell? ((⟨W9.heap.size, 0, none⟩ : Addr).add j) = some u from fun j u hj => by
          have hlt := (List.getElem?_eq_some_iff.1 hj).1
          have h1 := (Blk.new W9 42 [.int .i64 v1, .int .i64 v2, .int .i64 D, .int .i64 C]).cellAt (i := j) hlt
          have h2 := (List.getElem?_eq_some_iff.1 hj).2
          rw [h2] at h1
          have e : ((⟨W9.heap.size, 0, none⟩ : Addr).add j) = ⟨W9.heap.size, j, none⟩ := by cases j <;> simp [Addr.add]
          rw [e]
          exact h1)
        have HO := Lib.hid (show ∀ u ∈ ([.int .i64 v1, .int .i64 v2, .int .i64 D, .int .i64 C] : List Value), u.oneCell' = true by simp [Value.oneCell'])
        have HM1 := Lib.hid (show k + 1 ≤ maxLen by unfold maxLen; omega)
        have HM2 := Lib.hid (show (k + 1) * 32 ≤ 140737488355328 by omega)
        have HM3 := Lib.hid (show w.heap.size ≤ (W9.alloc (.cells #[.int .i64 v1, .int .i64 v2, .int .i64 D, .int .i64 C] 42)).heap.size by have := HB1.out.size; simp only [World.size_alloc]; omega)
        have x_0 : W9.cell? ⟨wr.heap.size, 0, none⟩ = some (.int .i64 v1) := Hx9.out.cellAt (i := 0) (by simp)
        have x_1 : W9.cell? ⟨wr.heap.size, 1, none⟩ = some (.int .i64 v2) := Hx9.out.cellAt (i := 1) (by simp)
        have x_2 : W9.cell? ⟨wr.heap.size, 2, none⟩ = some (.int .i64 D) := Hx9.out.cellAt (i := 2) (by simp)
        have x_3 : W9.cell? ⟨wr.heap.size, 3, none⟩ = some (.int .i64 C) := Hx9.out.cellAt (i := 3) (by simp)
        have xf_0 : W9.frozen? ⟨wr.heap.size, 0, none⟩ = false := Hx9.out.frozenAt 0
        have xf_1 : W9.frozen? ⟨wr.heap.size, 1, none⟩ = false := Hx9.out.frozenAt 1
        have xf_2 : W9.frozen? ⟨wr.heap.size, 2, none⟩ = false := Hx9.out.frozenAt 2
        have xf_3 : W9.frozen? ⟨wr.heap.size, 3, none⟩ = false := Hx9.out.frozenAt 3
        go_wp2_with (at_builtin; refine wpList_append_own _ rfl _ _ 22 rfl w.heap.size 42 i0 (.agg #[.int .i64 0, .int .i64 0, .int .i64 0, .int .i64 0]) 4 32 Try.underlying22 hi hz0 hz1 hz2 rfl (by decide) _ _ _ rfl (HR1.out.alloc _) ⟨W9.heap.size, 0, none⟩ 1 1 [.int .i64 v1, .int .i64 v2, .int .i64 D, .int .i64 C] rfl rfl HN.out HO.out HM1.out HM2.out HM3.out ?_)
        intro v' w3 hown2 hgrow _
        have HB3 := Lib.hid ((HB1.out.alloc HB1.out.size _).grown hgrow HM3.out (fun j e => (World.ownsRow.lt HR1.out j e).1))
        have HR3 := Lib.hid hown2
        clear hown2 hgrow
        go_wp2
        go_roundw
        case rel => exact ⟨k + 1, by simp, by omega, by omega, by rw [HF.out, List.flatMap_append, List.flatMap_singleton]; exact HR3.out, HB3.out⟩
        case measure => simp [intOf]; omega
      · have i2 : ¬ (k : Int) < 40 := by omega
        have HF := Lib.hid (show jobK L k = jobL L by unfold jobL; rw [show min L.length 40 = k by omega])
        have hkl := jobK_len hk
        go_wp2_with fail
        go_ret
        exact ⟨_, rfl, by rw [← HF.out, hkl]; exact HROW.out, by first | exact HB.out | exact HB.out.drew⟩
    · have i1 : ¬ (k : Int) < (L.length : Int) := by omega
      have HF := Lib.hid (show jobK L k = jobL L by unfold jobL; rw [show min L.length 40 = k by omega])
      have hkl := jobK_len hk
      go_wp2_with fail
      go_ret
      exact ⟨_, rfl, by rw [← HF.out, hkl]; exact HROW.out, by first | exact HB.out | exact HB.out.drew⟩
end Go.Proofs.Ytbcccffjlkphpaa
