/- The document's own answers of layer 27: which of two jobs is ahead. Conditions: the numbers are of 64 bits. -/
import Derived.Test.YtbcccffjlkphpaaEdc
namespace Go.Proofs.Ytbcccffjlkphpaa
open Go.RowKit Go.Shelf Go.Sort
attribute [local go_sem] Oper.semAt_some
theorem ltJ_irr (len : Int) (x : Jb) : ¬ ltJ len x x := by unfold ltJ; omega
set_option maxRecDepth 100000 in
set_option maxHeartbeats 8000000 in
theorem rahead_any (a b : Jb) (len : Int) (w : World) : Calls Try.prog 19 #[a.v, b.v, .int .i64 len] w fun e w' => e = .returned (.bool (aheadJ a b len)) ∧ Below w.heap.size w w' := by
  obtain ⟨W0, hW0⟩ : ∃ W, W = (w.alloc (.cells #[.int .i64 a.s, .int .i64 a.r, .int .i64 a.d, .int .i64 a.c] 42)).alloc (.cells #[.int .i64 b.s, .int .i64 b.r, .int .i64 b.d, .int .i64 b.c] 42) := ⟨_, rfl⟩
  have hx : Blk W0 w.heap.size 42 a.C := by rw [hW0]; exact (Blk.new w 42 a.C).keep ((Below.refl _ _).alloc (Nat.le_refl _) _) (by simp)
  have hy : Blk W0 (w.heap.size + 1) 42 b.C := by
    rw [hW0]
    have := Blk.new (w.alloc (.cells #[.int .i64 a.s, .int .i64 a.r, .int .i64 a.d, .int .i64 a.c] 42)) 42 b.C
    rw [World.size_alloc] at this
    exact this
  have HW0 := Lib.hid (show Below w.heap.size w W0 by rw [hW0]; exact ((Below.refl w.heap.size w).alloc (Nat.le_refl _) _).alloc (by simp) _)
  have HX := Lib.hid hx; have HY := Lib.hid hy
  have HR1 := Lib.hid (fun u => rright_any a u); have HR2 := Lib.hid (fun u => rright_any b u)
  have HINB := Lib.hid (show inB len 1 1073741824 = decide (1 ≤ len ∧ len ≤ 1073741824) from rfl)
  have a0 : W0.cell? ⟨w.heap.size, 0, none⟩ = some (.int .i64 a.s) := hx.cellAt (i := 0) (by simp [Jb.C])
  have b0 : W0.cell? ⟨w.heap.size + 1, 0, none⟩ = some (.int .i64 b.s) := hy.cellAt (i := 0) (by simp [Jb.C])
  have a1 : W0.cell? ⟨w.heap.size, 1, none⟩ = some (.int .i64 a.r) := hx.cellAt (i := 1) (by simp [Jb.C])
  have b1 : W0.cell? ⟨w.heap.size + 1, 1, none⟩ = some (.int .i64 b.r) := hy.cellAt (i := 1) (by simp [Jb.C])
  have a2 : W0.cell? ⟨w.heap.size, 2, none⟩ = some (.int .i64 a.d) := hx.cellAt (i := 2) (by simp [Jb.C])
  have b2 : W0.cell? ⟨w.heap.size + 1, 2, none⟩ = some (.int .i64 b.d) := hy.cellAt (i := 2) (by simp [Jb.C])
  have a3 : W0.cell? ⟨w.heap.size, 3, none⟩ = some (.int .i64 a.c) := hx.cellAt (i := 3) (by simp [Jb.C])
  have b3 : W0.cell? ⟨w.heap.size + 1, 3, none⟩ = some (.int .i64 b.c) := hy.cellAt (i := 3) (by simp [Jb.C])
  clear hx hy
  unfold aheadJ
  unfold Jb.v at HR1 HR2 ⊢
  cases h1 : rightJ a
  · rw [h1] at HR1
    rw [Bool.false_and, Bool.and_false, Bool.false_and]
    clear h1
    go_enter Try.func19, Try.ntmps19
    go_upto_region 1 with fail
    rw [← hW0]
    clear hW0
    go_wp2_with fail
    refine (HR1.out _).mono ?_
    rintro y_ u0 ⟨rfl, hb⟩
    have HB0_ := Lib.hid (below_transE HW0.out hb HW0.out.size)
    have HX0_ := Lib.hid (HX.out.keep hb HX.out.lt); have HY0_ := Lib.hid (HY.out.keep hb HY.out.lt)
    clear hb a0 a1 a2 a3 b0 b1 b2 b3
    have a0 : u0.cell? ⟨w.heap.size, 0, none⟩ = some (.int .i64 a.s) := HX0_.out.cellAt (i := 0) (by simp [Jb.C])
    have b0 : u0.cell? ⟨w.heap.size + 1, 0, none⟩ = some (.int .i64 b.s) := HY0_.out.cellAt (i := 0) (by simp [Jb.C])
    have a1 : u0.cell? ⟨w.heap.size, 1, none⟩ = some (.int .i64 a.r) := HX0_.out.cellAt (i := 1) (by simp [Jb.C])
    have b1 : u0.cell? ⟨w.heap.size + 1, 1, none⟩ = some (.int .i64 b.r) := HY0_.out.cellAt (i := 1) (by simp [Jb.C])
    have a2 : u0.cell? ⟨w.heap.size, 2, none⟩ = some (.int .i64 a.d) := HX0_.out.cellAt (i := 2) (by simp [Jb.C])
    have b2 : u0.cell? ⟨w.heap.size + 1, 2, none⟩ = some (.int .i64 b.d) := HY0_.out.cellAt (i := 2) (by simp [Jb.C])
    have a3 : u0.cell? ⟨w.heap.size, 3, none⟩ = some (.int .i64 a.c) := HX0_.out.cellAt (i := 3) (by simp [Jb.C])
    have b3 : u0.cell? ⟨w.heap.size + 1, 3, none⟩ = some (.int .i64 b.c) := HY0_.out.cellAt (i := 3) (by simp [Jb.C])
    go_wp2_with fail
    go_ret
    exact ⟨rfl, by first | exact HB0_.out | exact HB0_.out.drew⟩
  · rw [h1] at HR1
    cases h2 : rightJ b
    · rw [h2] at HR2
      rw [Bool.and_false, Bool.and_false, Bool.false_and]
      clear h1 h2
      go_enter Try.func19, Try.ntmps19
      go_upto_region 1 with fail
      rw [← hW0]
      clear hW0
      go_wp2_with fail
      refine (HR1.out _).mono ?_
      rintro y_ u0 ⟨rfl, hb⟩
      have HB0_ := Lib.hid (below_transE HW0.out hb HW0.out.size)
      have HX0_ := Lib.hid (HX.out.keep hb HX.out.lt); have HY0_ := Lib.hid (HY.out.keep hb HY.out.lt)
      clear hb a0 a1 a2 a3 b0 b1 b2 b3
      have a0 : u0.cell? ⟨w.heap.size, 0, none⟩ = some (.int .i64 a.s) := HX0_.out.cellAt (i := 0) (by simp [Jb.C])
      have b0 : u0.cell? ⟨w.heap.size + 1, 0, none⟩ = some (.int .i64 b.s) := HY0_.out.cellAt (i := 0) (by simp [Jb.C])
      have a1 : u0.cell? ⟨w.heap.size, 1, none⟩ = some (.int .i64 a.r) := HX0_.out.cellAt (i := 1) (by simp [Jb.C])
      have b1 : u0.cell? ⟨w.heap.size + 1, 1, none⟩ = some (.int .i64 b.r) := HY0_.out.cellAt (i := 1) (by simp [Jb.C])
      have a2 : u0.cell? ⟨w.heap.size, 2, none⟩ = some (.int .i64 a.d) := HX0_.out.cellAt (i := 2) (by simp [Jb.C])
      have b2 : u0.cell? ⟨w.heap.size + 1, 2, none⟩ = some (.int .i64 b.d) := HY0_.out.cellAt (i := 2) (by simp [Jb.C])
      have a3 : u0.cell? ⟨w.heap.size, 3, none⟩ = some (.int .i64 a.c) := HX0_.out.cellAt (i := 3) (by simp [Jb.C])
      have b3 : u0.cell? ⟨w.heap.size + 1, 3, none⟩ = some (.int .i64 b.c) := HY0_.out.cellAt (i := 3) (by simp [Jb.C])
      go_wp2_with fail
      refine (HR2.out _).mono ?_
      rintro y_ u1 ⟨rfl, hb⟩
      have HB1_ := Lib.hid (below_transE HB0_.out hb HB0_.out.size)
      have HX1_ := Lib.hid (HX0_.out.keep hb HX0_.out.lt); have HY1_ := Lib.hid (HY0_.out.keep hb HY0_.out.lt)
      clear hb a0 a1 a2 a3 b0 b1 b2 b3
      have a0 : u1.cell? ⟨w.heap.size, 0, none⟩ = some (.int .i64 a.s) := HX1_.out.cellAt (i := 0) (by simp [Jb.C])
      have b0 : u1.cell? ⟨w.heap.size + 1, 0, none⟩ = some (.int .i64 b.s) := HY1_.out.cellAt (i := 0) (by simp [Jb.C])
      have a1 : u1.cell? ⟨w.heap.size, 1, none⟩ = some (.int .i64 a.r) := HX1_.out.cellAt (i := 1) (by simp [Jb.C])
      have b1 : u1.cell? ⟨w.heap.size + 1, 1, none⟩ = some (.int .i64 b.r) := HY1_.out.cellAt (i := 1) (by simp [Jb.C])
      have a2 : u1.cell? ⟨w.heap.size, 2, none⟩ = some (.int .i64 a.d) := HX1_.out.cellAt (i := 2) (by simp [Jb.C])
      have b2 : u1.cell? ⟨w.heap.size + 1, 2, none⟩ = some (.int .i64 b.d) := HY1_.out.cellAt (i := 2) (by simp [Jb.C])
      have a3 : u1.cell? ⟨w.heap.size, 3, none⟩ = some (.int .i64 a.c) := HX1_.out.cellAt (i := 3) (by simp [Jb.C])
      have b3 : u1.cell? ⟨w.heap.size + 1, 3, none⟩ = some (.int .i64 b.c) := HY1_.out.cellAt (i := 3) (by simp [Jb.C])
      go_wp2_with fail
      go_ret
      exact ⟨rfl, by first | exact HB1_.out | exact HB1_.out.drew⟩
    · rw [h2] at HR2
      by_cases l1 : len < 1
      · rw [show inB len 1 1073741824 = false by rw [HINB.out]; exact decide_eq_false (by omega), Bool.false_and, Bool.false_and]
        clear h1 h2
        go_enter Try.func19, Try.ntmps19
        go_upto_region 1 with fail
        rw [← hW0]
        clear hW0
        go_wp2_with fail
        refine (HR1.out _).mono ?_
        rintro y_ u0 ⟨rfl, hb⟩
        have HB0_ := Lib.hid (below_transE HW0.out hb HW0.out.size)
        have HX0_ := Lib.hid (HX.out.keep hb HX.out.lt); have HY0_ := Lib.hid (HY.out.keep hb HY.out.lt)
        clear hb a0 a1 a2 a3 b0 b1 b2 b3
        have a0 : u0.cell? ⟨w.heap.size, 0, none⟩ = some (.int .i64 a.s) := HX0_.out.cellAt (i := 0) (by simp [Jb.C])
        have b0 : u0.cell? ⟨w.heap.size + 1, 0, none⟩ = some (.int .i64 b.s) := HY0_.out.cellAt (i := 0) (by simp [Jb.C])
        have a1 : u0.cell? ⟨w.heap.size, 1, none⟩ = some (.int .i64 a.r) := HX0_.out.cellAt (i := 1) (by simp [Jb.C])
        have b1 : u0.cell? ⟨w.heap.size + 1, 1, none⟩ = some (.int .i64 b.r) := HY0_.out.cellAt (i := 1) (by simp [Jb.C])
        have a2 : u0.cell? ⟨w.heap.size, 2, none⟩ = some (.int .i64 a.d) := HX0_.out.cellAt (i := 2) (by simp [Jb.C])
        have b2 : u0.cell? ⟨w.heap.size + 1, 2, none⟩ = some (.int .i64 b.d) := HY0_.out.cellAt (i := 2) (by simp [Jb.C])
        have a3 : u0.cell? ⟨w.heap.size, 3, none⟩ = some (.int .i64 a.c) := HX0_.out.cellAt (i := 3) (by simp [Jb.C])
        have b3 : u0.cell? ⟨w.heap.size + 1, 3, none⟩ = some (.int .i64 b.c) := HY0_.out.cellAt (i := 3) (by simp [Jb.C])
        go_wp2_with fail
        refine (HR2.out _).mono ?_
        rintro y_ u1 ⟨rfl, hb⟩
        have HB1_ := Lib.hid (below_transE HB0_.out hb HB0_.out.size)
        have HX1_ := Lib.hid (HX0_.out.keep hb HX0_.out.lt); have HY1_ := Lib.hid (HY0_.out.keep hb HY0_.out.lt)
        clear hb a0 a1 a2 a3 b0 b1 b2 b3
        have a0 : u1.cell? ⟨w.heap.size, 0, none⟩ = some (.int .i64 a.s) := HX1_.out.cellAt (i := 0) (by simp [Jb.C])
        have b0 : u1.cell? ⟨w.heap.size + 1, 0, none⟩ = some (.int .i64 b.s) := HY1_.out.cellAt (i := 0) (by simp [Jb.C])
        have a1 : u1.cell? ⟨w.heap.size, 1, none⟩ = some (.int .i64 a.r) := HX1_.out.cellAt (i := 1) (by simp [Jb.C])
        have b1 : u1.cell? ⟨w.heap.size + 1, 1, none⟩ = some (.int .i64 b.r) := HY1_.out.cellAt (i := 1) (by simp [Jb.C])
        have a2 : u1.cell? ⟨w.heap.size, 2, none⟩ = some (.int .i64 a.d) := HX1_.out.cellAt (i := 2) (by simp [Jb.C])
        have b2 : u1.cell? ⟨w.heap.size + 1, 2, none⟩ = some (.int .i64 b.d) := HY1_.out.cellAt (i := 2) (by simp [Jb.C])
        have a3 : u1.cell? ⟨w.heap.size, 3, none⟩ = some (.int .i64 a.c) := HX1_.out.cellAt (i := 3) (by simp [Jb.C])
        have b3 : u1.cell? ⟨w.heap.size + 1, 3, none⟩ = some (.int .i64 b.c) := HY1_.out.cellAt (i := 3) (by simp [Jb.C])
        go_wp2_with fail
        go_ret
        exact ⟨rfl, by first | exact HB1_.out | exact HB1_.out.drew⟩
      · by_cases l2 : 1073741824 < len
        · rw [show inB len 1 1073741824 = false by rw [HINB.out]; exact decide_eq_false (by omega), Bool.false_and, Bool.false_and]
          clear h1 h2
          go_enter Try.func19, Try.ntmps19
          go_upto_region 1 with fail
          rw [← hW0]
          clear hW0
          go_wp2_with fail
          refine (HR1.out _).mono ?_
          rintro y_ u0 ⟨rfl, hb⟩
          have HB0_ := Lib.hid (below_transE HW0.out hb HW0.out.size)
          have HX0_ := Lib.hid (HX.out.keep hb HX.out.lt); have HY0_ := Lib.hid (HY.out.keep hb HY.out.lt)
          clear hb a0 a1 a2 a3 b0 b1 b2 b3
          have a0 : u0.cell? ⟨w.heap.size, 0, none⟩ = some (.int .i64 a.s) := HX0_.out.cellAt (i := 0) (by simp [Jb.C])
          have b0 : u0.cell? ⟨w.heap.size + 1, 0, none⟩ = some (.int .i64 b.s) := HY0_.out.cellAt (i := 0) (by simp [Jb.C])
          have a1 : u0.cell? ⟨w.heap.size, 1, none⟩ = some (.int .i64 a.r) := HX0_.out.cellAt (i := 1) (by simp [Jb.C])
          have b1 : u0.cell? ⟨w.heap.size + 1, 1, none⟩ = some (.int .i64 b.r) := HY0_.out.cellAt (i := 1) (by simp [Jb.C])
          have a2 : u0.cell? ⟨w.heap.size, 2, none⟩ = some (.int .i64 a.d) := HX0_.out.cellAt (i := 2) (by simp [Jb.C])
          have b2 : u0.cell? ⟨w.heap.size + 1, 2, none⟩ = some (.int .i64 b.d) := HY0_.out.cellAt (i := 2) (by simp [Jb.C])
          have a3 : u0.cell? ⟨w.heap.size, 3, none⟩ = some (.int .i64 a.c) := HX0_.out.cellAt (i := 3) (by simp [Jb.C])
          have b3 : u0.cell? ⟨w.heap.size + 1, 3, none⟩ = some (.int .i64 b.c) := HY0_.out.cellAt (i := 3) (by simp [Jb.C])
          go_wp2_with fail
          refine (HR2.out _).mono ?_
          rintro y_ u1 ⟨rfl, hb⟩
          have HB1_ := Lib.hid (below_transE HB0_.out hb HB0_.out.size)
          have HX1_ := Lib.hid (HX0_.out.keep hb HX0_.out.lt); have HY1_ := Lib.hid (HY0_.out.keep hb HY0_.out.lt)
          clear hb a0 a1 a2 a3 b0 b1 b2 b3
          have a0 : u1.cell? ⟨w.heap.size, 0, none⟩ = some (.int .i64 a.s) := HX1_.out.cellAt (i := 0) (by simp [Jb.C])
          have b0 : u1.cell? ⟨w.heap.size + 1, 0, none⟩ = some (.int .i64 b.s) := HY1_.out.cellAt (i := 0) (by simp [Jb.C])
          have a1 : u1.cell? ⟨w.heap.size, 1, none⟩ = some (.int .i64 a.r) := HX1_.out.cellAt (i := 1) (by simp [Jb.C])
          have b1 : u1.cell? ⟨w.heap.size + 1, 1, none⟩ = some (.int .i64 b.r) := HY1_.out.cellAt (i := 1) (by simp [Jb.C])
          have a2 : u1.cell? ⟨w.heap.size, 2, none⟩ = some (.int .i64 a.d) := HX1_.out.cellAt (i := 2) (by simp [Jb.C])
          have b2 : u1.cell? ⟨w.heap.size + 1, 2, none⟩ = some (.int .i64 b.d) := HY1_.out.cellAt (i := 2) (by simp [Jb.C])
          have a3 : u1.cell? ⟨w.heap.size, 3, none⟩ = some (.int .i64 a.c) := HX1_.out.cellAt (i := 3) (by simp [Jb.C])
          have b3 : u1.cell? ⟨w.heap.size + 1, 3, none⟩ = some (.int .i64 b.c) := HY1_.out.cellAt (i := 3) (by simp [Jb.C])
          go_wp2_with fail
          go_ret
          exact ⟨rfl, by first | exact HB1_.out | exact HB1_.out.drew⟩
        · rw [show inB len 1 1073741824 = true by rw [HINB.out]; exact decide_eq_true (by omega), Bool.true_and, Bool.true_and, Bool.true_and]
          have hol := ord_lt h1 h2 (show 1 ≤ len ∧ len ≤ 1073741824 by omega)
          have d1 := (rightJ_d h1).2.2.1
          have d2 := (rightJ_d h2).2.2.1
          have r1 := (rightJ_d h1).2.1
          have r2 := (rightJ_d h2).2.1
          obtain ⟨p, hp⟩ : ∃ p, p = a.d / len := ⟨_, rfl⟩
          obtain ⟨q, hq⟩ : ∃ p, p = b.d / len := ⟨_, rfl⟩
          have hp0 : 0 ≤ p ∧ p ≤ 2251799813685248 := by
            rw [hp]
            exact ⟨Int.ediv_nonneg (by omega) (by omega), Int.le_trans (Int.ediv_le_self _ (by omega)) (by omega)⟩
          have hq0 : 0 ≤ q ∧ q ≤ 2251799813685248 := by
            rw [hq]
            exact ⟨Int.ediv_nonneg (by omega) (by omega), Int.le_trans (Int.ediv_le_self _ (by omega)) (by omega)⟩
          have HP := Lib.hid (show IntKind.i64.wrap (a.d.tdiv len) = p by
            rw [Int.tdiv_eq_ediv_of_nonneg (by omega), ← hp, IntKind.wrap_i64]; omega)
          have HQ := Lib.hid (show IntKind.i64.wrap (b.d.tdiv len) = q by
            rw [Int.tdiv_eq_ediv_of_nonneg (by omega), ← hq, IntKind.wrap_i64]; omega)
          have HNZ := Lib.hid (show ¬ len = 0 by omega)
          have hcase : (p < q ∧ decide (ordV a b len < 0) = true) ∨ (q < p ∧ decide (ordV a b len < 0) = false) ∨ (p = q ∧ a.s < b.s ∧ decide (ordV a b len < 0) = true) ∨ (p = q ∧ b.s < a.s ∧ decide (ordV a b len < 0) = false) ∨ (p = q ∧ a.s = b.s ∧ a.r < b.r ∧ decide (ordV a b len < 0) = true) ∨ (p = q ∧ a.s = b.s ∧ ¬ a.r < b.r ∧ decide (ordV a b len < 0) = false) := by
            unfold ltJ at hol
            rw [← hp, ← hq] at hol
            have key : ∀ P : Prop, (ordV a b len < 0 ↔ P) → [Decidable P] → decide (ordV a b len < 0) = decide P := fun P h _ => decide_eq_decide.2 h
            rw [key _ hol]
            simp only [decide_eq_true_eq, decide_eq_false_iff_not]
            omega
          obtain ⟨V, hV⟩ : ∃ V, V = decide (ordV a b len < 0) := ⟨_, rfl⟩
          rw [← hV] at hcase ⊢
          have HCASE := Lib.hid hcase
          clear hV hol hp hq h1 h2 hcase d1 d2 r1 r2
          go_enter Try.func19, Try.ntmps19
          go_upto_region 1 with fail
          rw [← hW0]
          clear hW0
          go_wp2_with fail
          refine (HR1.out _).mono ?_
          rintro y_ u0 ⟨rfl, hb⟩
          have HB0_ := Lib.hid (below_transE HW0.out hb HW0.out.size)
          have HX0_ := Lib.hid (HX.out.keep hb HX.out.lt); have HY0_ := Lib.hid (HY.out.keep hb HY.out.lt)
          clear hb a0 a1 a2 a3 b0 b1 b2 b3
          have a0 : u0.cell? ⟨w.heap.size, 0, none⟩ = some (.int .i64 a.s) := HX0_.out.cellAt (i := 0) (by simp [Jb.C])
          have b0 : u0.cell? ⟨w.heap.size + 1, 0, none⟩ = some (.int .i64 b.s) := HY0_.out.cellAt (i := 0) (by simp [Jb.C])
          have a1 : u0.cell? ⟨w.heap.size, 1, none⟩ = some (.int .i64 a.r) := HX0_.out.cellAt (i := 1) (by simp [Jb.C])
          have b1 : u0.cell? ⟨w.heap.size + 1, 1, none⟩ = some (.int .i64 b.r) := HY0_.out.cellAt (i := 1) (by simp [Jb.C])
          have a2 : u0.cell? ⟨w.heap.size, 2, none⟩ = some (.int .i64 a.d) := HX0_.out.cellAt (i := 2) (by simp [Jb.C])
          have b2 : u0.cell? ⟨w.heap.size + 1, 2, none⟩ = some (.int .i64 b.d) := HY0_.out.cellAt (i := 2) (by simp [Jb.C])
          have a3 : u0.cell? ⟨w.heap.size, 3, none⟩ = some (.int .i64 a.c) := HX0_.out.cellAt (i := 3) (by simp [Jb.C])
          have b3 : u0.cell? ⟨w.heap.size + 1, 3, none⟩ = some (.int .i64 b.c) := HY0_.out.cellAt (i := 3) (by simp [Jb.C])
          go_wp2_with fail
          refine (HR2.out _).mono ?_
          rintro y_ u1 ⟨rfl, hb⟩
          have HB1_ := Lib.hid (below_transE HB0_.out hb HB0_.out.size)
          have HX1_ := Lib.hid (HX0_.out.keep hb HX0_.out.lt); have HY1_ := Lib.hid (HY0_.out.keep hb HY0_.out.lt)
          clear hb a0 a1 a2 a3 b0 b1 b2 b3
          have a0 : u1.cell? ⟨w.heap.size, 0, none⟩ = some (.int .i64 a.s) := HX1_.out.cellAt (i := 0) (by simp [Jb.C])
          have b0 : u1.cell? ⟨w.heap.size + 1, 0, none⟩ = some (.int .i64 b.s) := HY1_.out.cellAt (i := 0) (by simp [Jb.C])
          have a1 : u1.cell? ⟨w.heap.size, 1, none⟩ = some (.int .i64 a.r) := HX1_.out.cellAt (i := 1) (by simp [Jb.C])
          have b1 : u1.cell? ⟨w.heap.size + 1, 1, none⟩ = some (.int .i64 b.r) := HY1_.out.cellAt (i := 1) (by simp [Jb.C])
          have a2 : u1.cell? ⟨w.heap.size, 2, none⟩ = some (.int .i64 a.d) := HX1_.out.cellAt (i := 2) (by simp [Jb.C])
          have b2 : u1.cell? ⟨w.heap.size + 1, 2, none⟩ = some (.int .i64 b.d) := HY1_.out.cellAt (i := 2) (by simp [Jb.C])
          have a3 : u1.cell? ⟨w.heap.size, 3, none⟩ = some (.int .i64 a.c) := HX1_.out.cellAt (i := 3) (by simp [Jb.C])
          have b3 : u1.cell? ⟨w.heap.size + 1, 3, none⟩ = some (.int .i64 b.c) := HY1_.out.cellAt (i := 3) (by simp [Jb.C])
          go_wp2_with fail
          clear a0 a1 a2 a3 b0 b1 b2 b3
          have HZ := Lib.hid (show ∀ x, Below u1.heap.size u1 x → Below u1.heap.size u1 x ∧ x.cell? ⟨w.heap.size, 2, none⟩ = some (.int .i64 a.d) ∧ x.cell? ⟨w.heap.size + 1, 2, none⟩ = some (.int .i64 b.d) from fun x hb => ⟨hb, (HX1_.out.keep hb HX1_.out.lt).cellAt (i := 2) (by simp [Jb.C]), (HY1_.out.keep hb HY1_.out.lt).cellAt (i := 2) (by simp [Jb.C])⟩)
          go_upto_region 3 with fail
          refine wp_region_class (C := fun x => Below u1.heap.size u1 x ∧ x.cell? ⟨w.heap.size, 2, none⟩ = some (.int .i64 a.d) ∧ x.cell? ⟨w.heap.size + 1, 2, none⟩ = some (.int .i64 b.d)) (by kernel_rfl) (by kernel_rfl) (HZ.out _ (Below.refl _ _).drew) ?_
          repeat
            with_reducible refine wpQuiet_step (fun K hK => ?_)
            first
              | (refine quiet_skip (by rfl) ?_; (with_reducible refine hK _ ?_); clear hK K)
              | (refine quiet_want (by rfl) ?_
                 apply Exists.intro
                 refine ⟨fun x hx => ?_, hK _ ?_⟩
                 (obtain ⟨_, hx1, hx2⟩ := id hx; go_simp; first | done | rfl | ((rw [if_neg HNZ.out]; exact ⟨rfl, rfl⟩)))
                 clear hK K)
            try simp only [Act.put, List.setIfInBounds_toArray, List.set_cons_zero, List.set_cons_succ]
          with_reducible refine wpQuiet_nil ?_
          intro wq hq
          obtain ⟨u9, hu9⟩ : ∃ u, u = wq := ⟨_, rfl⟩
          rw [← hu9]
          have HB9 := Lib.hid (show Below w.heap.size w u9 by rw [hu9]; exact below_transE HB1_.out hq.1 HB1_.out.size)
          have hx9 := show Blk u9 w.heap.size 42 a.C by rw [hu9]; exact HX1_.out.keep hq.1 HX1_.out.lt
          have hy9 := show Blk u9 (w.heap.size + 1) 42 b.C by rw [hu9]; exact HY1_.out.keep hq.1 HY1_.out.lt
          have a0 : u9.cell? ⟨w.heap.size, 0, none⟩ = some (.int .i64 a.s) := hx9.cellAt (i := 0) (by simp [Jb.C])
          have b0 : u9.cell? ⟨w.heap.size + 1, 0, none⟩ = some (.int .i64 b.s) := hy9.cellAt (i := 0) (by simp [Jb.C])
          have a1 : u9.cell? ⟨w.heap.size, 1, none⟩ = some (.int .i64 a.r) := hx9.cellAt (i := 1) (by simp [Jb.C])
          have b1 : u9.cell? ⟨w.heap.size + 1, 1, none⟩ = some (.int .i64 b.r) := hy9.cellAt (i := 1) (by simp [Jb.C])
          have a2 : u9.cell? ⟨w.heap.size, 2, none⟩ = some (.int .i64 a.d) := hx9.cellAt (i := 2) (by simp [Jb.C])
          have b2 : u9.cell? ⟨w.heap.size + 1, 2, none⟩ = some (.int .i64 b.d) := hy9.cellAt (i := 2) (by simp [Jb.C])
          have a3 : u9.cell? ⟨w.heap.size, 3, none⟩ = some (.int .i64 a.c) := hx9.cellAt (i := 3) (by simp [Jb.C])
          have b3 : u9.cell? ⟨w.heap.size + 1, 3, none⟩ = some (.int .i64 b.c) := hy9.cellAt (i := 3) (by simp [Jb.C])
          clear hq hu9 HZ hx9 hy9
          rw [HP.out, HQ.out]
          clear HP HQ
          rcases HCASE.out with ⟨e1, rfl⟩ | ⟨e1, rfl⟩ | ⟨rfl, e2, rfl⟩ | ⟨rfl, e2, rfl⟩ | ⟨rfl, e2, e3, rfl⟩ | ⟨rfl, e2, e3, rfl⟩
          · have k : (p != q) = true := bne_iff_ne.2 (by omega)
            go_wp2_with fail
            go_ret
            exact ⟨rfl, by first | exact HB9.out | exact HB9.out.drew⟩
          · have k : (p != q) = true := bne_iff_ne.2 (by omega)
            have k2 : ¬ p < q := by omega
            go_wp2_with fail
            go_ret
            exact ⟨rfl, by first | exact HB9.out | exact HB9.out.drew⟩
          · have k : (a.s != b.s) = true := bne_iff_ne.2 (by omega)
            go_wp2_with fail
            go_ret
            exact ⟨rfl, by first | exact HB9.out | exact HB9.out.drew⟩
          · have k : (a.s != b.s) = true := bne_iff_ne.2 (by omega)
            have k2 : ¬ a.s < b.s := by omega
            go_wp2_with fail
            go_ret
            exact ⟨rfl, by first | exact HB9.out | exact HB9.out.drew⟩
          · have k : (a.s != b.s) = false := by rw [e2]; simp
            go_wp2_with fail
            go_ret
            exact ⟨rfl, by first | exact HB9.out | exact HB9.out.drew⟩
          · have k : (a.s != b.s) = false := by rw [e2]; simp
            have HE3 := Lib.hid e3
            go_wp2_with fail
            go_ret
            exact ⟨by show Ending.returned (.bool (decide (a.r < b.r))) = _; rw [decide_eq_false (by have := HE3.out; omega)], by first | exact HB9.out | exact HB9.out.drew⟩
end Go.Proofs.Ytbcccffjlkphpaa
