/- Package stream: the order of ranks, in the words of the library's sort: a call draws, and lays blocks, and no more. Conditions: none. -/
import Derived.Test.YtolhckahphmffaaDoorSmi
import Derived.Test.YtolhckahphmffaaDoorShelf
import Derived.Deep.RegionHeld3
namespace Go.Proofs.YtolhckahphmffaaDoor
open Go.RowKit Go.Shelf Go.Sort
attribute [local go_sem] Oper.semAt_some
theorem cmp64_any (x y : Int) (w : World) : Calls Tryd.prog 78 #[.int .i64 x, .int .i64 y] w fun e w' => e = .returned (.int .i64 (Lib.compareInt x y)) ∧ w' = w := by
  have HN := Lib.hid (show ∀ z u, Calls Tryd.prog 105 #[.int .i64 z] u fun e w' => e = .returned (.bool false) ∧ w' = u from fun z u => by
    have h : (z == z) = true := by simp
    go_enter Tryd.func105, Tryd.ntmps105
    go_wp2_with fail
    go_ret
    exact ⟨rfl, rfl⟩)
  have cs : (x < y ∧ Lib.compareInt x y = -1) ∨ (¬ x < y ∧ y < x ∧ Lib.compareInt x y = 1) ∨ (¬ x < y ∧ ¬ y < x ∧ Lib.compareInt x y = 0) := by
    unfold Lib.compareInt
    by_cases h : x < y
    · exact .inl ⟨h, by simp [h]⟩
    · by_cases h2 : y < x
      · exact .inr (.inl ⟨h, h2, by simp [h, h2]⟩)
      · exact .inr (.inr ⟨h, h2, by simp [h, h2]⟩)
  rcases cs with ⟨h, e⟩ | ⟨h, h2, e⟩ | ⟨h, h2, e⟩
  all_goals
    rw [e]; clear e
    go_enter Tryd.func78, Tryd.ntmps78
    go_wp2_with fail
    refine (HN.out _ _).mono ?_
    rintro y1 w1 ⟨rfl, rfl⟩
    go_wp2_with fail
    refine (HN.out _ _).mono ?_
    rintro y2 w2 ⟨rfl, rfl⟩
    go_wp2_with fail
    go_ret
    exact ⟨rfl, rfl⟩
/-- The first one of two numbers that is not 0. -/
def orI (a b : Int) : Int := if a = 0 then b else a
theorem or_any (a b : Int) (g : Nat) (w : World) (hg : Blk w g 3 [.int .i64 a, .int .i64 b]) : Calls Tryd.prog 77 #[.slice (some ⟨g, 0, none⟩) 2 2] w fun e w' => e = .returned (.int .i64 (orI a b)) ∧ w' = w := by
  have c0 := hg.cellAt (i := 0) (by simp)
  have c1 := hg.cellAt (i := 1) (by simp)
  simp only [List.getElem_cons_zero, List.getElem_cons_succ] at c0 c1
  clear hg
  have cs : (a = 0 ∧ b = 0 ∧ orI a b = 0) ∨ (a = 0 ∧ b ≠ 0 ∧ orI a b = b) ∨ (a ≠ 0 ∧ orI a b = a) := by
    unfold orI
    by_cases h : a = 0
    · by_cases h2 : b = 0
      · exact .inl ⟨h, h2, by rw [if_pos h, h2]⟩
      · exact .inr (.inl ⟨h, h2, by rw [if_pos h]⟩)
    · exact .inr (.inr ⟨h, by rw [if_neg h]⟩)
  rcases cs with ⟨rfl, rfl, e⟩ | ⟨rfl, h, e⟩ | ⟨h, e⟩
  · rw [e]; clear e
    go_enter Tryd.func77, Tryd.ntmps77
    go_wp2_with fail
    refine wp_loop_rounds 3 ?_
    repeat (rw [rounds_succ]; go_wp2_with fail)
    go_ret
    exact ⟨rfl, rfl⟩
  · rw [e]; clear e
    have k0 : (b == 0) = false := by rw [beq_eq_false_iff_ne]; exact h
    clear h
    go_enter Tryd.func77, Tryd.ntmps77
    go_wp2_with fail
    refine wp_loop_rounds 3 ?_
    repeat (rw [rounds_succ]; go_wp2_with fail)
    go_ret
    exact ⟨rfl, rfl⟩
  · rw [e]; clear e
    have k0 : (a == 0) = false := by rw [beq_eq_false_iff_ne]; exact h
    clear h
    go_enter Tryd.func77, Tryd.ntmps77
    go_wp2_with fail
    refine wp_loop_rounds 3 ?_
    repeat (rw [rounds_succ]; go_wp2_with fail)
    go_ret
    exact ⟨rfl, rfl⟩
theorem grow3 (w : World) (a b c : Obj) : (((w.alloc a).alloc b).alloc c).drew = grow (w.drewN 1) #[a, b, c] := by
  have h : w.heap ++ #[a, b, c] = ((w.heap.push a).push b).push c := by
    apply Array.ext'
    simp
  show _ = { w.drewN 1 with heap := w.heap ++ #[a, b, c] }
  rw [h]
  rfl
/-- How ranks are ordered. -/
def cfS (x y : Sm) : Int := orI (Lib.compareInt x.d y.d) (Lib.compareInt x.i y.i)
set_option maxRecDepth 100000 in
set_option maxHeartbeats 4000000 in
theorem sooner_any (x y : Sm) (w : World) : Calls Tryd.prog 53 #[.agg x.C.toArray, .agg y.C.toArray] w fun e w' => e = .returned (.int .i64 (cfS x y)) ∧ ∃ q os, w' = grow (w.drewN q) os := by
  have HC1 := Lib.hid (fun u => cmp64_any x.d y.d u); have HC2 := Lib.hid (fun u => Tryd.cmp_Compare_int x.i y.i u)
  unfold cfS Sm.C
  obtain ⟨a, ha⟩ : ∃ a, a = Lib.compareInt x.d y.d := ⟨_, rfl⟩
  obtain ⟨b, hb⟩ : ∃ b, b = Lib.compareInt x.i y.i := ⟨_, rfl⟩
  rw [← ha] at HC1 ⊢; rw [← hb] at HC2 ⊢
  have HO := Lib.hid (fun g u h => or_any a b g u h)
  clear ha hb
  obtain ⟨W0, hW0⟩ : ∃ W, W = (w.alloc (.cells #[.int .i64 x.i, .int .i64 x.n, .int .i64 x.c, .int .i64 x.p, .int .i64 x.d, .int .i64 x.s, .int .i64 x.b] 30)).alloc (.cells #[.int .i64 y.i, .int .i64 y.n, .int .i64 y.c, .int .i64 y.p, .int .i64 y.d, .int .i64 y.s, .int .i64 y.b] 30) := ⟨_, rfl⟩
  have hx : Blk W0 w.heap.size 30 [.int .i64 x.i, .int .i64 x.n, .int .i64 x.c, .int .i64 x.p, .int .i64 x.d, .int .i64 x.s, .int .i64 x.b] := by rw [hW0]; exact (Blk.new w 30 [.int .i64 x.i, .int .i64 x.n, .int .i64 x.c, .int .i64 x.p, .int .i64 x.d, .int .i64 x.s, .int .i64 x.b]).keep ((Below.refl _ _).alloc (Nat.le_refl _) _) (by simp)
  have hy : Blk W0 (w.heap.size + 1) 30 [.int .i64 y.i, .int .i64 y.n, .int .i64 y.c, .int .i64 y.p, .int .i64 y.d, .int .i64 y.s, .int .i64 y.b] := by
    rw [hW0]
    have := Blk.new (w.alloc (.cells #[.int .i64 x.i, .int .i64 x.n, .int .i64 x.c, .int .i64 x.p, .int .i64 x.d, .int .i64 x.s, .int .i64 x.b] 30)) 30 [.int .i64 y.i, .int .i64 y.n, .int .i64 y.c, .int .i64 y.p, .int .i64 y.d, .int .i64 y.s, .int .i64 y.b]
    rw [World.size_alloc] at this
    exact this
  have HW0 := Lib.hid hW0
  have HZ := Lib.hid (show ∀ u, Below W0.heap.size W0 u → (u.cell? ⟨w.heap.size, 0, none⟩ = some (.int .i64 x.i) ∧ u.cell? ⟨w.heap.size, 4, none⟩ = some (.int .i64 x.d) ∧ u.cell? ⟨w.heap.size + 1, 0, none⟩ = some (.int .i64 y.i) ∧ u.cell? ⟨w.heap.size + 1, 4, none⟩ = some (.int .i64 y.d)) from fun u hu => ⟨(hx.keep hu hx.lt).cellAt (i := 0) (by simp), (hx.keep hu hx.lt).cellAt (i := 4) (by simp), (hy.keep hu hy.lt).cellAt (i := 0) (by simp), (hy.keep hu hy.lt).cellAt (i := 4) (by simp)⟩)
  clear hx hy
  go_enter Tryd.func53, Tryd.ntmps53
  go_upto_region 1 with fail
  rw [← hW0]
  clear hW0
  have z1 := HZ.out _ (Below.refl _ _).drew
  have HAL := Lib.hid (HZ.out _ ((Below.refl _ W0).alloc (Nat.le_refl _) (.cells #[.int .i64 a, .int .i64 b] 3)).drew)
  have HSL := Lib.hid (show Blk (W0.alloc (.cells #[.int .i64 a, .int .i64 b] 3)).drew W0.heap.size 3 [.int .i64 a, .int .i64 b] from Blk.new W0 3 [.int .i64 a, .int .i64 b])
  go_region_held3 (fun u => (u.cell? ⟨w.heap.size, 0, none⟩ = some (.int .i64 x.i) ∧ u.cell? ⟨w.heap.size, 4, none⟩ = some (.int .i64 x.d) ∧ u.cell? ⟨w.heap.size + 1, 0, none⟩ = some (.int .i64 y.i) ∧ u.cell? ⟨w.heap.size + 1, 4, none⟩ = some (.int .i64 y.d))) (first | (with_reducible assumption) | (with_reducible exact HAL.out)) (first | (go_at_call 78; refine (HC1.out _).mono ?_; rintro y1 w1 ⟨rfl, rfl⟩) | (go_at_call 79; refine (HC2.out _).mono ?_; rintro y2 w2 ⟨rfl, rfl⟩) | (go_at_call 77; refine (HO.out _ _ HSL.out).mono ?_; rintro y3 w3 ⟨rfl, rfl⟩))
  go_wp2_with fail
  go_ret
  refine ⟨rfl, 1, #[.cells #[.int .i64 x.i, .int .i64 x.n, .int .i64 x.c, .int .i64 x.p, .int .i64 x.d, .int .i64 x.s, .int .i64 x.b] 30, .cells #[.int .i64 y.i, .int .i64 y.n, .int .i64 y.c, .int .i64 y.p, .int .i64 y.d, .int .i64 y.s, .int .i64 y.b] 30, .cells #[.int .i64 a, .int .i64 b] 3], ?_⟩
  have h9 := HW0.out
  subst h9
  exact grow3 _ _ _ _
end Go.Proofs.YtolhckahphmffaaDoor
