/- Package edf: numbers within bounds, which jobs can be, and which of two is ahead. Conditions: the numbers are of 64 bits. -/
import Derived.Test.YtbcccffjlkphpaaQtb
import Derived.Test.YtbcccffjlkphpaaQui
import Derived.Test.YtbcccffjlkphpaaShelf
import Derived.Deep.RegionHeld3
namespace Go.Proofs.Ytbcccffjlkphpaa
open Go.RowKit Go.Shelf Go.Sort
attribute [local go_sem] Oper.semAt_some
/-- A job. -/
structure Jb where
  s : Int
  r : Int
  d : Int
  c : Int
deriving DecidableEq
def Jb.C (x : Jb) : List Value := [.int .i64 x.s, .int .i64 x.r, .int .i64 x.d, .int .i64 x.c]
def Jb.v (x : Jb) : Value := .agg #[.int .i64 x.s, .int .i64 x.r, .int .i64 x.d, .int .i64 x.c]
def Jb.wf (x : Jb) : Prop := (-9223372036854775808 ≤ x.s ∧ x.s ≤ 9223372036854775807) ∧ (-9223372036854775808 ≤ x.r ∧ x.r ≤ 9223372036854775807) ∧ (-9223372036854775808 ≤ x.d ∧ x.d ≤ 9223372036854775807) ∧ (-9223372036854775808 ≤ x.c ∧ x.c ≤ 9223372036854775807)
def jb0 : Jb := ⟨0, 0, 0, 0⟩
instance : Inhabited Jb := ⟨jb0⟩
theorem Jb.C_len (x : Jb) : x.C.length = 4 := rfl
theorem below_transE {A B C : World} {n : Nat} (h : Below n A B) (k : Below B.heap.size B C) (hn : n ≤ B.heap.size) : Below n A C := h.trans (k.mono hn)
theorem within_any (n lo hi : Int) (w : World) : Calls Try.prog 29 #[.int .i64 n, .int .i64 lo, .int .i64 hi] w fun e w' => e = .returned (.bool (inB n lo hi)) ∧ w' = w := by
  have cs : (n < lo ∧ inB n lo hi = false) ∨ (lo ≤ n ∧ hi < n ∧ inB n lo hi = false) ∨ (lo ≤ n ∧ n ≤ hi ∧ inB n lo hi = true) := by
    unfold inB
    by_cases h : lo ≤ n
    · by_cases h2 : n ≤ hi
      · exact .inr (.inr ⟨h, h2, by simp [h, h2]⟩)
      · exact .inr (.inl ⟨h, by omega, by simp [h2]⟩)
    · exact .inl ⟨by omega, by simp [h]⟩
  rcases cs with ⟨h, e⟩ | ⟨h, h2, e⟩ | ⟨h, h2, e⟩
  · rw [e]; clear e
    have h' : ¬ lo ≤ n := by omega
    go_enter Try.func29, Try.ntmps29
    go_wp2_with fail
    go_ret
    exact ⟨rfl, rfl⟩
  · rw [e]; clear e
    have h' : ¬ n ≤ hi := by omega
    go_enter Try.func29, Try.ntmps29
    go_wp2_with fail
    go_ret
    exact ⟨rfl, rfl⟩
  · rw [e]; clear e
    go_enter Try.func29, Try.ntmps29
    go_wp2_with fail
    go_ret
    exact ⟨rfl, rfl⟩
theorem cmp64_any (x y : Int) (w : World) : Calls Try.prog 42 #[.int .i64 x, .int .i64 y] w fun e w' => e = .returned (.int .i64 (Lib.compareInt x y)) ∧ w' = w := by
  have HN := Lib.hid (show ∀ z u, Calls Try.prog 57 #[.int .i64 z] u fun e w' => e = .returned (.bool false) ∧ w' = u from fun z u => by
    have h : (z == z) = true := by simp
    go_enter Try.func57, Try.ntmps57
    go_wp2_with fail
    go_ret
    exact ⟨rfl, rfl⟩)
  have cs : (x < y ∧ Lib.compareInt x y = -1) ∨ (¬ x < y ∧ y < x ∧ Lib.compareInt x y = 1) ∨ (¬ x < y ∧ ¬ y < x ∧ Lib.compareInt x y = 0) := by
    unfold Lib.compareInt
    by_cases h : x < y
    · exact .inl ⟨h, by simp [h]⟩
    · by_cases h2 : y < x
      · exact .inr (.inl ⟨h, h2, by simp [h, h2]⟩)
      · exact .inr (.inr ⟨h, h2, by simp [h, h2]⟩)
  rcases cs with ⟨h, e⟩ | ⟨h, h2, e⟩ | ⟨h, h2, e⟩
  all_goals
    rw [e]; clear e
    go_enter Try.func42, Try.ntmps42
    go_wp2_with fail
    refine (HN.out _ _).mono ?_
    rintro y1 w1 ⟨rfl, rfl⟩
    go_wp2_with fail
    refine (HN.out _ _).mono ?_
    rintro y2 w2 ⟨rfl, rfl⟩
    go_wp2_with fail
    go_ret
    exact ⟨rfl, rfl⟩
/-- The first one of two numbers that is not 0. -/
def orI (a b : Int) : Int := if a = 0 then b else a
theorem or_any (a b : Int) (g : Nat) (w : World) (hg : Blk w g 3 [.int .i64 a, .int .i64 b]) : Calls Try.prog 48 #[.slice (some ⟨g, 0, none⟩) 2 2] w fun e w' => e = .returned (.int .i64 (orI a b)) ∧ w' = w := by
  have c0 := hg.cellAt (i := 0) (by simp)
  have c1 := hg.cellAt (i := 1) (by simp)
  simp only [List.getElem_cons_zero, List.getElem_cons_succ] at c0 c1
  clear hg
  have cs : (a = 0 ∧ b = 0 ∧ orI a b = 0) ∨ (a = 0 ∧ b ≠ 0 ∧ orI a b = b) ∨ (a ≠ 0 ∧ orI a b = a) := by
    unfold orI
    by_cases h : a = 0
    · by_cases h2 : b = 0
      · exact .inl ⟨h, h2, by rw [if_pos h, h2]⟩
      · exact .inr (.inl ⟨h, h2, by rw [if_pos h]⟩)
    · exact .inr (.inr ⟨h, by rw [if_neg h]⟩)
  rcases cs with ⟨rfl, rfl, e⟩ | ⟨rfl, h, e⟩ | ⟨h, e⟩
  · rw [e]; clear e
    go_enter Try.func48, Try.ntmps48
    go_wp2_with fail
    refine wp_loop_rounds 3 ?_
    repeat (rw [rounds_succ]; go_wp2_with fail)
    go_ret
    exact ⟨rfl, rfl⟩
  · rw [e]; clear e
    have k0 : (b == 0) = false := by rw [beq_eq_false_iff_ne]; exact h
    clear h
    go_enter Try.func48, Try.ntmps48
    go_wp2_with fail
    refine wp_loop_rounds 3 ?_
    repeat (rw [rounds_succ]; go_wp2_with fail)
    go_ret
    exact ⟨rfl, rfl⟩
  · rw [e]; clear e
    have k0 : (a == 0) = false := by rw [beq_eq_false_iff_ne]; exact h
    clear h
    go_enter Try.func48, Try.ntmps48
    go_wp2_with fail
    refine wp_loop_rounds 3 ?_
    repeat (rw [rounds_succ]; go_wp2_with fail)
    go_ret
    exact ⟨rfl, rfl⟩

/-- The first one of three numbers that is not 0. -/
def or3I (a b c : Int) : Int := if a = 0 then (if b = 0 then c else b) else a
theorem or3_any (a b c : Int) (g : Nat) (w : World) (hg : Blk w g 3 [.int .i64 a, .int .i64 b, .int .i64 c]) : Calls Try.prog 48 #[.slice (some ⟨g, 0, none⟩) 3 3] w fun e w' => e = .returned (.int .i64 (or3I a b c)) ∧ w' = w := by
  have c0 := hg.cellAt (i := 0) (by simp)
  have c1 := hg.cellAt (i := 1) (by simp)
  have c2 := hg.cellAt (i := 2) (by simp)
  simp only [List.getElem_cons_zero, List.getElem_cons_succ] at c0 c1 c2
  clear hg
  have cs : (a = 0 ∧ b = 0 ∧ c = 0 ∧ or3I a b c = 0) ∨ (a = 0 ∧ b = 0 ∧ c ≠ 0 ∧ or3I a b c = c) ∨ (a = 0 ∧ b ≠ 0 ∧ or3I a b c = b) ∨ (a ≠ 0 ∧ or3I a b c = a) := by
    unfold or3I
    by_cases h : a = 0
    · by_cases h2 : b = 0
      · by_cases h3 : c = 0
        · exact .inl ⟨h, h2, h3, by rw [if_pos h, if_pos h2, h3]⟩
        · exact .inr (.inl ⟨h, h2, h3, by rw [if_pos h, if_pos h2]⟩)
      · exact .inr (.inr (.inl ⟨h, h2, by rw [if_pos h, if_neg h2]⟩))
    · exact .inr (.inr (.inr ⟨h, by rw [if_neg h]⟩))
  rcases cs with ⟨rfl, rfl, rfl, e⟩ | ⟨rfl, rfl, h, e⟩ | ⟨rfl, h, e⟩ | ⟨h, e⟩
  · rw [e]; clear e
    go_enter Try.func48, Try.ntmps48
    go_wp2_with fail
    refine wp_loop_rounds 4 ?_
    repeat (rw [rounds_succ]; go_wp2_with fail)
    go_ret
    exact ⟨rfl, rfl⟩
  · rw [e]; clear e
    have k0 : (c == 0) = false := by rw [beq_eq_false_iff_ne]; exact h
    clear h
    go_enter Try.func48, Try.ntmps48
    go_wp2_with fail
    refine wp_loop_rounds 4 ?_
    repeat (rw [rounds_succ]; go_wp2_with fail)
    go_ret
    exact ⟨rfl, rfl⟩
  · rw [e]; clear e
    have k0 : (b == 0) = false := by rw [beq_eq_false_iff_ne]; exact h
    clear h
    go_enter Try.func48, Try.ntmps48
    go_wp2_with fail
    refine wp_loop_rounds 4 ?_
    repeat (rw [rounds_succ]; go_wp2_with fail)
    go_ret
    exact ⟨rfl, rfl⟩
  · rw [e]; clear e
    have k0 : (a == 0) = false := by rw [beq_eq_false_iff_ne]; exact h
    clear h
    go_enter Try.func48, Try.ntmps48
    go_wp2_with fail
    refine wp_loop_rounds 4 ?_
    repeat (rw [rounds_succ]; go_wp2_with fail)
    go_ret
    exact ⟨rfl, rfl⟩
/-- The slot of a job's deadline. -/
theorem slot_any (x : Jb) (len : Int) (w : World) : Calls Try.prog 49 #[x.v, .int .i64 len] w fun e w' => e = .returned (.int .i64 (epochX x.d len)) ∧ Below w.heap.size w w' := by
  have HE := Lib.hid (fun u => qepoch_any x.d len u)
  obtain ⟨k, hk⟩ : ∃ k, k = epochX x.d len := ⟨_, rfl⟩
  obtain ⟨b, hb⟩ : ∃ b, b = qmayB len [x.d] := ⟨_, rfl⟩
  rw [← hk] at HE ⊢
  rw [← hb] at HE
  have HB := Lib.hid ((Below.refl w.heap.size w).alloc (Nat.le_refl _) (.cells #[.int .i64 x.s, .int .i64 x.r, .int .i64 x.d, .int .i64 x.c] 42))
  clear hk hb
  unfold Jb.v
  go_enter Try.func49, Try.ntmps49
  go_wp2_with fail
  refine (HE.out _).mono ?_
  rintro y w1 ⟨rfl, hb⟩
  have HB1 := Lib.hid (HB.out.trans (hb.mono HB.out.size))
  clear hb
  go_wp2_with fail
  go_ret
  exact ⟨rfl, by first | exact HB1.out | exact HB1.out.drew⟩
/-- Below 0, if the first of two jobs is ahead. -/
def ordV (x y : Jb) (len : Int) : Int := or3I (Lib.compareInt (epochX x.d len) (epochX y.d len)) (Lib.compareInt x.s y.s) (Lib.compareInt x.r y.r)
set_option maxRecDepth 100000 in
set_option maxHeartbeats 8000000 in
theorem order_any (x y : Jb) (len : Int) (w : World) : Calls Try.prog 31 #[x.v, y.v, .int .i64 len] w fun e w' => e = .returned (.int .i64 (ordV x y len)) ∧ Below w.heap.size w w' := by
  have HC := Lib.hid (fun p q u => cmp64_any p q u); have HC2 := Lib.hid (fun p q u => Try.cmp_Compare_int p q u)
  have HO := Lib.hid (fun a b c u => or3_any a b c u.heap.size (u.alloc (.cells #[.int .i64 a, .int .i64 b, .int .i64 c] 3)) (Blk.new u 3 [.int .i64 a, .int .i64 b, .int .i64 c]))
  obtain ⟨W0, hW0⟩ : ∃ W, W = (w.alloc (.cells #[.int .i64 x.s, .int .i64 x.r, .int .i64 x.d, .int .i64 x.c] 42)).alloc (.cells #[.int .i64 y.s, .int .i64 y.r, .int .i64 y.d, .int .i64 y.c] 42) := ⟨_, rfl⟩
  have hx : Blk W0 w.heap.size 42 x.C := by rw [hW0]; exact (Blk.new w 42 x.C).keep ((Below.refl _ _).alloc (Nat.le_refl _) _) (by simp)
  have hy : Blk W0 (w.heap.size + 1) 42 y.C := by
    rw [hW0]
    have := Blk.new (w.alloc (.cells #[.int .i64 x.s, .int .i64 x.r, .int .i64 x.d, .int .i64 x.c] 42)) 42 y.C
    rw [World.size_alloc] at this
    exact this
  have HW0 := Lib.hid (show Below w.heap.size w W0 by rw [hW0]; exact ((Below.refl w.heap.size w).alloc (Nat.le_refl _) _).alloc (by simp) _)
  have HZ := Lib.hid (show ∀ u, Below W0.heap.size W0 u → (Below W0.heap.size W0 u ∧ u.cell? ⟨w.heap.size, 0, none⟩ = some (.int .i64 x.s) ∧ u.cell? ⟨w.heap.size, 1, none⟩ = some (.int .i64 x.r) ∧ u.cell? ⟨w.heap.size, 2, none⟩ = some (.int .i64 x.d) ∧ u.cell? ⟨w.heap.size, 3, none⟩ = some (.int .i64 x.c) ∧ u.cell? ⟨w.heap.size + 1, 0, none⟩ = some (.int .i64 y.s) ∧ u.cell? ⟨w.heap.size + 1, 1, none⟩ = some (.int .i64 y.r) ∧ u.cell? ⟨w.heap.size + 1, 2, none⟩ = some (.int .i64 y.d) ∧ u.cell? ⟨w.heap.size + 1, 3, none⟩ = some (.int .i64 y.c)) from fun u hu => ⟨hu, (hx.keep hu hx.lt).cellAt (i := 0) (by simp [Jb.C]), (hx.keep hu hx.lt).cellAt (i := 1) (by simp [Jb.C]), (hx.keep hu hx.lt).cellAt (i := 2) (by simp [Jb.C]), (hx.keep hu hx.lt).cellAt (i := 3) (by simp [Jb.C]), (hy.keep hu hy.lt).cellAt (i := 0) (by simp [Jb.C]), (hy.keep hu hy.lt).cellAt (i := 1) (by simp [Jb.C]), (hy.keep hu hy.lt).cellAt (i := 2) (by simp [Jb.C]), (hy.keep hu hy.lt).cellAt (i := 3) (by simp [Jb.C])⟩)
  have HZA := Lib.hid (show ∀ (u : World) (o : Obj), (Below W0.heap.size W0 u ∧ u.cell? ⟨w.heap.size, 0, none⟩ = some (.int .i64 x.s) ∧ u.cell? ⟨w.heap.size, 1, none⟩ = some (.int .i64 x.r) ∧ u.cell? ⟨w.heap.size, 2, none⟩ = some (.int .i64 x.d) ∧ u.cell? ⟨w.heap.size, 3, none⟩ = some (.int .i64 x.c) ∧ u.cell? ⟨w.heap.size + 1, 0, none⟩ = some (.int .i64 y.s) ∧ u.cell? ⟨w.heap.size + 1, 1, none⟩ = some (.int .i64 y.r) ∧ u.cell? ⟨w.heap.size + 1, 2, none⟩ = some (.int .i64 y.d) ∧ u.cell? ⟨w.heap.size + 1, 3, none⟩ = some (.int .i64 y.c)) → Below W0.heap.size W0 (u.alloc o) ∧ (u.alloc o).cell? ⟨w.heap.size, 0, none⟩ = some (.int .i64 x.s) ∧ (u.alloc o).cell? ⟨w.heap.size, 1, none⟩ = some (.int .i64 x.r) ∧ (u.alloc o).cell? ⟨w.heap.size, 2, none⟩ = some (.int .i64 x.d) ∧ (u.alloc o).cell? ⟨w.heap.size, 3, none⟩ = some (.int .i64 x.c) ∧ (u.alloc o).cell? ⟨w.heap.size + 1, 0, none⟩ = some (.int .i64 y.s) ∧ (u.alloc o).cell? ⟨w.heap.size + 1, 1, none⟩ = some (.int .i64 y.r) ∧ (u.alloc o).cell? ⟨w.heap.size + 1, 2, none⟩ = some (.int .i64 y.d) ∧ (u.alloc o).cell? ⟨w.heap.size + 1, 3, none⟩ = some (.int .i64 y.c) from fun u o h => HZ.out _ (h.1.alloc h.1.size o))
  have HZD := Lib.hid (show ∀ u : World, (Below W0.heap.size W0 u ∧ u.cell? ⟨w.heap.size, 0, none⟩ = some (.int .i64 x.s) ∧ u.cell? ⟨w.heap.size, 1, none⟩ = some (.int .i64 x.r) ∧ u.cell? ⟨w.heap.size, 2, none⟩ = some (.int .i64 x.d) ∧ u.cell? ⟨w.heap.size, 3, none⟩ = some (.int .i64 x.c) ∧ u.cell? ⟨w.heap.size + 1, 0, none⟩ = some (.int .i64 y.s) ∧ u.cell? ⟨w.heap.size + 1, 1, none⟩ = some (.int .i64 y.r) ∧ u.cell? ⟨w.heap.size + 1, 2, none⟩ = some (.int .i64 y.d) ∧ u.cell? ⟨w.heap.size + 1, 3, none⟩ = some (.int .i64 y.c)) → Below W0.heap.size W0 u.drew ∧ u.drew.cell? ⟨w.heap.size, 0, none⟩ = some (.int .i64 x.s) ∧ u.drew.cell? ⟨w.heap.size, 1, none⟩ = some (.int .i64 x.r) ∧ u.drew.cell? ⟨w.heap.size, 2, none⟩ = some (.int .i64 x.d) ∧ u.drew.cell? ⟨w.heap.size, 3, none⟩ = some (.int .i64 x.c) ∧ u.drew.cell? ⟨w.heap.size + 1, 0, none⟩ = some (.int .i64 y.s) ∧ u.drew.cell? ⟨w.heap.size + 1, 1, none⟩ = some (.int .i64 y.r) ∧ u.drew.cell? ⟨w.heap.size + 1, 2, none⟩ = some (.int .i64 y.d) ∧ u.drew.cell? ⟨w.heap.size + 1, 3, none⟩ = some (.int .i64 y.c) from fun u h => HZ.out _ h.1.drew)
  have K1 := Lib.hid (show ∀ s r d c u, (Below W0.heap.size W0 u ∧ u.cell? ⟨w.heap.size, 0, none⟩ = some (.int .i64 x.s) ∧ u.cell? ⟨w.heap.size, 1, none⟩ = some (.int .i64 x.r) ∧ u.cell? ⟨w.heap.size, 2, none⟩ = some (.int .i64 x.d) ∧ u.cell? ⟨w.heap.size, 3, none⟩ = some (.int .i64 x.c) ∧ u.cell? ⟨w.heap.size + 1, 0, none⟩ = some (.int .i64 y.s) ∧ u.cell? ⟨w.heap.size + 1, 1, none⟩ = some (.int .i64 y.r) ∧ u.cell? ⟨w.heap.size + 1, 2, none⟩ = some (.int .i64 y.d) ∧ u.cell? ⟨w.heap.size + 1, 3, none⟩ = some (.int .i64 y.c)) → Calls Try.prog 49 #[.agg #[.int .i64 s, .int .i64 r, .int .i64 d, .int .i64 c], .int .i64 len] u fun e w' => e = .returned (.int .i64 (epochX d len)) ∧ Below W0.heap.size W0 w' ∧ w'.cell? ⟨w.heap.size, 0, none⟩ = some (.int .i64 x.s) ∧ w'.cell? ⟨w.heap.size, 1, none⟩ = some (.int .i64 x.r) ∧ w'.cell? ⟨w.heap.size, 2, none⟩ = some (.int .i64 x.d) ∧ w'.cell? ⟨w.heap.size, 3, none⟩ = some (.int .i64 x.c) ∧ w'.cell? ⟨w.heap.size + 1, 0, none⟩ = some (.int .i64 y.s) ∧ w'.cell? ⟨w.heap.size + 1, 1, none⟩ = some (.int .i64 y.r) ∧ w'.cell? ⟨w.heap.size + 1, 2, none⟩ = some (.int .i64 y.d) ∧ w'.cell? ⟨w.heap.size + 1, 3, none⟩ = some (.int .i64 y.c) from fun s r d c u h => (slot_any ⟨s, r, d, c⟩ len u).mono fun e w' ⟨h1, h2⟩ => ⟨h1, HZ.out _ (h.1.trans (h2.mono h.1.size))⟩)
  clear hx hy
  unfold Jb.v
  go_enter Try.func31, Try.ntmps31
  go_upto_region 1 with fail
  rw [← hW0]
  clear hW0
  have z1 := HZ.out _ (Below.refl _ _).drew
  go_region_held3 (fun u => (Below W0.heap.size W0 u ∧ u.cell? ⟨w.heap.size, 0, none⟩ = some (.int .i64 x.s) ∧ u.cell? ⟨w.heap.size, 1, none⟩ = some (.int .i64 x.r) ∧ u.cell? ⟨w.heap.size, 2, none⟩ = some (.int .i64 x.d) ∧ u.cell? ⟨w.heap.size, 3, none⟩ = some (.int .i64 x.c) ∧ u.cell? ⟨w.heap.size + 1, 0, none⟩ = some (.int .i64 y.s) ∧ u.cell? ⟨w.heap.size + 1, 1, none⟩ = some (.int .i64 y.r) ∧ u.cell? ⟨w.heap.size + 1, 2, none⟩ = some (.int .i64 y.d) ∧ u.cell? ⟨w.heap.size + 1, 3, none⟩ = some (.int .i64 y.c))) (repeat (first | (with_reducible assumption) | (with_reducible refine HZA.out _ _ ?_) | (with_reducible refine HZD.out _ ?_))) (first | (go_at_call 49; with_reducible refine Calls.mono (K1.out _ _ _ _ _ (by repeat (first | (with_reducible assumption) | (with_reducible refine HZA.out _ _ ?_) | (with_reducible refine HZD.out _ ?_)))) ?_; rintro y1 v1 ⟨rfl, h1S⟩) | (go_at_call 42; with_reducible refine Calls.mono (HC.out _ _ _) ?_; rintro y3 v3 ⟨rfl, rfl⟩) | (go_at_call 50; with_reducible refine Calls.mono (HC2.out _ _ _) ?_; rintro y4 v4 ⟨rfl, rfl⟩) | (go_at_call 48; with_reducible refine Calls.mono (HO.out _ _ _ _) ?_; rintro y5 v5 ⟨rfl, rfl⟩))
  all_goals
    go_wp2_with fail
    go_ret
    refine ⟨rfl, ?_⟩
    exact HW0.out.trans (Below.mono (And.left (by assumption)) HW0.out.size)
end Go.Proofs.Ytbcccffjlkphpaa
