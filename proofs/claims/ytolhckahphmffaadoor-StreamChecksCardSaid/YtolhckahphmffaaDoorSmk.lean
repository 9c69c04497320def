/- The library's binary search by the order of ranks, and its deletion where nothing is deleted. Conditions: there are at most so many as memory holds. -/
import Derived.Test.YtolhckahphmffaaDoorSmj
namespace Go.Proofs.YtolhckahphmffaaDoor
open Go.RowKit Go.Shelf Go.Sort
attribute [local go_sem] Oper.semAt_some
/-- What a search tells: a place, and whether it is there. -/
def BSR (y : Ending) (k : Nat) : Prop := ∃ b : Bool, y = .returned (.tuple #[.int .i64 (k : Int), .bool b])
theorem below_grow (w : World) (q : Nat) (os : Array Obj) : Below w.heap.size w (grow (w.drewN q) os) := by
  refine (Below.refl w.heap.size w).grown (row := none) ⟨rfl, rfl, rfl, by simp [grow, World.drewN], fun k hk _ => ?_⟩ (Nat.le_refl _) (fun k e => by cases e)
  show (w.heap ++ os)[k]? = w.heap[k]?
  rw [Array.getElem?_append_left hk]
theorem sooner_b (x y : Sm) (w : World) : Calls Tryd.prog 53 #[x.v, y.v] w fun e w' => e = .returned (.int .i64 (cfS x y)) ∧ Below w.heap.size w w' :=
  (sooner_any x y w).mono fun e w' ⟨h1, q, os, h2⟩ => ⟨h1, by rw [h2]; exact below_grow w q os⟩
set_option maxRecDepth 100000 in
set_option maxHeartbeats 8000000 in
theorem bsearch_any (a : Option Addr) (ln cap : Nat) (L : List Sm) (x : Sm) (hreach : L.length ≤ 1000000) (w : World) (hI : Sts w.heap.size w (.slice a ln cap) L)
    (hm : ∀ i j (hi : i < L.length) (hj : j < L.length), i < j → cfS L[j] x < 0 → cfS L[i] x < 0) :
    Calls Tryd.prog 54 #[.slice a ln cap, x.v, .func (.func 53) #[] #[]] w fun y w' => ∃ k : Nat, BSR y k ∧ k ≤ L.length ∧ (∀ j (hj : j < L.length), j < k → cfS L[j] x < 0) ∧ (∀ j (hj : j < L.length), k ≤ j → ¬ cfS L[j] x < 0) ∧ Below w.heap.size w w' := by
  obtain rfl := hI.len
  have HCELL := Lib.hid (show ∀ u, Below w.heap.size w u → ∀ k (hk : k < L.length), ∃ g off, a = some ⟨g, off, none⟩ ∧ g < w.heap.size ∧ ∀ i v, (L[k].C)[i]? = some v → u.cell? ⟨g, off + k * 7 + i, none⟩ = some v from fun u hu k hk => by
    rcases hI with ⟨_, _, _, e⟩ | ⟨g, off, _, e, hg, hc⟩
    · rw [e] at hk; cases hk
    · injection e with e1 _ _
      exact ⟨g, off, e1, hg, fun i v hv => (hu.cell (p := ⟨g, off + k * 7 + i, none⟩) hg).trans (hc k hk i v hv)⟩)
  have HM := Lib.hid hm
  have HSO := Lib.hid (fun z u => sooner_b z x u)
  clear hI hm
  obtain ⟨W0, hW0⟩ : ∃ W, W = w.alloc (.cells #[.int .i64 x.i, .int .i64 x.n, .int .i64 x.c, .int .i64 x.p, .int .i64 x.d, .int .i64 x.s, .int .i64 x.b] 30) := ⟨_, rfl⟩
  have hx : Blk W0 w.heap.size 30 [.int .i64 x.i, .int .i64 x.n, .int .i64 x.c, .int .i64 x.p, .int .i64 x.d, .int .i64 x.s, .int .i64 x.b] := by rw [hW0]; exact Blk.new w 30 [.int .i64 x.i, .int .i64 x.n, .int .i64 x.c, .int .i64 x.p, .int .i64 x.d, .int .i64 x.s, .int .i64 x.b]
  have HB0 := Lib.hid (show Below w.heap.size w W0 by rw [hW0]; exact (Below.refl _ w).alloc (Nat.le_refl _) _)
  have HX := Lib.hid hx
  unfold Sm.v at HSO ⊢
  go_enter Tryd.func54, Tryd.ntmps54
  go_upto_region 1 with fail
  rw [← hW0]
  clear hW0 hx
  go_wp2_with fail
  go_loopw [9, 10] (fun s9 s10 wr => ∃ i j : Nat, s9 = .int .i64 (i : Int) ∧ s10 = .int .i64 (j : Int) ∧ i ≤ j ∧ j ≤ L.length ∧ (∀ p (hp : p < L.length), p < i → cfS L[p] x < 0) ∧ (∀ p (hp : p < L.length), j ≤ p → ¬ cfS L[p] x < 0) ∧ Below W0.heap.size W0 wr) (fun s9 s10 _ => (intOf s10).toNat - (intOf s9).toNat)
  case atStart => exact ⟨0, L.length, rfl, rfl, by omega, by omega, fun p hp h => by omega, fun p hp h => by omega, by first | exact Below.refl _ _ | exact (Below.refl _ _).drew⟩
  case round =>
    obtain ⟨i, j, rfl, rfl, hij, hj, hlo, hhi, hB⟩ := hrel
    have HLO := Lib.hid hlo; have HHI := Lib.hid hhi; have HB := Lib.hid hB
    clear hlo hhi hB
    by_cases hlt : i < j
    · have i1 : (i : Int) < (j : Int) := by omega
      obtain ⟨h, hh⟩ : ∃ h : Nat, h = (i + j) / 2 := ⟨_, rfl⟩
      have hhl : h < L.length := by omega
      have hih : i ≤ h := by omega
      have hhj : h < j := by omega
      have HHH := Lib.hid hh
      obtain ⟨g, off, rfl, hg, hc⟩ := HCELL.out wr (below_transG HB0.out HB.out) h hhl
      have HHX := Lib.hid (show ((i : Int) + (j : Int)) / 2 = (h : Int) by omega)
      obtain ⟨y, hy⟩ : ∃ y, y = L[h] := ⟨_, rfl⟩
      rw [← hy] at hc
      have HY := Lib.hid hy
      have i2 : (h : Int) < (L.length : Int) := by omega
      have i3 : (0 : Int) ≤ (h : Int) := by omega
      have HZ := Lib.hid (show ∀ u, Below wr.heap.size wr u → (Below wr.heap.size wr u ∧ u.cell? ⟨g, off + h * 7, none⟩ = some (.int .i64 y.i) ∧ u.cell? ⟨g, off + h * 7 + 1, none⟩ = some (.int .i64 y.n) ∧ u.cell? ⟨g, off + h * 7 + 2, none⟩ = some (.int .i64 y.c) ∧ u.cell? ⟨g, off + h * 7 + 3, none⟩ = some (.int .i64 y.p) ∧ u.cell? ⟨g, off + h * 7 + 4, none⟩ = some (.int .i64 y.d) ∧ u.cell? ⟨g, off + h * 7 + 5, none⟩ = some (.int .i64 y.s) ∧ u.cell? ⟨g, off + h * 7 + 6, none⟩ = some (.int .i64 y.b) ∧ u.cell? ⟨w.heap.size, 0, none⟩ = some (.int .i64 x.i) ∧ u.cell? ⟨w.heap.size, 1, none⟩ = some (.int .i64 x.n) ∧ u.cell? ⟨w.heap.size, 2, none⟩ = some (.int .i64 x.c) ∧ u.cell? ⟨w.heap.size, 3, none⟩ = some (.int .i64 x.p) ∧ u.cell? ⟨w.heap.size, 4, none⟩ = some (.int .i64 x.d) ∧ u.cell? ⟨w.heap.size, 5, none⟩ = some (.int .i64 x.s) ∧ u.cell? ⟨w.heap.size, 6, none⟩ = some (.int .i64 x.b)) from fun u hu => ⟨hu, (hu.cell (p := ⟨g, off + h * 7, none⟩) (Nat.lt_of_lt_of_le hg (below_transG HB0.out HB.out).size)).trans (hc 0 _ rfl), (hu.cell (p := ⟨g, off + h * 7 + 1, none⟩) (Nat.lt_of_lt_of_le hg (below_transG HB0.out HB.out).size)).trans (hc 1 _ rfl), (hu.cell (p := ⟨g, off + h * 7 + 2, none⟩) (Nat.lt_of_lt_of_le hg (below_transG HB0.out HB.out).size)).trans (hc 2 _ rfl), (hu.cell (p := ⟨g, off + h * 7 + 3, none⟩) (Nat.lt_of_lt_of_le hg (below_transG HB0.out HB.out).size)).trans (hc 3 _ rfl), (hu.cell (p := ⟨g, off + h * 7 + 4, none⟩) (Nat.lt_of_lt_of_le hg (below_transG HB0.out HB.out).size)).trans (hc 4 _ rfl), (hu.cell (p := ⟨g, off + h * 7 + 5, none⟩) (Nat.lt_of_lt_of_le hg (below_transG HB0.out HB.out).size)).trans (hc 5 _ rfl), (hu.cell (p := ⟨g, off + h * 7 + 6, none⟩) (Nat.lt_of_lt_of_le hg (below_transG HB0.out HB.out).size)).trans (hc 6 _ rfl), (HX.out.keep (below_transG HB.out hu) HX.out.lt).cellAt (i := 0) (by simp), (HX.out.keep (below_transG HB.out hu) HX.out.lt).cellAt (i := 1) (by simp), (HX.out.keep (below_transG HB.out hu) HX.out.lt).cellAt (i := 2) (by simp), (HX.out.keep (below_transG HB.out hu) HX.out.lt).cellAt (i := 3) (by simp), (HX.out.keep (below_transG HB.out hu) HX.out.lt).cellAt (i := 4) (by simp), (HX.out.keep (below_transG HB.out hu) HX.out.lt).cellAt (i := 5) (by simp), (HX.out.keep (below_transG HB.out hu) HX.out.lt).cellAt (i := 6) (by simp)⟩)
      clear hc hy hh
      go_upto_region 5 with fail
      rw [HHX.out]
      refine wp_region_class (C := fun u => (Below wr.heap.size wr u ∧ u.cell? ⟨g, off + h * 7, none⟩ = some (.int .i64 y.i) ∧ u.cell? ⟨g, off + h * 7 + 1, none⟩ = some (.int .i64 y.n) ∧ u.cell? ⟨g, off + h * 7 + 2, none⟩ = some (.int .i64 y.c) ∧ u.cell? ⟨g, off + h * 7 + 3, none⟩ = some (.int .i64 y.p) ∧ u.cell? ⟨g, off + h * 7 + 4, none⟩ = some (.int .i64 y.d) ∧ u.cell? ⟨g, off + h * 7 + 5, none⟩ = some (.int .i64 y.s) ∧ u.cell? ⟨g, off + h * 7 + 6, none⟩ = some (.int .i64 y.b) ∧ u.cell? ⟨w.heap.size, 0, none⟩ = some (.int .i64 x.i) ∧ u.cell? ⟨w.heap.size, 1, none⟩ = some (.int .i64 x.n) ∧ u.cell? ⟨w.heap.size, 2, none⟩ = some (.int .i64 x.c) ∧ u.cell? ⟨w.heap.size, 3, none⟩ = some (.int .i64 x.p) ∧ u.cell? ⟨w.heap.size, 4, none⟩ = some (.int .i64 x.d) ∧ u.cell? ⟨w.heap.size, 5, none⟩ = some (.int .i64 x.s) ∧ u.cell? ⟨w.heap.size, 6, none⟩ = some (.int .i64 x.b))) (by kernel_rfl) (by kernel_rfl) (HZ.out _ (Below.refl _ _).drew) ?_
      repeat
        with_reducible refine wpQuiet_step (fun K hK => ?_)
        first
          | (refine quiet_skip (by rfl) ?_; (with_reducible refine hK _ ?_); clear hK K)
          | (refine quiet_want (by rfl) ?_
             apply Exists.intro
             refine ⟨fun x hx => ?_, hK _ ?_⟩
             (obtain ⟨_, hx0, hx1, hx2, hx3, hx4, hx5, hx6, hx7, hx8, hx9, hx10, hx11, hx12, hx13⟩ := id hx; go_simp; first | done | rfl | ((go_at_call 53; with_reducible exact Calls.mono (HSO.out y _) (fun y2 w' hh => ⟨hh.1, HZ.out _ (below_transG hx.1 hh.2)⟩))))
             clear hK K)
        try simp only [Act.put, List.setIfInBounds_toArray, List.set_cons_zero, List.set_cons_succ]
      with_reducible refine wpQuiet_nil ?_
      intro wq hq
      have HB5 := Lib.hid (below_transG HB.out hq.1)
      clear hq HZ
      by_cases hcmp : cfS y x < 0
      · have HP := Lib.hid hcmp
        generalize cfS y x = e at hcmp
        go_wp2_with fail
        go_roundw
        case rel => exact ⟨h + 1, j, by simp, rfl, by omega, hj, fun p hp hph => by
          by_cases e1 : p < h
          · exact HM.out p h hp hhl e1 (by rw [← HY.out]; exact HP.out)
          · obtain rfl : p = h := by omega
            rw [← HY.out]; exact HP.out, HHI.out, by first | exact HB5.out | exact HB5.out.drew⟩
        case measure => simp [intOf]; omega
      · have HP := Lib.hid hcmp
        generalize cfS y x = e at hcmp
        go_wp2_with fail
        go_roundw
        case rel => exact ⟨i, h, rfl, rfl, hih, by omega, HLO.out, fun p hp hph hlt => by
          by_cases e1 : h < p
          · exact HP.out (by rw [HY.out]; exact HM.out h p hhl hp e1 hlt)
          · obtain rfl : p = h := by omega
            exact HP.out (by rw [HY.out]; exact hlt), by first | exact HB5.out | exact HB5.out.drew⟩
        case measure => simp [intOf]; omega
    · have i1 : ¬ (i : Int) < (j : Int) := by omega
      obtain rfl : i = j := by omega
      by_cases hin : i < L.length
      · have i2 : (i : Int) < (L.length : Int) := by omega
        have i3 : (0 : Int) ≤ (i : Int) := by omega
        obtain ⟨g, off, rfl, hg, hc⟩ := HCELL.out wr (below_transG HB0.out HB.out) i hin
        obtain ⟨y, hy⟩ : ∃ y, y = L[i] := ⟨_, rfl⟩
        rw [← hy] at hc
        have HZ := Lib.hid (show ∀ u, Below wr.heap.size wr u → (Below wr.heap.size wr u ∧ u.cell? ⟨g, off + i * 7, none⟩ = some (.int .i64 y.i) ∧ u.cell? ⟨g, off + i * 7 + 1, none⟩ = some (.int .i64 y.n) ∧ u.cell? ⟨g, off + i * 7 + 2, none⟩ = some (.int .i64 y.c) ∧ u.cell? ⟨g, off + i * 7 + 3, none⟩ = some (.int .i64 y.p) ∧ u.cell? ⟨g, off + i * 7 + 4, none⟩ = some (.int .i64 y.d) ∧ u.cell? ⟨g, off + i * 7 + 5, none⟩ = some (.int .i64 y.s) ∧ u.cell? ⟨g, off + i * 7 + 6, none⟩ = some (.int .i64 y.b) ∧ u.cell? ⟨w.heap.size, 0, none⟩ = some (.int .i64 x.i) ∧ u.cell? ⟨w.heap.size, 1, none⟩ = some (.int .i64 x.n) ∧ u.cell? ⟨w.heap.size, 2, none⟩ = some (.int .i64 x.c) ∧ u.cell? ⟨w.heap.size, 3, none⟩ = some (.int .i64 x.p) ∧ u.cell? ⟨w.heap.size, 4, none⟩ = some (.int .i64 x.d) ∧ u.cell? ⟨w.heap.size, 5, none⟩ = some (.int .i64 x.s) ∧ u.cell? ⟨w.heap.size, 6, none⟩ = some (.int .i64 x.b)) from fun u hu => ⟨hu, (hu.cell (p := ⟨g, off + i * 7, none⟩) (Nat.lt_of_lt_of_le hg (below_transG HB0.out HB.out).size)).trans (hc 0 _ rfl), (hu.cell (p := ⟨g, off + i * 7 + 1, none⟩) (Nat.lt_of_lt_of_le hg (below_transG HB0.out HB.out).size)).trans (hc 1 _ rfl), (hu.cell (p := ⟨g, off + i * 7 + 2, none⟩) (Nat.lt_of_lt_of_le hg (below_transG HB0.out HB.out).size)).trans (hc 2 _ rfl), (hu.cell (p := ⟨g, off + i * 7 + 3, none⟩) (Nat.lt_of_lt_of_le hg (below_transG HB0.out HB.out).size)).trans (hc 3 _ rfl), (hu.cell (p := ⟨g, off + i * 7 + 4, none⟩) (Nat.lt_of_lt_of_le hg (below_transG HB0.out HB.out).size)).trans (hc 4 _ rfl), (hu.cell (p := ⟨g, off + i * 7 + 5, none⟩) (Nat.lt_of_lt_of_le hg (below_transG HB0.out HB.out).size)).trans (hc 5 _ rfl), (hu.cell (p := ⟨g, off + i * 7 + 6, none⟩) (Nat.lt_of_lt_of_le hg (below_transG HB0.out HB.out).size)).trans (hc 6 _ rfl), (HX.out.keep (below_transG HB.out hu) HX.out.lt).cellAt (i := 0) (by simp), (HX.out.keep (below_transG HB.out hu) HX.out.lt).cellAt (i := 1) (by simp), (HX.out.keep (below_transG HB.out hu) HX.out.lt).cellAt (i := 2) (by simp), (HX.out.keep (below_transG HB.out hu) HX.out.lt).cellAt (i := 3) (by simp), (HX.out.keep (below_transG HB.out hu) HX.out.lt).cellAt (i := 4) (by simp), (HX.out.keep (below_transG HB.out hu) HX.out.lt).cellAt (i := 5) (by simp), (HX.out.keep (below_transG HB.out hu) HX.out.lt).cellAt (i := 6) (by simp)⟩)
        clear hc hy
        go_upto_region 8 with fail
        refine wp_region_class (C := fun u => (Below wr.heap.size wr u ∧ u.cell? ⟨g, off + i * 7, none⟩ = some (.int .i64 y.i) ∧ u.cell? ⟨g, off + i * 7 + 1, none⟩ = some (.int .i64 y.n) ∧ u.cell? ⟨g, off + i * 7 + 2, none⟩ = some (.int .i64 y.c) ∧ u.cell? ⟨g, off + i * 7 + 3, none⟩ = some (.int .i64 y.p) ∧ u.cell? ⟨g, off + i * 7 + 4, none⟩ = some (.int .i64 y.d) ∧ u.cell? ⟨g, off + i * 7 + 5, none⟩ = some (.int .i64 y.s) ∧ u.cell? ⟨g, off + i * 7 + 6, none⟩ = some (.int .i64 y.b) ∧ u.cell? ⟨w.heap.size, 0, none⟩ = some (.int .i64 x.i) ∧ u.cell? ⟨w.heap.size, 1, none⟩ = some (.int .i64 x.n) ∧ u.cell? ⟨w.heap.size, 2, none⟩ = some (.int .i64 x.c) ∧ u.cell? ⟨w.heap.size, 3, none⟩ = some (.int .i64 x.p) ∧ u.cell? ⟨w.heap.size, 4, none⟩ = some (.int .i64 x.d) ∧ u.cell? ⟨w.heap.size, 5, none⟩ = some (.int .i64 x.s) ∧ u.cell? ⟨w.heap.size, 6, none⟩ = some (.int .i64 x.b))) (by kernel_rfl) (by kernel_rfl) (HZ.out _ (Below.refl _ _).drew) ?_
        repeat
          with_reducible refine wpQuiet_step (fun K hK => ?_)
          first
            | (refine quiet_skip (by rfl) ?_; (with_reducible refine hK _ ?_); clear hK K)
            | (refine quiet_want (by rfl) ?_
               apply Exists.intro
               refine ⟨fun x hx => ?_, hK _ ?_⟩
               (obtain ⟨_, hx0, hx1, hx2, hx3, hx4, hx5, hx6, hx7, hx8, hx9, hx10, hx11, hx12, hx13⟩ := id hx; go_simp; first | done | rfl | ((go_at_call 53; with_reducible exact Calls.mono (HSO.out y _) (fun y2 w' hh => ⟨hh.1, HZ.out _ (below_transG hx.1 hh.2)⟩))))
               clear hK K)
          try simp only [Act.put, List.setIfInBounds_toArray, List.set_cons_zero, List.set_cons_succ]
        with_reducible refine wpQuiet_nil ?_
        intro wq hq
        have HB5 := Lib.hid (below_transG HB.out hq.1)
        clear hq HZ
        go_wp2_with fail
        go_ret2
        exact ⟨i, ⟨_, rfl⟩, by omega, HLO.out, HHI.out, below_transG HB0.out HB5.out⟩
      · have i2 : ¬ (i : Int) < (L.length : Int) := by omega
        have HZ := Lib.hid (show ∀ u, Below wr.heap.size wr u → (Below wr.heap.size wr u ∧ True) from fun u hu => ⟨hu, trivial⟩)
        go_upto_region 8 with fail
        refine wp_region_class (C := fun u => (Below wr.heap.size wr u ∧ True)) (by kernel_rfl) (by kernel_rfl) (HZ.out _ (Below.refl _ _).drew) ?_
        repeat
          with_reducible refine wpQuiet_step (fun K hK => ?_)
          first
            | (refine quiet_skip (by rfl) ?_; (with_reducible refine hK _ ?_); clear hK K)
            | (refine quiet_want (by rfl) ?_
               apply Exists.intro
               refine ⟨fun x hx => ?_, hK _ ?_⟩
               (obtain ⟨_, _⟩ := id hx; go_simp; first | done | rfl | (fail))
               clear hK K)
          try simp only [Act.put, List.setIfInBounds_toArray, List.set_cons_zero, List.set_cons_succ]
        with_reducible refine wpQuiet_nil ?_
        intro wq hq
        have HB5 := Lib.hid (below_transG HB.out hq.1)
        clear hq HZ
        go_wp2_with fail
        go_ret2
        exact ⟨i, ⟨_, rfl⟩, by omega, HLO.out, HHI.out, below_transG HB0.out HB5.out⟩
end Go.Proofs.YtolhckahphmffaaDoor
