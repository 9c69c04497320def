/- The document's own node of layer 21: New, Tick. Conditions: each theorem says its own. -/
import Derived.Test.YtdfalipgfnjglaaKnc
namespace Go.Proofs.Ytdfalipgfnjglaa
open Go.RowKit
theorem blk_at (w : World) (B : Nat) (hB : w.heap.size = B) (T : TypeId) (l : List Value) : Blk (w.alloc (.cells l.toArray T)) B T l := by
  subst hB; exact Blk.new w T l
theorem yields_up {k : Int} {L : List Int} (h : ∀ j (hj : j < L.length), ¬ (0 ≤ L[j] ∧ L[j] < k)) : yieldsB k L = false := by
  cases e : yieldsB k L
  · rfl
  · obtain ⟨r, hr, h1⟩ := yields_iff.1 e
    obtain ⟨j, hj, rfl⟩ := List.getElem_of_mem hr
    exact absurd h1 (h j hj)
theorem rrk_new_yes (b s p k : Int) (hc : rightR b s p = true) (hk : 0 ≤ k ∧ k ≤ 31) (w : World) : Calls Try.prog 57 #[.agg #[.int .i64 b, .int .i64 s, .int .i64 p], .int .i64 k] w fun y w' => ∃ B, y = .returned (.tuple #[.pointer (some ⟨B, 0, none⟩), .int .i64 0]) ∧ Blk w' B 128 (ndC b s p k ⟨false, 0, 0⟩) ∧ w.heap.size ≤ B ∧ Below w.heap.size w w' := by
  have HR := Lib.hid (fun u => rrk_right b s p u)
  have HA := Lib.hid (Blk.new w 123 [.int .i64 b, .int .i64 s, .int .i64 p])
  have HB := Lib.hid ((Below.refl _ w).alloc (Nat.le_refl _) (.cells #[.int .i64 b, .int .i64 s, .int .i64 p] 123))
  obtain ⟨W0, hW0⟩ : ∃ W, W = w.alloc (.cells #[.int .i64 b, .int .i64 s, .int .i64 p] 123) := ⟨_, rfl⟩
  have HA0 := Lib.hid (show Blk W0 w.heap.size 123 [.int .i64 b, .int .i64 s, .int .i64 p] from hW0 ▸ HA.out)
  have HB0 := Lib.hid (show Below w.heap.size w W0 from hW0 ▸ HB.out)
  have c0 := HA0.out.cellAt (i := 0) (by simp); have c1 := HA0.out.cellAt (i := 1) (by simp); have c2 := HA0.out.cellAt (i := 2) (by simp)
  rw [hc] at HR
  have k1 : ¬ k < 0 := by omega
  have k2 : ¬ 32 ≤ k := by omega
  clear hc hk
  go_enter Try.func57, Try.ntmps57
  go_upto_region 1 with fail
  rw [← hW0]
  clear hW0 HA HB
  go_wp2_with fail
  refine (HR.out _).mono ?_
  rintro y w1 ⟨rfl, hb⟩
  have HB1 := Lib.hid (below_transG HB0.out hb)
  have HA1 := Lib.hid (HA0.out.keep hb HA0.out.lt)
  clear hb c0 c1 c2
  have d0 := HA1.out.cellAt (i := 0) (by simp); have d1 := HA1.out.cellAt (i := 1) (by simp); have d2 := HA1.out.cellAt (i := 2) (by simp)
  go_wp2_with fail
  have HN := Lib.hid (Blk.new w1 128 (ndC b s p k ⟨false, 0, 0⟩))
  have HB2 := Lib.hid (below_transG HB1.out ((Below.refl _ w1).alloc (Nat.le_refl _) (.cells (ndC b s p k ⟨false, 0, 0⟩).toArray 128)))
  have HS := Lib.hid HB1.out.size
  go_ret2
  exact ⟨w1.heap.size, rfl, HN.out, HS.out, HB2.out⟩
theorem rrk_new_no (b s p k : Int) (hc : rightR b s p = true → ¬ (0 ≤ k ∧ k ≤ 31)) (w : World) : Calls Try.prog 57 #[.agg #[.int .i64 b, .int .i64 s, .int .i64 p], .int .i64 k] w fun y w' => y = .returned (.tuple #[.pointer none, .int .i64 1]) ∧ Below w.heap.size w w' := by
  have HR := Lib.hid (fun u => rrk_right b s p u)
  have HA := Lib.hid (Blk.new w 123 [.int .i64 b, .int .i64 s, .int .i64 p])
  have HB := Lib.hid ((Below.refl _ w).alloc (Nat.le_refl _) (.cells #[.int .i64 b, .int .i64 s, .int .i64 p] 123))
  obtain ⟨W0, hW0⟩ : ∃ W, W = w.alloc (.cells #[.int .i64 b, .int .i64 s, .int .i64 p] 123) := ⟨_, rfl⟩
  have HA0 := Lib.hid (show Blk W0 w.heap.size 123 [.int .i64 b, .int .i64 s, .int .i64 p] from hW0 ▸ HA.out)
  have HB0 := Lib.hid (show Below w.heap.size w W0 from hW0 ▸ HB.out)
  have c0 := HA0.out.cellAt (i := 0) (by simp); have c1 := HA0.out.cellAt (i := 1) (by simp); have c2 := HA0.out.cellAt (i := 2) (by simp)
  cases hr : rightR b s p
  · rw [hr] at HR
    clear hc hr
    go_enter Try.func57, Try.ntmps57
    go_upto_region 1 with fail
    rw [← hW0]
    clear hW0 HA HB
    go_wp2_with fail
    refine (HR.out _).mono ?_
    rintro y w1 ⟨rfl, hb⟩
    have HB1 := Lib.hid (below_transG HB0.out hb)
    have HA1 := Lib.hid (HA0.out.keep hb HA0.out.lt)
    clear hb c0 c1 c2
    have d0 := HA1.out.cellAt (i := 0) (by simp); have d1 := HA1.out.cellAt (i := 1) (by simp); have d2 := HA1.out.cellAt (i := 2) (by simp)
    go_wp2_with fail
    go_ret2
    exact ⟨rfl, HB1.out⟩
  · rw [hr] at HR
    have hn := hc hr
    have cs : k < 0 ∨ (¬ k < 0 ∧ 32 ≤ k) := by omega
    clear hc hr hn
    rcases cs with h | ⟨h1, h2⟩
    · 
      go_enter Try.func57, Try.ntmps57
      go_upto_region 1 with fail
      rw [← hW0]
      clear hW0 HA HB
      go_wp2_with fail
      refine (HR.out _).mono ?_
      rintro y w1 ⟨rfl, hb⟩
      have HB1 := Lib.hid (below_transG HB0.out hb)
      have HA1 := Lib.hid (HA0.out.keep hb HA0.out.lt)
      clear hb c0 c1 c2
      have d0 := HA1.out.cellAt (i := 0) (by simp); have d1 := HA1.out.cellAt (i := 1) (by simp); have d2 := HA1.out.cellAt (i := 2) (by simp)
      go_wp2_with fail
      go_ret2
      exact ⟨rfl, HB1.out⟩
    · 
      go_enter Try.func57, Try.ntmps57
      go_upto_region 1 with fail
      rw [← hW0]
      clear hW0 HA HB
      go_wp2_with fail
      refine (HR.out _).mono ?_
      rintro y w1 ⟨rfl, hb⟩
      have HB1 := Lib.hid (below_transG HB0.out hb)
      have HA1 := Lib.hid (HA0.out.keep hb HA0.out.lt)
      clear hb c0 c1 c2
      have d0 := HA1.out.cellAt (i := 0) (by simp); have d1 := HA1.out.cellAt (i := 1) (by simp); have d2 := HA1.out.cellAt (i := 2) (by simp)
      go_wp2_with fail
      go_ret2
      exact ⟨rfl, HB1.out⟩
theorem rrk_tick_nil (v : Value) (w : World) : Calls Try.prog 61 #[.pointer none, v] w fun y w' => y = .returned (.bool false) ∧ w = w' := by
  go_enter Try.func61, Try.ntmps61
  go_wp2_with fail
  go_ret
  exact ⟨rfl, rfl⟩
set_option maxRecDepth 100000 in
set_option maxHeartbeats 4000000 in
theorem rrk_tick (b s p k : Int) (hc : rightR b s p = true) (hk : 0 ≤ k ∧ k ≤ 31) (d : Nd) (hd : Ok1 b s p k d) (B : Nat) (L : List Int) (a : Option Addr) (cap : Nat) (hl : L.length ≤ 1000) (w : World) (h : Blk w B 128 (ndC b s p k d)) (hR : Ints w a L) :
    Calls Try.prog 61 #[.pointer (some ⟨B, 0, none⟩), .slice a L.length cap] w fun y w' => y = .returned (.bool (tkN b s p k L d).2) ∧ Blk w' B 128 (ndC b s p k (tkN b s p k L d).1) ∧ Kp B (.slice none 0 0) w w' := by
  obtain ⟨m0, m1, we, w1_, w2_⟩ := wait_in hc hk
  have hrc := rightR_rc hc
  have HW := Lib.hid (fun u => rrk_wait b s p k u)
  rw [we] at HW
  have hd0 := hd.i0; have hd1 := hd.i1; have hd2 := hd.m
  obtain ⟨m, i, n⟩ := d
  simp only at hd0 hd1 hd2
  have HBL := Lib.hid h; have HRR := Lib.hid hR; have HLL := Lib.hid hl
  have HD := Lib.hid (And.intro hd0 (And.intro hd1 hd2)); have HRC := Lib.hid hrc; have HWI := Lib.hid (And.intro w1_ w2_)
  obtain ⟨r2, hr2⟩ : ∃ r2, r2 = (tkN b s p k L ⟨m, i, n⟩).2 := ⟨_, rfl⟩
  obtain ⟨r1, hr1⟩ : ∃ r1, r1 = (tkN b s p k L ⟨m, i, n⟩).1 := ⟨_, rfl⟩
  rw [← hr1, ← hr2]
  have HR1 := Lib.hid hr1; have HR2 := Lib.hid hr2
  obtain ⟨len, hlen⟩ : ∃ len, len = L.length := ⟨_, rfl⟩
  rw [← hlen]
  have HLEN := Lib.hid hlen
  clear hr1 hr2 hd hd0 hd1 hd2 m0 m1 we w1_ w2_ hrc hc hk h hR hl hlen
  go_enter Try.func61, Try.ntmps61
  go_wp2_with fail
  go_loopw [5] (fun s5 wr => ∃ j : Nat, s5 = .int .i64 (j : Int) ∧ j ≤ len ∧ (∀ q (hq : q < L.length), q < j → ¬ (0 ≤ L[q] ∧ L[q] < k)) ∧ Below w.heap.size w wr) (fun s5 _ => len - (intOf s5).toNat)
  case atStart => exact ⟨0, rfl, Nat.zero_le _, fun q _ hq => by omega, Below.refl _ _⟩
  case round =>
    obtain ⟨j, rfl, hj, hno, hb⟩ := hrel
    have HB := Lib.hid hb; have HNO := Lib.hid hno
    clear hb hno
    have hblk := (HBL.out.keep HB.out HBL.out.lt)
    have HBW := Lib.hid hblk
    clear hblk
    by_cases hlt : j < len
    · have hj2 : j < L.length := by rw [← HLEN.out]; exact hlt
      obtain ⟨g, off, rfl, hg, hcell⟩ := HRR.out j hj2
      obtain ⟨X, hX⟩ : ∃ X, X = L[j] := ⟨_, rfl⟩
      rw [← hX] at hcell
      have HX := Lib.hid hX
      have HZ := Lib.hid (show ∀ u, Below w.heap.size w u → Below w.heap.size w u ∧ u.cell? ⟨B, 0, none⟩ = some (.int .i64 b) ∧ u.cell? ⟨B, 1, none⟩ = some (.int .i64 s) ∧ u.cell? ⟨B, 2, none⟩ = some (.int .i64 p) ∧ u.cell? ⟨B, 3, none⟩ = some (.int .i64 k) ∧ u.cell? ⟨B, 4, none⟩ = some (.bool m) ∧ u.cell? ⟨B, 5, none⟩ = some (.int .i64 i) ∧ u.cell? ⟨B, 6, none⟩ = some (.int .i64 n) ∧ u.cell? ⟨g, off + j, none⟩ = some (.int .i64 X) from fun u hu => ⟨hu, (HBL.out.keep hu HBL.out.lt).cellAt (i := 0) (by simp [ndC]), (HBL.out.keep hu HBL.out.lt).cellAt (i := 1) (by simp [ndC]), (HBL.out.keep hu HBL.out.lt).cellAt (i := 2) (by simp [ndC]), (HBL.out.keep hu HBL.out.lt).cellAt (i := 3) (by simp [ndC]), (HBL.out.keep hu HBL.out.lt).cellAt (i := 4) (by simp [ndC]), (HBL.out.keep hu HBL.out.lt).cellAt (i := 5) (by simp [ndC]), (HBL.out.keep hu HBL.out.lt).cellAt (i := 6) (by simp [ndC]), (hu.cell (p := ⟨g, off + j, none⟩) hg).trans hcell⟩)
      have j1 : (j : Int) < (len : Int) := by omega
      have j2 : (0 : Int) ≤ (j : Int) := by omega
      have jw : (j : Int) ≤ 1000 := by have := HLL.out; omega
      have HJ := Lib.hid (And.intro hj (And.intro hlt hj2))
      clear hX hcell hg hj hlt
      have cs : ¬ 0 ≤ X ∨ (0 ≤ X ∧ X < k) ∨ (0 ≤ X ∧ ¬ X < k) := by omega
      rcases cs with x1 | ⟨x1, x2⟩ | ⟨x1, x2⟩
      · go_upto_region 6 with fail
        refine wp_region_class (C := fun u => Below w.heap.size w u ∧ u.cell? ⟨B, 0, none⟩ = some (.int .i64 b) ∧ u.cell? ⟨B, 1, none⟩ = some (.int .i64 s) ∧ u.cell? ⟨B, 2, none⟩ = some (.int .i64 p) ∧ u.cell? ⟨B, 3, none⟩ = some (.int .i64 k) ∧ u.cell? ⟨B, 4, none⟩ = some (.bool m) ∧ u.cell? ⟨B, 5, none⟩ = some (.int .i64 i) ∧ u.cell? ⟨B, 6, none⟩ = some (.int .i64 n) ∧ u.cell? ⟨g, off + j, none⟩ = some (.int .i64 X)) (by kernel_rfl) (by kernel_rfl) (HZ.out _ HB.out.drew) ?_
        repeat
          with_reducible refine wpQuiet_step (fun K hK => ?_)
          first
            | (refine quiet_skip (by rfl) ?_; (with_reducible refine hK _ ?_); clear hK K)
            | (refine quiet_want (by rfl) ?_
               apply Exists.intro
               refine ⟨fun x hx => ?_, hK _ ?_⟩
               (obtain ⟨hx0, hx1, hx2, hx3, hx4, hx5, hx6, hx7, hx8⟩ := id hx; go_simp; first | done | rfl | (fail))
               clear hK K)
          try simp only [Act.put, List.setIfInBounds_toArray, List.set_cons_zero, List.set_cons_succ]
        with_reducible refine wpQuiet_nil ?_
        intro wq hq
        have HQ := Lib.hid hq.1
        clear hq HZ
        go_wp2_with fail
        go_roundw
        case rel => exact ⟨j + 1, by simp, by have := HJ.out; omega, fun q hq hqj => by
          by_cases e : q = j
          · subst e; rw [← HX.out]; omega
          · exact HNO.out q hq (by omega), HQ.out⟩
        case measure => have := HJ.out; simp [intOf]; omega
      · go_upto_region 6 with fail
        refine wp_region_class (C := fun u => Below w.heap.size w u ∧ u.cell? ⟨B, 0, none⟩ = some (.int .i64 b) ∧ u.cell? ⟨B, 1, none⟩ = some (.int .i64 s) ∧ u.cell? ⟨B, 2, none⟩ = some (.int .i64 p) ∧ u.cell? ⟨B, 3, none⟩ = some (.int .i64 k) ∧ u.cell? ⟨B, 4, none⟩ = some (.bool m) ∧ u.cell? ⟨B, 5, none⟩ = some (.int .i64 i) ∧ u.cell? ⟨B, 6, none⟩ = some (.int .i64 n) ∧ u.cell? ⟨g, off + j, none⟩ = some (.int .i64 X)) (by kernel_rfl) (by kernel_rfl) (HZ.out _ HB.out.drew) ?_
        repeat
          with_reducible refine wpQuiet_step (fun K hK => ?_)
          first
            | (refine quiet_skip (by rfl) ?_; (with_reducible refine hK _ ?_); clear hK K)
            | (refine quiet_want (by rfl) ?_
               apply Exists.intro
               refine ⟨fun x hx => ?_, hK _ ?_⟩
               (obtain ⟨hx0, hx1, hx2, hx3, hx4, hx5, hx6, hx7, hx8⟩ := id hx; go_simp; first | done | rfl | (fail))
               clear hK K)
          try simp only [Act.put, List.setIfInBounds_toArray, List.set_cons_zero, List.set_cons_succ]
        with_reducible refine wpQuiet_nil ?_
        intro wq hq
        have hB1 := HBL.out.keep hq.1 HBL.out.lt
        have HK1 := Lib.hid (Kp.of_below (B := B) (v := .slice none 0 0) hq.1)
        clear hq HZ
        unfold ndC at hB1
        simp only at hB1
        have c0 : wq.cell? ⟨B, 0, none⟩ = some (.int .i64 b) := hB1.cellAt (i := 0) (by simp)
        have c1 : wq.cell? ⟨B, 1, none⟩ = some (.int .i64 s) := hB1.cellAt (i := 1) (by simp)
        have c2 : wq.cell? ⟨B, 2, none⟩ = some (.int .i64 p) := hB1.cellAt (i := 2) (by simp)
        have c3 : wq.cell? ⟨B, 3, none⟩ = some (.int .i64 k) := hB1.cellAt (i := 3) (by simp)
        have c4 : wq.cell? ⟨B, 4, none⟩ = some (.bool m) := hB1.cellAt (i := 4) (by simp)
        have c5 : wq.cell? ⟨B, 5, none⟩ = some (.int .i64 i) := hB1.cellAt (i := 5) (by simp)
        have c6 : wq.cell? ⟨B, 6, none⟩ = some (.int .i64 n) := hB1.cellAt (i := 6) (by simp)
        have f0 : wq.frozen? ⟨B, 0, none⟩ = false := hB1.frozenAt 0
        have f1 : wq.frozen? ⟨B, 1, none⟩ = false := hB1.frozenAt 1
        have f2 : wq.frozen? ⟨B, 2, none⟩ = false := hB1.frozenAt 2
        have f3 : wq.frozen? ⟨B, 3, none⟩ = false := hB1.frozenAt 3
        have f4 : wq.frozen? ⟨B, 4, none⟩ = false := hB1.frozenAt 4
        have f5 : wq.frozen? ⟨B, 5, none⟩ = false := hB1.frozenAt 5
        have f6 : wq.frozen? ⟨B, 6, none⟩ = false := hB1.frozenAt 6
        have HB2 := Lib.hid (show Blk ((wq.setCell ⟨B, 4, none⟩ (.bool false)).setCell ⟨B, 5, none⟩ (.int .i64 0)) B 128 (ndC b s p k ⟨false, 0, n⟩) from (hB1.put1 (i := 4) (by simp) (.bool false)).put1 (i := 5) (by simp) (.int .i64 0))
        have HK2 := Lib.hid ((HK1.out.set 4 (.bool false)).set 5 (.int .i64 0))
        clear hB1
        go_wp2_with fail
        go_ret
        have hy : yieldsB k L = true := yields_iff.2 ⟨L[j]'HJ.out.2.2, List.getElem_mem _, by rw [← HX.out]; exact ⟨x1, x2⟩⟩
        exact ⟨by rw [HR2.out, tk_yes hy]; first | done | rfl, by rw [HR1.out, tk_yes hy]; exact HB2.out, HK2.out⟩
      · go_upto_region 6 with fail
        refine wp_region_class (C := fun u => Below w.heap.size w u ∧ u.cell? ⟨B, 0, none⟩ = some (.int .i64 b) ∧ u.cell? ⟨B, 1, none⟩ = some (.int .i64 s) ∧ u.cell? ⟨B, 2, none⟩ = some (.int .i64 p) ∧ u.cell? ⟨B, 3, none⟩ = some (.int .i64 k) ∧ u.cell? ⟨B, 4, none⟩ = some (.bool m) ∧ u.cell? ⟨B, 5, none⟩ = some (.int .i64 i) ∧ u.cell? ⟨B, 6, none⟩ = some (.int .i64 n) ∧ u.cell? ⟨g, off + j, none⟩ = some (.int .i64 X)) (by kernel_rfl) (by kernel_rfl) (HZ.out _ HB.out.drew) ?_
        repeat
          with_reducible refine wpQuiet_step (fun K hK => ?_)
          first
            | (refine quiet_skip (by rfl) ?_; (with_reducible refine hK _ ?_); clear hK K)
            | (refine quiet_want (by rfl) ?_
               apply Exists.intro
               refine ⟨fun x hx => ?_, hK _ ?_⟩
               (obtain ⟨hx0, hx1, hx2, hx3, hx4, hx5, hx6, hx7, hx8⟩ := id hx; go_simp; first | done | rfl | (fail))
               clear hK K)
          try simp only [Act.put, List.setIfInBounds_toArray, List.set_cons_zero, List.set_cons_succ]
        with_reducible refine wpQuiet_nil ?_
        intro wq hq
        have HQ := Lib.hid hq.1
        clear hq HZ
        go_wp2_with fail
        go_roundw
        case rel => exact ⟨j + 1, by simp, by have := HJ.out; omega, fun q hq hqj => by
          by_cases e : q = j
          · subst e; rw [← HX.out]; omega
          · exact HNO.out q hq (by omega), HQ.out⟩
        case measure => have := HJ.out; simp [intOf]; omega
    · obtain rfl : j = len := by omega
      have hy : yieldsB k L = false := yields_up (fun q hq => HNO.out q hq (by rw [HLEN.out]; exact hq))
      have j1 : ¬ (j : Int) < (j : Int) := by omega
      have hB1 := HBW.out
      unfold ndC at hB1
      simp only at hB1
      have HK1 := Lib.hid (Kp.of_below (B := B) (v := .slice none 0 0) HB.out)
      have HY := Lib.hid hy
      clear hy hj hlt HNO
      cases m
      · have c0 : wr.cell? ⟨B, 0, none⟩ = some (.int .i64 b) := hB1.cellAt (i := 0) (by simp)
        have c1 : wr.cell? ⟨B, 1, none⟩ = some (.int .i64 s) := hB1.cellAt (i := 1) (by simp)
        have c2 : wr.cell? ⟨B, 2, none⟩ = some (.int .i64 p) := hB1.cellAt (i := 2) (by simp)
        have c3 : wr.cell? ⟨B, 3, none⟩ = some (.int .i64 k) := hB1.cellAt (i := 3) (by simp)
        have c4 : wr.cell? ⟨B, 4, none⟩ = some (.bool false) := hB1.cellAt (i := 4) (by simp)
        have c5 : wr.cell? ⟨B, 5, none⟩ = some (.int .i64 i) := hB1.cellAt (i := 5) (by simp)
        have c6 : wr.cell? ⟨B, 6, none⟩ = some (.int .i64 n) := hB1.cellAt (i := 6) (by simp)
        have f0 : wr.frozen? ⟨B, 0, none⟩ = false := hB1.frozenAt 0
        have f1 : wr.frozen? ⟨B, 1, none⟩ = false := hB1.frozenAt 1
        have f2 : wr.frozen? ⟨B, 2, none⟩ = false := hB1.frozenAt 2
        have f3 : wr.frozen? ⟨B, 3, none⟩ = false := hB1.frozenAt 3
        have f4 : wr.frozen? ⟨B, 4, none⟩ = false := hB1.frozenAt 4
        have f5 : wr.frozen? ⟨B, 5, none⟩ = false := hB1.frozenAt 5
        have f6 : wr.frozen? ⟨B, 6, none⟩ = false := hB1.frozenAt 6
        obtain ⟨i1, h1⟩ : ∃ z, z = i + 1 := ⟨_, rfl⟩
        have hw : wrap64 (i + 1) = i1 := by rw [h1]; exact w64_in _ (by have := HD.out; have := HWI.out; omega)
        have HH1 := Lib.hid h1
        have HB2 := Lib.hid (show Blk (wr.setCell ⟨B, 5, none⟩ (.int .i64 i1)) B 128 [.int .i64 b, .int .i64 s, .int .i64 p, .int .i64 k, .bool false, .int .i64 i1, .int .i64 n] from hB1.put1 (i := 5) (by simp) (.int .i64 i1))
        have HK2 := Lib.hid (HK1.out.set 5 (.int .i64 i1))
        clear hB1 h1
        go_upto_region 12 with fail
        obtain ⟨w2, hw2⟩ : ∃ w2, w2 = wr.setCell ⟨B, 5, none⟩ (.int .i64 i1) := ⟨_, rfl⟩
        rw [← hw2] at HB2 HK2 ⊢
        clear c0 c1 c2 c3 c4 c5 c6 f0 f1 f2 f3 f4 f5 f6 hw2 hw
        obtain ⟨V, hV⟩ : ∃ V, V = waitI b s k := ⟨_, rfl⟩
        rw [← hV] at HW
        have HV := Lib.hid hV
        clear hV
        by_cases hc : i1 ≤ V
        · skip
          have HZ := Lib.hid (show ∀ x, Below w2.heap.size w2 x → Below w2.heap.size w2 x ∧ x.cell? ⟨B, 0, none⟩ = some (.int .i64 b) ∧ x.cell? ⟨B, 1, none⟩ = some (.int .i64 s) ∧ x.cell? ⟨B, 2, none⟩ = some (.int .i64 p) ∧ x.cell? ⟨B, 3, none⟩ = some (.int .i64 k) ∧ x.cell? ⟨B, 4, none⟩ = some (.bool false) ∧ x.cell? ⟨B, 5, none⟩ = some (.int .i64 i1) ∧ x.cell? ⟨B, 6, none⟩ = some (.int .i64 n) from fun x hx => ⟨hx, (HB2.out.keep hx HB2.out.lt).cellAt (i := 0) (by simp), (HB2.out.keep hx HB2.out.lt).cellAt (i := 1) (by simp), (HB2.out.keep hx HB2.out.lt).cellAt (i := 2) (by simp), (HB2.out.keep hx HB2.out.lt).cellAt (i := 3) (by simp), (HB2.out.keep hx HB2.out.lt).cellAt (i := 4) (by simp), (HB2.out.keep hx HB2.out.lt).cellAt (i := 5) (by simp), (HB2.out.keep hx HB2.out.lt).cellAt (i := 6) (by simp)⟩)
          refine wp_region_class (C := fun x => Below w2.heap.size w2 x ∧ x.cell? ⟨B, 0, none⟩ = some (.int .i64 b) ∧ x.cell? ⟨B, 1, none⟩ = some (.int .i64 s) ∧ x.cell? ⟨B, 2, none⟩ = some (.int .i64 p) ∧ x.cell? ⟨B, 3, none⟩ = some (.int .i64 k) ∧ x.cell? ⟨B, 4, none⟩ = some (.bool false) ∧ x.cell? ⟨B, 5, none⟩ = some (.int .i64 i1) ∧ x.cell? ⟨B, 6, none⟩ = some (.int .i64 n)) (by kernel_rfl) (by kernel_rfl) (HZ.out _ (Below.refl _ _).drew) ?_
          repeat
            with_reducible refine wpQuiet_step (fun K hK => ?_)
            first
              | (refine quiet_skip (by rfl) ?_; (with_reducible refine hK _ ?_); clear hK K)
              | (refine quiet_want (by rfl) ?_
                 apply Exists.intro
                 refine ⟨fun x hx => ?_, hK _ ?_⟩
                 (obtain ⟨_, hx1, hx2, hx3, hx4, hx5, hx6, hx7⟩ := id hx; go_simp; first | done | rfl | (first | (go_at_call 65; with_reducible exact Calls.mono (HW.out _) (fun y w' hh => ⟨hh.1, HZ.out _ (below_transG hx.1 hh.2)⟩))))
                 clear hK K)
            try simp only [Act.put, List.setIfInBounds_toArray, List.set_cons_zero, List.set_cons_succ]
          with_reducible refine wpQuiet_nil ?_
          intro wq hq
          have HB1 := Lib.hid (hq.1)
          have Hn1 := Lib.hid (HB2.out.keep hq.1 HB2.out.lt)
          obtain ⟨W1, hW1⟩ : ∃ W, W = wq := ⟨_, rfl⟩
          rw [← hW1]
          rw [← hW1] at HB1
          rw [← hW1] at Hn1
          clear hq HZ hW1
          go_wp2_with fail
          go_ret
          have ht : tkN b s p k L ⟨false, i, n⟩ = (⟨false, i1, n⟩, false) := by rw [tk_wait HY.out rfl (by have := HV.out; have := HH1.out; simp only; omega), HH1.out]
          exact ⟨by rw [HR2.out, ht]; first | done | rfl, by rw [HR1.out, ht]; exact Hn1.out, HK2.out.step HB1.out⟩
        · skip
          have HZ := Lib.hid (show ∀ x, Below w2.heap.size w2 x → Below w2.heap.size w2 x ∧ x.cell? ⟨B, 0, none⟩ = some (.int .i64 b) ∧ x.cell? ⟨B, 1, none⟩ = some (.int .i64 s) ∧ x.cell? ⟨B, 2, none⟩ = some (.int .i64 p) ∧ x.cell? ⟨B, 3, none⟩ = some (.int .i64 k) ∧ x.cell? ⟨B, 4, none⟩ = some (.bool false) ∧ x.cell? ⟨B, 5, none⟩ = some (.int .i64 i1) ∧ x.cell? ⟨B, 6, none⟩ = some (.int .i64 n) from fun x hx => ⟨hx, (HB2.out.keep hx HB2.out.lt).cellAt (i := 0) (by simp), (HB2.out.keep hx HB2.out.lt).cellAt (i := 1) (by simp), (HB2.out.keep hx HB2.out.lt).cellAt (i := 2) (by simp), (HB2.out.keep hx HB2.out.lt).cellAt (i := 3) (by simp), (HB2.out.keep hx HB2.out.lt).cellAt (i := 4) (by simp), (HB2.out.keep hx HB2.out.lt).cellAt (i := 5) (by simp), (HB2.out.keep hx HB2.out.lt).cellAt (i := 6) (by simp)⟩)
          refine wp_region_class (C := fun x => Below w2.heap.size w2 x ∧ x.cell? ⟨B, 0, none⟩ = some (.int .i64 b) ∧ x.cell? ⟨B, 1, none⟩ = some (.int .i64 s) ∧ x.cell? ⟨B, 2, none⟩ = some (.int .i64 p) ∧ x.cell? ⟨B, 3, none⟩ = some (.int .i64 k) ∧ x.cell? ⟨B, 4, none⟩ = some (.bool false) ∧ x.cell? ⟨B, 5, none⟩ = some (.int .i64 i1) ∧ x.cell? ⟨B, 6, none⟩ = some (.int .i64 n)) (by kernel_rfl) (by kernel_rfl) (HZ.out _ (Below.refl _ _).drew) ?_
          repeat
            with_reducible refine wpQuiet_step (fun K hK => ?_)
            first
              | (refine quiet_skip (by rfl) ?_; (with_reducible refine hK _ ?_); clear hK K)
              | (refine quiet_want (by rfl) ?_
                 apply Exists.intro
                 refine ⟨fun x hx => ?_, hK _ ?_⟩
                 (obtain ⟨_, hx1, hx2, hx3, hx4, hx5, hx6, hx7⟩ := id hx; go_simp; first | done | rfl | (first | (go_at_call 65; with_reducible exact Calls.mono (HW.out _) (fun y w' hh => ⟨hh.1, HZ.out _ (below_transG hx.1 hh.2)⟩))))
                 clear hK K)
            try simp only [Act.put, List.setIfInBounds_toArray, List.set_cons_zero, List.set_cons_succ]
          with_reducible refine wpQuiet_nil ?_
          intro wq hq
          have HB1 := Lib.hid (hq.1)
          have Hn1 := Lib.hid (HB2.out.keep hq.1 HB2.out.lt)
          obtain ⟨W1, hW1⟩ : ∃ W, W = wq := ⟨_, rfl⟩
          rw [← hW1]
          rw [← hW1] at HB1
          rw [← hW1] at Hn1
          clear hq HZ hW1
          have hB3 := Hn1.out
          have c0 : W1.cell? ⟨B, 0, none⟩ = some (.int .i64 b) := hB3.cellAt (i := 0) (by simp)
          have c1 : W1.cell? ⟨B, 1, none⟩ = some (.int .i64 s) := hB3.cellAt (i := 1) (by simp)
          have c2 : W1.cell? ⟨B, 2, none⟩ = some (.int .i64 p) := hB3.cellAt (i := 2) (by simp)
          have c3 : W1.cell? ⟨B, 3, none⟩ = some (.int .i64 k) := hB3.cellAt (i := 3) (by simp)
          have c4 : W1.cell? ⟨B, 4, none⟩ = some (.bool false) := hB3.cellAt (i := 4) (by simp)
          have c5 : W1.cell? ⟨B, 5, none⟩ = some (.int .i64 i1) := hB3.cellAt (i := 5) (by simp)
          have c6 : W1.cell? ⟨B, 6, none⟩ = some (.int .i64 n) := hB3.cellAt (i := 6) (by simp)
          have f0 : W1.frozen? ⟨B, 0, none⟩ = false := hB3.frozenAt 0
          have f1 : W1.frozen? ⟨B, 1, none⟩ = false := hB3.frozenAt 1
          have f2 : W1.frozen? ⟨B, 2, none⟩ = false := hB3.frozenAt 2
          have f3 : W1.frozen? ⟨B, 3, none⟩ = false := hB3.frozenAt 3
          have f4 : W1.frozen? ⟨B, 4, none⟩ = false := hB3.frozenAt 4
          have f5 : W1.frozen? ⟨B, 5, none⟩ = false := hB3.frozenAt 5
          have f6 : W1.frozen? ⟨B, 6, none⟩ = false := hB3.frozenAt 6
          have HB4 := Lib.hid (show Blk (((W1.setCell ⟨B, 4, none⟩ (.bool true)).setCell ⟨B, 5, none⟩ (.int .i64 0)).setCell ⟨B, 6, none⟩ (.int .i64 0)) B 128 (ndC b s p k ⟨true, 0, 0⟩) from ((hB3.put1 (i := 4) (by simp) (.bool true)).put1 (i := 5) (by simp) (.int .i64 0)).put1 (i := 6) (by simp) (.int .i64 0))
          have HK4 := Lib.hid ((((HK2.out.step HB1.out).set 4 (.bool true)).set 5 (.int .i64 0)).set 6 (.int .i64 0))
          clear hB3
          go_wp2_with fail
          go_ret
          have ht : tkN b s p k L ⟨false, i, n⟩ = (⟨true, 0, 0⟩, true) := by rw [tk_take HY.out rfl (by have := HV.out; have := HH1.out; simp only; omega)]
          exact ⟨by rw [HR2.out, ht]; first | done | rfl, by rw [HR1.out, ht]; exact HB4.out, HK4.out⟩
      · have c0 : wr.cell? ⟨B, 0, none⟩ = some (.int .i64 b) := hB1.cellAt (i := 0) (by simp)
        have c1 : wr.cell? ⟨B, 1, none⟩ = some (.int .i64 s) := hB1.cellAt (i := 1) (by simp)
        have c2 : wr.cell? ⟨B, 2, none⟩ = some (.int .i64 p) := hB1.cellAt (i := 2) (by simp)
        have c3 : wr.cell? ⟨B, 3, none⟩ = some (.int .i64 k) := hB1.cellAt (i := 3) (by simp)
        have c4 : wr.cell? ⟨B, 4, none⟩ = some (.bool true) := hB1.cellAt (i := 4) (by simp)
        have c5 : wr.cell? ⟨B, 5, none⟩ = some (.int .i64 i) := hB1.cellAt (i := 5) (by simp)
        have c6 : wr.cell? ⟨B, 6, none⟩ = some (.int .i64 n) := hB1.cellAt (i := 6) (by simp)
        have f0 : wr.frozen? ⟨B, 0, none⟩ = false := hB1.frozenAt 0
        have f1 : wr.frozen? ⟨B, 1, none⟩ = false := hB1.frozenAt 1
        have f2 : wr.frozen? ⟨B, 2, none⟩ = false := hB1.frozenAt 2
        have f3 : wr.frozen? ⟨B, 3, none⟩ = false := hB1.frozenAt 3
        have f4 : wr.frozen? ⟨B, 4, none⟩ = false := hB1.frozenAt 4
        have f5 : wr.frozen? ⟨B, 5, none⟩ = false := hB1.frozenAt 5
        have f6 : wr.frozen? ⟨B, 6, none⟩ = false := hB1.frozenAt 6
        obtain ⟨n1, h1⟩ : ∃ z, z = n + 1 := ⟨_, rfl⟩
        have hw : wrap64 (n + 1) = n1 := by rw [h1]; exact w64_in _ (by have := HD.out; have := HWI.out; have := HD.out.2.2 rfl; have := HRC.out.p1; omega)
        have HH1 := Lib.hid h1
        have HB2 := Lib.hid (show Blk (wr.setCell ⟨B, 6, none⟩ (.int .i64 n1)) B 128 [.int .i64 b, .int .i64 s, .int .i64 p, .int .i64 k, .bool true, .int .i64 i, .int .i64 n1] from hB1.put1 (i := 6) (by simp) (.int .i64 n1))
        have HK2 := Lib.hid (HK1.out.set 6 (.int .i64 n1))
        clear hB1 h1
        go_upto_region 19 with fail
        obtain ⟨w2, hw2⟩ : ∃ w2, w2 = wr.setCell ⟨B, 6, none⟩ (.int .i64 n1) := ⟨_, rfl⟩
        rw [← hw2] at HB2 HK2 ⊢
        clear c0 c1 c2 c3 c4 c5 c6 f0 f1 f2 f3 f4 f5 f6 hw2 hw
        obtain ⟨i0, n0, n2⟩ := HD.out.2.2 rfl
        subst i0
        by_cases hc : n1 = p
        · subst hc
          clear n0 n2
          have HZ := Lib.hid (show ∀ x, Below w2.heap.size w2 x → Below w2.heap.size w2 x ∧ x.cell? ⟨B, 0, none⟩ = some (.int .i64 b) ∧ x.cell? ⟨B, 1, none⟩ = some (.int .i64 s) ∧ x.cell? ⟨B, 2, none⟩ = some (.int .i64 n1) ∧ x.cell? ⟨B, 3, none⟩ = some (.int .i64 k) ∧ x.cell? ⟨B, 4, none⟩ = some (.bool true) ∧ x.cell? ⟨B, 5, none⟩ = some (.int .i64 0) ∧ x.cell? ⟨B, 6, none⟩ = some (.int .i64 n1) from fun x hx => ⟨hx, (HB2.out.keep hx HB2.out.lt).cellAt (i := 0) (by simp), (HB2.out.keep hx HB2.out.lt).cellAt (i := 1) (by simp), (HB2.out.keep hx HB2.out.lt).cellAt (i := 2) (by simp), (HB2.out.keep hx HB2.out.lt).cellAt (i := 3) (by simp), (HB2.out.keep hx HB2.out.lt).cellAt (i := 4) (by simp), (HB2.out.keep hx HB2.out.lt).cellAt (i := 5) (by simp), (HB2.out.keep hx HB2.out.lt).cellAt (i := 6) (by simp)⟩)
          refine wp_region_class (C := fun x => Below w2.heap.size w2 x ∧ x.cell? ⟨B, 0, none⟩ = some (.int .i64 b) ∧ x.cell? ⟨B, 1, none⟩ = some (.int .i64 s) ∧ x.cell? ⟨B, 2, none⟩ = some (.int .i64 n1) ∧ x.cell? ⟨B, 3, none⟩ = some (.int .i64 k) ∧ x.cell? ⟨B, 4, none⟩ = some (.bool true) ∧ x.cell? ⟨B, 5, none⟩ = some (.int .i64 0) ∧ x.cell? ⟨B, 6, none⟩ = some (.int .i64 n1)) (by kernel_rfl) (by kernel_rfl) (HZ.out _ (Below.refl _ _).drew) ?_
          repeat
            with_reducible refine wpQuiet_step (fun K hK => ?_)
            first
              | (refine quiet_skip (by rfl) ?_; (with_reducible refine hK _ ?_); clear hK K)
              | (refine quiet_want (by rfl) ?_
                 apply Exists.intro
                 refine ⟨fun x hx => ?_, hK _ ?_⟩
                 (obtain ⟨_, hx1, hx2, hx3, hx4, hx5, hx6, hx7⟩ := id hx; go_simp; first | done | rfl | (fail))
                 clear hK K)
            try simp only [Act.put, List.setIfInBounds_toArray, List.set_cons_zero, List.set_cons_succ]
          with_reducible refine wpQuiet_nil ?_
          intro wq hq
          have HB1 := Lib.hid (hq.1)
          have Hn1 := Lib.hid (HB2.out.keep hq.1 HB2.out.lt)
          obtain ⟨W1, hW1⟩ : ∃ W, W = wq := ⟨_, rfl⟩
          rw [← hW1]
          rw [← hW1] at HB1
          rw [← hW1] at Hn1
          clear hq HZ hW1
          have hB3 := Hn1.out
          have c0 : W1.cell? ⟨B, 0, none⟩ = some (.int .i64 b) := hB3.cellAt (i := 0) (by simp)
          have c1 : W1.cell? ⟨B, 1, none⟩ = some (.int .i64 s) := hB3.cellAt (i := 1) (by simp)
          have c2 : W1.cell? ⟨B, 2, none⟩ = some (.int .i64 n1) := hB3.cellAt (i := 2) (by simp)
          have c3 : W1.cell? ⟨B, 3, none⟩ = some (.int .i64 k) := hB3.cellAt (i := 3) (by simp)
          have c4 : W1.cell? ⟨B, 4, none⟩ = some (.bool true) := hB3.cellAt (i := 4) (by simp)
          have c5 : W1.cell? ⟨B, 5, none⟩ = some (.int .i64 0) := hB3.cellAt (i := 5) (by simp)
          have c6 : W1.cell? ⟨B, 6, none⟩ = some (.int .i64 n1) := hB3.cellAt (i := 6) (by simp)
          have f0 : W1.frozen? ⟨B, 0, none⟩ = false := hB3.frozenAt 0
          have f1 : W1.frozen? ⟨B, 1, none⟩ = false := hB3.frozenAt 1
          have f2 : W1.frozen? ⟨B, 2, none⟩ = false := hB3.frozenAt 2
          have f3 : W1.frozen? ⟨B, 3, none⟩ = false := hB3.frozenAt 3
          have f4 : W1.frozen? ⟨B, 4, none⟩ = false := hB3.frozenAt 4
          have f5 : W1.frozen? ⟨B, 5, none⟩ = false := hB3.frozenAt 5
          have f6 : W1.frozen? ⟨B, 6, none⟩ = false := hB3.frozenAt 6
          have HB4 := Lib.hid (show Blk (W1.setCell ⟨B, 6, none⟩ (.int .i64 0)) B 128 (ndC b s n1 k ⟨true, 0, 0⟩) from hB3.put1 (i := 6) (by simp) (.int .i64 0))
          have HK4 := Lib.hid ((HK2.out.step HB1.out).set 6 (.int .i64 0))
          clear hB3
          go_wp2_with fail
          go_ret
          have ht : tkN b s n1 k L ⟨true, 0, n⟩ = (⟨true, 0, 0⟩, true) := by rw [tk_tell HY.out rfl (by have := HH1.out; simp only; omega)]
          exact ⟨by rw [HR2.out, ht]; first | done | rfl, by rw [HR1.out, ht]; exact HB4.out, HK4.out⟩
        · have g : (n1 == p) = false := by rw [beq_eq_false_iff_ne]; exact hc
          have HC := Lib.hid (And.intro hc (And.intro n0 n2))
          clear hc n0 n2
          have HZ := Lib.hid (show ∀ x, Below w2.heap.size w2 x → Below w2.heap.size w2 x ∧ x.cell? ⟨B, 0, none⟩ = some (.int .i64 b) ∧ x.cell? ⟨B, 1, none⟩ = some (.int .i64 s) ∧ x.cell? ⟨B, 2, none⟩ = some (.int .i64 p) ∧ x.cell? ⟨B, 3, none⟩ = some (.int .i64 k) ∧ x.cell? ⟨B, 4, none⟩ = some (.bool true) ∧ x.cell? ⟨B, 5, none⟩ = some (.int .i64 0) ∧ x.cell? ⟨B, 6, none⟩ = some (.int .i64 n1) from fun x hx => ⟨hx, (HB2.out.keep hx HB2.out.lt).cellAt (i := 0) (by simp), (HB2.out.keep hx HB2.out.lt).cellAt (i := 1) (by simp), (HB2.out.keep hx HB2.out.lt).cellAt (i := 2) (by simp), (HB2.out.keep hx HB2.out.lt).cellAt (i := 3) (by simp), (HB2.out.keep hx HB2.out.lt).cellAt (i := 4) (by simp), (HB2.out.keep hx HB2.out.lt).cellAt (i := 5) (by simp), (HB2.out.keep hx HB2.out.lt).cellAt (i := 6) (by simp)⟩)
          refine wp_region_class (C := fun x => Below w2.heap.size w2 x ∧ x.cell? ⟨B, 0, none⟩ = some (.int .i64 b) ∧ x.cell? ⟨B, 1, none⟩ = some (.int .i64 s) ∧ x.cell? ⟨B, 2, none⟩ = some (.int .i64 p) ∧ x.cell? ⟨B, 3, none⟩ = some (.int .i64 k) ∧ x.cell? ⟨B, 4, none⟩ = some (.bool true) ∧ x.cell? ⟨B, 5, none⟩ = some (.int .i64 0) ∧ x.cell? ⟨B, 6, none⟩ = some (.int .i64 n1)) (by kernel_rfl) (by kernel_rfl) (HZ.out _ (Below.refl _ _).drew) ?_
          repeat
            with_reducible refine wpQuiet_step (fun K hK => ?_)
            first
              | (refine quiet_skip (by rfl) ?_; (with_reducible refine hK _ ?_); clear hK K)
              | (refine quiet_want (by rfl) ?_
                 apply Exists.intro
                 refine ⟨fun x hx => ?_, hK _ ?_⟩
                 (obtain ⟨_, hx1, hx2, hx3, hx4, hx5, hx6, hx7⟩ := id hx; go_simp; first | done | rfl | (fail))
                 clear hK K)
            try simp only [Act.put, List.setIfInBounds_toArray, List.set_cons_zero, List.set_cons_succ]
          with_reducible refine wpQuiet_nil ?_
          intro wq hq
          have HB1 := Lib.hid (hq.1)
          have Hn1 := Lib.hid (HB2.out.keep hq.1 HB2.out.lt)
          obtain ⟨W1, hW1⟩ : ∃ W, W = wq := ⟨_, rfl⟩
          rw [← hW1]
          rw [← hW1] at HB1
          rw [← hW1] at Hn1
          clear hq HZ hW1
          go_wp2_with fail
          go_ret
          have ht : tkN b s p k L ⟨true, 0, n⟩ = (⟨true, 0, n1⟩, false) := by rw [tk_stay HY.out rfl (by have := HC.out; have := HH1.out; simp only; omega), HH1.out]
          exact ⟨by rw [HR2.out, ht]; first | done | rfl, by rw [HR1.out, ht]; exact Hn1.out, HK2.out.step HB1.out⟩
end Go.Proofs.Ytdfalipgfnjglaa
