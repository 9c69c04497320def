/- Package rank: a node's tick, and what it tells. Conditions: each theorem says its own. -/
import Derived.Test.YtdfalipgfnjglaaKnb
import Derived.Deep.DeepCutAuto
import Derived.Deep.RegionLaw
namespace Go.Proofs.Ytdfalipgfnjglaa
open Go.RowKit
theorem rk_tick_nil (v : Value) (w : World) : Calls Try.prog 60 #[.pointer none, v] w fun y w' => y = .returned (.bool false) ∧ w = w' := by
  go_enter Try.func60, Try.ntmps60
  go_wp2_with fail
  go_ret
  exact ⟨rfl, rfl⟩
set_option maxHeartbeats 4000000 in
theorem rk_tick (b s p k : Int) (hc : rightR b s p = true) (hk : 0 ≤ k ∧ k ≤ 31) (d : Nd) (hd : Ok1 b s p k d) (B : Nat) (L : List Int) (a : Option Addr) (cap : Nat) (hl : L.length ≤ 1000) (w : World) (h : Blk w B 214 (ndC b s p k d)) (hR : Ints w a L) :
    Calls Try.prog 60 #[.pointer (some ⟨B, 0, none⟩), .slice a L.length cap] w fun y w' => y = .returned (.bool (tkN b s p k L d).2) ∧ Blk w' B 214 (ndC b s p k (tkN b s p k L d).1) ∧ Kp B (.slice none 0 0) w w' := by
  have HC := Lib.hid (rk_con b s p k hk d B L a cap hl w h hR)
  have HT := Lib.hid (fun u (e : Nd) (hu : Blk u B 214 (ndC b s p k e)) (due : Bool) => rk_tells b s p k e due B u hu)
  obtain ⟨m0, m1, we, w1_, w2_⟩ := wait_in hc hk
  have hrc := rightR_rc hc
  have HW := Lib.hid (fun u => rk_wait b s p k u)
  rw [we] at HW
  have hd0 := hd.i0; have hd1 := hd.i1; have hd2 := hd.m
  clear hR hd we m0 m1
  cases hy : yieldsB k L
  · rw [hy] at HC
    obtain ⟨m, i, n⟩ := d
    simp only at hd0 hd1 hd2
    cases m
    · -- none: it waits
      obtain ⟨i1, hi1⟩ : ∃ z, z = i + 1 := ⟨_, rfl⟩
      have hw : wrap64 (i + 1) = i1 := by rw [hi1]; exact w64_in _ (by omega)
      obtain ⟨v, hv⟩ : ∃ v, v = decide (waitI b s k < i1) := ⟨_, rfl⟩
      have htk : tkN b s p k L ⟨false, i, n⟩ = ((if v = true then ⟨true, 0, 0⟩ else ⟨false, i1, n⟩), v) := by
        by_cases hcv : waitI b s k < i + 1
        · rw [tk_take hy rfl hcv, show v = true by rw [hv, hi1]; exact decide_eq_true hcv]; rfl
        · rw [tk_wait hy rfl hcv, show v = false by rw [hv, hi1]; exact decide_eq_false hcv, hi1]; rfl
      rw [htk]
      obtain ⟨D, hD⟩ : ∃ D : Nd, D = if v = true then ⟨true, 0, 0⟩ else ⟨false, i1, n⟩ := ⟨_, rfl⟩
      show Calls Try.prog 60 #[.pointer (some ⟨B, 0, none⟩), .slice a L.length cap] w fun y w' => y = .returned (.bool v) ∧ Blk w' B 214 (ndC b s p k (if v = true then ⟨true, 0, 0⟩ else ⟨false, i1, n⟩)) ∧ Kp B (.slice none 0 0) w w'
      rw [← hD]
      obtain ⟨W, hW⟩ : ∃ W, W = waitI b s k := ⟨_, rfl⟩
      rw [← hW] at HW hv w1_ w2_
      have hv2 := hv.symm
      have HB0 := Lib.hid h
      unfold ndC at h
      simp only at h
      have HD := Lib.hid hD
      clear hv hW hD htk hi1 hd0 hd1 hd2 hy hrc hc
      go_enter Try.func60, Try.ntmps60
      go_wp2_with fail
      refine HC.out.mono ?_
      rintro y w1 ⟨rfl, hb⟩
      have HB1 := Lib.hid (show Blk w1 B 214 (ndC b s p k ⟨false, i, n⟩) from h.keep hb h.lt)
      have HK1 := Lib.hid (show Kp B (.slice none 0 0) w w1 from Kp.of_below hb)
      clear hb h
      have hB1 := HB1.out
      unfold ndC at hB1
      simp only at hB1
      have c0 : w1.cell? ⟨B, 0, none⟩ = some (.int .i64 b) := hB1.cellAt (i := 0) (by simp)
      have c1 : w1.cell? ⟨B, 1, none⟩ = some (.int .i64 s) := hB1.cellAt (i := 1) (by simp)
      have c2 : w1.cell? ⟨B, 2, none⟩ = some (.int .i64 p) := hB1.cellAt (i := 2) (by simp)
      have c3 : w1.cell? ⟨B, 3, none⟩ = some (.int .i64 k) := hB1.cellAt (i := 3) (by simp)
      have c4 : w1.cell? ⟨B, 4, none⟩ = some (.bool false) := hB1.cellAt (i := 4) (by simp)
      have c5 : w1.cell? ⟨B, 5, none⟩ = some (.int .i64 i) := hB1.cellAt (i := 5) (by simp)
      have c6 : w1.cell? ⟨B, 6, none⟩ = some (.int .i64 n) := hB1.cellAt (i := 6) (by simp)
      have f0 : w1.frozen? ⟨B, 0, none⟩ = false := hB1.frozenAt 0
      have f1 : w1.frozen? ⟨B, 1, none⟩ = false := hB1.frozenAt 1
      have f2 : w1.frozen? ⟨B, 2, none⟩ = false := hB1.frozenAt 2
      have f3 : w1.frozen? ⟨B, 3, none⟩ = false := hB1.frozenAt 3
      have f4 : w1.frozen? ⟨B, 4, none⟩ = false := hB1.frozenAt 4
      have f5 : w1.frozen? ⟨B, 5, none⟩ = false := hB1.frozenAt 5
      have f6 : w1.frozen? ⟨B, 6, none⟩ = false := hB1.frozenAt 6
      have hcl := hB1.lt
      have HB2 := Lib.hid (show Blk (w1.setCell ⟨B, 5, none⟩ (.int .i64 i1)) B 214 (ndC b s p k ⟨false, i1, n⟩) from hB1.put1 (i := 5) (by simp) (.int .i64 i1))
      have HK2 := Lib.hid (HK1.out.set 5 (.int .i64 i1))
      clear hB1
      go_upto_region 10 with fail
      obtain ⟨w2, hw2⟩ : ∃ w2, w2 = w1.setCell ⟨B, 5, none⟩ (.int .i64 i1) := ⟨_, rfl⟩
      rw [← hw2] at HB2 HK2 ⊢
      clear c0 c1 c2 c3 c4 c5 c6 f0 f1 f2 f3 f4 f5 f6 hcl hw2
      have hB2 := HB2.out
      unfold ndC at hB2
      simp only at hB2
      have c0 : w2.cell? ⟨B, 0, none⟩ = some (.int .i64 b) := hB2.cellAt (i := 0) (by simp)
      have c1 : w2.cell? ⟨B, 1, none⟩ = some (.int .i64 s) := hB2.cellAt (i := 1) (by simp)
      have c2 : w2.cell? ⟨B, 2, none⟩ = some (.int .i64 p) := hB2.cellAt (i := 2) (by simp)
      have c3 : w2.cell? ⟨B, 3, none⟩ = some (.int .i64 k) := hB2.cellAt (i := 3) (by simp)
      have c4 : w2.cell? ⟨B, 4, none⟩ = some (.bool false) := hB2.cellAt (i := 4) (by simp)
      have c5 : w2.cell? ⟨B, 5, none⟩ = some (.int .i64 i1) := hB2.cellAt (i := 5) (by simp)
      have c6 : w2.cell? ⟨B, 6, none⟩ = some (.int .i64 n) := hB2.cellAt (i := 6) (by simp)
      clear hB2
      go_cut [4] (fun s4 wx => s4 = .bool v ∧ Blk wx B 214 (ndC b s p k D) ∧ Kp B (.slice none 0 0) w wx)
      case first =>
        go_region_law (first | (go_simp; go_at_call 130; refine (HW.out _).mono ?_; rintro y w3 ⟨rfl, hb3⟩; have HB3 := HB2.out.keep (by first | exact hb3 | exact (Below.refl _ _).drew.trans hb3) HB2.out.lt; have HK3 := HK2.out.step (by first | exact hb3 | exact (Below.refl _ _).drew.trans hb3); have d5 : w3.cell? ⟨B, 5, none⟩ = some (.int .i64 i1) := HB3.cellAt (i := 5) (by simp [ndC])) | (go_simp; go_at_call 134; refine (HT.out _ ⟨false, i1, n⟩ (by first | exact HB3 | exact HB3.keep (Below.refl _ _).drew HB3.lt) _).mono ?_; rintro y w4 ⟨rfl, h4, h4k⟩))
        all_goals
          go_wp2_with fail
          go_meet
          exact ⟨rfl, by rw [HD.out]; exact h4, HK3.trans h4k (Nx.refl _ _)⟩
      case rest =>
      obtain ⟨rfl, h4, h5⟩ := hcut
      go_wp2_with fail
      go_ret
      exact ⟨rfl, h4, h5⟩
    · -- a master: it counts
      obtain ⟨e1, e2, e3⟩ := hd2 rfl
      obtain ⟨hp1, hp2⟩ := hrc.p1
      obtain ⟨n1, hn1⟩ : ∃ z, z = n + 1 := ⟨_, rfl⟩
      have hw : wrap64 (n + 1) = n1 := by rw [hn1]; exact w64_in _ (by omega)
      obtain ⟨v, hv⟩ : ∃ v, v = decide (p ≤ n1) := ⟨_, rfl⟩
      have htk : tkN b s p k L ⟨true, i, n⟩ = ((if v = true then ⟨true, 0, 0⟩ else ⟨true, i, n1⟩), v) := by
        by_cases hcv : p ≤ n + 1
        · rw [tk_tell hy rfl hcv, show v = true by rw [hv, hn1]; exact decide_eq_true hcv]; rfl
        · rw [tk_stay hy rfl hcv, show v = false by rw [hv, hn1]; exact decide_eq_false hcv, hn1]; rfl
      rw [htk]
      obtain ⟨D, hD⟩ : ∃ D : Nd, D = if v = true then ⟨true, 0, 0⟩ else ⟨true, i, n1⟩ := ⟨_, rfl⟩
      show Calls Try.prog 60 #[.pointer (some ⟨B, 0, none⟩), .slice a L.length cap] w fun y w' => y = .returned (.bool v) ∧ Blk w' B 214 (ndC b s p k (if v = true then ⟨true, 0, 0⟩ else ⟨true, i, n1⟩)) ∧ Kp B (.slice none 0 0) w w'
      rw [← hD]
      have hv2 := hv.symm
      have HB0 := Lib.hid h
      unfold ndC at h
      simp only at h
      have HD := Lib.hid hD
      clear hv hD htk hn1 hd0 hd1 hd2 hy hrc hc e1 e2 e3 hp1 hp2 w1_ w2_ HW
      go_enter Try.func60, Try.ntmps60
      go_wp2_with fail
      refine HC.out.mono ?_
      rintro y w1 ⟨rfl, hb⟩
      have HB1 := Lib.hid (show Blk w1 B 214 (ndC b s p k ⟨true, i, n⟩) from h.keep hb h.lt)
      have HK1 := Lib.hid (show Kp B (.slice none 0 0) w w1 from Kp.of_below hb)
      clear hb h
      have hB1 := HB1.out
      unfold ndC at hB1
      simp only at hB1
      have c0 : w1.cell? ⟨B, 0, none⟩ = some (.int .i64 b) := hB1.cellAt (i := 0) (by simp)
      have c1 : w1.cell? ⟨B, 1, none⟩ = some (.int .i64 s) := hB1.cellAt (i := 1) (by simp)
      have c2 : w1.cell? ⟨B, 2, none⟩ = some (.int .i64 p) := hB1.cellAt (i := 2) (by simp)
      have c3 : w1.cell? ⟨B, 3, none⟩ = some (.int .i64 k) := hB1.cellAt (i := 3) (by simp)
      have c4 : w1.cell? ⟨B, 4, none⟩ = some (.bool true) := hB1.cellAt (i := 4) (by simp)
      have c5 : w1.cell? ⟨B, 5, none⟩ = some (.int .i64 i) := hB1.cellAt (i := 5) (by simp)
      have c6 : w1.cell? ⟨B, 6, none⟩ = some (.int .i64 n) := hB1.cellAt (i := 6) (by simp)
      have f0 : w1.frozen? ⟨B, 0, none⟩ = false := hB1.frozenAt 0
      have f1 : w1.frozen? ⟨B, 1, none⟩ = false := hB1.frozenAt 1
      have f2 : w1.frozen? ⟨B, 2, none⟩ = false := hB1.frozenAt 2
      have f3 : w1.frozen? ⟨B, 3, none⟩ = false := hB1.frozenAt 3
      have f4 : w1.frozen? ⟨B, 4, none⟩ = false := hB1.frozenAt 4
      have f5 : w1.frozen? ⟨B, 5, none⟩ = false := hB1.frozenAt 5
      have f6 : w1.frozen? ⟨B, 6, none⟩ = false := hB1.frozenAt 6
      have hcl := hB1.lt
      have HB2 := Lib.hid (show Blk (w1.setCell ⟨B, 6, none⟩ (.int .i64 n1)) B 214 (ndC b s p k ⟨true, i, n1⟩) from hB1.put1 (i := 6) (by simp) (.int .i64 n1))
      have HK2 := Lib.hid (HK1.out.set 6 (.int .i64 n1))
      clear hB1
      go_upto_region 8 with fail
      obtain ⟨w2, hw2⟩ : ∃ w2, w2 = w1.setCell ⟨B, 6, none⟩ (.int .i64 n1) := ⟨_, rfl⟩
      rw [← hw2] at HB2 HK2 ⊢
      clear c0 c1 c2 c3 c4 c5 c6 f0 f1 f2 f3 f4 f5 f6 hcl hw2
      have hB2 := HB2.out
      unfold ndC at hB2
      simp only at hB2
      have c0 : w2.cell? ⟨B, 0, none⟩ = some (.int .i64 b) := hB2.cellAt (i := 0) (by simp)
      have c1 : w2.cell? ⟨B, 1, none⟩ = some (.int .i64 s) := hB2.cellAt (i := 1) (by simp)
      have c2 : w2.cell? ⟨B, 2, none⟩ = some (.int .i64 p) := hB2.cellAt (i := 2) (by simp)
      have c3 : w2.cell? ⟨B, 3, none⟩ = some (.int .i64 k) := hB2.cellAt (i := 3) (by simp)
      have c4 : w2.cell? ⟨B, 4, none⟩ = some (.bool true) := hB2.cellAt (i := 4) (by simp)
      have c5 : w2.cell? ⟨B, 5, none⟩ = some (.int .i64 i) := hB2.cellAt (i := 5) (by simp)
      have c6 : w2.cell? ⟨B, 6, none⟩ = some (.int .i64 n1) := hB2.cellAt (i := 6) (by simp)
      clear hB2
      go_cut [4] (fun s4 wx => s4 = .bool v ∧ Blk wx B 214 (ndC b s p k D) ∧ Kp B (.slice none 0 0) w wx)
      case first =>
        go_region_law (first | (go_simp; go_at_call 134; refine (HT.out _ ⟨true, i, n1⟩ (by first | exact HB2.out | exact HB2.out.keep (Below.refl _ _).drew HB2.out.lt) _).mono ?_; rintro y w4 ⟨rfl, h4, h4k⟩))
        all_goals
          go_wp2_with fail
          go_meet
          exact ⟨rfl, by rw [HD.out]; exact h4, (HK2.out.step (Below.refl _ _).drew).trans h4k (Nx.refl _ _)⟩
      case rest =>
      obtain ⟨rfl, h4, h5⟩ := hcut
      go_wp2_with fail
      go_ret
      exact ⟨rfl, h4, h5⟩
  · rw [hy] at HC
    rw [tk_yes hy]
    obtain ⟨m, i, n⟩ := d
    have HB0 := Lib.hid h
    clear hd0 hd1 hd2 hy hrc hc w1_ w2_ HW HT
    go_enter Try.func60, Try.ntmps60
    go_wp2_with fail
    refine HC.out.mono ?_
    rintro y w1 ⟨rfl, hb⟩
    have hB1 : Blk w1 B 214 (ndC b s p k ⟨m, i, n⟩) := h.keep hb h.lt
    have hK1 : Kp B (.slice none 0 0) w w1 := Kp.of_below hb
    unfold ndC at hB1
    simp only at hB1
    have HR := Lib.hid ((hB1.put1 (i := 4) (by simp) (.bool false)).put1 (i := 5) (by simp) (.int .i64 0))
    have HK := Lib.hid ((hK1.set 4 (.bool false)).set 5 (.int .i64 0))
    have c0 : w1.cell? ⟨B, 0, none⟩ = some (.int .i64 b) := hB1.cellAt (i := 0) (by simp)
    have c1 : w1.cell? ⟨B, 1, none⟩ = some (.int .i64 s) := hB1.cellAt (i := 1) (by simp)
    have c2 : w1.cell? ⟨B, 2, none⟩ = some (.int .i64 p) := hB1.cellAt (i := 2) (by simp)
    have c3 : w1.cell? ⟨B, 3, none⟩ = some (.int .i64 k) := hB1.cellAt (i := 3) (by simp)
    have c4 : w1.cell? ⟨B, 4, none⟩ = some (.bool m) := hB1.cellAt (i := 4) (by simp)
    have c5 : w1.cell? ⟨B, 5, none⟩ = some (.int .i64 i) := hB1.cellAt (i := 5) (by simp)
    have c6 : w1.cell? ⟨B, 6, none⟩ = some (.int .i64 n) := hB1.cellAt (i := 6) (by simp)
    have f0 : w1.frozen? ⟨B, 0, none⟩ = false := hB1.frozenAt 0
    have f1 : w1.frozen? ⟨B, 1, none⟩ = false := hB1.frozenAt 1
    have f2 : w1.frozen? ⟨B, 2, none⟩ = false := hB1.frozenAt 2
    have f3 : w1.frozen? ⟨B, 3, none⟩ = false := hB1.frozenAt 3
    have f4 : w1.frozen? ⟨B, 4, none⟩ = false := hB1.frozenAt 4
    have f5 : w1.frozen? ⟨B, 5, none⟩ = false := hB1.frozenAt 5
    have f6 : w1.frozen? ⟨B, 6, none⟩ = false := hB1.frozenAt 6
    have hcl := hB1.lt
    clear hB1 hK1 hb h
    go_wp2_with fail
    go_ret
    exact ⟨rfl, HR.out, HK.out⟩
theorem rk_Idle (b s p k : Int) (d : Nd) (B : Nat) (w : World) (h : Blk w B 214 (ndC b s p k d)) : Calls Try.prog 63 #[.pointer (some ⟨B, 0, none⟩)] w fun y w' => y = .returned (.int .i64 d.i) ∧ w = w' := by
  have q : w.cell? ⟨B, 5, none⟩ = some (.int .i64 d.i) := h.cellAt (i := 5) (by simp [ndC])
  clear h
  go_enter Try.func63, Try.ntmps63
  go_wp2_with fail
  go_ret
  exact ⟨rfl, rfl⟩
theorem rk_Idle_nil (w : World) : Calls Try.prog 63 #[.pointer none] w fun y w' => y = .returned (.int .i64 0) ∧ w = w' := by
  go_enter Try.func63, Try.ntmps63
  go_wp2_with fail
  go_ret
  exact ⟨rfl, rfl⟩
theorem rk_Rank (b s p k : Int) (d : Nd) (B : Nat) (w : World) (h : Blk w B 214 (ndC b s p k d)) : Calls Try.prog 64 #[.pointer (some ⟨B, 0, none⟩)] w fun y w' => y = .returned (.int .i64 k) ∧ w = w' := by
  have q : w.cell? ⟨B, 3, none⟩ = some (.int .i64 k) := h.cellAt (i := 3) (by simp [ndC])
  clear h
  go_enter Try.func64, Try.ntmps64
  go_wp2_with fail
  go_ret
  exact ⟨rfl, rfl⟩
theorem rk_Rank_nil (w : World) : Calls Try.prog 64 #[.pointer none] w fun y w' => y = .returned (.int .i64 (-1)) ∧ w = w' := by
  go_enter Try.func64, Try.ntmps64
  go_wp2_with fail
  go_ret
  exact ⟨rfl, rfl⟩
theorem rk_Master (b s p k : Int) (d : Nd) (B : Nat) (w : World) (h : Blk w B 214 (ndC b s p k d)) : Calls Try.prog 62 #[.pointer (some ⟨B, 0, none⟩)] w fun y w' => y = .returned (.bool d.m) ∧ w = w' := by
  have q : w.cell? ⟨B, 4, none⟩ = some (.bool d.m) := h.cellAt (i := 4) (by simp [ndC])
  clear h
  go_enter Try.func62, Try.ntmps62
  go_wp2_with fail
  go_ret
  exact ⟨rfl, rfl⟩
theorem rk_Master_nil (w : World) : Calls Try.prog 62 #[.pointer none] w fun y w' => y = .returned (.bool false) ∧ w = w' := by
  go_enter Try.func62, Try.ntmps62
  go_wp2_with fail
  go_ret
  exact ⟨rfl, rfl⟩
theorem rk_new_yes (b s p k : Int) (hc : rightR b s p = true) (hk : 0 ≤ k ∧ k ≤ 31) (w : World) : Calls Try.prog 56 #[.agg #[.int .i64 b, .int .i64 s, .int .i64 p], .int .i64 k] w fun y w' => ∃ B, y = .returned (.tuple #[.pointer (some ⟨B, 0, none⟩), .int .i64 0]) ∧ Blk w' B 214 (ndC b s p k ⟨false, 0, 0⟩) ∧ w.heap.size ≤ B ∧ Below w.heap.size w w' := by
  have HR := Lib.hid (fun u => rk_right b s p u)
  rw [hc] at HR
  have HI := Lib.hid (fun u => rk_isRank k u)
  rw [inR_yes hk] at HI
  have HA := Lib.hid (Blk.new w 115 [.int .i64 b, .int .i64 s, .int .i64 p])
  have HB := Lib.hid ((Below.refl _ w).alloc (Nat.le_refl _) (.cells #[.int .i64 b, .int .i64 s, .int .i64 p] 115))
  obtain ⟨W0, hW0⟩ : ∃ W, W = w.alloc (.cells #[.int .i64 b, .int .i64 s, .int .i64 p] 115) := ⟨_, rfl⟩
  have HA0 := Lib.hid (show Blk W0 w.heap.size 115 [.int .i64 b, .int .i64 s, .int .i64 p] from hW0 ▸ HA.out)
  have HB0 := Lib.hid (show Below w.heap.size w W0 from hW0 ▸ HB.out)
  have c0 := HA0.out.cellAt (i := 0) (by simp); have c1 := HA0.out.cellAt (i := 1) (by simp); have c2 := HA0.out.cellAt (i := 2) (by simp)
  clear hc hk
  go_enter Try.func56, Try.ntmps56
  go_upto_region 1 with fail
  rw [← hW0]
  clear hW0 HA HB
  go_wp2_with fail
  refine (HR.out _).mono ?_
  rintro y w1 ⟨rfl, hb⟩
  have HB1 := Lib.hid (below_transG HB0.out hb)
  have HA1 := Lib.hid (HA0.out.keep hb HA0.out.lt)
  clear hb c0 c1 c2
  have d0 := HA1.out.cellAt (i := 0) (by simp); have d1 := HA1.out.cellAt (i := 1) (by simp); have d2 := HA1.out.cellAt (i := 2) (by simp)
  go_wp2_with fail
  refine (HI.out _).mono ?_
  rintro y w2 ⟨rfl, rfl⟩
  have HN := Lib.hid (Blk.new w1 214 (ndC b s p k ⟨false, 0, 0⟩))
  have HB2 := Lib.hid (below_transG HB1.out ((Below.refl _ w1).alloc (Nat.le_refl _) (.cells (ndC b s p k ⟨false, 0, 0⟩).toArray 214)))
  have HS := Lib.hid HB1.out.size
  go_wp2_with fail
  go_ret2
  exact ⟨w1.heap.size, rfl, HN.out, HS.out, HB2.out⟩
theorem rk_new_no (b s p k : Int) (hc : rightR b s p = true → ¬ (0 ≤ k ∧ k ≤ 31)) (w : World) : Calls Try.prog 56 #[.agg #[.int .i64 b, .int .i64 s, .int .i64 p], .int .i64 k] w fun y w' => y = .returned (.tuple #[.pointer none, .int .i64 1]) ∧ Below w.heap.size w w' := by
  have HR := Lib.hid (fun u => rk_right b s p u)
  have HI := Lib.hid (fun u => rk_isRank k u)
  have HA := Lib.hid (Blk.new w 115 [.int .i64 b, .int .i64 s, .int .i64 p])
  have HB := Lib.hid ((Below.refl _ w).alloc (Nat.le_refl _) (.cells #[.int .i64 b, .int .i64 s, .int .i64 p] 115))
  obtain ⟨W0, hW0⟩ : ∃ W, W = w.alloc (.cells #[.int .i64 b, .int .i64 s, .int .i64 p] 115) := ⟨_, rfl⟩
  have HA0 := Lib.hid (show Blk W0 w.heap.size 115 [.int .i64 b, .int .i64 s, .int .i64 p] from hW0 ▸ HA.out)
  have HB0 := Lib.hid (show Below w.heap.size w W0 from hW0 ▸ HB.out)
  have c0 := HA0.out.cellAt (i := 0) (by simp); have c1 := HA0.out.cellAt (i := 1) (by simp); have c2 := HA0.out.cellAt (i := 2) (by simp)
  cases hr : rightR b s p
  · rw [hr] at HR
    clear hc hr
    go_enter Try.func56, Try.ntmps56
    go_upto_region 1 with fail
    rw [← hW0]
    clear hW0 HA HB
    go_wp2_with fail
    refine (HR.out _).mono ?_
    rintro y w1 ⟨rfl, hb⟩
    have HB1 := Lib.hid (below_transG HB0.out hb)
    clear hb c0 c1 c2
    go_wp2_with fail
    go_ret2
    exact ⟨rfl, HB1.out⟩
  · rw [hr] at HR
    rw [inR_no (hc hr)] at HI
    clear hc hr
    go_enter Try.func56, Try.ntmps56
    go_upto_region 1 with fail
    rw [← hW0]
    clear hW0 HA HB
    go_wp2_with fail
    refine (HR.out _).mono ?_
    rintro y w1 ⟨rfl, hb⟩
    have HB1 := Lib.hid (below_transG HB0.out hb)
    clear hb c0 c1 c2
    go_wp2_with fail
    refine (HI.out _).mono ?_
    rintro y w2 ⟨rfl, rfl⟩
    go_wp2_with fail
    go_ret2
    exact ⟨rfl, HB1.out⟩
end Go.Proofs.Ytdfalipgfnjglaa
