/- ClockPlays (P17.1, P17.2): of every acts: each answer of a clock, its rate, and what it told last, is what the document says. No conditions. -/
import Derived.Test.YtioifgbglgjkcaaRows
import Derived.Deep.DeepCutAuto
import Derived.Test.YtioifgbglgjkcaaCkl
import Derived.Test.YtioifgbglgjkcaaOpk
import Derived.Test.YtioifgbglgjkcaaQui
import Derived.WalkKit
import Derived.ProofKit
import Derived.OpenShut
import Derived.ShutString
import Derived.ChangeOld
import Derived.Below
namespace Go.Proofs.Ytioifgbglgjkcaa.clockPlays
open Go.ChangeShapes Go.WideShapes Go.ChangeAt Go.RowKit
theorem own : ownKnob Try.prog.godebug = none := by kernel_rfl
theorem laidOut : laidOutB Try.prog = true := by kernel_rfl
set_option maxRecDepth 100000 in
set_option maxHeartbeats 16000000 in
theorem walk (a0 : Option Addr) (len0 cap0 : Nat) (L : List A17) (w : World) (w0 : L.length = len0 ∧ (∀ s ∈ L, s.wf) ∧ Rd w 3 (.slice a0 len0 cap0) (L.flatMap A17.C)) :
    Calls Try.prog 3 #[.slice a0 len0 cap0] w fun y w' => y = .returned (.bool true) ∧ Below w.heap.size w w' := by
  obtain ⟨rfl, hwf, hL⟩ := w0
  have HLR := Lib.hid hL; have HWF := Lib.hid hwf
  clear hL hwf
  go_enter Try.func3, Try.ntmps3
  go_wp2_with fail
  refine (cknew_any _).mono ?_
  rintro y w1 ⟨B, rfl, hO, hB, hb⟩
  have HO1 := Lib.hid hO; have HB1 := Lib.hid hb; have HBB := Lib.hid hB
  clear hO hb hB
  go_wp2_with fail
  refine (rcknew_any _).mono ?_
  rintro y w2 ⟨B', rfl, hO, hB, hb⟩
  have HI2 := Lib.hid (show C2 w w2 B B' 0 0 1048576 0 0 0 1048576 0 from ⟨HO1.out.on hb, hO, below_transG HB1.out hb, HBB.out, Nat.le_trans HB1.out.size hB, by have := HO1.out.lt; omega⟩)
  clear hO hb hB HO1 HB1 HBB
  go_wp2_with fail
  go_loopw [5] (fun s5 wr => ∃ (i : Nat) (c v r t : Int), s5 = .int .i64 (i : Int) ∧ i ≤ 80 ∧ C2 w wr B B' c v r t c v r t) (fun s5 _ => 80 - (intOf s5).toNat)
  case atStart => exact ⟨0, 0, 0, 1048576, 0, rfl, by omega, HI2.out⟩
  case round =>
    obtain ⟨i, c, v, r, t, rfl, hi80, hI⟩ := hrel
    have HI := Lib.hid hI
    clear hI HI2
    by_cases hgo : i < L.length ∧ i < 80
    · have hlt := hgo.1
      have i1 : (i : Int) < (L.length : Int) := by omega
      have i2 : (i : Int) < 80 := by have := hgo.2; omega
      have i3 : (0 : Int) ≤ (i : Int) := by omega
      obtain ⟨g, off, rfl, hg, hcell⟩ := rd_at A17.C 3 (fun _ => rfl) HLR.out hlt (by decide)
      have hwf := HWF.out L[i] (List.getElem_mem _)
      obtain ⟨s, hs⟩ : ∃ s, s = L[i] := ⟨_, rfl⟩
      rw [← hs] at hcell hwf
      clear hs
      obtain ⟨kd, x, y⟩ := s
      have HX := Lib.hid hwf.1; have HY := Lib.hid hwf.2
      unfold A17.wf at HX HY
      simp only at HX HY
      have hcw : ∀ j u, (A17.C ⟨kd, x, y⟩)[j]? = some u → wr.cell? ⟨g, off + i * 3 + j, none⟩ = some u := fun j u h => (HI.out.below.cell (p := ⟨g, off + i * 3 + j, none⟩) hg).trans (hcell j u h)
      have e0 : wr.cell? ⟨g, off + i * 3, none⟩ = some (.int .i64 kd) := hcw 0 _ rfl
      have e1 : wr.cell? ⟨g, off + i * 3 + 1, none⟩ = some (.int .i64 x) := hcw 1 _ rfl
      have e2 : wr.cell? ⟨g, off + i * 3 + 2, none⟩ = some (.int .i64 y) := hcw 2 _ rfl
      obtain ⟨W1, hW1⟩ : ∃ W1, W1 = wr.alloc (.cells #[.int .i64 kd, .int .i64 x, .int .i64 y] 28) := ⟨_, rfl⟩
      have hb1 : Below wr.heap.size wr W1 := by rw [hW1]; exact (Below.refl _ wr).alloc (Nat.le_refl _) _
      have hBs := (show Bd W1 B B' wr.heap.size 28 [.int .i64 kd, .int .i64 x, .int .i64 y] from ⟨by rw [hW1]; exact Blk.new wr 28 [.int .i64 kd, .int .i64 x, .int .i64 y], by have := HI.out.a.lt; omega, by have := HI.out.b.lt; omega⟩)
      have HI1 := Lib.hid (HI.out.on hb1)
      clear hcw hb1 hcell hwf
      go_upto_region 8 with fail
      obtain ⟨D, hD⟩ : ∃ D, D = wr.heap.size := ⟨_, rfl⟩
      rw [← hD] at hBs ⊢
      rw [← hW1]
      have HD1 := Lib.hid hBs
      have HGO := Lib.hid (show i < 80 from hgo.2)
      clear hW1 hD hBs e0 e1 e2 HI i1 i2 i3 hlt
      have d0 : W1.cell? ⟨D, 0, none⟩ = some (.int .i64 kd) := HD1.out.blk.cellAt (i := 0) (by simp)
      have d1 : W1.cell? ⟨D, 1, none⟩ = some (.int .i64 x) := HD1.out.blk.cellAt (i := 1) (by simp)
      have d2 : W1.cell? ⟨D, 2, none⟩ = some (.int .i64 y) := HD1.out.blk.cellAt (i := 2) (by simp)
      by_cases h1 : kd = 1
      · have k1 : (kd == 1) = true := by rw [h1]; rfl
        clear h1
        obtain ⟨X, hX⟩ : ∃ X, X = lookX c v r x := ⟨_, rfl⟩
        obtain ⟨Y, hY⟩ : ∃ Y, Y = lookB c v r x := ⟨_, rfl⟩
        have HA := Lib.hid (fun (u : World) h => cklook_any x HX.out c v r t B u h)
        have HB := Lib.hid (fun (u : World) h => rcklook_any x HX.out c v r t B' u h)
        rw [← hX, ← hY] at HA HB
        clear hX hY
        have kx : (X != X) = false := by simp
        have ky : (Y != Y) = false := by simp
        go_wp2_with fail
        refine (HA.out _ HI1.out.a).mono ?_
        rintro y2 w2 ⟨rfl, hb⟩
        have HI2 := Lib.hid (HI1.out.on hb); have HD2 := Lib.hid (HD1.out.on hb)
        clear hb d0 d1 d2
        have d0 : w2.cell? ⟨D, 0, none⟩ = some (.int .i64 kd) := HD2.out.blk.cellAt (i := 0) (by simp)
        have d1 : w2.cell? ⟨D, 1, none⟩ = some (.int .i64 x) := HD2.out.blk.cellAt (i := 1) (by simp)
        have d2 : w2.cell? ⟨D, 2, none⟩ = some (.int .i64 y) := HD2.out.blk.cellAt (i := 2) (by simp)
        go_wp2_with fail
        refine (HB.out _ HI2.out.b).mono ?_
        rintro y3 w3 ⟨rfl, hb⟩
        have HI3 := Lib.hid (HI2.out.on hb)
        clear hb d0 d1 d2
        have kr : (((r) : Int) != (r)) = false := by simp
        have kt : (((t) : Int) != (t)) = false := by simp
        have HZ := Lib.hid (show ∀ u, C2 w u B B' (c) (v) (r) (t) (c) (v) (r) (t) → (C2 w u B B' (c) (v) (r) (t) (c) (v) (r) (t) ∧ u.cell? ⟨B', 2, none⟩ = some (.int .i64 (r)) ∧ u.cell? ⟨B', 3, none⟩ = some (.int .i64 (t))) from fun u h => ⟨h, h.b.blk.cellAt (i := 2) (by simp), h.b.blk.cellAt (i := 3) (by simp)⟩)
        have HLR := Lib.hid (show ∀ u, C2 w u B B' (c) (v) (r) (t) (c) (v) (r) (t) → Calls Try.prog 23 #[.pointer (some ⟨B, 0, none⟩)] u fun y w' => y = .returned (.int .i64 (r)) ∧ u = w' from fun u h => ckrate_any (c) (v) (r) (t) B u h.a)
        have HLL := Lib.hid (show ∀ u, C2 w u B B' (c) (v) (r) (t) (c) (v) (r) (t) → Calls Try.prog 24 #[.pointer (some ⟨B, 0, none⟩)] u fun y w' => y = .returned (.int .i64 (t)) ∧ u = w' from fun u h => cklast_any (c) (v) (r) (t) B u h.a)
        go_upto_region 24 with fail
        refine wp_region_class (C := fun x => (C2 w x B B' (c) (v) (r) (t) (c) (v) (r) (t) ∧ x.cell? ⟨B', 2, none⟩ = some (.int .i64 (r)) ∧ x.cell? ⟨B', 3, none⟩ = some (.int .i64 (t)))) (by kernel_rfl) (by kernel_rfl) (HZ.out _ (HI3.out.on (Below.refl _ _).drew)) ?_
        repeat
          with_reducible refine wpQuiet_step (fun K hK => ?_)
          first
            | (refine quiet_skip (by rfl) ?_; (with_reducible refine hK _ ?_); clear hK K)
            | (refine quiet_want (by rfl) ?_
               apply Exists.intro
               refine ⟨fun x hx => ?_, hK _ ?_⟩
               (obtain ⟨_, hx1, hx2⟩ := id hx; go_simp; first | done | rfl | (first | (go_at_call 23; exact (HLR.out _ hx.1).mono fun y w' ⟨h1, h2⟩ => ⟨h1, h2 ▸ hx⟩) | (go_at_call 24; exact (HLL.out _ hx.1).mono fun y w' ⟨h1, h2⟩ => ⟨h1, h2 ▸ hx⟩)))
               clear hK K)
          try simp only [Act.put, List.setIfInBounds_toArray, List.set_cons_zero, List.set_cons_succ]
        with_reducible refine wpQuiet_nil ?_
        intro wq hq
        have HIf := Lib.hid hq.1
        clear hq HZ HLR HLL kr kt
        go_wp2_with fail
        go_roundw
        case rel => exact ⟨i + 1, c, v, r, t, by simp, by have := HGO.out; omega, HIf.out⟩
        case measure => have := HGO.out; simp [intOf]; omega
      have k1 : (kd == 1) = false := by rw [beq_eq_false_iff_ne]; exact h1
      by_cases h2 : kd = 2
      · have k2 : (kd == 2) = true := by rw [h2]; rfl
        clear h1 h2
        obtain ⟨E, hE⟩ : ∃ E, E = shE c v r x y := ⟨_, rfl⟩
        obtain ⟨c2, hc2⟩ : ∃ z, z = shC c v r x y := ⟨_, rfl⟩
        obtain ⟨v2, hv2⟩ : ∃ z, z = shV c v r x y := ⟨_, rfl⟩
        have HA := Lib.hid (fun (u : World) (h : CK u 76 B c v r t) => ckshift_any x y HX.out HY.out c v r t B u h)
        have HB := Lib.hid (fun (u : World) (h : CK u 35 B' c v r t) => rckshift_any x y HX.out HY.out c v r t B' u h)
        rw [← hE, ← hc2, ← hv2] at HA HB
        clear hE hc2 hv2
        have ke : (E != E) = false := by simp
        have HS := Lib.hid (show ∀ u, Below w.heap.size w u → Bd u B B' D 28 [.int .i64 kd, .int .i64 x, .int .i64 y] → (Below w.heap.size w u ∧ u.cell? ⟨D, 0, none⟩ = some (.int .i64 kd) ∧ u.cell? ⟨D, 1, none⟩ = some (.int .i64 x) ∧ u.cell? ⟨D, 2, none⟩ = some (.int .i64 y)) from fun u hu hb => ⟨hu, hb.blk.cellAt (i := 0) (by simp), hb.blk.cellAt (i := 1) (by simp), hb.blk.cellAt (i := 2) (by simp)⟩)
        have HQ1 := Lib.hid (show ∀ u, C2 w u B B' c v r t c v r t → Bd u B B' D 28 [.int .i64 kd, .int .i64 x, .int .i64 y] → Calls Try.prog 17 #[.pointer (some ⟨B, 0, none⟩), .int .i64 x, .int .i64 y] u fun z w' => z = .returned (.int .i64 E) ∧ C2 w w' B B' c2 v2 r t c v r t ∧ Bd w' B B' D 28 [.int .i64 kd, .int .i64 x, .int .i64 y] ∧ (Below w.heap.size w w' ∧ w'.cell? ⟨D, 0, none⟩ = some (.int .i64 kd) ∧ w'.cell? ⟨D, 1, none⟩ = some (.int .i64 x) ∧ w'.cell? ⟨D, 2, none⟩ = some (.int .i64 y)) from fun u h hb => (HA.out u h.a).mono fun z w' ⟨h1, h2, h3⟩ => ⟨h1, h.stepA h2 h3, hb.stepA h3, HS.out _ (h.stepA h2 h3).below (hb.stepA h3)⟩)
        have HQ2 := Lib.hid (show ∀ u, C2 w u B B' c2 v2 r t c v r t → Bd u B B' D 28 [.int .i64 kd, .int .i64 x, .int .i64 y] → Calls Try.prog 18 #[.pointer (some ⟨B', 0, none⟩), .int .i64 x, .int .i64 y] u fun z w' => z = .returned (.int .i64 E) ∧ C2 w w' B B' c2 v2 r t c2 v2 r t ∧ Bd w' B B' D 28 [.int .i64 kd, .int .i64 x, .int .i64 y] ∧ (Below w.heap.size w w' ∧ w'.cell? ⟨D, 0, none⟩ = some (.int .i64 kd) ∧ w'.cell? ⟨D, 1, none⟩ = some (.int .i64 x) ∧ w'.cell? ⟨D, 2, none⟩ = some (.int .i64 y)) from fun u h hb => (HB.out u h.b).mono fun z w' ⟨h1, h2, h3⟩ => ⟨h1, h.stepB h2 h3, hb.stepB h3, HS.out _ (h.stepB h2 h3).below (hb.stepB h3)⟩)
        have z0 := HS.out _ HI1.out.below HD1.out
        have z1 := HS.out _ HI1.out.below.drew (HD1.out.on (Below.refl _ _).drew)
        clear HA HB
        go_upto_region 19 with fail
        clear d0 d1 d2
        go_cut [95] (fun s wx => s = .bool false ∧ C2 w wx B B' c2 v2 r t c2 v2 r t)
        case first =>
          go_region_held3 (fun u => (Below w.heap.size w u ∧ u.cell? ⟨D, 0, none⟩ = some (.int .i64 kd) ∧ u.cell? ⟨D, 1, none⟩ = some (.int .i64 x) ∧ u.cell? ⟨D, 2, none⟩ = some (.int .i64 y))) (first | (with_reducible assumption) | (with_reducible exact h6S)) (first | (go_at_call 17; refine (HQ1.out _ (by first | exact HI1.out | exact HI1.out.on (Below.refl _ _).drew) (by first | exact HD1.out | exact HD1.out.on (Below.refl _ _).drew)).mono ?_; rintro e6 w6 ⟨rfl, h6, h6B, h6S⟩) | (go_at_call 18; refine (HQ2.out _ h6 h6B).mono ?_; rintro e7 w7 ⟨rfl, h7, h7B, h7S⟩))
          all_goals (go_wp2_with fail; go_meet; exact ⟨rfl, h7⟩)
        case rest =>
        obtain ⟨rfl, h3⟩ := hcut
        obtain ⟨we, hwe⟩ : ∃ we, we = wc := ⟨_, rfl⟩
        rw [← hwe] at h3 ⊢
        have HIe := Lib.hid h3
        clear h3 hwe z0 z1 ke HQ1 HQ2 HS
        have kr : (((r) : Int) != (r)) = false := by simp
        have kt : (((t) : Int) != (t)) = false := by simp
        have HZ := Lib.hid (show ∀ u, C2 w u B B' (c2) (v2) (r) (t) (c2) (v2) (r) (t) → (C2 w u B B' (c2) (v2) (r) (t) (c2) (v2) (r) (t) ∧ u.cell? ⟨B', 2, none⟩ = some (.int .i64 (r)) ∧ u.cell? ⟨B', 3, none⟩ = some (.int .i64 (t))) from fun u h => ⟨h, h.b.blk.cellAt (i := 2) (by simp), h.b.blk.cellAt (i := 3) (by simp)⟩)
        have HLR := Lib.hid (show ∀ u, C2 w u B B' (c2) (v2) (r) (t) (c2) (v2) (r) (t) → Calls Try.prog 23 #[.pointer (some ⟨B, 0, none⟩)] u fun y w' => y = .returned (.int .i64 (r)) ∧ u = w' from fun u h => ckrate_any (c2) (v2) (r) (t) B u h.a)
        have HLL := Lib.hid (show ∀ u, C2 w u B B' (c2) (v2) (r) (t) (c2) (v2) (r) (t) → Calls Try.prog 24 #[.pointer (some ⟨B, 0, none⟩)] u fun y w' => y = .returned (.int .i64 (t)) ∧ u = w' from fun u h => cklast_any (c2) (v2) (r) (t) B u h.a)
        go_upto_region 24 with fail
        refine wp_region_class (C := fun x => (C2 w x B B' (c2) (v2) (r) (t) (c2) (v2) (r) (t) ∧ x.cell? ⟨B', 2, none⟩ = some (.int .i64 (r)) ∧ x.cell? ⟨B', 3, none⟩ = some (.int .i64 (t)))) (by kernel_rfl) (by kernel_rfl) (HZ.out _ (HIe.out.on (Below.refl _ _).drew)) ?_
        repeat
          with_reducible refine wpQuiet_step (fun K hK => ?_)
          first
            | (refine quiet_skip (by rfl) ?_; (with_reducible refine hK _ ?_); clear hK K)
            | (refine quiet_want (by rfl) ?_
               apply Exists.intro
               refine ⟨fun x hx => ?_, hK _ ?_⟩
               (obtain ⟨_, hx1, hx2⟩ := id hx; go_simp; first | done | rfl | (first | (go_at_call 23; exact (HLR.out _ hx.1).mono fun y w' ⟨h1, h2⟩ => ⟨h1, h2 ▸ hx⟩) | (go_at_call 24; exact (HLL.out _ hx.1).mono fun y w' ⟨h1, h2⟩ => ⟨h1, h2 ▸ hx⟩)))
               clear hK K)
          try simp only [Act.put, List.setIfInBounds_toArray, List.set_cons_zero, List.set_cons_succ]
        with_reducible refine wpQuiet_nil ?_
        intro wq hq
        have HIf := Lib.hid hq.1
        clear hq HZ HLR HLL kr kt
        go_wp2_with fail
        go_roundw
        case rel => exact ⟨i + 1, c2, v2, r, t, by simp, by have := HGO.out; omega, HIf.out⟩
        case measure => have := HGO.out; simp [intOf]; omega
      have k2 : (kd == 2) = false := by rw [beq_eq_false_iff_ne]; exact h2
      by_cases h3 : kd = 3
      · have k3 : (kd == 3) = true := by rw [h3]; rfl
        clear h1 h2 h3
        obtain ⟨E, hE⟩ : ∃ E, E = tuE c v r x y := ⟨_, rfl⟩
        obtain ⟨c2, hc2⟩ : ∃ z, z = tuC c v r x y := ⟨_, rfl⟩
        obtain ⟨v2, hv2⟩ : ∃ z, z = tuV c v r x y := ⟨_, rfl⟩
        obtain ⟨r2, hr2⟩ : ∃ z, z = tuR c v r x y := ⟨_, rfl⟩
        have HA := Lib.hid (fun (u : World) (h : CK u 76 B c v r t) => cktune_any x y HX.out c v r t B u h)
        have HB := Lib.hid (fun (u : World) (h : CK u 35 B' c v r t) => rcktune_any x y HX.out c v r t B' u h)
        rw [← hE, ← hc2, ← hv2, ← hr2] at HA HB
        clear hE hc2 hv2 hr2
        have ke : (E != E) = false := by simp
        have HS := Lib.hid (show ∀ u, Below w.heap.size w u → Bd u B B' D 28 [.int .i64 kd, .int .i64 x, .int .i64 y] → (Below w.heap.size w u ∧ u.cell? ⟨D, 0, none⟩ = some (.int .i64 kd) ∧ u.cell? ⟨D, 1, none⟩ = some (.int .i64 x) ∧ u.cell? ⟨D, 2, none⟩ = some (.int .i64 y)) from fun u hu hb => ⟨hu, hb.blk.cellAt (i := 0) (by simp), hb.blk.cellAt (i := 1) (by simp), hb.blk.cellAt (i := 2) (by simp)⟩)
        have HQ1 := Lib.hid (show ∀ u, C2 w u B B' c v r t c v r t → Bd u B B' D 28 [.int .i64 kd, .int .i64 x, .int .i64 y] → Calls Try.prog 19 #[.pointer (some ⟨B, 0, none⟩), .int .i64 x, .int .i64 y] u fun z w' => z = .returned (.int .i64 E) ∧ C2 w w' B B' c2 v2 r2 t c v r t ∧ Bd w' B B' D 28 [.int .i64 kd, .int .i64 x, .int .i64 y] ∧ (Below w.heap.size w w' ∧ w'.cell? ⟨D, 0, none⟩ = some (.int .i64 kd) ∧ w'.cell? ⟨D, 1, none⟩ = some (.int .i64 x) ∧ w'.cell? ⟨D, 2, none⟩ = some (.int .i64 y)) from fun u h hb => (HA.out u h.a).mono fun z w' ⟨h1, h2, h3⟩ => ⟨h1, h.stepA h2 h3, hb.stepA h3, HS.out _ (h.stepA h2 h3).below (hb.stepA h3)⟩)
        have HQ2 := Lib.hid (show ∀ u, C2 w u B B' c2 v2 r2 t c v r t → Bd u B B' D 28 [.int .i64 kd, .int .i64 x, .int .i64 y] → Calls Try.prog 20 #[.pointer (some ⟨B', 0, none⟩), .int .i64 x, .int .i64 y] u fun z w' => z = .returned (.int .i64 E) ∧ C2 w w' B B' c2 v2 r2 t c2 v2 r2 t ∧ Bd w' B B' D 28 [.int .i64 kd, .int .i64 x, .int .i64 y] ∧ (Below w.heap.size w w' ∧ w'.cell? ⟨D, 0, none⟩ = some (.int .i64 kd) ∧ w'.cell? ⟨D, 1, none⟩ = some (.int .i64 x) ∧ w'.cell? ⟨D, 2, none⟩ = some (.int .i64 y)) from fun u h hb => (HB.out u h.b).mono fun z w' ⟨h1, h2, h3⟩ => ⟨h1, h.stepB h2 h3, hb.stepB h3, HS.out _ (h.stepB h2 h3).below (hb.stepB h3)⟩)
        have z0 := HS.out _ HI1.out.below HD1.out
        have z1 := HS.out _ HI1.out.below.drew (HD1.out.on (Below.refl _ _).drew)
        clear HA HB
        go_upto_region 22 with fail
        clear d0 d1 d2
        go_cut [110] (fun s wx => s = .bool false ∧ C2 w wx B B' c2 v2 r2 t c2 v2 r2 t)
        case first =>
          go_region_held3 (fun u => (Below w.heap.size w u ∧ u.cell? ⟨D, 0, none⟩ = some (.int .i64 kd) ∧ u.cell? ⟨D, 1, none⟩ = some (.int .i64 x) ∧ u.cell? ⟨D, 2, none⟩ = some (.int .i64 y))) (first | (with_reducible assumption) | (with_reducible exact h6S)) (first | (go_at_call 19; refine (HQ1.out _ (by first | exact HI1.out | exact HI1.out.on (Below.refl _ _).drew) (by first | exact HD1.out | exact HD1.out.on (Below.refl _ _).drew)).mono ?_; rintro e6 w6 ⟨rfl, h6, h6B, h6S⟩) | (go_at_call 20; refine (HQ2.out _ h6 h6B).mono ?_; rintro e7 w7 ⟨rfl, h7, h7B, h7S⟩))
          all_goals (go_wp2_with fail; go_meet; exact ⟨rfl, h7⟩)
        case rest =>
        obtain ⟨rfl, h3⟩ := hcut
        obtain ⟨we, hwe⟩ : ∃ we, we = wc := ⟨_, rfl⟩
        rw [← hwe] at h3 ⊢
        have HIe := Lib.hid h3
        clear h3 hwe z0 z1 ke HQ1 HQ2 HS
        have kr : (((r2) : Int) != (r2)) = false := by simp
        have kt : (((t) : Int) != (t)) = false := by simp
        have HZ := Lib.hid (show ∀ u, C2 w u B B' (c2) (v2) (r2) (t) (c2) (v2) (r2) (t) → (C2 w u B B' (c2) (v2) (r2) (t) (c2) (v2) (r2) (t) ∧ u.cell? ⟨B', 2, none⟩ = some (.int .i64 (r2)) ∧ u.cell? ⟨B', 3, none⟩ = some (.int .i64 (t))) from fun u h => ⟨h, h.b.blk.cellAt (i := 2) (by simp), h.b.blk.cellAt (i := 3) (by simp)⟩)
        have HLR := Lib.hid (show ∀ u, C2 w u B B' (c2) (v2) (r2) (t) (c2) (v2) (r2) (t) → Calls Try.prog 23 #[.pointer (some ⟨B, 0, none⟩)] u fun y w' => y = .returned (.int .i64 (r2)) ∧ u = w' from fun u h => ckrate_any (c2) (v2) (r2) (t) B u h.a)
        have HLL := Lib.hid (show ∀ u, C2 w u B B' (c2) (v2) (r2) (t) (c2) (v2) (r2) (t) → Calls Try.prog 24 #[.pointer (some ⟨B, 0, none⟩)] u fun y w' => y = .returned (.int .i64 (t)) ∧ u = w' from fun u h => cklast_any (c2) (v2) (r2) (t) B u h.a)
        go_upto_region 24 with fail
        refine wp_region_class (C := fun x => (C2 w x B B' (c2) (v2) (r2) (t) (c2) (v2) (r2) (t) ∧ x.cell? ⟨B', 2, none⟩ = some (.int .i64 (r2)) ∧ x.cell? ⟨B', 3, none⟩ = some (.int .i64 (t)))) (by kernel_rfl) (by kernel_rfl) (HZ.out _ (HIe.out.on (Below.refl _ _).drew)) ?_
        repeat
          with_reducible refine wpQuiet_step (fun K hK => ?_)
          first
            | (refine quiet_skip (by rfl) ?_; (with_reducible refine hK _ ?_); clear hK K)
            | (refine quiet_want (by rfl) ?_
               apply Exists.intro
               refine ⟨fun x hx => ?_, hK _ ?_⟩
               (obtain ⟨_, hx1, hx2⟩ := id hx; go_simp; first | done | rfl | (first | (go_at_call 23; exact (HLR.out _ hx.1).mono fun y w' ⟨h1, h2⟩ => ⟨h1, h2 ▸ hx⟩) | (go_at_call 24; exact (HLL.out _ hx.1).mono fun y w' ⟨h1, h2⟩ => ⟨h1, h2 ▸ hx⟩)))
               clear hK K)
          try simp only [Act.put, List.setIfInBounds_toArray, List.set_cons_zero, List.set_cons_succ]
        with_reducible refine wpQuiet_nil ?_
        intro wq hq
        have HIf := Lib.hid hq.1
        clear hq HZ HLR HLL kr kt
        go_wp2_with fail
        go_roundw
        case rel => exact ⟨i + 1, c2, v2, r2, t, by simp, by have := HGO.out; omega, HIf.out⟩
        case measure => have := HGO.out; simp [intOf]; omega
      have k3 : (kd == 3) = false := by rw [beq_eq_false_iff_ne]; exact h3
      clear h1 h2 h3
      obtain ⟨X, hX⟩ : ∃ X, X = readT c v r t x := ⟨_, rfl⟩
      obtain ⟨Y, hY⟩ : ∃ Y, Y = lookB c v r x := ⟨_, rfl⟩
      have HA := Lib.hid (fun (u : World) h => ckread_any x HX.out c v r t B u h)
      have HB := Lib.hid (fun (u : World) h => rckread_any x HX.out c v r t B' u h)
      rw [← hX, ← hY] at HA HB
      clear hX hY
      have kx : (X != X) = false := by simp
      have ky : (Y != Y) = false := by simp
      go_wp2_with fail
      refine (HA.out _ HI1.out.a).mono ?_
      rintro y2 w2 ⟨rfl, hO, hk⟩
      have HI2 := Lib.hid (HI1.out.stepA hO hk); have HD2 := Lib.hid (HD1.out.stepA hk)
      clear hO hk d0 d1 d2
      have d0 : w2.cell? ⟨D, 0, none⟩ = some (.int .i64 kd) := HD2.out.blk.cellAt (i := 0) (by simp)
      have d1 : w2.cell? ⟨D, 1, none⟩ = some (.int .i64 x) := HD2.out.blk.cellAt (i := 1) (by simp)
      have d2 : w2.cell? ⟨D, 2, none⟩ = some (.int .i64 y) := HD2.out.blk.cellAt (i := 2) (by simp)
      go_wp2_with fail
      refine (HB.out _ HI2.out.b).mono ?_
      rintro y3 w3 ⟨rfl, hO, hk⟩
      have HI3 := Lib.hid (HI2.out.stepB hO hk)
      clear hO hk d0 d1 d2
      have kr : (((r) : Int) != (r)) = false := by simp
      have kt : (((X) : Int) != (X)) = false := by simp
      have HZ := Lib.hid (show ∀ u, C2 w u B B' (c) (v) (r) (X) (c) (v) (r) (X) → (C2 w u B B' (c) (v) (r) (X) (c) (v) (r) (X) ∧ u.cell? ⟨B', 2, none⟩ = some (.int .i64 (r)) ∧ u.cell? ⟨B', 3, none⟩ = some (.int .i64 (X))) from fun u h => ⟨h, h.b.blk.cellAt (i := 2) (by simp), h.b.blk.cellAt (i := 3) (by simp)⟩)
      have HLR := Lib.hid (show ∀ u, C2 w u B B' (c) (v) (r) (X) (c) (v) (r) (X) → Calls Try.prog 23 #[.pointer (some ⟨B, 0, none⟩)] u fun y w' => y = .returned (.int .i64 (r)) ∧ u = w' from fun u h => ckrate_any (c) (v) (r) (X) B u h.a)
      have HLL := Lib.hid (show ∀ u, C2 w u B B' (c) (v) (r) (X) (c) (v) (r) (X) → Calls Try.prog 24 #[.pointer (some ⟨B, 0, none⟩)] u fun y w' => y = .returned (.int .i64 (X)) ∧ u = w' from fun u h => cklast_any (c) (v) (r) (X) B u h.a)
      go_upto_region 24 with fail
      refine wp_region_class (C := fun x => (C2 w x B B' (c) (v) (r) (X) (c) (v) (r) (X) ∧ x.cell? ⟨B', 2, none⟩ = some (.int .i64 (r)) ∧ x.cell? ⟨B', 3, none⟩ = some (.int .i64 (X)))) (by kernel_rfl) (by kernel_rfl) (HZ.out _ (HI3.out.on (Below.refl _ _).drew)) ?_
      repeat
        with_reducible refine wpQuiet_step (fun K hK => ?_)
        first
          | (refine quiet_skip (by rfl) ?_; (with_reducible refine hK _ ?_); clear hK K)
          | (refine quiet_want (by rfl) ?_
             apply Exists.intro
             refine ⟨fun x hx => ?_, hK _ ?_⟩
             (obtain ⟨_, hx1, hx2⟩ := id hx; go_simp; first | done | rfl | (first | (go_at_call 23; exact (HLR.out _ hx.1).mono fun y w' ⟨h1, h2⟩ => ⟨h1, h2 ▸ hx⟩) | (go_at_call 24; exact (HLL.out _ hx.1).mono fun y w' ⟨h1, h2⟩ => ⟨h1, h2 ▸ hx⟩)))
             clear hK K)
        try simp only [Act.put, List.setIfInBounds_toArray, List.set_cons_zero, List.set_cons_succ]
      with_reducible refine wpQuiet_nil ?_
      intro wq hq
      have HIf := Lib.hid hq.1
      clear hq HZ HLR HLL kr kt
      go_wp2_with fail
      go_roundw
      case rel => exact ⟨i + 1, c, v, r, X, by simp, by have := HGO.out; omega, HIf.out⟩
      case measure => have := HGO.out; simp [intOf]; omega
    · have hT : ((i : Int) < (L.length : Int) ∧ ¬ (i : Int) < 80) ∨ ¬ (i : Int) < (L.length : Int) := by omega
      clear hgo
      rcases hT with ⟨i1, i2⟩ | i1
      all_goals
        go_wp2_with fail
        refine (live17 _).mono ?_
        rintro y w5 ⟨rfl, hb⟩
        have HBz := Lib.hid (below_transG HI.out.below hb)
        clear hb
        go_wp2_with fail
        go_ret
        exact ⟨rfl, HBz.out⟩
set_option maxRecDepth 100000 in
theorem lifted (os : Os) (started : os.Started) (H : Type) (enc : TypeId × Value → H) :
    ReturnsInHanded {} Try.checked os 3 .any (Rows.clockPlaysSpec.pre6 enc Try.prog Try.f3 Rows.clockPlaysRow.domain false) (Rows.clockPlaysSpec.post enc Try.prog Try.f3 false true false false) := by
  refine returnsInHanded_of_change (C := Try.checked) own started (by kernel_rfl) Try.func3
    (ChangeSpec.witness6 (enc := enc) (C := Try.checked) false ⟨#[], #[.slice none 0 0], []⟩ 8 (by kernel_rfl) (by kernel_rfl) (by kernel_rfl) (by kernel_rfl)) ?_
  intro W base args ds gs before hval0 hW _ _
  have hval : ∀ (j : Nat) t v, Try.f3.params[j]? = some t → args[j]? = some v → Value.okWide Try.prog W .any base t v := hval0
  have hW' := hW
  obtain ⟨p, q, hA0, hV, rfl, hfz, hnd⟩ := hW
  have hA : DataW.TrodAll enc Try.prog W 0 (fun _ => true) true Try.f3.params.toList args.toList ds p := hA0
  rw [Try.params3] at hA hval
  obtain ⟨v0, vs0, d0, ds0, p0, q0, hargs, rfl, rfl, h0, r0⟩ := trodAll_cons hA
  obtain ⟨rfl, rfl, rfl⟩ := trodAll_nil r0
  obtain rfl : args = #[v0] := by cases args; simp_all
  obtain ⟨rfl, rfl⟩ := trodVars_none hV
  obtain ⟨a0, len0, cap0, rfl⟩ := okWide_slice Try.underlying22 (hval 0 22 v0 rfl rfl)
  have k0 := h0
  have lt0 : ∀ x ∈ p0, x.block < W.heap.size := by obtain ⟨m, hm⟩ := k0; exact DataW.trod_lt m _ _ _ hm
  obtain ⟨L0, wl0, ww0, wr0⟩ : ∃ L : List A17, L.length = len0 ∧ (∀ s ∈ L, A17.wf s) ∧ Rd W 3 (.slice a0 len0 cap0) (L.flatMap A17.C) := by
    obtain ⟨fuel, hf⟩ := h0
    exact open_rows A17.C A17.wf 3 (by decide) Try.underlying22 (by kernel_rfl) (fun _ => rfl) (fun _ _ _ => act17G) (by simpa [Value.cells] using hf)
  clear hA0 hval0
  refine (walk a0 len0 cap0 L0 W ⟨wl0, ww0, wr0⟩).mono fun e W' ⟨he, bel⟩ => ?_
  subst he
  exact ⟨_, rfl, _, _, _, [], _, [], hW', trodAll_mk1 (shut_bool Try.underlying4 _), (trodAll_cons_mk (Below.trod laidOut (by kernel_rfl) (of_decide_eq_true (by kernel_rfl)) k0 bel lt0) trodAll_mk0), rfl, bel.frame _, fun h => by cases h⟩
theorem over : Rows.clockPlaysRow.holds Try.pinned (OpenSpec.ofChange Rows.clockPlaysSpec) :=
  OpenClaim.holds_of_wide 3 Try.f3 rfl rfl rfl rfl rfl rfl rfl ⟨rfl, rfl, rfl, rfl, rfl⟩ rfl rfl rfl rfl rfl (by kernel_rfl) Try.func3 (by kernel_rfl)
    (of_decide_eq_true (by kernel_rfl)) (by unfold Func.isWrapper; first | (rw [if_pos (by decide +kernel)]; kernel_rfl) | (rw [if_neg (by decide +kernel)]; exact ⟨rfl, rfl⟩))
    (fun os started H enc _ => lifted os started H enc)
/-- The statement. -/
theorem proved : Rows.ClockPlaysSaid := over
end Go.Proofs.Ytioifgbglgjkcaa.clockPlays
