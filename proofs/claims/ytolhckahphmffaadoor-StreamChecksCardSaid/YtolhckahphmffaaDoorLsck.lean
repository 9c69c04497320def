/- StreamChecks (P25.1, P25.2): what is wrong with any streams, and with which one; what they cost, and where they are; those of a node; those with their ranks. Conditions: none but the divisor's table, which the card ties. -/
import Derived.Test.YtolhckahphmffaaDoorRows
import Derived.Test.YtolhckahphmffaaDoorSnc
import Derived.Test.YtolhckahphmffaaDoorSmt
import Derived.Test.YtolhckahphmffaaDoorSmu
import Derived.Test.YtolhckahphmffaaDoorSmv
import Derived.Test.YtolhckahphmffaaDoorSmp
import Derived.Test.YtolhckahphmffaaDoorSmh
import Derived.Test.YtolhckahphmffaaDoorSmg
import Derived.Test.YtolhckahphmffaaDoorOpr
import Derived.Test.YtolhckahphmffaaDoorCrt
import Derived.WalkKit
import Derived.ProofKit
import Derived.OpenShut
import Derived.ShutString
import Derived.ChangeOld
import Derived.Below
namespace Go.Proofs.YtolhckahphmffaaDoor.streamChecks
open Go.ChangeShapes Go.WideShapes Go.ChangeAt Go.RowKit
theorem own : ownKnob Tryd.prog.godebug = none := by kernel_rfl
theorem laidOut : laidOutB Tryd.prog = true := by kernel_rfl
theorem Sts.spot {n₀ : Nat} {W : World} {a : Option Addr} {len cap : Nat} {L : List Sm} (h : Sts n₀ W (.slice a len cap) L) (h0 : 0 < L.length) : ∃ g off, a = some ⟨g, off, none⟩ ∧ g < n₀ ∧ ∀ j (hj : j < L.length) i u, (L[j].C)[i]? = some u → W.cell? ⟨g, off + j * 7 + i, none⟩ = some u := by
  rcases h with ⟨_, _, _, e⟩ | ⟨g, off, _, e, hg, hc⟩
  · rw [e] at h0; cases h0
  · injection e with e1 _ _
    exact ⟨g, off, e1, hg, hc⟩
set_option maxRecDepth 100000 in
theorem scheck_all (a : Option Addr) (ln cap : Nat) (L : List Sm) (len : Int) (w : World) (hI : Sts w.heap.size w (.slice a ln cap) L) :
    Calls Tryd.prog 12 #[.slice a ln cap, .int .i64 len] w fun y w' => y = .returned (.tuple #[.int .i64 (checkV L len).1, .int .i64 (checkV L len).2]) ∧ Below w.heap.size w w' := by
  by_cases h : L.length ≤ 64
  · exact scheck_any a ln cap L len (by omega) w hI
  · obtain rfl := hI.len
    have e : checkV L len = (0, 11) := by unfold checkV; rw [if_pos (by omega)]
    rw [e]
    have HB := Lib.hid (Below.refl w.heap.size w)
    obtain ⟨N, hN⟩ : ∃ N, N = L.length := ⟨_, rfl⟩
    rw [← hN] at h ⊢
    have j1 : ¬ (N : Int) ≤ 64 := by omega
    have j2 : (64 : Int) < (N : Int) := by omega
    clear hN e hI
    refine (callsIn_wide (n := 3)).1 ?_
    refine callsIn_of_wp_marks Tryd.func12 rfl trivial ?_ rfl
    simp only [Tryd.ntmps12, List.size_toArray, List.length_cons, List.length_nil, Nat.reduceAdd, Nat.reduceSub, Array.replicate_succ, Array.replicate_zero, List.push_toArray, List.append_toArray, List.nil_append, List.cons_append]
    gi_wp2
    refine scope_in ?_
    gi_wp2
    refine ret_marks w.heap.size (fun W => Below w.heap.size w W) [] (fun W D hq hD hK => hq.trans (belowK_b (w := w) (Nat.le_refl _) W D _ _ hD hK rfl rfl)) (fun W hq => ?_) (Below.refl _ _) ⟨List.nodup_nil, fun D hD => by cases hD⟩
    exact ⟨.tuple #[.int .i64 0, .int .i64 11], by simp [results, Tryd.f12, go_sem], rfl, hq⟩
set_option maxRecDepth 100000 in
theorem rscheck_all (a : Option Addr) (ln cap : Nat) (L : List Sm) (len : Int) (w : World) (hI : Sts w.heap.size w (.slice a ln cap) L) :
    Calls Tryd.prog 13 #[.slice a ln cap, .int .i64 len] w fun y w' => y = .returned (.tuple #[.int .i64 (checkV L len).1, .int .i64 (checkV L len).2]) ∧ Below w.heap.size w w' := by
  by_cases h : L.length ≤ 64
  · exact rscheck_any a ln cap L len (by omega) w hI
  · obtain rfl := hI.len
    have e : checkV L len = (0, 11) := by unfold checkV; rw [if_pos (by omega)]
    rw [e]
    have HB := Lib.hid (Below.refl w.heap.size w)
    obtain ⟨N, hN⟩ : ∃ N, N = L.length := ⟨_, rfl⟩
    rw [← hN] at h ⊢
    have j1 : ¬ (N : Int) ≤ 64 := by omega
    have j2 : (64 : Int) < (N : Int) := by omega
    clear hN e hI
    go_enter Tryd.func13, Tryd.ntmps13
    go_wp2_with fail
    go_ret2
    exact ⟨rfl, by first | exact HB.out | exact HB.out.drew⟩
set_option maxRecDepth 2000000 in
set_option maxHeartbeats 8000000 in
theorem walk (a : Option Addr) (len cap : Nat) (L : List Sm) (ln idn : Int) (w : World) (hw : L.length = len ∧ (∀ s ∈ L, s.wf) ∧ Rd w 7 (.slice a len cap) (L.flatMap Sm.C)) (_ : (Lit.int .i64 ln).wf = true) (_ : (Lit.int .i64 idn).wf = true) (h0 : 0 < w.heap.size) (hT : Tab w) : Calls Tryd.prog 3 #[.slice a len cap, .int .i64 ln, .int .i64 idn] w fun y w' => y = .returned (.bool true) ∧ Below w.heap.size w w' := by
  have hI := Sts.of_rd hw.2.2 hw.1
  have HTX := Lib.hid (show ∀ x, Below w.heap.size w x → 0 < x.heap.size ∧ Tab x from fun x hx => ⟨Nat.lt_of_lt_of_le h0 hx.size, hT.on hx h0⟩)
  obtain rfl := hI.len
  have HI := Lib.hid (show ∀ u, Below w.heap.size w u → Sts u.heap.size u (.slice a L.length cap) L from fun u hu => (hI.below hu).mono hu.size)
  clear hT h0 hI hw
  have HCK := Lib.hid (show ∀ u, Below w.heap.size w u → _ from fun u (hu : Below w.heap.size w u) => scheck_all a L.length cap L ln u (HI.out u hu))
  have HRCK := Lib.hid (show ∀ u, Below w.heap.size w u → _ from fun u (hu : Below w.heap.size w u) => rscheck_all a L.length cap L ln u (HI.out u hu))
  obtain ⟨c1, hc1⟩ : ∃ c, c = (checkV L ln).1 := ⟨_, rfl⟩
  obtain ⟨c2, hc2⟩ : ∃ c, c = (checkV L ln).2 := ⟨_, rfl⟩
  rw [← hc1, ← hc2] at HCK HRCK
  clear hc1 hc2
  obtain ⟨OL, hOL⟩ : ∃ O, O = ofL L idn := ⟨_, rfl⟩
  obtain ⟨RL, hRL⟩ : ∃ O, O = L.map (rkD L) := ⟨_, rfl⟩
  have HOLL := Lib.hid (show OL.length ≤ L.length by rw [hOL]; unfold ofL; exact List.length_filter_le _ _)
  have HRLL := Lib.hid (show RL.length ≤ L.length by rw [hRL, List.length_map]; omega)
  have HO1 := Lib.hid (show L.length ≤ 1000000 → ∀ u, Below w.heap.size w u → Calls Tryd.prog 21 #[.slice a L.length cap, .int .i64 idn] u fun e W' => ∃ v, e = .returned v ∧ W'.ownsRow u.heap.size 30 7 v OL.length (OL.flatMap Sm.C) ∧ Below u.heap.size u W' from fun h u hu => by rw [hOL]; exact sof_any a L.length cap L idn h u (HI.out u hu))
  have HO2 := Lib.hid (show L.length ≤ 1000000 → ∀ u, Below w.heap.size w u → Calls Tryd.prog 22 #[.slice a L.length cap, .int .i64 idn] u fun e W' => ∃ v, e = .returned v ∧ W'.ownsRow u.heap.size 30 7 v OL.length (OL.flatMap Sm.C) ∧ Below u.heap.size u W' from fun h u hu => by rw [hOL]; exact rsof_any a L.length cap L idn h u (HI.out u hu))
  have HK1 := Lib.hid (show L.length ≤ 1000000 → ∀ u, Below w.heap.size w u → Calls Tryd.prog 23 #[.slice a L.length cap] u fun e W' => ∃ v, e = .returned v ∧ W'.ownsRow u.heap.size 30 7 v L.length (RL.flatMap Sm.C) ∧ Below u.heap.size u W' from fun h u hu => by rw [hRL]; exact sranked3_any a L.length cap L h u (HI.out u hu))
  have HK2 := Lib.hid (show L.length ≤ 1000000 → ∀ u, Below w.heap.size w u → Calls Tryd.prog 24 #[.slice a L.length cap] u fun e W' => ∃ v, e = .returned v ∧ W'.ownsRow u.heap.size 30 7 v L.length (RL.flatMap Sm.C) ∧ Below u.heap.size u W' from fun h u hu => by rw [hRL]; exact rsranked_any a L.length cap L h u (HI.out u hu))
  clear hOL hRL
  obtain ⟨N, hN⟩ : ∃ N, N = L.length := ⟨_, rfl⟩
  rw [← hN] at HI HCK HRCK HOLL HRLL HO1 HO2 HK1 HK2 ⊢
  have HN := Lib.hid hN
  clear hN
  by_cases h20 : N ≤ 20
  · have j1 : ¬ (20 : Int) < (N : Int) := by omega
    go_enter Tryd.func3, Tryd.ntmps3
    go_wp2_with fail
    refine (HCK.out _ (Below.refl _ _)).mono ?_
    rintro y_ w1 ⟨rfl, hb⟩
    have HBw1 := Lib.hid (hb)
    clear hb
    go_wp2_with fail
    refine (HRCK.out _ HBw1.out).mono ?_
    rintro y_ w2 ⟨rfl, hb⟩
    have HBw2 := Lib.hid (below_transG HBw1.out hb)
    clear hb
    go_wp2_with fail
    go_loopw [11] (fun i wr => ∃ I : Nat, i = .int .i64 (I : Int) ∧ I ≤ N ∧ Below w2.heap.size w2 wr) (fun i _ => N - (intOf i).toNat)
    case atStart => exact ⟨0, rfl, by omega, by first | exact Below.refl _ _ | exact (Below.refl _ _).drew⟩
    case round =>
      obtain ⟨i, rfl, hi, hB⟩ := hrel
      have HB := Lib.hid (HBw2.out.trans (hB.mono HBw2.out.size)); have HBW := Lib.hid hB
      clear hB
      have i3 : (0 : Int) ≤ (i : Int) := by omega
      by_cases hlt : i < N
      · have i1 : (i : Int) < (N : Int) := by omega
        have hiL : i < L.length := by have := HN.out; omega
        obtain ⟨g, off, rfl, hg, hc⟩ := Sts.spot (HI.out wr HB.out) (show 0 < L.length by omega)
        obtain ⟨y, hy⟩ : ∃ y, y = L[i] := ⟨_, rfl⟩
        have HZ := Lib.hid (show ∀ x, Below wr.heap.size wr x → Below wr.heap.size wr x ∧ x.cell? ⟨g, off + i * 7, none⟩ = some (.int .i64 y.i) ∧ x.cell? ⟨g, off + i * 7 + 1, none⟩ = some (.int .i64 y.n) ∧ x.cell? ⟨g, off + i * 7 + 2, none⟩ = some (.int .i64 y.c) ∧ x.cell? ⟨g, off + i * 7 + 3, none⟩ = some (.int .i64 y.p) ∧ x.cell? ⟨g, off + i * 7 + 4, none⟩ = some (.int .i64 y.d) ∧ x.cell? ⟨g, off + i * 7 + 5, none⟩ = some (.int .i64 y.s) ∧ x.cell? ⟨g, off + i * 7 + 6, none⟩ = some (.int .i64 y.b) from fun x hx => by
          have hcx : ∀ q v, (y.C)[q]? = some v → x.cell? ⟨g, off + i * 7 + q, none⟩ = some v := fun q v hv => (hx.cell (p := ⟨g, off + i * 7 + q, none⟩) hg).trans (hc i hiL q v (by rw [← hy]; exact hv))
          exact ⟨hx, hcx 0 _ rfl, hcx 1 _ rfl, hcx 2 _ rfl, hcx 3 _ rfl, hcx 4 _ rfl, hcx 5 _ rfl, hcx 6 _ rfl⟩)
        have HR1 := Lib.hid (fun u => sright_any y.i y.n y.c y.p y.d y.s y.b u); have HR2 := Lib.hid (fun u => rsright_any y.i y.n y.c y.p y.d y.s y.b u)
        have HC1 := Lib.hid (fun u p q => scost_any y.i y.n y.c y.p y.d y.s y.b u p q); have HC2 := Lib.hid (fun u => rscost_any y.i y.n y.c y.p y.d y.s y.b u)
        have HTR := Lib.hid (show ∀ x, Below wr.heap.size wr x → 0 < x.heap.size ∧ Tab x from fun x hx => HTX.out x (below_transG HB.out hx))
        obtain ⟨r, hr⟩ : ∃ r, r = rightS y.i y.n y.c y.p y.d y.s y.b := ⟨_, rfl⟩
        obtain ⟨k, hk⟩ : ∃ r, r = costS y.i y.n y.c y.p y.d y.s y.b := ⟨_, rfl⟩
        rw [← hr] at HR1 HR2
        rw [← hk] at HC1 HC2
        clear hc hy hg hiL hr hk
        go_upto_region 10 with fail
        refine wp_region_class (C := fun x => Below wr.heap.size wr x ∧ x.cell? ⟨g, off + i * 7, none⟩ = some (.int .i64 y.i) ∧ x.cell? ⟨g, off + i * 7 + 1, none⟩ = some (.int .i64 y.n) ∧ x.cell? ⟨g, off + i * 7 + 2, none⟩ = some (.int .i64 y.c) ∧ x.cell? ⟨g, off + i * 7 + 3, none⟩ = some (.int .i64 y.p) ∧ x.cell? ⟨g, off + i * 7 + 4, none⟩ = some (.int .i64 y.d) ∧ x.cell? ⟨g, off + i * 7 + 5, none⟩ = some (.int .i64 y.s) ∧ x.cell? ⟨g, off + i * 7 + 6, none⟩ = some (.int .i64 y.b)) (by kernel_rfl) (by kernel_rfl) (HZ.out _ (Below.refl _ _).drew) ?_
        repeat
          with_reducible refine wpQuiet_step (fun K hK => ?_)
          first
            | (refine quiet_skip (by rfl) ?_; (with_reducible refine hK _ ?_); clear hK K)
            | (refine quiet_want (by rfl) ?_
               apply Exists.intro
               refine ⟨fun x hx => ?_, hK _ ?_⟩
               (obtain ⟨_, hx1, hx2, hx3, hx4, hx5, hx6, hx7⟩ := id hx; go_simp; first | done | rfl | (first | (go_at_call 14; with_reducible exact Calls.mono (HR1.out _) (fun y w' hh => ⟨hh.1, HZ.out _ (below_transG hx.1 hh.2)⟩)) | (go_at_call 15; with_reducible exact Calls.mono (HR2.out _) (fun y w' hh => ⟨hh.1, HZ.out _ (below_transG hx.1 hh.2)⟩)) | (go_at_call 16; with_reducible exact Calls.mono (HC1.out _ (HTR.out _ hx.1).1 (HTR.out _ hx.1).2) (fun y w' hh => ⟨hh.1, HZ.out _ (below_transG hx.1 hh.2)⟩)) | (go_at_call 17; with_reducible exact Calls.mono (HC2.out _) (fun y w' hh => ⟨hh.1, HZ.out _ (below_transG hx.1 hh.2)⟩))))
               clear hK K)
          try simp only [Act.put, List.setIfInBounds_toArray, List.set_cons_zero, List.set_cons_succ]
        with_reducible refine wpQuiet_nil ?_
        intro wq hq
        have HB7 := Lib.hid (HBW.out.trans (hq.1.mono HBW.out.size))
        obtain ⟨W7, hW7⟩ : ∃ W7, W7 = wq := ⟨_, rfl⟩
        rw [← hW7]; rw [← hW7] at HB7
        clear hq HZ hW7
        go_wp2_with fail
        go_roundw
        case rel => exact ⟨i + 1, by simp, by omega, by first | exact HB7.out | exact HB7.out.drew⟩
        case measure => simp [intOf]; omega
      · have i1 : ¬ (i : Int) < (N : Int) := by omega
        have HN20 := Lib.hid (show N ≤ 1000000 by omega)
        have HLS := Lib.hid (show L.length ≤ 1000000 by have := HN.out; omega)
        go_wp2_with fail
        refine (live25 _ (HTX.out _ HB.out).1 (HTX.out _ HB.out).2).mono ?_
        rintro y_ w4 ⟨rfl, hb⟩
        have HBw4 := Lib.hid (below_transG HB.out hb)
        clear hb
        go_wp2_with fail
        have HF := Lib.hid (sfind_any a N cap L idn (by have := HLS.out; omega) w4 (HI.out w4 HBw4.out))
        refine (HF.out).mono ?_
        rintro y_ w5 ⟨rfl, hb⟩
        have HBw5 := Lib.hid (below_transG HBw4.out hb)
        clear hb
        go_wp2_with fail
        have HF2 := Lib.hid (rsfind_any a N cap L idn (by have := HLS.out; omega) w5 (HI.out w5 HBw5.out))
        refine (HF2.out).mono ?_
        rintro y_ w6 ⟨rfl, hb⟩
        have HBw6 := Lib.hid (below_transG HBw5.out hb)
        clear hb
        go_wp2_with fail
        refine (HO1.out HN20.out w6 HBw6.out).mono ?_
        rintro y_ w7 ⟨v7, rfl, hrow, hb⟩
        obtain ⟨hq_, hS_, a7, c7, rfl⟩ := Sts.of_own hrow
        have HSw7 := Lib.hid hS_; have HDw7 := Lib.hid hb
        have HBw7 := Lib.hid (below_transG HBw6.out hb)
        clear hb hS_ hq_ hrow
        go_wp2_with fail
        refine (HO2.out HN20.out w7 HBw7.out).mono ?_
        rintro y_ w8 ⟨v8, rfl, hrow, hb⟩
        obtain ⟨hq_, hS_, a8, c8, rfl⟩ := Sts.of_own hrow
        have HSw8 := Lib.hid hS_; have HDw8 := Lib.hid hb
        have HBw8 := Lib.hid (below_transG HBw7.out hb)
        clear hb hS_ hq_ hrow
        go_wp2_with fail
        refine (rssame_eq a7 a8 c7 c8 OL (by have := HOLL.out; omega) w8 (((HSw7.out).below HDw8.out).mono HDw8.out.size) HSw8.out).mono ?_
        rintro y_ w9 ⟨rfl, hb⟩
        have HBw9 := Lib.hid (below_transG HBw8.out hb)
        clear hb
        go_wp2_with fail
        refine (HK1.out HN20.out w9 HBw9.out).mono ?_
        rintro y_ w10 ⟨v10, rfl, hrow, hb⟩
        obtain ⟨hq_, hS_, a10, c10, rfl⟩ := Sts.of_own hrow
        have HSw10 := Lib.hid hS_; have HDw10 := Lib.hid hb
        have HBw10 := Lib.hid (below_transG HBw9.out hb)
        clear hb hS_ hq_ hrow
        go_wp2_with fail
        refine (HK2.out HN20.out w10 HBw10.out).mono ?_
        rintro y_ w11 ⟨v11, rfl, hrow, hb⟩
        obtain ⟨hq_, hS_, a11, c11, rfl⟩ := Sts.of_own hrow
        have HSw11 := Lib.hid hS_; have HDw11 := Lib.hid hb
        have HBw11 := Lib.hid (below_transG HBw10.out hb)
        clear hb hS_ hq_ hrow
        go_wp2_with fail
        refine (rssame_eq a10 a11 c10 c11 RL (by have := HRLL.out; omega) w11 (((HSw10.out).below HDw11.out).mono HDw11.out.size) HSw11.out).mono ?_
        rintro y_ w12 ⟨rfl, hb⟩
        have HBw12 := Lib.hid (below_transG HBw11.out hb)
        clear hb
        go_wp2_with fail
        go_ret
        exact ⟨rfl, by first | exact HBw12.out | exact HBw12.out.drew⟩
  · have j1 : (20 : Int) < (N : Int) := by omega
    by_cases h64 : N ≤ 64
    · have j2 : (N : Int) ≤ 64 := by omega
      go_enter Tryd.func3, Tryd.ntmps3
      go_wp2_with fail
      refine (live25 _ (HTX.out _ (Below.refl _ _)).1 (HTX.out _ (Below.refl _ _)).2).mono ?_
      rintro y_ w1 ⟨rfl, hb⟩
      have HBw1 := Lib.hid (hb)
      clear hb
      go_wp2_with fail
      go_ret
      exact ⟨rfl, by first | exact HBw1.out | exact HBw1.out.drew⟩
    · have j2 : ¬ (N : Int) ≤ 64 := by omega
      go_enter Tryd.func3, Tryd.ntmps3
      go_wp2_with fail
      refine (HCK.out _ (Below.refl _ _)).mono ?_
      rintro y_ w1 ⟨rfl, hb⟩
      have HBw1 := Lib.hid (hb)
      clear hb
      go_wp2_with fail
      refine (HRCK.out _ HBw1.out).mono ?_
      rintro y_ w2 ⟨rfl, hb⟩
      have HBw2 := Lib.hid (below_transG HBw1.out hb)
      clear hb
      go_wp2_with fail
      refine (live25 _ (HTX.out _ HBw2.out).1 (HTX.out _ HBw2.out).2).mono ?_
      rintro y_ w3 ⟨rfl, hb⟩
      have HBw3 := Lib.hid (below_transG HBw2.out hb)
      clear hb
      go_wp2_with fail
      go_ret
      exact ⟨rfl, by first | exact HBw3.out | exact HBw3.out.drew⟩
theorem door_met (os : Os) (args : Array Value) : laidMetH Tryd.prog laidD ((World.doorLaid Tryd.prog 400 os).forCall (fun _ _ => 0) ⟨#[], args, []⟩).memory :=
  laidMetH_of_parts3 (fuel := 8) (laidMet_of_run' 8 (by kernel_rfl) (by kernel_rfl)) (by kernel_rfl) (by kernel_rfl)
set_option maxRecDepth 100000 in
theorem lifted (os : Os) (started : os.Started) (H : Type) (enc : TypeId × Value → H) :
    ReturnsInHanded {} Tryd.checked os 3 .any (fun w args => (Rows.streamChecksSpec.pre enc Tryd.prog Tryd.f3 [] false w args ∧ laidMetH Tryd.prog laidD w) ∧ sizedMet enc Tryd.prog Tryd.f3 (OpenSpec.ofChange Rows.streamChecksSpec) false w args)
      (Rows.streamChecksSpec.post enc Tryd.prog Tryd.f3 false true false false) := by
  refine returnsInHanded_of_change_and (C := Tryd.checked) (X := fun w _ => laidMetH Tryd.prog laidD w) (fun _ _ _ hh h => h.of_heap hh) own started (by kernel_rfl) Tryd.func3
    (ChangeSpec.witness_shaped (enc := enc) (C := Tryd.checked) (os := os) (X := fun w _ => laidMetH Tryd.prog laidD w) false (World.doorLaid Tryd.prog 400 os) #[.slice none 0 0, .int .i64 0, .int .i64 0] 8 rfl (World.shaped_of_RefB (by kernel_rfl) (by kernel_rfl)) (by kernel_rfl) (by kernel_rfl) (by kernel_rfl) (door_met os _)) ?_
  intro W base args ds gs before hval0 hW _ _ hL _
  have hval : ∀ (j : Nat) t v, Tryd.f3.params[j]? = some t → args[j]? = some v → Value.okWide Tryd.prog W .any base t v := hval0
  have hW' := hW
  obtain ⟨p, q, hA0, hV, rfl, hfz, hnd⟩ := hW
  have hA : DataW.TrodAll enc Tryd.prog W 0 (fun _ => true) true Tryd.f3.params.toList args.toList ds p := hA0
  rw [Tryd.params3] at hA hval
  obtain ⟨v0, vs0, d0, ds0, p0, q0, hargs, rfl, rfl, h0, r0⟩ := trodAll_cons hA
  obtain ⟨v1, vs1, d1, ds1, p1, q1, rfl, rfl, rfl, h1, r1⟩ := trodAll_cons r0
  obtain ⟨v2, vs2, d2, ds2, p2, q2, rfl, rfl, rfl, h2, r2⟩ := trodAll_cons r1
  obtain ⟨rfl, rfl, rfl⟩ := trodAll_nil r2
  obtain rfl : args = #[v0, v1, v2] := by cases args; simp_all
  obtain ⟨rfl, rfl⟩ := trodVars_none hV
  obtain ⟨a0, len0, cap0, rfl⟩ := okWide_slice Tryd.underlying22 (hval 0 22 v0 rfl rfl)
  have k0 := h0
  have lt0 : ∀ x ∈ p0, x.block < W.heap.size := by obtain ⟨m, hm⟩ := k0; exact DataW.trod_lt m _ _ _ hm
  obtain ⟨L0, wl0, ww0, wr0⟩ : ∃ L : List Sm, L.length = len0 ∧ (∀ s ∈ L, Sm.wf s) ∧ Rd W 7 (.slice a0 len0 cap0) (L.flatMap Sm.C) := by
    obtain ⟨fuel, hf⟩ := h0
    exact open_rows Sm.C Sm.wf 7 (by decide) Tryd.underlying22 (by kernel_rfl) (fun _ => rfl) (fun _ _ _ => streamG) (by simpa [Value.cells] using hf)
  obtain ⟨a1, rfl, rfl, rfl, w1⟩ := open_int Tryd.underlying2 (hval 1 2 v1 rfl rfl) h1
  obtain ⟨a2, rfl, rfl, rfl, w2⟩ := open_int Tryd.underlying3 (hval 2 3 v2 rfl rfl) h2
  clear hA0 hval0
  obtain ⟨hTab, hsz0⟩ := tab_of_laid hL
  refine (walk a0 len0 cap0 L0 a1 a2 W ⟨wl0, ww0, wr0⟩ w1 w2 hsz0 hTab).mono fun e W' ⟨he, bel⟩ => ?_
  subst he
  exact ⟨_, rfl, _, _, _, [], _, [], hW', trodAll_mk1 (shut_bool Tryd.underlying4 _), (trodAll_cons_mk (Below.trod laidOut (by kernel_rfl) (of_decide_eq_true (by kernel_rfl)) k0 bel lt0) (trodAll_cons_mk (shut_int Tryd.underlying2 w1) (trodAll_cons_mk (shut_int Tryd.underlying3 w2) trodAll_mk0))), rfl, bel.frame _, fun h => by cases h⟩
theorem over : Rows.streamChecksRow.holds Tryd.pinned (OpenSpec.ofChange Rows.streamChecksSpec) :=
  OpenClaim.holds_of_wide 3 Tryd.f3 rfl rfl rfl rfl rfl rfl rfl ⟨rfl, rfl, rfl, rfl, rfl⟩ rfl rfl rfl rfl rfl (by kernel_rfl) Tryd.func3 (by kernel_rfl)
    (of_decide_eq_true (by kernel_rfl)) (by unfold Func.isWrapper; first | (rw [if_pos (by decide +kernel)]; kernel_rfl) | (rw [if_neg (by decide +kernel)]; exact ⟨rfl, rfl⟩))
    (fun os started H enc _ => lifted os started H enc)
/-- The statement: the row, and what it lists tied to the program's text. -/
theorem proved : Rows.StreamChecksCardSaid :=
  Claim7.holds_tied_plain_at .later [] [.data] true _ false
    over (fun _ h => by cases h) (by kernel_rfl) (fun _ h => by cases h) streamChecks_row_tie rfl ⟨rfl, rfl⟩ (by kernel_rfl) rfl
    (fun f fn hf hfn => by
      obtain rfl : f = 3 := Option.some.inj ((show Tryd.prog.funcNamed "bellbuoy/bellbuoylaw25.StreamChecks" = some 3 by kernel_rfl).symm.trans hf) |>.symm
      obtain rfl : fn = Tryd.f3 := (Option.some.inj (Tryd.func3.symm.trans hfn)).symm
      exact ⟨by kernel_rfl, fun j t ht => by
        rw [Tryd.params3] at ht
        have hm : t ∈ [22, 2, 3] := by simpa using Array.mem_of_getElem? ht
        have hall : ([22, 2, 3].all fun u => !Tryd.prog.wantsStandIn u) = true := by kernel_rfl
        exact (show Tryd.prog.wantsStandIn t = false by simpa using List.all_eq_true.1 hall t hm)⟩)
    (by kernel_rfl)
end Go.Proofs.YtolhckahphmffaaDoor.streamChecks
