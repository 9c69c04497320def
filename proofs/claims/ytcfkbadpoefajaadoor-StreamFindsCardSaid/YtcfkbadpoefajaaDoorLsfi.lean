/- StreamFinds (P25.5): each stream is found, and is one of its node's. Conditions: none but the divisor's table, which the card ties. -/
import Derived.Test.YtcfkbadpoefajaaDoorRows
import Derived.Test.YtcfkbadpoefajaaDoorSmt
import Derived.Test.YtcfkbadpoefajaaDoorSmp
import Derived.Test.YtcfkbadpoefajaaDoorOpr
import Derived.Test.YtcfkbadpoefajaaDoorCrt
import Derived.WalkKit
import Derived.ProofKit
import Derived.OpenShut
import Derived.ShutString
import Derived.ChangeOld
import Derived.Below
namespace Go.Proofs.YtcfkbadpoefajaaDoor.streamFinds
open Go.ChangeShapes Go.WideShapes Go.ChangeAt Go.RowKit
theorem own : ownKnob Tryd.prog.godebug = none := by kernel_rfl
theorem laidOut : laidOutB Tryd.prog = true := by kernel_rfl
/-- How many are of nodes below k. -/
def nB (F : List Sm) (k : Int) : Nat := (F.filter (fun x => decide (x.n < k))).length
theorem nB_0 {F : List Sm} (h : ∀ x ∈ F, 0 ≤ x.n) : nB F 0 = 0 := by
  unfold nB
  rw [List.filter_eq_nil_iff.2 (fun x hx => by have := h x hx; simp; omega)]; rfl
theorem nB_4 {F : List Sm} (h : ∀ x ∈ F, x.n < 4) : nB F 4 = F.length := by
  unfold nB
  rw [List.filter_eq_self.2 (fun x hx => by have := h x hx; simp; omega)]
theorem nB_succ (F : List Sm) (k : Int) : nB F (k + 1) = nB F k + (ofL F k).length := by
  unfold nB ofL
  induction F with
  | nil => rfl
  | cons x F ih =>
    by_cases h1 : x.n < k
    · rw [List.filter_cons_of_pos (by simp; omega), List.filter_cons_of_pos (by simpa using h1), List.filter_cons_of_neg (by simp; omega)]
      simp only [List.length_cons]; omega
    · by_cases h2 : x.n = k
      · rw [List.filter_cons_of_pos (by simp; omega), List.filter_cons_of_neg (by simpa using h1), List.filter_cons_of_pos (by simp [h2])]
        simp only [List.length_cons]; omega
      · rw [List.filter_cons_of_neg (by simp; omega), List.filter_cons_of_neg (by simpa using h1), List.filter_cons_of_neg (by simp [h2])]
        exact ih
theorem nB_le (F : List Sm) (k : Int) : nB F k ≤ F.length := List.length_filter_le _ _
theorem few_in {L : List Sm} {x : Sm} (h : x ∈ fewL L) : (0 ≤ x.n ∧ x.n < 4) ∧ findI (fewL L) x.i = x.i := by
  obtain ⟨j, hj, rfl⟩ := List.getElem_of_mem h
  unfold fewL at hj ⊢
  have e : ∀ q (hq : q < (fewK L (min L.length 6)).length), ((fewK L (min L.length 6))[q]).i = (q : Int) := fun q hq => by rw [fewK_at q hq]; rfl
  refine ⟨?_, ?_⟩
  · rw [fewK_at j hj]
    exact partI_in _ (by decide)
  · rw [e j hj]
    exact findI_some hj (e j hj) (fun q hq hqj => by rw [e q hq]; omega)
set_option maxRecDepth 100000 in
set_option maxHeartbeats 8000000 in
theorem walk (a : Option Addr) (len cap : Nat) (L : List Sm) (w : World) (hw : L.length = len ∧ (∀ s ∈ L, s.wf) ∧ Rd w 7 (.slice a len cap) (L.flatMap Sm.C)) (h0 : 0 < w.heap.size) (hT : Tab w) : Calls Tryd.prog 6 #[.slice a len cap] w fun y w' => y = .returned (.bool true) ∧ Below w.heap.size w w' := by
  have hI := Sts.of_rd hw.2.2 hw.1
  have HTX := Lib.hid (show ∀ x, Below w.heap.size w x → 0 < x.heap.size ∧ Tab x from fun x hx => ⟨Nat.lt_of_lt_of_le h0 hx.size, hT.on hx h0⟩)
  have HFEW := Lib.hid (sfew_any a len cap L w hI)
  clear hT h0 hI hw
  obtain ⟨F, hF⟩ : ∃ F, F = fewL L := ⟨_, rfl⟩
  have HFI := Lib.hid (show ∀ x ∈ F, (0 ≤ x.n ∧ x.n < 4) ∧ findI F x.i = x.i from fun x hx => by rw [hF] at hx ⊢; exact few_in hx)
  have HL6 := Lib.hid (show F.length ≤ 6 by rw [hF]; unfold fewL; rw [fewK_len]; omega)
  rw [← hF] at HFEW
  clear hF
  go_enter Tryd.func6, Tryd.ntmps6
  go_wp2_with fail
  refine HFEW.out.mono ?_
  rintro e w1 ⟨v, rfl, hrow, hb1⟩
  obtain ⟨_, hS, a0, c0, rfl⟩ := Sts.of_own hrow
  have HS := Lib.hid hS; have HB1 := Lib.hid hb1
  clear hS hb1 hrow HFEW
  go_wp2_with fail
  go_loopw [3, 4] (fun n k wr => ∃ K : Nat, k = .int .i64 (K : Int) ∧ K ≤ 4 ∧ n = .int .i64 (nB F K : Int) ∧ Below w1.heap.size w1 wr) (fun _ k _ => 4 - (intOf k).toNat)
  case atStart => exact ⟨0, rfl, by omega, by rw [show ((0 : Nat) : Int) = 0 from rfl, nB_0 (fun x hx => (HFI.out x hx).1.1)]; rfl, by first | exact Below.refl _ _ | exact (Below.refl _ _).drew⟩
  case round =>
    obtain ⟨k, rfl, hk, rfl, hB⟩ := hrel
    have HB := Lib.hid hB
    clear hB
    have i3 : (0 : Int) ≤ (k : Int) := by omega
    obtain ⟨m, hm⟩ : ∃ m, m = nB F k := ⟨_, rfl⟩
    rw [← hm]
    have HM := Lib.hid hm
    clear hm
    by_cases hlt : k < 4
    · have i1 : (k : Int) < 4 := by omega
      have HOF := Lib.hid (show ∀ u, Below wr.heap.size wr u → Calls Tryd.prog 24 #[.slice a0 F.length c0, .int .i64 (k : Int)] u fun e W' => ∃ v, e = .returned v ∧ W'.ownsRow u.heap.size 30 7 v (ofL F k).length ((ofL F k).flatMap Sm.C) ∧ Below u.heap.size u W' from fun u hu => sof_any a0 F.length c0 F k (by have := HL6.out; omega) u ((HS.out.below (HB.out.trans (hu.mono HB.out.size))).mono (by have := HB.out.size; have := hu.size; omega)))
      go_wp2_with fail
      refine (HOF.out _ (by first | exact Below.refl _ _ | exact (Below.refl _ _).drew)).mono ?_
      rintro e w2 ⟨v, rfl, hrow, hb2⟩
      obtain ⟨_, hS2, a2, c2, rfl⟩ := Sts.of_own hrow
      have HS2 := Lib.hid hS2; have HB2 := Lib.hid (HB.out.trans (hb2.mono HB.out.size))
      clear hS2 hb2 hrow HOF HB
      obtain ⟨N, hN⟩ : ∃ N, N = (ofL F k).length := ⟨_, rfl⟩
      rw [← hN]
      have HN := Lib.hid hN
      have HMN := Lib.hid (show m + N ≤ 6 by have h1 := nB_succ F k; have h2 := nB_le F (k + 1); have h3 := HL6.out; rw [← HM.out, ← hN] at h1; omega)
      clear hN
      have HW3 := Lib.hid (show wrap64 ((m : Int) + (N : Int)) = (m : Int) + (N : Int) by have := HMN.out; unfold wrap64; omega)
      go_wp2_with fail
      go_loopw [6] (fun i wr => ∃ I : Nat, i = .int .i64 (I : Int) ∧ I ≤ N ∧ Below w2.heap.size w2 wr) (fun i _ => N - (intOf i).toNat)
      case atStart => exact ⟨0, rfl, by omega, by first | exact Below.refl _ _ | exact (Below.refl _ _).drew⟩
      case round =>
        obtain ⟨i, rfl, hi, hB⟩ := hrel
        have HB := Lib.hid hB
        clear hB
        have j0 : (0 : Int) ≤ (i : Int) := by omega
        by_cases hlt2 : i < N
        · have j1 : (i : Int) < (N : Int) := by omega
          have HJ2 := Lib.hid (show wrap64 ((i : Int) + 1) = (i : Int) + 1 by have := HMN.out; unfold wrap64; omega)
          have hiN : i < (ofL F k).length := by have := HN.out; omega
          obtain ⟨y, hy⟩ : ∃ y, y = (ofL F k)[i] := ⟨_, rfl⟩
          have hym : y ∈ ofL F k := by rw [hy]; exact List.getElem_mem _
          have hyF : y ∈ F ∧ y.n = k := by unfold ofL at hym; have h := List.mem_filter.1 hym; exact ⟨h.1, by simpa using h.2⟩
          obtain ⟨g, off, rfl, hc⟩ : ∃ g off, a2 = some ⟨g, off, none⟩ ∧ ∀ u, Below wr.heap.size wr u → u.cell? ⟨g, off + i * 7, none⟩ = some (.int .i64 y.i) ∧ u.cell? ⟨g, off + i * 7 + 1, none⟩ = some (.int .i64 (k : Int)) := by
            rcases HS2.out with ⟨_, _, _, e⟩ | ⟨g, off, _, e, hg, hc⟩
            · rw [e] at hiN; cases hiN
            · injection e with e1 _ _
              refine ⟨g, off, e1, fun u hu => ?_⟩
              have hbu : Below w2.heap.size w2 u := HB.out.trans (hu.mono HB.out.size)
              refine ⟨(hbu.cell (p := ⟨g, off + i * 7, none⟩) hg).trans (hc i hiN 0 _ (by rw [← hy]; rfl)), (hbu.cell (p := ⟨g, off + i * 7 + 1, none⟩) hg).trans (hc i hiN 1 _ ?_)⟩
              rw [← hy, ← hyF.2]; rfl
          have hfi := (HFI.out y hyF.1).2
          obtain ⟨q, hq⟩ : ∃ q, q = y.i := ⟨_, rfl⟩
          rw [← hq] at hc hfi
          have HC := Lib.hid hc
          have HFND := Lib.hid (show ∀ u, Below wr.heap.size wr u → Calls Tryd.prog 21 #[.slice a0 F.length c0, .int .i64 q] u fun e W' => e = .returned (.int .i64 q) ∧ Below u.heap.size u W' from fun u hu => by
            have h := sfind_any a0 F.length c0 F q (by have := HL6.out; omega) u ((HS.out.below (HB2.out.trans ((HB.out.trans (hu.mono HB.out.size)).mono HB2.out.size))).mono (by have := HB2.out.size; have := HB.out.size; have := hu.size; omega))
            rw [hfi] at h
            exact h)
          clear hc hfi hq hyF hym hy hiN
          go_upto_region 11 with fail
          have HZ := Lib.hid (show ∀ x, Below wr.heap.size wr x → Below wr.heap.size wr x ∧ x.cell? ⟨g, off + i * 7, none⟩ = some (.int .i64 q) ∧ x.cell? ⟨g, off + i * 7 + 1, none⟩ = some (.int .i64 (k : Int)) from fun x hx => ⟨hx, HC.out x hx⟩)
          refine wp_region_class (C := fun x => Below wr.heap.size wr x ∧ x.cell? ⟨g, off + i * 7, none⟩ = some (.int .i64 q) ∧ x.cell? ⟨g, off + i * 7 + 1, none⟩ = some (.int .i64 (k : Int))) (by kernel_rfl) (by kernel_rfl) (HZ.out _ (Below.refl _ _).drew) ?_
          repeat
            with_reducible refine wpQuiet_step (fun K hK => ?_)
            first
              | (refine quiet_skip (by rfl) ?_; (with_reducible refine hK _ ?_); clear hK K)
              | (refine quiet_want (by rfl) ?_
                 apply Exists.intro
                 refine ⟨fun x hx => ?_, hK _ ?_⟩
                 (obtain ⟨_, hx1, hx2⟩ := id hx; go_simp; first | done | rfl | (first | (go_at_call 21; with_reducible exact Calls.mono (HFND.out _ hx.1) (fun y w' hh => ⟨hh.1, HZ.out _ (below_transG hx.1 hh.2)⟩))))
                 clear hK K)
            try simp only [Act.put, List.setIfInBounds_toArray, List.set_cons_zero, List.set_cons_succ]
          with_reducible refine wpQuiet_nil ?_
          intro wq hq
          have HB7 := Lib.hid (HB.out.trans (hq.1.mono HB.out.size))
          obtain ⟨W7, hW7⟩ : ∃ W7, W7 = wq := ⟨_, rfl⟩
          rw [← hW7]; rw [← hW7] at HB7
          clear hq HZ hW7
          go_wp2_with fail
          go_roundw
          case rel => exact ⟨i + 1, by simp [HJ2.out], by omega, by first | exact HB7.out | exact HB7.out.drew⟩
          case measure =>
            have hms : N - (i + 1) < N - i := by omega
            have hmt : N - (intOf (.int .i64 (wrap64 ((i : Int) + 1)))).toNat < N - (intOf (.int .i64 (i : Int))).toNat := by
              rw [HJ2.out]
              exact hms
            exact hmt
        · have j1 : ¬ (i : Int) < (N : Int) := by omega
          have HB7 := Lib.hid (HB2.out.trans (HB.out.mono HB2.out.size))
          go_wp2_with fail
          go_roundw
          case rel => exact ⟨k + 1, by simp, by omega, by rw [show ((k + 1 : Nat) : Int) = (k : Int) + 1 by omega, nB_succ, ← HM.out, ← HN.out]; simp [HW3.out], by first | exact HB7.out | exact HB7.out.drew⟩
          case measure => simp [intOf]; omega
    · have i1 : ¬ (k : Int) < 4 := by omega
      have hk4 : k = 4 := by omega
      have HE := Lib.hid (show m = F.length by rw [HM.out, hk4]; exact nB_4 (fun x hx => (HFI.out x hx).1.2))
      go_wp2_with fail
      refine (live25 _ (HTX.out _ (HB1.out.trans (HB.out.mono HB1.out.size))).1 (HTX.out _ (HB1.out.trans (HB.out.mono HB1.out.size))).2).mono ?_
      rintro e w4 ⟨rfl, hb4⟩
      have HB4 := Lib.hid (below_transG (HB1.out.trans (HB.out.mono HB1.out.size)) hb4)
      have e1 : ((m : Int) == (F.length : Int)) = true := by rw [HE.out]; simp
      clear hb4
      go_wp2_with fail
      go_ret
      exact ⟨rfl, by first | exact HB4.out | exact HB4.out.drew⟩
theorem door_met (os : Os) (args : Array Value) : laidMetH Tryd.prog laidD ((World.doorLaid Tryd.prog 400 os).forCall (fun _ _ => 0) ⟨#[], args, []⟩).memory :=
  laidMetH_of_parts3 (fuel := 8) (laidMet_of_run' 8 (by kernel_rfl) (by kernel_rfl)) (by kernel_rfl) (by kernel_rfl)
set_option maxRecDepth 100000 in
theorem lifted (os : Os) (started : os.Started) (H : Type) (enc : TypeId × Value → H) :
    ReturnsInHanded {} Tryd.checked os 6 .any (fun w args => (Rows.streamFindsSpec.pre enc Tryd.prog Tryd.f6 [] false w args ∧ laidMetH Tryd.prog laidD w) ∧ sizedMet enc Tryd.prog Tryd.f6 (OpenSpec.ofChange Rows.streamFindsSpec) false w args)
      (Rows.streamFindsSpec.post enc Tryd.prog Tryd.f6 false true false false) := by
  refine returnsInHanded_of_change_and (C := Tryd.checked) (X := fun w _ => laidMetH Tryd.prog laidD w) (fun _ _ _ hh h => h.of_heap hh) own started (by kernel_rfl) Tryd.func6
    (ChangeSpec.witness_shaped (enc := enc) (C := Tryd.checked) (os := os) (X := fun w _ => laidMetH Tryd.prog laidD w) false (World.doorLaid Tryd.prog 400 os) #[.slice none 0 0] 8 rfl (World.shaped_of_RefB (by kernel_rfl) (by kernel_rfl)) (by kernel_rfl) (by kernel_rfl) (by kernel_rfl) (door_met os _)) ?_
  intro W base args ds gs before hval0 hW _ _ hL _
  have hval : ∀ (j : Nat) t v, Tryd.f6.params[j]? = some t → args[j]? = some v → Value.okWide Tryd.prog W .any base t v := hval0
  have hW' := hW
  obtain ⟨p, q, hA0, hV, rfl, hfz, hnd⟩ := hW
  have hA : DataW.TrodAll enc Tryd.prog W 0 (fun _ => true) true Tryd.f6.params.toList args.toList ds p := hA0
  rw [Tryd.params6] at hA hval
  obtain ⟨v0, vs0, d0, ds0, p0, q0, hargs, rfl, rfl, h0, r0⟩ := trodAll_cons hA
  obtain ⟨rfl, rfl, rfl⟩ := trodAll_nil r0
  obtain rfl : args = #[v0] := by cases args; simp_all
  obtain ⟨rfl, rfl⟩ := trodVars_none hV
  obtain ⟨a0, len0, cap0, rfl⟩ := okWide_slice Tryd.underlying22 (hval 0 22 v0 rfl rfl)
  have k0 := h0
  have lt0 : ∀ x ∈ p0, x.block < W.heap.size := by obtain ⟨m, hm⟩ := k0; exact DataW.trod_lt m _ _ _ hm
  obtain ⟨L0, wl0, ww0, wr0⟩ : ∃ L : List Sm, L.length = len0 ∧ (∀ s ∈ L, Sm.wf s) ∧ Rd W 7 (.slice a0 len0 cap0) (L.flatMap Sm.C) := by
    obtain ⟨fuel, hf⟩ := h0
    exact open_rows Sm.C Sm.wf 7 (by decide) Tryd.underlying22 (by kernel_rfl) (fun _ => rfl) (fun _ _ _ => streamG) (by simpa [Value.cells] using hf)
  clear hA0 hval0
  obtain ⟨hTab, hsz0⟩ := tab_of_laid hL
  refine (walk a0 len0 cap0 L0 W ⟨wl0, ww0, wr0⟩ hsz0 hTab).mono fun e W' ⟨he, bel⟩ => ?_
  subst he
  exact ⟨_, rfl, _, _, _, [], _, [], hW', trodAll_mk1 (shut_bool Tryd.underlying4 _), (trodAll_cons_mk (Below.trod laidOut (by kernel_rfl) (of_decide_eq_true (by kernel_rfl)) k0 bel lt0) trodAll_mk0), rfl, bel.frame _, fun h => by cases h⟩
theorem over : Rows.streamFindsRow.holds Tryd.pinned (OpenSpec.ofChange Rows.streamFindsSpec) :=
  OpenClaim.holds_of_wide 6 Tryd.f6 rfl rfl rfl rfl rfl rfl rfl ⟨rfl, rfl, rfl, rfl, rfl⟩ rfl rfl rfl rfl rfl (by kernel_rfl) Tryd.func6 (by kernel_rfl)
    (of_decide_eq_true (by kernel_rfl)) (by unfold Func.isWrapper; first | (rw [if_pos (by decide +kernel)]; kernel_rfl) | (rw [if_neg (by decide +kernel)]; exact ⟨rfl, rfl⟩))
    (fun os started H enc _ => lifted os started H enc)
/-- The statement: the row, and what it lists tied to the program's text. -/
theorem proved : Rows.StreamFindsCardSaid :=
  Claim7.holds_tied_plain_at .later [] [.data] true _ false
    over (fun _ h => by cases h) (by kernel_rfl) (fun _ h => by cases h) streamFinds_row_tie rfl ⟨rfl, rfl⟩ (by kernel_rfl) rfl
    (fun f fn hf hfn => by
      obtain rfl : f = 6 := Option.some.inj ((show Tryd.prog.funcNamed "bellbuoy/bellbuoylaw25.StreamFinds" = some 6 by kernel_rfl).symm.trans hf) |>.symm
      obtain rfl : fn = Tryd.f6 := (Option.some.inj (Tryd.func6.symm.trans hfn)).symm
      exact ⟨by kernel_rfl, fun j t ht => by
        rw [Tryd.params6] at ht
        have hm : t ∈ [22] := by simpa using Array.mem_of_getElem? ht
        have hall : ([22].all fun u => !Tryd.prog.wantsStandIn u) = true := by kernel_rfl
        exact (show Tryd.prog.wantsStandIn t = false by simpa using List.all_eq_true.1 hall t hm)⟩)
    (by kernel_rfl)
end Go.Proofs.YtcfkbadpoefajaaDoor.streamFinds
