/- StreamLater (P25.6): of jobs of one stream the later one is due later. Conditions: none but the divisor's table, which the card ties. -/
import Derived.Test.YtcfkbadpoefajaaDoorRows
import Derived.Test.YtcfkbadpoefajaaDoorSms
import Derived.Test.YtcfkbadpoefajaaDoorCrt
import Derived.WalkKit
import Derived.ProofKit
import Derived.OpenShut
import Derived.ShutString
import Derived.ChangeOld
import Derived.Below
namespace Go.Proofs.YtcfkbadpoefajaaDoor.streamLater
open Go.ChangeShapes Go.WideShapes Go.ChangeAt Go.RowKit
theorem own : ownKnob Tryd.prog.godebug = none := by kernel_rfl
theorem laidOut : laidOutB Tryd.prog = true := by kernel_rfl
set_option maxRecDepth 100000 in
set_option maxHeartbeats 8000000 in
theorem walk (s : Sm) (ta tb n : Int) (_ : s.wf) (wa : (Lit.int .u32 ta).wf = true) (wb : (Lit.int .u32 tb).wf = true) (wn : (Lit.int .u16 n).wf = true) (w : World) (h0 : 0 < w.heap.size) (hT : Tab w) : Calls Tryd.prog 7 #[s.v, .agg #[.int .u32 ta, .int .u32 tb], .int .u16 n] w fun y w' => y = .returned (.bool true) ∧ Below w.heap.size w w' := by
  have HTX := Lib.hid (show ∀ x, Below w.heap.size w x → 0 < x.heap.size ∧ Tab x from fun x hx => ⟨Nat.lt_of_lt_of_le h0 hx.size, hT.on hx h0⟩)
  have w0 : 0 ≤ ta ∧ ta ≤ 4294967295 := by
    have h : IntKind.u32.min ≤ ta ∧ ta ≤ IntKind.u32.max := by simpa [Lit.wf] using wa
    exact h
  have w1 : 0 ≤ tb ∧ tb ≤ 4294967295 := by
    have h : IntKind.u32.min ≤ tb ∧ tb ≤ IntKind.u32.max := by simpa [Lit.wf] using wb
    exact h
  have w2 : 0 ≤ n ∧ n ≤ 65535 := by
    have h : IntKind.u16.min ≤ n ∧ n ≤ IntKind.u16.max := by simpa [Lit.wf] using wn
    exact h
  have c1 : IntKind.i64.wrap ta = ta := by rw [IntKind.wrap_i64]; omega
  have c2 : IntKind.i64.wrap tb = tb := by rw [IntKind.wrap_i64]; omega
  have c3 : IntKind.i64.wrap n = n := by rw [IntKind.wrap_i64]; omega
  have HLT := Lib.hid (fun u p r => later_any (stF s 1) ta (ta + tb + 1) (n + 1) (stF_right s (by omega)).1 (stF_right s (by omega)).2.1 (stF_right s (by omega)).2.2 (by omega) (by omega) (by omega) u p r)
  have HST := Lib.hid (fun u => lstream_any s 1 u)
  have HW1 := Lib.hid (show IntKind.i64.wrap (IntKind.i64.wrap (ta + tb) + 1) = ta + tb + 1 by rw [IntKind.wrap_i64, IntKind.wrap_i64]; omega)
  have HW2 := Lib.hid (show IntKind.i64.wrap (n + 1) = n + 1 by rw [IntKind.wrap_i64]; omega)
  rw [← HW1.out, ← HW2.out] at HLT
  obtain ⟨V, hV⟩ : ∃ V, V = (stF s 1).v := ⟨_, rfl⟩
  rw [← hV] at HLT HST
  clear hT h0 wa wb wn w0 w1 w2 hV HW1 HW2
  unfold Sm.v at HST ⊢
  go_enter Tryd.func7, Tryd.ntmps7
  go_upto_region 1 with fail
  obtain ⟨W1, hW1⟩ : ∃ W, W = ((w.alloc (.cells #[.int .i64 s.i, .int .i64 s.n, .int .i64 s.c, .int .i64 s.p, .int .i64 s.d, .int .i64 s.s, .int .i64 s.b] 30)).alloc (.cells #[.int .u32 ta, .int .u32 tb] 52)) := ⟨_, rfl⟩
  have hbel_ : Below w.heap.size w W1 := by rw [hW1]; exact (((Below.refl w.heap.size w).alloc (Nat.le_refl w.heap.size) _).alloc (by have := (Nat.le_refl w.heap.size); simp only [World.size_alloc]; omega) _)
  have h_s : Blk W1 w.heap.size 30 [.int .i64 s.i, .int .i64 s.n, .int .i64 s.c, .int .i64 s.p, .int .i64 s.d, .int .i64 s.s, .int .i64 s.b] := by rw [hW1]; exact (blk_at (w) w.heap.size (by rfl) 30 [.int .i64 s.i, .int .i64 s.n, .int .i64 s.c, .int .i64 s.p, .int .i64 s.d, .int .i64 s.s, .int .i64 s.b]).keep ((Below.refl (w.heap.size + 1) _).alloc (by simp only [World.size_alloc]; omega) _) (by omega)
  have h_t : Blk W1 (w.heap.size + 1) 52 [.int .u32 ta, .int .u32 tb] := by rw [hW1]; exact (blk_at ((w.alloc (.cells #[.int .i64 s.i, .int .i64 s.n, .int .i64 s.c, .int .i64 s.p, .int .i64 s.d, .int .i64 s.s, .int .i64 s.b] 30))) (w.heap.size + 1) (by simp only [World.size_alloc]) 52 [.int .u32 ta, .int .u32 tb]).keep (Below.refl ((w.heap.size + 1) + 1) _) (by omega)
  rw [← hW1]
  have HB1 := Lib.hid hbel_
  have Hs1 := Lib.hid h_s
  have Ht1 := Lib.hid h_t
  clear hbel_ hW1  h_s h_t
  have s_0 : W1.cell? ⟨w.heap.size, 0, none⟩ = some (.int .i64 s.i) := Hs1.out.cellAt (i := 0) (by simp)
  have s_1 : W1.cell? ⟨w.heap.size, 1, none⟩ = some (.int .i64 s.n) := Hs1.out.cellAt (i := 1) (by simp)
  have s_2 : W1.cell? ⟨w.heap.size, 2, none⟩ = some (.int .i64 s.c) := Hs1.out.cellAt (i := 2) (by simp)
  have s_3 : W1.cell? ⟨w.heap.size, 3, none⟩ = some (.int .i64 s.p) := Hs1.out.cellAt (i := 3) (by simp)
  have s_4 : W1.cell? ⟨w.heap.size, 4, none⟩ = some (.int .i64 s.d) := Hs1.out.cellAt (i := 4) (by simp)
  have s_5 : W1.cell? ⟨w.heap.size, 5, none⟩ = some (.int .i64 s.s) := Hs1.out.cellAt (i := 5) (by simp)
  have s_6 : W1.cell? ⟨w.heap.size, 6, none⟩ = some (.int .i64 s.b) := Hs1.out.cellAt (i := 6) (by simp)
  have t_0 : W1.cell? ⟨(w.heap.size + 1), 0, none⟩ = some (.int .u32 ta) := Ht1.out.cellAt (i := 0) (by simp)
  have t_1 : W1.cell? ⟨(w.heap.size + 1), 1, none⟩ = some (.int .u32 tb) := Ht1.out.cellAt (i := 1) (by simp)
  go_upto_region 2 with fail
  clear s_0 s_1 s_2 s_3 s_4 s_5 s_6 t_0 t_1
  have HZ := Lib.hid (show ∀ x, Below W1.heap.size W1 x → Below W1.heap.size W1 x ∧ x.cell? ⟨w.heap.size, 0, none⟩ = some (.int .i64 s.i) ∧ x.cell? ⟨w.heap.size, 1, none⟩ = some (.int .i64 s.n) ∧ x.cell? ⟨w.heap.size, 2, none⟩ = some (.int .i64 s.c) ∧ x.cell? ⟨w.heap.size, 3, none⟩ = some (.int .i64 s.p) ∧ x.cell? ⟨w.heap.size, 4, none⟩ = some (.int .i64 s.d) ∧ x.cell? ⟨w.heap.size, 5, none⟩ = some (.int .i64 s.s) ∧ x.cell? ⟨w.heap.size, 6, none⟩ = some (.int .i64 s.b) ∧ x.cell? ⟨(w.heap.size + 1), 0, none⟩ = some (.int .u32 ta) ∧ x.cell? ⟨(w.heap.size + 1), 1, none⟩ = some (.int .u32 tb) from fun x hx => ⟨hx, (Hs1.out.keep hx Hs1.out.lt).cellAt (i := 0) (by simp), (Hs1.out.keep hx Hs1.out.lt).cellAt (i := 1) (by simp), (Hs1.out.keep hx Hs1.out.lt).cellAt (i := 2) (by simp), (Hs1.out.keep hx Hs1.out.lt).cellAt (i := 3) (by simp), (Hs1.out.keep hx Hs1.out.lt).cellAt (i := 4) (by simp), (Hs1.out.keep hx Hs1.out.lt).cellAt (i := 5) (by simp), (Hs1.out.keep hx Hs1.out.lt).cellAt (i := 6) (by simp), (Ht1.out.keep hx Ht1.out.lt).cellAt (i := 0) (by simp), (Ht1.out.keep hx Ht1.out.lt).cellAt (i := 1) (by simp)⟩)
  refine wp_region_class (C := fun x => Below W1.heap.size W1 x ∧ x.cell? ⟨w.heap.size, 0, none⟩ = some (.int .i64 s.i) ∧ x.cell? ⟨w.heap.size, 1, none⟩ = some (.int .i64 s.n) ∧ x.cell? ⟨w.heap.size, 2, none⟩ = some (.int .i64 s.c) ∧ x.cell? ⟨w.heap.size, 3, none⟩ = some (.int .i64 s.p) ∧ x.cell? ⟨w.heap.size, 4, none⟩ = some (.int .i64 s.d) ∧ x.cell? ⟨w.heap.size, 5, none⟩ = some (.int .i64 s.s) ∧ x.cell? ⟨w.heap.size, 6, none⟩ = some (.int .i64 s.b) ∧ x.cell? ⟨(w.heap.size + 1), 0, none⟩ = some (.int .u32 ta) ∧ x.cell? ⟨(w.heap.size + 1), 1, none⟩ = some (.int .u32 tb)) (by kernel_rfl) (by kernel_rfl) (HZ.out _ (Below.refl _ _).drew) ?_
  repeat
    with_reducible refine wpQuiet_step (fun K hK => ?_)
    first
      | (refine quiet_skip (by rfl) ?_; (with_reducible refine hK _ ?_); clear hK K)
      | (refine quiet_want (by rfl) ?_
         apply Exists.intro
         refine ⟨fun x hx => ?_, hK _ ?_⟩
         (obtain ⟨_, hx1, hx2, hx3, hx4, hx5, hx6, hx7, hx8, hx9⟩ := id hx; go_simp; first | done | rfl | (first | (go_at_call 37; with_reducible exact Calls.mono (HST.out _) (fun y w' hh => ⟨hh.1, HZ.out _ (below_transG hx.1 hh.2)⟩)) | (go_at_call 36; with_reducible exact Calls.mono (HLT.out _ (HTX.out _ (below_transG HB1.out hx.1)).1 (HTX.out _ (below_transG HB1.out hx.1)).2) (fun y w' hh => ⟨hh.1, HZ.out _ (below_transG hx.1 hh.2)⟩))))
         clear hK K)
    try simp only [Act.put, List.setIfInBounds_toArray, List.set_cons_zero, List.set_cons_succ]
  with_reducible refine wpQuiet_nil ?_
  intro wq hq
  have HB2 := Lib.hid (below_transG HB1.out hq.1)
  have Hs2 := Lib.hid (Hs1.out.keep hq.1 Hs1.out.lt)
  have Ht2 := Lib.hid (Ht1.out.keep hq.1 Ht1.out.lt)
  obtain ⟨W2, hW2⟩ : ∃ W, W = wq := ⟨_, rfl⟩
  rw [← hW2]
  rw [← hW2] at HB2
  rw [← hW2] at Hs2
  rw [← hW2] at Ht2
  clear hq HZ hW2
  go_wp2_with fail
  go_ret
  exact ⟨rfl, HB2.out⟩
theorem door_met (os : Os) (args : Array Value) : laidMetH Tryd.prog laidD ((World.doorLaid Tryd.prog 400 os).forCall (fun _ _ => 0) ⟨#[], args, []⟩).memory :=
  laidMetH_of_parts3 (fuel := 8) (laidMet_of_run' 8 (by kernel_rfl) (by kernel_rfl)) (by kernel_rfl) (by kernel_rfl)
set_option maxRecDepth 100000 in
theorem lifted (os : Os) (started : os.Started) (H : Type) (enc : TypeId × Value → H) :
    ReturnsInHanded {} Tryd.checked os 7 .any (fun w args => (Rows.streamLaterSpec.pre enc Tryd.prog Tryd.f7 [] false w args ∧ laidMetH Tryd.prog laidD w) ∧ sizedMet enc Tryd.prog Tryd.f7 (OpenSpec.ofChange Rows.streamLaterSpec) false w args)
      (Rows.streamLaterSpec.post enc Tryd.prog Tryd.f7 false true false false) := by
  refine returnsInHanded_of_change_and (C := Tryd.checked) (X := fun w _ => laidMetH Tryd.prog laidD w) (fun _ _ _ hh h => h.of_heap hh) own started (by kernel_rfl) Tryd.func7
    (ChangeSpec.witness_shaped (enc := enc) (C := Tryd.checked) (os := os) (X := fun w _ => laidMetH Tryd.prog laidD w) false (World.doorLaid Tryd.prog 400 os) #[.agg #[.int .i64 0, .int .i64 0, .int .i64 0, .int .i64 0, .int .i64 0, .int .i64 0, .int .i64 0], .agg #[.int .u32 0, .int .u32 0], .int .u16 0] 8 rfl (World.shaped_of_RefB (by kernel_rfl) (by kernel_rfl)) (by kernel_rfl) (by kernel_rfl) (by kernel_rfl) (door_met os _)) ?_
  intro W base args ds gs before hval0 hW _ _ hL _
  have hval : ∀ (j : Nat) t v, Tryd.f7.params[j]? = some t → args[j]? = some v → Value.okWide Tryd.prog W .any base t v := hval0
  have hW' := hW
  obtain ⟨p, q, hA0, hV, rfl, hfz, hnd⟩ := hW
  have hA : DataW.TrodAll enc Tryd.prog W 0 (fun _ => true) true Tryd.f7.params.toList args.toList ds p := hA0
  rw [Tryd.params7] at hA hval
  obtain ⟨v0, vs0, d0, ds0, p0, q0, hargs, rfl, rfl, h0, r0⟩ := trodAll_cons hA
  obtain ⟨v1, vs1, d1, ds1, p1, q1, rfl, rfl, rfl, h1, r1⟩ := trodAll_cons r0
  obtain ⟨v2, vs2, d2, ds2, p2, q2, rfl, rfl, rfl, h2, r2⟩ := trodAll_cons r1
  obtain ⟨rfl, rfl, rfl⟩ := trodAll_nil r2
  obtain rfl : args = #[v0, v1, v2] := by cases args; simp_all
  obtain ⟨rfl, rfl⟩ := trodVars_none hV
  have k0 := h0
  have lt0 : ∀ x ∈ p0, x.block < W.heap.size := by obtain ⟨m, hm⟩ := k0; exact DataW.trod_lt m _ _ _ hm
  obtain ⟨s0, rfl, ws0⟩ := open_stream (hval 0 30 v0 rfl rfl) h0
  have k1 := h1
  have lt1 : ∀ x ∈ p1, x.block < W.heap.size := by obtain ⟨m, hm⟩ := k1; exact DataW.trod_lt m _ _ _ hm
  obtain ⟨xa1, xb1, rfl, wa1, wb1⟩ := open_arr2u Tryd.underlying52 Tryd.underlying51 (by kernel_rfl) (by kernel_rfl) (hval 1 52 v1 rfl rfl) h1
  obtain ⟨a2, rfl, rfl, rfl, w2⟩ := open_int Tryd.underlying53 (hval 2 53 v2 rfl rfl) h2
  clear hA0 hval0
  obtain ⟨hTab, hsz0⟩ := tab_of_laid hL
  refine (walk s0 xa1 xb1 a2 ws0 wa1 wb1 w2 W hsz0 hTab).mono fun e W' ⟨he, bel⟩ => ?_
  subst he
  exact ⟨_, rfl, _, _, _, [], _, [], hW', trodAll_mk1 (shut_bool Tryd.underlying4 _), (trodAll_cons_mk (Below.trod laidOut (by kernel_rfl) (of_decide_eq_true (by kernel_rfl)) k0 bel lt0) (trodAll_cons_mk (Below.trod laidOut (by kernel_rfl) (of_decide_eq_true (by kernel_rfl)) k1 bel lt1) (trodAll_cons_mk (shut_int Tryd.underlying53 w2) trodAll_mk0))), rfl, bel.frame _, fun h => by cases h⟩
theorem over : Rows.streamLaterRow.holds Tryd.pinned (OpenSpec.ofChange Rows.streamLaterSpec) :=
  OpenClaim.holds_of_wide 7 Tryd.f7 rfl rfl rfl rfl rfl rfl rfl ⟨rfl, rfl, rfl, rfl, rfl⟩ rfl rfl rfl rfl rfl (by kernel_rfl) Tryd.func7 (by kernel_rfl)
    (of_decide_eq_true (by kernel_rfl)) (by unfold Func.isWrapper; first | (rw [if_pos (by decide +kernel)]; kernel_rfl) | (rw [if_neg (by decide +kernel)]; exact ⟨rfl, rfl⟩))
    (fun os started H enc _ => lifted os started H enc)
/-- The statement: the row, and what it lists tied to the program's text. -/
theorem proved : Rows.StreamLaterCardSaid :=
  Claim7.holds_tied_plain_at .later [] [.data] true _ false
    over (fun _ h => by cases h) (by kernel_rfl) (fun _ h => by cases h) streamLater_row_tie rfl ⟨rfl, rfl⟩ (by kernel_rfl) rfl
    (fun f fn hf hfn => by
      obtain rfl : f = 7 := Option.some.inj ((show Tryd.prog.funcNamed "bellbuoy/bellbuoylaw25.StreamLater" = some 7 by kernel_rfl).symm.trans hf) |>.symm
      obtain rfl : fn = Tryd.f7 := (Option.some.inj (Tryd.func7.symm.trans hfn)).symm
      exact ⟨by kernel_rfl, fun j t ht => by
        rw [Tryd.params7] at ht
        have hm : t ∈ [30, 52, 53] := by simpa using Array.mem_of_getElem? ht
        have hall : ([30, 52, 53].all fun u => !Tryd.prog.wantsStandIn u) = true := by kernel_rfl
        exact (show Tryd.prog.wantsStandIn t = false by simpa using List.all_eq_true.1 hall t hm)⟩)
    (by kernel_rfl)
end Go.Proofs.YtcfkbadpoefajaaDoor.streamLater
