/- ClockSlopes (P17.5): between two counts a clock grows by the rate, rounded one way or the other. No conditions. -/
import Derived.Test.YtioifgbglgjkcaaRows
import Derived.Deep.DeepCutAuto
import Derived.Deep.RegionHeld3
import Derived.Test.YtioifgbglgjkcaaCkm
import Derived.Test.YtioifgbglgjkcaaOpk
import Derived.WalkKit
import Derived.ProofKit
import Derived.OpenShut
import Derived.ShutString
import Derived.ChangeOld
import Derived.Below
namespace Go.Proofs.Ytioifgbglgjkcaa.clockSlopes
open Go.ChangeShapes Go.WideShapes Go.ChangeAt Go.RowKit
theorem own : ownKnob Try.prog.godebug = none := by kernel_rfl
theorem laidOut : laidOutB Try.prog = true := by kernel_rfl
/-- A clock that is younger than a world. -/
structure C1 (w u : World) (B : Nat) (c v r t : Int) : Prop where
  a : CK u 76 B c v r t
  below : Below w.heap.size w u
  la : w.heap.size ≤ B
theorem C1.on {w u x : World} {B : Nat} {c v r t : Int} (h : C1 w u B c v r t) (hb : Below u.heap.size u x) : C1 w x B c v r t := ⟨h.a.on hb, below_transG h.below hb, h.la⟩
theorem C1.step {w u x : World} {B : Nat} {c v r t c2 v2 r2 t2 : Int} (h : C1 w u B c v r t) (ha : CK x 76 B c2 v2 r2 t2) (hk : Kp B (.slice none 0 0) u x) : C1 w x B c2 v2 r2 t2 :=
  ⟨ha, h.below.trans (hk.belowN h.la h.below.size (fun k e => by cases e)), h.la⟩
theorem blk_kp {u x : World} {B D : Nat} {T : TypeId} {l : List Value} (h : Blk u D T l) (hne : D ≠ B) (hk : Kp B (.slice none 0 0) u x) : Blk x D T l := h.on (hk.block D h.lt hne (fun e => by cases e))
set_option maxRecDepth 100000 in
set_option maxHeartbeats 16000000 in
theorem walk (a0 a1 a2 : Int) (_w0 : (Lit.int .i64 a0).wf = true) (_w1 : (Lit.int .i64 a1).wf = true) (_w2 : (Lit.int .i64 a2).wf = true) (w : World) :
    Calls Try.prog 6 #[.int .i64 a0, .int .i64 a1, .int .i64 a2] w fun y w' => y = .returned (.bool true) ∧ Below w.heap.size w w' := by
  have t0 := tmod_in a0 4097 (by decide); have t1 := tmod_in a1 1099511627776 (by decide); have t2 := tmod_in a2 1099511627776 (by decide)
  obtain ⟨x0, hx0⟩ : ∃ z, z = a0.tmod 4097 := ⟨_, rfl⟩
  obtain ⟨x1, hx1⟩ : ∃ z, z = a1.tmod 1099511627776 := ⟨_, rfl⟩
  obtain ⟨x2, hx2⟩ : ∃ z, z = a2.tmod 1099511627776 := ⟨_, rfl⟩
  rw [← hx0] at t0
  rw [← hx1] at t1
  rw [← hx2] at t2
  have HW0 := Lib.hid (show wrap64 (a0.tmod 4097) = x0 by rw [← hx0]; exact w64_in _ (by omega))
  have HW1 := Lib.hid (show wrap64 (a1.tmod 1099511627776) = x1 by rw [← hx1]; exact w64_in _ (by omega))
  have HW2 := Lib.hid (show wrap64 (a2.tmod 1099511627776) = x2 by rw [← hx2]; exact w64_in _ (by omega))
  have HG0 := Lib.hid hx0.symm; have HG1 := Lib.hid hx1.symm; have HG2 := Lib.hid hx2.symm
  obtain ⟨q, hq⟩ : ∃ q, q = 1048576 + x0 := ⟨_, rfl⟩
  have HW3 := Lib.hid (show wrap64 (1048576 + x0) = q by rw [hq]; exact w64_in _ (by omega))
  have HQ := Lib.hid (show 1044480 ≤ q ∧ q ≤ 1052672 by omega)
  have HT1 := Lib.hid t1; have HT2 := Lib.hid t2
  clear t0 t1 t2 hx0 hx1 hx2 hq
  by_cases hc : x2 < x1
  case neg =>
    have c1 : ¬ x2 < x1 := hc
    clear hc
    have HS := Lib.hid (slope_in x1 x2 q (by have := HT1.out; have := HT2.out; omega) (by have := HT1.out; have := HT2.out; omega) HQ.out)
    have HLA := Lib.hid (look_from0 q x1 (by have := HT1.out; have := HT2.out; omega) HQ.out)
    have HLB := Lib.hid (look_from0 q x2 (by have := HT1.out; have := HT2.out; omega) HQ.out)
    have HSC := Lib.hid (fun (u : World) => scale_rf (x2 - x1) q 1048576 (by have := HT1.out; have := HT2.out; omega) (by have := HQ.out; omega) (by decide) u)
    rw [scaleV_yes (by decide), show okV ((x2 - x1) * q / 1048576) = .tuple #[.int .i64 ((x2 - x1) * q / 1048576), .bool true] by unfold okV; rw [fit_yes HS.out.2.2.1, cut_yes HS.out.2.2.1]] at HSC
    have HT := Lib.hid (fun (u : World) (B : Nat) h => cktune_any 0 q (by decide) 0 0 1048576 0 B u h)
    have HN := Lib.hid (fun (u : World) (B : Nat) h => cklook_any x1 (by have := HT1.out; have := HT2.out; omega) 0 0 q 0 B u h)
    have HM := Lib.hid (fun (u : World) (B : Nat) h => cklook_any x2 (by have := HT1.out; have := HT2.out; omega) 0 0 q 0 B u h)
    have e0 : tuE 0 0 1048576 0 q = 0 := (tu_in HQ.out).1 (look_here 0 0 1048576 (by decide)).1
    have e1 : tuC 0 0 1048576 0 q = 0 := by unfold tuC; rw [if_pos e0]
    have e2 : tuV 0 0 1048576 0 q = 0 := by unfold tuV; rw [if_pos e0]; exact (look_here 0 0 1048576 (by decide)).2
    have e3 : tuR 0 0 1048576 0 q = q := by unfold tuR; rw [if_pos e0]
    rw [e0, e1, e2, e3] at HT
    rw [HLA.out.1, HLA.out.2] at HN
    rw [HLB.out.1, HLB.out.2] at HM
    obtain ⟨X, hX⟩ : ∃ z, z = x1 * q / 1048576 := ⟨_, rfl⟩
    obtain ⟨Y, hY⟩ : ∃ z, z = x2 * q / 1048576 := ⟨_, rfl⟩
    obtain ⟨Dd, hDd⟩ : ∃ z, z = x2 - x1 := ⟨_, rfl⟩
    rw [← hDd] at HSC HS
    obtain ⟨S, hS⟩ : ∃ z, z = Dd * q / 1048576 := ⟨_, rfl⟩
    rw [← hX] at HN HS
    rw [← hY] at HM HS
    rw [← hS] at HSC HS
    obtain ⟨s1, s2, s3, s4, s5⟩ := HS.out
    obtain ⟨Z, hZ⟩ : ∃ z, z = Y - X := ⟨_, rfl⟩
    obtain ⟨S1, hS1⟩ : ∃ z, z = S + 1 := ⟨_, rfl⟩
    have f3 : S ≤ Z := by omega
    have f4 : Z ≤ S1 := by omega
    have HF5 := Lib.hid (show wrap64 (x2 - x1) = Dd by rw [hDd]; exact w64_in _ (by have := HT1.out; have := HT2.out; omega))
    have f1 : wrap64 (Y - X) = Z := by rw [hZ]; exact w64_in _ s5
    have f2 : wrap64 (S + 1) = S1 := by rw [hS1]; exact w64_in _ s4
    have f5 := HF5.out
    have g0 := HG0.out; have g1 := HG1.out; have g2 := HG2.out; have g3 := HW3.out
    have f6 : (q == q) = true := by simp
    clear s1 s2 s3 s4 s5 hZ hS1 hX hY hDd hS e0 e1 e2 e3 HLA HLB HS
    go_enter Try.func6, Try.ntmps6
    go_wp2_with fail
    refine (cknew_any _).mono ?_
    rintro y w1 ⟨B, rfl, hO, hB, hb⟩
    have HI1 := Lib.hid (show C1 w w1 B 0 0 1048576 0 from ⟨hO, hb, hB⟩)
    clear hO hb hB
    go_wp2_with fail
    refine (HT.out _ _ HI1.out.a).mono ?_
    rintro y2 w2 ⟨rfl, hO, hk⟩
    have HI2 := Lib.hid (HI1.out.step hO hk)
    clear hO hk
    go_wp2_with fail
    refine (HN.out _ _ HI2.out.a).mono ?_
    rintro y3 w3 ⟨rfl, hb⟩
    have HI3 := Lib.hid (HI2.out.on hb)
    clear hb
    go_wp2_with fail
    refine (HM.out _ _ HI3.out.a).mono ?_
    rintro y4 w4 ⟨rfl, hb⟩
    have HI4 := Lib.hid (HI3.out.on hb)
    clear hb
    go_wp2_with fail
    refine (HSC.out _).mono ?_
    rintro y5 w5 ⟨rfl, hb⟩
    have HI5 := Lib.hid (HI4.out.on hb)
    clear hb
    go_wp2_with fail
    refine (live17 _).mono ?_
    rintro y6 w6 ⟨rfl, hb⟩
    have HI6 := Lib.hid (HI5.out.on hb)
    clear hb
    go_wp2_with fail
    refine (ckrate_any 0 0 q 0 B _ HI6.out.a).mono ?_
    rintro y7 w7 ⟨rfl, rfl⟩
    go_wp2_with fail
    go_ret
    exact ⟨rfl, HI6.out.below⟩
  case pos =>
    have c1 : x2 < x1 := hc
    clear hc
    have HS := Lib.hid (slope_in x2 x1 q (by have := HT1.out; have := HT2.out; omega) (by have := HT1.out; have := HT2.out; omega) HQ.out)
    have HLA := Lib.hid (look_from0 q x2 (by have := HT1.out; have := HT2.out; omega) HQ.out)
    have HLB := Lib.hid (look_from0 q x1 (by have := HT1.out; have := HT2.out; omega) HQ.out)
    have HSC := Lib.hid (fun (u : World) => scale_rf (x1 - x2) q 1048576 (by have := HT1.out; have := HT2.out; omega) (by have := HQ.out; omega) (by decide) u)
    rw [scaleV_yes (by decide), show okV ((x1 - x2) * q / 1048576) = .tuple #[.int .i64 ((x1 - x2) * q / 1048576), .bool true] by unfold okV; rw [fit_yes HS.out.2.2.1, cut_yes HS.out.2.2.1]] at HSC
    have HT := Lib.hid (fun (u : World) (B : Nat) h => cktune_any 0 q (by decide) 0 0 1048576 0 B u h)
    have HN := Lib.hid (fun (u : World) (B : Nat) h => cklook_any x2 (by have := HT1.out; have := HT2.out; omega) 0 0 q 0 B u h)
    have HM := Lib.hid (fun (u : World) (B : Nat) h => cklook_any x1 (by have := HT1.out; have := HT2.out; omega) 0 0 q 0 B u h)
    have e0 : tuE 0 0 1048576 0 q = 0 := (tu_in HQ.out).1 (look_here 0 0 1048576 (by decide)).1
    have e1 : tuC 0 0 1048576 0 q = 0 := by unfold tuC; rw [if_pos e0]
    have e2 : tuV 0 0 1048576 0 q = 0 := by unfold tuV; rw [if_pos e0]; exact (look_here 0 0 1048576 (by decide)).2
    have e3 : tuR 0 0 1048576 0 q = q := by unfold tuR; rw [if_pos e0]
    rw [e0, e1, e2, e3] at HT
    rw [HLA.out.1, HLA.out.2] at HN
    rw [HLB.out.1, HLB.out.2] at HM
    obtain ⟨X, hX⟩ : ∃ z, z = x2 * q / 1048576 := ⟨_, rfl⟩
    obtain ⟨Y, hY⟩ : ∃ z, z = x1 * q / 1048576 := ⟨_, rfl⟩
    obtain ⟨Dd, hDd⟩ : ∃ z, z = x1 - x2 := ⟨_, rfl⟩
    rw [← hDd] at HSC HS
    obtain ⟨S, hS⟩ : ∃ z, z = Dd * q / 1048576 := ⟨_, rfl⟩
    rw [← hX] at HN HS
    rw [← hY] at HM HS
    rw [← hS] at HSC HS
    obtain ⟨s1, s2, s3, s4, s5⟩ := HS.out
    obtain ⟨Z, hZ⟩ : ∃ z, z = Y - X := ⟨_, rfl⟩
    obtain ⟨S1, hS1⟩ : ∃ z, z = S + 1 := ⟨_, rfl⟩
    have f3 : S ≤ Z := by omega
    have f4 : Z ≤ S1 := by omega
    have HF5 := Lib.hid (show wrap64 (x1 - x2) = Dd by rw [hDd]; exact w64_in _ (by have := HT1.out; have := HT2.out; omega))
    have f1 : wrap64 (Y - X) = Z := by rw [hZ]; exact w64_in _ s5
    have f2 : wrap64 (S + 1) = S1 := by rw [hS1]; exact w64_in _ s4
    have f5 := HF5.out
    have g0 := HG0.out; have g1 := HG1.out; have g2 := HG2.out; have g3 := HW3.out
    have f6 : (q == q) = true := by simp
    clear s1 s2 s3 s4 s5 hZ hS1 hX hY hDd hS e0 e1 e2 e3 HLA HLB HS
    go_enter Try.func6, Try.ntmps6
    go_wp2_with fail
    refine (cknew_any _).mono ?_
    rintro y w1 ⟨B, rfl, hO, hB, hb⟩
    have HI1 := Lib.hid (show C1 w w1 B 0 0 1048576 0 from ⟨hO, hb, hB⟩)
    clear hO hb hB
    go_wp2_with fail
    refine (HT.out _ _ HI1.out.a).mono ?_
    rintro y2 w2 ⟨rfl, hO, hk⟩
    have HI2 := Lib.hid (HI1.out.step hO hk)
    clear hO hk
    go_wp2_with fail
    refine (HN.out _ _ HI2.out.a).mono ?_
    rintro y3 w3 ⟨rfl, hb⟩
    have HI3 := Lib.hid (HI2.out.on hb)
    clear hb
    go_wp2_with fail
    refine (HM.out _ _ HI3.out.a).mono ?_
    rintro y4 w4 ⟨rfl, hb⟩
    have HI4 := Lib.hid (HI3.out.on hb)
    clear hb
    go_wp2_with fail
    refine (HSC.out _).mono ?_
    rintro y5 w5 ⟨rfl, hb⟩
    have HI5 := Lib.hid (HI4.out.on hb)
    clear hb
    go_wp2_with fail
    refine (live17 _).mono ?_
    rintro y6 w6 ⟨rfl, hb⟩
    have HI6 := Lib.hid (HI5.out.on hb)
    clear hb
    go_wp2_with fail
    refine (ckrate_any 0 0 q 0 B _ HI6.out.a).mono ?_
    rintro y7 w7 ⟨rfl, rfl⟩
    go_wp2_with fail
    go_ret
    exact ⟨rfl, HI6.out.below⟩
set_option maxRecDepth 100000 in
theorem lifted (os : Os) (started : os.Started) (H : Type) (enc : TypeId × Value → H) :
    ReturnsInHanded {} Try.checked os 6 .any (Rows.clockSlopesSpec.pre6 enc Try.prog Try.f6 Rows.clockSlopesRow.domain false) (Rows.clockSlopesSpec.post enc Try.prog Try.f6 false true false false) := by
  refine returnsInHanded_of_change (C := Try.checked) own started (by kernel_rfl) Try.func6
    (ChangeSpec.witness6 (enc := enc) (C := Try.checked) false ⟨#[], #[.int .i64 0, .int .i64 0, .int .i64 0], []⟩ 8 (by kernel_rfl) (by kernel_rfl) (by kernel_rfl) (by kernel_rfl)) ?_
  intro W base args ds gs before hval0 hW _ _
  have hval : ∀ (j : Nat) t v, Try.f6.params[j]? = some t → args[j]? = some v → Value.okWide Try.prog W .any base t v := hval0
  have hW' := hW
  obtain ⟨p, q, hA0, hV, rfl, hfz, hnd⟩ := hW
  have hA : DataW.TrodAll enc Try.prog W 0 (fun _ => true) true Try.f6.params.toList args.toList ds p := hA0
  rw [Try.params6] at hA hval
  obtain ⟨v0, vs0, d0, ds0, p0, q0, hargs, rfl, rfl, h0, r0⟩ := trodAll_cons hA
  obtain ⟨v1, vs1, d1, ds1, p1, q1, rfl, rfl, rfl, h1, r1⟩ := trodAll_cons r0
  obtain ⟨v2, vs2, d2, ds2, p2, q2, rfl, rfl, rfl, h2, r2⟩ := trodAll_cons r1
  obtain ⟨rfl, rfl, rfl⟩ := trodAll_nil r2
  obtain rfl : args = #[v0, v1, v2] := by cases args; simp_all
  obtain ⟨rfl, rfl⟩ := trodVars_none hV
  obtain ⟨a0, rfl, rfl, rfl, w0⟩ := open_int Try.underlying2 (hval 0 2 v0 rfl rfl) h0
  obtain ⟨a1, rfl, rfl, rfl, w1⟩ := open_int Try.underlying2 (hval 1 2 v1 rfl rfl) h1
  obtain ⟨a2, rfl, rfl, rfl, w2⟩ := open_int Try.underlying2 (hval 2 2 v2 rfl rfl) h2
  clear hA0 hval0
  refine (walk a0 a1 a2 w0 w1 w2 W).mono fun e W' ⟨he, bel⟩ => ?_
  subst he
  exact ⟨_, rfl, _, _, _, [], _, [], hW', trodAll_mk1 (shut_bool Try.underlying4 _), (trodAll_cons_mk (shut_int Try.underlying2 w0) (trodAll_cons_mk (shut_int Try.underlying2 w1) (trodAll_cons_mk (shut_int Try.underlying2 w2) trodAll_mk0))), rfl, bel.frame _, fun h => by cases h⟩
theorem over : Rows.clockSlopesRow.holds Try.pinned (OpenSpec.ofChange Rows.clockSlopesSpec) :=
  OpenClaim.holds_of_wide 6 Try.f6 rfl rfl rfl rfl rfl rfl rfl ⟨rfl, rfl, rfl, rfl, rfl⟩ rfl rfl rfl rfl rfl (by kernel_rfl) Try.func6 (by kernel_rfl)
    (of_decide_eq_true (by kernel_rfl)) (by unfold Func.isWrapper; first | (rw [if_pos (by decide +kernel)]; kernel_rfl) | (rw [if_neg (by decide +kernel)]; exact ⟨rfl, rfl⟩))
    (fun os started H enc _ => lifted os started H enc)
/-- The statement. -/
theorem proved : Rows.ClockSlopesSaid := over
end Go.Proofs.Ytioifgbglgjkcaa.clockSlopes
