/- The statement that by one and the same number nothing is scaled holds: for every two numbers of 64 bits the law answers true. No conditions. -/
import Derived.Test.YtggohojgmlchbaaRows
import Derived.Test.YtggohojgmlchbaaExl
import Derived.WalkKit
import Derived.ProofKit
import Derived.OpenShut
import Derived.ShutString
import Derived.ChangeOld
import Derived.Below
namespace Go.Proofs.Ytggohojgmlchbaa.exactSame
open Go.ChangeShapes Go.WideShapes Go.ChangeAt Go.RowKit
theorem own : ownKnob Try.prog.godebug = none := by kernel_rfl
theorem laidOut : laidOutB Try.prog = true := by kernel_rfl
set_option maxHeartbeats 400000 in
theorem walk (a0 a1 : Int) (w0 : (Lit.int .i64 a0).wf = true) (w1 : (Lit.int .i64 a1).wf = true) (w : World) :
    Calls Try.prog 7 #[.int .i64 a0, .int .i64 a1] w fun e w' => e = .returned (.bool true) ∧ Below w.heap.size w w' := by
  have ha := wf64 w0
  have hb := wf64 w1
  clear w0 w1
  by_cases h : a1 < 1
  · clear ha hb
    go_enter Try.func7, Try.ntmps7
    go_wp2_with (fail)
    refine (live_ex _).mono ?_
    rintro e w7 ⟨rfl, b7⟩
    have B7 := Lib.hid (b7); clear b7
    go_wp2_with (fail)
    go_ret
    exact ⟨rfl, B7.out⟩
  · have C1 := fun w => scale_ex a0 a1 a1 ha hb hb w
    have C2 := fun w => scale_ex a0 1 a1 ha (by omega) hb w
    have C3 := fun w => div_ex a0 a1 ha hb w
    have hd := div_in ha (show 0 < a1 by omega)
    rw [scaleV_yes h] at C1 C2
    unfold okV at C1 C2
    rw [Int.mul_ediv_cancel _ (show a1 ≠ 0 by omega), fit_yes ha, cut_yes ha] at C1
    rw [Int.mul_one, fit_yes hd, cut_yes hd] at C2
    rw [show divV a0 a1 = .tuple #[.int .i64 (a0 / a1), .bool true] from if_pos (by omega)] at C3
    obtain ⟨q, hq⟩ : ∃ s, s = a0 / a1 := ⟨_, rfl⟩
    rw [← hq] at C2 C3
    have D1 := Lib.hid C1; have D2 := Lib.hid C2; have D3 := Lib.hid C3
    clear C1 C2 C3 hq hd ha hb
    go_enter Try.func7, Try.ntmps7
    go_wp2_with (fail)
    refine (D1.out _).mono ?_
    rintro e w1 ⟨rfl, b1⟩
    have B1 := Lib.hid (b1); clear b1
    go_wp2_with (fail)
    refine (D2.out _).mono ?_
    rintro e w2 ⟨rfl, b2⟩
    have B2 := Lib.hid (below_trans B1.out b2); clear b2 B1
    go_wp2_with (fail)
    refine (D3.out _).mono ?_
    rintro e z ⟨rfl, rfl⟩
    go_wp2_with (fail)
    refine (live_ex _).mono ?_
    rintro e w7 ⟨rfl, b7⟩
    have B7 := Lib.hid (below_trans B2.out b7); clear b7 B2
    go_wp2_with (fail)
    go_ret
    exact ⟨rfl, B7.out⟩
set_option maxRecDepth 100000 in
theorem lifted (os : Os) (started : os.Started) (H : Type) (enc : TypeId × Value → H) :
    ReturnsInHanded {} Try.checked os 7 .any (Rows.exactSameSpec.pre6 enc Try.prog Try.f7 Rows.exactSameRow.domain false) (Rows.exactSameSpec.post enc Try.prog Try.f7 false true false false) := by
  refine returnsInHanded_of_change (C := Try.checked) own started (by kernel_rfl) Try.func7
    (ChangeSpec.witness6 (enc := enc) (C := Try.checked) false ⟨#[], #[.int .i64 0, .int .i64 0], []⟩ 8 (by kernel_rfl) (by kernel_rfl) (by kernel_rfl) (by kernel_rfl)) ?_
  intro W base args ds gs before hval0 hW _ _
  have hval : ∀ (j : Nat) t v, Try.f7.params[j]? = some t → args[j]? = some v → Value.okWide Try.prog W .any base t v := hval0
  have hW' := hW
  obtain ⟨p, q, hA0, hV, rfl, hfz, hnd⟩ := hW
  have hA : DataW.TrodAll enc Try.prog W 0 (fun _ => true) true Try.f7.params.toList args.toList ds p := hA0
  rw [Try.params7] at hA hval
  obtain ⟨v0, vs0, d0, ds0, p0, q0, hargs, rfl, rfl, h0, r0⟩ := trodAll_cons hA
  obtain ⟨v1, vs1, d1, ds1, p1, q1, rfl, rfl, rfl, h1, r1⟩ := trodAll_cons r0
  obtain ⟨rfl, rfl, rfl⟩ := trodAll_nil r1
  obtain rfl : args = #[v0, v1] := by cases args; simp_all
  obtain ⟨rfl, rfl⟩ := trodVars_none hV
  obtain ⟨a0, rfl, rfl, rfl, w0⟩ := open_int Try.underlying2 (hval 0 2 v0 rfl rfl) h0
  obtain ⟨a1, rfl, rfl, rfl, w1⟩ := open_int Try.underlying2 (hval 1 2 v1 rfl rfl) h1
  clear hA0 hval0
  refine (walk a0 a1 w0 w1 W).mono fun e W' ⟨he, bel⟩ => ?_
  subst he
  exact ⟨_, rfl, _, _, _, [], _, [], hW', trodAll_mk1 (shut_bool Try.underlying4 _), (trodAll_cons_mk (shut_int Try.underlying2 w0) (trodAll_cons_mk (shut_int Try.underlying2 w1) trodAll_mk0)), rfl, bel.frame _, fun h => by cases h⟩
theorem over : Rows.exactSameRow.holds Try.pinned (OpenSpec.ofChange Rows.exactSameSpec) :=
  OpenClaim.holds_of_wide 7 Try.f7 rfl rfl rfl rfl rfl rfl rfl ⟨rfl, rfl, rfl, rfl, rfl⟩ rfl rfl rfl rfl rfl (by kernel_rfl) Try.func7 (by kernel_rfl)
    (of_decide_eq_true (by kernel_rfl)) (by unfold Func.isWrapper; first | (rw [if_pos (by decide +kernel)]; kernel_rfl) | (rw [if_neg (by decide +kernel)]; exact ⟨rfl, rfl⟩))
    (fun os started H enc _ => lifted os started H enc)
/-- The statement. -/
theorem proved : Rows.ExactSameSaid := over
end Go.Proofs.Ytggohojgmlchbaa.exactSame
