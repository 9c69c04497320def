/- The statement that what is put is taken back holds: for every two numbers of 64 bits the law answers true. No conditions. -/
import Derived.Test.YtggohojgmlchbaaRows
import Derived.Test.YtggohojgmlchbaaExl
import Derived.WalkKit
import Derived.ProofKit
import Derived.OpenShut
import Derived.ShutString
import Derived.ChangeOld
import Derived.Below
namespace Go.Proofs.Ytggohojgmlchbaa.exactBack
open Go.ChangeShapes Go.WideShapes Go.ChangeAt Go.RowKit
theorem own : ownKnob Try.prog.godebug = none := by kernel_rfl
theorem laidOut : laidOutB Try.prog = true := by kernel_rfl
set_option maxHeartbeats 400000 in
theorem walk_any (a0 a1 q m : Int) (c : Bool) (ha : -9223372036854775808 ≤ a0 ∧ a0 ≤ 9223372036854775807) (hb : -9223372036854775808 ≤ a1 ∧ a1 ≤ 9223372036854775807)
    (D1 : Hid (∀ w, Calls Try.prog 22 #[.int .i64 a0, .int .i64 a1] w fun e w' => e = .returned (.tuple #[.int .i64 q, .bool c]) ∧ w = w'))
    (D2 : Hid (∀ w, Calls Try.prog 24 #[.int .i64 a0, .int .i64 a1] w fun e w' => e = .returned (.tuple #[.int .i64 m, .bool c]) ∧ w = w'))
    (hc : (0 < a1 ∧ c = true ∧ 0 ≤ m ∧ m < a1 ∧ (wrap64 (wrap64 (q * a1) + m) == a0) = true) ∨ (a1 ≤ 0 ∧ c = false)) (w : World) :
    Calls Try.prog 6 #[.int .i64 a0, .int .i64 a1] w fun e w' => e = .returned (.bool true) ∧ Below w.heap.size w w' := by
  have C1 := fun w => add_ex a0 a1 ha hb w
  by_cases hf : -9223372036854775808 ≤ a0 + a1 ∧ a0 + a1 ≤ 9223372036854775807
  · have C2 := fun w => sub_ex (a0 + a1) a1 hf hb w
    unfold okV at C1 C2
    rw [fit_yes hf, cut_yes hf] at C1
    rw [show a0 + a1 - a1 = a0 by omega, fit_yes ha, cut_yes ha] at C2
    obtain ⟨s, hs⟩ : ∃ s, s = a0 + a1 := ⟨_, rfl⟩
    rw [← hs] at C1 C2
    have A1 := Lib.hid C1; have A2 := Lib.hid C2
    clear C1 C2 hs hf ha hb
    rcases hc with ⟨h1, rfl, h2, h3, h4⟩ | ⟨h1, rfl⟩
    · go_enter Try.func6, Try.ntmps6
      go_wp2_with (fail)
      refine (A1.out _).mono ?_
      rintro e z ⟨rfl, rfl⟩
      go_wp2_with (fail)
      refine (A2.out _).mono ?_
      rintro e z ⟨rfl, rfl⟩
      go_wp2_with (fail)
      refine (D1.out _).mono ?_
      rintro e z ⟨rfl, rfl⟩
      go_wp2_with (fail)
      refine (D2.out _).mono ?_
      rintro e z ⟨rfl, rfl⟩
      go_wp2_with (fail)
      refine (live_ex _).mono ?_
      rintro e w7 ⟨rfl, b7⟩
      have B7 := Lib.hid (b7); clear b7
      go_wp2_with (fail)
      go_ret
      exact ⟨rfl, B7.out⟩
    · have h5 : ¬ 0 < a1 := by omega
      go_enter Try.func6, Try.ntmps6
      go_wp2_with (fail)
      refine (A1.out _).mono ?_
      rintro e z ⟨rfl, rfl⟩
      go_wp2_with (fail)
      refine (A2.out _).mono ?_
      rintro e z ⟨rfl, rfl⟩
      go_wp2_with (fail)
      refine (D1.out _).mono ?_
      rintro e z ⟨rfl, rfl⟩
      go_wp2_with (fail)
      refine (D2.out _).mono ?_
      rintro e z ⟨rfl, rfl⟩
      go_wp2_with (fail)
      refine (live_ex _).mono ?_
      rintro e w7 ⟨rfl, b7⟩
      have B7 := Lib.hid (b7); clear b7
      go_wp2_with (fail)
      go_ret
      exact ⟨congrArg (fun b => Ending.returned (.bool b)) (show (!decide (0 < a1)) = true by simp; omega), B7.out⟩
  · unfold okV at C1
    rw [fit_no hf, cut_no hf] at C1
    have A1 := Lib.hid C1
    clear C1 hf ha hb
    rcases hc with ⟨h1, rfl, h2, h3, h4⟩ | ⟨h1, rfl⟩
    · go_enter Try.func6, Try.ntmps6
      go_wp2_with (fail)
      refine (A1.out _).mono ?_
      rintro e z ⟨rfl, rfl⟩
      go_wp2_with (fail)
      refine (D1.out _).mono ?_
      rintro e z ⟨rfl, rfl⟩
      go_wp2_with (fail)
      refine (D2.out _).mono ?_
      rintro e z ⟨rfl, rfl⟩
      go_wp2_with (fail)
      refine (live_ex _).mono ?_
      rintro e w7 ⟨rfl, b7⟩
      have B7 := Lib.hid (b7); clear b7
      go_wp2_with (fail)
      go_ret
      exact ⟨rfl, B7.out⟩
    · have h5 : ¬ 0 < a1 := by omega
      go_enter Try.func6, Try.ntmps6
      go_wp2_with (fail)
      refine (A1.out _).mono ?_
      rintro e z ⟨rfl, rfl⟩
      go_wp2_with (fail)
      refine (D1.out _).mono ?_
      rintro e z ⟨rfl, rfl⟩
      go_wp2_with (fail)
      refine (D2.out _).mono ?_
      rintro e z ⟨rfl, rfl⟩
      go_wp2_with (fail)
      refine (live_ex _).mono ?_
      rintro e w7 ⟨rfl, b7⟩
      have B7 := Lib.hid (b7); clear b7
      go_wp2_with (fail)
      go_ret
      exact ⟨congrArg (fun b => Ending.returned (.bool b)) (show (!decide (0 < a1)) = true by simp; omega), B7.out⟩
theorem walk (a0 a1 : Int) (w0 : (Lit.int .i64 a0).wf = true) (w1 : (Lit.int .i64 a1).wf = true) (w : World) :
    Calls Try.prog 6 #[.int .i64 a0, .int .i64 a1] w fun e w' => e = .returned (.bool true) ∧ Below w.heap.size w w' := by
  have ha := wf64 w0
  have hb := wf64 w1
  have C1 := fun w => div_ex a0 a1 ha hb w
  have C2 := fun w => mod_ex a0 a1 hb w
  by_cases h : 0 < a1
  · rw [show divV a0 a1 = .tuple #[.int .i64 (a0 / a1), .bool true] from if_pos h] at C1
    rw [show modV a0 a1 = .tuple #[.int .i64 (a0 % a1), .bool true] from if_pos h] at C2
    refine walk_any a0 a1 (a0 / a1) (a0 % a1) true ha hb C1 C2 (.inl ⟨h, rfl, Int.emod_nonneg _ (by omega), Int.emod_lt_of_pos _ h, ?_⟩) w
    have e := Int.ediv_mul_add_emod a0 a1
    have e2 : wrap64 (wrap64 (a0 / a1 * a1) + a0 % a1) = a0 := by unfold wrap64; omega
    rw [e2]
    simp
  · rw [show divV a0 a1 = noV from if_neg h] at C1
    rw [show modV a0 a1 = noV from if_neg h] at C2
    exact walk_any a0 a1 0 0 false ha hb C1 C2 (.inr ⟨by omega, rfl⟩) w
set_option maxRecDepth 100000 in
theorem lifted (os : Os) (started : os.Started) (H : Type) (enc : TypeId × Value → H) :
    ReturnsInHanded {} Try.checked os 6 .any (Rows.exactBackSpec.pre6 enc Try.prog Try.f6 Rows.exactBackRow.domain false) (Rows.exactBackSpec.post enc Try.prog Try.f6 false true false false) := by
  refine returnsInHanded_of_change (C := Try.checked) own started (by kernel_rfl) Try.func6
    (ChangeSpec.witness6 (enc := enc) (C := Try.checked) false ⟨#[], #[.int .i64 0, .int .i64 0], []⟩ 8 (by kernel_rfl) (by kernel_rfl) (by kernel_rfl) (by kernel_rfl)) ?_
  intro W base args ds gs before hval0 hW _ _
  have hval : ∀ (j : Nat) t v, Try.f6.params[j]? = some t → args[j]? = some v → Value.okWide Try.prog W .any base t v := hval0
  have hW' := hW
  obtain ⟨p, q, hA0, hV, rfl, hfz, hnd⟩ := hW
  have hA : DataW.TrodAll enc Try.prog W 0 (fun _ => true) true Try.f6.params.toList args.toList ds p := hA0
  rw [Try.params6] at hA hval
  obtain ⟨v0, vs0, d0, ds0, p0, q0, hargs, rfl, rfl, h0, r0⟩ := trodAll_cons hA
  obtain ⟨v1, vs1, d1, ds1, p1, q1, rfl, rfl, rfl, h1, r1⟩ := trodAll_cons r0
  obtain ⟨rfl, rfl, rfl⟩ := trodAll_nil r1
  obtain rfl : args = #[v0, v1] := by cases args; simp_all
  obtain ⟨rfl, rfl⟩ := trodVars_none hV
  obtain ⟨a0, rfl, rfl, rfl, w0⟩ := open_int Try.underlying2 (hval 0 2 v0 rfl rfl) h0
  obtain ⟨a1, rfl, rfl, rfl, w1⟩ := open_int Try.underlying2 (hval 1 2 v1 rfl rfl) h1
  clear hA0 hval0
  refine (walk a0 a1 w0 w1 W).mono fun e W' ⟨he, bel⟩ => ?_
  subst he
  exact ⟨_, rfl, _, _, _, [], _, [], hW', trodAll_mk1 (shut_bool Try.underlying4 _), (trodAll_cons_mk (shut_int Try.underlying2 w0) (trodAll_cons_mk (shut_int Try.underlying2 w1) trodAll_mk0)), rfl, bel.frame _, fun h => by cases h⟩
theorem over : Rows.exactBackRow.holds Try.pinned (OpenSpec.ofChange Rows.exactBackSpec) :=
  OpenClaim.holds_of_wide 6 Try.f6 rfl rfl rfl rfl rfl rfl rfl ⟨rfl, rfl, rfl, rfl, rfl⟩ rfl rfl rfl rfl rfl (by kernel_rfl) Try.func6 (by kernel_rfl)
    (of_decide_eq_true (by kernel_rfl)) (by unfold Func.isWrapper; first | (rw [if_pos (by decide +kernel)]; kernel_rfl) | (rw [if_neg (by decide +kernel)]; exact ⟨rfl, rfl⟩))
    (fun os started H enc _ => lifted os started H enc)
/-- The statement. -/
theorem proved : Rows.ExactBackSaid := over
end Go.Proofs.Ytggohojgmlchbaa.exactBack
