/- The statement of quotients, rests, bounds and distances holds: for every three numbers of 64 bits the law answers true. No conditions. -/
import Derived.Test.YtggohojgmlchbaaRows
import Derived.Test.YtggohojgmlchbaaExl
import Derived.WalkKit
import Derived.ProofKit
import Derived.OpenShut
import Derived.ShutString
import Derived.ChangeOld
import Derived.Below
namespace Go.Proofs.Ytggohojgmlchbaa.exactParts
open Go.ChangeShapes Go.WideShapes Go.ChangeAt Go.RowKit
theorem own : ownKnob Try.prog.godebug = none := by kernel_rfl
theorem laidOut : laidOutB Try.prog = true := by kernel_rfl
set_option maxHeartbeats 400000 in
theorem walk (a0 a1 a2 : Int) (w0 : (Lit.int .i64 a0).wf = true) (w1 : (Lit.int .i64 a1).wf = true) (_ : (Lit.int .i64 a2).wf = true) (w : World) :
    Calls Try.prog 4 #[.int .i64 a0, .int .i64 a1, .int .i64 a2] w fun e w' => e = .returned (.bool true) ∧ Below w.heap.size w w' := by
  have ha := wf64 w0
  have hb := wf64 w1
  clear w0 w1
  have hd : ∃ x c, divV a0 a1 = .tuple #[.int .i64 x, .bool c] := by unfold divV noV; split <;> exact ⟨_, _, rfl⟩
  have hm : ∃ x c, modV a0 a1 = .tuple #[.int .i64 x, .bool c] := by unfold modV noV; split <;> exact ⟨_, _, rfl⟩
  obtain ⟨dx, dc, hd⟩ := hd
  obtain ⟨mx, mc, hm⟩ := hm
  have C1 := fun w => div_ex a0 a1 ha hb w
  have C2 := fun w => div_rf a0 a1 ha hb w
  have C3 := fun w => mod_ex a0 a1 hb w
  have C4 := fun w => mod_rf a0 a1 ha hb w
  rw [hd] at C1 C2
  rw [hm] at C3 C4
  have D1 := Lib.hid C1; have D2 := Lib.hid C2; have D3 := Lib.hid C3; have D4 := Lib.hid C4
  clear C1 C2 C3 C4 hd hm
  have C5 := fun w => dist_ex a0 a1 ha hb w
  have C6 := fun w => dist_rf a0 a1 ha hb w
  obtain ⟨tx, tc, ht⟩ : ∃ x c, okV (if a0 < a1 then a1 - a0 else a0 - a1) = .tuple #[.int .i64 x, .bool c] := ⟨_, _, rfl⟩
  rw [ht] at C5 C6
  have C7 := fun w => clamp_ex a0 a1 a2 w
  have C8 := fun w => clamp_rf a0 a1 a2 w
  obtain ⟨cv, hcv⟩ : ∃ x, x = clampV a0 a1 a2 := ⟨_, rfl⟩
  rw [← hcv] at C7 C8
  have D5 := Lib.hid C5; have D6 := Lib.hid C6; have D7 := Lib.hid C7; have D8 := Lib.hid C8
  clear C5 C6 C7 C8 ht hcv
  go_enter Try.func4, Try.ntmps4
  go_wp2_with (fail)
  refine (D1.out _).mono ?_
  rintro e z ⟨rfl, rfl⟩
  go_wp2_with (fail)
  refine (D2.out _).mono ?_
  rintro e w2 ⟨rfl, b2⟩
  have B2 := Lib.hid (b2); clear b2
  go_wp2_with (fail)
  refine (D3.out _).mono ?_
  rintro e z ⟨rfl, rfl⟩
  go_wp2_with (fail)
  refine (D4.out _).mono ?_
  rintro e w4 ⟨rfl, b4⟩
  have B4 := Lib.hid (below_trans B2.out b4); clear b4 B2
  go_wp2_with (fail)
  refine (D5.out _).mono ?_
  rintro e z ⟨rfl, rfl⟩
  go_wp2_with (fail)
  refine (D6.out _).mono ?_
  rintro e z ⟨rfl, rfl⟩
  go_wp2_with (fail)
  refine (live_ex _).mono ?_
  rintro e w7 ⟨rfl, b7⟩
  have B7 := Lib.hid (below_trans B4.out b7); clear b7 B4
  go_wp2_with (fail)
  refine (D7.out _).mono ?_
  rintro e z ⟨rfl, rfl⟩
  go_wp2_with (fail)
  refine (D8.out _).mono ?_
  rintro e z ⟨rfl, rfl⟩
  go_wp2_with (fail)
  go_ret
  exact ⟨rfl, B7.out⟩
set_option maxRecDepth 100000 in
theorem lifted (os : Os) (started : os.Started) (H : Type) (enc : TypeId × Value → H) :
    ReturnsInHanded {} Try.checked os 4 .any (Rows.exactPartsSpec.pre6 enc Try.prog Try.f4 Rows.exactPartsRow.domain false) (Rows.exactPartsSpec.post enc Try.prog Try.f4 false true false false) := by
  refine returnsInHanded_of_change (C := Try.checked) own started (by kernel_rfl) Try.func4
    (ChangeSpec.witness6 (enc := enc) (C := Try.checked) false ⟨#[], #[.int .i64 0, .int .i64 0, .int .i64 0], []⟩ 8 (by kernel_rfl) (by kernel_rfl) (by kernel_rfl) (by kernel_rfl)) ?_
  intro W base args ds gs before hval0 hW _ _
  have hval : ∀ (j : Nat) t v, Try.f4.params[j]? = some t → args[j]? = some v → Value.okWide Try.prog W .any base t v := hval0
  have hW' := hW
  obtain ⟨p, q, hA0, hV, rfl, hfz, hnd⟩ := hW
  have hA : DataW.TrodAll enc Try.prog W 0 (fun _ => true) true Try.f4.params.toList args.toList ds p := hA0
  rw [Try.params4] at hA hval
  obtain ⟨v0, vs0, d0, ds0, p0, q0, hargs, rfl, rfl, h0, r0⟩ := trodAll_cons hA
  obtain ⟨v1, vs1, d1, ds1, p1, q1, rfl, rfl, rfl, h1, r1⟩ := trodAll_cons r0
  obtain ⟨v2, vs2, d2, ds2, p2, q2, rfl, rfl, rfl, h2, r2⟩ := trodAll_cons r1
  obtain ⟨rfl, rfl, rfl⟩ := trodAll_nil r2
  obtain rfl : args = #[v0, v1, v2] := by cases args; simp_all
  obtain ⟨rfl, rfl⟩ := trodVars_none hV
  obtain ⟨a0, rfl, rfl, rfl, w0⟩ := open_int Try.underlying2 (hval 0 2 v0 rfl rfl) h0
  obtain ⟨a1, rfl, rfl, rfl, w1⟩ := open_int Try.underlying2 (hval 1 2 v1 rfl rfl) h1
  obtain ⟨a2, rfl, rfl, rfl, w2⟩ := open_int Try.underlying2 (hval 2 2 v2 rfl rfl) h2
  clear hA0 hval0
  refine (walk a0 a1 a2 w0 w1 w2 W).mono fun e W' ⟨he, bel⟩ => ?_
  subst he
  exact ⟨_, rfl, _, _, _, [], _, [], hW', trodAll_mk1 (shut_bool Try.underlying4 _), (trodAll_cons_mk (shut_int Try.underlying2 w0) (trodAll_cons_mk (shut_int Try.underlying2 w1) (trodAll_cons_mk (shut_int Try.underlying2 w2) trodAll_mk0))), rfl, bel.frame _, fun h => by cases h⟩
theorem over : Rows.exactPartsRow.holds Try.pinned (OpenSpec.ofChange Rows.exactPartsSpec) :=
  OpenClaim.holds_of_wide 4 Try.f4 rfl rfl rfl rfl rfl rfl rfl ⟨rfl, rfl, rfl, rfl, rfl⟩ rfl rfl rfl rfl rfl (by kernel_rfl) Try.func4 (by kernel_rfl)
    (of_decide_eq_true (by kernel_rfl)) (by unfold Func.isWrapper; first | (rw [if_pos (by decide +kernel)]; kernel_rfl) | (rw [if_neg (by decide +kernel)]; exact ⟨rfl, rfl⟩))
    (fun os started H enc _ => lifted os started H enc)
/-- The statement. -/
theorem proved : Rows.ExactPartsSaid := over
end Go.Proofs.Ytggohojgmlchbaa.exactParts
