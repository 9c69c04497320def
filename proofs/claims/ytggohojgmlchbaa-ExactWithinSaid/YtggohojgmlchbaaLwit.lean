/- The statement that what is clamped is within its bounds holds: for every three numbers of 64 bits the law answers true. No conditions. -/
import Derived.Test.YtggohojgmlchbaaRows
import Derived.Test.YtggohojgmlchbaaExl
import Derived.WalkKit
import Derived.ProofKit
import Derived.OpenShut
import Derived.ShutString
import Derived.ChangeOld
import Derived.Below
namespace Go.Proofs.Ytggohojgmlchbaa.exactWithin
open Go.ChangeShapes Go.WideShapes Go.ChangeAt Go.RowKit
theorem own : ownKnob Try.prog.godebug = none := by kernel_rfl
theorem laidOut : laidOutB Try.prog = true := by kernel_rfl
theorem dist_same (a b : Int) : (if a < b then b - a else a - b) = (if b < a then a - b else b - a) := by split <;> split <;> omega
theorem cut_nonneg (x : Int) (h : 0 ≤ x) : 0 ≤ cutV x := by unfold cutV; split <;> omega
theorem clamp_in (a lo hi : Int) (h : lo ≤ hi) : lo ≤ clampV a lo hi ∧ clampV a lo hi ≤ hi ∧ clampV (clampV a lo hi) lo hi = clampV a lo hi := by
  have e : lo ≤ clampV a lo hi ∧ clampV a lo hi ≤ hi := by unfold clampV; split <;> (try split) <;> omega
  exact ⟨e.1, e.2, by rw [show clampV (clampV a lo hi) lo hi = if clampV a lo hi < lo then lo else if hi < clampV a lo hi then hi else clampV a lo hi from rfl, if_neg (by omega), if_neg (by omega)]⟩
set_option maxHeartbeats 400000 in
theorem walk (a0 a1 a2 : Int) (w0 : (Lit.int .i64 a0).wf = true) (w1 : (Lit.int .i64 a1).wf = true) (_ : (Lit.int .i64 a2).wf = true) (w : World) :
    Calls Try.prog 8 #[.int .i64 a0, .int .i64 a1, .int .i64 a2] w fun e w' => e = .returned (.bool true) ∧ Below w.heap.size w w' := by
  have ha := wf64 w0
  have hb := wf64 w1
  clear w0 w1
  have C1 := fun w => clamp_ex a0 a1 a2 w
  have C2 := fun w => dist_ex a0 a1 ha hb w
  have C3 := fun w => dist_ex a1 a0 hb ha w
  rw [← dist_same a0 a1] at C3
  have hx : 0 ≤ cutV (if a0 < a1 then a1 - a0 else a0 - a1) := cut_nonneg _ (by split <;> omega)
  unfold okV at C2 C3
  obtain ⟨x, he⟩ : ∃ s, s = cutV (if a0 < a1 then a1 - a0 else a0 - a1) := ⟨_, rfl⟩
  obtain ⟨t, ht⟩ : ∃ s, s = fitB (if a0 < a1 then a1 - a0 else a0 - a1) := ⟨_, rfl⟩
  rw [← he, ← ht] at C2 C3
  rw [← he] at hx
  have hcl := clamp_in a0 a1 a2
  have C4 := fun w => clamp_ex (clampV a0 a1 a2) a1 a2 w
  obtain ⟨c, hc⟩ : ∃ s, s = clampV a0 a1 a2 := ⟨_, rfl⟩
  rw [← hc] at C1 C4 hcl
  have D1 := Lib.hid C1; have D2 := Lib.hid C2; have D3 := Lib.hid C3; have D4 := Lib.hid C4
  have HC := Lib.hid hcl
  clear C1 C2 C3 C4 hcl hc he ht ha hb
  have hxn : ¬ x < 0 := by omega
  by_cases hlh : a2 < a1
  · cases t
    all_goals
      go_enter Try.func8, Try.ntmps8
      go_wp2_with (fail)
      refine (D1.out _).mono ?_
      rintro e z ⟨rfl, rfl⟩
      go_wp2_with (fail)
      refine (D2.out _).mono ?_
      rintro e z ⟨rfl, rfl⟩
      go_wp2_with (fail)
      refine (D3.out _).mono ?_
      rintro e z ⟨rfl, rfl⟩
      go_wp2_with (fail)
      refine (live_ex _).mono ?_
      rintro e w7 ⟨rfl, b7⟩
      have B7 := Lib.hid (b7); clear b7
      go_wp2_with (fail)
      go_ret
      exact ⟨rfl, B7.out⟩
  · obtain ⟨l1, l2, l3⟩ := HC.out (by omega)
    have E := D4.out
    rw [l3] at E
    have D5 := Lib.hid E
    clear E l3 D4 HC
    cases t
    all_goals
      go_enter Try.func8, Try.ntmps8
      go_wp2_with (fail)
      refine (D1.out _).mono ?_
      rintro e z ⟨rfl, rfl⟩
      go_wp2_with (fail)
      refine (D2.out _).mono ?_
      rintro e z ⟨rfl, rfl⟩
      go_wp2_with (fail)
      refine (D3.out _).mono ?_
      rintro e z ⟨rfl, rfl⟩
      go_wp2_with (fail)
      refine (live_ex _).mono ?_
      rintro e w7 ⟨rfl, b7⟩
      have B7 := Lib.hid (b7); clear b7
      go_wp2_with (fail)
      refine (D5.out _).mono ?_
      rintro e z ⟨rfl, rfl⟩
      go_wp2_with (fail)
      go_ret
      exact ⟨rfl, B7.out⟩
set_option maxRecDepth 100000 in
theorem lifted (os : Os) (started : os.Started) (H : Type) (enc : TypeId × Value → H) :
    ReturnsInHanded {} Try.checked os 8 .any (Rows.exactWithinSpec.pre6 enc Try.prog Try.f8 Rows.exactWithinRow.domain false) (Rows.exactWithinSpec.post enc Try.prog Try.f8 false true false false) := by
  refine returnsInHanded_of_change (C := Try.checked) own started (by kernel_rfl) Try.func8
    (ChangeSpec.witness6 (enc := enc) (C := Try.checked) false ⟨#[], #[.int .i64 0, .int .i64 0, .int .i64 0], []⟩ 8 (by kernel_rfl) (by kernel_rfl) (by kernel_rfl) (by kernel_rfl)) ?_
  intro W base args ds gs before hval0 hW _ _
  have hval : ∀ (j : Nat) t v, Try.f8.params[j]? = some t → args[j]? = some v → Value.okWide Try.prog W .any base t v := hval0
  have hW' := hW
  obtain ⟨p, q, hA0, hV, rfl, hfz, hnd⟩ := hW
  have hA : DataW.TrodAll enc Try.prog W 0 (fun _ => true) true Try.f8.params.toList args.toList ds p := hA0
  rw [Try.params8] at hA hval
  obtain ⟨v0, vs0, d0, ds0, p0, q0, hargs, rfl, rfl, h0, r0⟩ := trodAll_cons hA
  obtain ⟨v1, vs1, d1, ds1, p1, q1, rfl, rfl, rfl, h1, r1⟩ := trodAll_cons r0
  obtain ⟨v2, vs2, d2, ds2, p2, q2, rfl, rfl, rfl, h2, r2⟩ := trodAll_cons r1
  obtain ⟨rfl, rfl, rfl⟩ := trodAll_nil r2
  obtain rfl : args = #[v0, v1, v2] := by cases args; simp_all
  obtain ⟨rfl, rfl⟩ := trodVars_none hV
  obtain ⟨a0, rfl, rfl, rfl, w0⟩ := open_int Try.underlying2 (hval 0 2 v0 rfl rfl) h0
  obtain ⟨a1, rfl, rfl, rfl, w1⟩ := open_int Try.underlying2 (hval 1 2 v1 rfl rfl) h1
  obtain ⟨a2, rfl, rfl, rfl, w2⟩ := open_int Try.underlying2 (hval 2 2 v2 rfl rfl) h2
  clear hA0 hval0
  refine (walk a0 a1 a2 w0 w1 w2 W).mono fun e W' ⟨he, bel⟩ => ?_
  subst he
  exact ⟨_, rfl, _, _, _, [], _, [], hW', trodAll_mk1 (shut_bool Try.underlying4 _), (trodAll_cons_mk (shut_int Try.underlying2 w0) (trodAll_cons_mk (shut_int Try.underlying2 w1) (trodAll_cons_mk (shut_int Try.underlying2 w2) trodAll_mk0))), rfl, bel.frame _, fun h => by cases h⟩
theorem over : Rows.exactWithinRow.holds Try.pinned (OpenSpec.ofChange Rows.exactWithinSpec) :=
  OpenClaim.holds_of_wide 8 Try.f8 rfl rfl rfl rfl rfl rfl rfl ⟨rfl, rfl, rfl, rfl, rfl⟩ rfl rfl rfl rfl rfl (by kernel_rfl) Try.func8 (by kernel_rfl)
    (of_decide_eq_true (by kernel_rfl)) (by unfold Func.isWrapper; first | (rw [if_pos (by decide +kernel)]; kernel_rfl) | (rw [if_neg (by decide +kernel)]; exact ⟨rfl, rfl⟩))
    (fun os started H enc _ => lifted os started H enc)
/-- The statement. -/
theorem proved : Rows.ExactWithinSaid := over
end Go.Proofs.Ytggohojgmlchbaa.exactWithin
