/- OscLatest (P16.4): what a stamp is expanded to has it, is not above now, and less than a turn behind. No conditions. -/
import Derived.Test.YtfmmpglehiiofaaRows
import Derived.Test.YtfmmpglehiiofaaOsl
import Derived.WalkKit
import Derived.ProofKit
import Derived.OpenShut
import Derived.ShutString
import Derived.ChangeOld
import Derived.Below
namespace Go.Proofs.Ytfmmpglehiiofaa.oscLatest
open Go.ChangeShapes Go.WideShapes Go.ChangeAt Go.RowKit
theorem own : ownKnob Try.prog.godebug = none := by kernel_rfl
theorem laidOut : laidOutB Try.prog = true := by kernel_rfl
theorem lat_x {now s P b : Int} (_hP : 0 < P) (h0 : 0 ≤ s) (h1 : s < P) (hb : b = (now - s) % P) : (now - b) % P = s := by
  have e := Int.mul_ediv_add_emod (now - s) P
  have e2 : now - b = s + P * ((now - s) / P) := by rw [hb]; omega
  rw [e2, Int.add_mul_emod_self_left, Int.emod_eq_of_lt h0 h1]
set_option maxHeartbeats 1000000 in
theorem walk (a0 a1 a2 : Int) (w0 : (Lit.int .i64 a0).wf = true) (w1 : (Lit.int .u64 a1).wf = true) (_w2 : (Lit.int .i64 a2).wf = true) (w : World) :
    Calls Try.prog 10 #[.int .i64 a0, .int .u64 a1, .int .i64 a2] w fun y w' => y = .returned (.bool true) ∧ Below w.heap.size w w' := by
  have h0 := wf64 w0
  have h1 := wfu64 w1
  have HX := Lib.hid (fun u => osc_expand a0 a1 a2 h0 h1 u)
  by_cases ho : expO a0 a1 a2 = true
  case neg =>
    have ho2 : expO a0 a1 a2 = false := by simpa using ho
    have hx : expX a0 a1 a2 = 0 := by unfold expX; rw [if_neg ho]
    rw [ho2, hx] at HX
    clear ho ho2 hx w0 w1
    go_enter Try.func10, Try.ntmps10
    go_wp2_with fail
    refine (HX.out _).mono ?_
    rintro y w4 ⟨rfl, rfl⟩
    go_wp2_with fail
    refine (live16 _).mono ?_
    rintro y w3 ⟨rfl, hb⟩
    have HB3 := Lib.hid hb
    clear hb
    go_wp2_with fail
    go_ret
    exact ⟨rfl, HB3.out⟩
  obtain ⟨g0, g1, g2⟩ := of_decide_eq_true ho
  have hr : 1 ≤ a2 ∧ a2 ≤ 62 := by
    by_cases h : 1 ≤ a2 ∧ a2 ≤ 62
    · exact h
    · rw [turn_no h] at g1; omega
  obtain ⟨k, rfl⟩ : ∃ k : Nat, a2 = (k : Int) := ⟨a2.toNat, by omega⟩
  have hk1 : 1 ≤ k ∧ k ≤ 62 := by omega
  have hp := pow_in k hk1
  have ht := turn_yes k hk1
  have hu : IntKind.u64.wrap (k : Int) = (k : Int) := by rw [IntKind.wrap_u64]; omega
  obtain ⟨P, hP⟩ : ∃ P : Int, P = ((2 ^ k : Nat) : Int) := ⟨_, rfl⟩
  have hTP : ((turnN (k : Int) : Nat) : Int) = P := by rw [ht, hP]
  rw [hTP] at g1 g2
  obtain ⟨b, hb⟩ : ∃ b, b = (a0 - a1) % P := ⟨_, rfl⟩
  have hm0 := Int.emod_nonneg (a0 - a1) (show P ≠ 0 by omega)
  have hm1 := Int.emod_lt_of_pos (a0 - a1) (show 0 < P by omega)
  have hxx : expX a0 a1 (k : Int) = a0 - b := by unfold expX; rw [ho, if_pos rfl, hTP, ← hb]
  have hl := lat_x (now := a0) (s := a1) (P := P) (b := b) (by omega) h1.1 g1 hb
  rw [← hb] at hm0 hm1 g2
  obtain ⟨x, hx⟩ : ∃ x, x = a0 - b := ⟨_, rfl⟩
  rw [ho, hxx, ← hx] at HX
  have hst : stampI x (k : Int) = a1 := by unfold stampI; rw [hTP, if_neg (by omega), hx, hl]
  have HS := Lib.hid (fun u => osc_stamp x (k : Int) u)
  rw [hst] at HS
  have hw : wrap64 (a0 - x) = b := by rw [hx, w64_in _ (by omega)]; omega
  have hz : b / 2 ^ k = 0 := by rw [show ((2 : Int) ^ k) = ((2 ^ k : Nat) : Int) by rw [Int.natCast_pow]; rfl]; rw [← hP]; exact Int.ediv_eq_zero_of_lt hm0 hm1
  have hz0 : b / ((2 ^ k : Nat) : Int) = 0 := by rw [← hP]; exact Int.ediv_eq_zero_of_lt hm0 hm1
  have i1 : 0 ≤ x := by omega
  have i2 : x ≤ a0 := by omega
  have i3 : ¬ (k : Int) < 0 := by omega
  have i4 : (0 : Int) ≤ (k : Int) := by omega
  have i5 : (k : Int) ≤ 62 := by omega
  have hmin : min k 64 = k := by omega
  have kx : (a1 == a1) = true := by simp
  clear hk1 hp ht hP hTP hr w0 w1 hx hst hm0 hm1 hb ho hxx hl g0 g1 g2 h0 h1
  go_enter Try.func10, Try.ntmps10
  go_wp2_with fail
  refine (HX.out _).mono ?_
  rintro y w4 ⟨rfl, rfl⟩
  go_wp2_with fail
  refine (live16 _).mono ?_
  rintro y w3 ⟨rfl, hb⟩
  have HB3 := Lib.hid hb
  clear hb
  go_wp2_with fail
  refine (HS.out _).mono ?_
  rintro y w4 ⟨rfl, rfl⟩
  go_wp2_with fail
  go_ret
  exact ⟨rfl, HB3.out⟩
set_option maxRecDepth 100000 in
theorem lifted (os : Os) (started : os.Started) (H : Type) (enc : TypeId × Value → H) :
    ReturnsInHanded {} Try.checked os 10 .any (Rows.oscLatestSpec.pre6 enc Try.prog Try.f10 Rows.oscLatestRow.domain false) (Rows.oscLatestSpec.post enc Try.prog Try.f10 false true false false) := by
  refine returnsInHanded_of_change (C := Try.checked) own started (by kernel_rfl) Try.func10
    (ChangeSpec.witness6 (enc := enc) (C := Try.checked) false ⟨#[], #[.int .i64 0, .int .u64 0, .int .i64 0], []⟩ 8 (by kernel_rfl) (by kernel_rfl) (by kernel_rfl) (by kernel_rfl)) ?_
  intro W base args ds gs before hval0 hW _ _
  have hval : ∀ (j : Nat) t v, Try.f10.params[j]? = some t → args[j]? = some v → Value.okWide Try.prog W .any base t v := hval0
  have hW' := hW
  obtain ⟨p, q, hA0, hV, rfl, hfz, hnd⟩ := hW
  have hA : DataW.TrodAll enc Try.prog W 0 (fun _ => true) true Try.f10.params.toList args.toList ds p := hA0
  rw [Try.params10] at hA hval
  obtain ⟨v0, vs0, d0, ds0, p0, q0, hargs, rfl, rfl, h0, r0⟩ := trodAll_cons hA
  obtain ⟨v1, vs1, d1, ds1, p1, q1, rfl, rfl, rfl, h1, r1⟩ := trodAll_cons r0
  obtain ⟨v2, vs2, d2, ds2, p2, q2, rfl, rfl, rfl, h2, r2⟩ := trodAll_cons r1
  obtain ⟨rfl, rfl, rfl⟩ := trodAll_nil r2
  obtain rfl : args = #[v0, v1, v2] := by cases args; simp_all
  obtain ⟨rfl, rfl⟩ := trodVars_none hV
  obtain ⟨a0, rfl, rfl, rfl, w0⟩ := open_int Try.underlying2 (hval 0 2 v0 rfl rfl) h0
  obtain ⟨a1, rfl, rfl, rfl, w1⟩ := open_int Try.underlying104 (hval 1 104 v1 rfl rfl) h1
  obtain ⟨a2, rfl, rfl, rfl, w2⟩ := open_int Try.underlying3 (hval 2 3 v2 rfl rfl) h2
  clear hA0 hval0
  refine (walk a0 a1 a2 w0 w1 w2 W).mono fun e W' ⟨he, bel⟩ => ?_
  subst he
  exact ⟨_, rfl, _, _, _, [], _, [], hW', trodAll_mk1 (shut_bool Try.underlying4 _), (trodAll_cons_mk (shut_int Try.underlying2 w0) (trodAll_cons_mk (shut_int Try.underlying104 w1) (trodAll_cons_mk (shut_int Try.underlying3 w2) trodAll_mk0))), rfl, bel.frame _, fun h => by cases h⟩
theorem over : Rows.oscLatestRow.holds Try.pinned (OpenSpec.ofChange Rows.oscLatestSpec) :=
  OpenClaim.holds_of_wide 10 Try.f10 rfl rfl rfl rfl rfl rfl rfl ⟨rfl, rfl, rfl, rfl, rfl⟩ rfl rfl rfl rfl rfl (by kernel_rfl) Try.func10 (by kernel_rfl)
    (of_decide_eq_true (by kernel_rfl)) (by unfold Func.isWrapper; first | (rw [if_pos (by decide +kernel)]; kernel_rfl) | (rw [if_neg (by decide +kernel)]; exact ⟨rfl, rfl⟩))
    (fun os started H enc _ => lifted os started H enc)
/-- The statement. -/
theorem proved : Rows.OscLatestSaid := over
end Go.Proofs.Ytfmmpglehiiofaa.oscLatest
