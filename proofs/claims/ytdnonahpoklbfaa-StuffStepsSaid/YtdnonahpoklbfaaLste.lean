/- The statement of P4.1, P4.2 (StuffSteps): what a bit is behind any run, what is due, and how long a string is at most, as the document says. Conditions: none. -/
import Derived.Test.YtdnonahpoklbfaaRows
import Derived.Test.YtdnonahpoklbfaaSfl
import Derived.Test.YtdnonahpoklbfaaRka
import Derived.Lib.SmallJoins
import Derived.WalkKit
import Derived.ProofKit
import Derived.OpenShut
import Derived.ShutString
import Derived.ChangeOld
import Derived.Below
namespace Go.Proofs.Ytdnonahpoklbfaa.stuffSteps
open Go.ChangeShapes Go.WideShapes Go.ChangeAt Go.RowKit
theorem own : ownKnob Try.prog.godebug = none := by kernel_rfl
theorem laidOut : laidOutB Try.prog = true := by kernel_rfl
set_option maxHeartbeats 1000000 in
theorem walk (b0 n x0 m : Int) (w0 : (Lit.int .u8 b0).wf = true) (_w1 : (Lit.int .i64 n).wf = true) (w2 : (Lit.int .u8 x0).wf = true) (_w3 : (Lit.int .i64 m).wf = true) (w : World) :
    Calls Try.prog 3 #[.agg #[.int .u8 b0, .int .i64 n], .int .u8 x0, .int .i64 m] w fun e w' => e = .returned (.bool true) ∧ Below w.heap.size w w' := by
  have h0 := wfu8 w0
  have h2 := wfu8 w2
  obtain ⟨b, rfl⟩ : ∃ b : Nat, b0 = b := ⟨b0.toNat, by omega⟩
  obtain ⟨x, rfl⟩ : ∃ x : Nat, x0 = x := ⟨x0.toNat, by omega⟩
  clear w0 w2 h0 h2
  have HN := Lib.hid (fun u => next_any b n x u)
  have HR := Lib.hid (fun u => refNext_any b n x u)
  rw [show nextB b n (bitN x) = nextW b n (bitN x) from rfl] at HR
  obtain ⟨ab, hab⟩ : ∃ ab, ab = (nextW b n (bitN x)).1.1 := ⟨_, rfl⟩
  obtain ⟨an, han⟩ : ∃ an, an = (nextW b n (bitN x)).1.2 := ⟨_, rfl⟩
  obtain ⟨k, hk⟩ : ∃ k, k = (nextW b n (bitN x)).2 := ⟨_, rfl⟩
  rw [← hab, ← han, ← hk] at HN HR
  have HD := Lib.hid (fun u => due_any b n u)
  have HE := Lib.hid (fun u => refDue_any b n u)
  rw [show dueB b n = dueW b n from rfl] at HE
  obtain ⟨d, hd⟩ : ∃ d, d = (dueW b n).1 := ⟨_, rfl⟩
  obtain ⟨q, hq⟩ : ∃ q, q = (dueW b n).2 := ⟨_, rfl⟩
  rw [← hd, ← hq] at HD HE
  have HM := Lib.hid (fun u => most_any m u)
  have HO := Lib.hid (fun u => refMost_any m u)
  rw [show mostB m = mostW m from rfl] at HO
  obtain ⟨z, hz⟩ : ∃ z, z = mostW m := ⟨_, rfl⟩
  rw [← hz] at HM HO
  clear hab han hk hd hq hz
  unfold runW at HN HD
  unfold runV at HR HE
  go_enter Try.func3, Try.ntmps3
  go_wp2_with (fail)
  refine (HN.out _).mono ?_
  rintro e w1 ⟨rfl, hb⟩
  have hz1 : w.heap.size + 1 ≤ w1.heap.size := by have := hb.size; simp at this; omega
  have HP1 := Lib.hid ((Two.new w (.int .u8 (b : Int)) (.int .i64 n) 23 rfl).keep hb (by simp))
  have HB1 := Lib.hid (below_trans' ((Below.refl _ w).alloc (Nat.le_refl _) (.cells #[.int .u8 (b : Int), .int .i64 n] 23)) hb)
  have hp0A : ∀ o, (w1.alloc o).cell? ⟨w.heap.size, 0, none⟩ = some (.int .u8 (b : Int)) := fun o => (HP1.out.more (by omega) o).1
  have hp1A : ∀ o, (w1.alloc o).cell? ⟨w.heap.size, 1, none⟩ = some (.int .i64 n) := fun o => (HP1.out.more (by omega) o).2.1
  clear hb HN
  go_wp2_with (fail)
  refine (HR.out _).mono ?_
  rintro e w2 ⟨rfl, hb⟩
  have hz2 : w1.heap.size + 1 ≤ w2.heap.size := by have := hb.size; simp at this; omega
  have HP2 := Lib.hid ((HP1.out.more (by omega) (.cells #[.int .u8 (ab : Int), .int .i64 an] 23)).keep hb (by simp; omega))
  have HA2 := Lib.hid ((Two.new w1 (.int .u8 (ab : Int)) (.int .i64 an) 23 rfl).keep hb (by simp))
  have HB2 := Lib.hid (below_trans' (HB1.out.alloc (by omega) (.cells #[.int .u8 (ab : Int), .int .i64 an] 23)) hb)
  clear hb HR hp0A hp1A HP1 HB1
  have hp0A : ∀ o, (w2.alloc o).cell? ⟨w.heap.size, 0, none⟩ = some (.int .u8 (b : Int)) := fun o => (HP2.out.more (by omega) o).1
  have hp1A : ∀ o, (w2.alloc o).cell? ⟨w.heap.size, 1, none⟩ = some (.int .i64 n) := fun o => (HP2.out.more (by omega) o).2.1
  go_wp2_with (fail)
  refine (HD.out _).mono ?_
  rintro e w3 ⟨rfl, hb⟩
  have hz3 : w2.heap.size + 1 ≤ w3.heap.size := by have := hb.size; simp at this; omega
  have HP3 := Lib.hid ((HP2.out.more (by omega) (.cells #[.int .u8 (ab : Int), .int .i64 an] 27)).keep hb (by simp; omega))
  have HA3 := Lib.hid ((HA2.out.more (by omega) (.cells #[.int .u8 (ab : Int), .int .i64 an] 27)).keep hb (by simp; omega))
  have HQ3 := Lib.hid ((Two.new w2 (.int .u8 (ab : Int)) (.int .i64 an) 27 rfl).keep hb (by simp))
  have HB3 := Lib.hid (below_trans' (HB2.out.alloc (by omega) (.cells #[.int .u8 (ab : Int), .int .i64 an] 27)) hb)
  clear hb HD hp0A hp1A HP2 HB2 HA2
  obtain ⟨p0, p1, _, _⟩ := HP3.out
  go_wp2_with (fail)
  refine (HE.out _).mono ?_
  rintro e w4 ⟨rfl, hb⟩
  have hz4 : w3.heap.size ≤ w4.heap.size := hb.size
  have HA4 := Lib.hid (HA3.out.keep hb (by omega))
  have HQ4 := Lib.hid (HQ3.out.keep hb (by omega))
  have HB4 := Lib.hid (below_trans' HB3.out hb)
  clear hb HE HP3 HB3 HA3 HQ3 p0 p1
  go_wp2_with (fail)
  refine (live4 _).mono ?_
  rintro e w5 ⟨rfl, hb⟩
  have HA5 := Lib.hid (HA4.out.keep hb (by omega))
  have HQ5 := Lib.hid (HQ4.out.keep hb (by omega))
  have HB5 := Lib.hid (below_trans' HB4.out hb)
  clear hb HB4 HA4 HQ4
  obtain ⟨q0, q1, _, _⟩ := HA5.out
  obtain ⟨r0, r1, _, _⟩ := HQ5.out
  go_wp2_with (fail)
  refine (HM.out _).mono ?_
  rintro e w6 ⟨rfl, rfl⟩
  go_wp2_with (fail)
  refine (HO.out _).mono ?_
  rintro e w7 ⟨rfl, rfl⟩
  go_wp2_with (fail)
  go_ret
  exact ⟨rfl, HB5.out⟩
set_option maxRecDepth 100000 in
theorem lifted (os : Os) (started : os.Started) (H : Type) (enc : TypeId × Value → H) :
    ReturnsInHanded {} Try.checked os 3 .any (Rows.stuffStepsSpec.pre6 enc Try.prog Try.f3 Rows.stuffStepsRow.domain false) (Rows.stuffStepsSpec.post enc Try.prog Try.f3 false true false false) := by
  refine returnsInHanded_of_change (C := Try.checked) own started (by kernel_rfl) Try.func3
    (ChangeSpec.witness6 (enc := enc) (C := Try.checked) false ⟨#[], #[.agg #[.int .u8 0, .int .i64 0], .int .u8 0, .int .i64 0], []⟩ 8 (by kernel_rfl) (by kernel_rfl) (by kernel_rfl) (by kernel_rfl)) ?_
  intro W base args ds gs before hval0 hW _ _
  have hval : ∀ (j : Nat) t v, Try.f3.params[j]? = some t → args[j]? = some v → Value.okWide Try.prog W .any base t v := hval0
  have hW' := hW
  obtain ⟨p, q, hA0, hV, rfl, hfz, hnd⟩ := hW
  have hA : DataW.TrodAll enc Try.prog W 0 (fun _ => true) true Try.f3.params.toList args.toList ds p := hA0
  rw [Try.params3] at hA hval
  obtain ⟨v0, vs0, d0, ds0, p0, q0, hargs, rfl, rfl, h0, r0⟩ := trodAll_cons hA
  obtain ⟨v1, vs1, d1, ds1, p1, q1, rfl, rfl, rfl, h1, r1⟩ := trodAll_cons r0
  obtain ⟨v2, vs2, d2, ds2, p2, q2, rfl, rfl, rfl, h2, r2⟩ := trodAll_cons r1
  obtain ⟨rfl, rfl, rfl⟩ := trodAll_nil r2
  obtain rfl : args = #[v0, v1, v2] := by cases args; simp_all
  obtain ⟨rfl, rfl⟩ := trodVars_none hV
  have k0 := h0
  have lt0 : ∀ x ∈ p0, x.block < W.heap.size := by obtain ⟨m, hm⟩ := k0; exact DataW.trod_lt m _ _ _ hm
  obtain ⟨ca0, cb0, ya0, yb0, n0, rfl, rfl, rfl, ta0, tb0⟩ := Joins.open_agg2 Try.underlying23 (by kernel_rfl) (by kernel_rfl) (hval 0 23 v0 rfl rfl) h0
  obtain ⟨xa0, hxa0, rfl, wa0⟩ := DataW.trod_int Try.underlying5 ta0
  obtain ⟨xb0, hxb0, rfl, wb0⟩ := DataW.trod_int Try.underlying3 tb0
  obtain rfl : ca0 = .int .u8 xa0 := by simpa using hxa0
  obtain rfl : cb0 = .int .i64 xb0 := by simpa using hxb0
  obtain ⟨a1, rfl, rfl, rfl, w1⟩ := open_int Try.underlying5 (hval 1 5 v1 rfl rfl) h1
  obtain ⟨a2, rfl, rfl, rfl, w2⟩ := open_int Try.underlying3 (hval 2 3 v2 rfl rfl) h2
  clear hA0 hval0
  refine (walk xa0 xb0 a1 a2 wa0 wb0 w1 w2 W).mono fun e W' ⟨he, bel⟩ => ?_
  subst he
  exact ⟨_, rfl, _, _, _, [], _, [], hW', trodAll_mk1 (shut_bool Try.underlying4 _), (trodAll_cons_mk (Below.trod laidOut (by kernel_rfl) (of_decide_eq_true (by kernel_rfl)) k0 bel lt0) (trodAll_cons_mk (shut_int Try.underlying5 w1) (trodAll_cons_mk (shut_int Try.underlying3 w2) trodAll_mk0))), rfl, bel.frame _, fun h => by cases h⟩
theorem over : Rows.stuffStepsRow.holds Try.pinned (OpenSpec.ofChange Rows.stuffStepsSpec) :=
  OpenClaim.holds_of_wide 3 Try.f3 rfl rfl rfl rfl rfl rfl rfl ⟨rfl, rfl, rfl, rfl, rfl⟩ rfl rfl rfl rfl rfl (by kernel_rfl) Try.func3 (by kernel_rfl)
    (of_decide_eq_true (by kernel_rfl)) (by unfold Func.isWrapper; first | (rw [if_pos (by decide +kernel)]; kernel_rfl) | (rw [if_neg (by decide +kernel)]; exact ⟨rfl, rfl⟩))
    (fun os started H enc _ => lifted os started H enc)
/-- The statement. -/
theorem proved : Rows.StuffStepsSaid := over
end Go.Proofs.Ytdnonahpoklbfaa.stuffSteps
