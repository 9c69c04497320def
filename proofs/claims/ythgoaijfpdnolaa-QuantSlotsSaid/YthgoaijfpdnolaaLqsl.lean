/- QuantSlots (P22.1, P22.2): any deadline's slot, where slots begin, and epochs, as the document says. No conditions. -/
import Derived.Test.YthgoaijfpdnolaaRows
import Derived.Test.YthgoaijfpdnolaaQtc
import Derived.Test.YthgoaijfpdnolaaOp2
import Derived.Test.YthgoaijfpdnolaaQui
import Derived.WalkKit
import Derived.ProofKit
import Derived.OpenShut
import Derived.ShutString
import Derived.ChangeOld
import Derived.Below
namespace Go.Proofs.Ythgoaijfpdnolaa.quantSlots
open Go.ChangeShapes Go.WideShapes Go.ChangeAt Go.RowKit
theorem own : ownKnob Try.prog.godebug = none := by kernel_rfl
theorem laidOut : laidOutB Try.prog = true := by kernel_rfl
theorem tmod_in (x m : Int) (hm : 0 < m) : -m < x.tmod m ∧ x.tmod m < m := ⟨by have := Int.lt_tmod_of_pos x hm; omega, Int.tmod_lt_of_pos x hm⟩
def nearI (t : Int) : Int := t.tmod 1125899906842624
theorem near_in (t : Int) : -1125899906842624 < nearI t ∧ nearI t < 1125899906842624 := tmod_in t _ (by decide)
theorem near_any (t : Int) (w : World) : Calls Try.prog 25 #[.int .i64 t] w fun y w' => y = .returned (.int .i64 (nearI t)) ∧ w = w' := by
  go_enter Try.func25, Try.ntmps25
  go_wp2_with fail
  go_ret
  exact ⟨rfl, rfl⟩
theorem and_i40 (n : Int) : 0 ≤ bits .and .i64 n 1099511627775 ∧ bits .and .i64 n 1099511627775 ≤ 1099511627775 := by
  have h : bits .and .i64 n 1099511627775 = IntKind.i64.wrap ((BitVec.ofInt 64 n &&& BitVec.ofInt 64 1099511627775).toNat : Nat) := rfl
  have h2 : (BitVec.ofInt 64 n &&& BitVec.ofInt 64 1099511627775).toNat ≤ 1099511627775 := by
    rw [BitVec.toNat_and]
    exact Nat.le_trans Nat.and_le_right (by decide)
  rw [h, IntKind.wrap_i64]
  omega
/-- Slots of one epoch, in order. -/
theorem slot_eq {d e l : Int} (hq : qmayB l [d, e] = true) : slotX d e l = clampV ((d - e) / l) 0 255 := by unfold slotX; rw [hq]; rfl
theorem slot_mono {a b e l : Int} (ha : qmayB l [a, e] = true) (hb : qmayB l [b, e] = true) (hab : a ≤ b) : slotX a e l ≤ slotX b e l := by
  obtain ⟨h1, _, _⟩ := qmay_two_yes ha
  have h2 : (a - e) / l ≤ (b - e) / l := Int.ediv_le_ediv (by omega) (by omega)
  rw [slot_eq ha, slot_eq hb]
  unfold clampV
  split <;> split <;> (try split) <;> (try split) <;> omega
set_option maxRecDepth 100000 in
set_option maxHeartbeats 4000000 in
theorem walk (d e l : Int) (_ : (Lit.int .i64 d).wf = true) (_ : (Lit.int .i64 e).wf = true) (_ : (Lit.int .i64 l).wf = true) (w : World) :
    Calls Try.prog 3 #[.int .i64 d, .int .i64 e, .int .i64 l] w fun y w' => y = .returned (.bool true) ∧ Below w.heap.size w w' := by
  have H0 := Lib.hid (fun u => qslot_any d e l u)
  have H1 := Lib.hid (fun u => rqslot_any d e l u)
  have H2 := Lib.hid (fun u => qstart_any (d.tmod 300) e l u)
  have H3 := Lib.hid (fun u => rqstart_any (d.tmod 300) e l u)
  have H4 := Lib.hid (fun u => qepoch_any d l u)
  have H5 := Lib.hid (fun u => rqepoch_any d l u)
  have H6 := Lib.hid (fun u => qnext_any d l u)
  have H7 := Lib.hid (fun u => rqnext_any d l u)
  have H8 := Lib.hid (fun u => live22 u)
  have H9 := Lib.hid (fun u => qfar_any d e l u)
  have H10 := Lib.hid (fun u => rqfar_any d e l u)
  obtain ⟨X0, hX0⟩ : ∃ x, x = slotX d e l := ⟨_, rfl⟩
  rw [← hX0] at H0 H1
  clear hX0
  have eX0 : (X0 == X0) = true := by simp
  obtain ⟨X1, hX1⟩ : ∃ x, x = qmayB l [d, e] := ⟨_, rfl⟩
  rw [← hX1] at H0 H1
  clear hX1
  have eX1 : (X1 == X1) = true := by simp
  obtain ⟨X2, hX2⟩ : ∃ x, x = startX (d.tmod 300) e l := ⟨_, rfl⟩
  rw [← hX2] at H2 H3
  clear hX2
  have eX2 : (X2 == X2) = true := by simp
  obtain ⟨X3, hX3⟩ : ∃ x, x = startB (d.tmod 300) e l := ⟨_, rfl⟩
  rw [← hX3] at H2 H3
  clear hX3
  have eX3 : (X3 == X3) = true := by simp
  obtain ⟨X4, hX4⟩ : ∃ x, x = epochX d l := ⟨_, rfl⟩
  rw [← hX4] at H4 H5
  clear hX4
  have eX4 : (X4 == X4) = true := by simp
  obtain ⟨X5, hX5⟩ : ∃ x, x = qmayB l [d] := ⟨_, rfl⟩
  rw [← hX5] at H4 H5 H6 H7
  clear hX5
  have eX5 : (X5 == X5) = true := by simp
  obtain ⟨X6, hX6⟩ : ∃ x, x = nextX d l := ⟨_, rfl⟩
  rw [← hX6] at H6 H7
  clear hX6
  have eX6 : (X6 == X6) = true := by simp
  obtain ⟨X7, hX7⟩ : ∃ x, x = farB d e l := ⟨_, rfl⟩
  rw [← hX7] at H9 H10
  clear hX7
  have eX7 : (X7 == X7) = true := by simp
  go_enter Try.func3, Try.ntmps3
  go_wp2_with fail
  refine (H0.out _).mono ?_
  rintro y w0 ⟨rfl, hb⟩
  have HB0 := Lib.hid hb
  clear hb
  go_wp2_with fail
  refine (H1.out _).mono ?_
  rintro y w1 ⟨rfl, rfl⟩
  go_wp2_with fail
  refine (H2.out _).mono ?_
  rintro y w2 ⟨rfl, hb⟩
  have HB2 := Lib.hid (below_transG HB0.out hb)
  clear hb
  go_wp2_with fail
  refine (H3.out _).mono ?_
  rintro y w3 ⟨rfl, rfl⟩
  go_wp2_with fail
  refine (H4.out _).mono ?_
  rintro y w4 ⟨rfl, hb⟩
  have HB4 := Lib.hid (below_transG HB2.out hb)
  clear hb
  go_wp2_with fail
  refine (H5.out _).mono ?_
  rintro y w5 ⟨rfl, hb⟩
  have HB5 := Lib.hid (below_transG HB4.out hb)
  clear hb
  go_wp2_with fail
  refine (H6.out _).mono ?_
  rintro y w6 ⟨rfl, hb⟩
  have HB6 := Lib.hid (below_transG HB5.out hb)
  clear hb
  go_wp2_with fail
  refine (H7.out _).mono ?_
  rintro y w7 ⟨rfl, hb⟩
  have HB7 := Lib.hid (below_transG HB6.out hb)
  clear hb
  go_wp2_with fail
  refine (H8.out _).mono ?_
  rintro y w8 ⟨rfl, hb⟩
  have HB8 := Lib.hid (below_transG HB7.out hb)
  clear hb
  go_wp2_with fail
  refine (H9.out _).mono ?_
  rintro y w9 ⟨rfl, hb⟩
  have HB9 := Lib.hid (below_transG HB8.out hb)
  clear hb
  go_wp2_with fail
  refine (H10.out _).mono ?_
  rintro y w10 ⟨rfl, rfl⟩
  go_wp2_with fail
  go_ret
  exact ⟨rfl, HB9.out⟩
set_option maxRecDepth 100000 in
theorem lifted (os : Os) (started : os.Started) (H : Type) (enc : TypeId × Value → H) :
    ReturnsInHanded {} Try.checked os 3 .any (Rows.quantSlotsSpec.pre6 enc Try.prog Try.f3 Rows.quantSlotsRow.domain false) (Rows.quantSlotsSpec.post enc Try.prog Try.f3 false true false false) := by
  refine returnsInHanded_of_change (C := Try.checked) own started (by kernel_rfl) Try.func3
    (ChangeSpec.witness6 (enc := enc) (C := Try.checked) false ⟨#[], #[.int .i64 0, .int .i64 0, .int .i64 0], []⟩ 8 (by kernel_rfl) (by kernel_rfl) (by kernel_rfl) (by kernel_rfl)) ?_
  intro W base args ds gs before hval0 hW _ _
  have hval : ∀ (j : Nat) t v, Try.f3.params[j]? = some t → args[j]? = some v → Value.okWide Try.prog W .any base t v := hval0
  have hW' := hW
  obtain ⟨p, q, hA0, hV, rfl, hfz, hnd⟩ := hW
  have hA : DataW.TrodAll enc Try.prog W 0 (fun _ => true) true Try.f3.params.toList args.toList ds p := hA0
  rw [Try.params3] at hA hval
  obtain ⟨v0, vs0, d0, ds0, p0, q0, hargs, rfl, rfl, h0, r0⟩ := trodAll_cons hA
  obtain ⟨v1, vs1, d1, ds1, p1, q1, rfl, rfl, rfl, h1, r1⟩ := trodAll_cons r0
  obtain ⟨v2, vs2, d2, ds2, p2, q2, rfl, rfl, rfl, h2, r2⟩ := trodAll_cons r1
  obtain ⟨rfl, rfl, rfl⟩ := trodAll_nil r2
  obtain rfl : args = #[v0, v1, v2] := by cases args; simp_all
  obtain ⟨rfl, rfl⟩ := trodVars_none hV
  obtain ⟨a0, rfl, rfl, rfl, w0⟩ := open_int Try.underlying2 (hval 0 2 v0 rfl rfl) h0
  obtain ⟨a1, rfl, rfl, rfl, w1⟩ := open_int Try.underlying2 (hval 1 2 v1 rfl rfl) h1
  obtain ⟨a2, rfl, rfl, rfl, w2⟩ := open_int Try.underlying2 (hval 2 2 v2 rfl rfl) h2
  clear hA0 hval0
  refine (walk a0 a1 a2 w0 w1 w2 W).mono fun e W' ⟨he, bel⟩ => ?_
  subst he
  exact ⟨_, rfl, _, _, _, [], _, [], hW', trodAll_mk1 (shut_bool Try.underlying4 _), (trodAll_cons_mk (shut_int Try.underlying2 w0) (trodAll_cons_mk (shut_int Try.underlying2 w1) (trodAll_cons_mk (shut_int Try.underlying2 w2) trodAll_mk0))), rfl, bel.frame _, fun h => by cases h⟩
theorem over : Rows.quantSlotsRow.holds Try.pinned (OpenSpec.ofChange Rows.quantSlotsSpec) :=
  OpenClaim.holds_of_wide 3 Try.f3 rfl rfl rfl rfl rfl rfl rfl ⟨rfl, rfl, rfl, rfl, rfl⟩ rfl rfl rfl rfl rfl (by kernel_rfl) Try.func3 (by kernel_rfl)
    (of_decide_eq_true (by kernel_rfl)) (by unfold Func.isWrapper; first | (rw [if_pos (by decide +kernel)]; kernel_rfl) | (rw [if_neg (by decide +kernel)]; exact ⟨rfl, rfl⟩))
    (fun os started H enc _ => lifted os started H enc)
/-- The statement. -/
theorem proved : Rows.QuantSlotsSaid := over
end Go.Proofs.Ythgoaijfpdnolaa.quantSlots
