/- QuantEpochs (P22.2): an epoch is not later than now, and the next one is. No conditions. -/
import Derived.Test.YthgoaijfpdnolaaRows
import Derived.Test.YthgoaijfpdnolaaQtc
import Derived.Test.YthgoaijfpdnolaaOp2
import Derived.Test.YthgoaijfpdnolaaQui
import Derived.WalkKit
import Derived.ProofKit
import Derived.OpenShut
import Derived.ShutString
import Derived.ChangeOld
import Derived.Below
namespace Go.Proofs.Ythgoaijfpdnolaa.quantEpochs
open Go.ChangeShapes Go.WideShapes Go.ChangeAt Go.RowKit
theorem own : ownKnob Try.prog.godebug = none := by kernel_rfl
theorem laidOut : laidOutB Try.prog = true := by kernel_rfl
theorem tmod_in (x m : Int) (hm : 0 < m) : -m < x.tmod m ∧ x.tmod m < m := ⟨by have := Int.lt_tmod_of_pos x hm; omega, Int.tmod_lt_of_pos x hm⟩
def nearI (t : Int) : Int := t.tmod 1125899906842624
theorem near_in (t : Int) : -1125899906842624 < nearI t ∧ nearI t < 1125899906842624 := tmod_in t _ (by decide)
theorem near_any (t : Int) (w : World) : Calls Try.prog 25 #[.int .i64 t] w fun y w' => y = .returned (.int .i64 (nearI t)) ∧ w = w' := by
  go_enter Try.func25, Try.ntmps25
  go_wp2_with fail
  go_ret
  exact ⟨rfl, rfl⟩
theorem and_i40 (n : Int) : 0 ≤ bits .and .i64 n 1099511627775 ∧ bits .and .i64 n 1099511627775 ≤ 1099511627775 := by
  have h : bits .and .i64 n 1099511627775 = IntKind.i64.wrap ((BitVec.ofInt 64 n &&& BitVec.ofInt 64 1099511627775).toNat : Nat) := rfl
  have h2 : (BitVec.ofInt 64 n &&& BitVec.ofInt 64 1099511627775).toNat ≤ 1099511627775 := by
    rw [BitVec.toNat_and]
    exact Nat.le_trans Nat.and_le_right (by decide)
  rw [h, IntKind.wrap_i64]
  omega
/-- Slots of one epoch, in order. -/
theorem slot_eq {d e l : Int} (hq : qmayB l [d, e] = true) : slotX d e l = clampV ((d - e) / l) 0 255 := by unfold slotX; rw [hq]; rfl
theorem slot_mono {a b e l : Int} (ha : qmayB l [a, e] = true) (hb : qmayB l [b, e] = true) (hab : a ≤ b) : slotX a e l ≤ slotX b e l := by
  obtain ⟨h1, _, _⟩ := qmay_two_yes ha
  have h2 : (a - e) / l ≤ (b - e) / l := Int.ediv_le_ediv (by omega) (by omega)
  rw [slot_eq ha, slot_eq hb]
  unfold clampV
  split <;> split <;> (try split) <;> (try split) <;> omega
set_option maxRecDepth 100000 in
set_option maxHeartbeats 4000000 in
theorem walk (d0 n : Int) (_ : (Lit.int .i64 d0).wf = true) (_ : (Lit.int .i64 n).wf = true) (w : World) :
    Calls Try.prog 7 #[.int .i64 d0, .int .i64 n] w fun y w' => y = .returned (.bool true) ∧ Below w.heap.size w w' := by
  have ha := near_in d0
  have hlen := and_i40 n
  obtain ⟨g, hg⟩ : ∃ g, bits .and .i64 n 1099511627775 = g := ⟨_, rfl⟩
  rw [hg] at hlen
  obtain ⟨l, hl⟩ : ∃ l, l = g + 1 := ⟨_, rfl⟩
  have hwl : wrap64 (g + 1) = l := by rw [hl]; exact w64_in _ (by omega)
  have hl1 : 1 ≤ l ∧ l ≤ 1099511627776 := by omega
  have NA := Lib.hid (near_any d0)
  obtain ⟨d, hea⟩ : ∃ a, a = nearI d0 := ⟨_, rfl⟩
  rw [← hea] at NA ha
  have qa : qmayB l [d] = true := qmay_one_of hl1 (by omega)
  have HE := Lib.hid (fun u => qepoch_any d l u)
  have HN := Lib.hid (fun u => qnext_any d l u)
  rw [qa] at HE HN
  have h3 := epoch_in qa
  have h4 : epochX d l % l = 0 := by
    unfold epochX; rw [qa]
    show (d - d % l) % l = 0
    rw [Int.sub_emod, Int.emod_emod, Int.sub_self, Int.zero_emod]
  have hlo : -9223372036854775808 ≤ epochX d l ∧ epochX d l ≤ 9223372036854775807 := by omega
  obtain ⟨e, hee⟩ : ∃ s, s = epochX d l := ⟨_, rfl⟩
  rw [← hee] at HE h3 h4 hlo
  obtain ⟨x, hx⟩ : ∃ t, t = nextX d l := ⟨_, rfl⟩
  rw [← hx] at HN h3
  have HM := Lib.hid (fun u => mod_rf e l hlo (by omega) u)
  have e1 : modV e l = .tuple #[.int .i64 0, .bool true] := by unfold modV; rw [if_pos (by omega), h4]
  rw [e1] at HM
  have i1 : e ≤ d := h3.1
  have i2 : d < x := by omega
  have i3 : wrap64 (x - e) = l := by rw [show x - e = l by omega]; exact w64_in _ (by omega)
  have i4 : (l == l) = true := by simp
  clear hee hx h3 h4 hlo e1 qa ha hea hlen hl hl1
  go_enter Try.func7, Try.ntmps7
  go_wp2_with fail
  refine (NA.out _).mono ?_
  rintro y w1 ⟨rfl, rfl⟩
  go_wp2_with fail
  refine (HE.out _).mono ?_
  rintro y w3 ⟨rfl, hb⟩
  have HB3 := Lib.hid hb
  clear hb
  go_wp2_with fail
  refine (HN.out _).mono ?_
  rintro y w4 ⟨rfl, hb⟩
  have HB4 := Lib.hid (below_transG HB3.out hb)
  clear hb
  go_wp2_with fail
  refine (HM.out _).mono ?_
  rintro y w5 ⟨rfl, hb⟩
  have HB5 := Lib.hid (below_transG HB4.out hb)
  clear hb
  go_wp2_with fail
  refine (live22 _).mono ?_
  rintro y w6 ⟨rfl, hb⟩
  have HB6 := Lib.hid (below_transG HB5.out hb)
  clear hb
  go_wp2_with fail
  go_ret
  exact ⟨rfl, HB6.out⟩
set_option maxRecDepth 100000 in
theorem lifted (os : Os) (started : os.Started) (H : Type) (enc : TypeId × Value → H) :
    ReturnsInHanded {} Try.checked os 7 .any (Rows.quantEpochsSpec.pre6 enc Try.prog Try.f7 Rows.quantEpochsRow.domain false) (Rows.quantEpochsSpec.post enc Try.prog Try.f7 false true false false) := by
  refine returnsInHanded_of_change (C := Try.checked) own started (by kernel_rfl) Try.func7
    (ChangeSpec.witness6 (enc := enc) (C := Try.checked) false ⟨#[], #[.int .i64 0, .int .i64 0], []⟩ 8 (by kernel_rfl) (by kernel_rfl) (by kernel_rfl) (by kernel_rfl)) ?_
  intro W base args ds gs before hval0 hW _ _
  have hval : ∀ (j : Nat) t v, Try.f7.params[j]? = some t → args[j]? = some v → Value.okWide Try.prog W .any base t v := hval0
  have hW' := hW
  obtain ⟨p, q, hA0, hV, rfl, hfz, hnd⟩ := hW
  have hA : DataW.TrodAll enc Try.prog W 0 (fun _ => true) true Try.f7.params.toList args.toList ds p := hA0
  rw [Try.params7] at hA hval
  obtain ⟨v0, vs0, d0, ds0, p0, q0, hargs, rfl, rfl, h0, r0⟩ := trodAll_cons hA
  obtain ⟨v1, vs1, d1, ds1, p1, q1, rfl, rfl, rfl, h1, r1⟩ := trodAll_cons r0
  obtain ⟨rfl, rfl, rfl⟩ := trodAll_nil r1
  obtain rfl : args = #[v0, v1] := by cases args; simp_all
  obtain ⟨rfl, rfl⟩ := trodVars_none hV
  obtain ⟨a0, rfl, rfl, rfl, w0⟩ := open_int Try.underlying2 (hval 0 2 v0 rfl rfl) h0
  obtain ⟨a1, rfl, rfl, rfl, w1⟩ := open_int Try.underlying2 (hval 1 2 v1 rfl rfl) h1
  clear hA0 hval0
  refine (walk a0 a1 w0 w1 W).mono fun e W' ⟨he, bel⟩ => ?_
  subst he
  exact ⟨_, rfl, _, _, _, [], _, [], hW', trodAll_mk1 (shut_bool Try.underlying4 _), (trodAll_cons_mk (shut_int Try.underlying2 w0) (trodAll_cons_mk (shut_int Try.underlying2 w1) trodAll_mk0)), rfl, bel.frame _, fun h => by cases h⟩
theorem over : Rows.quantEpochsRow.holds Try.pinned (OpenSpec.ofChange Rows.quantEpochsSpec) :=
  OpenClaim.holds_of_wide 7 Try.f7 rfl rfl rfl rfl rfl rfl rfl ⟨rfl, rfl, rfl, rfl, rfl⟩ rfl rfl rfl rfl rfl (by kernel_rfl) Try.func7 (by kernel_rfl)
    (of_decide_eq_true (by kernel_rfl)) (by unfold Func.isWrapper; first | (rw [if_pos (by decide +kernel)]; kernel_rfl) | (rw [if_neg (by decide +kernel)]; exact ⟨rfl, rfl⟩))
    (fun os started H enc _ => lifted os started H enc)
/-- The statement. -/
theorem proved : Rows.QuantEpochsSaid := over
end Go.Proofs.Ythgoaijfpdnolaa.quantEpochs
