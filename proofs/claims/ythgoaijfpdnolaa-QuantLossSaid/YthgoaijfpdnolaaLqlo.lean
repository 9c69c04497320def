/- QuantLoss (P22.4): a deadline that is within the slots is less than a length behind its slot's beginning. No conditions. -/
import Derived.Test.YthgoaijfpdnolaaRows
import Derived.Test.YthgoaijfpdnolaaQtc
import Derived.Test.YthgoaijfpdnolaaOp2
import Derived.Test.YthgoaijfpdnolaaQui
import Derived.WalkKit
import Derived.ProofKit
import Derived.OpenShut
import Derived.ShutString
import Derived.ChangeOld
import Derived.Below
namespace Go.Proofs.Ythgoaijfpdnolaa.quantLoss
open Go.ChangeShapes Go.WideShapes Go.ChangeAt Go.RowKit
theorem own : ownKnob Try.prog.godebug = none := by kernel_rfl
theorem laidOut : laidOutB Try.prog = true := by kernel_rfl
theorem tmod_in (x m : Int) (hm : 0 < m) : -m < x.tmod m ∧ x.tmod m < m := ⟨by have := Int.lt_tmod_of_pos x hm; omega, Int.tmod_lt_of_pos x hm⟩
def nearI (t : Int) : Int := t.tmod 1125899906842624
theorem near_in (t : Int) : -1125899906842624 < nearI t ∧ nearI t < 1125899906842624 := tmod_in t _ (by decide)
theorem near_any (t : Int) (w : World) : Calls Try.prog 25 #[.int .i64 t] w fun y w' => y = .returned (.int .i64 (nearI t)) ∧ w = w' := by
  go_enter Try.func25, Try.ntmps25
  go_wp2_with fail
  go_ret
  exact ⟨rfl, rfl⟩
theorem and_i40 (n : Int) : 0 ≤ bits .and .i64 n 1099511627775 ∧ bits .and .i64 n 1099511627775 ≤ 1099511627775 := by
  have h : bits .and .i64 n 1099511627775 = IntKind.i64.wrap ((BitVec.ofInt 64 n &&& BitVec.ofInt 64 1099511627775).toNat : Nat) := rfl
  have h2 : (BitVec.ofInt 64 n &&& BitVec.ofInt 64 1099511627775).toNat ≤ 1099511627775 := by
    rw [BitVec.toNat_and]
    exact Nat.le_trans Nat.and_le_right (by decide)
  rw [h, IntKind.wrap_i64]
  omega
/-- Slots of one epoch, in order. -/
theorem slot_eq {d e l : Int} (hq : qmayB l [d, e] = true) : slotX d e l = clampV ((d - e) / l) 0 255 := by unfold slotX; rw [hq]; rfl
theorem slot_mono {a b e l : Int} (ha : qmayB l [a, e] = true) (hb : qmayB l [b, e] = true) (hab : a ≤ b) : slotX a e l ≤ slotX b e l := by
  obtain ⟨h1, _, _⟩ := qmay_two_yes ha
  have h2 : (a - e) / l ≤ (b - e) / l := Int.ediv_le_ediv (by omega) (by omega)
  rw [slot_eq ha, slot_eq hb]
  unfold clampV
  split <;> split <;> (try split) <;> (try split) <;> omega
theorem loss_in {d e l : Int} (hq : qmayB l [d, e] = true) (he : qmayB l [e] = true) : (d < e → slotX d e l = 0) ∧ (farB d e l = true → slotX d e l = 255) ∧ (e ≤ d → farB d e l = false → startB (slotX d e l) e l = true ∧ startX (slotX d e l) e l ≤ d ∧ 0 ≤ d - startX (slotX d e l) e l ∧ d - startX (slotX d e l) e l < l) := by
  obtain ⟨h1, h2, h3⟩ := qmay_two_yes hq
  have hs := slot_eq hq
  refine ⟨fun h => ?_, fun h => ?_, fun h hf => ?_⟩
  · rw [hs]
    have : (d - e) / l < 0 := Int.ediv_neg_of_neg_of_pos (by omega) (by omega)
    unfold clampV; rw [if_pos this]
  · unfold farB at h; rw [hq] at h
    have h4 := of_decide_eq_true (show decide (256 * l ≤ d - e) = true from h)
    have h5 : 256 ≤ (d - e) / l := (Int.le_ediv_iff_mul_le (by omega)).2 h4
    rw [hs]; unfold clampV; rw [if_neg (by omega), if_pos (by omega)]
  · unfold farB at hf; rw [hq] at hf
    have h4 := of_decide_eq_false (show decide (256 * l ≤ d - e) = false from hf)
    have h5 : ¬ 256 ≤ (d - e) / l := fun h6 => h4 ((Int.le_ediv_iff_mul_le (by omega)).1 h6)
    have h6 : 0 ≤ (d - e) / l := Int.ediv_nonneg (by omega) (by omega)
    have h7 : slotX d e l = (d - e) / l := by rw [hs]; unfold clampV; rw [if_neg (by omega), if_neg (by omega)]
    have hb : startB (slotX d e l) e l = true := by rw [h7]; unfold startB inB; rw [he, decide_eq_true (by omega)]; rfl
    have hx : startX (slotX d e l) e l = e + (d - e) / l * l := by unfold startX; rw [hb, h7]; rfl
    have h8 := Int.mul_ediv_add_emod (d - e) l
    have h9 := Int.emod_nonneg (d - e) (show l ≠ 0 by omega)
    have h10 := Int.emod_lt_of_pos (d - e) (show 0 < l by omega)
    rw [Int.mul_comm] at h8
    rw [hx]
    exact ⟨hb, by omega, by omega, by omega⟩
set_option maxRecDepth 100000 in
set_option maxHeartbeats 4000000 in
theorem walk (d0 e0 n : Int) (_ : (Lit.int .i64 d0).wf = true) (_ : (Lit.int .i64 e0).wf = true) (_ : (Lit.int .i64 n).wf = true) (w : World) :
    Calls Try.prog 5 #[.int .i64 d0, .int .i64 e0, .int .i64 n] w fun y w' => y = .returned (.bool true) ∧ Below w.heap.size w w' := by
  have ha := near_in d0; have hb := near_in e0
  have hlen := and_i40 n
  obtain ⟨g, hg⟩ : ∃ g, bits .and .i64 n 1099511627775 = g := ⟨_, rfl⟩
  rw [hg] at hlen
  obtain ⟨l, hl⟩ : ∃ l, l = g + 1 := ⟨_, rfl⟩
  have hwl : wrap64 (g + 1) = l := by rw [hl]; exact w64_in _ (by omega)
  have hl1 : 1 ≤ l ∧ l ≤ 1099511627776 := by omega
  have NA := Lib.hid (near_any d0); have NB := Lib.hid (near_any e0)
  obtain ⟨d, hea⟩ : ∃ a, a = nearI d0 := ⟨_, rfl⟩
  obtain ⟨e, heb⟩ : ∃ b, b = nearI e0 := ⟨_, rfl⟩
  rw [← hea] at NA ha
  rw [← heb] at NB hb
  have qa : qmayB l [d, e] = true := qmay_two_of hl1 (by omega) (by omega)
  have qe : qmayB l [e] = true := qmay_one_of hl1 (by omega)
  have HS := Lib.hid (fun u => qslot_any d e l u)
  have HF := Lib.hid (fun u => qfar_any d e l u)
  rw [qa] at HS
  have h3 := loss_in qa qe
  obtain ⟨s, hs⟩ : ∃ s, s = slotX d e l := ⟨_, rfl⟩
  rw [← hs] at HS h3
  have HT := Lib.hid (fun u => qstart_any s e l u)
  obtain ⟨f, hf⟩ : ∃ f, f = farB d e l := ⟨_, rfl⟩
  rw [← hf] at HF h3
  obtain ⟨b, hbb⟩ : ∃ f, f = startX s e l := ⟨_, rfl⟩
  obtain ⟨k, hkk⟩ : ∃ f, f = startB s e l := ⟨_, rfl⟩
  rw [← hbb, ← hkk] at h3 HT
  have HDE : ∀ x : Int, 0 ≤ x → x < l → wrap64 x = x := fun x h0 h1 => w64_in _ (by omega)
  clear hs hf hbb hkk qa qe ha hb hea heb hlen hl
  have HL := Lib.hid hl1
  clear hl1
  go_enter Try.func5, Try.ntmps5
  go_wp2_with fail
  refine (NA.out _).mono ?_
  rintro y w1 ⟨rfl, rfl⟩
  go_wp2_with fail
  refine (NB.out _).mono ?_
  rintro y w1 ⟨rfl, rfl⟩
  go_wp2_with fail
  refine (HS.out _).mono ?_
  rintro y w3 ⟨rfl, hb⟩
  have HB3 := Lib.hid hb
  clear hb
  go_wp2_with fail
  refine (HT.out _).mono ?_
  rintro y w4 ⟨rfl, hb⟩
  have HB4 := Lib.hid (below_transG HB3.out hb)
  clear hb
  by_cases hde : d < e
  · obtain rfl := h3.1 hde
    have i1 : ¬ e ≤ d := by omega
    clear h3 HDE
    go_wp2_with fail
    refine (live22 _).mono ?_
    rintro y w5 ⟨rfl, hb⟩
    have HB5 := Lib.hid (below_transG HB4.out hb)
    clear hb
    go_wp2_with fail
    go_ret
    exact ⟨rfl, HB5.out⟩
  have i1 : e ≤ d := by omega
  go_wp2_with fail
  refine (HF.out _).mono ?_
  rintro y w5 ⟨rfl, hb⟩
  have HB5 := Lib.hid (below_transG HB4.out hb)
  clear hb
  cases f
  · obtain ⟨rfl, h5, h6, h7⟩ := h3.2.2 i1 rfl
    have i2 := HDE _ h6 h7
    obtain ⟨z, hz⟩ : ∃ z, z = d - b := ⟨_, rfl⟩
    rw [← hz] at h7 i2
    have i3 : wrap64 (d - b) = z := by rw [hz]; rw [hz] at i2; exact i2
    clear h3 HDE hz h6 i2
    go_wp2_with fail
    refine (live22 _).mono ?_
    rintro y w6 ⟨rfl, hb⟩
    have HB6 := Lib.hid (below_transG HB5.out hb)
    clear hb
    go_wp2_with fail
    go_ret
    exact ⟨rfl, HB6.out⟩
  · obtain rfl := h3.2.1 rfl
    clear h3 HDE
    go_wp2_with fail
    refine (live22 _).mono ?_
    rintro y w6 ⟨rfl, hb⟩
    have HB6 := Lib.hid (below_transG HB5.out hb)
    clear hb
    go_wp2_with fail
    go_ret
    exact ⟨rfl, HB6.out⟩
set_option maxRecDepth 100000 in
theorem lifted (os : Os) (started : os.Started) (H : Type) (enc : TypeId × Value → H) :
    ReturnsInHanded {} Try.checked os 5 .any (Rows.quantLossSpec.pre6 enc Try.prog Try.f5 Rows.quantLossRow.domain false) (Rows.quantLossSpec.post enc Try.prog Try.f5 false true false false) := by
  refine returnsInHanded_of_change (C := Try.checked) own started (by kernel_rfl) Try.func5
    (ChangeSpec.witness6 (enc := enc) (C := Try.checked) false ⟨#[], #[.int .i64 0, .int .i64 0, .int .i64 0], []⟩ 8 (by kernel_rfl) (by kernel_rfl) (by kernel_rfl) (by kernel_rfl)) ?_
  intro W base args ds gs before hval0 hW _ _
  have hval : ∀ (j : Nat) t v, Try.f5.params[j]? = some t → args[j]? = some v → Value.okWide Try.prog W .any base t v := hval0
  have hW' := hW
  obtain ⟨p, q, hA0, hV, rfl, hfz, hnd⟩ := hW
  have hA : DataW.TrodAll enc Try.prog W 0 (fun _ => true) true Try.f5.params.toList args.toList ds p := hA0
  rw [Try.params5] at hA hval
  obtain ⟨v0, vs0, d0, ds0, p0, q0, hargs, rfl, rfl, h0, r0⟩ := trodAll_cons hA
  obtain ⟨v1, vs1, d1, ds1, p1, q1, rfl, rfl, rfl, h1, r1⟩ := trodAll_cons r0
  obtain ⟨v2, vs2, d2, ds2, p2, q2, rfl, rfl, rfl, h2, r2⟩ := trodAll_cons r1
  obtain ⟨rfl, rfl, rfl⟩ := trodAll_nil r2
  obtain rfl : args = #[v0, v1, v2] := by cases args; simp_all
  obtain ⟨rfl, rfl⟩ := trodVars_none hV
  obtain ⟨a0, rfl, rfl, rfl, w0⟩ := open_int Try.underlying2 (hval 0 2 v0 rfl rfl) h0
  obtain ⟨a1, rfl, rfl, rfl, w1⟩ := open_int Try.underlying2 (hval 1 2 v1 rfl rfl) h1
  obtain ⟨a2, rfl, rfl, rfl, w2⟩ := open_int Try.underlying2 (hval 2 2 v2 rfl rfl) h2
  clear hA0 hval0
  refine (walk a0 a1 a2 w0 w1 w2 W).mono fun e W' ⟨he, bel⟩ => ?_
  subst he
  exact ⟨_, rfl, _, _, _, [], _, [], hW', trodAll_mk1 (shut_bool Try.underlying4 _), (trodAll_cons_mk (shut_int Try.underlying2 w0) (trodAll_cons_mk (shut_int Try.underlying2 w1) (trodAll_cons_mk (shut_int Try.underlying2 w2) trodAll_mk0))), rfl, bel.frame _, fun h => by cases h⟩
theorem over : Rows.quantLossRow.holds Try.pinned (OpenSpec.ofChange Rows.quantLossSpec) :=
  OpenClaim.holds_of_wide 5 Try.f5 rfl rfl rfl rfl rfl rfl rfl ⟨rfl, rfl, rfl, rfl, rfl⟩ rfl rfl rfl rfl rfl (by kernel_rfl) Try.func5 (by kernel_rfl)
    (of_decide_eq_true (by kernel_rfl)) (by unfold Func.isWrapper; first | (rw [if_pos (by decide +kernel)]; kernel_rfl) | (rw [if_neg (by decide +kernel)]; exact ⟨rfl, rfl⟩))
    (fun os started H enc _ => lifted os started H enc)
/-- The statement. -/
theorem proved : Rows.QuantLossSaid := over
end Go.Proofs.Ythgoaijfpdnolaa.quantLoss
