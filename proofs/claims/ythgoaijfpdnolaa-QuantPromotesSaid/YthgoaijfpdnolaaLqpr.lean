/- QuantPromotes (P22.5): with an epoch that is one length later each slot is one less, but for what is due, and what is far. No conditions. -/
import Derived.Test.YthgoaijfpdnolaaRows
import Derived.Test.YthgoaijfpdnolaaQtc
import Derived.Test.YthgoaijfpdnolaaOp2
import Derived.Test.YthgoaijfpdnolaaQui
import Derived.WalkKit
import Derived.ProofKit
import Derived.OpenShut
import Derived.ShutString
import Derived.ChangeOld
import Derived.Below
namespace Go.Proofs.Ythgoaijfpdnolaa.quantPromotes
open Go.ChangeShapes Go.WideShapes Go.ChangeAt Go.RowKit
theorem own : ownKnob Try.prog.godebug = none := by kernel_rfl
theorem laidOut : laidOutB Try.prog = true := by kernel_rfl
theorem tmod_in (x m : Int) (hm : 0 < m) : -m < x.tmod m ∧ x.tmod m < m := ⟨by have := Int.lt_tmod_of_pos x hm; omega, Int.tmod_lt_of_pos x hm⟩
def nearI (t : Int) : Int := t.tmod 1125899906842624
theorem near_in (t : Int) : -1125899906842624 < nearI t ∧ nearI t < 1125899906842624 := tmod_in t _ (by decide)
theorem near_any (t : Int) (w : World) : Calls Try.prog 25 #[.int .i64 t] w fun y w' => y = .returned (.int .i64 (nearI t)) ∧ w = w' := by
  go_enter Try.func25, Try.ntmps25
  go_wp2_with fail
  go_ret
  exact ⟨rfl, rfl⟩
theorem and_i40 (n : Int) : 0 ≤ bits .and .i64 n 1099511627775 ∧ bits .and .i64 n 1099511627775 ≤ 1099511627775 := by
  have h : bits .and .i64 n 1099511627775 = IntKind.i64.wrap ((BitVec.ofInt 64 n &&& BitVec.ofInt 64 1099511627775).toNat : Nat) := rfl
  have h2 : (BitVec.ofInt 64 n &&& BitVec.ofInt 64 1099511627775).toNat ≤ 1099511627775 := by
    rw [BitVec.toNat_and]
    exact Nat.le_trans Nat.and_le_right (by decide)
  rw [h, IntKind.wrap_i64]
  omega
/-- Slots of one epoch, in order. -/
theorem slot_eq {d e l : Int} (hq : qmayB l [d, e] = true) : slotX d e l = clampV ((d - e) / l) 0 255 := by unfold slotX; rw [hq]; rfl
theorem slot_mono {a b e l : Int} (ha : qmayB l [a, e] = true) (hb : qmayB l [b, e] = true) (hab : a ≤ b) : slotX a e l ≤ slotX b e l := by
  obtain ⟨h1, _, _⟩ := qmay_two_yes ha
  have h2 : (a - e) / l ≤ (b - e) / l := Int.ediv_le_ediv (by omega) (by omega)
  rw [slot_eq ha, slot_eq hb]
  unfold clampV
  split <;> split <;> (try split) <;> (try split) <;> omega
theorem prom_in {d e l : Int} (hq : qmayB l [d, e] = true) (hr : qmayB l [d, e + l] = true) : slotX d (e + l) l ≤ slotX d e l ∧ slotX d e l - 1 ≤ slotX d (e + l) l ∧ (slotX d e l = 0 ∨ farB d e l = true ∨ slotX d (e + l) l = slotX d e l - 1) := by
  obtain ⟨h1, h2, h3⟩ := qmay_two_yes hq
  have hs := slot_eq hq
  have ht := slot_eq hr
  have hd : (d - (e + l)) / l = (d - e) / l - 1 := by
    rw [show d - (e + l) = d - e - l by omega, Int.sub_ediv_of_dvd _ (Int.dvd_refl l), Int.ediv_self (by omega)]
  have hf : farB d e l = decide (256 * l ≤ d - e) := by unfold farB; rw [hq]; rfl
  rw [hd] at ht
  have h4 : 256 ≤ (d - e) / l → farB d e l = true := fun h => by rw [hf]; exact decide_eq_true ((Int.le_ediv_iff_mul_le (by omega)).1 h)
  obtain ⟨q, hqq⟩ : ∃ q, q = (d - e) / l := ⟨_, rfl⟩
  rw [← hqq] at hs ht h4
  rw [hs, ht]
  by_cases h256 : 256 ≤ q
  · refine ⟨?_, ?_, .inr (.inl (h4 h256))⟩ <;> unfold clampV <;> split <;> (try split) <;> (try split) <;> (try split) <;> omega
  · unfold clampV
    refine ⟨?_, ?_, ?_⟩ <;> split <;> (try split) <;> (try split) <;> (try split) <;> omega
set_option maxRecDepth 100000 in
set_option maxHeartbeats 4000000 in
theorem walk (d0 e0 n : Int) (_ : (Lit.int .i64 d0).wf = true) (_ : (Lit.int .i64 e0).wf = true) (_ : (Lit.int .i64 n).wf = true) (w : World) :
    Calls Try.prog 6 #[.int .i64 d0, .int .i64 e0, .int .i64 n] w fun y w' => y = .returned (.bool true) ∧ Below w.heap.size w w' := by
  have ha := near_in d0; have hb := near_in e0
  have hlen := and_i40 n
  obtain ⟨g, hg⟩ : ∃ g, bits .and .i64 n 1099511627775 = g := ⟨_, rfl⟩
  rw [hg] at hlen
  obtain ⟨l, hl⟩ : ∃ l, l = g + 1 := ⟨_, rfl⟩
  have hwl : wrap64 (g + 1) = l := by rw [hl]; exact w64_in _ (by omega)
  have hl1 : 1 ≤ l ∧ l ≤ 1099511627776 := by omega
  have NA := Lib.hid (near_any d0); have NB := Lib.hid (near_any e0)
  obtain ⟨d, hea⟩ : ∃ a, a = nearI d0 := ⟨_, rfl⟩
  obtain ⟨e, heb⟩ : ∃ b, b = nearI e0 := ⟨_, rfl⟩
  rw [← hea] at NA ha
  rw [← heb] at NB hb
  have qa : qmayB l [d, e] = true := qmay_two_of hl1 (by omega) (by omega)
  have qb : qmayB l [d, e + l] = true := qmay_two_of hl1 (by omega) (by omega)
  have HS := Lib.hid (fun u => qslot_any d e l u)
  have HT := Lib.hid (fun u => qslot_any d (e + l) l u)
  have HF := Lib.hid (fun u => qfar_any d e l u)
  rw [qa] at HS
  rw [qb] at HT
  have h3 := prom_in qa qb
  obtain ⟨e2, he2⟩ : ∃ e2, e2 = e + l := ⟨_, rfl⟩
  have hwe : wrap64 (e + l) = e2 := by rw [he2]; exact w64_in _ (by omega)
  rw [← he2] at HT h3
  have hsi := slot_in d e l
  obtain ⟨s, hs⟩ : ∃ s, s = slotX d e l := ⟨_, rfl⟩
  obtain ⟨t, ht⟩ : ∃ t, t = slotX d e2 l := ⟨_, rfl⟩
  rw [← hs] at HS h3 hsi
  rw [← ht] at HT h3
  obtain ⟨f, hf⟩ : ∃ f, f = farB d e l := ⟨_, rfl⟩
  rw [← hf] at HF h3
  obtain ⟨s1, hs1⟩ : ∃ z, z = s - 1 := ⟨_, rfl⟩
  have hws : wrap64 (s - 1) = s1 := by rw [hs1]; exact w64_in _ (by omega)
  rw [← hs1] at h3
  obtain ⟨g1, g2, g3⟩ := h3
  have i1 : ¬ s < t := by omega
  have i2 : ¬ t < s1 := by omega
  have G := Lib.hid g3
  clear hs ht hf qa qb ha hb hea heb hlen hl hl1 he2 hs1 g1 g2 g3 hsi
  go_enter Try.func6, Try.ntmps6
  go_wp2_with fail
  refine (NA.out _).mono ?_
  rintro y w1 ⟨rfl, rfl⟩
  go_wp2_with fail
  refine (NB.out _).mono ?_
  rintro y w1 ⟨rfl, rfl⟩
  go_wp2_with fail
  refine (HS.out _).mono ?_
  rintro y w3 ⟨rfl, hb⟩
  have HB3 := Lib.hid hb
  clear hb
  go_wp2_with fail
  refine (HT.out _).mono ?_
  rintro y w4 ⟨rfl, hb⟩
  have HB4 := Lib.hid (below_transG HB3.out hb)
  clear hb
  go_wp2_with fail
  refine (live22 _).mono ?_
  rintro y w5 ⟨rfl, hb⟩
  have HB5 := Lib.hid (below_transG HB4.out hb)
  clear hb
  by_cases hs0 : s = 0
  · have k1 : (s == 0) = true := by rw [hs0]; rfl
    clear hs0
    go_wp2_with fail
    go_ret
    exact ⟨rfl, HB5.out⟩
  have k1 : (s == 0) = false := by rw [beq_eq_false_iff_ne]; exact hs0
  have hg : f = true ∨ t = s1 := by rcases G.out with h | h | h; exact absurd h hs0; exact .inl h; exact .inr h
  clear hs0
  go_wp2_with fail
  refine (HF.out _).mono ?_
  rintro y w6 ⟨rfl, hb⟩
  have HB6 := Lib.hid (below_transG HB5.out hb)
  clear hb
  cases f
  · obtain rfl : t = s1 := by simpa using hg
    have k2 : (t == t) = true := by simp
    clear hg
    go_wp2_with fail
    go_ret
    exact ⟨rfl, HB6.out⟩
  · clear hg
    go_wp2_with fail
    go_ret
    exact ⟨rfl, HB6.out⟩
set_option maxRecDepth 100000 in
theorem lifted (os : Os) (started : os.Started) (H : Type) (enc : TypeId × Value → H) :
    ReturnsInHanded {} Try.checked os 6 .any (Rows.quantPromotesSpec.pre6 enc Try.prog Try.f6 Rows.quantPromotesRow.domain false) (Rows.quantPromotesSpec.post enc Try.prog Try.f6 false true false false) := by
  refine returnsInHanded_of_change (C := Try.checked) own started (by kernel_rfl) Try.func6
    (ChangeSpec.witness6 (enc := enc) (C := Try.checked) false ⟨#[], #[.int .i64 0, .int .i64 0, .int .i64 0], []⟩ 8 (by kernel_rfl) (by kernel_rfl) (by kernel_rfl) (by kernel_rfl)) ?_
  intro W base args ds gs before hval0 hW _ _
  have hval : ∀ (j : Nat) t v, Try.f6.params[j]? = some t → args[j]? = some v → Value.okWide Try.prog W .any base t v := hval0
  have hW' := hW
  obtain ⟨p, q, hA0, hV, rfl, hfz, hnd⟩ := hW
  have hA : DataW.TrodAll enc Try.prog W 0 (fun _ => true) true Try.f6.params.toList args.toList ds p := hA0
  rw [Try.params6] at hA hval
  obtain ⟨v0, vs0, d0, ds0, p0, q0, hargs, rfl, rfl, h0, r0⟩ := trodAll_cons hA
  obtain ⟨v1, vs1, d1, ds1, p1, q1, rfl, rfl, rfl, h1, r1⟩ := trodAll_cons r0
  obtain ⟨v2, vs2, d2, ds2, p2, q2, rfl, rfl, rfl, h2, r2⟩ := trodAll_cons r1
  obtain ⟨rfl, rfl, rfl⟩ := trodAll_nil r2
  obtain rfl : args = #[v0, v1, v2] := by cases args; simp_all
  obtain ⟨rfl, rfl⟩ := trodVars_none hV
  obtain ⟨a0, rfl, rfl, rfl, w0⟩ := open_int Try.underlying2 (hval 0 2 v0 rfl rfl) h0
  obtain ⟨a1, rfl, rfl, rfl, w1⟩ := open_int Try.underlying2 (hval 1 2 v1 rfl rfl) h1
  obtain ⟨a2, rfl, rfl, rfl, w2⟩ := open_int Try.underlying2 (hval 2 2 v2 rfl rfl) h2
  clear hA0 hval0
  refine (walk a0 a1 a2 w0 w1 w2 W).mono fun e W' ⟨he, bel⟩ => ?_
  subst he
  exact ⟨_, rfl, _, _, _, [], _, [], hW', trodAll_mk1 (shut_bool Try.underlying4 _), (trodAll_cons_mk (shut_int Try.underlying2 w0) (trodAll_cons_mk (shut_int Try.underlying2 w1) (trodAll_cons_mk (shut_int Try.underlying2 w2) trodAll_mk0))), rfl, bel.frame _, fun h => by cases h⟩
theorem over : Rows.quantPromotesRow.holds Try.pinned (OpenSpec.ofChange Rows.quantPromotesSpec) :=
  OpenClaim.holds_of_wide 6 Try.f6 rfl rfl rfl rfl rfl rfl rfl ⟨rfl, rfl, rfl, rfl, rfl⟩ rfl rfl rfl rfl rfl (by kernel_rfl) Try.func6 (by kernel_rfl)
    (of_decide_eq_true (by kernel_rfl)) (by unfold Func.isWrapper; first | (rw [if_pos (by decide +kernel)]; kernel_rfl) | (rw [if_neg (by decide +kernel)]; exact ⟨rfl, rfl⟩))
    (fun os started H enc _ => lifted os started H enc)
/-- The statement. -/
theorem proved : Rows.QuantPromotesSaid := over
end Go.Proofs.Ythgoaijfpdnolaa.quantPromotes
