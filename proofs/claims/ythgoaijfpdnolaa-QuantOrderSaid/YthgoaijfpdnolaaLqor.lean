/- QuantOrder (P22.3): of two deadlines the earlier one has no later slot. No conditions. -/
import Derived.Test.YthgoaijfpdnolaaRows
import Derived.Test.YthgoaijfpdnolaaQtc
import Derived.Test.YthgoaijfpdnolaaOp2
import Derived.Test.YthgoaijfpdnolaaQui
import Derived.WalkKit
import Derived.ProofKit
import Derived.OpenShut
import Derived.ShutString
import Derived.ChangeOld
import Derived.Below
namespace Go.Proofs.Ythgoaijfpdnolaa.quantOrder
open Go.ChangeShapes Go.WideShapes Go.ChangeAt Go.RowKit
theorem own : ownKnob Try.prog.godebug = none := by kernel_rfl
theorem laidOut : laidOutB Try.prog = true := by kernel_rfl
theorem tmod_in (x m : Int) (hm : 0 < m) : -m < x.tmod m ∧ x.tmod m < m := ⟨by have := Int.lt_tmod_of_pos x hm; omega, Int.tmod_lt_of_pos x hm⟩
def nearI (t : Int) : Int := t.tmod 1125899906842624
theorem near_in (t : Int) : -1125899906842624 < nearI t ∧ nearI t < 1125899906842624 := tmod_in t _ (by decide)
theorem near_any (t : Int) (w : World) : Calls Try.prog 25 #[.int .i64 t] w fun y w' => y = .returned (.int .i64 (nearI t)) ∧ w = w' := by
  go_enter Try.func25, Try.ntmps25
  go_wp2_with fail
  go_ret
  exact ⟨rfl, rfl⟩
theorem and_i40 (n : Int) : 0 ≤ bits .and .i64 n 1099511627775 ∧ bits .and .i64 n 1099511627775 ≤ 1099511627775 := by
  have h : bits .and .i64 n 1099511627775 = IntKind.i64.wrap ((BitVec.ofInt 64 n &&& BitVec.ofInt 64 1099511627775).toNat : Nat) := rfl
  have h2 : (BitVec.ofInt 64 n &&& BitVec.ofInt 64 1099511627775).toNat ≤ 1099511627775 := by
    rw [BitVec.toNat_and]
    exact Nat.le_trans Nat.and_le_right (by decide)
  rw [h, IntKind.wrap_i64]
  omega
/-- Slots of one epoch, in order. -/
theorem slot_eq {d e l : Int} (hq : qmayB l [d, e] = true) : slotX d e l = clampV ((d - e) / l) 0 255 := by unfold slotX; rw [hq]; rfl
theorem slot_mono {a b e l : Int} (ha : qmayB l [a, e] = true) (hb : qmayB l [b, e] = true) (hab : a ≤ b) : slotX a e l ≤ slotX b e l := by
  obtain ⟨h1, _, _⟩ := qmay_two_yes ha
  have h2 : (a - e) / l ≤ (b - e) / l := Int.ediv_le_ediv (by omega) (by omega)
  rw [slot_eq ha, slot_eq hb]
  unfold clampV
  split <;> split <;> (try split) <;> (try split) <;> omega
set_option maxRecDepth 100000 in
set_option maxHeartbeats 4000000 in
theorem walk (a0 b0 p n : Int) (_ : (Lit.int .i64 a0).wf = true) (_ : (Lit.int .i64 b0).wf = true) (_ : (Lit.int .i64 p).wf = true) (_ : (Lit.int .i64 n).wf = true) (w : World) :
    Calls Try.prog 4 #[.int .i64 a0, .int .i64 b0, .agg #[.int .i64 p, .int .i64 n]] w fun y w' => y = .returned (.bool true) ∧ Below w.heap.size w w' := by
  have HN := Lib.hid (fun t u => near_any t u)
  have ha := near_in a0; have hb := near_in b0; have hp := near_in p
  have hlen := and_i40 n
  obtain ⟨g, hg⟩ : ∃ g, bits .and .i64 n 1099511627775 = g := ⟨_, rfl⟩
  rw [hg] at hlen
  obtain ⟨l, hl⟩ : ∃ l, l = g + 1 := ⟨_, rfl⟩
  have hwl : wrap64 (g + 1) = l := by rw [hl]; exact w64_in _ (by omega)
  have hl1 : 1 ≤ l ∧ l ≤ 1099511627776 := by omega
  have HWL := Lib.hid (show IntKind.i64.wrap (g + 1) = l by rw [IntKind.wrap_i64]; omega)
  have NA := Lib.hid (near_any a0); have NB := Lib.hid (near_any b0)
  obtain ⟨a, hea⟩ : ∃ a, a = nearI a0 := ⟨_, rfl⟩
  obtain ⟨b, heb⟩ : ∃ b, b = nearI b0 := ⟨_, rfl⟩
  rw [← hea] at NA ha
  rw [← heb] at NB hb
  obtain ⟨e, hee⟩ : ∃ e, nearI p = e := ⟨_, rfl⟩
  rw [hee] at hp
  have qa : qmayB l [a, e] = true := qmay_two_of hl1 (by omega) (by omega)
  have qb : qmayB l [b, e] = true := qmay_two_of hl1 (by omega) (by omega)
  have HA := Lib.hid (fun u => qslot_any a e l u); have HB := Lib.hid (fun u => qslot_any b e l u)
  rw [qa] at HA
  rw [qb] at HB
  have h1 : a ≤ b → slotX a e l ≤ slotX b e l := slot_mono qa qb
  have h2 : b ≤ a → slotX b e l ≤ slotX a e l := slot_mono qb qa
  obtain ⟨s, hs⟩ : ∃ s, s = slotX a e l := ⟨_, rfl⟩
  obtain ⟨t, ht⟩ : ∃ t, t = slotX b e l := ⟨_, rfl⟩
  rw [← hs] at HA h1 h2
  rw [← ht] at HB h1 h2
  have HS := Lib.hid (show (b < a ∧ ¬ a < b ∧ t ≤ s) ∨ (¬ b < a ∧ s ≤ t ∧ a < b) ∨ (¬ b < a ∧ s ≤ t ∧ ¬ a < b ∧ t ≤ s) by omega)
  have HBW := Lib.hid ((Below.refl _ w).alloc (Nat.le_refl _) (.cells #[.int .i64 p, .int .i64 n] 29))
  have HCW := Lib.hid (Blk.new w 29 [.int .i64 p, .int .i64 n])
  have HE := Lib.hid hee
  clear h1 h2 hs ht qa qb ha hb hp hea heb hlen hl1 hl hee
  go_enter Try.func4, Try.ntmps4
  go_upto_region 1 with fail
  obtain ⟨W0, hW0⟩ : ∃ W, W = w.alloc (.cells #[.int .i64 p, .int .i64 n] 29) := ⟨_, rfl⟩
  have HB0 := Lib.hid (show Below w.heap.size w W0 from hW0 ▸ HBW.out)
  have HC0 := Lib.hid (show Blk W0 w.heap.size 29 [.int .i64 p, .int .i64 n] from hW0 ▸ HCW.out)
  have HZ := Lib.hid (show ∀ x, Below W0.heap.size W0 x → Below W0.heap.size W0 x ∧ x.cell? ⟨w.heap.size, 0, none⟩ = some (.int .i64 p) ∧ x.cell? ⟨w.heap.size, 1, none⟩ = some (.int .i64 n) from fun x hx => ⟨hx, (HC0.out.keep hx HC0.out.lt).cellAt (i := 0) (by simp), (HC0.out.keep hx HC0.out.lt).cellAt (i := 1) (by simp)⟩)
  rw [← hW0]
  clear hW0 HBW HCW
  go_wp2_with fail
  refine (NA.out _).mono ?_
  rintro y w1 ⟨rfl, rfl⟩
  go_wp2_with fail
  refine (NB.out _).mono ?_
  rintro y w1 ⟨rfl, rfl⟩
  go_upto_region 2 with fail
  have HQ := Lib.hid (show ∀ u, (fun x => Below W0.heap.size W0 x ∧ x.cell? ⟨w.heap.size, 0, none⟩ = some (.int .i64 p) ∧ x.cell? ⟨w.heap.size, 1, none⟩ = some (.int .i64 n)) u → Calls Try.prog 25 #[.int .i64 p] u fun z w' => z = .returned (.int .i64 e) ∧ (fun x => Below W0.heap.size W0 x ∧ x.cell? ⟨w.heap.size, 0, none⟩ = some (.int .i64 p) ∧ x.cell? ⟨w.heap.size, 1, none⟩ = some (.int .i64 n)) w' from fun u h => (HN.out p u).mono fun z w' ⟨h1, h2⟩ => ⟨by rw [h1, HE.out], h2 ▸ h⟩)
  have z0 := HZ.out _ (Below.refl _ _)
  have z1 := HZ.out _ (Below.refl _ _).drew
  obtain ⟨_, c0, c1⟩ := HZ.out _ (Below.refl W0.heap.size W0)
  obtain ⟨_, d0, d1⟩ := HZ.out _ (Below.refl W0.heap.size W0).drew
  go_cut [7, 8] (fun s7 s8 wx => s7 = .int .i64 e ∧ s8 = .int .i64 l ∧ Below W0.heap.size W0 wx)
  case first =>
    go_region_held3 (fun x => Below W0.heap.size W0 x ∧ x.cell? ⟨w.heap.size, 0, none⟩ = some (.int .i64 p) ∧ x.cell? ⟨w.heap.size, 1, none⟩ = some (.int .i64 n)) (with_reducible assumption) (first | (go_at_call 25; refine (HQ.out _ (by first | exact z0 | exact z1)).mono ?_; rintro e6 w6 ⟨rfl, h6S⟩))
    all_goals (go_wp2_with fail; go_meet; exact ⟨rfl, by rw [HWL.out], h6S.1⟩)
  case rest =>
  obtain ⟨rfl, rfl, hq⟩ := hcut
  obtain ⟨we, hwe⟩ : ∃ we, we = wc := ⟨_, rfl⟩
  rw [← hwe] at hq ⊢
  have HB2 := Lib.hid (below_transG HB0.out hq)
  clear hq HZ z0 z1 c0 c1 d0 d1 hwe HQ
  go_wp2_with fail
  refine (HA.out _).mono ?_
  rintro y w3 ⟨rfl, hb⟩
  have HB3 := Lib.hid (below_transG HB2.out hb)
  clear hb
  go_wp2_with fail
  refine (HB.out _).mono ?_
  rintro y w4 ⟨rfl, hb⟩
  have HB4 := Lib.hid (below_transG HB3.out hb)
  clear hb
  go_wp2_with fail
  refine (live22 _).mono ?_
  rintro y w5 ⟨rfl, hb⟩
  have HB5 := Lib.hid (below_transG HB4.out hb)
  clear hb
  rcases HS.out with ⟨i1, i2, i3⟩ | ⟨i1, i2, i3⟩ | ⟨i1, i2, i3, i4⟩
  all_goals
    go_wp2_with fail
    go_ret
    exact ⟨rfl, HB5.out⟩
set_option maxRecDepth 100000 in
theorem lifted (os : Os) (started : os.Started) (H : Type) (enc : TypeId × Value → H) :
    ReturnsInHanded {} Try.checked os 4 .any (Rows.quantOrderSpec.pre6 enc Try.prog Try.f4 Rows.quantOrderRow.domain false) (Rows.quantOrderSpec.post enc Try.prog Try.f4 false true false false) := by
  refine returnsInHanded_of_change (C := Try.checked) own started (by kernel_rfl) Try.func4
    (ChangeSpec.witness6 (enc := enc) (C := Try.checked) false ⟨#[], #[.int .i64 0, .int .i64 0, .agg #[.int .i64 0, .int .i64 0]], []⟩ 8 (by kernel_rfl) (by kernel_rfl) (by kernel_rfl) (by kernel_rfl)) ?_
  intro W base args ds gs before hval0 hW _ _
  have hval : ∀ (j : Nat) t v, Try.f4.params[j]? = some t → args[j]? = some v → Value.okWide Try.prog W .any base t v := hval0
  have hW' := hW
  obtain ⟨p, q, hA0, hV, rfl, hfz, hnd⟩ := hW
  have hA : DataW.TrodAll enc Try.prog W 0 (fun _ => true) true Try.f4.params.toList args.toList ds p := hA0
  rw [Try.params4] at hA hval
  obtain ⟨v0, vs0, d0, ds0, p0, q0, hargs, rfl, rfl, h0, r0⟩ := trodAll_cons hA
  obtain ⟨v1, vs1, d1, ds1, p1, q1, rfl, rfl, rfl, h1, r1⟩ := trodAll_cons r0
  obtain ⟨v2, vs2, d2, ds2, p2, q2, rfl, rfl, rfl, h2, r2⟩ := trodAll_cons r1
  obtain ⟨rfl, rfl, rfl⟩ := trodAll_nil r2
  obtain rfl : args = #[v0, v1, v2] := by cases args; simp_all
  obtain ⟨rfl, rfl⟩ := trodVars_none hV
  obtain ⟨a0, rfl, rfl, rfl, w0⟩ := open_int Try.underlying2 (hval 0 2 v0 rfl rfl) h0
  obtain ⟨a1, rfl, rfl, rfl, w1⟩ := open_int Try.underlying2 (hval 1 2 v1 rfl rfl) h1
  have k2 := h2
  have lt2 : ∀ x ∈ p2, x.block < W.heap.size := by obtain ⟨m, hm⟩ := k2; exact DataW.trod_lt m _ _ _ hm
  obtain ⟨xa2, xb2, rfl, wa2, wb2⟩ := open_arr2 Try.underlying29 Try.underlying2 (by kernel_rfl) (by kernel_rfl) (hval 2 29 v2 rfl rfl) h2
  clear hA0 hval0
  refine (walk a0 a1 xa2 xb2 w0 w1 wa2 wb2 W).mono fun e W' ⟨he, bel⟩ => ?_
  subst he
  exact ⟨_, rfl, _, _, _, [], _, [], hW', trodAll_mk1 (shut_bool Try.underlying4 _), (trodAll_cons_mk (shut_int Try.underlying2 w0) (trodAll_cons_mk (shut_int Try.underlying2 w1) (trodAll_cons_mk (Below.trod laidOut (by kernel_rfl) (of_decide_eq_true (by kernel_rfl)) k2 bel lt2) trodAll_mk0))), rfl, bel.frame _, fun h => by cases h⟩
theorem over : Rows.quantOrderRow.holds Try.pinned (OpenSpec.ofChange Rows.quantOrderSpec) :=
  OpenClaim.holds_of_wide 4 Try.f4 rfl rfl rfl rfl rfl rfl rfl ⟨rfl, rfl, rfl, rfl, rfl⟩ rfl rfl rfl rfl rfl (by kernel_rfl) Try.func4 (by kernel_rfl)
    (of_decide_eq_true (by kernel_rfl)) (by unfold Func.isWrapper; first | (rw [if_pos (by decide +kernel)]; kernel_rfl) | (rw [if_neg (by decide +kernel)]; exact ⟨rfl, rfl⟩))
    (fun os started H enc _ => lifted os started H enc)
/-- The statement. -/
theorem proved : Rows.QuantOrderSaid := over
end Go.Proofs.Ythgoaijfpdnolaa.quantOrder
