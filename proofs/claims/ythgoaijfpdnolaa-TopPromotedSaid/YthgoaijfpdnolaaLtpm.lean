/- TopPromoted (E3): so many epochs later a deadline's slot is so much less, till it is due; and a master's place is taken by the better ranks first. No conditions. -/
import Derived.Test.YthgoaijfpdnolaaRows
import Derived.Test.YthgoaijfpdnolaaKna
import Derived.Test.YthgoaijfpdnolaaQtc
import Derived.Test.YthgoaijfpdnolaaQui
import Derived.WalkKit
import Derived.ProofKit
import Derived.OpenShut
import Derived.ShutString
import Derived.ChangeOld
import Derived.Below
namespace Go.Proofs.Ythgoaijfpdnolaa.topPromoted
open Go.ChangeShapes Go.WideShapes Go.ChangeAt Go.RowKit
theorem own : ownKnob Try.prog.godebug = none := by kernel_rfl
theorem laidOut : laidOutB Try.prog = true := by kernel_rfl
theorem and_i30 (n : Int) : 0 ≤ bits .and .i64 n 1073741823 ∧ bits .and .i64 n 1073741823 ≤ 1073741823 := by
  have h : bits .and .i64 n 1073741823 = IntKind.i64.wrap ((BitVec.ofInt 64 n &&& BitVec.ofInt 64 1073741823).toNat : Nat) := rfl
  have h2 : (BitVec.ofInt 64 n &&& BitVec.ofInt 64 1073741823).toNat ≤ 1073741823 := by
    rw [BitVec.toNat_and]
    exact Nat.le_trans Nat.and_le_right (by decide)
  rw [h, IntKind.wrap_i64]
  omega
theorem and_i37 (n : Int) : 0 ≤ bits .and .i64 n 137438953471 ∧ bits .and .i64 n 137438953471 ≤ 137438953471 := by
  have h : bits .and .i64 n 137438953471 = IntKind.i64.wrap ((BitVec.ofInt 64 n &&& BitVec.ofInt 64 137438953471).toNat : Nat) := rfl
  have h2 : (BitVec.ofInt 64 n &&& BitVec.ofInt 64 137438953471).toNat ≤ 137438953471 := by
    rw [BitVec.toNat_and]
    exact Nat.le_trans Nat.and_le_right (by decide)
  rw [h, IntKind.wrap_i64]
  omega
theorem slot_less {at_ l k : Int} (hl : 1 ≤ l) (hk : 0 ≤ k) (ha : 0 ≤ at_) (hq : qmayB l [at_, 0] = true) (hr : qmayB l [at_, k * l] = true) : farB at_ 0 l = true ∨ (slotX at_ 0 l - k < 0 ∧ slotX at_ (k * l) l = 0) ∨ (¬ slotX at_ 0 l - k < 0 ∧ slotX at_ (k * l) l = slotX at_ 0 l - k) := by
  have hs : slotX at_ 0 l = clampV ((at_ - 0) / l) 0 255 := by unfold slotX; rw [hq]; rfl
  have ht : slotX at_ (k * l) l = clampV ((at_ - k * l) / l) 0 255 := by unfold slotX; rw [hr]; rfl
  have hd : (at_ - k * l) / l = at_ / l - k := by
    rw [Int.sub_ediv_of_dvd _ (Int.dvd_mul_left k l), Int.mul_ediv_cancel k (by omega)]
  have hf : farB at_ 0 l = decide (256 * l ≤ at_ - 0) := by unfold farB; rw [hq]; rfl
  rw [hd] at ht
  rw [Int.sub_zero] at hs hf
  have h0 : 0 ≤ at_ / l := Int.ediv_nonneg ha (by omega)
  have h4 : 256 ≤ at_ / l → farB at_ 0 l = true := fun h => by rw [hf]; exact decide_eq_true ((Int.le_ediv_iff_mul_le (by omega)).1 h)
  obtain ⟨q, hqq⟩ : ∃ q, q = at_ / l := ⟨_, rfl⟩
  rw [← hqq] at hs ht h4 h0
  by_cases h256 : 256 ≤ q
  · exact .inl (h4 h256)
  · right
    have e : slotX at_ 0 l = q := by rw [hs]; unfold clampV; rw [if_neg (by omega), if_neg (by omega)]
    rw [e, ht]
    unfold clampV
    by_cases h5 : q - k < 0
    · exact .inl ⟨h5, if_pos h5⟩
    · exact .inr ⟨h5, by rw [if_neg h5, if_neg (by omega)]⟩
set_option maxRecDepth 100000 in
set_option maxHeartbeats 4000000 in
theorem walk (d n k : Int) (_ : (Lit.int .i64 d).wf = true) (_ : (Lit.int .i64 n).wf = true) (wk : (Lit.int .u8 k).wf = true) (w : World) :
    Calls Try.prog 13 #[.int .i64 d, .int .i64 n, .int .u8 k] w fun y w' => y = .returned (.bool true) ∧ Below w.heap.size w w' := by
  have hk : 0 ≤ k ∧ k ≤ 255 := by
    simp [Lit.wf, IntKind.min, IntKind.max, IntKind.bits, IntKind.signed] at wk
    omega
  have hlen := and_i30 n; have hat := and_i37 d
  obtain ⟨g, hg⟩ : ∃ g, bits .and .i64 n 1073741823 = g := ⟨_, rfl⟩
  obtain ⟨a, ha⟩ : ∃ g, bits .and .i64 d 137438953471 = g := ⟨_, rfl⟩
  rw [hg] at hlen
  rw [ha] at hat
  obtain ⟨l, hl⟩ : ∃ l, l = g + 1 := ⟨_, rfl⟩
  have hwl : wrap64 (g + 1) = l := by rw [hl]; exact w64_in _ (by omega)
  have hl1 : 1 ≤ l ∧ l ≤ 1073741824 := by omega
  have hm0 : 0 ≤ k * l := Int.mul_nonneg hk.1 (by omega)
  have hm1 : k * l ≤ 255 * 1073741824 := Int.mul_le_mul hk.2 hl1.2 (by omega) (by omega)
  have qa : qmayB l [a, 0] = true := qmay_two_of (by omega) (by omega) (by omega)
  have qe : qmayB l [k * l] = true := qmay_one_of (by omega) (by omega)
  have qb : qmayB l [a, k * l] = true := qmay_two_of (by omega) (by omega) (by omega)
  have hsl := slot_less hl1.1 hk.1 hat.1 qa qb
  have hse := slot_in a 0 l
  have HE := Lib.hid (fun u => qepoch_any (k * l) l u)
  have he : epochX (k * l) l = k * l := by unfold epochX; rw [qe, Int.mul_emod_left]; simp
  rw [he, qe] at HE
  have HS := Lib.hid (fun u => qslot_any a 0 l u); have HT := Lib.hid (fun u => qslot_any a (k * l) l u); have HF := Lib.hid (fun u => qfar_any a 0 l u)
  rw [qa] at HS
  rw [qb] at HT
  obtain ⟨s, hs⟩ : ∃ s, s = slotX a 0 l := ⟨_, rfl⟩
  obtain ⟨t, ht⟩ : ∃ s, s = slotX a (k * l) l := ⟨_, rfl⟩
  obtain ⟨f, hf⟩ : ∃ s, s = farB a 0 l := ⟨_, rfl⟩
  rw [← hs] at HS hsl hse
  rw [← ht] at HT hsl
  rw [← hf] at HF hsl
  obtain ⟨e, hee⟩ : ∃ e, e = k * l := ⟨_, rfl⟩
  have hwe : wrap64 (k * l) = e := by rw [hee]; exact w64_in _ (by omega)
  rw [← hee] at HE HT
  obtain ⟨sk, hsk⟩ : ∃ z, z = s - k := ⟨_, rfl⟩
  have hwsk : wrap64 (s - k) = sk := by rw [hsk]; exact w64_in _ (by omega)
  rw [← hsk] at hsl
  obtain ⟨r, hr⟩ : ∃ r, r = k % 30 := ⟨_, rfl⟩
  have hr1 : 0 ≤ r ∧ r < 30 := by omega
  obtain ⟨k1, hk1⟩ : ∃ r, r = k + 1 := ⟨_, rfl⟩
  have hrc : rightR 5 k1 2 = true := rc_rightR ⟨by decide, by omega, by decide⟩
  obtain ⟨_, _, wa, _, _⟩ := wait_in (r := r) hrc (by omega)
  obtain ⟨_, _, wb, _, _⟩ := wait_in (r := r + 1) hrc (by omega)
  have hlt : waitI 5 k1 r < waitI 5 k1 (r + 1) := by unfold waitI; rw [Int.add_mul, Int.one_mul]; omega
  have HW := Lib.hid (fun z u => rk_wait 5 k1 2 z u)
  obtain ⟨x, hx⟩ : ∃ x, x = waitI 5 k1 r := ⟨_, rfl⟩
  obtain ⟨y, hy⟩ : ∃ x, x = waitI 5 k1 (r + 1) := ⟨_, rfl⟩
  rw [← hx] at hlt wa
  rw [← hy] at hlt wb
  obtain ⟨r1, hr2⟩ : ∃ z, z = r + 1 := ⟨_, rfl⟩
  rw [← hr2] at wb
  have e1 : k % 30 = r := hr.symm
  have e2 : k.tmod 30 = r := by rw [Int.tmod_eq_emod_of_nonneg hk.1]; exact e1
  have e3 : wrap64 (r + 1) = r1 := by rw [hr2]; exact w64_in _ (by omega)
  have e3b : IntKind.i64.wrap (r + 1) = r1 := by rw [IntKind.wrap_i64]; omega
  have e4 : wrap64 (k + 1) = k1 := by rw [hk1]; exact w64_in _ (by omega)
  have e5 : wrap64 k = k := w64_in _ (by omega)
  have e6 : IntKind.i64.wrap k = k := by rw [IntKind.wrap_i64]; omega
  have e7 : ¬ y ≤ x := by omega
  have e8 : x < y := hlt
  have HSL := Lib.hid hsl; have HK1 := Lib.hid (show k + 1 = k1 from hk1.symm); have HWA := Lib.hid wa; have HWB := Lib.hid wb
  clear hsl hs ht hf hee hsk hr hk1 hrc wa wb hx hy hr2 qa qe qb hse he hl hl1 hm0 hm1 hat hlen wk hlt
  go_enter Try.func13, Try.ntmps13
  go_wp2_with fail
  refine (HS.out _).mono ?_
  rintro y w1 ⟨rfl, hb⟩
  have HB1 := Lib.hid hb
  clear hb
  go_wp2_with fail
  refine (HE.out _).mono ?_
  rintro y w2 ⟨rfl, hb⟩
  have HB2 := Lib.hid (below_transG HB1.out hb)
  clear hb
  go_wp2_with fail
  refine (HT.out _).mono ?_
  rintro y w3 ⟨rfl, hb⟩
  have HB3 := Lib.hid (below_transG HB2.out hb)
  clear hb
  obtain ⟨W1, hW1⟩ : ∃ W1, W1 = w3.alloc (.cells #[.int .i64 5, .int .i64 k1, .int .i64 2] 34) := ⟨_, rfl⟩
  have HBW := Lib.hid (show Below w.heap.size w W1 by rw [hW1]; exact below_transG HB3.out ((Below.refl _ w3).alloc (Nat.le_refl _) _))
  have hC : Blk W1 w3.heap.size 34 [.int .i64 5, .int .i64 k1, .int .i64 2] := by rw [hW1]; exact Blk.new w3 34 [.int .i64 5, .int .i64 k1, .int .i64 2]
  go_upto_region 7 with fail
  rw [HK1.out, ← hW1]
  obtain ⟨C, hCC⟩ : ∃ C, C = w3.heap.size := ⟨_, rfl⟩
  rw [← hCC] at hC ⊢
  have HC := Lib.hid hC
  have HZ := Lib.hid (show ∀ x, Below W1.heap.size W1 x → Below W1.heap.size W1 x ∧ x.cell? ⟨C, 0, none⟩ = some (.int .i64 5) ∧ x.cell? ⟨C, 1, none⟩ = some (.int .i64 k1) ∧ x.cell? ⟨C, 2, none⟩ = some (.int .i64 2) from fun x hx => ⟨hx, (HC.out.keep hx HC.out.lt).cellAt (i := 0) (by simp), (HC.out.keep hx HC.out.lt).cellAt (i := 1) (by simp), (HC.out.keep hx HC.out.lt).cellAt (i := 2) (by simp)⟩)
  clear hW1 hCC hC
  refine wp_region_class (C := fun x => Below W1.heap.size W1 x ∧ x.cell? ⟨C, 0, none⟩ = some (.int .i64 5) ∧ x.cell? ⟨C, 1, none⟩ = some (.int .i64 k1) ∧ x.cell? ⟨C, 2, none⟩ = some (.int .i64 2)) (by kernel_rfl) (by kernel_rfl) (HZ.out _ (Below.refl _ _).drew) ?_
  repeat
    with_reducible refine wpQuiet_step (fun K hK => ?_)
    first
      | (refine quiet_skip (by rfl) ?_; (with_reducible refine hK _ ?_); clear hK K)
      | (refine quiet_want (by rfl) ?_
         apply Exists.intro
         refine ⟨fun x hx => ?_, hK _ ?_⟩
         (obtain ⟨_, hx1, hx2, hx3⟩ := id hx; go_simp; first | done | rfl | (first | (go_at_call 31; exact (HW.out _ _).mono fun y w' ⟨h1, h2⟩ => ⟨h1, HZ.out _ (below_transG hx.1 h2)⟩)))
         clear hK K)
    try simp only [Act.put, List.setIfInBounds_toArray, List.set_cons_zero, List.set_cons_succ]
  with_reducible refine wpQuiet_nil ?_
  intro wq hq
  have HB4 := Lib.hid (below_transG HBW.out hq.1)
  clear hq HZ
  rw [HWA.out, HWB.out]
  go_wp2_with fail
  refine (HF.out _).mono ?_
  rintro y w5 ⟨rfl, hb⟩
  have HB5 := Lib.hid (below_transG HB4.out hb)
  clear hb
  cases f
  · have hg := HSL.out
    rcases hg with hg | ⟨h1, rfl⟩ | ⟨h1, rfl⟩
    · cases hg
    · have m1 : max sk 0 = 0 := by omega
      go_wp2_with fail
      go_ret
      exact ⟨rfl, HB5.out⟩
    · have m1 : max t 0 = t := by omega
      have m2 : (t == t) = true := by simp
      go_wp2_with fail
      go_ret
      exact ⟨rfl, HB5.out⟩
  · go_wp2_with fail
    go_ret
    exact ⟨rfl, HB5.out⟩
set_option maxRecDepth 100000 in
theorem lifted (os : Os) (started : os.Started) (H : Type) (enc : TypeId × Value → H) :
    ReturnsInHanded {} Try.checked os 13 .any (Rows.topPromotedSpec.pre6 enc Try.prog Try.f13 Rows.topPromotedRow.domain false) (Rows.topPromotedSpec.post enc Try.prog Try.f13 false true false false) := by
  refine returnsInHanded_of_change (C := Try.checked) own started (by kernel_rfl) Try.func13
    (ChangeSpec.witness6 (enc := enc) (C := Try.checked) false ⟨#[], #[.int .i64 0, .int .i64 0, .int .u8 0], []⟩ 8 (by kernel_rfl) (by kernel_rfl) (by kernel_rfl) (by kernel_rfl)) ?_
  intro W base args ds gs before hval0 hW _ _
  have hval : ∀ (j : Nat) t v, Try.f13.params[j]? = some t → args[j]? = some v → Value.okWide Try.prog W .any base t v := hval0
  have hW' := hW
  obtain ⟨p, q, hA0, hV, rfl, hfz, hnd⟩ := hW
  have hA : DataW.TrodAll enc Try.prog W 0 (fun _ => true) true Try.f13.params.toList args.toList ds p := hA0
  rw [Try.params13] at hA hval
  obtain ⟨v0, vs0, d0, ds0, p0, q0, hargs, rfl, rfl, h0, r0⟩ := trodAll_cons hA
  obtain ⟨v1, vs1, d1, ds1, p1, q1, rfl, rfl, rfl, h1, r1⟩ := trodAll_cons r0
  obtain ⟨v2, vs2, d2, ds2, p2, q2, rfl, rfl, rfl, h2, r2⟩ := trodAll_cons r1
  obtain ⟨rfl, rfl, rfl⟩ := trodAll_nil r2
  obtain rfl : args = #[v0, v1, v2] := by cases args; simp_all
  obtain ⟨rfl, rfl⟩ := trodVars_none hV
  obtain ⟨a0, rfl, rfl, rfl, w0⟩ := open_int Try.underlying2 (hval 0 2 v0 rfl rfl) h0
  obtain ⟨a1, rfl, rfl, rfl, w1⟩ := open_int Try.underlying2 (hval 1 2 v1 rfl rfl) h1
  obtain ⟨a2, rfl, rfl, rfl, w2⟩ := open_int Try.underlying5 (hval 2 5 v2 rfl rfl) h2
  clear hA0 hval0
  refine (walk a0 a1 a2 w0 w1 w2 W).mono fun e W' ⟨he, bel⟩ => ?_
  subst he
  exact ⟨_, rfl, _, _, _, [], _, [], hW', trodAll_mk1 (shut_bool Try.underlying4 _), (trodAll_cons_mk (shut_int Try.underlying2 w0) (trodAll_cons_mk (shut_int Try.underlying2 w1) (trodAll_cons_mk (shut_int Try.underlying5 w2) trodAll_mk0))), rfl, bel.frame _, fun h => by cases h⟩
theorem over : Rows.topPromotedRow.holds Try.pinned (OpenSpec.ofChange Rows.topPromotedSpec) :=
  OpenClaim.holds_of_wide 13 Try.f13 rfl rfl rfl rfl rfl rfl rfl ⟨rfl, rfl, rfl, rfl, rfl⟩ rfl rfl rfl rfl rfl (by kernel_rfl) Try.func13 (by kernel_rfl)
    (of_decide_eq_true (by kernel_rfl)) (by unfold Func.isWrapper; first | (rw [if_pos (by decide +kernel)]; kernel_rfl) | (rw [if_neg (by decide +kernel)]; exact ⟨rfl, rfl⟩))
    (fun os started H enc _ => lifted os started H enc)
/-- The statement. -/
theorem proved : Rows.TopPromotedSaid := over
end Go.Proofs.Ythgoaijfpdnolaa.topPromoted
