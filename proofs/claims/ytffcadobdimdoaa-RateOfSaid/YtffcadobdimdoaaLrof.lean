/- RateOf (P18.1): the rate of any two samples, within any bound. No conditions. -/
import Derived.Test.YtffcadobdimdoaaRows
import Derived.Test.YtffcadobdimdoaaRtl
import Derived.Test.YtffcadobdimdoaaQui
import Derived.Deep.DeepCutAuto
import Derived.Lib.SmallJoins
import Derived.WalkKit
import Derived.ProofKit
import Derived.OpenShut
import Derived.ShutString
import Derived.ChangeOld
import Derived.Below
namespace Go.Proofs.Ytffcadobdimdoaa.rateOf
open Go.ChangeShapes Go.WideShapes Go.ChangeAt Go.RowKit
theorem own : ownKnob Try.prog.godebug = none := by kernel_rfl
theorem laidOut : laidOutB Try.prog = true := by kernel_rfl
set_option maxRecDepth 100000 in
set_option maxHeartbeats 4000000 in
theorem walk (ta ha tb hb m : Int) (v1 : (Lit.int .i64 ta).wf = true) (v2 : (Lit.int .i64 ha).wf = true) (v3 : (Lit.int .i64 tb).wf = true) (v4 : (Lit.int .i64 hb).wf = true) (_ : (Lit.int .i64 m).wf = true) (w : World) :
    Calls Try.prog 3 #[.agg #[.int .i64 ta, .int .i64 ha], .agg #[.int .i64 tb, .int .i64 hb], .int .i64 m] w fun y w' => y = .returned (.bool true) ∧ Below w.heap.size w w' := by
  have HOF := Lib.hid (fun u => rate_of_any ta ha tb hb m (wf64 v1) (wf64 v2) (wf64 v3) (wf64 v4) u)
  have HRF := Lib.hid (fun u => rof_any ta ha tb hb m (wf64 v1) (wf64 v2) (wf64 v3) (wf64 v4) u)
  have HP1 := Lib.hid (fun u => plain_any ta ha u)
  have HP2 := Lib.hid (fun u => plain_any tb hb u)
  have HL := Lib.hid (fun u => live18 u)
  clear v1 v2 v3 v4
  obtain ⟨X, hX⟩ : ∃ X, X = rofX ta ha tb hb m := ⟨_, rfl⟩
  obtain ⟨Y, hY⟩ : ∃ Y, Y = rofB ta ha tb hb m := ⟨_, rfl⟩
  rw [← hX, ← hY] at HOF HRF
  clear hX hY
  have HBX := Lib.hid (((Below.refl _ w).alloc (Nat.le_refl _) (.cells #[.int .i64 ta, .int .i64 ha] 23)).alloc (by simp) (.cells #[.int .i64 tb, .int .i64 hb] 23))
  have e1 : (X == X) = true := by simp
  have e2 : (Y == Y) = true := by simp
  go_enter Try.func3, Try.ntmps3
  go_wp2_with fail
  obtain ⟨W0, hW0⟩ : ∃ W, W = ((w.alloc (.cells #[.int .i64 ta, .int .i64 ha] 23)).alloc (.cells #[.int .i64 tb, .int .i64 hb] 23)) := ⟨_, rfl⟩
  have HB0 := Lib.hid (show Below w.heap.size w W0 from hW0 ▸ HBX.out)
  have HA0 := Lib.hid (show Blk W0 w.heap.size 23 [.int .i64 ta, .int .i64 ha] from hW0 ▸ (Blk.new w 23 [.int .i64 ta, .int .i64 ha]).keep ((Below.refl _ _).alloc (Nat.le_refl _) _) (by simp))
  have HC0 := Lib.hid (show Blk W0 (w.heap.size + 1) 23 [.int .i64 tb, .int .i64 hb] from hW0 ▸ by
    have := Blk.new (w.alloc (Obj.cells #[.int .i64 ta, .int .i64 ha] 23)) 23 [.int .i64 tb, .int .i64 hb]
    rw [show (w.alloc (Obj.cells #[.int .i64 ta, .int .i64 ha] 23)).heap.size = w.heap.size + 1 by simp] at this
    exact this)
  have HZ := Lib.hid (show ∀ x, Below W0.heap.size W0 x → Below W0.heap.size W0 x ∧ x.cell? ⟨w.heap.size, 0, none⟩ = some (.int .i64 ta) ∧ x.cell? ⟨w.heap.size, 1, none⟩ = some (.int .i64 ha) ∧ x.cell? ⟨w.heap.size + 1, 0, none⟩ = some (.int .i64 tb) ∧ x.cell? ⟨w.heap.size + 1, 1, none⟩ = some (.int .i64 hb) from fun x hx => ⟨hx, (HA0.out.keep hx HA0.out.lt).cellAt (i := 0) (by simp), (HA0.out.keep hx HA0.out.lt).cellAt (i := 1) (by simp), (HC0.out.keep hx HC0.out.lt).cellAt (i := 0) (by simp), (HC0.out.keep hx HC0.out.lt).cellAt (i := 1) (by simp)⟩)
  rw [← hW0]
  clear hW0 HBX
  refine (HOF.out _).mono ?_
  rintro y w1 ⟨rfl, hb⟩
  have HB1 := Lib.hid hb
  clear hb
  go_upto_region 2 with fail
  refine wp_region_class (C := fun x => Below W0.heap.size W0 x ∧ x.cell? ⟨w.heap.size, 0, none⟩ = some (.int .i64 ta) ∧ x.cell? ⟨w.heap.size, 1, none⟩ = some (.int .i64 ha) ∧ x.cell? ⟨w.heap.size + 1, 0, none⟩ = some (.int .i64 tb) ∧ x.cell? ⟨w.heap.size + 1, 1, none⟩ = some (.int .i64 hb)) (by kernel_rfl) (by kernel_rfl) (HZ.out _ HB1.out.drew) ?_
  repeat
    with_reducible refine wpQuiet_step (fun K hK => ?_)
    first
      | (refine quiet_skip (by rfl) ?_; (with_reducible refine hK _ ?_); clear hK K)
      | (refine quiet_want (by rfl) ?_
         apply Exists.intro
         refine ⟨fun x hx => ?_, hK _ ?_⟩
         (obtain ⟨_, hx1, hx2, hx3, hx4⟩ := id hx; go_simp; first | done | rfl | (first | (go_at_call 15; exact (HP1.out _).mono fun y w' ⟨h1, h2⟩ => ⟨h1, HZ.out _ (below_transG hx.1 h2)⟩) | (go_at_call 15; exact (HP2.out _).mono fun y w' ⟨h1, h2⟩ => ⟨h1, HZ.out _ (below_transG hx.1 h2)⟩) | (go_at_call 14; exact (HRF.out _).mono fun y w' ⟨h1, h2⟩ => ⟨h1, HZ.out _ (below_transG hx.1 h2)⟩)))
         clear hK K)
    try simp only [Act.put, List.setIfInBounds_toArray, List.set_cons_zero, List.set_cons_succ]
  with_reducible refine wpQuiet_nil ?_
  intro wq hq
  have HB2 := Lib.hid (below_transG HB0.out hq.1)
  clear hq HZ
  go_wp2_with fail
  refine (HL.out _).mono ?_
  rintro y w3 ⟨rfl, hb⟩
  have HB3 := Lib.hid (below_transG HB2.out hb)
  clear hb
  go_wp2_with fail
  go_ret
  exact ⟨rfl, HB3.out⟩
set_option maxRecDepth 100000 in
theorem lifted (os : Os) (started : os.Started) (H : Type) (enc : TypeId × Value → H) :
    ReturnsInHanded {} Try.checked os 3 .any (Rows.rateOfSpec.pre6 enc Try.prog Try.f3 Rows.rateOfRow.domain false) (Rows.rateOfSpec.post enc Try.prog Try.f3 false true false false) := by
  refine returnsInHanded_of_change (C := Try.checked) own started (by kernel_rfl) Try.func3
    (ChangeSpec.witness6 (enc := enc) (C := Try.checked) false ⟨#[], #[.agg #[.int .i64 0, .int .i64 0], .agg #[.int .i64 0, .int .i64 0], .int .i64 0], []⟩ 8 (by kernel_rfl) (by kernel_rfl) (by kernel_rfl) (by kernel_rfl)) ?_
  intro W base args ds gs before hval0 hW _ _
  have hval : ∀ (j : Nat) t v, Try.f3.params[j]? = some t → args[j]? = some v → Value.okWide Try.prog W .any base t v := hval0
  have hW' := hW
  obtain ⟨p, q, hA0, hV, rfl, hfz, hnd⟩ := hW
  have hA : DataW.TrodAll enc Try.prog W 0 (fun _ => true) true Try.f3.params.toList args.toList ds p := hA0
  rw [Try.params3] at hA hval
  obtain ⟨v0, vs0, d0, ds0, p0, q0, hargs, rfl, rfl, h0, r0⟩ := trodAll_cons hA
  obtain ⟨v1, vs1, d1, ds1, p1, q1, rfl, rfl, rfl, h1, r1⟩ := trodAll_cons r0
  obtain ⟨v2, vs2, d2, ds2, p2, q2, rfl, rfl, rfl, h2, r2⟩ := trodAll_cons r1
  obtain ⟨rfl, rfl, rfl⟩ := trodAll_nil r2
  obtain rfl : args = #[v0, v1, v2] := by cases args; simp_all
  obtain ⟨rfl, rfl⟩ := trodVars_none hV
  have k0 := h0
  have lt0 : ∀ x ∈ p0, x.block < W.heap.size := by obtain ⟨m, hm⟩ := k0; exact DataW.trod_lt m _ _ _ hm
  obtain ⟨ca0, cb0, ya0, yb0, n0, rfl, rfl, rfl, ta0, tb0⟩ := Joins.open_agg2 Try.underlying23 (by kernel_rfl) (by kernel_rfl) (hval 0 23 v0 rfl rfl) h0
  obtain ⟨xa0, hxa0, rfl, wa0⟩ := DataW.trod_int Try.underlying2 ta0
  obtain ⟨xb0, hxb0, rfl, wb0⟩ := DataW.trod_int Try.underlying2 tb0
  obtain rfl : ca0 = .int .i64 xa0 := by simpa using hxa0
  obtain rfl : cb0 = .int .i64 xb0 := by simpa using hxb0
  have k1 := h1
  have lt1 : ∀ x ∈ p1, x.block < W.heap.size := by obtain ⟨m, hm⟩ := k1; exact DataW.trod_lt m _ _ _ hm
  obtain ⟨ca1, cb1, ya1, yb1, n1, rfl, rfl, rfl, ta1, tb1⟩ := Joins.open_agg2 Try.underlying23 (by kernel_rfl) (by kernel_rfl) (hval 1 23 v1 rfl rfl) h1
  obtain ⟨xa1, hxa1, rfl, wa1⟩ := DataW.trod_int Try.underlying2 ta1
  obtain ⟨xb1, hxb1, rfl, wb1⟩ := DataW.trod_int Try.underlying2 tb1
  obtain rfl : ca1 = .int .i64 xa1 := by simpa using hxa1
  obtain rfl : cb1 = .int .i64 xb1 := by simpa using hxb1
  obtain ⟨a2, rfl, rfl, rfl, w2⟩ := open_int Try.underlying2 (hval 2 2 v2 rfl rfl) h2
  clear hA0 hval0
  refine (walk xa0 xb0 xa1 xb1 a2 wa0 wb0 wa1 wb1 w2 W).mono fun e W' ⟨he, bel⟩ => ?_
  subst he
  exact ⟨_, rfl, _, _, _, [], _, [], hW', trodAll_mk1 (shut_bool Try.underlying4 _), (trodAll_cons_mk (Below.trod laidOut (by kernel_rfl) (of_decide_eq_true (by kernel_rfl)) k0 bel lt0) (trodAll_cons_mk (Below.trod laidOut (by kernel_rfl) (of_decide_eq_true (by kernel_rfl)) k1 bel lt1) (trodAll_cons_mk (shut_int Try.underlying2 w2) trodAll_mk0))), rfl, bel.frame _, fun h => by cases h⟩
theorem over : Rows.rateOfRow.holds Try.pinned (OpenSpec.ofChange Rows.rateOfSpec) :=
  OpenClaim.holds_of_wide 3 Try.f3 rfl rfl rfl rfl rfl rfl rfl ⟨rfl, rfl, rfl, rfl, rfl⟩ rfl rfl rfl rfl rfl (by kernel_rfl) Try.func3 (by kernel_rfl)
    (of_decide_eq_true (by kernel_rfl)) (by unfold Func.isWrapper; first | (rw [if_pos (by decide +kernel)]; kernel_rfl) | (rw [if_neg (by decide +kernel)]; exact ⟨rfl, rfl⟩))
    (fun os started H enc _ => lifted os started H enc)
/-- The statement. -/
theorem proved : Rows.RateOfSaid := over
end Go.Proofs.Ytffcadobdimdoaa.rateOf
