/- RankWaits (P21.1): whether any config can be, how long nodes wait, and in how many ticks one is master, as the document says. No conditions. -/
import Derived.Test.YthgoaijfpdnolaaRows
import Derived.Test.YthgoaijfpdnolaaKnl
import Derived.Test.YthgoaijfpdnolaaOp2
import Derived.Lib.SmallJoins
import Derived.WalkKit
import Derived.ProofKit
import Derived.OpenShut
import Derived.ShutString
import Derived.ChangeOld
import Derived.Below
namespace Go.Proofs.Ythgoaijfpdnolaa.rankWaits
open Go.ChangeShapes Go.WideShapes Go.ChangeAt Go.RowKit
theorem own : ownKnob Try.prog.godebug = none := by kernel_rfl
theorem laidOut : laidOutB Try.prog = true := by kernel_rfl
set_option maxRecDepth 100000 in
set_option maxHeartbeats 4000000 in
theorem walk (b s p n0 n1 : Int) (_ : (Lit.int .i64 b).wf = true) (_ : (Lit.int .i64 s).wf = true) (_ : (Lit.int .i64 p).wf = true) (_ : (Lit.int .i64 n0).wf = true) (_ : (Lit.int .i64 n1).wf = true) (w : World) :
    Calls Try.prog 8 #[.agg #[.int .i64 b, .int .i64 s, .int .i64 p], .agg #[.int .i64 n0, .int .i64 n1]] w fun y w' => y = .returned (.bool true) ∧ Below w.heap.size w w' := by
  have H0 := Lib.hid (fun u => rk_right b s p u); have H1 := Lib.hid (fun u => rrk_right b s p u)
  have H2 := Lib.hid (fun u => rk_wait b s p n0 u); have H3 := Lib.hid (fun u => rrk_wait b s p n0 u)
  have H4 := Lib.hid (fun u => rk_window b s p n0 n1 u); have H5 := Lib.hid (fun u => rrk_window b s p n0 n1 u)
  have HP := Lib.hid (fun u => lw_plain b s p u); have HL := Lib.hid (fun u => live21 u)
  obtain ⟨X, hX⟩ : ∃ X, X = rightR b s p := ⟨_, rfl⟩
  obtain ⟨Y, hY⟩ : ∃ X, X = waitX b s p n0 := ⟨_, rfl⟩
  obtain ⟨Z, hZ⟩ : ∃ X, X = windX b s p n0 n1 := ⟨_, rfl⟩
  rw [← hX] at H0 H1
  rw [← hY] at H2 H3
  rw [← hZ] at H4 H5
  clear hX hY hZ
  have e1 : (X == X) = true := by simp
  have e2 : (Y == Y) = true := by simp
  have e3 : (Z == Z) = true := by simp
  have HBX := Lib.hid (((Below.refl _ w).alloc (Nat.le_refl _) (.cells #[.int .i64 b, .int .i64 s, .int .i64 p] 34)).alloc (by simp) (.cells #[.int .i64 n0, .int .i64 n1] 35))
  go_enter Try.func8, Try.ntmps8
  go_upto_region 1 with fail
  obtain ⟨W0, hW0⟩ : ∃ W, W = ((w.alloc (.cells #[.int .i64 b, .int .i64 s, .int .i64 p] 34)).alloc (.cells #[.int .i64 n0, .int .i64 n1] 35)) := ⟨_, rfl⟩
  have HB0 := Lib.hid (show Below w.heap.size w W0 from hW0 ▸ HBX.out)
  have HA0 := Lib.hid (show Blk W0 w.heap.size 34 [.int .i64 b, .int .i64 s, .int .i64 p] from hW0 ▸ (Blk.new w 34 [.int .i64 b, .int .i64 s, .int .i64 p]).keep ((Below.refl _ _).alloc (Nat.le_refl _) _) (by simp))
  have HC0 := Lib.hid (show Blk W0 (w.heap.size + 1) 35 [.int .i64 n0, .int .i64 n1] from hW0 ▸ by
    have := Blk.new (w.alloc (Obj.cells #[.int .i64 b, .int .i64 s, .int .i64 p] 34)) 35 [.int .i64 n0, .int .i64 n1]
    rw [show (w.alloc (Obj.cells #[.int .i64 b, .int .i64 s, .int .i64 p] 34)).heap.size = w.heap.size + 1 by simp] at this
    exact this)
  have HZ := Lib.hid (show ∀ x, Below W0.heap.size W0 x → Below W0.heap.size W0 x ∧ x.cell? ⟨w.heap.size, 0, none⟩ = some (.int .i64 b) ∧ x.cell? ⟨w.heap.size, 1, none⟩ = some (.int .i64 s) ∧ x.cell? ⟨w.heap.size, 2, none⟩ = some (.int .i64 p) ∧ x.cell? ⟨w.heap.size + 1, 0, none⟩ = some (.int .i64 n0) ∧ x.cell? ⟨w.heap.size + 1, 1, none⟩ = some (.int .i64 n1) from fun x hx => ⟨hx, (HA0.out.keep hx HA0.out.lt).cellAt (i := 0) (by simp), (HA0.out.keep hx HA0.out.lt).cellAt (i := 1) (by simp), (HA0.out.keep hx HA0.out.lt).cellAt (i := 2) (by simp), (HC0.out.keep hx HC0.out.lt).cellAt (i := 0) (by simp), (HC0.out.keep hx HC0.out.lt).cellAt (i := 1) (by simp)⟩)
  rw [← hW0]
  clear hW0 HBX
  refine wp_region_class (C := fun x => Below W0.heap.size W0 x ∧ x.cell? ⟨w.heap.size, 0, none⟩ = some (.int .i64 b) ∧ x.cell? ⟨w.heap.size, 1, none⟩ = some (.int .i64 s) ∧ x.cell? ⟨w.heap.size, 2, none⟩ = some (.int .i64 p) ∧ x.cell? ⟨w.heap.size + 1, 0, none⟩ = some (.int .i64 n0) ∧ x.cell? ⟨w.heap.size + 1, 1, none⟩ = some (.int .i64 n1)) (by kernel_rfl) (by kernel_rfl) (HZ.out _ (Below.refl _ _).drew) ?_
  repeat
    with_reducible refine wpQuiet_step (fun K hK => ?_)
    first
      | (refine quiet_skip (by rfl) ?_; (with_reducible refine hK _ ?_); clear hK K)
      | (refine quiet_want (by rfl) ?_
         apply Exists.intro
         refine ⟨fun x hx => ?_, hK _ ?_⟩
         (obtain ⟨_, hx1, hx2, hx3, hx4, hx5⟩ := id hx; go_simp; first | done | rfl | (first | (go_at_call 27; exact (HL.out _).mono fun y w' ⟨h1, h2⟩ => ⟨h1, HZ.out _ (below_transG hx.1 h2)⟩) | (go_at_call 28; exact (H0.out _).mono fun y w' ⟨h1, h2⟩ => ⟨h1, HZ.out _ (below_transG hx.1 h2)⟩) | (go_at_call 29; exact (H1.out _).mono fun y w' ⟨h1, h2⟩ => ⟨h1, HZ.out _ (below_transG hx.1 h2)⟩) | (go_at_call 30; exact (HP.out _).mono fun y w' ⟨h1, h2⟩ => ⟨h1, HZ.out _ (below_transG hx.1 h2)⟩) | (go_at_call 31; exact (H2.out _).mono fun y w' ⟨h1, h2⟩ => ⟨h1, HZ.out _ (below_transG hx.1 h2)⟩) | (go_at_call 32; exact (H3.out _).mono fun y w' ⟨h1, h2⟩ => ⟨h1, HZ.out _ (below_transG hx.1 h2)⟩) | (go_at_call 33; exact (H4.out _).mono fun y w' ⟨h1, h2⟩ => ⟨h1, HZ.out _ (below_transG hx.1 h2)⟩) | (go_at_call 34; exact (H5.out _).mono fun y w' ⟨h1, h2⟩ => ⟨h1, HZ.out _ (below_transG hx.1 h2)⟩)))
         clear hK K)
    try simp only [Act.put, List.setIfInBounds_toArray, List.set_cons_zero, List.set_cons_succ]
  with_reducible refine wpQuiet_nil ?_
  intro wq hq
  have HB2 := Lib.hid (below_transG HB0.out hq.1)
  clear hq HZ
  go_wp2_with fail
  go_ret
  exact ⟨rfl, HB2.out⟩
set_option maxRecDepth 100000 in
theorem lifted (os : Os) (started : os.Started) (H : Type) (enc : TypeId × Value → H) :
    ReturnsInHanded {} Try.checked os 8 .any (Rows.rankWaitsSpec.pre6 enc Try.prog Try.f8 Rows.rankWaitsRow.domain false) (Rows.rankWaitsSpec.post enc Try.prog Try.f8 false true false false) := by
  refine returnsInHanded_of_change (C := Try.checked) own started (by kernel_rfl) Try.func8
    (ChangeSpec.witness6 (enc := enc) (C := Try.checked) false ⟨#[], #[.agg #[.int .i64 0, .int .i64 0, .int .i64 0], .agg #[.int .i64 0, .int .i64 0]], []⟩ 8 (by kernel_rfl) (by kernel_rfl) (by kernel_rfl) (by kernel_rfl)) ?_
  intro W base args ds gs before hval0 hW _ _
  have hval : ∀ (j : Nat) t v, Try.f8.params[j]? = some t → args[j]? = some v → Value.okWide Try.prog W .any base t v := hval0
  have hW' := hW
  obtain ⟨p, q, hA0, hV, rfl, hfz, hnd⟩ := hW
  have hA : DataW.TrodAll enc Try.prog W 0 (fun _ => true) true Try.f8.params.toList args.toList ds p := hA0
  rw [Try.params8] at hA hval
  obtain ⟨v0, vs0, d0, ds0, p0, q0, hargs, rfl, rfl, h0, r0⟩ := trodAll_cons hA
  obtain ⟨v1, vs1, d1, ds1, p1, q1, rfl, rfl, rfl, h1, r1⟩ := trodAll_cons r0
  obtain ⟨rfl, rfl, rfl⟩ := trodAll_nil r1
  obtain rfl : args = #[v0, v1] := by cases args; simp_all
  obtain ⟨rfl, rfl⟩ := trodVars_none hV
  have k0 := h0
  have lt0 : ∀ x ∈ p0, x.block < W.heap.size := by obtain ⟨m, hm⟩ := k0; exact DataW.trod_lt m _ _ _ hm
  obtain ⟨ca0, cb0, cc0, ya0, yb0, yc0, n0, rfl, rfl, rfl, ta0, tb0, tc0⟩ := Joins.open_agg3 Try.underlying34 (by kernel_rfl) (by kernel_rfl) (hval 0 34 v0 rfl rfl) h0
  obtain ⟨xa0, hxa0, rfl, wa0⟩ := DataW.trod_int Try.underlying3 ta0
  obtain ⟨xb0, hxb0, rfl, wb0⟩ := DataW.trod_int Try.underlying3 tb0
  obtain ⟨xc0, hxc0, rfl, wc0⟩ := DataW.trod_int Try.underlying3 tc0
  obtain rfl : ca0 = .int .i64 xa0 := by simpa using hxa0
  obtain rfl : cb0 = .int .i64 xb0 := by simpa using hxb0
  obtain rfl : cc0 = .int .i64 xc0 := by simpa using hxc0
  have k1 := h1
  have lt1 : ∀ x ∈ p1, x.block < W.heap.size := by obtain ⟨m, hm⟩ := k1; exact DataW.trod_lt m _ _ _ hm
  obtain ⟨xa1, xb1, rfl, wa1, wb1⟩ := open_arr2 Try.underlying35 Try.underlying3 (by kernel_rfl) (by kernel_rfl) (hval 1 35 v1 rfl rfl) h1
  clear hA0 hval0
  refine (walk xa0 xb0 xc0 xa1 xb1 wa0 wb0 wc0 wa1 wb1 W).mono fun e W' ⟨he, bel⟩ => ?_
  subst he
  exact ⟨_, rfl, _, _, _, [], _, [], hW', trodAll_mk1 (shut_bool Try.underlying4 _), (trodAll_cons_mk (Below.trod laidOut (by kernel_rfl) (of_decide_eq_true (by kernel_rfl)) k0 bel lt0) (trodAll_cons_mk (Below.trod laidOut (by kernel_rfl) (of_decide_eq_true (by kernel_rfl)) k1 bel lt1) trodAll_mk0)), rfl, bel.frame _, fun h => by cases h⟩
theorem over : Rows.rankWaitsRow.holds Try.pinned (OpenSpec.ofChange Rows.rankWaitsSpec) :=
  OpenClaim.holds_of_wide 8 Try.f8 rfl rfl rfl rfl rfl rfl rfl ⟨rfl, rfl, rfl, rfl, rfl⟩ rfl rfl rfl rfl rfl (by kernel_rfl) Try.func8 (by kernel_rfl)
    (of_decide_eq_true (by kernel_rfl)) (by unfold Func.isWrapper; first | (rw [if_pos (by decide +kernel)]; kernel_rfl) | (rw [if_neg (by decide +kernel)]; exact ⟨rfl, rfl⟩))
    (fun os started H enc _ => lifted os started H enc)
/-- The statement. -/
theorem proved : Rows.RankWaitsSaid := over
end Go.Proofs.Ythgoaijfpdnolaa.rankWaits
