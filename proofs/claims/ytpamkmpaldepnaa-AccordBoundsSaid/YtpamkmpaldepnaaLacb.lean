/- AccordBounds (P19.1): whether any config can be, its slope and its bounds, as the document says. No conditions. -/
import Derived.Test.YtpamkmpaldepnaaRows
import Derived.Test.YtpamkmpaldepnaaAco
import Derived.Test.YtpamkmpaldepnaaOpa
import Derived.Test.YtpamkmpaldepnaaQui
import Derived.WalkKit
import Derived.ProofKit
import Derived.OpenShut
import Derived.ShutString
import Derived.ChangeOld
import Derived.Below
namespace Go.Proofs.Ytpamkmpaldepnaa.accordBounds
open Go.ChangeShapes Go.WideShapes Go.ChangeAt Go.RowKit
theorem own : ownKnob Try.prog.godebug = none := by kernel_rfl
theorem laidOut : laidOutB Try.prog = true := by kernel_rfl
set_option maxRecDepth 100000 in
set_option maxHeartbeats 4000000 in
theorem walk (n d u : Int) (b : Int) (v1 : (Lit.int .i64 n).wf = true) (_ : (Lit.int .i64 d).wf = true) (_ : (Lit.int .i64 u).wf = true) (v4 : (Lit.int .i64 b).wf = true) (w : World) :
    Calls Try.prog 3 #[.agg #[.int .i64 n, .int .i64 d, .int .i64 u], .int .i64 b] w fun y w' => y = .returned (.bool true) ∧ Below w.heap.size w w' := by
  have H0 := Lib.hid (fun z => ac_right n d u (wf64 v1) z); have H1 := Lib.hid (fun z => rac_right n d u (wf64 v1) z)
  have H2 := Lib.hid (fun z => ac_slope n d u (wf64 v1) z); have H3 := Lib.hid (fun z => rac_slope n d u (wf64 v1) z)
  have H4 := Lib.hid (fun z => ac_bound n d u b (wf64 v1) (wf64 v4) z); have H5 := Lib.hid (fun z => rac_bound n d u b (wf64 v1) (wf64 v4) z)
  have HP := Lib.hid (fun z => ac_plain n d u z); have HL := Lib.hid (fun z => live19 z)
  obtain ⟨X, hX⟩ : ∃ X, X = rightC n d u := ⟨_, rfl⟩
  obtain ⟨Y, hY⟩ : ∃ X, X = slopeC n d u := ⟨_, rfl⟩
  obtain ⟨Z, hZ⟩ : ∃ X, X = boundX n d u b := ⟨_, rfl⟩
  obtain ⟨V, hV⟩ : ∃ X, X = boundB n d u b := ⟨_, rfl⟩
  rw [← hX] at H0 H1
  rw [← hY] at H2 H3
  rw [← hZ, ← hV] at H4 H5
  clear hX hY hZ hV
  have e1 : (X == X) = true := by simp
  have e2 : (Y == Y) = true := by simp
  have e3 : (Z == Z) = true := by simp
  have e4 : (V == V) = true := by simp
  go_enter Try.func3, Try.ntmps3
  go_upto_region 1 with fail
  obtain ⟨W0, hW0⟩ : ∃ W, W = w.alloc (.cells #[.int .i64 n, .int .i64 d, .int .i64 u] 25) := ⟨_, rfl⟩
  have HA0 := Lib.hid (show Blk W0 w.heap.size 25 [.int .i64 n, .int .i64 d, .int .i64 u] by rw [hW0]; exact Blk.new w 25 [.int .i64 n, .int .i64 d, .int .i64 u])
  have HB0 := Lib.hid (show Below w.heap.size w W0 by rw [hW0]; exact (Below.refl _ w).alloc (Nat.le_refl _) _)
  have HZ := Lib.hid (show ∀ x, Below W0.heap.size W0 x → Below W0.heap.size W0 x ∧ x.cell? ⟨w.heap.size, 0, none⟩ = some (.int .i64 n) ∧ x.cell? ⟨w.heap.size, 1, none⟩ = some (.int .i64 d) ∧ x.cell? ⟨w.heap.size, 2, none⟩ = some (.int .i64 u) from fun x hx => ⟨hx, (HA0.out.keep hx HA0.out.lt).cellAt (i := 0) (by simp), (HA0.out.keep hx HA0.out.lt).cellAt (i := 1) (by simp), (HA0.out.keep hx HA0.out.lt).cellAt (i := 2) (by simp)⟩)
  rw [← hW0]
  clear hW0 v1 v4 HA0
  have hz := HZ.out _ (Below.refl _ _)
  have c0 := (hz.2.1); have c1 := (hz.2.2.1); have c2 := (hz.2.2.2)
  go_wp2_with fail
  refine (H4.out _).mono ?_
  rintro y w1 ⟨rfl, hb1⟩
  have HS1 := Lib.hid hb1
  have hz1 := HZ.out _ hb1
  clear hz c0 c1 c2 hb1
  have c0 := (hz1.2.1); have c1 := (hz1.2.2.1); have c2 := (hz1.2.2.2)
  go_wp2_with fail
  refine (HP.out _).mono ?_
  rintro y w2 ⟨rfl, hb2⟩
  have HS2 := Lib.hid (below_transG HS1.out hb2)
  clear hz1 c0 c1 c2 hb2
  have hz2 := HZ.out _ HS2.out
  have c0 := (hz2.2.1); have c1 := (hz2.2.2.1); have c2 := (hz2.2.2.2)
  go_wp2_with fail
  refine (H5.out _).mono ?_
  rintro y w3 ⟨rfl, hb3⟩
  have HS3 := Lib.hid (below_transG HS2.out hb3)
  clear hz2 c0 c1 c2 hb3
  go_upto_region 3 with fail
  refine wp_region_class (C := fun x => Below W0.heap.size W0 x ∧ x.cell? ⟨w.heap.size, 0, none⟩ = some (.int .i64 n) ∧ x.cell? ⟨w.heap.size, 1, none⟩ = some (.int .i64 d) ∧ x.cell? ⟨w.heap.size, 2, none⟩ = some (.int .i64 u)) (by kernel_rfl) (by kernel_rfl) (HZ.out _ HS3.out.drew) ?_
  repeat
    with_reducible refine wpQuiet_step (fun K hK => ?_)
    first
      | (refine quiet_skip (by rfl) ?_; (with_reducible refine hK _ ?_); clear hK K)
      | (refine quiet_want (by rfl) ?_
         apply Exists.intro
         refine ⟨fun x hx => ?_, hK _ ?_⟩
         (obtain ⟨_, hx1, hx2, hx3⟩ := id hx; go_simp; first | done | rfl | (first | (go_at_call 11; exact (HL.out _).mono fun y w' ⟨h1, h2⟩ => ⟨h1, HZ.out _ (below_transG hx.1 h2)⟩) | (go_at_call 10; exact (HP.out _).mono fun y w' ⟨h1, h2⟩ => ⟨h1, HZ.out _ (below_transG hx.1 h2)⟩) | (go_at_call 12; exact (H0.out _).mono fun y w' ⟨h1, h2⟩ => ⟨h1, HZ.out _ (below_transG hx.1 h2)⟩) | (go_at_call 13; exact (H1.out _).mono fun y w' ⟨h1, h2⟩ => ⟨h1, HZ.out _ (below_transG hx.1 h2)⟩) | (go_at_call 14; exact (H2.out _).mono fun y w' ⟨h1, h2⟩ => ⟨h1, HZ.out _ (below_transG hx.1 h2)⟩) | (go_at_call 15; exact (H3.out _).mono fun y w' ⟨h1, h2⟩ => ⟨h1, HZ.out _ (below_transG hx.1 h2)⟩)))
         clear hK K)
    try simp only [Act.put, List.setIfInBounds_toArray, List.set_cons_zero, List.set_cons_succ]
  with_reducible refine wpQuiet_nil ?_
  intro wq hq
  have HB2 := Lib.hid (below_transG HB0.out hq.1)
  clear hq HZ
  go_wp2_with fail
  go_ret
  exact ⟨rfl, HB2.out⟩
set_option maxRecDepth 100000 in
theorem lifted (os : Os) (started : os.Started) (H : Type) (enc : TypeId × Value → H) :
    ReturnsInHanded {} Try.checked os 3 .any (Rows.accordBoundsSpec.pre6 enc Try.prog Try.f3 Rows.accordBoundsRow.domain false) (Rows.accordBoundsSpec.post enc Try.prog Try.f3 false true false false) := by
  refine returnsInHanded_of_change (C := Try.checked) own started (by kernel_rfl) Try.func3
    (ChangeSpec.witness6 (enc := enc) (C := Try.checked) false ⟨#[], #[.agg #[.int .i64 0, .int .i64 0, .int .i64 0], .int .i64 0], []⟩ 8 (by kernel_rfl) (by kernel_rfl) (by kernel_rfl) (by kernel_rfl)) ?_
  intro W base args ds gs before hval0 hW _ _
  have hval : ∀ (j : Nat) t v, Try.f3.params[j]? = some t → args[j]? = some v → Value.okWide Try.prog W .any base t v := hval0
  have hW' := hW
  obtain ⟨p, q, hA0, hV, rfl, hfz, hnd⟩ := hW
  have hA : DataW.TrodAll enc Try.prog W 0 (fun _ => true) true Try.f3.params.toList args.toList ds p := hA0
  rw [Try.params3] at hA hval
  obtain ⟨v0, vs0, d0, ds0, p0, q0, hargs, rfl, rfl, h0, r0⟩ := trodAll_cons hA
  obtain ⟨v1, vs1, d1, ds1, p1, q1, rfl, rfl, rfl, h1, r1⟩ := trodAll_cons r0
  obtain ⟨rfl, rfl, rfl⟩ := trodAll_nil r1
  obtain rfl : args = #[v0, v1] := by cases args; simp_all
  obtain ⟨rfl, rfl⟩ := trodVars_none hV
  have k0 := h0
  have lt0 : ∀ x ∈ p0, x.block < W.heap.size := by obtain ⟨m, hm⟩ := k0; exact DataW.trod_lt m _ _ _ hm
  obtain ⟨xa0, xb0, xc0, rfl, wa0, wb0, wc0⟩ := open_aconf (hval 0 25 v0 rfl rfl) h0
  obtain ⟨a1, rfl, rfl, rfl, w1⟩ := open_int Try.underlying2 (hval 1 2 v1 rfl rfl) h1
  clear hA0 hval0
  refine (walk xa0 xb0 xc0 a1 wa0 wb0 wc0 w1 W).mono fun e W' ⟨he, bel⟩ => ?_
  subst he
  exact ⟨_, rfl, _, _, _, [], _, [], hW', trodAll_mk1 (shut_bool Try.underlying4 _), (trodAll_cons_mk (Below.trod laidOut (by kernel_rfl) (of_decide_eq_true (by kernel_rfl)) k0 bel lt0) (trodAll_cons_mk (shut_int Try.underlying2 w1) trodAll_mk0)), rfl, bel.frame _, fun h => by cases h⟩
theorem over : Rows.accordBoundsRow.holds Try.pinned (OpenSpec.ofChange Rows.accordBoundsSpec) :=
  OpenClaim.holds_of_wide 3 Try.f3 rfl rfl rfl rfl rfl rfl rfl ⟨rfl, rfl, rfl, rfl, rfl⟩ rfl rfl rfl rfl rfl (by kernel_rfl) Try.func3 (by kernel_rfl)
    (of_decide_eq_true (by kernel_rfl)) (by unfold Func.isWrapper; first | (rw [if_pos (by decide +kernel)]; kernel_rfl) | (rw [if_neg (by decide +kernel)]; exact ⟨rfl, rfl⟩))
    (fun os started H enc _ => lifted os started H enc)
/-- The statement. -/
theorem proved : Rows.AccordBoundsSaid := over
end Go.Proofs.Ytpamkmpaldepnaa.accordBounds
