/- EdfAhead (P27.1): which job can be, and which of two is ahead; never both of the other. No conditions. -/
import Derived.Test.YtodkohjmghpolaaRows
import Derived.Test.YtodkohjmghpolaaEdv
import Derived.Test.YtodkohjmghpolaaEdd
import Derived.Test.YtodkohjmghpolaaOpj
import Derived.WalkKit
import Derived.ProofKit
import Derived.OpenShut
import Derived.ShutString
import Derived.ChangeOld
import Derived.Below
namespace Go.Proofs.Ytodkohjmghpolaa.edfAhead
open Go.ChangeShapes Go.WideShapes Go.ChangeAt Go.RowKit
theorem own : ownKnob Try.prog.godebug = none := by kernel_rfl
theorem laidOut : laidOutB Try.prog = true := by kernel_rfl
theorem ahead_asymm (a b : Jb) (len : Int) : ¬ (aheadJ a b len = true ∧ aheadJ b a len = true) := by
  rintro ⟨h1, h2⟩
  unfold aheadJ at h1 h2
  rw [Bool.and_eq_true, Bool.and_eq_true, Bool.and_eq_true] at h1 h2
  obtain ⟨⟨hl, ha, hb⟩, ho⟩ := h1
  obtain ⟨_, ho2⟩ := h2
  have hl2 : 1 ≤ len ∧ len ≤ 1073741824 := by
    rcases inB_cases len 1 1073741824 with ⟨_, h⟩ | ⟨_, _, h⟩ | ⟨g1, g2, _⟩
    · rw [h] at hl; cases hl
    · rw [h] at hl; cases hl
    · exact ⟨g1, g2⟩
  have k1 := (ord_lt ha hb hl2).1 (of_decide_eq_true ho)
  have k2 := (ord_lt hb ha hl2).1 (of_decide_eq_true ho2)
  unfold ltJ at k1 k2
  omega
set_option maxRecDepth 100000 in
set_option maxHeartbeats 8000000 in
theorem walk (a b : Jb) (len : Int) (_ : a.wf) (_ : b.wf) (_ : (Lit.int .i64 len).wf = true) (w : World) : Calls Try.prog 4 #[a.v, b.v, .int .i64 len] w fun y w' => y = .returned (.bool true) ∧ Below w.heap.size w w' := by
  obtain ⟨pp, hpp⟩ : ∃ z, z = aheadJ a b len := ⟨_, rfl⟩
  obtain ⟨pq, hpq⟩ : ∃ z, z = aheadJ b a len := ⟨_, rfl⟩
  obtain ⟨pr, hpr⟩ : ∃ z, z = rightJ a := ⟨_, rfl⟩
  have HX := Lib.hid (show ¬ (pp = true ∧ pq = true) by rw [hpp, hpq]; exact ahead_asymm a b len)
  have HA1 := Lib.hid (ahead_any a b len); have HA2 := Lib.hid (ahead_any b a len)
  have HU1 := Lib.hid (rahead_any a b len); have HU2 := Lib.hid (rahead_any b a len)
  have HR := Lib.hid (right_any a); have HQ := Lib.hid (rright_any a)
  have HLV := Lib.hid live27
  rw [← hpp] at HA1 HU1
  rw [← hpq] at HA2 HU2
  rw [← hpr] at HR HQ
  clear hpp hpq hpr
  unfold Jb.v at HA1 HA2 HU1 HU2 HR HQ ⊢
  go_enter Try.func4, Try.ntmps4
  go_upto_region 1 with fail
  obtain ⟨W1, hW1⟩ : ∃ W, W = ((w.alloc (.cells #[.int .i64 a.s, .int .i64 a.r, .int .i64 a.d, .int .i64 a.c] 42)).alloc (.cells #[.int .i64 b.s, .int .i64 b.r, .int .i64 b.d, .int .i64 b.c] 42)) := ⟨_, rfl⟩
  have hbel_ : Below w.heap.size w W1 := by rw [hW1]; exact (((Below.refl w.heap.size w).alloc (Nat.le_refl w.heap.size) _).alloc (by have := (Nat.le_refl w.heap.size); simp only [World.size_alloc]; omega) _)
  have h_s : Blk W1 w.heap.size 42 [.int .i64 a.s, .int .i64 a.r, .int .i64 a.d, .int .i64 a.c] := by rw [hW1]; exact (blk_at (w) w.heap.size (by rfl) 42 [.int .i64 a.s, .int .i64 a.r, .int .i64 a.d, .int .i64 a.c]).keep ((Below.refl (w.heap.size + 1) _).alloc (by simp only [World.size_alloc]; omega) _) (by omega)
  have h_t : Blk W1 (w.heap.size + 1) 42 [.int .i64 b.s, .int .i64 b.r, .int .i64 b.d, .int .i64 b.c] := by rw [hW1]; exact (blk_at ((w.alloc (.cells #[.int .i64 a.s, .int .i64 a.r, .int .i64 a.d, .int .i64 a.c] 42))) (w.heap.size + 1) (by simp only [World.size_alloc]) 42 [.int .i64 b.s, .int .i64 b.r, .int .i64 b.d, .int .i64 b.c]).keep (Below.refl ((w.heap.size + 1) + 1) _) (by omega)
  rw [← hW1]
  have HB1 := Lib.hid hbel_
  have Hs1 := Lib.hid h_s
  have Ht1 := Lib.hid h_t
  clear hbel_ hW1  h_s h_t
  have HZ := Lib.hid (show ∀ x, Below W1.heap.size W1 x → Below W1.heap.size W1 x ∧ x.cell? ⟨w.heap.size, 0, none⟩ = some (.int .i64 a.s) ∧ x.cell? ⟨w.heap.size, 1, none⟩ = some (.int .i64 a.r) ∧ x.cell? ⟨w.heap.size, 2, none⟩ = some (.int .i64 a.d) ∧ x.cell? ⟨w.heap.size, 3, none⟩ = some (.int .i64 a.c) ∧ x.cell? ⟨(w.heap.size + 1), 0, none⟩ = some (.int .i64 b.s) ∧ x.cell? ⟨(w.heap.size + 1), 1, none⟩ = some (.int .i64 b.r) ∧ x.cell? ⟨(w.heap.size + 1), 2, none⟩ = some (.int .i64 b.d) ∧ x.cell? ⟨(w.heap.size + 1), 3, none⟩ = some (.int .i64 b.c) from fun x hx => ⟨hx, (Hs1.out.keep hx Hs1.out.lt).cellAt (i := 0) (by simp), (Hs1.out.keep hx Hs1.out.lt).cellAt (i := 1) (by simp), (Hs1.out.keep hx Hs1.out.lt).cellAt (i := 2) (by simp), (Hs1.out.keep hx Hs1.out.lt).cellAt (i := 3) (by simp), (Ht1.out.keep hx Ht1.out.lt).cellAt (i := 0) (by simp), (Ht1.out.keep hx Ht1.out.lt).cellAt (i := 1) (by simp), (Ht1.out.keep hx Ht1.out.lt).cellAt (i := 2) (by simp), (Ht1.out.keep hx Ht1.out.lt).cellAt (i := 3) (by simp)⟩)
  refine wp_region_class (C := fun x => Below W1.heap.size W1 x ∧ x.cell? ⟨w.heap.size, 0, none⟩ = some (.int .i64 a.s) ∧ x.cell? ⟨w.heap.size, 1, none⟩ = some (.int .i64 a.r) ∧ x.cell? ⟨w.heap.size, 2, none⟩ = some (.int .i64 a.d) ∧ x.cell? ⟨w.heap.size, 3, none⟩ = some (.int .i64 a.c) ∧ x.cell? ⟨(w.heap.size + 1), 0, none⟩ = some (.int .i64 b.s) ∧ x.cell? ⟨(w.heap.size + 1), 1, none⟩ = some (.int .i64 b.r) ∧ x.cell? ⟨(w.heap.size + 1), 2, none⟩ = some (.int .i64 b.d) ∧ x.cell? ⟨(w.heap.size + 1), 3, none⟩ = some (.int .i64 b.c)) (by kernel_rfl) (by kernel_rfl) (HZ.out _ (Below.refl _ _).drew) ?_
  repeat
    with_reducible refine wpQuiet_step (fun K hK => ?_)
    first
      | (refine quiet_skip (by rfl) ?_; (with_reducible refine hK _ ?_); clear hK K)
      | (refine quiet_want (by rfl) ?_
         apply Exists.intro
         refine ⟨fun x hx => ?_, hK _ ?_⟩
         (obtain ⟨_, hx1, hx2, hx3, hx4, hx5, hx6, hx7, hx8⟩ := id hx; go_simp; first | done | rfl | (first | (go_at_call 16; with_reducible exact Calls.mono (HA1.out x) (fun y w' hh => ⟨hh.1, HZ.out _ (below_transG hx.1 hh.2)⟩)) | (go_at_call 16; with_reducible exact Calls.mono (HA2.out x) (fun y w' hh => ⟨hh.1, HZ.out _ (below_transG hx.1 hh.2)⟩))))
         clear hK K)
    try simp only [Act.put, List.setIfInBounds_toArray, List.set_cons_zero, List.set_cons_succ]
  with_reducible refine wpQuiet_nil ?_
  intro wq hq
  have HB2 := Lib.hid (below_transG HB1.out hq.1)
  have Hs2 := Lib.hid (Hs1.out.keep hq.1 Hs1.out.lt)
  have Ht2 := Lib.hid (Ht1.out.keep hq.1 Ht1.out.lt)
  obtain ⟨W2, hW2⟩ : ∃ W, W = wq := ⟨_, rfl⟩
  rw [← hW2]
  rw [← hW2] at HB2
  rw [← hW2] at Hs2
  rw [← hW2] at Ht2
  clear hq HZ hW2
  go_upto_region 2 with fail
  cases pr <;> cases pp <;> cases pq
  all_goals first | exact absurd ⟨rfl, rfl⟩ HX.out | skip
  all_goals clear HX HA1 HA2
  all_goals
    have HZ := Lib.hid (show ∀ x, Below W2.heap.size W2 x → Below W2.heap.size W2 x ∧ x.cell? ⟨w.heap.size, 0, none⟩ = some (.int .i64 a.s) ∧ x.cell? ⟨w.heap.size, 1, none⟩ = some (.int .i64 a.r) ∧ x.cell? ⟨w.heap.size, 2, none⟩ = some (.int .i64 a.d) ∧ x.cell? ⟨w.heap.size, 3, none⟩ = some (.int .i64 a.c) ∧ x.cell? ⟨(w.heap.size + 1), 0, none⟩ = some (.int .i64 b.s) ∧ x.cell? ⟨(w.heap.size + 1), 1, none⟩ = some (.int .i64 b.r) ∧ x.cell? ⟨(w.heap.size + 1), 2, none⟩ = some (.int .i64 b.d) ∧ x.cell? ⟨(w.heap.size + 1), 3, none⟩ = some (.int .i64 b.c) from fun x hx => ⟨hx, (Hs2.out.keep hx Hs2.out.lt).cellAt (i := 0) (by simp), (Hs2.out.keep hx Hs2.out.lt).cellAt (i := 1) (by simp), (Hs2.out.keep hx Hs2.out.lt).cellAt (i := 2) (by simp), (Hs2.out.keep hx Hs2.out.lt).cellAt (i := 3) (by simp), (Ht2.out.keep hx Ht2.out.lt).cellAt (i := 0) (by simp), (Ht2.out.keep hx Ht2.out.lt).cellAt (i := 1) (by simp), (Ht2.out.keep hx Ht2.out.lt).cellAt (i := 2) (by simp), (Ht2.out.keep hx Ht2.out.lt).cellAt (i := 3) (by simp)⟩)
    refine wp_region_class (C := fun x => Below W2.heap.size W2 x ∧ x.cell? ⟨w.heap.size, 0, none⟩ = some (.int .i64 a.s) ∧ x.cell? ⟨w.heap.size, 1, none⟩ = some (.int .i64 a.r) ∧ x.cell? ⟨w.heap.size, 2, none⟩ = some (.int .i64 a.d) ∧ x.cell? ⟨w.heap.size, 3, none⟩ = some (.int .i64 a.c) ∧ x.cell? ⟨(w.heap.size + 1), 0, none⟩ = some (.int .i64 b.s) ∧ x.cell? ⟨(w.heap.size + 1), 1, none⟩ = some (.int .i64 b.r) ∧ x.cell? ⟨(w.heap.size + 1), 2, none⟩ = some (.int .i64 b.d) ∧ x.cell? ⟨(w.heap.size + 1), 3, none⟩ = some (.int .i64 b.c)) (by kernel_rfl) (by kernel_rfl) (HZ.out _ (Below.refl _ _).drew) ?_
    repeat
      with_reducible refine wpQuiet_step (fun K hK => ?_)
      first
        | (refine quiet_skip (by rfl) ?_; (with_reducible refine hK _ ?_); clear hK K)
        | (refine quiet_want (by rfl) ?_
           apply Exists.intro
           refine ⟨fun x hx => ?_, hK _ ?_⟩
           (obtain ⟨_, hx1, hx2, hx3, hx4, hx5, hx6, hx7, hx8⟩ := id hx; go_simp; first | done | rfl | (first | (go_at_call 8; with_reducible exact Calls.mono (HLV.out x) (fun y w' hh => ⟨hh.1, HZ.out _ (below_transG hx.1 hh.2)⟩)) | (go_at_call 17; with_reducible exact Calls.mono (HR.out x) (fun y w' hh => ⟨hh.1, HZ.out _ (below_transG hx.1 hh.2)⟩)) | (go_at_call 18; with_reducible exact Calls.mono (HQ.out x) (fun y w' hh => ⟨hh.1, HZ.out _ (below_transG hx.1 hh.2)⟩)) | (go_at_call 19; with_reducible exact Calls.mono (HU1.out x) (fun y w' hh => ⟨hh.1, HZ.out _ (below_transG hx.1 hh.2)⟩)) | (go_at_call 19; with_reducible exact Calls.mono (HU2.out x) (fun y w' hh => ⟨hh.1, HZ.out _ (below_transG hx.1 hh.2)⟩))))
           clear hK K)
      try simp only [Act.put, List.setIfInBounds_toArray, List.set_cons_zero, List.set_cons_succ]
    with_reducible refine wpQuiet_nil ?_
    intro wq hq
    have HB3 := Lib.hid (below_transG HB2.out hq.1)
    have Hs3 := Lib.hid (Hs2.out.keep hq.1 Hs2.out.lt)
    have Ht3 := Lib.hid (Ht2.out.keep hq.1 Ht2.out.lt)
    obtain ⟨W3, hW3⟩ : ∃ W, W = wq := ⟨_, rfl⟩
    rw [← hW3]
    rw [← hW3] at HB3
    rw [← hW3] at Hs3
    rw [← hW3] at Ht3
    clear hq HZ hW3
    go_wp2_with fail
    go_ret
    exact ⟨rfl, HB3.out⟩
set_option maxRecDepth 100000 in
theorem lifted (os : Os) (started : os.Started) (H : Type) (enc : TypeId × Value → H) :
    ReturnsInHanded {} Try.checked os 4 .any (Rows.edfAheadSpec.pre6 enc Try.prog Try.f4 Rows.edfAheadRow.domain false) (Rows.edfAheadSpec.post enc Try.prog Try.f4 false true false false) := by
  refine returnsInHanded_of_change (C := Try.checked) own started (by kernel_rfl) Try.func4
    (ChangeSpec.witness6 (enc := enc) (C := Try.checked) false ⟨#[], #[.agg #[.int .i64 0, .int .i64 0, .int .i64 0, .int .i64 0], .agg #[.int .i64 0, .int .i64 0, .int .i64 0, .int .i64 0], .int .i64 0], []⟩ 8 (by kernel_rfl) (by kernel_rfl) (by kernel_rfl) (by kernel_rfl)) ?_
  intro W base args ds gs before hval0 hW _ _
  have hval : ∀ (j : Nat) t v, Try.f4.params[j]? = some t → args[j]? = some v → Value.okWide Try.prog W .any base t v := hval0
  have hW' := hW
  obtain ⟨p, q, hA0, hV, rfl, hfz, hnd⟩ := hW
  have hA : DataW.TrodAll enc Try.prog W 0 (fun _ => true) true Try.f4.params.toList args.toList ds p := hA0
  rw [Try.params4] at hA hval
  obtain ⟨v0, vs0, d0, ds0, p0, q0, hargs, rfl, rfl, h0, r0⟩ := trodAll_cons hA
  obtain ⟨v1, vs1, d1, ds1, p1, q1, rfl, rfl, rfl, h1, r1⟩ := trodAll_cons r0
  obtain ⟨v2, vs2, d2, ds2, p2, q2, rfl, rfl, rfl, h2, r2⟩ := trodAll_cons r1
  obtain ⟨rfl, rfl, rfl⟩ := trodAll_nil r2
  obtain rfl : args = #[v0, v1, v2] := by cases args; simp_all
  obtain ⟨rfl, rfl⟩ := trodVars_none hV
  have k0 := h0
  have lt0 : ∀ x ∈ p0, x.block < W.heap.size := by obtain ⟨m, hm⟩ := k0; exact DataW.trod_lt m _ _ _ hm
  obtain ⟨l0, rfl, w0⟩ := open_job (hval 0 42 v0 rfl rfl) h0
  have k1 := h1
  have lt1 : ∀ x ∈ p1, x.block < W.heap.size := by obtain ⟨m, hm⟩ := k1; exact DataW.trod_lt m _ _ _ hm
  obtain ⟨l1, rfl, w1⟩ := open_job (hval 1 42 v1 rfl rfl) h1
  obtain ⟨a2, rfl, rfl, rfl, w2⟩ := open_int Try.underlying2 (hval 2 2 v2 rfl rfl) h2
  clear hA0 hval0
  refine (walk l0 l1 a2 w0 w1 w2 W).mono fun e W' ⟨he, bel⟩ => ?_
  subst he
  exact ⟨_, rfl, _, _, _, [], _, [], hW', trodAll_mk1 (shut_bool Try.underlying4 _), (trodAll_cons_mk (Below.trod laidOut (by kernel_rfl) (of_decide_eq_true (by kernel_rfl)) k0 bel lt0) (trodAll_cons_mk (Below.trod laidOut (by kernel_rfl) (of_decide_eq_true (by kernel_rfl)) k1 bel lt1) (trodAll_cons_mk (shut_int Try.underlying2 w2) trodAll_mk0))), rfl, bel.frame _, fun h => by cases h⟩
theorem over : Rows.edfAheadRow.holds Try.pinned (OpenSpec.ofChange Rows.edfAheadSpec) :=
  OpenClaim.holds_of_wide 4 Try.f4 rfl rfl rfl rfl rfl rfl rfl ⟨rfl, rfl, rfl, rfl, rfl⟩ rfl rfl rfl rfl rfl (by kernel_rfl) Try.func4 (by kernel_rfl)
    (of_decide_eq_true (by kernel_rfl)) (by unfold Func.isWrapper; first | (rw [if_pos (by decide +kernel)]; kernel_rfl) | (rw [if_neg (by decide +kernel)]; exact ⟨rfl, rfl⟩))
    (fun os started H enc _ => lifted os started H enc)
/-- The statement. -/
theorem proved : Rows.EdfAheadSaid := over
end Go.Proofs.Ytodkohjmghpolaa.edfAhead
