/- RateTells (P18.4): samples of a clock that goes just as the count tell one; of one that goes a little faster, or slower, just that. No conditions. -/
import Derived.Test.YtffcadobdimdoaaRows
import Derived.Test.YtffcadobdimdoaaRtl
import Derived.Test.YtffcadobdimdoaaQui
import Derived.Deep.DeepCutAuto
import Derived.WalkKit
import Derived.ProofKit
import Derived.OpenShut
import Derived.ShutString
import Derived.ChangeOld
import Derived.Below
namespace Go.Proofs.Ytffcadobdimdoaa.rateTells
open Go.ChangeShapes Go.WideShapes Go.ChangeAt Go.RowKit
theorem own : ownKnob Try.prog.godebug = none := by kernel_rfl
theorem laidOut : laidOutB Try.prog = true := by kernel_rfl
theorem tells_x (T H T' H' m r : Int) (hm : 0 ≤ m ∧ m ≤ 4096) (h1 : 1 ≤ T' - T ∧ T' - T ≤ 9007199254740992) (h2 : 1 ≤ H' - H ∧ H' - H ≤ 9007199254740992) (hr : (T' - T) * 1048576 = r * (H' - H)) (hr2 : 1048576 - m ≤ r ∧ r ≤ 1048576 + m) :
    rofB T H T' H' m = true ∧ rofX T H T' H' m = r := by
  have eT : growX T T' = T' - T := by unfold growX; rw [if_pos (by omega), cut_yes (by omega)]
  have eH : growX H H' = H' - H := by unfold growX; rw [if_pos (by omega), cut_yes (by omega)]
  have e1 : growB T T' = true := by unfold growB; rw [decide_eq_true (by omega), fit_yes (by omega)]; rfl
  have e2 : growB H H' = true := by unfold growB; rw [decide_eq_true (by omega), fit_yes (by omega)]; rfl
  have hb : rofB T H T' H' m = true := by
    unfold rofB
    rw [e1, e2, eT, eH, hr, Int.mul_ediv_cancel _ (by omega), decide_eq_true hm, fit_yes (by omega)]; rfl
  refine ⟨hb, ?_⟩
  unfold rofX
  rw [hb, if_pos rfl, eT, eH, hr, Int.mul_ediv_cancel _ (by omega)]
  unfold clampV
  rw [if_neg (by omega), if_neg (by omega)]
theorem tells_y (n o : Int) : (n * 1048576 + n * o) * 1048576 = (1048576 + o) * (n * 1048576) := by
  rw [← Int.mul_add, Int.mul_assoc, Int.mul_comm n _, Int.mul_assoc, Int.mul_comm 1048576 n]
set_option maxRecDepth 100000 in
set_option maxHeartbeats 4000000 in
theorem walk (a0 a1 a2 : Int) (v0 : (Lit.int .i64 a0).wf = true) (v1 : (Lit.int .u32 a1).wf = true) (v2 : (Lit.int .i16 a2).wf = true) (w : World) :
    Calls Try.prog 6 #[.int .i64 a0, .int .u32 a1, .int .i16 a2] w fun y w' => y = .returned (.bool true) ∧ Below w.heap.size w w' := by
  have HL := Lib.hid (fun u => live18 u)
  have h0 := wf64 v0
  have h1 : 0 ≤ a1 ∧ a1 ≤ 4294967295 := by simpa [Lit.wf, IntKind.min, IntKind.max, IntKind.signed, IntKind.bits] using v1
  have h2 : -32768 ≤ a2 ∧ a2 ≤ 32767 := by simpa [Lit.wf, IntKind.min, IntKind.max, IntKind.signed, IntKind.bits] using v2
  clear v0 v1 v2
  obtain ⟨T, hT⟩ : ∃ z, z = a0.tmod 1125899906842624 := ⟨_, rfl⟩
  obtain ⟨H, hH⟩ : ∃ z, z = a0.tmod 1099511627776 := ⟨_, rfl⟩
  obtain ⟨o, ho⟩ : ∃ z, z = a2.tmod 4097 := ⟨_, rfl⟩
  have bT : -1125899906842624 < T ∧ T < 1125899906842624 := by rw [hT]; exact ⟨by have := Int.lt_tmod_of_pos a0 (show (0 : Int) < 1125899906842624 by decide); omega, Int.tmod_lt_of_pos a0 (by decide)⟩
  have bH : -1099511627776 < H ∧ H < 1099511627776 := by rw [hH]; exact ⟨by have := Int.lt_tmod_of_pos a0 (show (0 : Int) < 1099511627776 by decide); omega, Int.tmod_lt_of_pos a0 (by decide)⟩
  have bo : -4097 < o ∧ o < 4097 := by rw [ho]; exact ⟨by have := Int.lt_tmod_of_pos a2 (show (0 : Int) < 4097 by decide); omega, Int.tmod_lt_of_pos a2 (by decide)⟩
  obtain ⟨n, hn⟩ : ∃ z, z = a1 + 1 := ⟨_, rfl⟩
  obtain ⟨p, hp⟩ : ∃ z, z = n * o := ⟨_, rfl⟩
  have bp : n * (-4096) ≤ p ∧ p ≤ n * 4096 := by rw [hp]; exact ⟨Int.mul_le_mul_of_nonneg_left (by omega) (by omega), Int.mul_le_mul_of_nonneg_left (by omega) (by omega)⟩
  obtain ⟨M, hM⟩ : ∃ z, z = n * 1048576 := ⟨_, rfl⟩
  have t1 := tells_x T H (T + n) (H + n) 0 1048576 (by omega) (by omega) (by omega) (by omega) (by omega)
  have t2 := tells_x T H (T + M + p) (H + M) 4096 (1048576 + o) (by omega) (by omega) (by omega) (by
    rw [show T + M + p - T = M + p by omega, show H + M - H = M by omega, hM, hp]; exact tells_y n o) (by omega)
  obtain ⟨Tn, hTn⟩ : ∃ z, z = T + n := ⟨_, rfl⟩
  obtain ⟨Hn, hHn⟩ : ∃ z, z = H + n := ⟨_, rfl⟩
  obtain ⟨Tm, hTm⟩ : ∃ z, z = T + M := ⟨_, rfl⟩
  obtain ⟨Q, hQ⟩ : ∃ z, z = Tm + p := ⟨_, rfl⟩
  obtain ⟨Hm, hHm⟩ : ∃ z, z = H + M := ⟨_, rfl⟩
  obtain ⟨R, hR⟩ : ∃ z, z = 1048576 + o := ⟨_, rfl⟩
  rw [← hTn, ← hHn] at t1
  rw [← hTm, ← hQ, ← hHm, ← hR] at t2
  have HO1 := Lib.hid (fun u => rate_of_any T H Tn Hn 0 (by omega) (by omega) (by omega) (by omega) u)
  have HO2 := Lib.hid (fun u => rate_of_any T H Q Hm 4096 (by omega) (by omega) (by omega) (by omega) u)
  rw [t1.1, t1.2] at HO1
  rw [t2.1, t2.2] at HO2
  have f1 : wrap64 a1 = a1 := w64_in _ (by omega)
  have f2 : wrap64 (a1 + 1) = n := (w64_in _ (by omega)).trans hn.symm
  have f3 : wrap64 (T + n) = Tn := (w64_in _ (by omega)).trans hTn.symm
  have f4 : wrap64 (H + n) = Hn := (w64_in _ (by omega)).trans hHn.symm
  have f5 : wrap64 (n * 1048576) = M := (w64_in _ (by omega)).trans hM.symm
  have f6 : wrap64 (T + M) = Tm := (w64_in _ (by omega)).trans hTm.symm
  have f7 : wrap64 a2 = a2 := w64_in _ (by omega)
  have f8 : wrap64 (n * o) = p := (w64_in _ (by rw [← hp]; omega)).trans hp.symm
  have f9 : wrap64 (Tm + p) = Q := (w64_in _ (by omega)).trans hQ.symm
  have f10 : wrap64 (H + M) = Hm := (w64_in _ (by omega)).trans hHm.symm
  have f11 : wrap64 (1048576 + o) = R := (w64_in _ (by omega)).trans hR.symm
  have f12 : (R == R) = true := by simp
  have g1 := hT.symm; have g2 := hH.symm; have g3 := ho.symm
  clear t1 t2 hTn hHn hTm hQ hHm hR hn hp hM bp bo bT bH h0 h1 h2 hT hH ho
  go_enter Try.func6, Try.ntmps6
  go_wp2_with fail
  refine (HO1.out _).mono ?_
  rintro y w1 ⟨rfl, hb⟩
  have HB1 := Lib.hid hb
  clear hb
  have c := (Blk.new w 23 [.int .i64 T, .int .i64 H]).keep (((Below.refl _ (w.alloc (Obj.cells #[.int .i64 T, .int .i64 H] 23))).alloc (Nat.le_refl _) (Obj.cells #[.int .i64 Tn, .int .i64 Hn] 23)).alloc (by simp) (Obj.cells #[.int .i64 Q, .int .i64 Hm] 23)) (by simp)
  have c1 := c.keep HB1.out c.lt
  have d := Blk.new ((w.alloc (Obj.cells #[.int .i64 T, .int .i64 H] 23)).alloc (Obj.cells #[.int .i64 Tn, .int .i64 Hn] 23)) 23 [.int .i64 Q, .int .i64 Hm]
  rw [show ((w.alloc (Obj.cells #[.int .i64 T, .int .i64 H] 23)).alloc (Obj.cells #[.int .i64 Tn, .int .i64 Hn] 23)).heap.size = w.heap.size + 1 + 1 by simp] at d
  have d1 := d.keep HB1.out d.lt
  have q0 : w1.cell? ⟨w.heap.size, 0, none⟩ = some (.int .i64 T) := c1.cellAt (i := 0) (by simp)
  have q1 : w1.cell? ⟨w.heap.size, 1, none⟩ = some (.int .i64 H) := c1.cellAt (i := 1) (by simp)
  have q2 : w1.cell? ⟨w.heap.size + 1 + 1, 0, none⟩ = some (.int .i64 Q) := d1.cellAt (i := 0) (by simp)
  have q3 : w1.cell? ⟨w.heap.size + 1 + 1, 1, none⟩ = some (.int .i64 Hm) := d1.cellAt (i := 1) (by simp)
  have HB2 := Lib.hid (below_transG ((((Below.refl _ w).alloc (Nat.le_refl _) (Obj.cells #[.int .i64 T, .int .i64 H] 23)).alloc (by simp) (Obj.cells #[.int .i64 Tn, .int .i64 Hn] 23)).alloc (by simp; omega) (Obj.cells #[.int .i64 Q, .int .i64 Hm] 23)) HB1.out)
  clear c d c1 d1
  go_wp2_with fail
  refine (HO2.out _).mono ?_
  rintro y w2 ⟨rfl, hb⟩
  have HB3 := Lib.hid (below_transG HB2.out hb)
  clear hb
  go_wp2_with fail
  refine (HL.out _).mono ?_
  rintro y w3 ⟨rfl, hb⟩
  have HB4 := Lib.hid (below_transG HB3.out hb)
  clear hb
  go_wp2_with fail
  go_ret
  exact ⟨rfl, HB4.out⟩
set_option maxRecDepth 100000 in
theorem lifted (os : Os) (started : os.Started) (H : Type) (enc : TypeId × Value → H) :
    ReturnsInHanded {} Try.checked os 6 .any (Rows.rateTellsSpec.pre6 enc Try.prog Try.f6 Rows.rateTellsRow.domain false) (Rows.rateTellsSpec.post enc Try.prog Try.f6 false true false false) := by
  refine returnsInHanded_of_change (C := Try.checked) own started (by kernel_rfl) Try.func6
    (ChangeSpec.witness6 (enc := enc) (C := Try.checked) false ⟨#[], #[.int .i64 0, .int .u32 0, .int .i16 0], []⟩ 8 (by kernel_rfl) (by kernel_rfl) (by kernel_rfl) (by kernel_rfl)) ?_
  intro W base args ds gs before hval0 hW _ _
  have hval : ∀ (j : Nat) t v, Try.f6.params[j]? = some t → args[j]? = some v → Value.okWide Try.prog W .any base t v := hval0
  have hW' := hW
  obtain ⟨p, q, hA0, hV, rfl, hfz, hnd⟩ := hW
  have hA : DataW.TrodAll enc Try.prog W 0 (fun _ => true) true Try.f6.params.toList args.toList ds p := hA0
  rw [Try.params6] at hA hval
  obtain ⟨v0, vs0, d0, ds0, p0, q0, hargs, rfl, rfl, h0, r0⟩ := trodAll_cons hA
  obtain ⟨v1, vs1, d1, ds1, p1, q1, rfl, rfl, rfl, h1, r1⟩ := trodAll_cons r0
  obtain ⟨v2, vs2, d2, ds2, p2, q2, rfl, rfl, rfl, h2, r2⟩ := trodAll_cons r1
  obtain ⟨rfl, rfl, rfl⟩ := trodAll_nil r2
  obtain rfl : args = #[v0, v1, v2] := by cases args; simp_all
  obtain ⟨rfl, rfl⟩ := trodVars_none hV
  obtain ⟨a0, rfl, rfl, rfl, w0⟩ := open_int Try.underlying2 (hval 0 2 v0 rfl rfl) h0
  obtain ⟨a1, rfl, rfl, rfl, w1⟩ := open_int Try.underlying49 (hval 1 49 v1 rfl rfl) h1
  obtain ⟨a2, rfl, rfl, rfl, w2⟩ := open_int Try.underlying50 (hval 2 50 v2 rfl rfl) h2
  clear hA0 hval0
  refine (walk a0 a1 a2 w0 w1 w2 W).mono fun e W' ⟨he, bel⟩ => ?_
  subst he
  exact ⟨_, rfl, _, _, _, [], _, [], hW', trodAll_mk1 (shut_bool Try.underlying4 _), (trodAll_cons_mk (shut_int Try.underlying2 w0) (trodAll_cons_mk (shut_int Try.underlying49 w1) (trodAll_cons_mk (shut_int Try.underlying50 w2) trodAll_mk0))), rfl, bel.frame _, fun h => by cases h⟩
theorem over : Rows.rateTellsRow.holds Try.pinned (OpenSpec.ofChange Rows.rateTellsSpec) :=
  OpenClaim.holds_of_wide 6 Try.f6 rfl rfl rfl rfl rfl rfl rfl ⟨rfl, rfl, rfl, rfl, rfl⟩ rfl rfl rfl rfl rfl (by kernel_rfl) Try.func6 (by kernel_rfl)
    (of_decide_eq_true (by kernel_rfl)) (by unfold Func.isWrapper; first | (rw [if_pos (by decide +kernel)]; kernel_rfl) | (rw [if_neg (by decide +kernel)]; exact ⟨rfl, rfl⟩))
    (fun os started H enc _ => lifted os started H enc)
/-- The statement. -/
theorem proved : Rows.RateTellsSaid := over
end Go.Proofs.Ytffcadobdimdoaa.rateTells
