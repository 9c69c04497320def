/- TopFollows (E2): a clock that goes by the rate of two samples tells what the other one had, but for what is rounded. No conditions. -/
import Derived.Test.YtioifgbglgjkcaaRows
import Derived.Deep.DeepCutAuto
import Derived.Test.YtioifgbglgjkcaaCkm
import Derived.Test.YtioifgbglgjkcaaRta
import Derived.WalkKit
import Derived.ProofKit
import Derived.OpenShut
import Derived.ShutString
import Derived.ChangeOld
import Derived.Below
namespace Go.Proofs.Ytioifgbglgjkcaa.topFollows
open Go.ChangeShapes Go.WideShapes Go.ChangeAt Go.RowKit
theorem own : ownKnob Try.prog.godebug = none := by kernel_rfl
theorem laidOut : laidOutB Try.prog = true := by kernel_rfl
/-- A clock that is younger than a world. -/
structure C1 (w u : World) (B : Nat) (c v r t : Int) : Prop where
  a : CK u 76 B c v r t
  below : Below w.heap.size w u
  la : w.heap.size ≤ B
theorem C1.on {w u x : World} {B : Nat} {c v r t : Int} (h : C1 w u B c v r t) (hb : Below u.heap.size u x) : C1 w x B c v r t := ⟨h.a.on hb, below_transG h.below hb, h.la⟩
theorem C1.step {w u x : World} {B : Nat} {c v r t c2 v2 r2 t2 : Int} (h : C1 w u B c v r t) (ha : CK x 76 B c2 v2 r2 t2) (hk : Kp B (.slice none 0 0) u x) : C1 w x B c2 v2 r2 t2 :=
  ⟨ha, h.below.trans (hk.belowN h.la h.below.size (fun k e => by cases e)), h.la⟩
theorem blk_kp {u x : World} {B D : Nat} {T : TypeId} {l : List Value} (h : Blk u D T l) (hne : D ≠ B) (hk : Kp B (.slice none 0 0) u x) : Blk x D T l := h.on (hk.block D h.lt hne (fun e => by cases e))
theorem follows (n d o : Int) (hn : 1000 ≤ n ∧ n ≤ 1049575) (ho : -4000 < o ∧ o < 4000) (hd : d = n * o / 1048576) :
    3 ≤ n + d ∧ ofB 0 0 (n + d) n 4096 = true ∧ (1044480 ≤ ofX 0 0 (n + d) n 4096 ∧ ofX 0 0 (n + d) n 4096 ≤ 1052672) ∧
    (n + d - 2 ≤ n * ofX 0 0 (n + d) n 4096 / 1048576 ∧ n * ofX 0 0 (n + d) n 4096 / 1048576 ≤ n + d + 2) ∧ (-4199 ≤ d ∧ d ≤ 4199) := by
  have h1 : n * (-3999) ≤ n * o := Int.mul_le_mul_of_nonneg_left (by omega) (by omega)
  have h2 : n * o ≤ n * 3999 := Int.mul_le_mul_of_nonneg_left (by omega) (by omega)
  obtain ⟨Q, hQ⟩ : ∃ Q, Q = n * o := ⟨_, rfl⟩
  rw [← hQ] at hd h1 h2
  clear hQ
  have hd1 : d * 1048576 ≤ Q := by omega
  have hd2 : Q < d * 1048576 + 1048576 := by omega
  have hpos : 1 ≤ n + d := by omega
  have eT : growX 0 (n + d) = n + d := by unfold growX; rw [if_pos (by omega), Int.sub_zero, cut_yes (by omega)]
  have eH : growX 0 n = n := by unfold growX; rw [if_pos (by omega), Int.sub_zero, cut_yes (by omega)]
  have e1 : growB 0 (n + d) = true := by unfold growB; rw [decide_eq_true (by omega), Int.sub_zero, fit_yes (by omega)]; rfl
  have e2 : growB 0 n = true := by unfold growB; rw [decide_eq_true (by omega), Int.sub_zero, fit_yes (by omega)]; rfl
  obtain ⟨R, hR⟩ : ∃ R, R = (n + d) * 1048576 / n := ⟨_, rfl⟩
  have r1 : R * n ≤ (n + d) * 1048576 := by rw [hR]; exact Int.ediv_mul_le _ (by omega)
  have r2 : (n + d) * 1048576 < (R + 1) * n := by rw [hR]; exact Int.lt_ediv_add_one_mul_self _ (by omega)
  rw [Int.add_mul R 1 n, Int.one_mul] at r2
  have hRp : 0 ≤ R := by rw [hR]; exact Int.ediv_nonneg (by omega) (by omega)
  have hRu : R ≤ 1052575 := by
    by_cases h : R ≤ 1052575
    · exact h
    · have h3 : 1052576 * n ≤ R * n := Int.mul_le_mul_of_nonneg_right (by omega) (by omega)
      omega
  have hB : ofB 0 0 (n + d) n 4096 = true := by
    unfold ofB
    rw [eT, eH, e1, e2, ← hR, fit_yes (by omega)]
    rfl
  have hX : ofX 0 0 (n + d) n 4096 = clampV R 1044480 1052672 := by
    unfold ofX; rw [if_pos hB, eT, eH, ← hR]; rfl
  rw [hX]
  refine ⟨by omega, hB, clamp_in _ _ _ (by omega), ?_, by omega⟩
  unfold clampV
  split
  · next hlo =>
    have h3 : (R + 1) * n ≤ 1044480 * n := Int.mul_le_mul_of_nonneg_right (by omega) (by omega)
    rw [Int.add_mul R 1 n, Int.one_mul] at h3
    omega
  · rw [if_neg (by omega), Int.mul_comm]
    omega
set_option maxRecDepth 100000 in
set_option maxHeartbeats 16000000 in
theorem walk (a0 a1 : Int) (w0 : (Lit.int .u32 a0).wf = true) (w1 : (Lit.int .i16 a1).wf = true) (w : World) :
    Calls Try.prog 12 #[.int .u32 a0, .int .i16 a1] w fun y w' => y = .returned (.bool true) ∧ Below w.heap.size w w' := by
  have ha0 : 0 ≤ a0 := by simp [Lit.wf, IntKind.min, IntKind.max, IntKind.bits, IntKind.signed] at w0; omega
  have t0 : 0 ≤ a0 % 1048576 ∧ a0 % 1048576 < 1048576 := by omega
  have t1 := tmod_in a1 4000 (by decide)
  have e0 : a0.tmod 1048576 = a0 % 1048576 := Int.tmod_eq_emod_of_nonneg ha0
  obtain ⟨x0, hx0⟩ : ∃ z, z = a0 % 1048576 := ⟨_, rfl⟩
  obtain ⟨o, ho⟩ : ∃ z, z = a1.tmod 4000 := ⟨_, rfl⟩
  rw [← hx0] at t0 e0
  rw [← ho] at t1
  obtain ⟨n, hn⟩ : ∃ z, z = x0 + 1000 := ⟨_, rfl⟩
  obtain ⟨d, hd⟩ : ∃ z, z = n * o / 1048576 := ⟨_, rfl⟩
  have HF := Lib.hid (follows n d o (by omega) (by omega) hd)
  have HN := Lib.hid (show 1000 ≤ n ∧ n ≤ 1049575 by omega)
  have HM := Lib.hid (show n * (-3999) ≤ n * o ∧ n * o ≤ n * 3999 from ⟨Int.mul_le_mul_of_nonneg_left (by omega) (by omega), Int.mul_le_mul_of_nonneg_left (by omega) (by omega)⟩)
  have HW0 := Lib.hid e0; have HW1 := Lib.hid ho.symm
  have HE0 := Lib.hid (show wrap64 (x0 + 1000) = n by rw [hn]; exact w64_in _ (by omega))
  have HZ0 := Lib.hid (show wrap64 a0 = a0 from w64_in _ (by simp [Lit.wf, IntKind.min, IntKind.max, IntKind.bits, IntKind.signed] at w0; omega))
  have HZ1 := Lib.hid (show wrap64 a1 = a1 from w64_in _ (by simp [Lit.wf, IntKind.min, IntKind.max, IntKind.bits, IntKind.signed] at w1; omega))
  have HE1 := Lib.hid hn.symm
  have HX0 := Lib.hid hx0.symm; have HA0 := Lib.hid ha0
  clear t0 t1 e0 hx0 ho hn w0 w1 ha0
  have HP := Lib.hid (show wrap64 (n * o) = n * o from w64_in _ (by have := HM.out; have := HN.out; omega))
  have HD := Lib.hid hd.symm
  clear hd
  obtain ⟨m, hm⟩ : ∃ z, z = n + d := ⟨_, rfl⟩
  have HF2 := HF.out
  rw [← hm] at HF2
  obtain ⟨q1, q2, q3, q4, q5⟩ := HF2
  have HS := Lib.hid (show wrap64 (n + d) = m by rw [hm]; exact w64_in _ (by have := HN.out; omega))
  have HO := Lib.hid (fun (u : World) => of_any 0 0 m n 4096 (by decide) (by decide) (by have := HN.out; omega) (by have := HN.out; omega) u)
  rw [q2] at HO
  obtain ⟨r, hr⟩ : ∃ r, r = ofX 0 0 m n 4096 := ⟨_, rfl⟩
  rw [← hr] at HO q3 q4
  have HL := look_from0 r n (by have := HN.out; omega) q3
  have HT := Lib.hid (fun (u : World) (B : Nat) h => cktune_any 0 r (by decide) 0 0 1048576 0 B u h)
  have e0 : tuE 0 0 1048576 0 r = 0 := (tu_in q3).1 (look_here 0 0 1048576 (by decide)).1
  have e1 : tuC 0 0 1048576 0 r = 0 := by unfold tuC; rw [if_pos e0]
  have e2 : tuV 0 0 1048576 0 r = 0 := by unfold tuV; rw [if_pos e0]; exact (look_here 0 0 1048576 (by decide)).2
  have e3 : tuR 0 0 1048576 0 r = r := by unfold tuR; rw [if_pos e0]
  rw [e0, e1, e2, e3] at HT
  have HR := Lib.hid (fun (u : World) (B : Nat) h => ckread_any n (by have := HN.out; omega) 0 0 r 0 B u h)
  obtain ⟨X, hX⟩ : ∃ z, z = n * r / 1048576 := ⟨_, rfl⟩
  rw [← hX] at q4 HL
  have e4 : readT 0 0 r 0 n = X := by unfold readT; rw [HL.1, HL.2, if_pos ⟨rfl, by omega⟩]
  rw [e4, HL.1] at HR
  have HD2 := Lib.hid (fun (u : World) => dist_ex X m (by have := HN.out; omega) (by have := HN.out; omega) u)
  obtain ⟨D, hD⟩ : ∃ z, z = if X < m then m - X else X - m := ⟨_, rfl⟩
  have hD2 : D ≤ 2 := by rw [hD]; split <;> omega
  have hD3 : -2 ≤ D := by rw [hD]; split <;> omega
  rw [← hD] at HD2
  rw [show okV D = .tuple #[.int .i64 D, .bool true] by unfold okV; rw [fit_yes (by omega), cut_yes (by omega)]] at HD2
  clear q1 q2 q3 q4 q5 hr HL e0 e1 e2 e3 hX e4 hD hD3 hm
  have f1 := HW0.out; have f2 := HW1.out; have f3 := HE0.out; have f4 := HP.out; have f5 := HD.out; have f6 := HX0.out; have f7 := HA0.out; have f8 := HZ0.out; have f9 := HZ1.out; have f10 := HS.out; have f12 := HE1.out
  have f11 : (r == r) = true := by simp
  go_enter Try.func12, Try.ntmps12
  go_wp2_with fail
  refine (HO.out _).mono ?_
  rintro y w1 ⟨rfl, hb⟩
  have HB1 := Lib.hid hb
  clear hb
  go_wp2_with fail
  refine (cknew_any _).mono ?_
  rintro y w2 ⟨B, rfl, hO, hB, hb⟩
  have HI2 := Lib.hid (show C1 w w2 B 0 0 1048576 0 from ⟨hO, below_transG HB1.out hb, Nat.le_trans HB1.out.size hB⟩)
  clear hO hb hB
  go_wp2_with fail
  refine (HT.out _ _ HI2.out.a).mono ?_
  rintro y w3 ⟨rfl, hO, hk⟩
  have HI3 := Lib.hid (HI2.out.step hO hk)
  clear hO hk
  go_wp2_with fail
  refine (HR.out _ _ HI3.out.a).mono ?_
  rintro y w4 ⟨rfl, hO, hk⟩
  have HI4 := Lib.hid (HI3.out.step hO hk)
  clear hO hk
  go_wp2_with fail
  refine (HD2.out _).mono ?_
  rintro y w5 ⟨rfl, rfl⟩
  go_wp2_with fail
  refine (ckrate_any 0 0 r X B _ HI4.out.a).mono ?_
  rintro y w6 ⟨rfl, rfl⟩
  go_wp2_with fail
  go_ret
  exact ⟨rfl, HI4.out.below⟩
set_option maxRecDepth 100000 in
theorem lifted (os : Os) (started : os.Started) (H : Type) (enc : TypeId × Value → H) :
    ReturnsInHanded {} Try.checked os 12 .any (Rows.topFollowsSpec.pre6 enc Try.prog Try.f12 Rows.topFollowsRow.domain false) (Rows.topFollowsSpec.post enc Try.prog Try.f12 false true false false) := by
  refine returnsInHanded_of_change (C := Try.checked) own started (by kernel_rfl) Try.func12
    (ChangeSpec.witness6 (enc := enc) (C := Try.checked) false ⟨#[], #[.int .u32 0, .int .i16 0], []⟩ 8 (by kernel_rfl) (by kernel_rfl) (by kernel_rfl) (by kernel_rfl)) ?_
  intro W base args ds gs before hval0 hW _ _
  have hval : ∀ (j : Nat) t v, Try.f12.params[j]? = some t → args[j]? = some v → Value.okWide Try.prog W .any base t v := hval0
  have hW' := hW
  obtain ⟨p, q, hA0, hV, rfl, hfz, hnd⟩ := hW
  have hA : DataW.TrodAll enc Try.prog W 0 (fun _ => true) true Try.f12.params.toList args.toList ds p := hA0
  rw [Try.params12] at hA hval
  obtain ⟨v0, vs0, d0, ds0, p0, q0, hargs, rfl, rfl, h0, r0⟩ := trodAll_cons hA
  obtain ⟨v1, vs1, d1, ds1, p1, q1, rfl, rfl, rfl, h1, r1⟩ := trodAll_cons r0
  obtain ⟨rfl, rfl, rfl⟩ := trodAll_nil r1
  obtain rfl : args = #[v0, v1] := by cases args; simp_all
  obtain ⟨rfl, rfl⟩ := trodVars_none hV
  obtain ⟨a0, rfl, rfl, rfl, w0⟩ := open_int Try.underlying64 (hval 0 64 v0 rfl rfl) h0
  obtain ⟨a1, rfl, rfl, rfl, w1⟩ := open_int Try.underlying65 (hval 1 65 v1 rfl rfl) h1
  clear hA0 hval0
  refine (walk a0 a1 w0 w1 W).mono fun e W' ⟨he, bel⟩ => ?_
  subst he
  exact ⟨_, rfl, _, _, _, [], _, [], hW', trodAll_mk1 (shut_bool Try.underlying4 _), (trodAll_cons_mk (shut_int Try.underlying64 w0) (trodAll_cons_mk (shut_int Try.underlying65 w1) trodAll_mk0)), rfl, bel.frame _, fun h => by cases h⟩
theorem over : Rows.topFollowsRow.holds Try.pinned (OpenSpec.ofChange Rows.topFollowsSpec) :=
  OpenClaim.holds_of_wide 12 Try.f12 rfl rfl rfl rfl rfl rfl rfl ⟨rfl, rfl, rfl, rfl, rfl⟩ rfl rfl rfl rfl rfl (by kernel_rfl) Try.func12 (by kernel_rfl)
    (of_decide_eq_true (by kernel_rfl)) (by unfold Func.isWrapper; first | (rw [if_pos (by decide +kernel)]; kernel_rfl) | (rw [if_neg (by decide +kernel)]; exact ⟨rfl, rfl⟩))
    (fun os started H enc _ => lifted os started H enc)
/-- The statement. -/
theorem proved : Rows.TopFollowsSaid := over
end Go.Proofs.Ytioifgbglgjkcaa.topFollows
