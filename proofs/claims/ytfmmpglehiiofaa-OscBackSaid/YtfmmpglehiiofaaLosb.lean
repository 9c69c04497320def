/- OscBack (P16.3): a stamp is expanded to its count, if that lies less than a turn behind now. No conditions. -/
import Derived.Test.YtfmmpglehiiofaaRows
import Derived.Test.YtfmmpglehiiofaaOsl
import Derived.WalkKit
import Derived.ProofKit
import Derived.OpenShut
import Derived.ShutString
import Derived.ChangeOld
import Derived.Below
namespace Go.Proofs.Ytfmmpglehiiofaa.oscBack
open Go.ChangeShapes Go.WideShapes Go.ChangeAt Go.RowKit
theorem own : ownKnob Try.prog.godebug = none := by kernel_rfl
theorem laidOut : laidOutB Try.prog = true := by kernel_rfl
theorem and_i62 (n : Int) : 0 ≤ bits .and .i64 n 4611686018427387903 ∧ bits .and .i64 n 4611686018427387903 ≤ 4611686018427387903 := by
  have h : bits .and .i64 n 4611686018427387903 = IntKind.i64.wrap ((BitVec.ofInt 64 n &&& BitVec.ofInt 64 4611686018427387903).toNat : Nat) := rfl
  have h2 : (BitVec.ofInt 64 n &&& BitVec.ofInt 64 4611686018427387903).toNat ≤ 4611686018427387903 := by
    rw [BitVec.toNat_and]
    exact Nat.le_trans Nat.and_le_right (by decide)
  rw [h, IntKind.wrap_i64]
  omega
theorem and_u64 (a M : Int) (ha : 0 ≤ a ∧ a ≤ 18446744073709551615) (hM : 0 ≤ M ∧ M < 18446744073709551616) : 0 ≤ bits .and .u64 a M ∧ bits .and .u64 a M ≤ M := by
  have h := u64_and a M ha.1 (by omega) hM.1 hM.2
  rw [h]
  have h2 : a.toNat &&& M.toNat ≤ M.toNat := Nat.and_le_right
  omega
theorem back_x {now d P s : Int} (_hP : 0 < P) (h0 : 0 ≤ d) (h1 : d < P) (hs : s = (now - d) % P) : (now - s) % P = d := by
  have e := Int.mul_ediv_add_emod (now - d) P
  have e2 : now - s = d + P * ((now - d) / P) := by rw [hs]; omega
  rw [e2, Int.add_mul_emod_self_left, Int.emod_eq_of_lt h0 h1]
set_option maxHeartbeats 1000000 in
theorem walk (a0 a1 a2 : Int) (_w0 : (Lit.int .i64 a0).wf = true) (w1 : (Lit.int .u64 a1).wf = true) (w2 : (Lit.int .u8 a2).wf = true) (w : World) :
    Calls Try.prog 9 #[.int .i64 a0, .int .u64 a1, .int .u8 a2] w fun y w' => y = .returned (.bool true) ∧ Below w.heap.size w w' := by
  have hr : 0 ≤ a2 ∧ a2 ≤ 255 := by
    simp [Lit.wf, IntKind.min, IntKind.max, IntKind.bits, IntKind.signed] at w2
    omega
  have hwa : wrap64 a2 = a2 := w64_in _ (by omega)
  obtain ⟨k, hk⟩ : ∃ k : Nat, (k : Int) = a2.tmod 62 + 1 := ⟨(a2.tmod 62 + 1).toNat, by rw [Int.tmod_eq_emod_of_nonneg hr.1]; omega⟩
  have hk1 : 1 ≤ k ∧ k ≤ 62 := by rw [Int.tmod_eq_emod_of_nonneg hr.1] at hk; omega
  have hk2 : wrap64 (a2.tmod 62 + 1) = (k : Int) := by rw [← hk]; exact w64_in _ (by omega)
  have hp := pow_in k hk1
  have ht := turn_yes k hk1
  have hv : IntKind.u64.wrap (2 ^ k) = ((2 ^ k : Nat) : Int) := by rw [show ((2 : Int) ^ k) = ((2 ^ k : Nat) : Int) by rw [Int.natCast_pow]; rfl]; rw [IntKind.wrap_u64]; omega
  have hu : IntKind.u64.wrap (k : Int) = (k : Int) := by rw [IntKind.wrap_u64]; omega
  obtain ⟨P, hP⟩ : ∃ P : Int, P = ((2 ^ k : Nat) : Int) := ⟨_, rfl⟩
  rw [← hP] at hv
  have hTP : ((turnN (k : Int) : Nat) : Int) = P := by rw [ht, hP]
  obtain ⟨M, hM⟩ : ∃ M : Int, M = P - 1 := ⟨_, rfl⟩
  have hm : IntKind.u64.wrap (P - 1) = M := by rw [hM, IntKind.wrap_u64]; omega
  have ha := and_u64 a1 M (wfu64 w1) (by omega)
  obtain ⟨d, hd⟩ : ∃ d, bits .and .u64 a1 M = d := ⟨_, rfl⟩
  rw [hd] at ha
  have hdd : wrap64 d = d := w64_in _ (by omega)
  have hn := and_i62 a0
  obtain ⟨now, hnow⟩ : ∃ now, bits .and .i64 a0 4611686018427387903 = now := ⟨_, rfl⟩
  rw [hnow] at hn
  have i3 : ¬ (k : Int) < 0 := by omega
  have i4 : (0 : Int) ≤ (k : Int) := by omega
  have i5 : (k : Int) ≤ 62 := by omega
  have hmin : min k 64 = k := by omega
  by_cases hg : now < d
  · clear hk hk1 hp ht hP hTP hM ha hn hr w1 w2
    go_enter Try.func9, Try.ntmps9
    go_wp2_with fail
    refine (live16 _).mono ?_
    rintro y w3 ⟨rfl, hb⟩
    have HB3 := Lib.hid hb
    clear hb
    go_wp2_with fail
    go_ret
    exact ⟨rfl, HB3.out⟩
  have hg2 : d ≤ now := by omega
  obtain ⟨x, hx⟩ : ∃ x, x = now - d := ⟨_, rfl⟩
  have hxw : wrap64 (now - d) = x := by rw [hx]; exact w64_in _ (by omega)
  have HS := Lib.hid (fun u => osc_stamp x (k : Int) u)
  obtain ⟨s, hs⟩ : ∃ s, s = stampI x (k : Int) := ⟨_, rfl⟩
  have es : s = (now - d) % P := by rw [hs]; unfold stampI; rw [hTP, if_neg (by omega), hx]
  have hm0 := Int.emod_nonneg (now - d) (show P ≠ 0 by omega)
  have hm1 := Int.emod_lt_of_pos (now - d) (show 0 < P by omega)
  have hbk := back_x (now := now) (d := d) (P := P) (s := s) (by omega) ha.1 (by omega) es
  have HX := Lib.hid (fun u => osc_expand now s (k : Int) (by omega) (by omega) u)
  have ho : expO now s (k : Int) = true := decide_eq_true ⟨by omega, by omega, by rw [hTP, hbk]; exact hg2⟩
  have hxx : expX now s (k : Int) = x := by unfold expX; rw [ho, if_pos rfl, hTP, hbk, hx]
  rw [ho, hxx] at HX
  rw [← hs] at HS
  have kx : (x == x) = true := by simp
  clear hk hk1 hp ht hP hTP hM ha hn hr w1 w2 hx hs es hm0 hm1 hbk ho hxx hg
  go_enter Try.func9, Try.ntmps9
  go_wp2_with fail
  refine (HS.out _).mono ?_
  rintro y w4 ⟨rfl, rfl⟩
  go_wp2_with fail
  refine (HX.out _).mono ?_
  rintro y w4 ⟨rfl, rfl⟩
  go_wp2_with fail
  refine (live16 _).mono ?_
  rintro y w3 ⟨rfl, hb⟩
  have HB3 := Lib.hid hb
  clear hb
  go_wp2_with fail
  go_ret
  exact ⟨rfl, HB3.out⟩
set_option maxRecDepth 100000 in
theorem lifted (os : Os) (started : os.Started) (H : Type) (enc : TypeId × Value → H) :
    ReturnsInHanded {} Try.checked os 9 .any (Rows.oscBackSpec.pre6 enc Try.prog Try.f9 Rows.oscBackRow.domain false) (Rows.oscBackSpec.post enc Try.prog Try.f9 false true false false) := by
  refine returnsInHanded_of_change (C := Try.checked) own started (by kernel_rfl) Try.func9
    (ChangeSpec.witness6 (enc := enc) (C := Try.checked) false ⟨#[], #[.int .i64 0, .int .u64 0, .int .u8 0], []⟩ 8 (by kernel_rfl) (by kernel_rfl) (by kernel_rfl) (by kernel_rfl)) ?_
  intro W base args ds gs before hval0 hW _ _
  have hval : ∀ (j : Nat) t v, Try.f9.params[j]? = some t → args[j]? = some v → Value.okWide Try.prog W .any base t v := hval0
  have hW' := hW
  obtain ⟨p, q, hA0, hV, rfl, hfz, hnd⟩ := hW
  have hA : DataW.TrodAll enc Try.prog W 0 (fun _ => true) true Try.f9.params.toList args.toList ds p := hA0
  rw [Try.params9] at hA hval
  obtain ⟨v0, vs0, d0, ds0, p0, q0, hargs, rfl, rfl, h0, r0⟩ := trodAll_cons hA
  obtain ⟨v1, vs1, d1, ds1, p1, q1, rfl, rfl, rfl, h1, r1⟩ := trodAll_cons r0
  obtain ⟨v2, vs2, d2, ds2, p2, q2, rfl, rfl, rfl, h2, r2⟩ := trodAll_cons r1
  obtain ⟨rfl, rfl, rfl⟩ := trodAll_nil r2
  obtain rfl : args = #[v0, v1, v2] := by cases args; simp_all
  obtain ⟨rfl, rfl⟩ := trodVars_none hV
  obtain ⟨a0, rfl, rfl, rfl, w0⟩ := open_int Try.underlying2 (hval 0 2 v0 rfl rfl) h0
  obtain ⟨a1, rfl, rfl, rfl, w1⟩ := open_int Try.underlying104 (hval 1 104 v1 rfl rfl) h1
  obtain ⟨a2, rfl, rfl, rfl, w2⟩ := open_int Try.underlying5 (hval 2 5 v2 rfl rfl) h2
  clear hA0 hval0
  refine (walk a0 a1 a2 w0 w1 w2 W).mono fun e W' ⟨he, bel⟩ => ?_
  subst he
  exact ⟨_, rfl, _, _, _, [], _, [], hW', trodAll_mk1 (shut_bool Try.underlying4 _), (trodAll_cons_mk (shut_int Try.underlying2 w0) (trodAll_cons_mk (shut_int Try.underlying104 w1) (trodAll_cons_mk (shut_int Try.underlying5 w2) trodAll_mk0))), rfl, bel.frame _, fun h => by cases h⟩
theorem over : Rows.oscBackRow.holds Try.pinned (OpenSpec.ofChange Rows.oscBackSpec) :=
  OpenClaim.holds_of_wide 9 Try.f9 rfl rfl rfl rfl rfl rfl rfl ⟨rfl, rfl, rfl, rfl, rfl⟩ rfl rfl rfl rfl rfl (by kernel_rfl) Try.func9 (by kernel_rfl)
    (of_decide_eq_true (by kernel_rfl)) (by unfold Func.isWrapper; first | (rw [if_pos (by decide +kernel)]; kernel_rfl) | (rw [if_neg (by decide +kernel)]; exact ⟨rfl, rfl⟩))
    (fun os started H enc _ => lifted os started H enc)
/-- The statement. -/
theorem proved : Rows.OscBackSaid := over
end Go.Proofs.Ytfmmpglehiiofaa.oscBack
