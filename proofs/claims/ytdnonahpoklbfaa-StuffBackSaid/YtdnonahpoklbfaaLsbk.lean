/- The statement of P4.3, P4.5 (StuffBack): what was put between is taken out, the string is as it was, and it is not longer than Most tells. Conditions: none. -/
import Derived.Test.YtdnonahpoklbfaaRows
import Derived.Test.YtdnonahpoklbfaaSfl
import Derived.WalkKit
import Derived.ProofKit
import Derived.OpenShut
import Derived.ShutString
import Derived.ChangeOld
import Derived.Below
namespace Go.Proofs.Ytdnonahpoklbfaa.stuffBack
open Go.ChangeShapes Go.WideShapes Go.ChangeAt Go.RowKit
theorem own : ownKnob Try.prog.godebug = none := by kernel_rfl
theorem laidOut : laidOutB Try.prog = true := by kernel_rfl
set_option maxHeartbeats 1000000 in
theorem walk (a0 : Option Addr) (len0 cap0 : Nat) (z0 : List Int) (w : World) (w0 : IsRow w a0 len0 cap0 z0) :
    Calls Try.prog 5 #[.slice a0 len0 cap0] w fun e w' => e = .returned (.bool true) ∧ Below w.heap.size w w' := by
  obtain ⟨bs0, _, hI⟩ := isRow_str w0
  clear w0
  have CF := Lib.hid (few3_any a0 len0 cap0 bs0 w hI)
  obtain ⟨xs, hxs⟩ : ∃ xs, xs = bs0.take 200 := ⟨_, rfl⟩
  rw [← hxs] at CF
  have hxl : xs.length ≤ 200 := by rw [hxs, List.length_take]; omega
  clear hxs hI
  obtain ⟨ss, hss⟩ : ∃ ss, ss = stuffB (bitsOf xs) := ⟨_, rfl⟩
  have hmost := stuff_most (bitsOf xs)
  rw [← hss, bitsOf_length] at hmost
  obtain ⟨hm1, hm2⟩ := hmost
  have hsl : ss.length ≤ 1000 := by omega
  have hsb : bitsOf ss = ss := by rw [hss]; exact bits_self _ (sStep_le _ (bitsOf_le xs))
  have hun : uFold (bitsOf ss) = some ((sFold (bitsOf xs)).1, bitsOf xs) := by rw [hsb, hss]; exact there_back _ _ rfl
  have HSS := Lib.hid hss; have HUN := Lib.hid hun
  clear hss hun hsb
  have hmw : mostW (xs.length : Int) = (mostN xs.length : Int) := mostW_nat _ (by omega)
  have hm3 : ss.length ≤ mostN xs.length := by unfold mostN; omega
  have HM := Lib.hid (fun u => most_any (xs.length : Int) u)
  rw [hmw] at HM
  clear hmw hm2
  obtain ⟨mm, hmm⟩ : ∃ mm, mm = mostN xs.length := ⟨_, rfl⟩
  rw [← hmm] at HM hm3
  clear hmm
  go_enter Try.func5, Try.ntmps5
  go_wp2_with (fail)
  refine CF.out.mono ?_
  rintro e w1 ⟨⟨a', len', cap', rfl, hS⟩, rfl⟩
  obtain rfl := hS.len
  have S0 := Lib.hid hS
  clear hS CF
  go_wp2_with (fail)
  refine (stuff_any _ _ _ xs (by omega) _ S0.out).mono ?_
  rintro e w2 ⟨v, rfl, ho, hb⟩
  rw [← HSS.out] at ho
  obtain ⟨a2, c2, rfl⟩ := ho.shape
  have T2 := Lib.hid ho.str
  have S2 := Lib.hid (S0.out.on hb)
  have B2 := Lib.hid hb
  clear ho hb S0
  go_wp2_with (fail)
  refine (unstuff_any _ _ _ ss hsl _ T2.out).mono ?_
  rintro e w3 ⟨hb, h⟩
  have he : ∃ v, e = .returned (.tuple #[v, .int .i64 (ss.length : Nat), .int .i64 0]) ∧ Ow w2.heap.size w3 v (bitsOf xs) := by
    rcases h with ⟨r, out, v, h, he, ho⟩ | ⟨k, s, hk, _, hn, _⟩
    · rw [HUN.out] at h
      cases h
      exact ⟨v, he, ho⟩
    · have := un_all (k := k + 1) (by omega) hn
      rw [HUN.out] at this
      cases this
  obtain ⟨v, rfl, ho⟩ := he
  obtain ⟨a3, c3, rfl⟩ := ho.shape
  rw [bitsOf_length]
  have U3 := ho.str
  rw [bitsOf_length] at U3
  have U3 := Lib.hid U3
  have S3 := Lib.hid (S2.out.on hb)
  have B3 := Lib.hid (below_trans' B2.out hb)
  clear h ho hb T2 S2 B2
  go_wp2_with (fail)
  refine (live4 _).mono ?_
  rintro e w4 ⟨rfl, hb⟩
  have U4 := Lib.hid (U3.out.on hb)
  have S4 := Lib.hid (S3.out.on hb)
  have B4 := Lib.hid (below_trans' B3.out hb)
  clear hb U3 S3 B3
  go_wp2_with (fail)
  refine (refSame_any _ _ _ (bitsOf xs) _ _ _ xs _ U4.out S4.out).mono ?_
  rintro e w5 ⟨he, hb⟩
  have he' : e = .returned (.bool true) := by rw [he, same_clean]
  subst he'
  have B5 := Lib.hid (below_trans' B4.out hb)
  clear he hb U4 S4 B4
  go_wp2_with (fail)
  refine (HM.out _).mono ?_
  rintro e w6 ⟨rfl, rfl⟩
  go_wp2_with (fail)
  go_ret
  exact ⟨rfl, B5.out⟩
set_option maxRecDepth 100000 in
theorem lifted (os : Os) (started : os.Started) (H : Type) (enc : TypeId × Value → H) :
    ReturnsInHanded {} Try.checked os 5 .any (Rows.stuffBackSpec.pre6 enc Try.prog Try.f5 Rows.stuffBackRow.domain false) (Rows.stuffBackSpec.post enc Try.prog Try.f5 false true false false) := by
  refine returnsInHanded_of_change (C := Try.checked) own started (by kernel_rfl) Try.func5
    (ChangeSpec.witness6 (enc := enc) (C := Try.checked) false ⟨#[], #[.slice none 0 0], []⟩ 8 (by kernel_rfl) (by kernel_rfl) (by kernel_rfl) (by kernel_rfl)) ?_
  intro W base args ds gs before hval0 hW _ _
  have hval : ∀ (j : Nat) t v, Try.f5.params[j]? = some t → args[j]? = some v → Value.okWide Try.prog W .any base t v := hval0
  have hW' := hW
  obtain ⟨p, q, hA0, hV, rfl, hfz, hnd⟩ := hW
  have hA : DataW.TrodAll enc Try.prog W 0 (fun _ => true) true Try.f5.params.toList args.toList ds p := hA0
  rw [Try.params5] at hA hval
  obtain ⟨v0, vs0, d0, ds0, p0, q0, hargs, rfl, rfl, h0, r0⟩ := trodAll_cons hA
  obtain ⟨rfl, rfl, rfl⟩ := trodAll_nil r0
  obtain rfl : args = #[v0] := by cases args; simp_all
  obtain ⟨rfl, rfl⟩ := trodVars_none hV
  obtain ⟨a0, len0, cap0, rfl⟩ := okWide_slice Try.underlying36 (hval 0 36 v0 rfl rfl)
  have k0 := h0
  have lt0 : ∀ x ∈ p0, x.block < W.heap.size := by obtain ⟨m, hm⟩ := k0; exact DataW.trod_lt m _ _ _ hm
  obtain ⟨z0, w0⟩ : ∃ zs, IsRow W a0 len0 cap0 zs := by
    obtain ⟨fuel, hf⟩ := h0
    rcases open_ints Try.underlying36 Try.underlying5 (by kernel_rfl) hf with ⟨hcs, _⟩ | ⟨x, l, c, zs, hcs, _, hl, hm, hz, _, hcell, hwz⟩
    · simp [Value.cells] at hcs
      obtain ⟨rfl, rfl, rfl⟩ := hcs
      exact ⟨[], .inl ⟨rfl, rfl, rfl, rfl⟩⟩
    · simp [Value.cells] at hcs
      obtain ⟨rfl, rfl, rfl⟩ := hcs
      exact ⟨zs, .inr ⟨_, rfl, hl, hm, by simpa using hz, hcell, hwz⟩⟩
  clear hA0 hval0
  refine (walk a0 len0 cap0 z0 W w0).mono fun e W' ⟨he, bel⟩ => ?_
  subst he
  exact ⟨_, rfl, _, _, _, [], _, [], hW', trodAll_mk1 (shut_bool Try.underlying4 _), (trodAll_cons_mk (Below.trod laidOut (by kernel_rfl) (of_decide_eq_true (by kernel_rfl)) k0 bel lt0) trodAll_mk0), rfl, bel.frame _, fun h => by cases h⟩
theorem over : Rows.stuffBackRow.holds Try.pinned (OpenSpec.ofChange Rows.stuffBackSpec) :=
  OpenClaim.holds_of_wide 5 Try.f5 rfl rfl rfl rfl rfl rfl rfl ⟨rfl, rfl, rfl, rfl, rfl⟩ rfl rfl rfl rfl rfl (by kernel_rfl) Try.func5 (by kernel_rfl)
    (of_decide_eq_true (by kernel_rfl)) (by unfold Func.isWrapper; first | (rw [if_pos (by decide +kernel)]; kernel_rfl) | (rw [if_neg (by decide +kernel)]; exact ⟨rfl, rfl⟩))
    (fun os started H enc _ => lifted os started H enc)
/-- The statement. -/
theorem proved : Rows.StuffBackSaid := over
end Go.Proofs.Ytdnonahpoklbfaa.stuffBack
