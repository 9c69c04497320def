/- The statement of P4.2 (StuffWhole): any string with bits put between, and without them, or where it can't be, as the document says. Conditions: none. -/
import Derived.Test.YtdnonahpoklbfaaRows
import Derived.Test.YtdnonahpoklbfaaSfl
import Derived.WalkKit
import Derived.ProofKit
import Derived.OpenShut
import Derived.ShutString
import Derived.ChangeOld
import Derived.Below
namespace Go.Proofs.Ytdnonahpoklbfaa.stuffWhole
open Go.ChangeShapes Go.WideShapes Go.ChangeAt Go.RowKit
theorem own : ownKnob Try.prog.godebug = none := by kernel_rfl
theorem laidOut : laidOutB Try.prog = true := by kernel_rfl
set_option maxHeartbeats 1000000 in
theorem walk (a0 : Option Addr) (len0 cap0 : Nat) (z0 : List Int) (w : World) (w0 : IsRow w a0 len0 cap0 z0) :
    Calls Try.prog 4 #[.slice a0 len0 cap0] w fun e w' => e = .returned (.bool true) ∧ Below w.heap.size w w' := by
  obtain ⟨bs0, _, hI⟩ := isRow_str w0
  clear w0
  have CF := Lib.hid (few3_any a0 len0 cap0 bs0 w hI)
  obtain ⟨xs, hxs⟩ : ∃ xs, xs = bs0.take 200 := ⟨_, rfl⟩
  rw [← hxs] at CF
  have hxl : xs.length ≤ 200 := by rw [hxs, List.length_take]; omega
  clear hxs hI
  obtain ⟨ss, hss⟩ : ∃ ss, ss = stuffB (bitsOf xs) := ⟨_, rfl⟩
  have HSS := Lib.hid hss
  clear hss
  go_enter Try.func4, Try.ntmps4
  go_wp2_with (fail)
  refine CF.out.mono ?_
  rintro e w1 ⟨⟨a', len', cap', rfl, hS⟩, rfl⟩
  obtain rfl := hS.len
  have S0 := Lib.hid hS
  clear hS CF
  go_wp2_with (fail)
  refine (unstuff_any _ _ _ xs (by omega) _ S0.out).mono ?_
  rintro e w2 ⟨hb, h⟩
  have S2 := Lib.hid (S0.out.on hb)
  have B2 := Lib.hid hb
  rcases h with ⟨r, yy, v2, hu, rfl, ho2⟩ | ⟨k, s, hk, hs, hn, rfl⟩
  · have h := True.intro
    obtain ⟨a2, c2, rfl⟩ := ho2.shape
    have U2 := Lib.hid ho2.str
    have HU := Lib.hid hu
    clear ho2 hu
    clear h hb S0
    go_wp2_with (fail)
    refine (refUnstuff_any _ _ _ xs (by omega) _ S2.out).mono ?_
    rintro e w3 ⟨hb, h⟩
    have he : ∃ v, e = .returned (.tuple #[v, .int .i64 (xs.length : Nat), .int .i64 0]) ∧ Ow (w2.heap.size + 1) w3 v yy := by
      rcases h with ⟨r', out, v, h, he, ho⟩ | ⟨k, s, hk, _, hn, _⟩
      · rw [HU.out] at h
        cases h
        exact ⟨v, he, ho⟩
      · have := un_all (k := k + 1) (by omega) hn
        rw [HU.out] at this
        cases this
    obtain ⟨v3, rfl, ho3⟩ := he
    obtain ⟨a3, c3, rfl⟩ := ho3.shape
    have V3 := Lib.hid ho3.str
    have U3 := Lib.hid (U2.out.on hb)
    clear ho3 U2 HU
    have S3 := Lib.hid (S2.out.on hb)
    have B3 := Lib.hid (below_trans' B2.out hb)
    clear h hb S2 B2
    go_wp2_with (fail)
    refine (live4 _).mono ?_
    rintro e w4 ⟨rfl, hb⟩
    have S4 := Lib.hid (S3.out.on hb)
    have U4 := Lib.hid (U3.out.on hb)
    have V4 := Lib.hid (V3.out.on hb)
    have B4 := Lib.hid (below_trans' B3.out hb)
    clear hb S3 U3 V3 B3
    go_wp2_with (fail)
    refine (stuff_any _ _ _ xs (by omega) _ S4.out).mono ?_
    rintro e w5 ⟨v5, rfl, ho5, hb⟩
    rw [← HSS.out] at ho5
    obtain ⟨a5, c5, rfl⟩ := ho5.shape
    have P5 := Lib.hid ho5.str
    have S5 := Lib.hid (S4.out.on hb)
    have U5 := Lib.hid (U4.out.on hb)
    have V5 := Lib.hid (V4.out.on hb)
    have B5 := Lib.hid (below_trans' B4.out hb)
    clear ho5 hb S4 U4 V4 B4
    go_wp2_with (fail)
    refine (refStuff_any _ _ _ xs (by omega) _ S5.out).mono ?_
    rintro e w6 ⟨v6, rfl, ho6, hb⟩
    rw [← HSS.out] at ho6
    obtain ⟨a6, c6, rfl⟩ := ho6.shape
    have Q6 := Lib.hid ho6.str
    have P6 := Lib.hid (P5.out.on hb)
    have U6 := Lib.hid (U5.out.on hb)
    have V6 := Lib.hid (V5.out.on hb)
    have B6 := Lib.hid (below_trans' B5.out hb)
    clear ho6 hb S5 U5 V5 B5 P5
    go_wp2_with (fail)
    refine (bytes_any _ _ _ ss _ _ _ ss _ P6.out Q6.out).mono ?_
    rintro e w7 ⟨he, hb⟩
    have he' : e = .returned (.bool true) := by rw [he, decide_eq_true rfl]
    subst he'
    have U7 := Lib.hid (U6.out.on hb)
    have V7 := Lib.hid (V6.out.on hb)
    have B7 := Lib.hid (below_trans' B6.out hb)
    clear he hb U6 V6 B6 P6 Q6
    go_wp2_with (fail)
    refine (bytes_any _ _ _ yy _ _ _ yy _ U7.out V7.out).mono ?_
    rintro e w8 ⟨he, hb⟩
    have he' : e = .returned (.bool true) := by rw [he, decide_eq_true rfl]
    subst he'
    have B8 := Lib.hid (below_trans' B7.out hb)
    clear he hb U7 V7 B7
    go_wp2_with (fail)
    go_ret
    exact ⟨rfl, B8.out⟩
  · have h := True.intro
    obtain ⟨yy, hyy⟩ : ∃ yy : List Nat, yy = [] := ⟨_, rfl⟩
    have HS := Lib.hid hs
    have HN := Lib.hid hn
    clear hs hn
    clear h hb S0
    go_wp2_with (fail)
    refine (refUnstuff_any _ _ _ xs (by omega) _ S2.out).mono ?_
    rintro e w3 ⟨hb, h⟩
    have he : e = .returned (.tuple #[.slice none 0 0, .int .i64 (k : Nat), .int .i64 4]) := by
      rcases h with ⟨r', out, v, h, he, ho⟩ | ⟨j, s', hj, hs, hn, he⟩
      · have := un_all (k := k + 1) (by omega) HN.out
        rw [this] at h
        cases h
      · obtain rfl := un_uniq HS.out HN.out hs hn
        exact he
    subst he
    have V3 := Lib.hid (show Str w3.heap.size w3 (.slice none 0 0) yy by rw [hyy]; exact str_nil _ _)
    have U3 := V3
    clear HS HN
    have S3 := Lib.hid (S2.out.on hb)
    have B3 := Lib.hid (below_trans' B2.out hb)
    clear h hb S2 B2
    go_wp2_with (fail)
    refine (live4 _).mono ?_
    rintro e w4 ⟨rfl, hb⟩
    have S4 := Lib.hid (S3.out.on hb)
    have U4 := Lib.hid (U3.out.on hb)
    have V4 := Lib.hid (V3.out.on hb)
    have B4 := Lib.hid (below_trans' B3.out hb)
    clear hb S3 U3 V3 B3
    go_wp2_with (fail)
    refine (stuff_any _ _ _ xs (by omega) _ S4.out).mono ?_
    rintro e w5 ⟨v5, rfl, ho5, hb⟩
    rw [← HSS.out] at ho5
    obtain ⟨a5, c5, rfl⟩ := ho5.shape
    have P5 := Lib.hid ho5.str
    have S5 := Lib.hid (S4.out.on hb)
    have U5 := Lib.hid (U4.out.on hb)
    have V5 := Lib.hid (V4.out.on hb)
    have B5 := Lib.hid (below_trans' B4.out hb)
    clear ho5 hb S4 U4 V4 B4
    go_wp2_with (fail)
    refine (refStuff_any _ _ _ xs (by omega) _ S5.out).mono ?_
    rintro e w6 ⟨v6, rfl, ho6, hb⟩
    rw [← HSS.out] at ho6
    obtain ⟨a6, c6, rfl⟩ := ho6.shape
    have Q6 := Lib.hid ho6.str
    have P6 := Lib.hid (P5.out.on hb)
    have U6 := Lib.hid (U5.out.on hb)
    have V6 := Lib.hid (V5.out.on hb)
    have B6 := Lib.hid (below_trans' B5.out hb)
    clear ho6 hb S5 U5 V5 B5 P5
    go_wp2_with (fail)
    refine (bytes_any _ _ _ ss _ _ _ ss _ P6.out Q6.out).mono ?_
    rintro e w7 ⟨he, hb⟩
    have he' : e = .returned (.bool true) := by rw [he, decide_eq_true rfl]
    subst he'
    have U7 := Lib.hid (U6.out.on hb)
    have V7 := Lib.hid (V6.out.on hb)
    have B7 := Lib.hid (below_trans' B6.out hb)
    clear he hb U6 V6 B6 P6 Q6
    go_wp2_with (fail)
    refine (bytes_any _ _ _ yy _ _ _ yy _ U7.out V7.out).mono ?_
    rintro e w8 ⟨he, hb⟩
    have he' : e = .returned (.bool true) := by rw [he, decide_eq_true rfl]
    subst he'
    have B8 := Lib.hid (below_trans' B7.out hb)
    clear he hb U7 V7 B7
    go_wp2_with (fail)
    go_ret
    exact ⟨rfl, B8.out⟩
set_option maxRecDepth 100000 in
theorem lifted (os : Os) (started : os.Started) (H : Type) (enc : TypeId × Value → H) :
    ReturnsInHanded {} Try.checked os 4 .any (Rows.stuffWholeSpec.pre6 enc Try.prog Try.f4 Rows.stuffWholeRow.domain false) (Rows.stuffWholeSpec.post enc Try.prog Try.f4 false true false false) := by
  refine returnsInHanded_of_change (C := Try.checked) own started (by kernel_rfl) Try.func4
    (ChangeSpec.witness6 (enc := enc) (C := Try.checked) false ⟨#[], #[.slice none 0 0], []⟩ 8 (by kernel_rfl) (by kernel_rfl) (by kernel_rfl) (by kernel_rfl)) ?_
  intro W base args ds gs before hval0 hW _ _
  have hval : ∀ (j : Nat) t v, Try.f4.params[j]? = some t → args[j]? = some v → Value.okWide Try.prog W .any base t v := hval0
  have hW' := hW
  obtain ⟨p, q, hA0, hV, rfl, hfz, hnd⟩ := hW
  have hA : DataW.TrodAll enc Try.prog W 0 (fun _ => true) true Try.f4.params.toList args.toList ds p := hA0
  rw [Try.params4] at hA hval
  obtain ⟨v0, vs0, d0, ds0, p0, q0, hargs, rfl, rfl, h0, r0⟩ := trodAll_cons hA
  obtain ⟨rfl, rfl, rfl⟩ := trodAll_nil r0
  obtain rfl : args = #[v0] := by cases args; simp_all
  obtain ⟨rfl, rfl⟩ := trodVars_none hV
  obtain ⟨a0, len0, cap0, rfl⟩ := okWide_slice Try.underlying36 (hval 0 36 v0 rfl rfl)
  have k0 := h0
  have lt0 : ∀ x ∈ p0, x.block < W.heap.size := by obtain ⟨m, hm⟩ := k0; exact DataW.trod_lt m _ _ _ hm
  obtain ⟨z0, w0⟩ : ∃ zs, IsRow W a0 len0 cap0 zs := by
    obtain ⟨fuel, hf⟩ := h0
    rcases open_ints Try.underlying36 Try.underlying5 (by kernel_rfl) hf with ⟨hcs, _⟩ | ⟨x, l, c, zs, hcs, _, hl, hm, hz, _, hcell, hwz⟩
    · simp [Value.cells] at hcs
      obtain ⟨rfl, rfl, rfl⟩ := hcs
      exact ⟨[], .inl ⟨rfl, rfl, rfl, rfl⟩⟩
    · simp [Value.cells] at hcs
      obtain ⟨rfl, rfl, rfl⟩ := hcs
      exact ⟨zs, .inr ⟨_, rfl, hl, hm, by simpa using hz, hcell, hwz⟩⟩
  clear hA0 hval0
  refine (walk a0 len0 cap0 z0 W w0).mono fun e W' ⟨he, bel⟩ => ?_
  subst he
  exact ⟨_, rfl, _, _, _, [], _, [], hW', trodAll_mk1 (shut_bool Try.underlying4 _), (trodAll_cons_mk (Below.trod laidOut (by kernel_rfl) (of_decide_eq_true (by kernel_rfl)) k0 bel lt0) trodAll_mk0), rfl, bel.frame _, fun h => by cases h⟩
theorem over : Rows.stuffWholeRow.holds Try.pinned (OpenSpec.ofChange Rows.stuffWholeSpec) :=
  OpenClaim.holds_of_wide 4 Try.f4 rfl rfl rfl rfl rfl rfl rfl ⟨rfl, rfl, rfl, rfl, rfl⟩ rfl rfl rfl rfl rfl (by kernel_rfl) Try.func4 (by kernel_rfl)
    (of_decide_eq_true (by kernel_rfl)) (by unfold Func.isWrapper; first | (rw [if_pos (by decide +kernel)]; kernel_rfl) | (rw [if_neg (by decide +kernel)]; exact ⟨rfl, rfl⟩))
    (fun os started H enc _ => lifted os started H enc)
/-- The statement. -/
theorem proved : Rows.StuffWholeSaid := over
end Go.Proofs.Ytdnonahpoklbfaa.stuffWhole
