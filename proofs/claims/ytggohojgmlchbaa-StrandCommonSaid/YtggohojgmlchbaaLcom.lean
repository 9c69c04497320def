/- The statement that what several put on one wire is the same in any order, and that who puts the same or 1 alone changes nothing, holds: for every three strings the law answers true. No conditions. -/
import Derived.Test.YtggohojgmlchbaaRows
import Derived.Test.YtggohojgmlchbaaApp
import Derived.WalkKit
import Derived.ProofKit
import Derived.OpenShut
import Derived.ShutString
import Derived.ChangeOld
import Derived.Below
namespace Go.Proofs.Ytggohojgmlchbaa.strandCommon
open Go.ChangeShapes Go.WideShapes Go.ChangeAt Go.RowKit
theorem own : ownKnob Try.prog.godebug = none := by kernel_rfl
theorem laidOut : laidOutB Try.prog = true := by kernel_rfl
set_option maxHeartbeats 1000000 in
theorem walk (a0 : Option Addr) (len0 cap0 : Nat) (z0 : List Int) (a1 : Option Addr) (len1 cap1 : Nat) (z1 : List Int) (a2 : Option Addr) (len2 cap2 : Nat) (z2 : List Int) (w : World) (w0 : IsRow w a0 len0 cap0 z0) (w1 : IsRow w a1 len1 cap1 z1) (w2 : IsRow w a2 len2 cap2 z2) :
    Calls Try.prog 13 #[.slice a0 len0 cap0, .slice a1 len1 cap1, .slice a2 len2 cap2] w fun e w' => e = .returned (.bool true) ∧ Below w.heap.size w w' := by
  obtain ⟨bs0, _, hI0⟩ := isRow_str w0
  obtain ⟨bs1, _, hI1⟩ := isRow_str w1
  obtain ⟨bs2, _, hI2⟩ := isRow_str w2
  clear w0 w1 w2
  have HF0 := Lib.hid (few_any a0 len0 cap0 bs0 w hI0)
  have HF1 := Lib.hid (few_any a1 len1 cap1 bs1 w hI1)
  have HF2 := Lib.hid (few_any a2 len2 cap2 bs2 w hI2)
  obtain ⟨xs0, hx0⟩ : ∃ bs, bs = bs0.take 500 := ⟨_, rfl⟩
  obtain ⟨xs1, hx1⟩ : ∃ bs, bs = bs1.take 500 := ⟨_, rfl⟩
  obtain ⟨xs2, hx2⟩ : ∃ bs, bs = bs2.take 500 := ⟨_, rfl⟩
  rw [← hx0] at HF0
  rw [← hx1] at HF1
  rw [← hx2] at HF2
  have hl0 : xs0.length ≤ 500 := by rw [hx0, List.length_take]; omega
  have HL1 := Lib.hid (show xs1.length ≤ 500 by rw [hx1, List.length_take]; omega)
  have HL2 := Lib.hid (show xs2.length ≤ 500 by rw [hx2, List.length_take]; omega)
  clear hx0 hx1 hx2 hI0 hI1 hI2
  obtain ⟨i0, hi, hz0, hz1, hz2⟩ := info_parts info_u8
  go_enter Try.func13, Try.ntmps13
  go_wp2_with (fail)
  refine HF0.out.mono ?_
  rintro e w1 ⟨⟨a0', len0', cap0', rfl, hS⟩, rfl⟩
  have S0 := Lib.hid hS
  clear hS
  go_wp2_with (fail)
  refine HF1.out.mono ?_
  rintro e w1 ⟨⟨a1', len1', cap1', rfl, hS⟩, rfl⟩
  have S1 := Lib.hid hS
  clear hS
  go_wp2_with (fail)
  refine HF2.out.mono ?_
  rintro e w1 ⟨⟨a2', len2', cap2', rfl, hS⟩, rfl⟩
  have S2 := Lib.hid hS
  clear hS
  clear HF0 HF1 HF2
  have hlen := S0.out.len
  subst hlen
  go_wp2_with (fail)
  go_loopw [7, 8] (fun v i wr => ∃ k : Nat, k ≤ xs0.length ∧ i = .int .i64 k ∧ Ow w.heap.size wr v (List.replicate k 1) ∧ Below w.heap.size w wr)
    (fun _ i _ => xs0.length - (intOf i).toNat)
  case atStart => exact ⟨0, Nat.zero_le _, rfl, Ow.nil _ _, Below.refl _ _⟩
  case round =>
    obtain ⟨k, hk, rfl, hown, hnx⟩ := hrel
    have hown' := hown.own
    rw [List.length_replicate] at hown'
    by_cases hlt : k < xs0.length
    · go_wp2_with (at_builtin; refine wpList_append_own _ rfl _ _ 30 rfl w.heap.size 5 i0 (.int .u8 0) 1 1 Try.underlying30 hi hz0 hz1 hz2 rfl (by decide) _ _ _ rfl (hown'.alloc _) ⟨wr.heap.size, 0, none⟩ 1 1 [.int .u8 1] rfl rfl one_cell one_flat ?c3 ?c4 ?c5 ?_)
      case c3 => unfold maxLen; omega
      case c4 => omega
      case c5 => have := hnx.size; simp; omega
      intro v' w1 hown2 hgrow _
      have hown3 : Ow w.heap.size w1 v' (List.replicate (k + 1) 1) := by
        rw [List.replicate_succ']
        refine Ow.snoc ?_
        rw [List.length_replicate, List.map_replicate]
        exact hown2
      have hb1 : Below w.heap.size w w1 := (hnx.alloc hnx.size _).grown hgrow (by have := hnx.size; simp; omega) hown.ge
      have HO := Lib.hid hown3; have HB := Lib.hid hb1
      clear hown hown' hown2 hown3 hgrow hb1 hnx
      go_wp2
      go_roundw
      case rel => exact ⟨k + 1, by omega, by simp, HO.out, HB.out⟩
      case measure => simp [intOf]; omega
    · obtain rfl : k = xs0.length := by omega
      clear hown'
      obtain ⟨ao, co, rfl⟩ := hown.shape
      rw [List.length_replicate] at hown ⊢
      have S3 := Lib.hid hown.str
      have B0 := Lib.hid hnx
      have T0 := Lib.hid ((S0.out.below hnx).mono hnx.size)
      have T1 := Lib.hid ((S1.out.below hnx).mono hnx.size)
      have T2 := Lib.hid ((S2.out.below hnx).mono hnx.size)
      clear hown hnx S0 S1 S2
      have HL0 := Lib.hid hl0
      clear hi hz0 hz1 hz2
      go_wp2_with (fail)
      refine (live_st _).mono ?_
      rintro e w2 ⟨rfl, hb⟩
      have T0v1 := Lib.hid (T0.out.on hb); clear T0
      have T1v2 := Lib.hid (T1.out.on hb); clear T1
      have T2v3 := Lib.hid (T2.out.on hb); clear T2
      have S3v4 := Lib.hid (S3.out.on hb); clear S3
      have B0v5 := Lib.hid (below_trans' B0.out hb); clear B0 hb
      go_wp2_with (fail)
      refine (and_lit3 _ _ _ _ _ _ _ _ _ _ _ _ _ _ HL0.out HL1.out HL2.out T0v1.out T1v2.out T2v3.out).mono ?_
      rintro e w3 ⟨b, rfl, hS, hb⟩
      have T0v6 := Lib.hid (T0v1.out.on hb); clear T0v1
      have T1v7 := Lib.hid (T1v2.out.on hb); clear T1v2
      have T2v8 := Lib.hid (T2v3.out.on hb); clear T2v3
      have S3v9 := Lib.hid (S3v4.out.on hb); clear S3v4
      have B0v10 := Lib.hid (below_trans' B0v5.out hb); clear B0v5 hb
      have U1 := Lib.hid hS
      clear hS
      go_wp2_with (fail)
      refine (and_lit3 _ _ _ _ _ _ _ _ _ _ _ _ _ _ HL2.out HL0.out HL1.out T2v8.out T0v6.out T1v7.out).mono ?_
      rintro e w3 ⟨b, rfl, hS, hb⟩
      have T0v11 := Lib.hid (T0v6.out.on hb); clear T0v6
      have T1v12 := Lib.hid (T1v7.out.on hb); clear T1v7
      have T2v13 := Lib.hid (T2v8.out.on hb); clear T2v8
      have S3v14 := Lib.hid (S3v9.out.on hb); clear S3v9
      have U1v15 := Lib.hid (U1.out.on hb); clear U1
      have B0v16 := Lib.hid (below_trans' B0v10.out hb); clear B0v10 hb
      have U2 := Lib.hid hS
      clear hS
      go_wp2_with (fail)
      refine (same_any _ _ _ _ _ _ _ _ (by rw [andB_length, leastN_three]; have := HL0.out; omega) _ U1v15.out U2.out).mono ?_
      rintro e w4 ⟨he, hb⟩
      have he' : e = .returned (.bool true) := by rw [he, common_turn]
      subst he'
      clear he
      have T0v17 := Lib.hid (T0v11.out.on hb); clear T0v11
      have T1v18 := Lib.hid (T1v12.out.on hb); clear T1v12
      have T2v19 := Lib.hid (T2v13.out.on hb); clear T2v13
      have S3v20 := Lib.hid (S3v14.out.on hb); clear S3v14
      clear U1v15
      clear U2
      have B0v21 := Lib.hid (below_trans' B0v16.out hb); clear B0v16 hb
      go_wp2_with (fail)
      refine (and_lit2 _ _ _ _ _ _ _ _ _ _ HL0.out HL0.out T0v17.out T0v17.out).mono ?_
      rintro e w3 ⟨b, rfl, hS, hb⟩
      have T0v22 := Lib.hid (T0v17.out.on hb); clear T0v17
      have T1v23 := Lib.hid (T1v18.out.on hb); clear T1v18
      have T2v24 := Lib.hid (T2v19.out.on hb); clear T2v19
      have S3v25 := Lib.hid (S3v20.out.on hb); clear S3v20
      have B0v26 := Lib.hid (below_trans' B0v21.out hb); clear B0v21 hb
      have U3 := Lib.hid hS
      clear hS
      go_wp2_with (fail)
      refine (same_any _ _ _ _ _ _ _ _ (by rw [andB_length, leastN_two]; have := HL0.out; omega) _ U3.out T0v22.out).mono ?_
      rintro e w4 ⟨he, hb⟩
      have he' : e = .returned (.bool true) := by rw [he, common_twice]
      subst he'
      clear he
      have T0v27 := Lib.hid (T0v22.out.on hb); clear T0v22
      have T1v28 := Lib.hid (T1v23.out.on hb); clear T1v23
      have T2v29 := Lib.hid (T2v24.out.on hb); clear T2v24
      have S3v30 := Lib.hid (S3v25.out.on hb); clear S3v25
      clear U3
      have B0v31 := Lib.hid (below_trans' B0v26.out hb); clear B0v26 hb
      go_wp2_with (fail)
      refine (and_lit2 _ _ _ _ _ _ _ _ _ _ HL0.out (by rw [List.length_replicate]; exact HL0.out) T0v27.out S3v30.out).mono ?_
      rintro e w3 ⟨b, rfl, hS, hb⟩
      have T0v32 := Lib.hid (T0v27.out.on hb); clear T0v27
      have T1v33 := Lib.hid (T1v28.out.on hb); clear T1v28
      have T2v34 := Lib.hid (T2v29.out.on hb); clear T2v29
      have S3v35 := Lib.hid (S3v30.out.on hb); clear S3v30
      have B0v36 := Lib.hid (below_trans' B0v31.out hb); clear B0v31 hb
      have U4 := Lib.hid hS
      clear hS
      go_wp2_with (fail)
      refine (same_any _ _ _ _ _ _ _ _ (by rw [andB_length, leastN_two]; have := HL0.out; omega) _ U4.out T0v32.out).mono ?_
      rintro e w4 ⟨he, hb⟩
      have he' : e = .returned (.bool true) := by rw [he, common_ones]
      subst he'
      clear he
      have T0v37 := Lib.hid (T0v32.out.on hb); clear T0v32
      have T1v38 := Lib.hid (T1v33.out.on hb); clear T1v33
      have T2v39 := Lib.hid (T2v34.out.on hb); clear T2v34
      clear S3v35
      clear U4
      have B0v40 := Lib.hid (below_trans' B0v36.out hb); clear B0v36 hb
      go_wp2_with (fail)
      refine (and_lit2 _ _ _ _ _ _ _ _ _ _ HL0.out HL1.out T0v37.out T1v38.out).mono ?_
      rintro e w3 ⟨b, rfl, hS, hb⟩
      have T0v41 := Lib.hid (T0v37.out.on hb); clear T0v37
      have T1v42 := Lib.hid (T1v38.out.on hb); clear T1v38
      have T2v43 := Lib.hid (T2v39.out.on hb); clear T2v39
      have B0v44 := Lib.hid (below_trans' B0v40.out hb); clear B0v40 hb
      have U5 := Lib.hid hS
      clear hS
      go_wp2_with (fail)
      refine (and_lit2 _ _ _ _ _ _ _ _ _ _ (by rw [andB_length, leastN_two]; have := HL0.out; omega) HL2.out U5.out T2v43.out).mono ?_
      rintro e w3 ⟨b, rfl, hS, hb⟩
      have T0v45 := Lib.hid (T0v41.out.on hb); clear T0v41
      have T1v46 := Lib.hid (T1v42.out.on hb); clear T1v42
      have T2v47 := Lib.hid (T2v43.out.on hb); clear T2v43
      have U5v48 := Lib.hid (U5.out.on hb); clear U5
      have B0v49 := Lib.hid (below_trans' B0v44.out hb); clear B0v44 hb
      have U6 := Lib.hid hS
      clear hS
      go_wp2_with (fail)
      refine (and_lit3 _ _ _ _ _ _ _ _ _ _ _ _ _ _ HL0.out HL1.out HL2.out T0v45.out T1v46.out T2v47.out).mono ?_
      rintro e w3 ⟨b, rfl, hS, hb⟩
      have T0v50 := Lib.hid (T0v45.out.on hb); clear T0v45
      have T1v51 := Lib.hid (T1v46.out.on hb); clear T1v46
      have T2v52 := Lib.hid (T2v47.out.on hb); clear T2v47
      have U5v53 := Lib.hid (U5v48.out.on hb); clear U5v48
      have U6v54 := Lib.hid (U6.out.on hb); clear U6
      have B0v55 := Lib.hid (below_trans' B0v49.out hb); clear B0v49 hb
      have U7 := Lib.hid hS
      clear hS
      go_wp2_with (fail)
      refine (same_any _ _ _ _ _ _ _ _ (by rw [andB_length, leastN_two]; have := HL2.out; omega) _ U6v54.out U7.out).mono ?_
      rintro e w4 ⟨he, hb⟩
      have he' : e = .returned (.bool true) := by rw [he, common_parts]
      subst he'
      clear he
      clear T0v50
      clear T1v51
      clear T2v52
      clear U5v53
      clear U6v54
      clear U7
      have B0v56 := Lib.hid (below_trans' B0v55.out hb); clear B0v55 hb
      go_wp2_with (fail)
      go_ret
      exact ⟨rfl, B0v56.out⟩
set_option maxRecDepth 100000 in
theorem lifted (os : Os) (started : os.Started) (H : Type) (enc : TypeId × Value → H) :
    ReturnsInHanded {} Try.checked os 13 .any (Rows.strandCommonSpec.pre6 enc Try.prog Try.f13 Rows.strandCommonRow.domain false) (Rows.strandCommonSpec.post enc Try.prog Try.f13 false true false false) := by
  refine returnsInHanded_of_change (C := Try.checked) own started (by kernel_rfl) Try.func13
    (ChangeSpec.witness6 (enc := enc) (C := Try.checked) false ⟨#[], #[.slice none 0 0, .slice none 0 0, .slice none 0 0], []⟩ 8 (by kernel_rfl) (by kernel_rfl) (by kernel_rfl) (by kernel_rfl)) ?_
  intro W base args ds gs before hval0 hW _ _
  have hval : ∀ (j : Nat) t v, Try.f13.params[j]? = some t → args[j]? = some v → Value.okWide Try.prog W .any base t v := hval0
  have hW' := hW
  obtain ⟨p, q, hA0, hV, rfl, hfz, hnd⟩ := hW
  have hA : DataW.TrodAll enc Try.prog W 0 (fun _ => true) true Try.f13.params.toList args.toList ds p := hA0
  rw [Try.params13] at hA hval
  obtain ⟨v0, vs0, d0, ds0, p0, q0, hargs, rfl, rfl, h0, r0⟩ := trodAll_cons hA
  obtain ⟨v1, vs1, d1, ds1, p1, q1, rfl, rfl, rfl, h1, r1⟩ := trodAll_cons r0
  obtain ⟨v2, vs2, d2, ds2, p2, q2, rfl, rfl, rfl, h2, r2⟩ := trodAll_cons r1
  obtain ⟨rfl, rfl, rfl⟩ := trodAll_nil r2
  obtain rfl : args = #[v0, v1, v2] := by cases args; simp_all
  obtain ⟨rfl, rfl⟩ := trodVars_none hV
  obtain ⟨a0, len0, cap0, rfl⟩ := okWide_slice Try.underlying30 (hval 0 30 v0 rfl rfl)
  have k0 := h0
  have lt0 : ∀ x ∈ p0, x.block < W.heap.size := by obtain ⟨m, hm⟩ := k0; exact DataW.trod_lt m _ _ _ hm
  obtain ⟨z0, w0⟩ : ∃ zs, IsRow W a0 len0 cap0 zs := by
    obtain ⟨fuel, hf⟩ := h0
    rcases open_ints Try.underlying30 Try.underlying5 (by kernel_rfl) hf with ⟨hcs, _⟩ | ⟨x, l, c, zs, hcs, _, hl, hm, hz, _, hcell, hwz⟩
    · simp [Value.cells] at hcs
      obtain ⟨rfl, rfl, rfl⟩ := hcs
      exact ⟨[], .inl ⟨rfl, rfl, rfl, rfl⟩⟩
    · simp [Value.cells] at hcs
      obtain ⟨rfl, rfl, rfl⟩ := hcs
      exact ⟨zs, .inr ⟨_, rfl, hl, hm, by simpa using hz, hcell, hwz⟩⟩
  obtain ⟨a1, len1, cap1, rfl⟩ := okWide_slice Try.underlying30 (hval 1 30 v1 rfl rfl)
  have k1 := h1
  have lt1 : ∀ x ∈ p1, x.block < W.heap.size := by obtain ⟨m, hm⟩ := k1; exact DataW.trod_lt m _ _ _ hm
  obtain ⟨z1, w1⟩ : ∃ zs, IsRow W a1 len1 cap1 zs := by
    obtain ⟨fuel, hf⟩ := h1
    rcases open_ints Try.underlying30 Try.underlying5 (by kernel_rfl) hf with ⟨hcs, _⟩ | ⟨x, l, c, zs, hcs, _, hl, hm, hz, _, hcell, hwz⟩
    · simp [Value.cells] at hcs
      obtain ⟨rfl, rfl, rfl⟩ := hcs
      exact ⟨[], .inl ⟨rfl, rfl, rfl, rfl⟩⟩
    · simp [Value.cells] at hcs
      obtain ⟨rfl, rfl, rfl⟩ := hcs
      exact ⟨zs, .inr ⟨_, rfl, hl, hm, by simpa using hz, hcell, hwz⟩⟩
  obtain ⟨a2, len2, cap2, rfl⟩ := okWide_slice Try.underlying30 (hval 2 30 v2 rfl rfl)
  have k2 := h2
  have lt2 : ∀ x ∈ p2, x.block < W.heap.size := by obtain ⟨m, hm⟩ := k2; exact DataW.trod_lt m _ _ _ hm
  obtain ⟨z2, w2⟩ : ∃ zs, IsRow W a2 len2 cap2 zs := by
    obtain ⟨fuel, hf⟩ := h2
    rcases open_ints Try.underlying30 Try.underlying5 (by kernel_rfl) hf with ⟨hcs, _⟩ | ⟨x, l, c, zs, hcs, _, hl, hm, hz, _, hcell, hwz⟩
    · simp [Value.cells] at hcs
      obtain ⟨rfl, rfl, rfl⟩ := hcs
      exact ⟨[], .inl ⟨rfl, rfl, rfl, rfl⟩⟩
    · simp [Value.cells] at hcs
      obtain ⟨rfl, rfl, rfl⟩ := hcs
      exact ⟨zs, .inr ⟨_, rfl, hl, hm, by simpa using hz, hcell, hwz⟩⟩
  clear hA0 hval0
  refine (walk a0 len0 cap0 z0 a1 len1 cap1 z1 a2 len2 cap2 z2 W w0 w1 w2).mono fun e W' ⟨he, bel⟩ => ?_
  subst he
  exact ⟨_, rfl, _, _, _, [], _, [], hW', trodAll_mk1 (shut_bool Try.underlying4 _), (trodAll_cons_mk (Below.trod laidOut (by kernel_rfl) (of_decide_eq_true (by kernel_rfl)) k0 bel lt0) (trodAll_cons_mk (Below.trod laidOut (by kernel_rfl) (of_decide_eq_true (by kernel_rfl)) k1 bel lt1) (trodAll_cons_mk (Below.trod laidOut (by kernel_rfl) (of_decide_eq_true (by kernel_rfl)) k2 bel lt2) trodAll_mk0))), rfl, bel.frame _, fun h => by cases h⟩
theorem over : Rows.strandCommonRow.holds Try.pinned (OpenSpec.ofChange Rows.strandCommonSpec) :=
  OpenClaim.holds_of_wide 13 Try.f13 rfl rfl rfl rfl rfl rfl rfl ⟨rfl, rfl, rfl, rfl, rfl⟩ rfl rfl rfl rfl rfl (by kernel_rfl) Try.func13 (by kernel_rfl)
    (of_decide_eq_true (by kernel_rfl)) (by unfold Func.isWrapper; first | (rw [if_pos (by decide +kernel)]; kernel_rfl) | (rw [if_neg (by decide +kernel)]; exact ⟨rfl, rfl⟩))
    (fun os started H enc _ => lifted os started H enc)
/-- The statement. -/
theorem proved : Rows.StrandCommonSaid := over
end Go.Proofs.Ytggohojgmlchbaa.strandCommon
