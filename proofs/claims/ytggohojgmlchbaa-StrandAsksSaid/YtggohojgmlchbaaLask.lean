/- The statement that the greatest run, whether two strings are the same, and the bytes of a string and back are what the document says holds: for every two strings and number the law answers true. No conditions. -/
import Derived.Test.YtggohojgmlchbaaRows
import Derived.Test.YtggohojgmlchbaaRfc
import Derived.WalkKit
import Derived.ProofKit
import Derived.OpenShut
import Derived.ShutString
import Derived.ChangeOld
import Derived.Below
namespace Go.Proofs.Ytggohojgmlchbaa.strandAsks
open Go.ChangeShapes Go.WideShapes Go.ChangeAt Go.RowKit
theorem own : ownKnob Try.prog.godebug = none := by kernel_rfl
theorem laidOut : laidOutB Try.prog = true := by kernel_rfl
set_option maxHeartbeats 1000000 in
theorem walk (a0 : Option Addr) (len0 cap0 : Nat) (z0 : List Int) (a1 : Option Addr) (len1 cap1 : Nat) (z1 : List Int) (a2 : Int) (w : World) (w0 : IsRow w a0 len0 cap0 z0) (w1 : IsRow w a1 len1 cap1 z1) (_w2 : (Lit.int .i64 a2).wf = true) :
    Calls Try.prog 11 #[.slice a0 len0 cap0, .slice a1 len1 cap1, .int .i64 a2] w fun e w' => e = .returned (.bool true) ∧ Below w.heap.size w w' := by
  obtain ⟨bs0, hby0, hI0⟩ := isRow_str w0
  obtain ⟨bs1, _, hI1⟩ := isRow_str w1
  clear w0 w1
  have CF := Lib.hid (few_any a0 len0 cap0 bs0 w hI0)
  have CG := Lib.hid (few_any a1 len1 cap1 bs1 w hI1)
  obtain ⟨xs, hxs⟩ : ∃ bs, bs = bs0.take 500 := ⟨_, rfl⟩
  obtain ⟨ys, hys⟩ : ∃ bs, bs = bs1.take 500 := ⟨_, rfl⟩
  rw [← hxs] at CF
  rw [← hys] at CG
  have hxl : xs.length ≤ 500 := by rw [hxs, List.length_take]; omega
  have HBY := Lib.hid (show ∀ j : Nat, xs[j]?.getD 0 < 256 by
    intro j
    rw [hxs, List.getElem?_take]
    split
    · exact hby0 j
    · show (0 : Nat) < 256; omega)
  clear hI0 hI1 hxs hys hby0
  by_cases hm : 0 ≤ a2 ∧ a2 ≤ 8 * (xs.length : Int)
  · obtain ⟨m, rfl⟩ : ∃ m : Nat, a2 = m := ⟨a2.toNat, by omega⟩
    have hm2 : m ≤ 8 * xs.length := by omega
    clear hm
    go_enter Try.func11, Try.ntmps11
    go_wp2_with (fail)
    refine CF.out.mono ?_
    rintro e w1 ⟨⟨a', len', cap', rfl, hS⟩, rfl⟩
    obtain rfl := hS.len
    have S0 := Lib.hid hS
    clear hS CF
    go_wp2_with (fail)
    refine CG.out.mono ?_
    rintro e w1 ⟨⟨a'', len'', cap'', rfl, hS⟩, rfl⟩
    have T0 := Lib.hid hS
    clear hS CG
    go_wp2_with (fail)
    refine (live_st _).mono ?_
    rintro e w1 ⟨rfl, hb⟩
    have B1 := Lib.hid hb
    have S1 := Lib.hid (S0.out.on hb)
    have T1 := Lib.hid (T0.out.on hb)
    clear hb S0 T0
    go_wp2_with (fail)
    refine (run_any _ _ _ xs (by omega) _ S1.out).mono ?_
    rintro e w2 ⟨rfl, hb⟩
    have B2 := Lib.hid (below_trans' B1.out hb)
    have S2 := Lib.hid (S1.out.on hb)
    have T2 := Lib.hid (T1.out.on hb)
    clear hb S1 T1 B1
    go_wp2_with (fail)
    refine (refRun_any _ _ _ xs (by omega) _ S2.out).mono ?_
    rintro e w3 ⟨rfl, hb⟩
    have B3 := Lib.hid (below_trans' B2.out hb)
    have S3 := Lib.hid (S2.out.on hb)
    have T3 := Lib.hid (T2.out.on hb)
    clear hb S2 T2 B2
    obtain ⟨ru, hru⟩ : ∃ ru, ru = (runF (bitsOf xs)).1 := ⟨_, rfl⟩
    rw [← hru]
    clear hru
    go_wp2_with (fail)
    refine (same_any _ _ _ xs _ _ _ ys (by omega) _ S3.out T3.out).mono ?_
    rintro e w4 ⟨rfl, hb⟩
    have B4 := Lib.hid (below_trans' B3.out hb)
    have S4 := Lib.hid (S3.out.on hb)
    have T4 := Lib.hid (T3.out.on hb)
    clear hb S3 T3 B3
    go_wp2_with (fail)
    refine (refSame_any _ _ _ xs _ _ _ ys _ S4.out T4.out).mono ?_
    rintro e w5 ⟨rfl, hb⟩
    have B5 := Lib.hid (below_trans' B4.out hb)
    have S5 := Lib.hid (S4.out.on hb)
    clear hb S4 T4 B4
    obtain ⟨sa, hsa⟩ : ∃ sa, sa = sameV xs ys := ⟨_, rfl⟩
    rw [← hsa]
    clear hsa
    go_wp2_with (fail)
    refine (pack_any _ _ _ xs (by omega) _ S5.out).mono ?_
    rintro e w6 ⟨v, rfl, hm, hb⟩
    have B6 := Lib.hid (below_trans' B5.out hb)
    have S6 := Lib.hid (S5.out.on hb)
    have U6 := Lib.hid hm.str
    obtain ⟨c, rfl, _, _, _⟩ := hm
    clear hb B5 S5
    go_wp2_with (fail)
    refine (refPack_any _ _ _ xs (by omega) _ S6.out).mono ?_
    rintro e w7 ⟨v, rfl, hm, hb⟩
    have B7 := Lib.hid (below_trans' B6.out hb)
    have S7 := Lib.hid (S6.out.on hb)
    have U7 := Lib.hid (U6.out.on hb)
    have V7 := Lib.hid hm.str
    obtain ⟨c, rfl, _, _, _⟩ := hm
    clear hb B6 S6 U6
    go_wp2_with (fail)
    refine (bytes_any _ _ _ (packB xs) _ _ _ (packB xs) _ U7.out V7.out).mono ?_
    rintro e w8 ⟨he, hb⟩
    have he' : e = .returned (.bool true) := by rw [he, decide_eq_true rfl]
    subst he'
    have B8 := Lib.hid (below_trans' B7.out hb)
    have S8 := Lib.hid (S7.out.on hb)
    clear he hb B7 S7 U7 V7
    go_wp2_with (fail)
    refine (unpack_yes _ _ _ xs m (by omega) (by omega) HBY.out _ S8.out).mono ?_
    rintro e w9 ⟨v, rfl, hm, hb⟩
    have B9 := Lib.hid (below_trans' B8.out hb)
    have S9 := Lib.hid (S8.out.on hb)
    have U9 := Lib.hid hm.str
    obtain ⟨c, rfl, _, _, _⟩ := hm
    clear hb B8 S8
    go_wp2_with (fail)
    refine (refUnpack_yes _ _ _ xs m (by omega) (by omega) HBY.out _ S9.out).mono ?_
    rintro e w10 ⟨v, rfl, hm, hb⟩
    have B10 := Lib.hid (below_trans' B9.out hb)
    have U10 := Lib.hid (U9.out.on hb)
    have V10 := Lib.hid hm.str
    obtain ⟨ao, co, rfl⟩ := hm.shape
    clear hm hb B9 S9 U9
    go_wp2_with (fail)
    refine (bytes_any _ _ _ (unpB xs m) _ _ _ (unpB xs m) _ U10.out V10.out).mono ?_
    rintro e w11 ⟨he, hb⟩
    have he' : e = .returned (.bool true) := by rw [he, decide_eq_true rfl]
    subst he'
    have B11 := Lib.hid (below_trans' B10.out hb)
    clear he hb B10 U10 V10
    go_wp2_with (fail)
    go_ret
    exact ⟨rfl, B11.out⟩
  · have hm1 : a2 < 0 ∨ 8 * (xs.length : Int) < a2 := by omega
    clear hm
    go_enter Try.func11, Try.ntmps11
    go_wp2_with (fail)
    refine CF.out.mono ?_
    rintro e w1 ⟨⟨a', len', cap', rfl, hS⟩, rfl⟩
    obtain rfl := hS.len
    have S0 := Lib.hid hS
    clear hS CF
    go_wp2_with (fail)
    refine CG.out.mono ?_
    rintro e w1 ⟨⟨a'', len'', cap'', rfl, hS⟩, rfl⟩
    have T0 := Lib.hid hS
    clear hS CG
    go_wp2_with (fail)
    refine (live_st _).mono ?_
    rintro e w1 ⟨rfl, hb⟩
    have B1 := Lib.hid hb
    have S1 := Lib.hid (S0.out.on hb)
    have T1 := Lib.hid (T0.out.on hb)
    clear hb S0 T0
    go_wp2_with (fail)
    refine (run_any _ _ _ xs (by omega) _ S1.out).mono ?_
    rintro e w2 ⟨rfl, hb⟩
    have B2 := Lib.hid (below_trans' B1.out hb)
    have S2 := Lib.hid (S1.out.on hb)
    have T2 := Lib.hid (T1.out.on hb)
    clear hb S1 T1 B1
    go_wp2_with (fail)
    refine (refRun_any _ _ _ xs (by omega) _ S2.out).mono ?_
    rintro e w3 ⟨rfl, hb⟩
    have B3 := Lib.hid (below_trans' B2.out hb)
    have S3 := Lib.hid (S2.out.on hb)
    have T3 := Lib.hid (T2.out.on hb)
    clear hb S2 T2 B2
    obtain ⟨ru, hru⟩ : ∃ ru, ru = (runF (bitsOf xs)).1 := ⟨_, rfl⟩
    rw [← hru]
    clear hru
    go_wp2_with (fail)
    refine (same_any _ _ _ xs _ _ _ ys (by omega) _ S3.out T3.out).mono ?_
    rintro e w4 ⟨rfl, hb⟩
    have B4 := Lib.hid (below_trans' B3.out hb)
    have S4 := Lib.hid (S3.out.on hb)
    have T4 := Lib.hid (T3.out.on hb)
    clear hb S3 T3 B3
    go_wp2_with (fail)
    refine (refSame_any _ _ _ xs _ _ _ ys _ S4.out T4.out).mono ?_
    rintro e w5 ⟨rfl, hb⟩
    have B5 := Lib.hid (below_trans' B4.out hb)
    have S5 := Lib.hid (S4.out.on hb)
    clear hb S4 T4 B4
    obtain ⟨sa, hsa⟩ : ∃ sa, sa = sameV xs ys := ⟨_, rfl⟩
    rw [← hsa]
    clear hsa
    go_wp2_with (fail)
    refine (pack_any _ _ _ xs (by omega) _ S5.out).mono ?_
    rintro e w6 ⟨v, rfl, hm, hb⟩
    have B6 := Lib.hid (below_trans' B5.out hb)
    have S6 := Lib.hid (S5.out.on hb)
    have U6 := Lib.hid hm.str
    obtain ⟨c, rfl, _, _, _⟩ := hm
    clear hb B5 S5
    go_wp2_with (fail)
    refine (refPack_any _ _ _ xs (by omega) _ S6.out).mono ?_
    rintro e w7 ⟨v, rfl, hm, hb⟩
    have B7 := Lib.hid (below_trans' B6.out hb)
    have S7 := Lib.hid (S6.out.on hb)
    have U7 := Lib.hid (U6.out.on hb)
    have V7 := Lib.hid hm.str
    obtain ⟨c, rfl, _, _, _⟩ := hm
    clear hb B6 S6 U6
    go_wp2_with (fail)
    refine (bytes_any _ _ _ (packB xs) _ _ _ (packB xs) _ U7.out V7.out).mono ?_
    rintro e w8 ⟨he, hb⟩
    have he' : e = .returned (.bool true) := by rw [he, decide_eq_true rfl]
    subst he'
    have B8 := Lib.hid (below_trans' B7.out hb)
    have S8 := Lib.hid (S7.out.on hb)
    clear he hb B7 S7 U7 V7
    go_wp2_with (fail)
    refine (unpack_no _ _ _ a2 (by omega) (by omega) _).mono ?_
    rintro e w9 ⟨rfl, rfl⟩
    go_wp2_with (fail)
    refine (refUnpack_no _ _ _ a2 (by omega) (by omega) _).mono ?_
    rintro e w9 ⟨rfl, rfl⟩
    go_wp2_with (fail)
    refine (bytes_any _ _ _ [] _ _ _ [] _ (str_nil _ _) (str_nil _ _)).mono ?_
    rintro e w11 ⟨he, hb⟩
    have he' : e = .returned (.bool true) := by rw [he, decide_eq_true rfl]
    subst he'
    have B11 := Lib.hid (below_trans' B8.out hb)
    clear he hb B8
    go_wp2_with (fail)
    go_ret
    exact ⟨rfl, B11.out⟩
set_option maxRecDepth 100000 in
theorem lifted (os : Os) (started : os.Started) (H : Type) (enc : TypeId × Value → H) :
    ReturnsInHanded {} Try.checked os 11 .any (Rows.strandAsksSpec.pre6 enc Try.prog Try.f11 Rows.strandAsksRow.domain false) (Rows.strandAsksSpec.post enc Try.prog Try.f11 false true false false) := by
  refine returnsInHanded_of_change (C := Try.checked) own started (by kernel_rfl) Try.func11
    (ChangeSpec.witness6 (enc := enc) (C := Try.checked) false ⟨#[], #[.slice none 0 0, .slice none 0 0, .int .i64 0], []⟩ 8 (by kernel_rfl) (by kernel_rfl) (by kernel_rfl) (by kernel_rfl)) ?_
  intro W base args ds gs before hval0 hW _ _
  have hval : ∀ (j : Nat) t v, Try.f11.params[j]? = some t → args[j]? = some v → Value.okWide Try.prog W .any base t v := hval0
  have hW' := hW
  obtain ⟨p, q, hA0, hV, rfl, hfz, hnd⟩ := hW
  have hA : DataW.TrodAll enc Try.prog W 0 (fun _ => true) true Try.f11.params.toList args.toList ds p := hA0
  rw [Try.params11] at hA hval
  obtain ⟨v0, vs0, d0, ds0, p0, q0, hargs, rfl, rfl, h0, r0⟩ := trodAll_cons hA
  obtain ⟨v1, vs1, d1, ds1, p1, q1, rfl, rfl, rfl, h1, r1⟩ := trodAll_cons r0
  obtain ⟨v2, vs2, d2, ds2, p2, q2, rfl, rfl, rfl, h2, r2⟩ := trodAll_cons r1
  obtain ⟨rfl, rfl, rfl⟩ := trodAll_nil r2
  obtain rfl : args = #[v0, v1, v2] := by cases args; simp_all
  obtain ⟨rfl, rfl⟩ := trodVars_none hV
  obtain ⟨a0, len0, cap0, rfl⟩ := okWide_slice Try.underlying30 (hval 0 30 v0 rfl rfl)
  have k0 := h0
  have lt0 : ∀ x ∈ p0, x.block < W.heap.size := by obtain ⟨m, hm⟩ := k0; exact DataW.trod_lt m _ _ _ hm
  obtain ⟨z0, w0⟩ : ∃ zs, IsRow W a0 len0 cap0 zs := by
    obtain ⟨fuel, hf⟩ := h0
    rcases open_ints Try.underlying30 Try.underlying5 (by kernel_rfl) hf with ⟨hcs, _⟩ | ⟨x, l, c, zs, hcs, _, hl, hm, hz, _, hcell, hwz⟩
    · simp [Value.cells] at hcs
      obtain ⟨rfl, rfl, rfl⟩ := hcs
      exact ⟨[], .inl ⟨rfl, rfl, rfl, rfl⟩⟩
    · simp [Value.cells] at hcs
      obtain ⟨rfl, rfl, rfl⟩ := hcs
      exact ⟨zs, .inr ⟨_, rfl, hl, hm, by simpa using hz, hcell, hwz⟩⟩
  obtain ⟨a1, len1, cap1, rfl⟩ := okWide_slice Try.underlying30 (hval 1 30 v1 rfl rfl)
  have k1 := h1
  have lt1 : ∀ x ∈ p1, x.block < W.heap.size := by obtain ⟨m, hm⟩ := k1; exact DataW.trod_lt m _ _ _ hm
  obtain ⟨z1, w1⟩ : ∃ zs, IsRow W a1 len1 cap1 zs := by
    obtain ⟨fuel, hf⟩ := h1
    rcases open_ints Try.underlying30 Try.underlying5 (by kernel_rfl) hf with ⟨hcs, _⟩ | ⟨x, l, c, zs, hcs, _, hl, hm, hz, _, hcell, hwz⟩
    · simp [Value.cells] at hcs
      obtain ⟨rfl, rfl, rfl⟩ := hcs
      exact ⟨[], .inl ⟨rfl, rfl, rfl, rfl⟩⟩
    · simp [Value.cells] at hcs
      obtain ⟨rfl, rfl, rfl⟩ := hcs
      exact ⟨zs, .inr ⟨_, rfl, hl, hm, by simpa using hz, hcell, hwz⟩⟩
  obtain ⟨a2, rfl, rfl, rfl, w2⟩ := open_int Try.underlying3 (hval 2 3 v2 rfl rfl) h2
  clear hA0 hval0
  refine (walk a0 len0 cap0 z0 a1 len1 cap1 z1 a2 W w0 w1 w2).mono fun e W' ⟨he, bel⟩ => ?_
  subst he
  exact ⟨_, rfl, _, _, _, [], _, [], hW', trodAll_mk1 (shut_bool Try.underlying4 _), (trodAll_cons_mk (Below.trod laidOut (by kernel_rfl) (of_decide_eq_true (by kernel_rfl)) k0 bel lt0) (trodAll_cons_mk (Below.trod laidOut (by kernel_rfl) (of_decide_eq_true (by kernel_rfl)) k1 bel lt1) (trodAll_cons_mk (shut_int Try.underlying3 w2) trodAll_mk0))), rfl, bel.frame _, fun h => by cases h⟩
theorem over : Rows.strandAsksRow.holds Try.pinned (OpenSpec.ofChange Rows.strandAsksSpec) :=
  OpenClaim.holds_of_wide 11 Try.f11 rfl rfl rfl rfl rfl rfl rfl ⟨rfl, rfl, rfl, rfl, rfl⟩ rfl rfl rfl rfl rfl (by kernel_rfl) Try.func11 (by kernel_rfl)
    (of_decide_eq_true (by kernel_rfl)) (by unfold Func.isWrapper; first | (rw [if_pos (by decide +kernel)]; kernel_rfl) | (rw [if_neg (by decide +kernel)]; exact ⟨rfl, rfl⟩))
    (fun os started H enc _ => lifted os started H enc)
/-- The statement. -/
theorem proved : Rows.StrandAsksSaid := over
end Go.Proofs.Ytggohojgmlchbaa.strandAsks
