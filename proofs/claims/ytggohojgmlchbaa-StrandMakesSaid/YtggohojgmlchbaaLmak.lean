/- The statement that the bits of a number, the number of a string, its clean bits and the string with the other bit at a place are what the document says holds: for every number, width and string the law answers true. No conditions. -/
import Derived.Test.YtggohojgmlchbaaRows
import Derived.Test.YtggohojgmlchbaaRfa
import Derived.WalkKit
import Derived.ProofKit
import Derived.OpenShut
import Derived.ShutString
import Derived.ChangeOld
import Derived.Below
namespace Go.Proofs.Ytggohojgmlchbaa.strandMakes
open Go.ChangeShapes Go.WideShapes Go.ChangeAt Go.RowKit
theorem own : ownKnob Try.prog.godebug = none := by kernel_rfl
theorem laidOut : laidOutB Try.prog = true := by kernel_rfl
set_option maxHeartbeats 1000000 in
theorem walk (a0 a1 : Int) (a2 : Option Addr) (len2 cap2 : Nat) (z2 : List Int) (w : World) (w0 : (Lit.int .u64 a0).wf = true) (_w1 : (Lit.int .i64 a1).wf = true) (w2 : IsRow w a2 len2 cap2 z2) :
    Calls Try.prog 9 #[.int .u64 a0, .int .i64 a1, .slice a2 len2 cap2] w fun e w' => e = .returned (.bool true) ∧ Below w.heap.size w w' := by
  have h0 := wfu64 w0
  obtain ⟨bs0, hby, hI⟩ := isRow_str w2
  clear w0 w2
  obtain ⟨n, rfl⟩ : ∃ n : Nat, a0 = n := ⟨a0.toNat, by omega⟩
  have hn64 : n < 18446744073709551616 := by omega
  have cf := few_any a2 len2 cap2 bs0 w hI
  obtain ⟨bs, hbs⟩ : ∃ bs, bs = bs0.take 500 := ⟨_, rfl⟩
  rw [← hbs] at cf
  have hbl : bs.length ≤ 500 := by rw [hbs, List.length_take]; omega
  have CF := Lib.hid cf
  clear cf hI hbs hby h0
  by_cases hm : 1 ≤ a1 ∧ a1 ≤ 64
  · obtain ⟨hm1, hm2⟩ := hm
    obtain ⟨m, rfl⟩ : ∃ m : Nat, a1 = m := ⟨a1.toNat, by omega⟩
    replace hm1 : 1 ≤ m := by omega
    replace hm2 : m ≤ 64 := by omega
    go_enter Try.func9, Try.ntmps9
    go_wp2_with (fail)
    refine CF.out.mono ?_
    rintro e w1 ⟨⟨a', len', cap', rfl, hS⟩, rfl⟩
    have S0 := Lib.hid hS
    clear hS CF
    go_wp2_with (fail)
    refine (live_st _).mono ?_
    rintro e w1 ⟨rfl, hb⟩
    have B1 := Lib.hid hb
    have S1 := Lib.hid (S0.out.on hb)
    clear hb S0
    go_wp2_with (fail)
    refine (of_yes n m hn64 hm1 hm2 _).mono ?_
    rintro e w2 ⟨v, rfl, hm, hb⟩
    have B2 := Lib.hid (below_trans' B1.out hb)
    have S2 := Lib.hid (S1.out.on hb)
    have T2 := Lib.hid hm.str
    obtain ⟨c, rfl, _, _, _⟩ := hm
    clear hb B1 S1
    go_wp2_with (fail)
    refine (refOf_yes n m hn64 hm1 hm2 _).mono ?_
    rintro e w3 ⟨v, rfl, hm, hb⟩
    have B3 := Lib.hid (below_trans' B2.out hb)
    have S3 := Lib.hid (S2.out.on hb)
    have T3 := Lib.hid (T2.out.on hb)
    have U3 := Lib.hid hm.str
    obtain ⟨ao, co, rfl⟩ := hm.shape
    clear hm hb B2 S2 T2
    go_wp2_with (fail)
    refine (bytes_any _ _ _ (ofB n m) _ _ _ (ofB n m) _ T3.out U3.out).mono ?_
    rintro e w4 ⟨he, hb⟩
    have he' : e = .returned (.bool true) := by rw [he, decide_eq_true rfl]
    subst he'
    have B4 := Lib.hid (below_trans' B3.out hb)
    have S4 := Lib.hid (S3.out.on hb)
    clear he hb B3 S3 T3 U3
    go_wp2_with (fail)
    refine (number_any _ _ _ bs (by omega) _ S4.out).mono ?_
    rintro e w5 ⟨rfl, hb⟩
    have B5 := Lib.hid (below_trans' B4.out hb)
    have S5 := Lib.hid (S4.out.on hb)
    clear hb B4 S4
    go_wp2_with (fail)
    refine (refNumber_any _ _ _ bs _ S5.out).mono ?_
    rintro e w6 ⟨rfl, rfl⟩
    obtain ⟨nu, hnu⟩ : ∃ nu, nu = numB (bitsOf bs) := ⟨_, rfl⟩
    rw [← hnu]
    clear hnu
    go_wp2_with (fail)
    refine (clean_any _ _ _ bs (by omega) _ S5.out).mono ?_
    rintro e w7 ⟨v, rfl, hm, hb⟩
    have B7 := Lib.hid (below_trans' B5.out hb)
    have S7 := Lib.hid (S5.out.on hb)
    have T7 := Lib.hid hm.str
    obtain ⟨c, rfl, _, _, _⟩ := hm
    clear hb B5 S5
    go_wp2_with (fail)
    refine (refClean_any _ _ _ bs (by omega) _ S7.out).mono ?_
    rintro e w8 ⟨v, rfl, hm, hb⟩
    have B8 := Lib.hid (below_trans' B7.out hb)
    have S8 := Lib.hid (S7.out.on hb)
    have T8 := Lib.hid (T7.out.on hb)
    have U8 := Lib.hid hm.str
    obtain ⟨ao1, co1, rfl⟩ := hm.shape
    clear hm hb B7 S7 T7
    go_wp2_with (fail)
    refine (bytes_any _ _ _ (bitsOf bs) _ _ _ (bitsOf bs) _ T8.out U8.out).mono ?_
    rintro e w9 ⟨he, hb⟩
    have he' : e = .returned (.bool true) := by rw [he, decide_eq_true rfl]
    subst he'
    have B9 := Lib.hid (below_trans' B8.out hb)
    have S9 := Lib.hid (S8.out.on hb)
    clear he hb B8 S8 T8 U8
    go_wp2_with (fail)
    refine (flip_any _ _ _ bs (m : Int) (by omega) _ S9.out).mono ?_
    rintro e w10 ⟨v, rfl, hm, hb⟩
    have B10 := Lib.hid (below_trans' B9.out hb)
    have S10 := Lib.hid (S9.out.on hb)
    have T10 := Lib.hid hm.str
    obtain ⟨c, rfl, _, _, _⟩ := hm
    clear hb B9 S9
    go_wp2_with (fail)
    refine (refFlip_any _ _ _ bs (m : Int) (by omega) _ S10.out).mono ?_
    rintro e w11 ⟨v, rfl, hm, hb⟩
    have B11 := Lib.hid (below_trans' B10.out hb)
    have T11 := Lib.hid (T10.out.on hb)
    have U11 := Lib.hid hm.str
    obtain ⟨ao2, co2, rfl⟩ := hm.shape
    clear hm hb B10 S10 T10
    go_wp2_with (fail)
    refine (bytes_any _ _ _ (flipB bs (m : Int)) _ _ _ (flipB bs (m : Int)) _ T11.out U11.out).mono ?_
    rintro e w12 ⟨he, hb⟩
    have he' : e = .returned (.bool true) := by rw [he, decide_eq_true rfl]
    subst he'
    have B12 := Lib.hid (below_trans' B11.out hb)
    clear he hb B11 T11 U11
    go_wp2_with (fail)
    go_ret
    exact ⟨rfl, B12.out⟩
  · have hm1 : a1 < 1 ∨ 64 < a1 := by omega
    clear hm
    go_enter Try.func9, Try.ntmps9
    go_wp2_with (fail)
    refine CF.out.mono ?_
    rintro e w1 ⟨⟨a', len', cap', rfl, hS⟩, rfl⟩
    have S0 := Lib.hid hS
    clear hS CF
    go_wp2_with (fail)
    refine (live_st _).mono ?_
    rintro e w1 ⟨rfl, hb⟩
    have B1 := Lib.hid hb
    have S1 := Lib.hid (S0.out.on hb)
    clear hb S0
    go_wp2_with (fail)
    refine (of_no n a1 hm1 _).mono ?_
    rintro e w2 ⟨rfl, rfl⟩
    go_wp2_with (fail)
    refine (refOf_no n a1 hm1 _).mono ?_
    rintro e w2 ⟨rfl, rfl⟩
    go_wp2_with (fail)
    refine (bytes_any _ _ _ [] _ _ _ [] _ (str_nil _ _) (str_nil _ _)).mono ?_
    rintro e w4 ⟨he, hb⟩
    have he' : e = .returned (.bool true) := by rw [he, decide_eq_true rfl]
    subst he'
    have B4 := Lib.hid (below_trans' B1.out hb)
    have S4 := Lib.hid (S1.out.on hb)
    clear he hb B1 S1
    go_wp2_with (fail)
    refine (number_any _ _ _ bs (by omega) _ S4.out).mono ?_
    rintro e w5 ⟨rfl, hb⟩
    have B5 := Lib.hid (below_trans' B4.out hb)
    have S5 := Lib.hid (S4.out.on hb)
    clear hb B4 S4
    go_wp2_with (fail)
    refine (refNumber_any _ _ _ bs _ S5.out).mono ?_
    rintro e w6 ⟨rfl, rfl⟩
    obtain ⟨nu, hnu⟩ : ∃ nu, nu = numB (bitsOf bs) := ⟨_, rfl⟩
    rw [← hnu]
    clear hnu
    go_wp2_with (fail)
    refine (clean_any _ _ _ bs (by omega) _ S5.out).mono ?_
    rintro e w7 ⟨v, rfl, hm, hb⟩
    have B7 := Lib.hid (below_trans' B5.out hb)
    have S7 := Lib.hid (S5.out.on hb)
    have T7 := Lib.hid hm.str
    obtain ⟨c, rfl, _, _, _⟩ := hm
    clear hb B5 S5
    go_wp2_with (fail)
    refine (refClean_any _ _ _ bs (by omega) _ S7.out).mono ?_
    rintro e w8 ⟨v, rfl, hm, hb⟩
    have B8 := Lib.hid (below_trans' B7.out hb)
    have S8 := Lib.hid (S7.out.on hb)
    have T8 := Lib.hid (T7.out.on hb)
    have U8 := Lib.hid hm.str
    obtain ⟨ao1, co1, rfl⟩ := hm.shape
    clear hm hb B7 S7 T7
    go_wp2_with (fail)
    refine (bytes_any _ _ _ (bitsOf bs) _ _ _ (bitsOf bs) _ T8.out U8.out).mono ?_
    rintro e w9 ⟨he, hb⟩
    have he' : e = .returned (.bool true) := by rw [he, decide_eq_true rfl]
    subst he'
    have B9 := Lib.hid (below_trans' B8.out hb)
    have S9 := Lib.hid (S8.out.on hb)
    clear he hb B8 S8 T8 U8
    go_wp2_with (fail)
    refine (flip_any _ _ _ bs a1 (by omega) _ S9.out).mono ?_
    rintro e w10 ⟨v, rfl, hm, hb⟩
    have B10 := Lib.hid (below_trans' B9.out hb)
    have S10 := Lib.hid (S9.out.on hb)
    have T10 := Lib.hid hm.str
    obtain ⟨c, rfl, _, _, _⟩ := hm
    clear hb B9 S9
    go_wp2_with (fail)
    refine (refFlip_any _ _ _ bs a1 (by omega) _ S10.out).mono ?_
    rintro e w11 ⟨v, rfl, hm, hb⟩
    have B11 := Lib.hid (below_trans' B10.out hb)
    have T11 := Lib.hid (T10.out.on hb)
    have U11 := Lib.hid hm.str
    obtain ⟨ao2, co2, rfl⟩ := hm.shape
    clear hm hb B10 S10 T10
    go_wp2_with (fail)
    refine (bytes_any _ _ _ (flipB bs a1) _ _ _ (flipB bs a1) _ T11.out U11.out).mono ?_
    rintro e w12 ⟨he, hb⟩
    have he' : e = .returned (.bool true) := by rw [he, decide_eq_true rfl]
    subst he'
    have B12 := Lib.hid (below_trans' B11.out hb)
    clear he hb B11 T11 U11
    go_wp2_with (fail)
    go_ret
    exact ⟨rfl, B12.out⟩
set_option maxRecDepth 100000 in
theorem lifted (os : Os) (started : os.Started) (H : Type) (enc : TypeId × Value → H) :
    ReturnsInHanded {} Try.checked os 9 .any (Rows.strandMakesSpec.pre6 enc Try.prog Try.f9 Rows.strandMakesRow.domain false) (Rows.strandMakesSpec.post enc Try.prog Try.f9 false true false false) := by
  refine returnsInHanded_of_change (C := Try.checked) own started (by kernel_rfl) Try.func9
    (ChangeSpec.witness6 (enc := enc) (C := Try.checked) false ⟨#[], #[.int .u64 0, .int .i64 0, .slice none 0 0], []⟩ 8 (by kernel_rfl) (by kernel_rfl) (by kernel_rfl) (by kernel_rfl)) ?_
  intro W base args ds gs before hval0 hW _ _
  have hval : ∀ (j : Nat) t v, Try.f9.params[j]? = some t → args[j]? = some v → Value.okWide Try.prog W .any base t v := hval0
  have hW' := hW
  obtain ⟨p, q, hA0, hV, rfl, hfz, hnd⟩ := hW
  have hA : DataW.TrodAll enc Try.prog W 0 (fun _ => true) true Try.f9.params.toList args.toList ds p := hA0
  rw [Try.params9] at hA hval
  obtain ⟨v0, vs0, d0, ds0, p0, q0, hargs, rfl, rfl, h0, r0⟩ := trodAll_cons hA
  obtain ⟨v1, vs1, d1, ds1, p1, q1, rfl, rfl, rfl, h1, r1⟩ := trodAll_cons r0
  obtain ⟨v2, vs2, d2, ds2, p2, q2, rfl, rfl, rfl, h2, r2⟩ := trodAll_cons r1
  obtain ⟨rfl, rfl, rfl⟩ := trodAll_nil r2
  obtain rfl : args = #[v0, v1, v2] := by cases args; simp_all
  obtain ⟨rfl, rfl⟩ := trodVars_none hV
  obtain ⟨a0, rfl, rfl, rfl, w0⟩ := open_int Try.underlying29 (hval 0 29 v0 rfl rfl) h0
  obtain ⟨a1, rfl, rfl, rfl, w1⟩ := open_int Try.underlying3 (hval 1 3 v1 rfl rfl) h1
  obtain ⟨a2, len2, cap2, rfl⟩ := okWide_slice Try.underlying30 (hval 2 30 v2 rfl rfl)
  have k2 := h2
  have lt2 : ∀ x ∈ p2, x.block < W.heap.size := by obtain ⟨m, hm⟩ := k2; exact DataW.trod_lt m _ _ _ hm
  obtain ⟨z2, w2⟩ : ∃ zs, IsRow W a2 len2 cap2 zs := by
    obtain ⟨fuel, hf⟩ := h2
    rcases open_ints Try.underlying30 Try.underlying5 (by kernel_rfl) hf with ⟨hcs, _⟩ | ⟨x, l, c, zs, hcs, _, hl, hm, hz, _, hcell, hwz⟩
    · simp [Value.cells] at hcs
      obtain ⟨rfl, rfl, rfl⟩ := hcs
      exact ⟨[], .inl ⟨rfl, rfl, rfl, rfl⟩⟩
    · simp [Value.cells] at hcs
      obtain ⟨rfl, rfl, rfl⟩ := hcs
      exact ⟨zs, .inr ⟨_, rfl, hl, hm, by simpa using hz, hcell, hwz⟩⟩
  clear hA0 hval0
  refine (walk a0 a1 a2 len2 cap2 z2 W w0 w1 w2).mono fun e W' ⟨he, bel⟩ => ?_
  subst he
  exact ⟨_, rfl, _, _, _, [], _, [], hW', trodAll_mk1 (shut_bool Try.underlying4 _), (trodAll_cons_mk (shut_int Try.underlying29 w0) (trodAll_cons_mk (shut_int Try.underlying3 w1) (trodAll_cons_mk (Below.trod laidOut (by kernel_rfl) (of_decide_eq_true (by kernel_rfl)) k2 bel lt2) trodAll_mk0))), rfl, bel.frame _, fun h => by cases h⟩
theorem over : Rows.strandMakesRow.holds Try.pinned (OpenSpec.ofChange Rows.strandMakesSpec) :=
  OpenClaim.holds_of_wide 9 Try.f9 rfl rfl rfl rfl rfl rfl rfl ⟨rfl, rfl, rfl, rfl, rfl⟩ rfl rfl rfl rfl rfl (by kernel_rfl) Try.func9 (by kernel_rfl)
    (of_decide_eq_true (by kernel_rfl)) (by unfold Func.isWrapper; first | (rw [if_pos (by decide +kernel)]; kernel_rfl) | (rw [if_neg (by decide +kernel)]; exact ⟨rfl, rfl⟩))
    (fun os started H enc _ => lifted os started H enc)
/-- The statement. -/
theorem proved : Rows.StrandMakesSaid := over
end Go.Proofs.Ytggohojgmlchbaa.strandMakes
