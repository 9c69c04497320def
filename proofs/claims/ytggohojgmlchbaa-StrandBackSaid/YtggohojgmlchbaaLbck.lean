/- The statement that the bits of a number are the number, a packed string is unpacked as it was, and a flip twice is none holds: for every number, width and string the law answers true. No conditions. -/
import Derived.Test.YtggohojgmlchbaaRows
import Derived.Test.YtggohojgmlchbaaLaw
import Derived.WalkKit
import Derived.ProofKit
import Derived.OpenShut
import Derived.ShutString
import Derived.ChangeOld
import Derived.Below
namespace Go.Proofs.Ytggohojgmlchbaa.strandBack
open Go.ChangeShapes Go.WideShapes Go.ChangeAt Go.RowKit
theorem own : ownKnob Try.prog.godebug = none := by kernel_rfl
theorem laidOut : laidOutB Try.prog = true := by kernel_rfl
theorem wn' (a : Nat) (ha : a < 2 ^ 64) : IntKind.u64.wrap (a : Int) = (a : Int) := by rw [IntKind.wrap_u64]; omega
theorem mask_pow (a w : Nat) (ha : a < 18446744073709551616) (hw : w < 64) : bits .and .u64 (a : Int) ((2 ^ w - 1 : Nat) : Int) = ((a % 2 ^ w : Nat) : Int) := by
  have hp : 2 ^ w < 2 ^ 64 := Nat.pow_lt_pow_right (by omega) hw
  have h := bits_and_u64_nat a (2 ^ w - 1) ha (by omega)
  rw [Nat.and_two_pow_sub_one_eq_mod] at h
  exact h
set_option maxHeartbeats 1000000 in
theorem walk (a0 a1 : Int) (a2 : Option Addr) (len2 cap2 : Nat) (z2 : List Int) (w : World) (w0 : (Lit.int .u64 a0).wf = true) (w1 : (Lit.int .u8 a1).wf = true) (w2 : IsRow w a2 len2 cap2 z2) :
    Calls Try.prog 12 #[.int .u64 a0, .int .u8 a1, .slice a2 len2 cap2] w fun e w' => e = .returned (.bool true) ∧ Below w.heap.size w w' := by
  have h0 := wfu64 w0
  have h1 := wfu8 w1
  obtain ⟨bs0, hby, hI⟩ := isRow_str w2
  clear w0 w1 w2
  obtain ⟨n, rfl⟩ : ∃ n : Nat, a0 = n := ⟨a0.toNat, by omega⟩
  obtain ⟨k, rfl⟩ : ∃ k : Nat, a1 = k := ⟨a1.toNat, by omega⟩
  have cf := few_any a2 len2 cap2 bs0 w hI
  obtain ⟨bs, hbs⟩ : ∃ bs, bs = bs0.take 500 := ⟨_, rfl⟩
  rw [← hbs] at cf
  have hbl : bs.length ≤ 500 := by rw [hbs, List.length_take]; omega
  obtain ⟨W, hW⟩ : ∃ W, W = k % 64 + 1 := ⟨_, rfl⟩
  have CF := Lib.hid cf
  clear cf hI hbs hby
  have eW : (k : Int) % 64 + 1 = (W : Int) := by omega
  have hW1 : 1 ≤ W := by omega
  have hW2 : W ≤ 64 := by omega
  clear hW
  have hn64 : n < 18446744073709551616 := by omega
  obtain ⟨lo, hlo⟩ : ∃ lo, lo = n % 2 ^ W := ⟨_, rfl⟩
  have HLO := Lib.hid hlo
  by_cases hw : W < 64
  · have hp : 2 ^ W < 2 ^ 64 := Nat.pow_lt_pow_right (by omega) hw
    have hp0 : 0 < 2 ^ W := Nat.two_pow_pos W
    have el : bits .and .u64 (n : Int) (IntKind.u64.wrap (IntKind.u64.wrap (2 ^ W) - 1)) = (lo : Int) := by
      rw [show ((2 : Int) ^ W) = ((2 ^ W : Nat) : Int) by simp, wn' _ hp, show ((2 ^ W : Nat) : Int) - 1 = ((2 ^ W - 1 : Nat) : Int) by omega, wn' _ (by omega), mask_pow n W hn64 hw, hlo]
    clear hp hp0 hlo
    go_enter Try.func12, Try.ntmps12
    go_wp2_with (fail)
    refine CF.out.mono ?_
    rintro e w1 ⟨⟨a', len', cap', rfl, hS⟩, rfl⟩
    have hlen := hS.len
    have HS := Lib.hid hS; have HLEN := Lib.hid hlen
    clear hS hlen
    go_wp2_with (fail)
    refine (live_st _).mono ?_
    rintro e w1 ⟨rfl, hb⟩
    have B1 := Lib.hid hb
    have S1 := Lib.hid (HS.out.on hb)
    clear hb HS
    go_wp2_with (fail)
    refine (of_yes n W hn64 hW1 hW2 _).mono ?_
    rintro e w2 ⟨v, rfl, hm, hb⟩
    have B2 := Lib.hid (below_trans' B1.out hb)
    have S2 := Lib.hid (S1.out.on hb)
    have T2 := Lib.hid hm.str
    obtain ⟨c, rfl, _, _, _⟩ := hm
    clear hb B1 S1
    go_wp2_with (fail)
    refine (number_any _ _ _ (ofB n W) (by rw [ofB_length]; omega) _ T2.out).mono ?_
    rintro e w3 ⟨he, hb⟩
    have he' : e = .returned (.int .u64 (lo : Nat)) := by rw [he, bitsOf_ofB, numB_ofB _ _ hW2, HLO.out]
    subst he'
    have B3 := Lib.hid (below_trans' B2.out hb)
    have S3 := Lib.hid (S2.out.on hb)
    clear he hb B2 S2 T2
    go_wp2_with (fail)
    refine (pack_any _ _ _ bs (by omega) _ S3.out).mono ?_
    rintro e w4 ⟨v, rfl, hm, hb⟩
    have B4 := Lib.hid (below_trans' B3.out hb)
    have S4 := Lib.hid (S3.out.on hb)
    have T4 := Lib.hid hm.str
    obtain ⟨c4, rfl, _, _, _⟩ := hm
    clear hb B3 S3
    go_wp2_with (fail)
    refine (unpack_yes _ _ _ (packB bs) len' (by rw [packB_length]; omega) (by rw [packB_length, HLEN.out]; omega) (packB_byte bs) _ T4.out).mono ?_
    rintro e w5 ⟨v, rfl, hm, hb⟩
    have B5 := Lib.hid (below_trans' B4.out hb)
    have S5 := Lib.hid (S4.out.on hb)
    have T5 := Lib.hid hm.str
    obtain ⟨c5, rfl, _, _, _⟩ := hm
    clear hb B4 S4 T4
    go_wp2_with (fail)
    refine (same_any _ _ _ (unpB (packB bs) len') _ _ _ bs (by rw [unpB_length, HLEN.out]; omega) _ T5.out S5.out).mono ?_
    rintro e w6 ⟨he, hb⟩
    have he' : e = .returned (.bool true) := by rw [he, HLEN.out, unp_pack, same_clean]
    subst he'
    have B6 := Lib.hid (below_trans' B5.out hb)
    have S6 := Lib.hid (S5.out.on hb)
    clear he hb B5 S5 T5
    go_wp2_with (fail)
    refine (flip_any _ _ _ bs (k : Int) (by omega) _ S6.out).mono ?_
    rintro e w7 ⟨v, rfl, hm, hb⟩
    have B7 := Lib.hid (below_trans' B6.out hb)
    have S7 := Lib.hid (S6.out.on hb)
    have T7 := Lib.hid hm.str
    obtain ⟨c7, rfl, _, _, _⟩ := hm
    clear hb B6 S6
    go_wp2_with (fail)
    refine (flip_any _ _ _ (flipB bs (k : Int)) (k : Int) (by rw [flipB_length]; omega) _ T7.out).mono ?_
    rintro e w8 ⟨v, rfl, hm, hb⟩
    have B8 := Lib.hid (below_trans' B7.out hb)
    have S8 := Lib.hid (S7.out.on hb)
    have T8 := Lib.hid hm.str
    obtain ⟨c8, rfl, _, _, _⟩ := hm
    clear hb B7 S7 T7
    go_wp2_with (fail)
    refine (same_any _ _ _ (flipB (flipB bs (k : Int)) (k : Int)) _ _ _ bs (by rw [flipB_length, flipB_length]; omega) _ T8.out S8.out).mono ?_
    rintro e w9 ⟨he, hb⟩
    have he' : e = .returned (.bool true) := by rw [he, same_flips]
    subst he'
    have B9 := Lib.hid (below_trans' B8.out hb)
    clear he hb B8 S8 T8
    go_wp2_with (fail)
    go_ret
    exact ⟨rfl, B9.out⟩
  · have hlo2 : lo = n := by
      rw [hlo, show W = 64 by omega]
      exact Nat.mod_eq_of_lt hn64
    clear hlo
    obtain rfl : n = lo := hlo2.symm
    clear hlo2
    go_enter Try.func12, Try.ntmps12
    go_wp2_with (fail)
    refine CF.out.mono ?_
    rintro e w1 ⟨⟨a', len', cap', rfl, hS⟩, rfl⟩
    have hlen := hS.len
    have HS := Lib.hid hS; have HLEN := Lib.hid hlen
    clear hS hlen
    go_wp2_with (fail)
    refine (live_st _).mono ?_
    rintro e w1 ⟨rfl, hb⟩
    have B1 := Lib.hid hb
    have S1 := Lib.hid (HS.out.on hb)
    clear hb HS
    go_wp2_with (fail)
    refine (of_yes n W hn64 hW1 hW2 _).mono ?_
    rintro e w2 ⟨v, rfl, hm, hb⟩
    have B2 := Lib.hid (below_trans' B1.out hb)
    have S2 := Lib.hid (S1.out.on hb)
    have T2 := Lib.hid hm.str
    obtain ⟨c, rfl, _, _, _⟩ := hm
    clear hb B1 S1
    go_wp2_with (fail)
    refine (number_any _ _ _ (ofB n W) (by rw [ofB_length]; omega) _ T2.out).mono ?_
    rintro e w3 ⟨he, hb⟩
    have he' : e = .returned (.int .u64 (n : Nat)) := by rw [he, bitsOf_ofB, numB_ofB _ _ hW2, ← HLO.out]
    subst he'
    have B3 := Lib.hid (below_trans' B2.out hb)
    have S3 := Lib.hid (S2.out.on hb)
    clear he hb B2 S2 T2
    go_wp2_with (fail)
    refine (pack_any _ _ _ bs (by omega) _ S3.out).mono ?_
    rintro e w4 ⟨v, rfl, hm, hb⟩
    have B4 := Lib.hid (below_trans' B3.out hb)
    have S4 := Lib.hid (S3.out.on hb)
    have T4 := Lib.hid hm.str
    obtain ⟨c4, rfl, _, _, _⟩ := hm
    clear hb B3 S3
    go_wp2_with (fail)
    refine (unpack_yes _ _ _ (packB bs) len' (by rw [packB_length]; omega) (by rw [packB_length, HLEN.out]; omega) (packB_byte bs) _ T4.out).mono ?_
    rintro e w5 ⟨v, rfl, hm, hb⟩
    have B5 := Lib.hid (below_trans' B4.out hb)
    have S5 := Lib.hid (S4.out.on hb)
    have T5 := Lib.hid hm.str
    obtain ⟨c5, rfl, _, _, _⟩ := hm
    clear hb B4 S4 T4
    go_wp2_with (fail)
    refine (same_any _ _ _ (unpB (packB bs) len') _ _ _ bs (by rw [unpB_length, HLEN.out]; omega) _ T5.out S5.out).mono ?_
    rintro e w6 ⟨he, hb⟩
    have he' : e = .returned (.bool true) := by rw [he, HLEN.out, unp_pack, same_clean]
    subst he'
    have B6 := Lib.hid (below_trans' B5.out hb)
    have S6 := Lib.hid (S5.out.on hb)
    clear he hb B5 S5 T5
    go_wp2_with (fail)
    refine (flip_any _ _ _ bs (k : Int) (by omega) _ S6.out).mono ?_
    rintro e w7 ⟨v, rfl, hm, hb⟩
    have B7 := Lib.hid (below_trans' B6.out hb)
    have S7 := Lib.hid (S6.out.on hb)
    have T7 := Lib.hid hm.str
    obtain ⟨c7, rfl, _, _, _⟩ := hm
    clear hb B6 S6
    go_wp2_with (fail)
    refine (flip_any _ _ _ (flipB bs (k : Int)) (k : Int) (by rw [flipB_length]; omega) _ T7.out).mono ?_
    rintro e w8 ⟨v, rfl, hm, hb⟩
    have B8 := Lib.hid (below_trans' B7.out hb)
    have S8 := Lib.hid (S7.out.on hb)
    have T8 := Lib.hid hm.str
    obtain ⟨c8, rfl, _, _, _⟩ := hm
    clear hb B7 S7 T7
    go_wp2_with (fail)
    refine (same_any _ _ _ (flipB (flipB bs (k : Int)) (k : Int)) _ _ _ bs (by rw [flipB_length, flipB_length]; omega) _ T8.out S8.out).mono ?_
    rintro e w9 ⟨he, hb⟩
    have he' : e = .returned (.bool true) := by rw [he, same_flips]
    subst he'
    have B9 := Lib.hid (below_trans' B8.out hb)
    clear he hb B8 S8 T8
    go_wp2_with (fail)
    go_ret
    exact ⟨rfl, B9.out⟩
set_option maxRecDepth 100000 in
theorem lifted (os : Os) (started : os.Started) (H : Type) (enc : TypeId × Value → H) :
    ReturnsInHanded {} Try.checked os 12 .any (Rows.strandBackSpec.pre6 enc Try.prog Try.f12 Rows.strandBackRow.domain false) (Rows.strandBackSpec.post enc Try.prog Try.f12 false true false false) := by
  refine returnsInHanded_of_change (C := Try.checked) own started (by kernel_rfl) Try.func12
    (ChangeSpec.witness6 (enc := enc) (C := Try.checked) false ⟨#[], #[.int .u64 0, .int .u8 0, .slice none 0 0], []⟩ 8 (by kernel_rfl) (by kernel_rfl) (by kernel_rfl) (by kernel_rfl)) ?_
  intro W base args ds gs before hval0 hW _ _
  have hval : ∀ (j : Nat) t v, Try.f12.params[j]? = some t → args[j]? = some v → Value.okWide Try.prog W .any base t v := hval0
  have hW' := hW
  obtain ⟨p, q, hA0, hV, rfl, hfz, hnd⟩ := hW
  have hA : DataW.TrodAll enc Try.prog W 0 (fun _ => true) true Try.f12.params.toList args.toList ds p := hA0
  rw [Try.params12] at hA hval
  obtain ⟨v0, vs0, d0, ds0, p0, q0, hargs, rfl, rfl, h0, r0⟩ := trodAll_cons hA
  obtain ⟨v1, vs1, d1, ds1, p1, q1, rfl, rfl, rfl, h1, r1⟩ := trodAll_cons r0
  obtain ⟨v2, vs2, d2, ds2, p2, q2, rfl, rfl, rfl, h2, r2⟩ := trodAll_cons r1
  obtain ⟨rfl, rfl, rfl⟩ := trodAll_nil r2
  obtain rfl : args = #[v0, v1, v2] := by cases args; simp_all
  obtain ⟨rfl, rfl⟩ := trodVars_none hV
  obtain ⟨a0, rfl, rfl, rfl, w0⟩ := open_int Try.underlying29 (hval 0 29 v0 rfl rfl) h0
  obtain ⟨a1, rfl, rfl, rfl, w1⟩ := open_int Try.underlying5 (hval 1 5 v1 rfl rfl) h1
  obtain ⟨a2, len2, cap2, rfl⟩ := okWide_slice Try.underlying30 (hval 2 30 v2 rfl rfl)
  have k2 := h2
  have lt2 : ∀ x ∈ p2, x.block < W.heap.size := by obtain ⟨m, hm⟩ := k2; exact DataW.trod_lt m _ _ _ hm
  obtain ⟨z2, w2⟩ : ∃ zs, IsRow W a2 len2 cap2 zs := by
    obtain ⟨fuel, hf⟩ := h2
    rcases open_ints Try.underlying30 Try.underlying5 (by kernel_rfl) hf with ⟨hcs, _⟩ | ⟨x, l, c, zs, hcs, _, hl, hm, hz, _, hcell, hwz⟩
    · simp [Value.cells] at hcs
      obtain ⟨rfl, rfl, rfl⟩ := hcs
      exact ⟨[], .inl ⟨rfl, rfl, rfl, rfl⟩⟩
    · simp [Value.cells] at hcs
      obtain ⟨rfl, rfl, rfl⟩ := hcs
      exact ⟨zs, .inr ⟨_, rfl, hl, hm, by simpa using hz, hcell, hwz⟩⟩
  clear hA0 hval0
  refine (walk a0 a1 a2 len2 cap2 z2 W w0 w1 w2).mono fun e W' ⟨he, bel⟩ => ?_
  subst he
  exact ⟨_, rfl, _, _, _, [], _, [], hW', trodAll_mk1 (shut_bool Try.underlying4 _), (trodAll_cons_mk (shut_int Try.underlying29 w0) (trodAll_cons_mk (shut_int Try.underlying5 w1) (trodAll_cons_mk (Below.trod laidOut (by kernel_rfl) (of_decide_eq_true (by kernel_rfl)) k2 bel lt2) trodAll_mk0))), rfl, bel.frame _, fun h => by cases h⟩
theorem over : Rows.strandBackRow.holds Try.pinned (OpenSpec.ofChange Rows.strandBackSpec) :=
  OpenClaim.holds_of_wide 12 Try.f12 rfl rfl rfl rfl rfl rfl rfl ⟨rfl, rfl, rfl, rfl, rfl⟩ rfl rfl rfl rfl rfl (by kernel_rfl) Try.func12 (by kernel_rfl)
    (of_decide_eq_true (by kernel_rfl)) (by unfold Func.isWrapper; first | (rw [if_pos (by decide +kernel)]; kernel_rfl) | (rw [if_neg (by decide +kernel)]; exact ⟨rfl, rfl⟩))
    (fun os started H enc _ => lifted os started H enc)
/-- The statement. -/
theorem proved : Rows.StrandBackSaid := over
end Go.Proofs.Ytggohojgmlchbaa.strandBack
