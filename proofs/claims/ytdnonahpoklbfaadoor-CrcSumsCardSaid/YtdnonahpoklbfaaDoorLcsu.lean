/- The statement of P3.1, P3.2 (CrcSums): sums, one bit further, their bits, and strings with them, as the document says. Conditions: the divisor's cells hold what the program's own text lays in them (tied). -/
import Derived.Test.YtdnonahpoklbfaaDoorRows
import Derived.Test.YtdnonahpoklbfaaDoorCrl
import Derived.Test.YtdnonahpoklbfaaDoorCrt
import Derived.WalkKit
import Derived.ProofKit
import Derived.OpenShut
import Derived.ShutString
import Derived.ChangeOld
import Derived.Below
namespace Go.Proofs.YtdnonahpoklbfaaDoor.crcSums
open Go.ChangeShapes Go.WideShapes Go.ChangeAt Go.RowKit
theorem own : ownKnob Tryd.prog.godebug = none := by kernel_rfl
theorem laidOut : laidOutB Tryd.prog = true := by kernel_rfl
theorem wfu16 {a : Int} (h : (Lit.int .u16 a).wf = true) : 0 ≤ a ∧ a ≤ 65535 := by
  simp [Lit.wf, IntKind.min, IntKind.max, IntKind.bits, IntKind.signed] at h
  omega
set_option maxHeartbeats 1000000 in
theorem walk (a0 a1 : Int) (a2 : Option Addr) (len2 cap2 : Nat) (z2 : List Int) (w : World) (w0 : (Lit.int .u16 a0).wf = true) (w1 : (Lit.int .u8 a1).wf = true) (w2 : IsRow w a2 len2 cap2 z2) (h0 : 0 < w.heap.size) (hT : Tab w) :
    Calls Tryd.prog 3 #[.int .u16 a0, .int .u8 a1, .slice a2 len2 cap2] w fun e w' => e = .returned (.bool true) ∧ Below w.heap.size w w' := by
  have h16 := wfu16 w0
  have h8 := wfu8 w1
  obtain ⟨sm, rfl⟩ : ∃ sm : Nat, a0 = sm := ⟨a0.toNat, by omega⟩
  obtain ⟨x, rfl⟩ : ∃ x : Nat, a1 = x := ⟨a1.toNat, by omega⟩
  have hsm : sm < 65536 := by omega
  obtain ⟨bs0, _, hI⟩ := isRow_str w2
  clear w0 w1 w2 h16 h8
  have HT := Lib.hid hT
  have CF := Lib.hid (few3_any a2 len2 cap2 bs0 w hI)
  obtain ⟨xs, hxs⟩ : ∃ xs, xs = bs0.take 200 := ⟨_, rfl⟩
  rw [← hxs] at CF
  have hxl : xs.length ≤ 200 := by rw [hxs, List.length_take]; omega
  clear hxs hI hT
  obtain ⟨st, hst⟩ : ∃ st, st = crcStep (sm % 32768) (bitN x) := ⟨_, rfl⟩
  obtain ⟨su, hsu⟩ : ∃ su, su = crcOf (bitsOf xs) 0 := ⟨_, rfl⟩
  obtain ⟨se, hse⟩ : ∃ se, se = bitsOf xs ++ ofB (crcOf (bitsOf xs) 0) 15 := ⟨_, rfl⟩
  obtain ⟨wh, hwh⟩ : ∃ wh, wh = wholeB xs := ⟨_, rfl⟩
  have hw64 : IntKind.u64.wrap (sm : Int) = (sm : Int) := by rw [IntKind.wrap_u64]; omega
  have HST := Lib.hid hst; have HSU := Lib.hid hsu; have HSE := Lib.hid hse; have HWH := Lib.hid hwh
  clear hst hsu hse hwh
  go_enter Tryd.func3, Tryd.ntmps3
  go_wp2_with (fail)
  refine CF.out.mono ?_
  rintro e w1 ⟨⟨a', len', cap', rfl, hS⟩, rfl⟩
  obtain rfl := hS.len
  have S0 := Lib.hid hS
  clear hS CF
  go_wp2_with (fail)
  refine (live3 _ h0 HT.out).mono ?_
  rintro e w3 ⟨rfl, hb⟩
  have S3 := Lib.hid (S0.out.on hb)
  have B3 := Lib.hid hb
  clear hb S0
  go_wp2_with (fail)
  refine (step_any sm x hsm _ (Nat.lt_of_lt_of_le h0 B3.out.size) (HT.out.onB B3.out h0)).mono ?_
  rintro e w4 ⟨he, hb⟩
  rw [← HST.out] at he
  subst he
  have S4 := Lib.hid (S3.out.on hb)
  have B4 := Lib.hid (below_trans' B3.out hb)
  clear hb S3 B3
  go_wp2_with (fail)
  refine (refStep_any sm x hsm _).mono ?_
  rintro e w5 ⟨he, rfl⟩
  rw [← HST.out] at he
  subst he
  go_wp2_with (fail)
  refine (sum_any _ _ _ xs _ (Nat.lt_of_lt_of_le h0 B4.out.size) (HT.out.onB B4.out h0) S4.out).mono ?_
  rintro e w6 ⟨he, hb⟩
  rw [← HSU.out] at he
  subst he
  have S6 := Lib.hid (S4.out.on hb)
  have B6 := Lib.hid (below_trans' B4.out hb)
  clear hb S4 B4
  go_wp2_with (fail)
  refine (refSum_any _ _ _ xs _ S6.out).mono ?_
  rintro e w7 ⟨he, rfl⟩
  rw [← HSU.out] at he
  subst he
  go_wp2_with (fail)
  refine (bits_any sm hsm _).mono ?_
  rintro e w8 ⟨v, rfl, hm, hb⟩
  have S8 := Lib.hid (S6.out.on hb)
  have B8 := Lib.hid (below_trans' B6.out hb)
  have P8 := hm.str
  obtain ⟨g8, rfl, _⟩ := hm
  rw [ofB_length] at P8 ⊢
  have P8 := Lib.hid P8
  clear hb S6 B6
  go_wp2_with (fail)
  refine (refOf_yes sm 15 (by omega) (by omega) (by omega) _).mono ?_
  rintro e w9 ⟨v, rfl, ho, hb⟩
  have S9 := Lib.hid (S8.out.on hb)
  have B9 := Lib.hid (below_trans' B8.out hb)
  have P9 := Lib.hid (P8.out.on hb)
  have Q9 := ho.str
  obtain ⟨a9, c9, rfl⟩ := ho.shape
  rw [ofB_length] at Q9 ⊢
  have Q9 := Lib.hid Q9
  clear hb ho S8 B8 P8
  go_wp2_with (fail)
  refine (bytes_any _ _ _ (ofB sm 15) _ _ _ (ofB sm 15) _ P9.out Q9.out).mono ?_
  rintro e w10 ⟨he, hb⟩
  have he' : e = .returned (.bool true) := by rw [he, decide_eq_true rfl]
  subst he'
  have S10 := Lib.hid (S9.out.on hb)
  have B10 := Lib.hid (below_trans' B9.out hb)
  clear he hb S9 B9 P9 Q9
  go_wp2_with (fail)
  refine (seal_any _ _ _ xs (by omega) _ (Nat.lt_of_lt_of_le h0 B10.out.size) (HT.out.onB B10.out h0) S10.out).mono ?_
  rintro e w11 ⟨v, rfl, ho, hb⟩
  rw [← HSE.out] at ho
  obtain ⟨a11, c11, rfl⟩ := ho.shape
  have P11 := Lib.hid ho.str
  have S11 := Lib.hid (S10.out.on hb)
  have B11 := Lib.hid (below_trans' B10.out hb)
  clear hb ho S10 B10
  go_wp2_with (fail)
  refine (refSeal_any _ _ _ xs (by omega) _ S11.out).mono ?_
  rintro e w12 ⟨v, rfl, ho, hb⟩
  rw [← HSE.out] at ho
  obtain ⟨a12, c12, rfl⟩ := ho.shape
  have Q12 := Lib.hid ho.str
  have P12 := Lib.hid (P11.out.on hb)
  have S12 := Lib.hid (S11.out.on hb)
  have B12 := Lib.hid (below_trans' B11.out hb)
  clear hb ho S11 B11 P11
  go_wp2_with (fail)
  refine (bytes_any _ _ _ se _ _ _ se _ P12.out Q12.out).mono ?_
  rintro e w13 ⟨he, hb⟩
  have he' : e = .returned (.bool true) := by rw [he, decide_eq_true rfl]
  subst he'
  have S13 := Lib.hid (S12.out.on hb)
  have B13 := Lib.hid (below_trans' B12.out hb)
  clear he hb S12 B12 P12 Q12
  go_wp2_with (fail)
  refine (whole_any _ _ _ xs (by omega) _ (Nat.lt_of_lt_of_le h0 B13.out.size) (HT.out.onB B13.out h0) S13.out).mono ?_
  rintro e w14 ⟨he, hb⟩
  rw [← HWH.out] at he
  subst he
  have S14 := Lib.hid (S13.out.on hb)
  have B14 := Lib.hid (below_trans' B13.out hb)
  clear hb S13 B13
  go_wp2_with (fail)
  refine (refWhole_any _ _ _ xs _ S14.out).mono ?_
  rintro e w15 ⟨he, hb⟩
  have he' : e = .returned (.bool wh) := by rw [he, HWH.out]; rfl
  subst he'
  have B15 := Lib.hid (below_trans' B14.out hb)
  clear he hb S14 B14
  go_wp2_with (fail)
  go_ret
  exact ⟨by simp, B15.out⟩
theorem door_met (os : Os) (args : Array Value) : laidMetH Tryd.prog laidD ((World.doorLaid Tryd.prog 400 os).forCall (fun _ _ => 0) ⟨#[], args, []⟩).memory :=
  laidMetH_of_parts3 (fuel := 8) (laidMet_of_run' 8 (by kernel_rfl) (by kernel_rfl)) (by kernel_rfl) (by kernel_rfl)
set_option maxRecDepth 100000 in
theorem lifted (os : Os) (started : os.Started) (H : Type) (enc : TypeId × Value → H) :
    ReturnsInHanded {} Tryd.checked os 3 .any (fun w args => (Rows.crcSumsSpec.pre enc Tryd.prog Tryd.f3 [] false w args ∧ laidMetH Tryd.prog laidD w) ∧ sizedMet enc Tryd.prog Tryd.f3 (OpenSpec.ofChange Rows.crcSumsSpec) false w args)
      (Rows.crcSumsSpec.post enc Tryd.prog Tryd.f3 false true false false) := by
  refine returnsInHanded_of_change_and (C := Tryd.checked) (X := fun w _ => laidMetH Tryd.prog laidD w) (fun _ _ _ hh h => h.of_heap hh) own started (by kernel_rfl) Tryd.func3
    (ChangeSpec.witness_shaped (enc := enc) (C := Tryd.checked) (os := os) (X := fun w _ => laidMetH Tryd.prog laidD w) false (World.doorLaid Tryd.prog 400 os) #[.int .u16 0, .int .u8 0, .slice none 0 0] 8 rfl (World.shaped_of_RefB (by kernel_rfl) (by kernel_rfl)) (by kernel_rfl) (by kernel_rfl) (by kernel_rfl) (door_met os _)) ?_
  intro W base args ds gs before hval0 hW _ _ hL _
  have hval : ∀ (j : Nat) t v, Tryd.f3.params[j]? = some t → args[j]? = some v → Value.okWide Tryd.prog W .any base t v := hval0
  have hW' := hW
  obtain ⟨p, q, hA0, hV, rfl, hfz, hnd⟩ := hW
  have hA : DataW.TrodAll enc Tryd.prog W 0 (fun _ => true) true Tryd.f3.params.toList args.toList ds p := hA0
  rw [Tryd.params3] at hA hval
  obtain ⟨v0, vs0, d0, ds0, p0, q0, hargs, rfl, rfl, h0, r0⟩ := trodAll_cons hA
  obtain ⟨v1, vs1, d1, ds1, p1, q1, rfl, rfl, rfl, h1, r1⟩ := trodAll_cons r0
  obtain ⟨v2, vs2, d2, ds2, p2, q2, rfl, rfl, rfl, h2, r2⟩ := trodAll_cons r1
  obtain ⟨rfl, rfl, rfl⟩ := trodAll_nil r2
  obtain rfl : args = #[v0, v1, v2] := by cases args; simp_all
  obtain ⟨rfl, rfl⟩ := trodVars_none hV
  obtain ⟨a0, rfl, rfl, rfl, w0⟩ := open_int Tryd.underlying22 (hval 0 22 v0 rfl rfl) h0
  obtain ⟨a1, rfl, rfl, rfl, w1⟩ := open_int Tryd.underlying5 (hval 1 5 v1 rfl rfl) h1
  obtain ⟨a2, len2, cap2, rfl⟩ := okWide_slice Tryd.underlying23 (hval 2 23 v2 rfl rfl)
  have k2 := h2
  have lt2 : ∀ x ∈ p2, x.block < W.heap.size := by obtain ⟨m, hm⟩ := k2; exact DataW.trod_lt m _ _ _ hm
  obtain ⟨z2, w2⟩ : ∃ zs, IsRow W a2 len2 cap2 zs := by
    obtain ⟨fuel, hf⟩ := h2
    rcases open_ints Tryd.underlying23 Tryd.underlying5 (by kernel_rfl) hf with ⟨hcs, _⟩ | ⟨x, l, c, zs, hcs, _, hl, hm, hz, _, hcell, hwz⟩
    · simp [Value.cells] at hcs
      obtain ⟨rfl, rfl, rfl⟩ := hcs
      exact ⟨[], .inl ⟨rfl, rfl, rfl, rfl⟩⟩
    · simp [Value.cells] at hcs
      obtain ⟨rfl, rfl, rfl⟩ := hcs
      exact ⟨zs, .inr ⟨_, rfl, hl, hm, by simpa using hz, hcell, hwz⟩⟩
  clear hA0 hval0
  obtain ⟨hTab, hsz0⟩ := tab_of_laid hL
  refine (walk a0 a1 a2 len2 cap2 z2 W w0 w1 w2 hsz0 hTab).mono fun e W' ⟨he, bel⟩ => ?_
  subst he
  exact ⟨_, rfl, _, _, _, [], _, [], hW', trodAll_mk1 (shut_bool Tryd.underlying4 _), (trodAll_cons_mk (shut_int Tryd.underlying22 w0) (trodAll_cons_mk (shut_int Tryd.underlying5 w1) (trodAll_cons_mk (Below.trod laidOut (by kernel_rfl) (of_decide_eq_true (by kernel_rfl)) k2 bel lt2) trodAll_mk0))), rfl, bel.frame _, fun h => by cases h⟩
theorem over : Rows.crcSumsRow.holds Tryd.pinned (OpenSpec.ofChange Rows.crcSumsSpec) :=
  OpenClaim.holds_of_wide 3 Tryd.f3 rfl rfl rfl rfl rfl rfl rfl ⟨rfl, rfl, rfl, rfl, rfl⟩ rfl rfl rfl rfl rfl (by kernel_rfl) Tryd.func3 (by kernel_rfl)
    (of_decide_eq_true (by kernel_rfl)) (by unfold Func.isWrapper; first | (rw [if_pos (by decide +kernel)]; kernel_rfl) | (rw [if_neg (by decide +kernel)]; exact ⟨rfl, rfl⟩))
    (fun os started H enc _ => lifted os started H enc)
/-- The statement: the row, and what it lists tied to the program's text. -/
theorem proved : Rows.CrcSumsCardSaid :=
  Claim7.holds_tied_plain_at .later [] [.data] true _ false
    over (fun _ h => by cases h) (by kernel_rfl) (fun _ h => by cases h) crcSums_row_tie rfl ⟨rfl, rfl⟩ (by kernel_rfl) rfl
    (fun f fn hf hfn => by
      obtain rfl : f = 3 := Option.some.inj ((show Tryd.prog.funcNamed "bellbuoy/bellbuoylaw03.CrcSums" = some 3 by kernel_rfl).symm.trans hf) |>.symm
      obtain rfl : fn = Tryd.f3 := (Option.some.inj (Tryd.func3.symm.trans hfn)).symm
      exact ⟨by kernel_rfl, fun j t ht => by
        rw [Tryd.params3] at ht
        have hm : t ∈ [22, 5, 23] := by simpa using Array.mem_of_getElem? ht
        have hall : ([22, 5, 23].all fun u => !Tryd.prog.wantsStandIn u) = true := by kernel_rfl
        exact (show Tryd.prog.wantsStandIn t = false by simpa using List.all_eq_true.1 hall t hm)⟩)
    (by kernel_rfl)
end Go.Proofs.YtdnonahpoklbfaaDoor.crcSums
