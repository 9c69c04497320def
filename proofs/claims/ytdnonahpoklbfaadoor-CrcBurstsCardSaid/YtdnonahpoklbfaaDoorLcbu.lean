/- The statement of P3.5 (CrcBursts): if bits that stand together, at most 15, are other ones, it is told. Conditions: the divisor's cells hold what the program's own text lays in them (tied). -/
import Derived.Test.YtdnonahpoklbfaaDoorRows
import Derived.Test.YtdnonahpoklbfaaDoorCrx
import Derived.Test.YtdnonahpoklbfaaDoorCrt
import Derived.WalkKit
import Derived.ProofKit
import Derived.OpenShut
import Derived.ShutString
import Derived.ChangeOld
import Derived.Below
namespace Go.Proofs.YtdnonahpoklbfaaDoor.crcBursts
open Go.ChangeShapes Go.WideShapes Go.ChangeAt Go.RowKit
theorem own : ownKnob Tryd.prog.godebug = none := by kernel_rfl
theorem laidOut : laidOutB Tryd.prog = true := by kernel_rfl
theorem wfu16 {a : Int} (h : (Lit.int .u16 a).wf = true) : 0 ≤ a ∧ a ≤ 65535 := by
  simp [Lit.wf, IntKind.min, IntKind.max, IntKind.bits, IntKind.signed] at h
  omega
set_option maxHeartbeats 1000000 in
theorem walk (a0 : Option Addr) (len0 cap0 : Nat) (z0 : List Int) (a1 a2 : Int) (w : World) (w0 : IsRow w a0 len0 cap0 z0) (w1 : (Lit.int .u16 a1).wf = true) (w2 : (Lit.int .u16 a2).wf = true) (h0 : 0 < w.heap.size) (hT : Tab w) :
    Calls Tryd.prog 6 #[.slice a0 len0 cap0, .int .u16 a1, .int .u16 a2] w fun e w' => e = .returned (.bool true) ∧ Below w.heap.size w w' := by
  have h16 := wfu16 w1
  have h17 := wfu16 w2
  obtain ⟨at', rfl⟩ : ∃ at' : Nat, a1 = at' := ⟨a1.toNat, by omega⟩
  obtain ⟨wh, rfl⟩ : ∃ wh : Nat, a2 = wh := ⟨a2.toNat, by omega⟩
  have hwl : wh < 65536 := by omega
  obtain ⟨bs0, _, hI⟩ := isRow_str w0
  clear w0 w1 w2 h17
  have HT := Lib.hid hT
  have CF := Lib.hid (few3_any a0 len0 cap0 bs0 w hI)
  obtain ⟨xs, hxs⟩ : ∃ xs, xs = bs0.take 200 := ⟨_, rfl⟩
  rw [← hxs] at CF
  have hxl : xs.length ≤ 200 := by rw [hxs, List.length_take]; omega
  clear hxs hI hT
  obtain ⟨S, hS⟩ : ∃ S, S = bitsOf xs ++ ofB (crcOf (bitsOf xs) 0) 15 := ⟨_, rfl⟩
  have hSl : S.length = xs.length + 15 := by rw [hS, List.length_append, bitsOf_length, ofB_length]
  have hS1 : ∀ x ∈ S, x ≤ 1 := by rw [hS]; exact sealB_le _ _ (bitsOf_le xs)
  have hS0 : crcOf S 0 = 0 := by rw [hS]; exact sealB_zero _
  obtain ⟨kk, hkk⟩ : ∃ kk, kk = at' % (xs.length + 1) := ⟨_, rfl⟩
  have hkl : kk ≤ xs.length := by have := Nat.mod_lt at' (show 0 < xs.length + 1 by omega); omega
  have hend : decide (crcOf (burstB S kk wh 15) 0 = 0) = !anyB wh 15 := burst_sum (m := xs.length - kk) hS1 (by omega) hS0
  have hsw : wholeB (burstB S kk wh 15) = !anyB wh 15 := by rw [wholeB_eq _ (by rw [burstB_length]; omega), bits_self _ (burstB_le hS1 _ _ _), hend]
  obtain ⟨su, hsu⟩ : ∃ su, su = crcOf (bitsOf (burstB S kk wh 15)) 0 := ⟨_, rfl⟩
  have hsu2 : decide (su = 0) = !anyB wh 15 := by rw [hsu, bits_self _ (burstB_le hS1 _ _ _), hend]
  have hSm : S.length ≤ 300 := by omega
  have hkS : kk + 15 ≤ S.length := by omega
  have hrem : (at' : Int) % ((S.length : Int) - 14) = (kk : Int) := by
    rw [hSl, hkk, show ((xs.length + 15 : Nat) : Int) - 14 = ((xs.length + 1 : Nat) : Int) by omega]
    omega
  have hpos : (S.length : Int) - 14 ≠ 0 := by omega
  have HS := Lib.hid hS; have HS1 := Lib.hid hS1; have HSW := Lib.hid hsw; have HSU := Lib.hid hsu; have HSU2 := Lib.hid hsu2
  have HREM := Lib.hid hrem
  clear hS hS1 hsw hsu hsu2 hS0 hSl hkk hend hkl
  go_enter Tryd.func6, Tryd.ntmps6
  go_wp2_with (fail)
  refine CF.out.mono ?_
  rintro e w1 ⟨⟨a', len', cap', rfl, hI⟩, rfl⟩
  obtain rfl := hI.len
  have I0 := Lib.hid hI
  clear hI CF
  go_wp2_with (fail)
  refine (refSeal_any _ _ _ xs (by omega) _ I0.out).mono ?_
  rintro e w2 ⟨v, rfl, ho, hb⟩
  rw [← HS.out] at ho
  obtain ⟨a2, c2, rfl⟩ := ho.shape
  have O2 := Lib.hid ho
  have B2 := Lib.hid hb
  clear ho hb I0 HS
  obtain ⟨g, cg, hv, _, _, _, _, _⟩ := O2.out.write (k := 0) (by omega)
  obtain ⟨rfl, _, rfl⟩ := Value.slice.inj hv
  clear hv
  go_wp2_with (fail)
  go_loopw [9, 10] (fun sm i wr => ∃ j : Nat, j ≤ 15 ∧ i = .int .i64 j ∧ sm = .bool (anyB wh j) ∧ Ow w.heap.size wr (.slice (some ⟨g, 0, none⟩) S.length c2) (burstB S kk wh j) ∧ Below w.heap.size w wr) (fun _ i _ => 15 - (intOf i).toNat)
  case atStart => exact ⟨0, Nat.zero_le _, rfl, rfl, by rw [burstB_start]; exact O2.out, B2.out⟩
  case round =>
    clear O2 B2
    obtain ⟨j, hj, rfl, rfl, hown, hnx⟩ := hrel
    have HO := Lib.hid hown; have HN := Lib.hid hnx
    clear hown hnx
    by_cases hlt : j < 15
    · obtain ⟨q, hq⟩ : ∃ q, q = wh / 2 ^ j % 2 := ⟨_, rfl⟩
      have e1 : bits .and .u16 ((wh : Int) / 2 ^ j) 1 = (q : Int) := by
        have hd : wh / 2 ^ j < 65536 := Nat.lt_of_le_of_lt (Nat.div_le_self _ _) hwl
        have := u16_and_nat (wh / 2 ^ j) 1 hd (by omega)
        rw [Nat.and_one_is_mod, ← hq] at this
        rw [cast_shift']
        exact this
      have hwj : IntKind.u64.wrap (j : Int) = (j : Int) := by rw [IntKind.wrap_u64]; omega
      have hany : anyB wh (j + 1) = (anyB wh j || q == 1) := by rw [hq]; exact anyB_succ wh j
      by_cases hq1 : q = 1
      · have heq : ((q : Int) == 1) = true := by simp; omega
        obtain ⟨b, hb⟩ : ∃ b, b = S[kk + j]?.getD 0 := ⟨_, rfl⟩
        have hb1 : b ≤ 1 := by rw [hb]; exact getD_bit HS1.out _
        obtain ⟨g', cg', hv, _, _, hcap, hgl, hc, hf, hset⟩ := HO.out.write (k := kk + j) (by rw [burstB_length]; omega)
        rw [burstB_cell S kk wh j (by omega), ← hb] at hc
        rw [burstB_length] at hv
        obtain ⟨hg1, _, _⟩ := Value.slice.inj hv
        have hg2 : g = g' := by simpa using hg1
        subst hg2
        have hset1 := hset (1 - b)
        rw [hb, burstB_one HS1.out (by omega) (by rw [← hq]; exact hq1), ← hb] at hset1
        have HSET := Lib.hid hset1
        have ew : IntKind.u8.wrap (1 - (b : Int)) = ((1 - b : Nat) : Int) := by rw [IntKind.wrap_u8]; omega
        have hge := HO.out.ge g rfl
        have HANY := Lib.hid hany
        clear hset hset1 hv hg1 hb hq hany HO
        go_wp2_with (fail)
        go_roundw
        case rel => exact ⟨j + 1, by omega, by simp, by rw [HANY.out, hq1]; simp, HSET.out, HN.out.setCell (p := ⟨g, kk + j, none⟩) hge _⟩
        case measure => simp [intOf]; omega
      · have heq : ((q : Int) == 1) = false := by simp; omega
        have hq0 : wh / 2 ^ j % 2 = 0 := by omega
        have HANY := Lib.hid hany; have HQ0 := Lib.hid hq0
        clear hq hany hq0
        go_wp2_with (fail)
        go_roundw
        case rel => exact ⟨j + 1, by omega, by simp, by rw [HANY.out, beq_eq_false_iff_ne.2 hq1, Bool.or_false], by rw [burstB_zero HQ0.out]; exact HO.out, HN.out⟩
        case measure => simp [intOf]; omega
    · obtain rfl : j = 15 := by omega
      obtain ⟨sm, hsm⟩ : ∃ sm, sm = anyB wh 15 := ⟨_, rfl⟩
      have T0 := Lib.hid HO.out.str
      rw [← hsm] at HSW HSU2 ⊢
      have hbl : (burstB S kk wh 15).length ≤ 100000 := by rw [burstB_length]; omega
      have hsz : ((su : Int) == 0) = !sm := by
        rw [← HSU2.out, Bool.eq_iff_iff]
        simp
      clear HO hsm HSU2
      go_wp2_with (fail)
      refine (live3 _ (Nat.lt_of_lt_of_le h0 HN.out.size) (HT.out.onB HN.out h0)).mono ?_
      rintro e w5 ⟨rfl, hb⟩
      have T5 := Lib.hid (T0.out.on hb)
      have B5 := Lib.hid (below_trans' HN.out hb)
      clear hb T0 HN
      go_wp2_with (fail)
      refine (whole_any _ _ _ (burstB S kk wh 15) hbl _ (Nat.lt_of_lt_of_le h0 B5.out.size) (HT.out.onB B5.out h0) T5.out).mono ?_
      rintro e w6 ⟨he, hb⟩
      rw [HSW.out] at he
      subst he
      have T6 := Lib.hid (T5.out.on hb)
      have B6 := Lib.hid (below_trans' B5.out hb)
      clear hb T5 B5
      have hx : ((!sm) != sm) = true := by cases sm <;> rfl
      go_wp2_with (fail)
      refine (sum_any _ _ _ (burstB S kk wh 15) _ (Nat.lt_of_lt_of_le h0 B6.out.size) (HT.out.onB B6.out h0) T6.out).mono ?_
      rintro e w7 ⟨he, hb⟩
      rw [← HSU.out] at he
      subst he
      have B7 := Lib.hid (below_trans' B6.out hb)
      clear hb T6 B6
      go_wp2_with (fail)
      go_ret
      exact ⟨by simp, B7.out⟩
theorem door_met (os : Os) (args : Array Value) : laidMetH Tryd.prog laidD ((World.doorLaid Tryd.prog 400 os).forCall (fun _ _ => 0) ⟨#[], args, []⟩).memory :=
  laidMetH_of_parts3 (fuel := 8) (laidMet_of_run' 8 (by kernel_rfl) (by kernel_rfl)) (by kernel_rfl) (by kernel_rfl)
set_option maxRecDepth 100000 in
theorem lifted (os : Os) (started : os.Started) (H : Type) (enc : TypeId × Value → H) :
    ReturnsInHanded {} Tryd.checked os 6 .any (fun w args => (Rows.crcBurstsSpec.pre enc Tryd.prog Tryd.f6 [] false w args ∧ laidMetH Tryd.prog laidD w) ∧ sizedMet enc Tryd.prog Tryd.f6 (OpenSpec.ofChange Rows.crcBurstsSpec) false w args)
      (Rows.crcBurstsSpec.post enc Tryd.prog Tryd.f6 false true false false) := by
  refine returnsInHanded_of_change_and (C := Tryd.checked) (X := fun w _ => laidMetH Tryd.prog laidD w) (fun _ _ _ hh h => h.of_heap hh) own started (by kernel_rfl) Tryd.func6
    (ChangeSpec.witness_shaped (enc := enc) (C := Tryd.checked) (os := os) (X := fun w _ => laidMetH Tryd.prog laidD w) false (World.doorLaid Tryd.prog 400 os) #[.slice none 0 0, .int .u16 0, .int .u16 0] 8 rfl (World.shaped_of_RefB (by kernel_rfl) (by kernel_rfl)) (by kernel_rfl) (by kernel_rfl) (by kernel_rfl) (door_met os _)) ?_
  intro W base args ds gs before hval0 hW _ _ hL _
  have hval : ∀ (j : Nat) t v, Tryd.f6.params[j]? = some t → args[j]? = some v → Value.okWide Tryd.prog W .any base t v := hval0
  have hW' := hW
  obtain ⟨p, q, hA0, hV, rfl, hfz, hnd⟩ := hW
  have hA : DataW.TrodAll enc Tryd.prog W 0 (fun _ => true) true Tryd.f6.params.toList args.toList ds p := hA0
  rw [Tryd.params6] at hA hval
  obtain ⟨v0, vs0, d0, ds0, p0, q0, hargs, rfl, rfl, h0, r0⟩ := trodAll_cons hA
  obtain ⟨v1, vs1, d1, ds1, p1, q1, rfl, rfl, rfl, h1, r1⟩ := trodAll_cons r0
  obtain ⟨v2, vs2, d2, ds2, p2, q2, rfl, rfl, rfl, h2, r2⟩ := trodAll_cons r1
  obtain ⟨rfl, rfl, rfl⟩ := trodAll_nil r2
  obtain rfl : args = #[v0, v1, v2] := by cases args; simp_all
  obtain ⟨rfl, rfl⟩ := trodVars_none hV
  obtain ⟨a0, len0, cap0, rfl⟩ := okWide_slice Tryd.underlying23 (hval 0 23 v0 rfl rfl)
  have k0 := h0
  have lt0 : ∀ x ∈ p0, x.block < W.heap.size := by obtain ⟨m, hm⟩ := k0; exact DataW.trod_lt m _ _ _ hm
  obtain ⟨z0, w0⟩ : ∃ zs, IsRow W a0 len0 cap0 zs := by
    obtain ⟨fuel, hf⟩ := h0
    rcases open_ints Tryd.underlying23 Tryd.underlying5 (by kernel_rfl) hf with ⟨hcs, _⟩ | ⟨x, l, c, zs, hcs, _, hl, hm, hz, _, hcell, hwz⟩
    · simp [Value.cells] at hcs
      obtain ⟨rfl, rfl, rfl⟩ := hcs
      exact ⟨[], .inl ⟨rfl, rfl, rfl, rfl⟩⟩
    · simp [Value.cells] at hcs
      obtain ⟨rfl, rfl, rfl⟩ := hcs
      exact ⟨zs, .inr ⟨_, rfl, hl, hm, by simpa using hz, hcell, hwz⟩⟩
  obtain ⟨a1, rfl, rfl, rfl, w1⟩ := open_int Tryd.underlying22 (hval 1 22 v1 rfl rfl) h1
  obtain ⟨a2, rfl, rfl, rfl, w2⟩ := open_int Tryd.underlying22 (hval 2 22 v2 rfl rfl) h2
  clear hA0 hval0
  obtain ⟨hTab, hsz0⟩ := tab_of_laid hL
  refine (walk a0 len0 cap0 z0 a1 a2 W w0 w1 w2 hsz0 hTab).mono fun e W' ⟨he, bel⟩ => ?_
  subst he
  exact ⟨_, rfl, _, _, _, [], _, [], hW', trodAll_mk1 (shut_bool Tryd.underlying4 _), (trodAll_cons_mk (Below.trod laidOut (by kernel_rfl) (of_decide_eq_true (by kernel_rfl)) k0 bel lt0) (trodAll_cons_mk (shut_int Tryd.underlying22 w1) (trodAll_cons_mk (shut_int Tryd.underlying22 w2) trodAll_mk0))), rfl, bel.frame _, fun h => by cases h⟩
theorem over : Rows.crcBurstsRow.holds Tryd.pinned (OpenSpec.ofChange Rows.crcBurstsSpec) :=
  OpenClaim.holds_of_wide 6 Tryd.f6 rfl rfl rfl rfl rfl rfl rfl ⟨rfl, rfl, rfl, rfl, rfl⟩ rfl rfl rfl rfl rfl (by kernel_rfl) Tryd.func6 (by kernel_rfl)
    (of_decide_eq_true (by kernel_rfl)) (by unfold Func.isWrapper; first | (rw [if_pos (by decide +kernel)]; kernel_rfl) | (rw [if_neg (by decide +kernel)]; exact ⟨rfl, rfl⟩))
    (fun os started H enc _ => lifted os started H enc)
/-- The statement: the row, and what it lists tied to the program's text. -/
theorem proved : Rows.CrcBurstsCardSaid :=
  Claim7.holds_tied_plain_at .later [] [.data] true _ false
    over (fun _ h => by cases h) (by kernel_rfl) (fun _ h => by cases h) crcBursts_row_tie rfl ⟨rfl, rfl⟩ (by kernel_rfl) rfl
    (fun f fn hf hfn => by
      obtain rfl : f = 6 := Option.some.inj ((show Tryd.prog.funcNamed "bellbuoy/bellbuoylaw03.CrcBursts" = some 6 by kernel_rfl).symm.trans hf) |>.symm
      obtain rfl : fn = Tryd.f6 := (Option.some.inj (Tryd.func6.symm.trans hfn)).symm
      exact ⟨by kernel_rfl, fun j t ht => by
        rw [Tryd.params6] at ht
        have hm : t ∈ [23, 22, 22] := by simpa using Array.mem_of_getElem? ht
        have hall : ([23, 22, 22].all fun u => !Tryd.prog.wantsStandIn u) = true := by kernel_rfl
        exact (show Tryd.prog.wantsStandIn t = false by simpa using List.all_eq_true.1 hall t hm)⟩)
    (by kernel_rfl)
end Go.Proofs.YtdnonahpoklbfaaDoor.crcBursts
