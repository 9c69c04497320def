/- The statement of P3.3 (CrcSeals): what has its sum behind is whole, and its sum is 0. Conditions: the divisor's cells hold what the program's own text lays in them (tied). -/
import Derived.Test.YtdnonahpoklbfaaDoorRows
import Derived.Test.YtdnonahpoklbfaaDoorCrl
import Derived.Test.YtdnonahpoklbfaaDoorCrt
import Derived.WalkKit
import Derived.ProofKit
import Derived.OpenShut
import Derived.ShutString
import Derived.ChangeOld
import Derived.Below
namespace Go.Proofs.YtdnonahpoklbfaaDoor.crcSeals
open Go.ChangeShapes Go.WideShapes Go.ChangeAt Go.RowKit
theorem own : ownKnob Tryd.prog.godebug = none := by kernel_rfl
theorem laidOut : laidOutB Tryd.prog = true := by kernel_rfl
theorem sealB_sum (l : List Nat) : crcOf (l ++ ofB (crcOf l 0) 15) 0 = 0 := by
  rw [crcOf_append]
  exact crcOf_seal _ (crcOf_lt _ _ (by omega))
theorem sealB_bits (l : List Nat) (s : Nat) (hb : ∀ x ∈ l, x ≤ 1) : bitsOf (l ++ ofB s 15) = l ++ ofB s 15 := by
  have e : bitsOf (l ++ ofB s 15) = bitsOf l ++ bitsOf (ofB s 15) := by unfold bitsOf; rw [List.map_append]
  rw [e, bitsOf_ofB, bits_self l hb]
set_option maxHeartbeats 1000000 in
theorem walk (a0 : Option Addr) (len0 cap0 : Nat) (z0 : List Int) (w : World) (w0 : IsRow w a0 len0 cap0 z0) (h0 : 0 < w.heap.size) (hT : Tab w) :
    Calls Tryd.prog 4 #[.slice a0 len0 cap0] w fun e w' => e = .returned (.bool true) ∧ Below w.heap.size w w' := by
  obtain ⟨bs0, _, hI⟩ := isRow_str w0
  clear w0
  have HT := Lib.hid hT
  have CF := Lib.hid (few3_any a0 len0 cap0 bs0 w hI)
  obtain ⟨xs, hxs⟩ : ∃ xs, xs = bs0.take 200 := ⟨_, rfl⟩
  rw [← hxs] at CF
  have hxl : xs.length ≤ 200 := by rw [hxs, List.length_take]; omega
  clear hxs hI hT
  obtain ⟨s, hs⟩ : ∃ s, s = bitsOf xs ++ ofB (crcOf (bitsOf xs) 0) 15 := ⟨_, rfl⟩
  have hsl : s.length = xs.length + 15 := by rw [hs, List.length_append, bitsOf_length, ofB_length]
  have hs0 : crcOf (bitsOf s) 0 = 0 := by rw [hs, sealB_bits _ _ (bitsOf_le xs), sealB_sum _]
  have hsw : wholeB s = true := by rw [wholeB_eq s (by omega), hs0]; rfl
  have hsm : s.length ≤ 100000 := by omega
  have HS := Lib.hid hs; have HS0 := Lib.hid hs0; have HSW := Lib.hid hsw
  clear hs hs0 hsw hsl
  go_enter Tryd.func4, Tryd.ntmps4
  go_wp2_with (fail)
  refine CF.out.mono ?_
  rintro e w1 ⟨⟨a', len', cap', rfl, hS⟩, rfl⟩
  obtain rfl := hS.len
  have S0 := Lib.hid hS
  clear hS CF
  go_wp2_with (fail)
  refine (seal_any _ _ _ xs (by omega) _ h0 HT.out S0.out).mono ?_
  rintro e w2 ⟨v, rfl, ho, hb⟩
  rw [← HS.out] at ho
  obtain ⟨a2, c2, rfl⟩ := ho.shape
  have T2 := Lib.hid ho.str
  have B2 := Lib.hid hb
  clear ho hb S0 HS
  go_wp2_with (fail)
  refine (live3 _ (Nat.lt_of_lt_of_le h0 B2.out.size) (HT.out.onB B2.out h0)).mono ?_
  rintro e w3 ⟨rfl, hb⟩
  have T3 := Lib.hid (T2.out.on hb)
  have B3 := Lib.hid (below_trans' B2.out hb)
  clear hb T2 B2
  go_wp2_with (fail)
  refine (whole_any _ _ _ s hsm _ (Nat.lt_of_lt_of_le h0 B3.out.size) (HT.out.onB B3.out h0) T3.out).mono ?_
  rintro e w4 ⟨he, hb⟩
  have he' : e = .returned (.bool true) := by rw [he, HSW.out]
  subst he'
  have T4 := Lib.hid (T3.out.on hb)
  have B4 := Lib.hid (below_trans' B3.out hb)
  clear he hb T3 B3
  go_wp2_with (fail)
  refine (sum_any _ _ _ s _ (Nat.lt_of_lt_of_le h0 B4.out.size) (HT.out.onB B4.out h0) T4.out).mono ?_
  rintro e w5 ⟨he, hb⟩
  have he' : e = .returned (.int .u16 0) := by rw [he, HS0.out]; rfl
  subst he'
  have B5 := Lib.hid (below_trans' B4.out hb)
  clear he hb T4 B4
  go_wp2_with (fail)
  go_ret
  exact ⟨rfl, B5.out⟩
theorem door_met (os : Os) (args : Array Value) : laidMetH Tryd.prog laidD ((World.doorLaid Tryd.prog 400 os).forCall (fun _ _ => 0) ⟨#[], args, []⟩).memory :=
  laidMetH_of_parts3 (fuel := 8) (laidMet_of_run' 8 (by kernel_rfl) (by kernel_rfl)) (by kernel_rfl) (by kernel_rfl)
set_option maxRecDepth 100000 in
theorem lifted (os : Os) (started : os.Started) (H : Type) (enc : TypeId × Value → H) :
    ReturnsInHanded {} Tryd.checked os 4 .any (fun w args => (Rows.crcSealsSpec.pre enc Tryd.prog Tryd.f4 [] false w args ∧ laidMetH Tryd.prog laidD w) ∧ sizedMet enc Tryd.prog Tryd.f4 (OpenSpec.ofChange Rows.crcSealsSpec) false w args)
      (Rows.crcSealsSpec.post enc Tryd.prog Tryd.f4 false true false false) := by
  refine returnsInHanded_of_change_and (C := Tryd.checked) (X := fun w _ => laidMetH Tryd.prog laidD w) (fun _ _ _ hh h => h.of_heap hh) own started (by kernel_rfl) Tryd.func4
    (ChangeSpec.witness_shaped (enc := enc) (C := Tryd.checked) (os := os) (X := fun w _ => laidMetH Tryd.prog laidD w) false (World.doorLaid Tryd.prog 400 os) #[.slice none 0 0] 8 rfl (World.shaped_of_RefB (by kernel_rfl) (by kernel_rfl)) (by kernel_rfl) (by kernel_rfl) (by kernel_rfl) (door_met os _)) ?_
  intro W base args ds gs before hval0 hW _ _ hL _
  have hval : ∀ (j : Nat) t v, Tryd.f4.params[j]? = some t → args[j]? = some v → Value.okWide Tryd.prog W .any base t v := hval0
  have hW' := hW
  obtain ⟨p, q, hA0, hV, rfl, hfz, hnd⟩ := hW
  have hA : DataW.TrodAll enc Tryd.prog W 0 (fun _ => true) true Tryd.f4.params.toList args.toList ds p := hA0
  rw [Tryd.params4] at hA hval
  obtain ⟨v0, vs0, d0, ds0, p0, q0, hargs, rfl, rfl, h0, r0⟩ := trodAll_cons hA
  obtain ⟨rfl, rfl, rfl⟩ := trodAll_nil r0
  obtain rfl : args = #[v0] := by cases args; simp_all
  obtain ⟨rfl, rfl⟩ := trodVars_none hV
  obtain ⟨a0, len0, cap0, rfl⟩ := okWide_slice Tryd.underlying23 (hval 0 23 v0 rfl rfl)
  have k0 := h0
  have lt0 : ∀ x ∈ p0, x.block < W.heap.size := by obtain ⟨m, hm⟩ := k0; exact DataW.trod_lt m _ _ _ hm
  obtain ⟨z0, w0⟩ : ∃ zs, IsRow W a0 len0 cap0 zs := by
    obtain ⟨fuel, hf⟩ := h0
    rcases open_ints Tryd.underlying23 Tryd.underlying5 (by kernel_rfl) hf with ⟨hcs, _⟩ | ⟨x, l, c, zs, hcs, _, hl, hm, hz, _, hcell, hwz⟩
    · simp [Value.cells] at hcs
      obtain ⟨rfl, rfl, rfl⟩ := hcs
      exact ⟨[], .inl ⟨rfl, rfl, rfl, rfl⟩⟩
    · simp [Value.cells] at hcs
      obtain ⟨rfl, rfl, rfl⟩ := hcs
      exact ⟨zs, .inr ⟨_, rfl, hl, hm, by simpa using hz, hcell, hwz⟩⟩
  clear hA0 hval0
  obtain ⟨hTab, hsz0⟩ := tab_of_laid hL
  refine (walk a0 len0 cap0 z0 W w0 hsz0 hTab).mono fun e W' ⟨he, bel⟩ => ?_
  subst he
  exact ⟨_, rfl, _, _, _, [], _, [], hW', trodAll_mk1 (shut_bool Tryd.underlying4 _), (trodAll_cons_mk (Below.trod laidOut (by kernel_rfl) (of_decide_eq_true (by kernel_rfl)) k0 bel lt0) trodAll_mk0), rfl, bel.frame _, fun h => by cases h⟩
theorem over : Rows.crcSealsRow.holds Tryd.pinned (OpenSpec.ofChange Rows.crcSealsSpec) :=
  OpenClaim.holds_of_wide 4 Tryd.f4 rfl rfl rfl rfl rfl rfl rfl ⟨rfl, rfl, rfl, rfl, rfl⟩ rfl rfl rfl rfl rfl (by kernel_rfl) Tryd.func4 (by kernel_rfl)
    (of_decide_eq_true (by kernel_rfl)) (by unfold Func.isWrapper; first | (rw [if_pos (by decide +kernel)]; kernel_rfl) | (rw [if_neg (by decide +kernel)]; exact ⟨rfl, rfl⟩))
    (fun os started H enc _ => lifted os started H enc)
/-- The statement: the row, and what it lists tied to the program's text. -/
theorem proved : Rows.CrcSealsCardSaid :=
  Claim7.holds_tied_plain_at .later [] [.data] true _ false
    over (fun _ h => by cases h) (by kernel_rfl) (fun _ h => by cases h) crcSeals_row_tie rfl ⟨rfl, rfl⟩ (by kernel_rfl) rfl
    (fun f fn hf hfn => by
      obtain rfl : f = 4 := Option.some.inj ((show Tryd.prog.funcNamed "bellbuoy/bellbuoylaw03.CrcSeals" = some 4 by kernel_rfl).symm.trans hf) |>.symm
      obtain rfl : fn = Tryd.f4 := (Option.some.inj (Tryd.func4.symm.trans hfn)).symm
      exact ⟨by kernel_rfl, fun j t ht => by
        rw [Tryd.params4] at ht
        have hm : t ∈ [23] := by simpa using Array.mem_of_getElem? ht
        have hall : ([23].all fun u => !Tryd.prog.wantsStandIn u) = true := by kernel_rfl
        exact (show Tryd.prog.wantsStandIn t = false by simpa using List.all_eq_true.1 hall t hm)⟩)
    (by kernel_rfl)
end Go.Proofs.YtdnonahpoklbfaaDoor.crcSeals
