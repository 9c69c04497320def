/- The statement of E1, stage 2 (TopSealed): what has its sum, and bits put between, has its sum again without them; with a bit changed that leaves as many, it has not. Conditions: the divisor's cells hold what the program's own text lays in them (tied). -/
import Derived.Test.YtdnonahpoklbfaaDoorRows
import Derived.Test.YtdnonahpoklbfaaDoorCrx
import Derived.Test.YtdnonahpoklbfaaDoorSfd
import Derived.Test.YtdnonahpoklbfaaDoorCrt
import Derived.WalkKit
import Derived.ProofKit
import Derived.OpenShut
import Derived.ShutString
import Derived.ChangeOld
import Derived.Below
namespace Go.Proofs.YtdnonahpoklbfaaDoor.topSealed
open Go.ChangeShapes Go.WideShapes Go.ChangeAt Go.RowKit
theorem own : ownKnob Tryd.prog.godebug = none := by kernel_rfl
theorem laidOut : laidOutB Tryd.prog = true := by kernel_rfl
theorem wfu16 {a : Int} (h : (Lit.int .u16 a).wf = true) : 0 ≤ a ∧ a ≤ 65535 := by
  simp [Lit.wf, IntKind.min, IntKind.max, IntKind.bits, IntKind.signed] at h
  omega
theorem diff_set (S : List Nat) (hS : ∀ x ∈ S, x ≤ 1) (k : Nat) : ∀ n, n ≤ S.length → diffN (S.set k (1 - S[k]?.getD 0)) S n = if k < n then 1 else 0 := by
  intro n
  induction n with
  | zero => intro _; rfl
  | succ n ih =>
    intro hn
    rw [diffN_succ, ih (by omega)]
    by_cases c : n = k
    · subst c
      have h1 := getD_bit hS n
      have e : (S.set n (1 - S[n]?.getD 0))[n]?.getD 0 = 1 - S[n]?.getD 0 := by
        rw [List.getElem?_set_self (by omega), Option.getD_some]
      rw [e, if_neg (by omega), if_neg (by omega), if_pos (by omega)]
    · have e : (S.set k (1 - S[k]?.getD 0))[n]?.getD 0 = S[n]?.getD 0 := by
        rw [List.getElem?_set_ne (by omega)]
      rw [e, if_pos rfl]
      by_cases c2 : k < n
      · rw [if_pos c2, if_pos (by omega)]
      · rw [if_neg c2, if_neg (by omega)]
theorem flip_told (S : List Nat) (k : Nat) (hS : ∀ x ∈ S, x ≤ 1) (hk : k < S.length) (h15 : 15 ≤ S.length) (h0 : crcOf S 0 = 0) : (flipB S (k : Int)).length = S.length ∧ wholeB (flipB S (k : Int)) = false := by
  have e : flipB S (k : Int) = S.set k (1 - S[k]?.getD 0) := by
    unfold flipB
    rw [if_pos (by omega), Int.toNat_natCast, bits_self S hS]
    have : bitAt S k = S[k]?.getD 0 := bitN_self (getD_bit hS k)
    rw [this]
  have hb : ∀ x ∈ S.set k (1 - S[k]?.getD 0), x ≤ 1 := fun x hx => by
    rcases List.mem_or_eq_of_mem_set hx with h | h
    · exact hS x h
    · omega
  rw [e]
  refine ⟨List.length_set, ?_⟩
  rw [wholeB_eq _ (by rw [List.length_set]; exact h15), bits_self _ hb]
  apply decide_eq_false
  exact odd_told hb hS List.length_set h0 (by rw [diff_set S hS k _ (Nat.le_refl _), if_pos hk])
set_option maxHeartbeats 1000000 in
theorem walk (a0 : Option Addr) (len0 cap0 : Nat) (z0 : List Int) (a1 : Int) (w : World) (w0 : IsRow w a0 len0 cap0 z0) (w1 : (Lit.int .u16 a1).wf = true) (h0 : 0 < w.heap.size) (hT : Tab w) :
    Calls Tryd.prog 8 #[.slice a0 len0 cap0, .int .u16 a1] w fun e w' => e = .returned (.bool true) ∧ Below w.heap.size w w' := by
  have h16 := wfu16 w1
  obtain ⟨at', rfl⟩ : ∃ at' : Nat, a1 = at' := ⟨a1.toNat, by omega⟩
  obtain ⟨bs0, _, hI⟩ := isRow_str w0
  clear w0 w1
  have HT := Lib.hid hT
  have hlen := hI.len
  have hlc := hI.lenCap
  have hcm := hI.capLe
  obtain ⟨xs, hxs⟩ : ∃ xs, xs = bs0.take 200 := ⟨_, rfl⟩
  have hxl : xs.length ≤ 200 := by rw [hxs, List.length_take]; omega
  obtain ⟨S, hS⟩ : ∃ S, S = bitsOf xs ++ ofB (crcOf (bitsOf xs) 0) 15 := ⟨_, rfl⟩
  have hSl : S.length = xs.length + 15 := by rw [hS, List.length_append, bitsOf_length, ofB_length]
  have hS1 : ∀ x ∈ S, x ≤ 1 := by rw [hS]; exact sealB_le _ _ (bitsOf_le xs)
  have hS0 : crcOf S 0 = 0 := by rw [hS]; exact sealB_zero _
  have hsw : wholeB S = true := by rw [wholeB_eq S (by omega), bits_self S hS1, hS0]; rfl
  obtain ⟨kk, hkk⟩ : ∃ kk, kk = at' % S.length := ⟨_, rfl⟩
  have hkl : kk < S.length := by rw [hkk]; exact Nat.mod_lt _ (by omega)
  have hrem : (at' : Int) % (S.length : Int) = (kk : Int) := by rw [hkk]; omega
  have hpos : (S.length : Int) ≠ 0 := by omega
  obtain ⟨hfl, hfw⟩ := flip_told S kk hS1 hkl (by omega) hS0
  obtain ⟨U, hU⟩ : ∃ U, U = stuffB (bitsOf S) := ⟨_, rfl⟩
  have hul : U.length ≤ 1000 := by
    have := (stuff_most (bitsOf S)).2
    rw [← hU, bitsOf_length] at this
    omega
  have hun : uFold (bitsOf U) = some ((sFold S).1, S) := by
    rw [hU, bits_self S hS1, bits_self _ (sStep_le S hS1)]
    exact there_back _ _ rfl
  have hSm : S.length ≤ 300 := by omega
  have hS15 : ¬ (S.length : Int) < 15 := by omega
  have HS := Lib.hid hS; have HSW := Lib.hid hsw; have HFL := Lib.hid hfl; have HFW := Lib.hid hfw; have HU := Lib.hid hU; have HUN := Lib.hid hun
  clear hS hSl hS1 hS0 hsw hkk hkl hfl hfw hU hun
  by_cases h200 : 200 < len0
  · have ht := hI.take (k := 200) (by omega)
    rw [← hxs] at ht
    have S0 := Lib.hid ht
    have hcap : 200 ≤ cap0 := by omega
    clear ht hI hxs hlen hlc hT
    go_enter Tryd.func8, Tryd.ntmps8
    go_wp2_with (fail)
    refine (seal_any _ _ _ xs (by omega) _ h0 HT.out S0.out).mono ?_
    rintro e w2 ⟨v, rfl, ho, hb⟩
    rw [← HS.out] at ho
    obtain ⟨a2, c2, rfl⟩ := ho.shape
    have O2 := Lib.hid ho.str
    have B2 := Lib.hid hb
    clear ho hb S0 HS
    go_wp2_with (fail)
    refine (stuff_any _ _ _ S (by omega) _ O2.out).mono ?_
    rintro e w3 ⟨v, rfl, ho, hb⟩
    rw [← HU.out] at ho
    obtain ⟨a3, c3, rfl⟩ := ho.shape
    have U3 := Lib.hid ho.str
    have O3 := Lib.hid (O2.out.on hb)
    have B3 := Lib.hid (below_trans' B2.out hb)
    clear ho hb O2 B2 HU
    go_wp2_with (fail)
    refine (unstuff_any _ _ _ U hul _ U3.out).mono ?_
    rintro e w4 ⟨hb, h⟩
    have he : ∃ v, e = .returned (.tuple #[v, .int .i64 (U.length : Nat), .int .i64 0]) ∧ Ow w3.heap.size w4 v S := by
      rcases h with ⟨r, out, v, h, he, ho⟩ | ⟨k, s, hk, _, hn, _⟩
      · rw [HUN.out] at h
        cases h
        exact ⟨v, he, ho⟩
      · have := un_all (k := k + 1) (by omega) hn
        rw [HUN.out] at this
        cases this
    obtain ⟨v, rfl, ho⟩ := he
    obtain ⟨a4, c4, rfl⟩ := ho.shape
    have X4 := Lib.hid ho.str
    have O4 := Lib.hid (O3.out.on hb)
    have B4 := Lib.hid (below_trans' B3.out hb)
    clear h ho hb U3 O3 B3 HUN
    go_wp2_with (fail)
    refine (whole_any _ _ _ S (by omega) _ (Nat.lt_of_lt_of_le h0 B4.out.size) (HT.out.onB B4.out h0) X4.out).mono ?_
    rintro e w5 ⟨he, hb⟩
    rw [HSW.out] at he
    subst he
    have X5 := Lib.hid (X4.out.on hb)
    have O5 := Lib.hid (O4.out.on hb)
    have B5 := Lib.hid (below_trans' B4.out hb)
    clear hb X4 O4 B4
    go_wp2_with (fail)
    refine (same_any _ _ _ S _ _ _ S (by omega) _ X5.out O5.out).mono ?_
    rintro e w6 ⟨he, hb⟩
    have he' : e = .returned (.bool true) := by rw [he]; exact congrArg (fun b => Ending.returned (.bool b)) (decide_eq_true rfl)
    subst he'
    have O6 := Lib.hid (O5.out.on hb)
    have B6 := Lib.hid (below_trans' B5.out hb)
    clear he hb X5 O5 B5
    go_wp2_with (fail)
    refine (flip_any _ _ _ S (kk : Int) (by omega) _ O6.out).mono ?_
    rintro e w7 ⟨v, rfl, hm, hb⟩
    have F7 := Lib.hid hm.str
    have hfl : (flipB S (kk : Int)).length ≤ 100000 := by rw [HFL.out]; omega
    obtain ⟨g7, rfl, _⟩ := hm
    have B7 := Lib.hid (below_trans' B6.out hb)
    clear hb O6 B6
    go_wp2_with (fail)
    refine (whole_any _ _ _ (flipB S (kk : Int)) hfl _ (Nat.lt_of_lt_of_le h0 B7.out.size) (HT.out.onB B7.out h0) F7.out).mono ?_
    rintro e w8 ⟨he, hb⟩
    rw [HFW.out] at he
    subst he
    have B8 := Lib.hid (below_trans' B7.out hb)
    clear hb F7 B7
    go_wp2_with (fail)
    go_ret
    exact ⟨rfl, B8.out⟩
  · have ht : xs = bs0 := by rw [hxs]; exact List.take_of_length_le (by omega)
    rw [← ht] at hI
    have S0 := Lib.hid hI
    clear ht hI hxs hlen hlc hT
    go_enter Tryd.func8, Tryd.ntmps8
    go_wp2_with (fail)
    refine (seal_any _ _ _ xs (by omega) _ h0 HT.out S0.out).mono ?_
    rintro e w2 ⟨v, rfl, ho, hb⟩
    rw [← HS.out] at ho
    obtain ⟨a2, c2, rfl⟩ := ho.shape
    have O2 := Lib.hid ho.str
    have B2 := Lib.hid hb
    clear ho hb S0 HS
    go_wp2_with (fail)
    refine (stuff_any _ _ _ S (by omega) _ O2.out).mono ?_
    rintro e w3 ⟨v, rfl, ho, hb⟩
    rw [← HU.out] at ho
    obtain ⟨a3, c3, rfl⟩ := ho.shape
    have U3 := Lib.hid ho.str
    have O3 := Lib.hid (O2.out.on hb)
    have B3 := Lib.hid (below_trans' B2.out hb)
    clear ho hb O2 B2 HU
    go_wp2_with (fail)
    refine (unstuff_any _ _ _ U hul _ U3.out).mono ?_
    rintro e w4 ⟨hb, h⟩
    have he : ∃ v, e = .returned (.tuple #[v, .int .i64 (U.length : Nat), .int .i64 0]) ∧ Ow w3.heap.size w4 v S := by
      rcases h with ⟨r, out, v, h, he, ho⟩ | ⟨k, s, hk, _, hn, _⟩
      · rw [HUN.out] at h
        cases h
        exact ⟨v, he, ho⟩
      · have := un_all (k := k + 1) (by omega) hn
        rw [HUN.out] at this
        cases this
    obtain ⟨v, rfl, ho⟩ := he
    obtain ⟨a4, c4, rfl⟩ := ho.shape
    have X4 := Lib.hid ho.str
    have O4 := Lib.hid (O3.out.on hb)
    have B4 := Lib.hid (below_trans' B3.out hb)
    clear h ho hb U3 O3 B3 HUN
    go_wp2_with (fail)
    refine (whole_any _ _ _ S (by omega) _ (Nat.lt_of_lt_of_le h0 B4.out.size) (HT.out.onB B4.out h0) X4.out).mono ?_
    rintro e w5 ⟨he, hb⟩
    rw [HSW.out] at he
    subst he
    have X5 := Lib.hid (X4.out.on hb)
    have O5 := Lib.hid (O4.out.on hb)
    have B5 := Lib.hid (below_trans' B4.out hb)
    clear hb X4 O4 B4
    go_wp2_with (fail)
    refine (same_any _ _ _ S _ _ _ S (by omega) _ X5.out O5.out).mono ?_
    rintro e w6 ⟨he, hb⟩
    have he' : e = .returned (.bool true) := by rw [he]; exact congrArg (fun b => Ending.returned (.bool b)) (decide_eq_true rfl)
    subst he'
    have O6 := Lib.hid (O5.out.on hb)
    have B6 := Lib.hid (below_trans' B5.out hb)
    clear he hb X5 O5 B5
    go_wp2_with (fail)
    refine (flip_any _ _ _ S (kk : Int) (by omega) _ O6.out).mono ?_
    rintro e w7 ⟨v, rfl, hm, hb⟩
    have F7 := Lib.hid hm.str
    have hfl : (flipB S (kk : Int)).length ≤ 100000 := by rw [HFL.out]; omega
    obtain ⟨g7, rfl, _⟩ := hm
    have B7 := Lib.hid (below_trans' B6.out hb)
    clear hb O6 B6
    go_wp2_with (fail)
    refine (whole_any _ _ _ (flipB S (kk : Int)) hfl _ (Nat.lt_of_lt_of_le h0 B7.out.size) (HT.out.onB B7.out h0) F7.out).mono ?_
    rintro e w8 ⟨he, hb⟩
    rw [HFW.out] at he
    subst he
    have B8 := Lib.hid (below_trans' B7.out hb)
    clear hb F7 B7
    go_wp2_with (fail)
    go_ret
    exact ⟨rfl, B8.out⟩
theorem door_met (os : Os) (args : Array Value) : laidMetH Tryd.prog laidD ((World.doorLaid Tryd.prog 400 os).forCall (fun _ _ => 0) ⟨#[], args, []⟩).memory :=
  laidMetH_of_parts3 (fuel := 8) (laidMet_of_run' 8 (by kernel_rfl) (by kernel_rfl)) (by kernel_rfl) (by kernel_rfl)
set_option maxRecDepth 100000 in
theorem lifted (os : Os) (started : os.Started) (H : Type) (enc : TypeId × Value → H) :
    ReturnsInHanded {} Tryd.checked os 8 .any (fun w args => (Rows.topSealedSpec.pre enc Tryd.prog Tryd.f8 [] false w args ∧ laidMetH Tryd.prog laidD w) ∧ sizedMet enc Tryd.prog Tryd.f8 (OpenSpec.ofChange Rows.topSealedSpec) false w args)
      (Rows.topSealedSpec.post enc Tryd.prog Tryd.f8 false true false false) := by
  refine returnsInHanded_of_change_and (C := Tryd.checked) (X := fun w _ => laidMetH Tryd.prog laidD w) (fun _ _ _ hh h => h.of_heap hh) own started (by kernel_rfl) Tryd.func8
    (ChangeSpec.witness_shaped (enc := enc) (C := Tryd.checked) (os := os) (X := fun w _ => laidMetH Tryd.prog laidD w) false (World.doorLaid Tryd.prog 400 os) #[.slice none 0 0, .int .u16 0] 8 rfl (World.shaped_of_RefB (by kernel_rfl) (by kernel_rfl)) (by kernel_rfl) (by kernel_rfl) (by kernel_rfl) (door_met os _)) ?_
  intro W base args ds gs before hval0 hW _ _ hL _
  have hval : ∀ (j : Nat) t v, Tryd.f8.params[j]? = some t → args[j]? = some v → Value.okWide Tryd.prog W .any base t v := hval0
  have hW' := hW
  obtain ⟨p, q, hA0, hV, rfl, hfz, hnd⟩ := hW
  have hA : DataW.TrodAll enc Tryd.prog W 0 (fun _ => true) true Tryd.f8.params.toList args.toList ds p := hA0
  rw [Tryd.params8] at hA hval
  obtain ⟨v0, vs0, d0, ds0, p0, q0, hargs, rfl, rfl, h0, r0⟩ := trodAll_cons hA
  obtain ⟨v1, vs1, d1, ds1, p1, q1, rfl, rfl, rfl, h1, r1⟩ := trodAll_cons r0
  obtain ⟨rfl, rfl, rfl⟩ := trodAll_nil r1
  obtain rfl : args = #[v0, v1] := by cases args; simp_all
  obtain ⟨rfl, rfl⟩ := trodVars_none hV
  obtain ⟨a0, len0, cap0, rfl⟩ := okWide_slice Tryd.underlying23 (hval 0 23 v0 rfl rfl)
  have k0 := h0
  have lt0 : ∀ x ∈ p0, x.block < W.heap.size := by obtain ⟨m, hm⟩ := k0; exact DataW.trod_lt m _ _ _ hm
  obtain ⟨z0, w0⟩ : ∃ zs, IsRow W a0 len0 cap0 zs := by
    obtain ⟨fuel, hf⟩ := h0
    rcases open_ints Tryd.underlying23 Tryd.underlying5 (by kernel_rfl) hf with ⟨hcs, _⟩ | ⟨x, l, c, zs, hcs, _, hl, hm, hz, _, hcell, hwz⟩
    · simp [Value.cells] at hcs
      obtain ⟨rfl, rfl, rfl⟩ := hcs
      exact ⟨[], .inl ⟨rfl, rfl, rfl, rfl⟩⟩
    · simp [Value.cells] at hcs
      obtain ⟨rfl, rfl, rfl⟩ := hcs
      exact ⟨zs, .inr ⟨_, rfl, hl, hm, by simpa using hz, hcell, hwz⟩⟩
  obtain ⟨a1, rfl, rfl, rfl, w1⟩ := open_int Tryd.underlying22 (hval 1 22 v1 rfl rfl) h1
  clear hA0 hval0
  obtain ⟨hTab, hsz0⟩ := tab_of_laid hL
  refine (walk a0 len0 cap0 z0 a1 W w0 w1 hsz0 hTab).mono fun e W' ⟨he, bel⟩ => ?_
  subst he
  exact ⟨_, rfl, _, _, _, [], _, [], hW', trodAll_mk1 (shut_bool Tryd.underlying4 _), (trodAll_cons_mk (Below.trod laidOut (by kernel_rfl) (of_decide_eq_true (by kernel_rfl)) k0 bel lt0) (trodAll_cons_mk (shut_int Tryd.underlying22 w1) trodAll_mk0)), rfl, bel.frame _, fun h => by cases h⟩
theorem over : Rows.topSealedRow.holds Tryd.pinned (OpenSpec.ofChange Rows.topSealedSpec) :=
  OpenClaim.holds_of_wide 8 Tryd.f8 rfl rfl rfl rfl rfl rfl rfl ⟨rfl, rfl, rfl, rfl, rfl⟩ rfl rfl rfl rfl rfl (by kernel_rfl) Tryd.func8 (by kernel_rfl)
    (of_decide_eq_true (by kernel_rfl)) (by unfold Func.isWrapper; first | (rw [if_pos (by decide +kernel)]; kernel_rfl) | (rw [if_neg (by decide +kernel)]; exact ⟨rfl, rfl⟩))
    (fun os started H enc _ => lifted os started H enc)
/-- The statement: the row, and what it lists tied to the program's text. -/
theorem proved : Rows.TopSealedCardSaid :=
  Claim7.holds_tied_plain_at .later [] [.data] true _ false
    over (fun _ h => by cases h) (by kernel_rfl) (fun _ h => by cases h) topSealed_row_tie rfl ⟨rfl, rfl⟩ (by kernel_rfl) rfl
    (fun f fn hf hfn => by
      obtain rfl : f = 8 := Option.some.inj ((show Tryd.prog.funcNamed "bellbuoy/bellbuoytop.TopSealed" = some 8 by kernel_rfl).symm.trans hf) |>.symm
      obtain rfl : fn = Tryd.f8 := (Option.some.inj (Tryd.func8.symm.trans hfn)).symm
      exact ⟨by kernel_rfl, fun j t ht => by
        rw [Tryd.params8] at ht
        have hm : t ∈ [23, 22] := by simpa using Array.mem_of_getElem? ht
        have hall : ([23, 22].all fun u => !Tryd.prog.wantsStandIn u) = true := by kernel_rfl
        exact (show Tryd.prog.wantsStandIn t = false by simpa using List.all_eq_true.1 hall t hm)⟩)
    (by kernel_rfl)
end Go.Proofs.YtdnonahpoklbfaaDoor.topSealed
