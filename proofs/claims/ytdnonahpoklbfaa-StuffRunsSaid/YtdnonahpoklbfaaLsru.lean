/- The statement of P4.4 (StuffRuns): no six alike bits stand together in what was stuffed; a string in which six do is refused, at the sixth or ahead of it. Conditions: none. -/
import Derived.Test.YtdnonahpoklbfaaRows
import Derived.Test.YtdnonahpoklbfaaSfl
import Derived.LoopNIn
import Derived.LoopIn
import Derived.WalkKit
import Derived.ProofKit
import Derived.OpenShut
import Derived.ShutString
import Derived.ChangeOld
import Derived.Below
namespace Go.Proofs.Ytdnonahpoklbfaa.stuffRuns
open Go.ChangeShapes Go.WideShapes Go.ChangeAt Go.RowKit
theorem own : ownKnob Try.prog.godebug = none := by kernel_rfl
theorem laidOut : laidOutB Try.prog = true := by kernel_rfl
theorem str_mid {n₀ k len cap : Nat} {a : Option Addr} {W : World} {bs : List Nat} (h : Str n₀ W (.slice a len cap) bs) (hk : k + 6 ≤ len) : Str n₀ W (.slice (Option.map (fun x => x.add k) a) 6 (cap - k)) ((bs.drop k).take 6) := by
  obtain ⟨m, rfl⟩ : ∃ m, len = k + m := ⟨len - k, by omega⟩
  have hl := h.len
  exact h.drop.take (by rw [List.length_drop]; omega)
theorem six_bits (xs : List Nat) (i : Nat) (h : i + 6 ≤ xs.length) : bitsOf ((xs.drop i).take 6) = [bitAt xs i, bitAt xs (i + 1), bitAt xs (i + 2), bitAt xs (i + 3), bitAt xs (i + 4), bitAt xs (i + 5)] := by
  apply List.ext_getElem
  · simp [bitsOf]; omega
  · intro j h1 h2
    have hj : j < 6 := by simpa using h2
    have e : (bitsOf ((xs.drop i).take 6))[j] = bitAt xs (i + j) := by
      simp [bitsOf, bitAt, show i + j < xs.length by omega]
    rw [e]
    obtain rfl | rfl | rfl | rfl | rfl | rfl : j = 0 ∨ j = 1 ∨ j = 2 ∨ j = 3 ∨ j = 4 ∨ j = 5 := by omega
    all_goals rfl
theorem six_bad (xs : List Nat) (i : Nat) (h : i + 6 ≤ xs.length) (h6 : (runF (bitsOf ((xs.drop i).take 6))).1 = 6) : uFold (bitsTo xs (i + 6)) = none := by
  rw [six_bits xs i h] at h6
  have e := run_six (bitAt_le _ _) (bitAt_le _ _) (bitAt_le _ _) (bitAt_le _ _) (bitAt_le _ _) (bitAt_le _ _) h6
  have e2 : bitsTo xs (i + 6) = bitsTo xs i ++ [bitAt xs i, bitAt xs (i + 1), bitAt xs (i + 2), bitAt xs (i + 3), bitAt xs (i + 4), bitAt xs (i + 5)] := by
    rw [show i + 6 = i + 1 + 1 + 1 + 1 + 1 + 1 by omega, bitsTo_succ, bitsTo_succ, bitsTo_succ, bitsTo_succ, bitsTo_succ, bitsTo_succ]
    simp
  rw [e2, e]
  exact six_alike _ _ (bitAt_le _ _)
set_option maxHeartbeats 1000000 in
theorem walk (a0 : Option Addr) (len0 cap0 : Nat) (z0 : List Int) (w : World) (w0 : IsRow w a0 len0 cap0 z0) :
    Calls Try.prog 6 #[.slice a0 len0 cap0] w fun e w' => e = .returned (.bool true) ∧ Below w.heap.size w w' := by
  obtain ⟨bs0, _, hI⟩ := isRow_str w0
  clear w0
  have CF := Lib.hid (few3_any a0 len0 cap0 bs0 w hI)
  obtain ⟨xs, hxs⟩ : ∃ xs, xs = bs0.take 200 := ⟨_, rfl⟩
  rw [← hxs] at CF
  have hxl : xs.length ≤ 200 := by rw [hxs, List.length_take]; omega
  clear hxs hI
  obtain ⟨ss, hss⟩ : ∃ ss, ss = stuffB (bitsOf xs) := ⟨_, rfl⟩
  have hmost := (stuff_most (bitsOf xs)).2
  rw [← hss, bitsOf_length] at hmost
  have hsl : ss.length ≤ 1000 := by omega
  obtain ⟨ru, hru⟩ : ∃ ru, ru = (runF (bitsOf ss)).1 := ⟨_, rfl⟩
  have hru5 : ru ≤ 5 := by
    rw [hru, hss, bits_self _ (sStep_le _ (bitsOf_le xs))]
    exact (stuff_runs _ _ rfl (bitsOf_le xs)).1
  have HSS := Lib.hid hss; have HRU := Lib.hid hru
  clear hss hmost hru
  go_enter Try.func6, Try.ntmps6
  go_wp2_with (fail)
  refine CF.out.mono ?_
  rintro e w1 ⟨⟨a', len', cap', rfl, hS⟩, rfl⟩
  obtain rfl := hS.len
  have S0 := Lib.hid hS
  clear hS CF
  go_wp2_with (fail)
  refine (stuff_any _ _ _ xs (by omega) _ S0.out).mono ?_
  rintro e w2 ⟨v, rfl, ho, hb⟩
  rw [← HSS.out] at ho
  obtain ⟨a2, c2, rfl⟩ := ho.shape
  have T2 := Lib.hid ho.str
  have S2 := Lib.hid (S0.out.on hb)
  have B2 := Lib.hid hb
  clear ho hb S0
  go_wp2_with (fail)
  refine (refRun_any _ _ _ ss hsl _ T2.out).mono ?_
  rintro e w3 ⟨rfl, hb⟩
  rw [← HRU.out]
  have S3 := Lib.hid (S2.out.on hb)
  have B3 := Lib.hid (below_trans' B2.out hb)
  clear hb T2 S2 B2 HRU
  go_wp2_with (fail)
  refine (unstuff_any _ _ _ xs (by omega) _ S3.out).mono ?_
  rintro e w4 ⟨hb, h⟩
  have he : ∃ (v : Value) (at' er : Nat), e = .returned (.tuple #[v, .int .i64 (at' : Nat), .int .i64 (er : Nat)]) ∧ ∀ i, i + 6 ≤ xs.length → (runF (bitsOf ((xs.drop i).take 6))).1 = 6 → er = 4 ∧ at' ≤ i + 5 := by
    rcases h with ⟨r, out, v, h, he, _⟩ | ⟨k, s, hk, hs, hn, he⟩
    · refine ⟨v, xs.length, 0, he, fun i hi h6 => ?_⟩
      have := un_all (k := i + 6) hi (six_bad xs i hi h6)
      rw [h] at this
      cases this
    · refine ⟨_, k, 4, he, fun i hi h6 => ⟨rfl, ?_⟩⟩
      by_cases c : k ≤ i + 5
      · exact c
      · have := un_more (six_bad xs i hi h6) (k - (i + 6))
        rw [show i + 6 + (k - (i + 6)) = k by omega, hs] at this
        cases this
  obtain ⟨v, at', er, rfl, hbad⟩ := he
  have HBAD := Lib.hid hbad
  have S4 := Lib.hid (S3.out.on hb)
  have B4 := Lib.hid (below_trans' B3.out hb)
  have hcl := S4.out.lenCap
  have hcm := S4.out.capLe
  clear h hb S3 B3 hbad
  go_wp2_with (fail)
  go_loopw [6] (fun i wr => ∃ k : Nat, i = .int .i64 k ∧ k ≤ xs.length ∧ Below w4.heap.size w4 wr) (fun i _ => xs.length - (intOf i).toNat)
  case atStart => exact ⟨0, rfl, Nat.zero_le _, Below.refl _ _⟩
  case round =>
    obtain ⟨k, rfl, hk, hnx⟩ := hrel
    have HNX := Lib.hid hnx
    clear hnx
    by_cases hlt : k + 6 ≤ xs.length
    · have HM := Lib.hid (str_mid (S4.out.on HNX.out) hlt)
      have hne : k ≠ cap' := by omega
      have hkc : k ≤ cap' := by omega
      obtain ⟨q, hq⟩ : ∃ q, q = (runF (bitsOf ((xs.drop k).take 6))).1 := ⟨_, rfl⟩
      have HR := Lib.hid (refRun_any _ _ _ _ (by rw [List.length_take]; omega) _ HM.out)
      rw [← hq] at HR
      have HQ := Lib.hid hq
      clear hq
      go_wp2_with (fail)
      refine HR.out.mono ?_
      rintro e w5 ⟨rfl, hb⟩
      have B5 := Lib.hid (below_trans' HNX.out hb)
      clear hb
      by_cases h6 : q = 6
      · obtain ⟨her, hat⟩ := HBAD.out k hlt (by rw [← HQ.out]; exact h6)
        subst her
        have hq6 : ((q : Int) == 6) = true := by simp; omega
        go_wp2_with (fail)
        refine (live4 _).mono ?_
        rintro e w6 ⟨rfl, hb⟩
        have B6 := Lib.hid (below_trans' (below_trans' B4.out B5.out) hb)
        clear hb
        go_wp2_with (fail)
        go_ret
        exact ⟨by show Ending.returned (.bool (decide ((at' : Int) ≤ (k : Int) + 5))) = _; rw [decide_eq_true (by omega)], B6.out⟩
      · have hq6 : ((q : Int) == 6) = false := by simp; omega
        go_wp2_with (fail)
        go_roundw
        case rel => exact ⟨k + 1, by simp, by omega, B5.out⟩
        case measure => simp [intOf]; omega
    · go_wp2_with (fail)
      refine (live4 _).mono ?_
      rintro e w5 ⟨rfl, hb⟩
      have B5 := Lib.hid (below_trans' (below_trans' B4.out HNX.out) hb)
      clear hb
      go_wp2_with (fail)
      go_ret
      exact ⟨rfl, B5.out⟩
set_option maxRecDepth 100000 in
theorem lifted (os : Os) (started : os.Started) (H : Type) (enc : TypeId × Value → H) :
    ReturnsInHanded {} Try.checked os 6 .any (Rows.stuffRunsSpec.pre6 enc Try.prog Try.f6 Rows.stuffRunsRow.domain false) (Rows.stuffRunsSpec.post enc Try.prog Try.f6 false true false false) := by
  refine returnsInHanded_of_change (C := Try.checked) own started (by kernel_rfl) Try.func6
    (ChangeSpec.witness6 (enc := enc) (C := Try.checked) false ⟨#[], #[.slice none 0 0], []⟩ 8 (by kernel_rfl) (by kernel_rfl) (by kernel_rfl) (by kernel_rfl)) ?_
  intro W base args ds gs before hval0 hW _ _
  have hval : ∀ (j : Nat) t v, Try.f6.params[j]? = some t → args[j]? = some v → Value.okWide Try.prog W .any base t v := hval0
  have hW' := hW
  obtain ⟨p, q, hA0, hV, rfl, hfz, hnd⟩ := hW
  have hA : DataW.TrodAll enc Try.prog W 0 (fun _ => true) true Try.f6.params.toList args.toList ds p := hA0
  rw [Try.params6] at hA hval
  obtain ⟨v0, vs0, d0, ds0, p0, q0, hargs, rfl, rfl, h0, r0⟩ := trodAll_cons hA
  obtain ⟨rfl, rfl, rfl⟩ := trodAll_nil r0
  obtain rfl : args = #[v0] := by cases args; simp_all
  obtain ⟨rfl, rfl⟩ := trodVars_none hV
  obtain ⟨a0, len0, cap0, rfl⟩ := okWide_slice Try.underlying36 (hval 0 36 v0 rfl rfl)
  have k0 := h0
  have lt0 : ∀ x ∈ p0, x.block < W.heap.size := by obtain ⟨m, hm⟩ := k0; exact DataW.trod_lt m _ _ _ hm
  obtain ⟨z0, w0⟩ : ∃ zs, IsRow W a0 len0 cap0 zs := by
    obtain ⟨fuel, hf⟩ := h0
    rcases open_ints Try.underlying36 Try.underlying5 (by kernel_rfl) hf with ⟨hcs, _⟩ | ⟨x, l, c, zs, hcs, _, hl, hm, hz, _, hcell, hwz⟩
    · simp [Value.cells] at hcs
      obtain ⟨rfl, rfl, rfl⟩ := hcs
      exact ⟨[], .inl ⟨rfl, rfl, rfl, rfl⟩⟩
    · simp [Value.cells] at hcs
      obtain ⟨rfl, rfl, rfl⟩ := hcs
      exact ⟨zs, .inr ⟨_, rfl, hl, hm, by simpa using hz, hcell, hwz⟩⟩
  clear hA0 hval0
  refine (walk a0 len0 cap0 z0 W w0).mono fun e W' ⟨he, bel⟩ => ?_
  subst he
  exact ⟨_, rfl, _, _, _, [], _, [], hW', trodAll_mk1 (shut_bool Try.underlying4 _), (trodAll_cons_mk (Below.trod laidOut (by kernel_rfl) (of_decide_eq_true (by kernel_rfl)) k0 bel lt0) trodAll_mk0), rfl, bel.frame _, fun h => by cases h⟩
theorem over : Rows.stuffRunsRow.holds Try.pinned (OpenSpec.ofChange Rows.stuffRunsSpec) :=
  OpenClaim.holds_of_wide 6 Try.f6 rfl rfl rfl rfl rfl rfl rfl ⟨rfl, rfl, rfl, rfl, rfl⟩ rfl rfl rfl rfl rfl (by kernel_rfl) Try.func6 (by kernel_rfl)
    (of_decide_eq_true (by kernel_rfl)) (by unfold Func.isWrapper; first | (rw [if_pos (by decide +kernel)]; kernel_rfl) | (rw [if_neg (by decide +kernel)]; exact ⟨rfl, rfl⟩))
    (fun os started H enc _ => lifted os started H enc)
/-- The statement. -/
theorem proved : Rows.StuffRunsSaid := over
end Go.Proofs.Ytdnonahpoklbfaa.stuffRuns
