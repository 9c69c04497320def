/- The statement that what several strings have in common is what the document says holds: for every strings the law answers true. No conditions. -/
import Derived.Test.YtggohojgmlchbaaRows
import Derived.Test.YtggohojgmlchbaaRfe
import Derived.WalkKit
import Derived.ProofKit
import Derived.OpenShut
import Derived.ShutString
import Derived.ChangeOld
import Derived.Below
namespace Go.Proofs.Ytggohojgmlchbaa.strandWire
open Go.ChangeShapes Go.WideShapes Go.ChangeAt Go.RowKit
theorem own : ownKnob Try.prog.godebug = none := by kernel_rfl
theorem laidOut : laidOutB Try.prog = true := by kernel_rfl
set_option maxHeartbeats 1000000 in
theorem walk (a0 : Option Addr) (len0 cap0 : Nat) (M0 : List (Value × List Nat)) (w : World) (w0 : Strs w.heap.size w (.slice a0 len0 cap0) M0) :
    Calls Try.prog 10 #[.slice a0 len0 cap0] w fun e w' => e = .returned (.bool true) ∧ Below w.heap.size w w' := by
  have HI := Lib.hid w0
  clear w0
  obtain ⟨i0, hi, hz0, hz1, hz2⟩ := info_parts info_sl
  go_enter Try.func10, Try.ntmps10
  go_wp2_with (fail)
  go_loopw [3, 4] (fun v i wr => ∃ (k : Nat) (M : List (Value × List Nat)), k ≤ len0 ∧ k ≤ 20 ∧ i = .int .i64 k ∧ M.length = k ∧ OwS w wr v M ∧ Below w.heap.size w wr) (fun _ i _ => 20 - (intOf i).toNat)
  case atStart => exact ⟨0, [], Nat.zero_le _, by omega, rfl, rfl, OwS.nil _ _, Below.refl _ _⟩
  case round =>
    obtain ⟨k, M, hk, hk20, rfl, hM, hown, hnx⟩ := hrel
    by_cases hlt : k < len0 ∧ k < 20
    · obtain ⟨hk1, hk2⟩ := hlt
      obtain ⟨b, off, pa, pc, pb, rfl, _, hc, hp⟩ := HI.out.at hk1
      have hc1 := hc wr hnx
      have HFE := Lib.hid (few_gen pa pb.length pc pb _ w wr hp)
      have hown' := hown.1
      rw [hM] at hown'
      have HNX := Lib.hid hnx; have HOWN := Lib.hid hown; have HOWN' := Lib.hid hown'; have HM := Lib.hid hM
      clear hc hp hnx hown hown' hM
      go_wp2_with (fail)
      refine HFE.out.mono ?_
      rintro e w' ⟨⟨a', len', cap', rfl, hS⟩, rfl⟩
      have HS := Lib.hid hS
      clear hS HFE hc1
      go_wp2_with (at_builtin; refine wpList_append_own _ rfl _ _ 37 rfl w.heap.size 30 i0 (.slice none 0 0) 1 24 Try.underlying37 hi hz0 hz1 hz2 rfl (by decide) _ _ _ rfl (HOWN'.out.alloc _) ⟨wr.heap.size, 0, none⟩ 1 1 [.slice a' len' cap'] rfl rfl one_cell slice_flat ?c3 ?c4 ?c5 ?_)
      case c3 => unfold maxLen; omega
      case c4 => omega
      case c5 => have := HNX.out.size; simp; omega
      intro v' w1 hown2 hgrow _
      have HO := Lib.hid (show OwS w w1 v' (M ++ [(.slice a' len' cap', pb.take 500)]) from OwS.snoc (by rw [HM.out]; exact hown2) HOWN.out.2 (by rw [List.length_take]; omega) HS.out)
      have HB := Lib.hid ((HNX.out.alloc HNX.out.size _).grown hgrow (by have := HNX.out.size; simp; omega) (fun j e => (World.ownsRow.lt HOWN.out.1 j e).1))
      clear hown2 hgrow HNX HOWN HOWN'
      go_wp2
      go_roundw
      case rel => exact ⟨k + 1, _, by omega, by omega, by simp, by rw [List.length_append, HM.out]; rfl, HO.out, HB.out⟩
      case measure => simp [intOf]; omega
    · obtain ⟨ao, co, rfl⟩ := hown.shape
      have HSM := Lib.hid hown.2
      have S0 := Lib.hid (hown.strs hnx)
      have B0 := Lib.hid hnx
      clear hown hnx hi hz0 hz1 hz2
      subst hM
      by_cases hk1 : M.length < len0
      · have hk2 : ¬ M.length < 20 := fun h => hlt ⟨hk1, h⟩
        clear hlt
        go_wp2_with (fail)
        refine (live_st _).mono ?_
        rintro e w1 ⟨rfl, hb⟩
        have B1 := Lib.hid (below_trans' B0.out hb)
        have S1 := Lib.hid (S0.out.on hb)
        clear hb B0 S0
        go_wp2_with (fail)
        refine (and_any _ _ _ M (fun p hp => by have := (HSM.out p hp).1; omega) _ S1.out).mono ?_
        rintro e w2 ⟨v, rfl, hm, hb⟩
        have B2 := Lib.hid (below_trans' B1.out hb)
        have S2 := Lib.hid (S1.out.on hb)
        have T2 := Lib.hid hm.str
        obtain ⟨c, rfl, _, _, _⟩ := hm
        clear hb B1 S1
        go_wp2_with (fail)
        refine (refAnd_any _ _ _ M (by omega) (fun p hp => (HSM.out p hp).1) _ S2.out).mono ?_
        rintro e w3 ⟨v, rfl, hm, hb⟩
        have B3 := Lib.hid (below_trans' B2.out hb)
        have T3 := Lib.hid (T2.out.on hb)
        have U3 := Lib.hid hm.str
        obtain ⟨a1, c1, rfl⟩ := hm.shape
        clear hm hb B2 S2 T2
        go_wp2_with (fail)
        refine (bytes_any _ _ _ (andB (M.map (·.2))) _ _ _ (andB (M.map (·.2))) _ T3.out U3.out).mono ?_
        rintro e w4 ⟨he, hb⟩
        have he' : e = .returned (.bool true) := by rw [he, decide_eq_true rfl]
        subst he'
        have B4 := Lib.hid (below_trans' B3.out hb)
        clear he hb B3 T3 U3
        go_wp2_with (fail)
        go_ret
        exact ⟨rfl, B4.out⟩
      · clear hlt
        go_wp2_with (fail)
        refine (live_st _).mono ?_
        rintro e w1 ⟨rfl, hb⟩
        have B1 := Lib.hid (below_trans' B0.out hb)
        have S1 := Lib.hid (S0.out.on hb)
        clear hb B0 S0
        go_wp2_with (fail)
        refine (and_any _ _ _ M (fun p hp => by have := (HSM.out p hp).1; omega) _ S1.out).mono ?_
        rintro e w2 ⟨v, rfl, hm, hb⟩
        have B2 := Lib.hid (below_trans' B1.out hb)
        have S2 := Lib.hid (S1.out.on hb)
        have T2 := Lib.hid hm.str
        obtain ⟨c, rfl, _, _, _⟩ := hm
        clear hb B1 S1
        go_wp2_with (fail)
        refine (refAnd_any _ _ _ M (by omega) (fun p hp => (HSM.out p hp).1) _ S2.out).mono ?_
        rintro e w3 ⟨v, rfl, hm, hb⟩
        have B3 := Lib.hid (below_trans' B2.out hb)
        have T3 := Lib.hid (T2.out.on hb)
        have U3 := Lib.hid hm.str
        obtain ⟨a1, c1, rfl⟩ := hm.shape
        clear hm hb B2 S2 T2
        go_wp2_with (fail)
        refine (bytes_any _ _ _ (andB (M.map (·.2))) _ _ _ (andB (M.map (·.2))) _ T3.out U3.out).mono ?_
        rintro e w4 ⟨he, hb⟩
        have he' : e = .returned (.bool true) := by rw [he, decide_eq_true rfl]
        subst he'
        have B4 := Lib.hid (below_trans' B3.out hb)
        clear he hb B3 T3 U3
        go_wp2_with (fail)
        go_ret
        exact ⟨rfl, B4.out⟩
set_option maxRecDepth 100000 in
theorem lifted (os : Os) (started : os.Started) (H : Type) (enc : TypeId × Value → H) :
    ReturnsInHanded {} Try.checked os 10 .any (Rows.strandWireSpec.pre6 enc Try.prog Try.f10 Rows.strandWireRow.domain false) (Rows.strandWireSpec.post enc Try.prog Try.f10 false true false false) := by
  refine returnsInHanded_of_change (C := Try.checked) own started (by kernel_rfl) Try.func10
    (ChangeSpec.witness6 (enc := enc) (C := Try.checked) false ⟨#[], #[.slice none 0 0], []⟩ 8 (by kernel_rfl) (by kernel_rfl) (by kernel_rfl) (by kernel_rfl)) ?_
  intro W base args ds gs before hval0 hW _ _
  have hval : ∀ (j : Nat) t v, Try.f10.params[j]? = some t → args[j]? = some v → Value.okWide Try.prog W .any base t v := hval0
  have hW' := hW
  obtain ⟨p, q, hA0, hV, rfl, hfz, hnd⟩ := hW
  have hA : DataW.TrodAll enc Try.prog W 0 (fun _ => true) true Try.f10.params.toList args.toList ds p := hA0
  rw [Try.params10] at hA hval
  obtain ⟨v0, vs0, d0, ds0, p0, q0, hargs, rfl, rfl, h0, r0⟩ := trodAll_cons hA
  obtain ⟨rfl, rfl, rfl⟩ := trodAll_nil r0
  obtain rfl : args = #[v0] := by cases args; simp_all
  obtain ⟨rfl, rfl⟩ := trodVars_none hV
  obtain ⟨a0, len0, cap0, rfl⟩ := okWide_slice Try.underlying37 (hval 0 37 v0 rfl rfl)
  have k0 := h0
  have lt0 : ∀ x ∈ p0, x.block < W.heap.size := by obtain ⟨m, hm⟩ := k0; exact DataW.trod_lt m _ _ _ hm
  obtain ⟨z0, w0⟩ : ∃ M, Strs W.heap.size W (.slice a0 len0 cap0) M := by
    obtain ⟨fuel, hf⟩ := h0
    rcases Deep.open_int_rows Try.underlying37 Try.underlying30 Try.underlying5 (by kernel_rfl) (by kernel_rfl) hf with ⟨hcs, _⟩ | ⟨x, l, c, A, L, C, Z, hcs, _, hl, hm, _, hr⟩
    · simp [Value.cells] at hcs
      obtain ⟨rfl, rfl, rfl⟩ := hcs
      exact ⟨[], .inl ⟨none, 0, rfl, by omega, rfl⟩⟩
    · simp [Value.cells] at hcs
      obtain ⟨rfl, rfl, rfl⟩ := hcs
      exact rows_strs hl hm (fun r hrc => ⟨(hr r hrc).1, isRow_of (hr r hrc).2.1 (hr r hrc).2.2.1 (hr r hrc).2.2.2.1 (hr r hrc).2.2.2.2.1 (hr r hrc).2.2.2.2.2.1 (fun a' ha c hc => ((hr r hrc).2.2.2.2.2.2 a' ha).2 c hc)⟩)
  clear hA0 hval0
  refine (walk a0 len0 cap0 z0 W w0).mono fun e W' ⟨he, bel⟩ => ?_
  subst he
  exact ⟨_, rfl, _, _, _, [], _, [], hW', trodAll_mk1 (shut_bool Try.underlying4 _), (trodAll_cons_mk (Below.trod laidOut (by kernel_rfl) (of_decide_eq_true (by kernel_rfl)) k0 bel lt0) trodAll_mk0), rfl, bel.frame _, fun h => by cases h⟩
theorem over : Rows.strandWireRow.holds Try.pinned (OpenSpec.ofChange Rows.strandWireSpec) :=
  OpenClaim.holds_of_wide 10 Try.f10 rfl rfl rfl rfl rfl rfl rfl ⟨rfl, rfl, rfl, rfl, rfl⟩ rfl rfl rfl rfl rfl (by kernel_rfl) Try.func10 (by kernel_rfl)
    (of_decide_eq_true (by kernel_rfl)) (by unfold Func.isWrapper; first | (rw [if_pos (by decide +kernel)]; kernel_rfl) | (rw [if_neg (by decide +kernel)]; exact ⟨rfl, rfl⟩))
    (fun os started H enc _ => lifted os started H enc)
/-- The statement. -/
theorem proved : Rows.StrandWireSaid := over
end Go.Proofs.Ytggohojgmlchbaa.strandWire
