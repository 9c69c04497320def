/- The statement of P10.4 (CountOff): sixteen fails make who sent passive, thirty-two take it off the bus, and fewer do not. No conditions. -/
import Derived.Test.YtkmajhecjjhmbaaRows
import Derived.Test.YtkmajhecjjhmbaaCnl
import Derived.Deep.DeepCutAuto
import Derived.WalkKit
import Derived.ProofKit
import Derived.OpenShut
import Derived.ShutString
import Derived.ChangeOld
import Derived.Below
namespace Go.Proofs.Ytkmajhecjjhmbaa.countOff
open Go.ChangeShapes Go.WideShapes Go.ChangeAt Go.RowKit
theorem own : ownKnob Try.prog.godebug = none := by kernel_rfl
theorem laidOut : laidOutB Try.prog = true := by kernel_rfl
def cT (j : Nat) : Int := if 32 ≤ j then 256 else ((8 * j : Nat) : Int)
theorem cT_can (j : Nat) : rightC (cT j) 0 (decide (32 ≤ j)) = true := by
  rw [rightC_iff]
  unfold cT
  by_cases h : 32 ≤ j
  · rw [if_pos h, decide_eq_true h]; simp
  · rw [if_neg h, decide_eq_false h]
    refine ⟨by omega, by omega, by omega, by omega, ?_⟩
    have : (((8 * j : Nat) : Int) == 256) = false := by rw [beq_eq_false_iff_ne]; omega
    rw [this]
theorem cT_fail (j : Nat) (u : World) : Calls Try.prog 11 #[.agg #[.int .i64 (cT j), .int .i64 0, .bool (decide (32 ≤ j))]] u fun x w' => x = .returned (.agg #[.int .i64 (cT (j + 1)), .int .i64 0, .bool (decide (32 ≤ j + 1))]) ∧ Below u.heap.size u w' := by
  have h := txFail_any (cT j) 0 (decide (32 ≤ j)) u
  have hc := cT_can j
  have e1 : nT (cT j) 0 (decide (32 ≤ j)) = cT j := by unfold nT; rw [if_pos hc]
  have e2 : nR (cT j) 0 (decide (32 ≤ j)) = 0 := by unfold nR; rw [if_pos hc]
  have e3 : txF (cT j) = cT (j + 1) := by unfold txF cT; split <;> split <;> (try split) <;> omega
  have e4 : decide (248 ≤ cT j) = decide (32 ≤ j + 1) := by
    rw [Bool.eq_iff_iff, decide_eq_true_iff, decide_eq_true_iff]; unfold cT; split <;> omega
  rw [e1, e2, e3, e4] at h
  exact h
theorem cT_mode (j : Nat) (u : World) : Calls Try.prog 9 #[.agg #[.int .i64 (cT j), .int .i64 0, .bool (decide (32 ≤ j))]] u fun x w' => x = .returned (.int .i64 (if 32 ≤ j then 2 else if 16 ≤ j then 1 else 0)) ∧ Below u.heap.size u w' := by
  have h := mode_any (cT j) 0 (decide (32 ≤ j)) u
  have hc := cT_can j
  have e1 : nT (cT j) 0 (decide (32 ≤ j)) = cT j := by unfold nT; rw [if_pos hc]
  have e2 : nR (cT j) 0 (decide (32 ≤ j)) = 0 := by unfold nR; rw [if_pos hc]
  have e3 : moF (cT j) 0 = if 32 ≤ j then 2 else if 16 ≤ j then 1 else 0 := by
    unfold moF cT
    by_cases h : 32 ≤ j
    · rw [if_pos h, if_pos rfl, if_pos h]
    · rw [if_neg h, if_neg h, if_neg (by omega)]
      by_cases g : 16 ≤ j
      · rw [if_pos g, if_pos (by omega)]
      · rw [if_neg g, if_neg (by omega)]
  rw [e1, e2, e3] at h
  exact h
set_option maxHeartbeats 4000000 in
theorem walk (n : Int) (hn : (Lit.int .u8 n).wf = true) (w : World) :
    Calls Try.prog 5 #[.int .u8 n] w fun e w' => e = .returned (.bool true) ∧ Below w.heap.size w w' := by
  have hr : 0 ≤ n ∧ n ≤ 255 := by
    simp [Lit.wf, IntKind.min, IntKind.max, IntKind.bits, IntKind.signed] at hn
    omega
  clear hn
  obtain ⟨g0, g1⟩ := hr
  have hw0 : IntKind.i64.wrap n = n := by rw [IntKind.wrap_i64]; omega
  obtain ⟨k, hk⟩ : ∃ k : Nat, (k : Int) = n.tmod 40 := ⟨(n.tmod 40).toNat, by rw [Int.tmod_eq_emod_of_nonneg g0]; omega⟩
  have hk40 : k < 40 := by rw [Int.tmod_eq_emod_of_nonneg g0] at hk; omega
  have hrem : n.tmod 40 = (k : Int) := hk.symm
  clear hk
  go_enter Try.func5, Try.ntmps5
  go_wp2_with (fail)
  have HT0 := Lib.hid (Tri.new w (.int .i64 0) (.int .i64 0) (.bool false) 23 rfl)
  have HB0 := Lib.hid ((Below.refl w.heap.size w).alloc (Nat.le_refl _) (.cells #[.int .i64 0, .int .i64 0, .bool false] 23))
  go_loopw [5] (fun i wr => ∃ j : Nat, j ≤ k ∧ i = .int .i64 j ∧ Tri wr w.heap.size (.int .i64 (cT j)) (.int .i64 0) (.bool (decide (32 ≤ j))) ∧ Below w.heap.size w wr ∧ w.heap.size < wr.heap.size) (fun i _ => k - (intOf i).toNat)
  case atStart => exact ⟨0, Nat.zero_le _, rfl, HT0.out, HB0.out, by simp⟩
  case round =>
    obtain ⟨j, hj, rfl, hT, hB, hlt⟩ := hrel
    have HT := Lib.hid hT; have HB := Lib.hid hB; have HLT := Lib.hid hlt
    obtain ⟨s0, s1, s2, s3, s4, s5⟩ := hT
    clear hB hlt
    by_cases hjk : j < k
    · have i1 : (j : Int) < (k : Int) := by omega
      have hw : IntKind.i64.wrap ((j : Int) + 1) = (j : Int) + 1 := by rw [IntKind.wrap_i64]; omega
      have HC := Lib.hid (fun u => cT_fail j u)
      obtain ⟨t, ht⟩ : ∃ t, t = cT j := ⟨_, rfl⟩
      obtain ⟨o, ho⟩ : ∃ o, o = decide (32 ≤ j) := ⟨_, rfl⟩
      obtain ⟨t', ht'⟩ : ∃ t, t = cT (j + 1) := ⟨_, rfl⟩
      obtain ⟨o', ho'⟩ : ∃ o, o = decide (32 ≤ j + 1) := ⟨_, rfl⟩
      have HE := Lib.hid (show t' = cT (j + 1) ∧ o' = decide (32 ≤ j + 1) from ⟨ht', ho'⟩)
      rw [← ht, ← ho] at HC HT
      rw [← ht', ← ho'] at HC
      rw [← ht] at s0
      rw [← ho] at s2
      clear ht ho ht' ho'
      go_wp2_with fail
      refine (HC.out _).mono ?_
      rintro x w2 ⟨rfl, hb⟩
      have HT2 := Lib.hid (HT.out.keep hb HLT.out)
      have HB2 := Lib.hid (HB.out.trans (hb.mono (Nat.le_of_lt HLT.out)))
      have HL2 := Lib.hid (Nat.lt_of_lt_of_le HLT.out hb.size)
      clear hb s0 s1 s2 s3 s4 s5
      obtain ⟨s0, s1, s2, s3, s4, s5⟩ := HT2.out
      go_wp2_with fail
      go_roundw
      case rel =>
        refine ⟨j + 1, by omega, by simp, ?_, ((HB2.out.setCell (p := ⟨w.heap.size, 0, none⟩) (by simp) _).setCell (p := ⟨w.heap.size, 1, none⟩) (by simp) _).setCell (p := ⟨w.heap.size, 2, none⟩) (by simp) _, by have := HL2.out; simpa [World.setCell] using this⟩
        rw [← HE.out.1, ← HE.out.2]
        exact ((HT2.out.set0 _).set1 _).set2 _
      case measure => simp [intOf]; omega
    · have hjk' : j = k := by omega
      subst hjk'
      have i1 : ¬ ((j : Int) < (j : Int)) := by omega
      have HM := Lib.hid (fun u => cT_mode j u)
      have HL := Lib.hid (fun u => live10 u)
      have HJ := Lib.hid hk40
      clear hk40
      obtain ⟨t, ht⟩ : ∃ t, t = cT j := ⟨_, rfl⟩
      obtain ⟨o, ho⟩ : ∃ o, o = decide (32 ≤ j) := ⟨_, rfl⟩
      rw [← ht, ← ho] at HM HT
      rw [← ht] at s0
      rw [← ho] at s2
      clear ht ho
      have cs : (32 ≤ j) ∨ (16 ≤ j ∧ j < 32) ∨ (j < 16) := by omega
      rcases cs with hc | hc | hc
      · have c1 : decide ((16 : Int) ≤ (j : Int)) = true := by simp; omega
        have c2 : decide ((32 : Int) ≤ (j : Int)) = true := by simp; omega
        rw [if_pos hc] at HM
        clear hc
        go_wp2_with fail
        refine (HL.out _).mono ?_
        rintro x w2 ⟨rfl, hb⟩
        have HT2 := Lib.hid (HT.out.keep hb HLT.out)
        have HB2 := Lib.hid (HB.out.trans (hb.mono (Nat.le_of_lt HLT.out)))
        have HL2 := Lib.hid (Nat.lt_of_lt_of_le HLT.out hb.size)
        clear hb s0 s1 s2 s3 s4 s5
        obtain ⟨s0, s1, s2, s3, s4, s5⟩ := HT2.out
        go_wp2_with fail
        refine (HM.out _).mono ?_
        rintro x w3 ⟨rfl, hb⟩
        have HB3 := Lib.hid (HB2.out.trans (hb.mono (Nat.le_of_lt HL2.out)))
        clear hb
        go_wp2_with fail
        go_ret
        exact ⟨rfl, HB3.out⟩
      · have c1 : decide ((16 : Int) ≤ (j : Int)) = true := by simp; omega
        have c2 : decide ((32 : Int) ≤ (j : Int)) = false := by simp; omega
        rw [if_neg (by omega), if_pos hc.1] at HM
        clear hc
        go_wp2_with fail
        refine (HL.out _).mono ?_
        rintro x w2 ⟨rfl, hb⟩
        have HT2 := Lib.hid (HT.out.keep hb HLT.out)
        have HB2 := Lib.hid (HB.out.trans (hb.mono (Nat.le_of_lt HLT.out)))
        have HL2 := Lib.hid (Nat.lt_of_lt_of_le HLT.out hb.size)
        clear hb s0 s1 s2 s3 s4 s5
        obtain ⟨s0, s1, s2, s3, s4, s5⟩ := HT2.out
        go_wp2_with fail
        refine (HM.out _).mono ?_
        rintro x w3 ⟨rfl, hb⟩
        have HB3 := Lib.hid (HB2.out.trans (hb.mono (Nat.le_of_lt HL2.out)))
        clear hb
        go_wp2_with fail
        go_ret
        exact ⟨rfl, HB3.out⟩
      · have c1 : decide ((16 : Int) ≤ (j : Int)) = false := by simp; omega
        have c2 : decide ((32 : Int) ≤ (j : Int)) = false := by simp; omega
        rw [if_neg (by omega), if_neg (by omega)] at HM
        clear hc
        go_wp2_with fail
        refine (HL.out _).mono ?_
        rintro x w2 ⟨rfl, hb⟩
        have HT2 := Lib.hid (HT.out.keep hb HLT.out)
        have HB2 := Lib.hid (HB.out.trans (hb.mono (Nat.le_of_lt HLT.out)))
        have HL2 := Lib.hid (Nat.lt_of_lt_of_le HLT.out hb.size)
        clear hb s0 s1 s2 s3 s4 s5
        obtain ⟨s0, s1, s2, s3, s4, s5⟩ := HT2.out
        go_wp2_with fail
        refine (HM.out _).mono ?_
        rintro x w3 ⟨rfl, hb⟩
        have HB3 := Lib.hid (HB2.out.trans (hb.mono (Nat.le_of_lt HL2.out)))
        clear hb
        go_wp2_with fail
        go_ret
        exact ⟨rfl, HB3.out⟩
set_option maxRecDepth 100000 in
theorem lifted (os : Os) (started : os.Started) (H : Type) (enc : TypeId × Value → H) :
    ReturnsInHanded {} Try.checked os 5 .any (Rows.countOffSpec.pre6 enc Try.prog Try.f5 Rows.countOffRow.domain false) (Rows.countOffSpec.post enc Try.prog Try.f5 false true false false) := by
  refine returnsInHanded_of_change (C := Try.checked) own started (by kernel_rfl) Try.func5
    (ChangeSpec.witness6 (enc := enc) (C := Try.checked) false ⟨#[], #[.int .u8 0], []⟩ 8 (by kernel_rfl) (by kernel_rfl) (by kernel_rfl) (by kernel_rfl)) ?_
  intro W base args ds gs before hval0 hW _ _
  have hval : ∀ (j : Nat) t v, Try.f5.params[j]? = some t → args[j]? = some v → Value.okWide Try.prog W .any base t v := hval0
  have hW' := hW
  obtain ⟨p, q, hA0, hV, rfl, hfz, hnd⟩ := hW
  have hA : DataW.TrodAll enc Try.prog W 0 (fun _ => true) true Try.f5.params.toList args.toList ds p := hA0
  rw [Try.params5] at hA hval
  obtain ⟨v0, vs0, d0, ds0, p0, q0, hargs, rfl, rfl, h0, r0⟩ := trodAll_cons hA
  obtain ⟨rfl, rfl, rfl⟩ := trodAll_nil r0
  obtain rfl : args = #[v0] := by cases args; simp_all
  obtain ⟨rfl, rfl⟩ := trodVars_none hV
  obtain ⟨a0, rfl, rfl, rfl, w0⟩ := open_int Try.underlying5 (hval 0 5 v0 rfl rfl) h0
  clear hA0 hval0
  refine (walk a0 w0 W).mono fun e W' ⟨he, bel⟩ => ?_
  subst he
  exact ⟨_, rfl, _, _, _, [], _, [], hW', trodAll_mk1 (shut_bool Try.underlying4 _), (trodAll_cons_mk (shut_int Try.underlying5 w0) trodAll_mk0), rfl, bel.frame _, fun h => by cases h⟩
theorem over : Rows.countOffRow.holds Try.pinned (OpenSpec.ofChange Rows.countOffSpec) :=
  OpenClaim.holds_of_wide 5 Try.f5 rfl rfl rfl rfl rfl rfl rfl ⟨rfl, rfl, rfl, rfl, rfl⟩ rfl rfl rfl rfl rfl (by kernel_rfl) Try.func5 (by kernel_rfl)
    (of_decide_eq_true (by kernel_rfl)) (by unfold Func.isWrapper; first | (rw [if_pos (by decide +kernel)]; kernel_rfl) | (rw [if_neg (by decide +kernel)]; exact ⟨rfl, rfl⟩))
    (fun os started H enc _ => lifted os started H enc)
/-- The statement. -/
theorem proved : Rows.CountOffSaid := over
end Go.Proofs.Ytkmajhecjjhmbaa.countOff
