/- RateWithin (P18.3): a rate is within its bounds, whatever samples come. No conditions. -/
import Derived.Test.YtffcadobdimdoaaRows
import Derived.Test.YtffcadobdimdoaaRtl
import Derived.Test.YtffcadobdimdoaaOpk
import Derived.Test.YtffcadobdimdoaaQui
import Derived.Deep.DeepCutAuto
import Derived.LoopTactic
import Derived.WalkKit
import Derived.ProofKit
import Derived.OpenShut
import Derived.ShutString
import Derived.ChangeOld
import Derived.Below
namespace Go.Proofs.Ytffcadobdimdoaa.rateWithin
open Go.ChangeShapes Go.WideShapes Go.ChangeAt Go.RowKit
theorem own : ownKnob Try.prog.godebug = none := by kernel_rfl
theorem laidOut : laidOutB Try.prog = true := by kernel_rfl
theorem ES.add_m (e : ES) (t h : Int) : (e.add t h).m = e.m ∧ (e.add t h).n = e.n := by
  unfold ES.add; split <;> exact ⟨rfl, rfl⟩
theorem med_in {L : List Int} {lo hi : Int} (h : ∀ v ∈ L, lo ≤ v ∧ v ≤ hi) (h2 : lo ≤ 1048576 ∧ 1048576 ≤ hi) : lo ≤ medX L ∧ medX L ≤ hi := by
  by_cases hL : L = []
  · subst hL; exact h2
  · exact h _ (medX_med hL).1
/-- An estimator that is younger than a world. -/
structure E1 (w u : World) (B : Nat) (e : ES) : Prop where
  a : EA u B e
  below : Below w.heap.size w u
  la : w.heap.size ≤ B
theorem EA.on {u x : World} {B : Nat} {e : ES} (h : EA u B e) (hb : Below u.heap.size u x) : EA x B e := ⟨h.1.keep hb h.1.lt, h.2⟩
theorem E1.on {w u x : World} {B : Nat} {e : ES} (h : E1 w u B e) (hb : Below u.heap.size u x) : E1 w x B e := ⟨EA.on h.a hb, below_transG h.below hb, h.la⟩
theorem E1.step {w u x : World} {B : Nat} {e e2 : ES} (h : E1 w u B e) (ha : EA x B e2) (hk : Kp B (.slice none 0 0) u x) : E1 w x B e2 :=
  ⟨ha, h.below.trans (hk.belowN h.la h.below.size (fun k e => by cases e)), h.la⟩
set_option maxRecDepth 100000 in
set_option maxHeartbeats 8000000 in
theorem walk (a0 a1 : Int) (a2 : Option Addr) (len2 cap2 : Nat) (L : List SA) (w : World) (v0 : (Lit.int .u16 a0).wf = true) (v1 : (Lit.int .u8 a1).wf = true) (v2 : L.length = len2 ∧ (∀ s ∈ L, s.wf) ∧ Rd w 2 (.slice a2 len2 cap2) (L.flatMap SA.C)) :
    Calls Try.prog 5 #[.int .u16 a0, .int .u8 a1, .slice a2 len2 cap2] w fun y w' => y = .returned (.bool true) ∧ Below w.heap.size w w' := by
  obtain ⟨rfl, hwf, hL⟩ := v2
  have HLR := Lib.hid hL; have HWF := Lib.hid hwf
  clear hL hwf
  have h0 : 0 ≤ a0 ∧ a0 ≤ 65535 := by simpa [Lit.wf, IntKind.min, IntKind.max, IntKind.signed, IntKind.bits] using v0
  have h1 : 0 ≤ a1 ∧ a1 ≤ 255 := by simpa [Lit.wf, IntKind.min, IntKind.max, IntKind.signed, IntKind.bits] using v1
  clear v0 v1
  obtain ⟨k, hk⟩ : ∃ z, z = a0.tmod 4097 := ⟨_, rfl⟩
  obtain ⟨q, hq⟩ : ∃ z, z = a1.tmod 9 := ⟨_, rfl⟩
  have bk : 0 ≤ k ∧ k ≤ 4096 := by rw [hk]; exact ⟨Int.tmod_nonneg _ h0.1, by have := Int.tmod_lt_of_pos a0 (show (0 : Int) < 4097 by decide); omega⟩
  have bq : 0 ≤ q ∧ q ≤ 8 := by rw [hq]; exact ⟨Int.tmod_nonneg _ h1.1, by have := Int.tmod_lt_of_pos a1 (show (0 : Int) < 9 by decide); omega⟩
  obtain ⟨n, hn⟩ : ∃ n : Nat, (n : Int) = q + 1 := ⟨(q + 1).toNat, by omega⟩
  obtain ⟨lo, hlo⟩ : ∃ z, z = 1048576 - k := ⟨_, rfl⟩
  obtain ⟨hi, hhi⟩ : ∃ z, z = 1048576 + k := ⟨_, rfl⟩
  have f1 : wrap64 a0 = a0 := w64_in _ (by omega)
  have f2 : wrap64 a1 = a1 := w64_in _ (by omega)
  have f3 : wrap64 (q + 1) = (n : Int) := (w64_in _ (by omega)).trans hn.symm
  have f4 : wrap64 (1048576 - k) = lo := (w64_in _ (by omega)).trans hlo.symm
  have f5 : wrap64 (1048576 + k) = hi := (w64_in _ (by omega)).trans hhi.symm
  have g1 := hk.symm; have g2 := hq.symm
  have HN := Lib.hid (fun u => enew_yes k n bk (by omega) u)
  have HLH := Lib.hid (And.intro hlo (And.intro hhi bk))
  have HF := Lib.hid (And.intro f4 f5)
  clear hk hq hn bk bq h0 h1 hlo hhi f4 f5
  go_enter Try.func5, Try.ntmps5
  go_wp2_with fail
  refine (HN.out _).mono ?_
  rintro y w1 ⟨B, rfl, hO, hB, hb⟩
  have HI2 := Lib.hid (show E1 w w1 B (ES.fresh k n) from ⟨hO, hb, hB⟩)
  clear hO hb hB
  go_wp2_with fail
  go_loopw [10] (fun s10 wr => ∃ (i : Nat) (e : ES), s10 = .int .i64 (i : Int) ∧ i ≤ 60 ∧ e.m = k ∧ E1 w wr B e) (fun s10 _ => 60 - (intOf s10).toNat)
  case atStart => exact ⟨0, ES.fresh k n, rfl, by omega, rfl, HI2.out⟩
  case round =>
    obtain ⟨i, e, rfl, hi60, hm, hI⟩ := hrel
    have HI := Lib.hid hI; have HM := Lib.hid hm
    clear hI HI2 hm
    by_cases hgo : i < L.length ∧ i < 60
    · have hlt := hgo.1
      have i1 : (i : Int) < (L.length : Int) := by omega
      have i2 : (i : Int) < 60 := by have := hgo.2; omega
      have i3 : (0 : Int) ≤ (i : Int) := by omega
      obtain ⟨g, off, rfl, hg, hcell⟩ := rd_at SA.C 2 (fun _ => rfl) HLR.out hlt (by decide)
      have hwf := HWF.out L[i] (List.getElem_mem _)
      obtain ⟨s, hs⟩ : ∃ s, s = L[i] := ⟨_, rfl⟩
      rw [← hs] at hcell hwf
      clear hs
      obtain ⟨x, y⟩ := s
      have HX := Lib.hid hwf.1; have HY := Lib.hid hwf.2
      unfold SA.wf at HX HY
      simp only at HX HY
      have hcw : ∀ u, Below w.heap.size w u → u.cell? ⟨g, off + i * 2, none⟩ = some (.int .i64 x) ∧ u.cell? ⟨g, off + i * 2 + 1, none⟩ = some (.int .i64 y) := fun u hu => by
        have h : ∀ j v, (SA.C ⟨x, y⟩)[j]? = some v → u.cell? ⟨g, off + i * 2 + j, none⟩ = some v := fun j v h => (hu.cell (p := ⟨g, off + i * 2 + j, none⟩) hg).trans (hcell j v h)
        exact ⟨h 0 _ rfl, h 1 _ rfl⟩
      have HGO := Lib.hid hgo.2
      have HA := Lib.hid (fun u h => add_any x y HX.out HY.out e B u h)
      have HR := Lib.hid (fun u h => rate_any (e.add x y) B u h)
      have HME := Lib.hid (show (e.add x y).m = k from (ES.add_m e x y).1.trans HM.out)
      obtain ⟨e2, he2⟩ : ∃ z, z = e.add x y := ⟨_, rfl⟩
      rw [← he2] at HA HR HME
      obtain ⟨X, hX⟩ : ∃ X, X = medX e2.L := ⟨_, rfl⟩
      rw [← hX] at HR
      obtain ⟨Y, hY⟩ : ∃ Y, Y = e.addB x y := ⟨_, rfl⟩
      rw [← hY] at HA
      have HXX := Lib.hid hX
      clear he2 hX hY
      obtain ⟨c0, c1⟩ := hcw wr HI.out.below
      clear hcw hcell hwf hlt
      go_wp2_with fail
      refine (HA.out _ HI.out.a).mono ?_
      rintro y1 w3 ⟨rfl, hO, hk⟩
      have HI3 := Lib.hid (HI.out.step hO hk)
      clear hO hk c0 c1
      have hb := med_in HI3.out.a.2.l0 (by have := HI3.out.a.2.m0; omega)
      rw [← HXX.out, HME.out, ← HLH.out.1, ← HLH.out.2.1] at hb
      have n1 : ¬ X < lo := by omega
      have n2 : ¬ hi < X := by omega
      clear hb
      obtain ⟨f4, f5⟩ := HF.out
      go_wp2_with fail
      refine (HR.out _ HI3.out.a).mono ?_
      rintro y1 w4 ⟨rfl, hb⟩
      have HI4 := Lib.hid (HI3.out.on hb)
      clear hb
      go_wp2_with fail
      refine (HR.out _ HI4.out.a).mono ?_
      rintro y1 w5 ⟨rfl, hb⟩
      have HI5 := Lib.hid (HI4.out.on hb)
      clear hb
      go_wp2_with fail
      go_roundw
      case rel => exact ⟨i + 1, e2, by simp, by have := HGO.out; omega, HME.out, HI5.out⟩
      case measure => have := HGO.out; simp [intOf]; omega
    · have hT : ((i : Int) < (L.length : Int) ∧ ¬ (i : Int) < 60) ∨ ¬ (i : Int) < (L.length : Int) := by omega
      clear hgo
      rcases hT with ⟨i1, i2⟩ | i1
      all_goals
        go_wp2_with fail
        refine (live18 _).mono ?_
        rintro y w5 ⟨rfl, hb⟩
        have HIz := Lib.hid (HI.out.on hb)
        clear hb
        go_wp2_with fail
        go_ret
        exact ⟨rfl, HIz.out.below⟩
set_option maxRecDepth 100000 in
theorem lifted (os : Os) (started : os.Started) (H : Type) (enc : TypeId × Value → H) :
    ReturnsInHanded {} Try.checked os 5 .any (Rows.rateWithinSpec.pre6 enc Try.prog Try.f5 Rows.rateWithinRow.domain false) (Rows.rateWithinSpec.post enc Try.prog Try.f5 false true false false) := by
  refine returnsInHanded_of_change (C := Try.checked) own started (by kernel_rfl) Try.func5
    (ChangeSpec.witness6 (enc := enc) (C := Try.checked) false ⟨#[], #[.int .u16 0, .int .u8 0, .slice none 0 0], []⟩ 8 (by kernel_rfl) (by kernel_rfl) (by kernel_rfl) (by kernel_rfl)) ?_
  intro W base args ds gs before hval0 hW _ _
  have hval : ∀ (j : Nat) t v, Try.f5.params[j]? = some t → args[j]? = some v → Value.okWide Try.prog W .any base t v := hval0
  have hW' := hW
  obtain ⟨p, q, hA0, hV, rfl, hfz, hnd⟩ := hW
  have hA : DataW.TrodAll enc Try.prog W 0 (fun _ => true) true Try.f5.params.toList args.toList ds p := hA0
  rw [Try.params5] at hA hval
  obtain ⟨v0, vs0, d0, ds0, p0, q0, hargs, rfl, rfl, h0, r0⟩ := trodAll_cons hA
  obtain ⟨v1, vs1, d1, ds1, p1, q1, rfl, rfl, rfl, h1, r1⟩ := trodAll_cons r0
  obtain ⟨v2, vs2, d2, ds2, p2, q2, rfl, rfl, rfl, h2, r2⟩ := trodAll_cons r1
  obtain ⟨rfl, rfl, rfl⟩ := trodAll_nil r2
  obtain rfl : args = #[v0, v1, v2] := by cases args; simp_all
  obtain ⟨rfl, rfl⟩ := trodVars_none hV
  obtain ⟨a0, rfl, rfl, rfl, w0⟩ := open_int Try.underlying47 (hval 0 47 v0 rfl rfl) h0
  obtain ⟨a1, rfl, rfl, rfl, w1⟩ := open_int Try.underlying5 (hval 1 5 v1 rfl rfl) h1
  obtain ⟨a2, len2, cap2, rfl⟩ := okWide_slice Try.underlying31 (hval 2 31 v2 rfl rfl)
  have k2 := h2
  have lt2 : ∀ x ∈ p2, x.block < W.heap.size := by obtain ⟨m, hm⟩ := k2; exact DataW.trod_lt m _ _ _ hm
  obtain ⟨L2, wl2, ww2, wr2⟩ : ∃ L : List SA, L.length = len2 ∧ (∀ s ∈ L, SA.wf s) ∧ Rd W 2 (.slice a2 len2 cap2) (L.flatMap SA.C) := by
    obtain ⟨fuel, hf⟩ := h2
    exact open_rows SA.C SA.wf 2 (by decide) Try.underlying31 (by kernel_rfl) (fun _ => rfl) (fun _ _ _ => sampleG) (by simpa [Value.cells] using hf)
  clear hA0 hval0
  refine (walk a0 a1 a2 len2 cap2 L2 W w0 w1 ⟨wl2, ww2, wr2⟩).mono fun e W' ⟨he, bel⟩ => ?_
  subst he
  exact ⟨_, rfl, _, _, _, [], _, [], hW', trodAll_mk1 (shut_bool Try.underlying4 _), (trodAll_cons_mk (shut_int Try.underlying47 w0) (trodAll_cons_mk (shut_int Try.underlying5 w1) (trodAll_cons_mk (Below.trod laidOut (by kernel_rfl) (of_decide_eq_true (by kernel_rfl)) k2 bel lt2) trodAll_mk0))), rfl, bel.frame _, fun h => by cases h⟩
theorem over : Rows.rateWithinRow.holds Try.pinned (OpenSpec.ofChange Rows.rateWithinSpec) :=
  OpenClaim.holds_of_wide 5 Try.f5 rfl rfl rfl rfl rfl rfl rfl ⟨rfl, rfl, rfl, rfl, rfl⟩ rfl rfl rfl rfl rfl (by kernel_rfl) Try.func5 (by kernel_rfl)
    (of_decide_eq_true (by kernel_rfl)) (by unfold Func.isWrapper; first | (rw [if_pos (by decide +kernel)]; kernel_rfl) | (rw [if_neg (by decide +kernel)]; exact ⟨rfl, rfl⟩))
    (fun os started H enc _ => lifted os started H enc)
/-- The statement. -/
theorem proved : Rows.RateWithinSaid := over
end Go.Proofs.Ytffcadobdimdoaa.rateWithin
