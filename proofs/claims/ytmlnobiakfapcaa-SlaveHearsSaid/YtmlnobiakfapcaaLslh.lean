/- SlaveHears (P20.2): whatever words are heard, which belong together and what they tell, and what is noted, is what the document says. No conditions. -/
import Derived.Test.YtmlnobiakfapcaaRows
import Derived.Deep.DeepCutAuto
import Derived.Deep.RegionHeld3
import Derived.Test.YtmlnobiakfapcaaSlq
import Derived.Test.YtmlnobiakfapcaaOpw
import Derived.WalkKit
import Derived.ProofKit
import Derived.OpenShut
import Derived.ShutString
import Derived.ChangeOld
import Derived.Below
namespace Go.Proofs.Ytmlnobiakfapcaa.slaveHears
open Go.ChangeShapes Go.WideShapes Go.ChangeAt Go.RowKit
theorem own : ownKnob Try.prog.godebug = none := by kernel_rfl
theorem laidOut : laidOutB Try.prog = true := by kernel_rfl
def SHp (k : Bool) (r n c r' n' c' : Int) : Prop := (k = false ∧ r = 0 ∧ n = 0) ∨ (k = true ∧ r' = r ∧ n' = n ∧ c' = c)
theorem SHp.waits {k : Bool} {r n c r' n' c' : Int} (h : SHp k r n c r' n' c') : (if k then r' else 0) = r ∧ (if k then n' else 0) = n := by
  rcases h with ⟨rfl, rfl, rfl⟩ | ⟨rfl, rfl, rfl, rfl⟩
  · exact ⟨rfl, rfl⟩
  · exact ⟨rfl, rfl⟩
theorem SHp.step {k : Bool} {r n c r' n' c' : Int} (h : SHp k r n c r' n' c') (f : Bool) (a b t d : Int) :
    tellB k r' n' f a b t = tellB k r n f a b t ∧ (if tellB k r n f a b t then c' else 0) = (if tellB k r n f a b t then c else 0) ∧
    ∃ k2 r2 n2 c2 r2' n2' c2', SHp k2 r2 n2 c2 r2' n2' c2' ∧ (if noteB f a b t then [.bool true, .bool false, .int .i64 a, .int .i64 b, .int .i64 0, .int .i64 d] else if tellB k r n f a b t then [.bool false, .bool false, .int .i64 0, .int .i64 0, .int .i64 0, .int .i64 0] else [.bool k, .bool false, .int .i64 r, .int .i64 n, .int .i64 0, .int .i64 c]) = ([.bool k2, .bool false, .int .i64 r2, .int .i64 n2, .int .i64 0, .int .i64 c2] : List Value) ∧
      (if noteB f a b t then [.bool true, .bool false, .int .i64 a, .int .i64 b, .int .i64 0, .int .i64 d] else if tellB k r n f a b t then [.bool false, .bool false, .int .i64 r', .int .i64 n', .int .i64 0, .int .i64 c'] else [.bool k, .bool false, .int .i64 r', .int .i64 n', .int .i64 0, .int .i64 c']) = ([.bool k2, .bool false, .int .i64 r2', .int .i64 n2', .int .i64 0, .int .i64 c2'] : List Value) := by
  have h1 : tellB k r' n' f a b t = tellB k r n f a b t := by
    rcases h with ⟨rfl, rfl, rfl⟩ | ⟨rfl, rfl, rfl, rfl⟩
    · unfold tellB; simp
    · rfl
  refine ⟨h1, ?_, ?_⟩
  · rcases h with ⟨rfl, rfl, rfl⟩ | ⟨rfl, rfl, rfl, rfl⟩
    · rw [show tellB false 0 0 f a b t = false by unfold tellB; simp]; rfl
    · rfl
  · cases noteB f a b t
    · cases tellB k r n f a b t
      · exact ⟨k, r, n, c, r', n', c', h, rfl, rfl⟩
      · exact ⟨false, 0, 0, 0, r', n', c', .inl ⟨rfl, rfl, rfl⟩, rfl, rfl⟩
    · exact ⟨true, a, b, d, a, b, d, .inr ⟨rfl, rfl, rfl, rfl⟩, rfl, rfl⟩
set_option maxRecDepth 100000 in
set_option maxHeartbeats 16000000 in
theorem walk (a0 : Option Addr) (len0 cap0 : Nat) (L : List HD) (w : World) (w0 : L.length = len0 ∧ (∀ s ∈ L, s.wf) ∧ Rd w 5 (.slice a0 len0 cap0) (L.flatMap HD.C)) :
    Calls Try.prog 9 #[.slice a0 len0 cap0] w fun y w' => y = .returned (.bool true) ∧ Below w.heap.size w w' := by
  obtain ⟨rfl, _, hL⟩ := w0
  have HLR := Lib.hid hL
  clear hL
  go_enter Try.func9, Try.ntmps9
  go_wp2_with fail
  refine (slnew_any _).mono ?_
  rintro y w0 ⟨B, rfl, hO, hBB, hb⟩
  have HBB := Lib.hid hBB; have HM0 := Lib.hid hO; have HB0 := Lib.hid hb
  clear hO hBB hb
  go_wp2_with fail
  refine (rslnew_any _).mono ?_
  rintro y w1 ⟨B', rfl, hO, hBB, hb⟩
  have HBN := Lib.hid (show B' ≠ B by have := HM0.out.lt; omega)
  have HBC := Lib.hid (Nat.le_trans HB0.out.size hBB); have HR1 := Lib.hid hO; have HM1 := Lib.hid (HM0.out.keep hb HM0.out.lt); have HB1 := Lib.hid (below_transG HB0.out hb)
  clear hO hBB hb
  go_wp2_with fail
  go_loopw [5] (fun s5 wr => ∃ (i : Nat) (k : Bool) (r n c r' n' c' : Int), s5 = .int .i64 (i : Int) ∧ i ≤ 60 ∧ Blk wr B 128 [.bool k, .bool false, .int .i64 r, .int .i64 n, .int .i64 0, .int .i64 c] ∧ Blk wr B' 130 [.bool k, .bool false, .int .i64 r', .int .i64 n', .int .i64 0, .int .i64 c'] ∧ SHp k r n c r' n' c' ∧ Below w.heap.size w wr) (fun s5 _ => 60 - (intOf s5).toNat)
  case atStart => exact ⟨0, false, 0, 0, 0, 0, 0, 0, rfl, by omega, HM1.out, HR1.out, .inl ⟨rfl, rfl, rfl⟩, HB1.out⟩
  case round =>
    obtain ⟨i, k, r, n, c, r', n', c', rfl, hi60, hM, hR, hS, hB⟩ := hrel
    have HM := Lib.hid hM; have HR := Lib.hid hR; have HS := Lib.hid hS; have HB := Lib.hid hB
    clear hM hR hS hB
    by_cases hgo : i < L.length ∧ i < 60
    · have hlt := hgo.1
      have HGO := Lib.hid hgo
      have i1 : (i : Int) < (L.length : Int) := by omega
      have i2 : (i : Int) < 60 := by have := hgo.2; omega
      have i3 : (0 : Int) ≤ (i : Int) := by omega
      obtain ⟨g, off, rfl, hg, hcell⟩ := rd_at HD.C 5 (fun _ => rfl) HLR.out hlt (by decide)
      obtain ⟨s, hs⟩ : ∃ s, s = L[i] := ⟨_, rfl⟩
      rw [← hs] at hcell
      clear hs hgo hlt
      obtain ⟨f, a, b, t, d⟩ := s
      have HCW := Lib.hid (show ∀ X, Below w.heap.size w X → ∀ j u, (HD.C ⟨f, a, b, t, d⟩)[j]? = some u → X.cell? ⟨g, off + i * 5 + j, none⟩ = some u from fun X hX j u h => (hX.cell (p := ⟨g, off + i * 5 + j, none⟩) hg).trans (hcell j u h))
      clear hcell hg
      have HH := Lib.hid (fun (u : World) h => slhear_any k r n c f a b t d B u h)
      have HHR := Lib.hid (fun (u : World) h => rslhear_any k r' n' c' f a b t d B' u h)
      obtain ⟨h1, h2, k2, r2, n2, c2, r2', n2', c2', h3, h4, h5⟩ := HS.out.step f a b t d
      rw [h4] at HH
      rw [h1, h5, h2] at HHR
      obtain ⟨tb, htb⟩ : ∃ x, x = tellB k r n f a b t := ⟨_, rfl⟩
      rw [← htb] at HH HHR
      obtain ⟨v1, hv1⟩ : ∃ x, x = if tb then c else 0 := ⟨_, rfl⟩
      obtain ⟨v2, hv2⟩ : ∃ x, x = if tb then t else 0 := ⟨_, rfl⟩
      rw [← hv1, ← hv2] at HH HHR
      have HS2 := Lib.hid h3
      have HWA := Lib.hid (fun (u : World) h => slwaits_any k2 r2 n2 c2 B u h)
      have HWB := Lib.hid (fun (u : World) h => rslwaits_any k2 r2' n2' c2' B' u h)
      rw [h3.waits.1, h3.waits.2] at HWB
      clear h1 h2 h3 h4 h5 hv1 hv2 htb HS
      have e0 : wr.cell? ⟨g, off + i * 5, none⟩ = some (.bool f) := HCW.out wr HB.out 0 _ rfl
      have e1 : wr.cell? ⟨g, off + i * 5 + 1, none⟩ = some (.int .i64 a) := HCW.out wr HB.out 1 _ rfl
      have e2 : wr.cell? ⟨g, off + i * 5 + 2, none⟩ = some (.int .i64 b) := HCW.out wr HB.out 2 _ rfl
      have e3 : wr.cell? ⟨g, off + i * 5 + 3, none⟩ = some (.int .i64 t) := HCW.out wr HB.out 3 _ rfl
      have e4 : wr.cell? ⟨g, off + i * 5 + 4, none⟩ = some (.int .i64 d) := HCW.out wr HB.out 4 _ rfl
      have d0 : wr.drew.cell? ⟨g, off + i * 5, none⟩ = some (.bool f) := HCW.out wr.drew HB.out.drew 0 _ rfl
      have d1 : wr.drew.cell? ⟨g, off + i * 5 + 1, none⟩ = some (.int .i64 a) := HCW.out wr.drew HB.out.drew 1 _ rfl
      have d2 : wr.drew.cell? ⟨g, off + i * 5 + 2, none⟩ = some (.int .i64 b) := HCW.out wr.drew HB.out.drew 2 _ rfl
      have d3 : wr.drew.cell? ⟨g, off + i * 5 + 3, none⟩ = some (.int .i64 t) := HCW.out wr.drew HB.out.drew 3 _ rfl
      have d4 : wr.drew.cell? ⟨g, off + i * 5 + 4, none⟩ = some (.int .i64 d) := HCW.out wr.drew HB.out.drew 4 _ rfl
      go_upto_region 7 with fail
      go_cut [5, 6, 7, 8] (fun s5 s6 s7 s8 wx => s5 = .int .i64 (i : Int) ∧ s6 = .int .i64 v1 ∧ s7 = .int .i64 v2 ∧ s8 = .bool tb ∧ Blk wx B 128 [.bool k2, .bool false, .int .i64 r2, .int .i64 n2, .int .i64 0, .int .i64 c2] ∧ Blk wx B' 130 [.bool k, .bool false, .int .i64 r', .int .i64 n', .int .i64 0, .int .i64 c'] ∧ Below w.heap.size w wx)
      case first =>
        go_region_with (go_at_call 46; refine (HH.out _ (by first | exact HM.out | exact HM.out.keep (Below.refl _ _).drew HM.out.lt)).mono ?_; rintro y w2 ⟨rfl, hm, hk⟩; have hb := HB.out.drew.trans (hk.belowN HBB.out (show w.heap.size ≤ wr.drew.heap.size from HB.out.size) (fun k e => by cases e)); have hr := HR.out.on (show w2.heap[B']? = wr.heap[B']? from hk.block B' HR.out.lt HBN.out (fun e => by cases e)))
        all_goals (go_wp2_with fail; go_meet; exact ⟨rfl, rfl, rfl, rfl, hm, hr, hb⟩)
      case rest =>
      obtain ⟨w2, hw2⟩ : ∃ w2, w2 = wc := ⟨_, rfl⟩
      rw [← hw2] at hcut ⊢
      obtain ⟨rfl, rfl, rfl, rfl, hm, hr, hb⟩ := hcut
      have HM2 := Lib.hid hm; have HR2 := Lib.hid hr; have HB2 := Lib.hid hb
      clear hm hr hb hw2 HH e0 e1 e2 e3 e4 d0 d1 d2 d3 d4
      have HZ := Lib.hid (show ∀ u, Below w.heap.size w u → (Below w.heap.size w u ∧ u.cell? ⟨g, off + i * 5, none⟩ = some (.bool f) ∧ u.cell? ⟨g, off + i * 5 + 1, none⟩ = some (.int .i64 a) ∧ u.cell? ⟨g, off + i * 5 + 2, none⟩ = some (.int .i64 b) ∧ u.cell? ⟨g, off + i * 5 + 3, none⟩ = some (.int .i64 t) ∧ u.cell? ⟨g, off + i * 5 + 4, none⟩ = some (.int .i64 d)) from fun u hu => ⟨hu, HCW.out u hu 0 _ rfl, HCW.out u hu 1 _ rfl, HCW.out u hu 2 _ rfl, HCW.out u hu 3 _ rfl, HCW.out u hu 4 _ rfl⟩)
      have z0 := HZ.out _ HB2.out
      have z1 := HZ.out _ HB2.out.drew
      go_upto_region 8 with fail
      go_cut [5, 6, 7, 8, 9, 10, 11] (fun s5 s6 s7 s8 s9 s10 s11 wx => s5 = .int .i64 (i : Int) ∧ s6 = .int .i64 v1 ∧ s7 = .int .i64 v2 ∧ s8 = .bool tb ∧ s9 = .int .i64 v1 ∧ s10 = .int .i64 v2 ∧ s11 = .bool tb ∧ Blk wx B 128 [.bool k2, .bool false, .int .i64 r2, .int .i64 n2, .int .i64 0, .int .i64 c2] ∧ Blk wx B' 130 [.bool k2, .bool false, .int .i64 r2', .int .i64 n2', .int .i64 0, .int .i64 c2'] ∧ Below w.heap.size w wx)
      case first =>
        go_region_held3 (fun u => (Below w.heap.size w u ∧ u.cell? ⟨g, off + i * 5, none⟩ = some (.bool f) ∧ u.cell? ⟨g, off + i * 5 + 1, none⟩ = some (.int .i64 a) ∧ u.cell? ⟨g, off + i * 5 + 2, none⟩ = some (.int .i64 b) ∧ u.cell? ⟨g, off + i * 5 + 3, none⟩ = some (.int .i64 t) ∧ u.cell? ⟨g, off + i * 5 + 4, none⟩ = some (.int .i64 d))) (first | (with_reducible assumption)) (first | (go_at_call 38; refine (plain20_any f a b t _).mono ?_; rintro y w3 ⟨rfl, hb3⟩; have h3m := HM2.out.keep ((Below.refl _ _).drew.trans hb3) HM2.out.lt; have h3r := HR2.out.keep ((Below.refl _ _).drew.trans hb3) HR2.out.lt; have h3S := HZ.out _ (below_transG HB2.out.drew hb3)) | (go_at_call 47; refine (HHR.out _ h3r).mono ?_; rintro y w4 ⟨rfl, h4r, hk4⟩; have h4m := h3m.on (hk4.block B h3m.lt HBN.out.symm (fun e => by cases e)); have h4S := HZ.out _ (h3S.1.trans (hk4.belowN HBC.out h3S.1.size (fun k e => by cases e)))))
        all_goals (go_wp2_with fail; go_meet; exact ⟨rfl, rfl, rfl, rfl, rfl, rfl, rfl, h4m, h4r, h4S.1⟩)
      case rest =>
      obtain ⟨w5, hw5⟩ : ∃ w5, w5 = wc := ⟨_, rfl⟩
      rw [← hw5] at hcut ⊢
      obtain ⟨rfl, rfl, rfl, rfl, rfl, rfl, rfl, hm, hr, hb⟩ := hcut
      have HM5 := Lib.hid hm; have HR5 := Lib.hid hr; have HB5 := Lib.hid hb
      clear hm hr hb hw5 HHR z0 z1 HZ
      go_wp2_with fail
      refine (HWA.out _ HM5.out).mono ?_
      rintro y w6 ⟨rfl, hb⟩
      have HM6 := Lib.hid (HM5.out.keep hb HM5.out.lt); have HR6 := Lib.hid (HR5.out.keep hb HR5.out.lt); have HB6 := Lib.hid (below_transG HB5.out hb)
      clear hb
      go_wp2_with fail
      refine (HWB.out _ HR6.out).mono ?_
      rintro y w7 ⟨rfl, hb⟩
      have HM7 := Lib.hid (HM6.out.keep hb HM6.out.lt); have HR7 := Lib.hid (HR6.out.keep hb HR6.out.lt); have HB7 := Lib.hid (below_transG HB6.out hb)
      clear hb
      have k1 : (v1 != v1) = false := by simp
      have k2_ : (v2 != v2) = false := by simp
      have k3 : (tb != tb) = false := by simp
      have k4 : (r2 != r2) = false := by simp
      have k5 : (n2 != n2) = false := by simp
      have k6 : (k2 != k2) = false := by simp
      go_wp2_with fail
      go_roundw
      case rel => exact ⟨i + 1, k2, r2, n2, c2, r2', n2', c2', by simp, by have := HGO.out; omega, HM7.out, HR7.out, HS2.out, HB7.out⟩
      case measure => have := HGO.out; simp [intOf]; omega
    · have HGX := Lib.hid hgo
      have hT : ((i : Int) < (L.length : Int) ∧ ¬ (i : Int) < 60) ∨ ¬ (i : Int) < (L.length : Int) := by omega
      clear hgo
      rcases hT with ⟨i1, i2⟩ | i1
      all_goals
        go_wp2_with fail
        refine (live20 _).mono ?_
        rintro y w5 ⟨rfl, hb⟩
        have HBz := Lib.hid (below_transG HB.out hb)
        clear hb
        go_wp2_with fail
        go_ret
        exact ⟨rfl, HBz.out⟩
set_option maxRecDepth 100000 in
theorem lifted (os : Os) (started : os.Started) (H : Type) (enc : TypeId × Value → H) :
    ReturnsInHanded {} Try.checked os 9 .any (Rows.slaveHearsSpec.pre6 enc Try.prog Try.f9 Rows.slaveHearsRow.domain false) (Rows.slaveHearsSpec.post enc Try.prog Try.f9 false true false false) := by
  refine returnsInHanded_of_change (C := Try.checked) own started (by kernel_rfl) Try.func9
    (ChangeSpec.witness6 (enc := enc) (C := Try.checked) false ⟨#[], #[.slice none 0 0], []⟩ 8 (by kernel_rfl) (by kernel_rfl) (by kernel_rfl) (by kernel_rfl)) ?_
  intro W base args ds gs before hval0 hW _ _
  have hval : ∀ (j : Nat) t v, Try.f9.params[j]? = some t → args[j]? = some v → Value.okWide Try.prog W .any base t v := hval0
  have hW' := hW
  obtain ⟨p, q, hA0, hV, rfl, hfz, hnd⟩ := hW
  have hA : DataW.TrodAll enc Try.prog W 0 (fun _ => true) true Try.f9.params.toList args.toList ds p := hA0
  rw [Try.params9] at hA hval
  obtain ⟨v0, vs0, d0, ds0, p0, q0, hargs, rfl, rfl, h0, r0⟩ := trodAll_cons hA
  obtain ⟨rfl, rfl, rfl⟩ := trodAll_nil r0
  obtain rfl : args = #[v0] := by cases args; simp_all
  obtain ⟨rfl, rfl⟩ := trodVars_none hV
  obtain ⟨a0, len0, cap0, rfl⟩ := okWide_slice Try.underlying80 (hval 0 80 v0 rfl rfl)
  have k0 := h0
  have lt0 : ∀ x ∈ p0, x.block < W.heap.size := by obtain ⟨m, hm⟩ := k0; exact DataW.trod_lt m _ _ _ hm
  obtain ⟨L0, wl0, ww0, wr0⟩ : ∃ L : List HD, L.length = len0 ∧ (∀ s ∈ L, HD.wf s) ∧ Rd W 5 (.slice a0 len0 cap0) (L.flatMap HD.C) := by
    obtain ⟨fuel, hf⟩ := h0
    exact open_rows HD.C HD.wf 5 (by decide) Try.underlying80 (by kernel_rfl) (fun _ => rfl) (fun _ _ _ => heardG) (by simpa [Value.cells] using hf)
  clear hA0 hval0
  refine (walk a0 len0 cap0 L0 W ⟨wl0, ww0, wr0⟩).mono fun e W' ⟨he, bel⟩ => ?_
  subst he
  exact ⟨_, rfl, _, _, _, [], _, [], hW', trodAll_mk1 (shut_bool Try.underlying4 _), (trodAll_cons_mk (Below.trod laidOut (by kernel_rfl) (of_decide_eq_true (by kernel_rfl)) k0 bel lt0) trodAll_mk0), rfl, bel.frame _, fun h => by cases h⟩
theorem over : Rows.slaveHearsRow.holds Try.pinned (OpenSpec.ofChange Rows.slaveHearsSpec) :=
  OpenClaim.holds_of_wide 9 Try.f9 rfl rfl rfl rfl rfl rfl rfl ⟨rfl, rfl, rfl, rfl, rfl⟩ rfl rfl rfl rfl rfl (by kernel_rfl) Try.func9 (by kernel_rfl)
    (of_decide_eq_true (by kernel_rfl)) (by unfold Func.isWrapper; first | (rw [if_pos (by decide +kernel)]; kernel_rfl) | (rw [if_neg (by decide +kernel)]; exact ⟨rfl, rfl⟩))
    (fun os started H enc _ => lifted os started H enc)
/-- The statement. -/
theorem proved : Rows.SlaveHearsSaid := over
end Go.Proofs.Ytmlnobiakfapcaa.slaveHears
