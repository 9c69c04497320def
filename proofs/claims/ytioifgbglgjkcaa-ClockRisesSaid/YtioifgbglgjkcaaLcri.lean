/- ClockRises (P17.3): whatever is shifted and tuned, and wherever it is read, a clock never goes back. No conditions. -/
import Derived.Test.YtioifgbglgjkcaaRows
import Derived.Deep.DeepCutAuto
import Derived.Deep.RegionHeld3
import Derived.Test.YtioifgbglgjkcaaCkm
import Derived.Test.YtioifgbglgjkcaaOpk
import Derived.WalkKit
import Derived.ProofKit
import Derived.OpenShut
import Derived.ShutString
import Derived.ChangeOld
import Derived.Below
namespace Go.Proofs.Ytioifgbglgjkcaa.clockRises
open Go.ChangeShapes Go.WideShapes Go.ChangeAt Go.RowKit
theorem own : ownKnob Try.prog.godebug = none := by kernel_rfl
theorem laidOut : laidOutB Try.prog = true := by kernel_rfl
/-- A clock that is younger than a world. -/
structure C1 (w u : World) (B : Nat) (c v r t : Int) : Prop where
  a : CK u 76 B c v r t
  below : Below w.heap.size w u
  la : w.heap.size ≤ B
theorem C1.on {w u x : World} {B : Nat} {c v r t : Int} (h : C1 w u B c v r t) (hb : Below u.heap.size u x) : C1 w x B c v r t := ⟨h.a.on hb, below_transG h.below hb, h.la⟩
theorem C1.step {w u x : World} {B : Nat} {c v r t c2 v2 r2 t2 : Int} (h : C1 w u B c v r t) (ha : CK x 76 B c2 v2 r2 t2) (hk : Kp B (.slice none 0 0) u x) : C1 w x B c2 v2 r2 t2 :=
  ⟨ha, h.below.trans (hk.belowN h.la h.below.size (fun k e => by cases e)), h.la⟩
theorem blk_kp {u x : World} {B D : Nat} {T : TypeId} {l : List Value} (h : Blk u D T l) (hne : D ≠ B) (hk : Kp B (.slice none 0 0) u x) : Blk x D T l := h.on (hk.block D h.lt hne (fun e => by cases e))
set_option maxRecDepth 100000 in
set_option maxHeartbeats 16000000 in
theorem walk (a0 : Option Addr) (len0 cap0 : Nat) (L : List A17) (w : World) (w0 : L.length = len0 ∧ (∀ s ∈ L, s.wf) ∧ Rd w 3 (.slice a0 len0 cap0) (L.flatMap A17.C)) :
    Calls Try.prog 4 #[.slice a0 len0 cap0] w fun y w' => y = .returned (.bool true) ∧ Below w.heap.size w w' := by
  obtain ⟨rfl, hwf, hL⟩ := w0
  have HLR := Lib.hid hL; have HWF := Lib.hid hwf
  clear hL hwf
  go_enter Try.func4, Try.ntmps4
  go_wp2_with fail
  refine (cknew_any _).mono ?_
  rintro y w1 ⟨B, rfl, hO, hB, hb⟩
  have HI2 := Lib.hid (show C1 w w1 B 0 0 1048576 0 from ⟨hO, hb, hB⟩)
  clear hO hb hB
  go_wp2_with fail
  go_loopw [4, 5] (fun s4 s5 wr => ∃ (i : Nat) (c v r t : Int), s5 = .int .i64 (i : Int) ∧ i ≤ 80 ∧ s4 = .int .i64 t ∧ C1 w wr B c v r t) (fun _ s5 _ => 80 - (intOf s5).toNat)
  case atStart => exact ⟨0, 0, 0, 1048576, 0, rfl, by omega, rfl, HI2.out⟩
  case round =>
    obtain ⟨i, c, v, r, t, rfl, hi80, rfl, hI⟩ := hrel
    have HI := Lib.hid hI
    clear hI HI2
    by_cases hgo : i < L.length ∧ i < 80
    · have hlt := hgo.1
      have i1 : (i : Int) < (L.length : Int) := by omega
      have i2 : (i : Int) < 80 := by have := hgo.2; omega
      have i3 : (0 : Int) ≤ (i : Int) := by omega
      obtain ⟨g, off, rfl, hg, hcell⟩ := rd_at A17.C 3 (fun _ => rfl) HLR.out hlt (by decide)
      have hwf := HWF.out L[i] (List.getElem_mem _)
      obtain ⟨s, hs⟩ : ∃ s, s = L[i] := ⟨_, rfl⟩
      rw [← hs] at hcell hwf
      clear hs
      obtain ⟨kd, x, y⟩ := s
      have HX := Lib.hid hwf.1; have HY := Lib.hid hwf.2
      unfold A17.wf at HX HY
      simp only at HX HY
      have hcw : ∀ u, Below w.heap.size w u → u.cell? ⟨g, off + i * 3, none⟩ = some (.int .i64 kd) ∧ u.cell? ⟨g, off + i * 3 + 1, none⟩ = some (.int .i64 x) ∧ u.cell? ⟨g, off + i * 3 + 2, none⟩ = some (.int .i64 y) := fun u hu => by
        have h : ∀ j v, (A17.C ⟨kd, x, y⟩)[j]? = some v → u.cell? ⟨g, off + i * 3 + j, none⟩ = some v := fun j v h => (hu.cell (p := ⟨g, off + i * 3 + j, none⟩) hg).trans (hcell j v h)
        exact ⟨h 0 _ rfl, h 1 _ rfl, h 2 _ rfl⟩
      obtain ⟨e0, e1, e2⟩ := hcw wr HI.out.below
      obtain ⟨W1, hW1⟩ : ∃ W1, W1 = wr.alloc (.cells #[.int .i64 kd, .int .i64 x, .int .i64 y] 28) := ⟨_, rfl⟩
      have hb1 : Below wr.heap.size wr W1 := by rw [hW1]; exact (Below.refl _ wr).alloc (Nat.le_refl _) _
      have hBs := (show Blk W1 wr.heap.size 28 [.int .i64 kd, .int .i64 x, .int .i64 y] by rw [hW1]; exact Blk.new wr 28 [.int .i64 kd, .int .i64 x, .int .i64 y])
      have hDB : wr.heap.size ≠ B := by have := HI.out.a.lt; omega
      have HI1 := Lib.hid (HI.out.on hb1)
      clear hcw hb1 hcell hwf
      go_upto_region 7 with fail
      obtain ⟨D, hD⟩ : ∃ D, D = wr.heap.size := ⟨_, rfl⟩
      rw [← hD] at hBs hDB ⊢
      rw [← hW1]
      have HD1 := Lib.hid hBs; have HDB := Lib.hid hDB
      have HGO := Lib.hid (show i < 80 from hgo.2)
      clear hW1 hD hBs hDB e0 e1 e2 HI i1 i2 i3 hlt
      have d0 : W1.cell? ⟨D, 0, none⟩ = some (.int .i64 kd) := HD1.out.cellAt (i := 0) (by simp)
      have d1 : W1.cell? ⟨D, 1, none⟩ = some (.int .i64 x) := HD1.out.cellAt (i := 1) (by simp)
      have d2 : W1.cell? ⟨D, 2, none⟩ = some (.int .i64 y) := HD1.out.cellAt (i := 2) (by simp)
      by_cases h2 : kd = 2
      · have k2 : (kd == 2) = true := by rw [h2]; rfl
        clear h2
        have HU := Lib.hid (fun (u : World) h => ckshift_any x y HX.out HY.out c v r t B u h)
        obtain ⟨E, hE⟩ : ∃ z, z = shE c v r x y := ⟨_, rfl⟩
        obtain ⟨c2, hc2⟩ : ∃ z, z = shC c v r x y := ⟨_, rfl⟩
        obtain ⟨v2, hv2⟩ : ∃ z, z = shV c v r x y := ⟨_, rfl⟩
        rw [← hE, ← hc2, ← hv2] at HU
        clear hE hc2 hv2
        go_wp2_with fail
        refine (HU.out _ HI1.out.a).mono ?_
        rintro y2 w3 ⟨rfl, hO, hk⟩
        have HI3 := Lib.hid (HI1.out.step hO hk); have HD3 := Lib.hid (blk_kp HD1.out HDB.out hk)
        clear hO hk d0 d1 d2 HU
        have HA := Lib.hid (fun (u : World) h => ckread_any x HX.out (c2) (v2) (r) t B u h)
        have hge := readT_ge (c2) (v2) (r) t x
        obtain ⟨X, hX⟩ : ∃ X, X = readT (c2) (v2) (r) t x := ⟨_, rfl⟩
        obtain ⟨Y, hY⟩ : ∃ Y, Y = lookB (c2) (v2) (r) x := ⟨_, rfl⟩
        rw [← hX, ← hY] at HA
        rw [← hX] at hge
        clear hX hY
        have d0 : w3.cell? ⟨D, 0, none⟩ = some (.int .i64 kd) := HD3.out.cellAt (i := 0) (by simp)
        have d1 : w3.cell? ⟨D, 1, none⟩ = some (.int .i64 x) := HD3.out.cellAt (i := 1) (by simp)
        have d2 : w3.cell? ⟨D, 2, none⟩ = some (.int .i64 y) := HD3.out.cellAt (i := 2) (by simp)
        go_wp2_with fail
        refine (HA.out _ HI3.out.a).mono ?_
        rintro y2 w5 ⟨rfl, hO, hk⟩
        have HIf := Lib.hid (HI3.out.step hO hk)
        clear hO hk d0 d1 d2
        go_wp2_with fail
        go_roundw
        case rel => exact ⟨i + 1, c2, v2, r, X, by simp, by have := HGO.out; omega, rfl, HIf.out⟩
        case measure => have := HGO.out; simp [intOf]; omega
      have k2 : (kd == 2) = false := by rw [beq_eq_false_iff_ne]; exact h2
      by_cases h3 : kd = 3
      · have k3 : (kd == 3) = true := by rw [h3]; rfl
        clear h2 h3
        have HU := Lib.hid (fun (u : World) h => cktune_any x y HX.out c v r t B u h)
        obtain ⟨E, hE⟩ : ∃ z, z = tuE c v r x y := ⟨_, rfl⟩
        obtain ⟨c2, hc2⟩ : ∃ z, z = tuC c v r x y := ⟨_, rfl⟩
        obtain ⟨v2, hv2⟩ : ∃ z, z = tuV c v r x y := ⟨_, rfl⟩
        obtain ⟨r2, hr2⟩ : ∃ z, z = tuR c v r x y := ⟨_, rfl⟩
        rw [← hE, ← hc2, ← hv2, ← hr2] at HU
        clear hE hc2 hv2 hr2
        go_wp2_with fail
        refine (HU.out _ HI1.out.a).mono ?_
        rintro y2 w3 ⟨rfl, hO, hk⟩
        have HI3 := Lib.hid (HI1.out.step hO hk); have HD3 := Lib.hid (blk_kp HD1.out HDB.out hk)
        clear hO hk d0 d1 d2 HU
        have HA := Lib.hid (fun (u : World) h => ckread_any x HX.out (c2) (v2) (r2) t B u h)
        have hge := readT_ge (c2) (v2) (r2) t x
        obtain ⟨X, hX⟩ : ∃ X, X = readT (c2) (v2) (r2) t x := ⟨_, rfl⟩
        obtain ⟨Y, hY⟩ : ∃ Y, Y = lookB (c2) (v2) (r2) x := ⟨_, rfl⟩
        rw [← hX, ← hY] at HA
        rw [← hX] at hge
        clear hX hY
        have d0 : w3.cell? ⟨D, 0, none⟩ = some (.int .i64 kd) := HD3.out.cellAt (i := 0) (by simp)
        have d1 : w3.cell? ⟨D, 1, none⟩ = some (.int .i64 x) := HD3.out.cellAt (i := 1) (by simp)
        have d2 : w3.cell? ⟨D, 2, none⟩ = some (.int .i64 y) := HD3.out.cellAt (i := 2) (by simp)
        go_wp2_with fail
        refine (HA.out _ HI3.out.a).mono ?_
        rintro y2 w5 ⟨rfl, hO, hk⟩
        have HIf := Lib.hid (HI3.out.step hO hk)
        clear hO hk d0 d1 d2
        go_wp2_with fail
        go_roundw
        case rel => exact ⟨i + 1, c2, v2, r2, X, by simp, by have := HGO.out; omega, rfl, HIf.out⟩
        case measure => have := HGO.out; simp [intOf]; omega
      have k3 : (kd == 3) = false := by rw [beq_eq_false_iff_ne]; exact h3
      clear h2 h3 d0 d1 d2
      have HA := Lib.hid (fun (u : World) h => ckread_any x HX.out (c) (v) (r) t B u h)
      have hge := readT_ge (c) (v) (r) t x
      obtain ⟨X, hX⟩ : ∃ X, X = readT (c) (v) (r) t x := ⟨_, rfl⟩
      obtain ⟨Y, hY⟩ : ∃ Y, Y = lookB (c) (v) (r) x := ⟨_, rfl⟩
      rw [← hX, ← hY] at HA
      rw [← hX] at hge
      clear hX hY
      have d0 : W1.cell? ⟨D, 0, none⟩ = some (.int .i64 kd) := HD1.out.cellAt (i := 0) (by simp)
      have d1 : W1.cell? ⟨D, 1, none⟩ = some (.int .i64 x) := HD1.out.cellAt (i := 1) (by simp)
      have d2 : W1.cell? ⟨D, 2, none⟩ = some (.int .i64 y) := HD1.out.cellAt (i := 2) (by simp)
      go_wp2_with fail
      refine (HA.out _ HI1.out.a).mono ?_
      rintro y2 w5 ⟨rfl, hO, hk⟩
      have HIf := Lib.hid (HI1.out.step hO hk)
      clear hO hk d0 d1 d2
      go_wp2_with fail
      go_roundw
      case rel => exact ⟨i + 1, c, v, r, X, by simp, by have := HGO.out; omega, rfl, HIf.out⟩
      case measure => have := HGO.out; simp [intOf]; omega
    · have hT : ((i : Int) < (L.length : Int) ∧ ¬ (i : Int) < 80) ∨ ¬ (i : Int) < (L.length : Int) := by omega
      clear hgo
      rcases hT with ⟨i1, i2⟩ | i1
      all_goals
        go_wp2_with fail
        refine (live17 _).mono ?_
        rintro y w5 ⟨rfl, hb⟩
        have HIz := Lib.hid (HI.out.on hb)
        clear hb
        go_wp2_with fail
        refine (cklast_any c v r t B _ HIz.out.a).mono ?_
        rintro y w6 ⟨rfl, rfl⟩
        go_wp2_with fail
        go_ret
        exact ⟨rfl, HIz.out.below⟩
set_option maxRecDepth 100000 in
theorem lifted (os : Os) (started : os.Started) (H : Type) (enc : TypeId × Value → H) :
    ReturnsInHanded {} Try.checked os 4 .any (Rows.clockRisesSpec.pre6 enc Try.prog Try.f4 Rows.clockRisesRow.domain false) (Rows.clockRisesSpec.post enc Try.prog Try.f4 false true false false) := by
  refine returnsInHanded_of_change (C := Try.checked) own started (by kernel_rfl) Try.func4
    (ChangeSpec.witness6 (enc := enc) (C := Try.checked) false ⟨#[], #[.slice none 0 0], []⟩ 8 (by kernel_rfl) (by kernel_rfl) (by kernel_rfl) (by kernel_rfl)) ?_
  intro W base args ds gs before hval0 hW _ _
  have hval : ∀ (j : Nat) t v, Try.f4.params[j]? = some t → args[j]? = some v → Value.okWide Try.prog W .any base t v := hval0
  have hW' := hW
  obtain ⟨p, q, hA0, hV, rfl, hfz, hnd⟩ := hW
  have hA : DataW.TrodAll enc Try.prog W 0 (fun _ => true) true Try.f4.params.toList args.toList ds p := hA0
  rw [Try.params4] at hA hval
  obtain ⟨v0, vs0, d0, ds0, p0, q0, hargs, rfl, rfl, h0, r0⟩ := trodAll_cons hA
  obtain ⟨rfl, rfl, rfl⟩ := trodAll_nil r0
  obtain rfl : args = #[v0] := by cases args; simp_all
  obtain ⟨rfl, rfl⟩ := trodVars_none hV
  obtain ⟨a0, len0, cap0, rfl⟩ := okWide_slice Try.underlying22 (hval 0 22 v0 rfl rfl)
  have k0 := h0
  have lt0 : ∀ x ∈ p0, x.block < W.heap.size := by obtain ⟨m, hm⟩ := k0; exact DataW.trod_lt m _ _ _ hm
  obtain ⟨L0, wl0, ww0, wr0⟩ : ∃ L : List A17, L.length = len0 ∧ (∀ s ∈ L, A17.wf s) ∧ Rd W 3 (.slice a0 len0 cap0) (L.flatMap A17.C) := by
    obtain ⟨fuel, hf⟩ := h0
    exact open_rows A17.C A17.wf 3 (by decide) Try.underlying22 (by kernel_rfl) (fun _ => rfl) (fun _ _ _ => act17G) (by simpa [Value.cells] using hf)
  clear hA0 hval0
  refine (walk a0 len0 cap0 L0 W ⟨wl0, ww0, wr0⟩).mono fun e W' ⟨he, bel⟩ => ?_
  subst he
  exact ⟨_, rfl, _, _, _, [], _, [], hW', trodAll_mk1 (shut_bool Try.underlying4 _), (trodAll_cons_mk (Below.trod laidOut (by kernel_rfl) (of_decide_eq_true (by kernel_rfl)) k0 bel lt0) trodAll_mk0), rfl, bel.frame _, fun h => by cases h⟩
theorem over : Rows.clockRisesRow.holds Try.pinned (OpenSpec.ofChange Rows.clockRisesSpec) :=
  OpenClaim.holds_of_wide 4 Try.f4 rfl rfl rfl rfl rfl rfl rfl ⟨rfl, rfl, rfl, rfl, rfl⟩ rfl rfl rfl rfl rfl (by kernel_rfl) Try.func4 (by kernel_rfl)
    (of_decide_eq_true (by kernel_rfl)) (by unfold Func.isWrapper; first | (rw [if_pos (by decide +kernel)]; kernel_rfl) | (rw [if_neg (by decide +kernel)]; exact ⟨rfl, rfl⟩))
    (fun os started H enc _ => lifted os started H enc)
/-- The statement. -/
theorem proved : Rows.ClockRisesSaid := over
end Go.Proofs.Ytioifgbglgjkcaa.clockRises
