/- ClockMoves (P17.4): a shift moves what a clock has by just so much, a new rate by nothing, at that count. No conditions. -/
import Derived.Test.YtioifgbglgjkcaaRows
import Derived.Deep.DeepCutAuto
import Derived.Deep.RegionHeld3
import Derived.Test.YtioifgbglgjkcaaCkm
import Derived.Test.YtioifgbglgjkcaaOpk
import Derived.WalkKit
import Derived.ProofKit
import Derived.OpenShut
import Derived.ShutString
import Derived.ChangeOld
import Derived.Below
namespace Go.Proofs.Ytioifgbglgjkcaa.clockMoves
open Go.ChangeShapes Go.WideShapes Go.ChangeAt Go.RowKit
theorem own : ownKnob Try.prog.godebug = none := by kernel_rfl
theorem laidOut : laidOutB Try.prog = true := by kernel_rfl
/-- A clock that is younger than a world. -/
structure C1 (w u : World) (B : Nat) (c v r t : Int) : Prop where
  a : CK u 76 B c v r t
  below : Below w.heap.size w u
  la : w.heap.size ≤ B
theorem C1.on {w u x : World} {B : Nat} {c v r t : Int} (h : C1 w u B c v r t) (hb : Below u.heap.size u x) : C1 w x B c v r t := ⟨h.a.on hb, below_transG h.below hb, h.la⟩
theorem C1.step {w u x : World} {B : Nat} {c v r t c2 v2 r2 t2 : Int} (h : C1 w u B c v r t) (ha : CK x 76 B c2 v2 r2 t2) (hk : Kp B (.slice none 0 0) u x) : C1 w x B c2 v2 r2 t2 :=
  ⟨ha, h.below.trans (hk.belowN h.la h.below.size (fun k e => by cases e)), h.la⟩
theorem blk_kp {u x : World} {B D : Nat} {T : TypeId} {l : List Value} (h : Blk u D T l) (hne : D ≠ B) (hk : Kp B (.slice none 0 0) u x) : Blk x D T l := h.on (hk.block D h.lt hne (fun e => by cases e))
set_option maxRecDepth 100000 in
set_option maxHeartbeats 16000000 in
theorem walk (a0 : Option Addr) (len0 cap0 : Nat) (L : List A17) (a1 a2 : Int) (w : World) (w0 : L.length = len0 ∧ (∀ s ∈ L, s.wf) ∧ Rd w 3 (.slice a0 len0 cap0) (L.flatMap A17.C)) (w1_ : (Lit.int .i64 a1).wf = true) (w2_ : (Lit.int .i64 a2).wf = true) :
    Calls Try.prog 5 #[.slice a0 len0 cap0, .int .i64 a1, .int .i64 a2] w fun y w' => y = .returned (.bool true) ∧ Below w.heap.size w w' := by
  obtain ⟨rfl, hwf, hL⟩ := w0
  have HLR := Lib.hid hL; have HWF := Lib.hid hwf
  clear hL hwf
  have H1 := Lib.hid (wf64 w1_); have H2 := Lib.hid (wf64 w2_)
  clear w1_ w2_
  go_enter Try.func5, Try.ntmps5
  go_wp2_with fail
  refine (cknew_any _).mono ?_
  rintro y w1 ⟨B, rfl, hO, hB, hb⟩
  have HI2 := Lib.hid (show C1 w w1 B 0 0 1048576 0 from ⟨hO, hb, hB⟩)
  clear hO hb hB
  go_wp2_with fail
  go_loopw [8] (fun s8 wr => ∃ (i : Nat) (c v r t : Int), s8 = .int .i64 (i : Int) ∧ i ≤ 40 ∧ C1 w wr B c v r t) (fun s8 _ => 40 - (intOf s8).toNat)
  case atStart => exact ⟨0, 0, 0, 1048576, 0, rfl, by omega, HI2.out⟩
  case round =>
    obtain ⟨i, c, v, r, t, rfl, hi80, hI⟩ := hrel
    have HI := Lib.hid hI
    clear hI HI2
    by_cases hgo : i < L.length ∧ i < 40
    · have hlt := hgo.1
      have i1 : (i : Int) < (L.length : Int) := by omega
      have i2 : (i : Int) < 40 := by have := hgo.2; omega
      have i3 : (0 : Int) ≤ (i : Int) := by omega
      obtain ⟨g, off, rfl, hg, hcell⟩ := rd_at A17.C 3 (fun _ => rfl) HLR.out hlt (by decide)
      have hwf := HWF.out L[i] (List.getElem_mem _)
      obtain ⟨s, hs⟩ : ∃ s, s = L[i] := ⟨_, rfl⟩
      rw [← hs] at hcell hwf
      clear hs
      obtain ⟨kd, x, y⟩ := s
      have HX := Lib.hid hwf.1; have HY := Lib.hid hwf.2
      unfold A17.wf at HX HY
      simp only at HX HY
      have hcw : ∀ u, Below w.heap.size w u → u.cell? ⟨g, off + i * 3, none⟩ = some (.int .i64 kd) ∧ u.cell? ⟨g, off + i * 3 + 1, none⟩ = some (.int .i64 x) ∧ u.cell? ⟨g, off + i * 3 + 2, none⟩ = some (.int .i64 y) := fun u hu => by
        have h : ∀ j v, (A17.C ⟨kd, x, y⟩)[j]? = some v → u.cell? ⟨g, off + i * 3 + j, none⟩ = some v := fun j v h => (hu.cell (p := ⟨g, off + i * 3 + j, none⟩) hg).trans (hcell j v h)
        exact ⟨h 0 _ rfl, h 1 _ rfl, h 2 _ rfl⟩
      have HCW := Lib.hid hcw
      obtain ⟨e0, e1, e2⟩ := hcw wr HI.out.below
      have HGO := Lib.hid (show i < 40 from hgo.2)
      clear hcw hcell hwf
      by_cases h2 : kd = 2
      · have k2 : (kd == 2) = true := by rw [h2]; rfl
        have k3 : (kd == 3) = false := by rw [h2]; rfl
        clear h2
        have HU := Lib.hid (fun (u : World) h => ckshift_any x y HX.out HY.out c v r t B u h)
        obtain ⟨E, hE⟩ : ∃ z, z = shE c v r x y := ⟨_, rfl⟩
        obtain ⟨c2, hc2⟩ : ∃ z, z = shC c v r x y := ⟨_, rfl⟩
        obtain ⟨v2, hv2⟩ : ∃ z, z = shV c v r x y := ⟨_, rfl⟩
        rw [← hE, ← hc2, ← hv2] at HU
        clear hE hc2 hv2
        have HS := Lib.hid (show ∀ u, Below w.heap.size w u → (Below w.heap.size w u ∧ u.cell? ⟨g, off + i * 3, none⟩ = some (.int .i64 kd) ∧ u.cell? ⟨g, off + i * 3 + 1, none⟩ = some (.int .i64 x) ∧ u.cell? ⟨g, off + i * 3 + 2, none⟩ = some (.int .i64 y)) from fun u hu => ⟨hu, HCW.out u hu⟩)
        have HQ := Lib.hid (show ∀ u, C1 w u B c v r t → Calls Try.prog 17 #[.pointer (some ⟨B, 0, none⟩), .int .i64 x, .int .i64 y] u fun z w' => z = .returned (.int .i64 E) ∧ C1 w w' B c2 v2 r t ∧ (Below w.heap.size w w' ∧ w'.cell? ⟨g, off + i * 3, none⟩ = some (.int .i64 kd) ∧ w'.cell? ⟨g, off + i * 3 + 1, none⟩ = some (.int .i64 x) ∧ w'.cell? ⟨g, off + i * 3 + 2, none⟩ = some (.int .i64 y)) from fun u h => (HU.out u h.a).mono fun z w' ⟨h1, h2, h3⟩ => ⟨h1, h.step h2 h3, HS.out _ (h.step h2 h3).below⟩)
        have z0 := HS.out _ HI.out.below
        have z1 := HS.out _ HI.out.below.drew
        clear HU
        go_upto_region 6 with fail
        clear e0 e1 e2
        go_cut [8] (fun s wx => s = .int .i64 (i : Int) ∧ C1 w wx B c2 v2 r t)
        case first =>
          go_region_held3 (fun u => (Below w.heap.size w u ∧ u.cell? ⟨g, off + i * 3, none⟩ = some (.int .i64 kd) ∧ u.cell? ⟨g, off + i * 3 + 1, none⟩ = some (.int .i64 x) ∧ u.cell? ⟨g, off + i * 3 + 2, none⟩ = some (.int .i64 y))) (first | (with_reducible assumption) | (with_reducible exact h6S)) (first | (go_at_call 17; refine (HQ.out _ (by first | exact HI.out | exact HI.out.on (Below.refl _ _).drew)).mono ?_; rintro e6 w6 ⟨rfl, h6, h6S⟩))
          all_goals (go_wp2_with fail; go_meet; exact ⟨rfl, h6⟩)
        case rest =>
        obtain ⟨rfl, h3⟩ := hcut
        obtain ⟨we, hwe⟩ : ∃ we, we = wc := ⟨_, rfl⟩
        rw [← hwe] at h3 ⊢
        have HIe := Lib.hid h3
        obtain ⟨e0, e1, e2⟩ := HCW.out we h3.below
        clear h3 hwe z0 z1 HQ HS
        go_wp2_with fail
        go_roundw
        case rel => exact ⟨i + 1, c2, v2, r, t, by simp, by have := HGO.out; omega, HIe.out⟩
        case measure => have := HGO.out; simp [intOf]; omega
      have k2 : (kd == 2) = false := by rw [beq_eq_false_iff_ne]; exact h2
      by_cases h3 : kd = 3
      · have k3 : (kd == 3) = true := by rw [h3]; rfl
        clear h2 h3
        have HU := Lib.hid (fun (u : World) h => cktune_any x y HX.out c v r t B u h)
        obtain ⟨E, hE⟩ : ∃ z, z = tuE c v r x y := ⟨_, rfl⟩
        obtain ⟨c2, hc2⟩ : ∃ z, z = tuC c v r x y := ⟨_, rfl⟩
        obtain ⟨v2, hv2⟩ : ∃ z, z = tuV c v r x y := ⟨_, rfl⟩
        obtain ⟨r2, hr2⟩ : ∃ z, z = tuR c v r x y := ⟨_, rfl⟩
        rw [← hE, ← hc2, ← hv2, ← hr2] at HU
        clear hE hc2 hv2 hr2
        have HS := Lib.hid (show ∀ u, Below w.heap.size w u → (Below w.heap.size w u ∧ u.cell? ⟨g, off + i * 3, none⟩ = some (.int .i64 kd) ∧ u.cell? ⟨g, off + i * 3 + 1, none⟩ = some (.int .i64 x) ∧ u.cell? ⟨g, off + i * 3 + 2, none⟩ = some (.int .i64 y)) from fun u hu => ⟨hu, HCW.out u hu⟩)
        have HQ := Lib.hid (show ∀ u, C1 w u B c v r t → Calls Try.prog 19 #[.pointer (some ⟨B, 0, none⟩), .int .i64 x, .int .i64 y] u fun z w' => z = .returned (.int .i64 E) ∧ C1 w w' B c2 v2 r2 t ∧ (Below w.heap.size w w' ∧ w'.cell? ⟨g, off + i * 3, none⟩ = some (.int .i64 kd) ∧ w'.cell? ⟨g, off + i * 3 + 1, none⟩ = some (.int .i64 x) ∧ w'.cell? ⟨g, off + i * 3 + 2, none⟩ = some (.int .i64 y)) from fun u h => (HU.out u h.a).mono fun z w' ⟨h1, h2, h3⟩ => ⟨h1, h.step h2 h3, HS.out _ (h.step h2 h3).below⟩)
        have z0 := HS.out _ HI.out.below
        have z1 := HS.out _ HI.out.below.drew
        clear HU
        go_upto_region 8 with fail
        clear e0 e1 e2
        go_region_held3 (fun u => (Below w.heap.size w u ∧ u.cell? ⟨g, off + i * 3, none⟩ = some (.int .i64 kd) ∧ u.cell? ⟨g, off + i * 3 + 1, none⟩ = some (.int .i64 x) ∧ u.cell? ⟨g, off + i * 3 + 2, none⟩ = some (.int .i64 y))) (first | (with_reducible assumption) | (with_reducible exact h6S)) (first | (go_at_call 19; refine (HQ.out _ (by first | exact HI.out | exact HI.out.on (Below.refl _ _).drew)).mono ?_; rintro e6 w6 ⟨rfl, h6, h6S⟩))
        all_goals
          have HI6 := Lib.hid h6
          clear h6 h6S
          go_wp2_with fail
          go_roundw
          case rel => exact ⟨i + 1, c2, v2, r2, t, by simp, by have := HGO.out; omega, HI6.out⟩
          case measure => have := HGO.out; simp [intOf]; omega
      have k3 : (kd == 3) = false := by rw [beq_eq_false_iff_ne]; exact h3
      clear h2 h3
      go_wp2_with fail
      go_roundw
      case rel => exact ⟨i + 1, c, v, r, t, by simp, by have := HGO.out; omega, HI.out⟩
      case measure => have := HGO.out; simp [intOf]; omega
    · have hT : ((i : Int) < (L.length : Int) ∧ ¬ (i : Int) < 40) ∨ ¬ (i : Int) < (L.length : Int) := by omega
      clear hgo
      have HQ := Lib.hid (show 1044480 ≤ 1048576 + a2.tmod 4097 ∧ 1048576 + a2.tmod 4097 ≤ 1052672 by have := tmod_in a2 4097 (by decide); omega)
      have hq1 : wrap64 (1048576 + a2.tmod 4097) = 1048576 + a2.tmod 4097 := w64_in _ (by have := HQ.out; omega)
      obtain ⟨q, hq⟩ : ∃ q, q = 1048576 + a2.tmod 4097 := ⟨_, rfl⟩
      have HW := Lib.hid (show wrap64 (1048576 + a2.tmod 4097) = q by rw [hq1, hq])
      have HMN := Lib.hid (show wrap64 (a2.tmod 4097) = a2.tmod 4097 from w64_in _ (by have := tmod_in a2 4097 (by decide); omega))
      rw [← hq] at HQ
      clear hq1 hq
      have HL1 := Lib.hid (fun (u : World) h => cklook_any a1 H1.out c v r t B u h)
      have HSH := Lib.hid (fun (u : World) h => ckshift_any a1 a2 H1.out H2.out c v r t B u h)
      rcases shE_two c v r a1 a2 with hE | hE
      · obtain ⟨b1, b2, b3⟩ := sh_yes hE
        have HBX := Lib.hid (look_in c v r a1)
        have HBY := Lib.hid (look_in (shC c v r a1 a2) (shV c v r a1 a2) r a1)
        rw [hE] at HSH
        rw [b1] at HL1
        have HL2 := Lib.hid (fun (u : World) h => cklook_any a1 H1.out (shC c v r a1 a2) (shV c v r a1 a2) r t B u h)
        have HB2 := Lib.hid b2; have HX2 := Lib.hid b3
        obtain ⟨X, hX⟩ : ∃ X, X = lookX c v r a1 := ⟨_, rfl⟩
        obtain ⟨c2, hc2⟩ : ∃ z, z = shC c v r a1 a2 := ⟨_, rfl⟩
        obtain ⟨v2, hv2⟩ : ∃ z, z = shV c v r a1 a2 := ⟨_, rfl⟩
        rw [← hX] at HL1 HX2 HBX
        rw [← hc2, ← hv2] at HSH HL2 HB2 HX2 HBY
        rw [HX2.out] at HBY HL2
        rw [HB2.out] at HL2
        obtain ⟨X2, hX2⟩ : ∃ z, z = X + a2 := ⟨_, rfl⟩
        have HD := Lib.hid (show wrap64 (X2 - X) = a2 by rw [hX2, show X + a2 - X = a2 by omega]; exact w64_in _ (by have := H2.out; omega))
        rw [← hX2] at HX2 HL2
        have m1 := HW.out; have m2 := HD.out; have m3 := HMN.out
        have k1 : (a2 != a2) = false := by simp
        have k2 : (X2 == X2) = true := by simp
        clear hE b1 b2 b3 hX hc2 hv2 hX2
        rcases hT with ⟨i1, i2⟩ | i1
        all_goals
          go_wp2_with fail
          refine (HL1.out _ HI.out.a).mono ?_
          rintro y5 w5 ⟨rfl, hb⟩
          have HI5 := Lib.hid (HI.out.on hb)
          clear hb
          go_wp2_with fail
          refine (HSH.out _ HI5.out.a).mono ?_
          rintro y6 w6 ⟨rfl, hO, hk⟩
          have HI6 := Lib.hid (HI5.out.step hO hk)
          clear hO hk
          go_wp2_with fail
          refine (HL2.out _ HI6.out.a).mono ?_
          rintro y7 w7 ⟨rfl, hb⟩
          have HI7 := Lib.hid (HI6.out.on hb)
          clear hb
          have HT := Lib.hid (fun (u : World) h => cktune_any a1 q H1.out c2 v2 r t B u h)
          rw [(tu_in HQ.out).1 HB2.out] at HT
          have ht := tu_yes ((tu_in (c := c2) (v := v2) (r := r) (n := a1) HQ.out).1 HB2.out)
          rw [HX2.out] at ht
          obtain ⟨c3, hc3⟩ : ∃ z, z = tuC c2 v2 r a1 q := ⟨_, rfl⟩
          obtain ⟨v3, hv3⟩ : ∃ z, z = tuV c2 v2 r a1 q := ⟨_, rfl⟩
          obtain ⟨r3, hr3⟩ : ∃ z, z = tuR c2 v2 r a1 q := ⟨_, rfl⟩
          rw [← hc3, ← hv3, ← hr3] at ht HT
          have HL3 := Lib.hid (fun (u : World) h => cklook_any a1 H1.out c3 v3 r3 t B u h)
          rw [ht.1, ht.2] at HL3
          clear ht hc3 hv3 hr3
          go_wp2_with fail
          refine (HT.out _ HI7.out.a).mono ?_
          rintro y8 w8 ⟨rfl, hO, hk⟩
          have HI8 := Lib.hid (HI7.out.step hO hk)
          clear hO hk
          go_wp2_with fail
          refine (HL3.out _ HI8.out.a).mono ?_
          rintro y9 w9 ⟨rfl, hb⟩
          have HI9 := Lib.hid (HI8.out.on hb)
          clear hb
          go_wp2_with fail
          refine (live17 _).mono ?_
          rintro y10 w10 ⟨rfl, hb⟩
          have HBz := Lib.hid (below_transG HI9.out.below hb)
          clear hb
          go_wp2_with fail
          go_ret
          exact ⟨rfl, HBz.out⟩
      · obtain ⟨b1, b2⟩ := sh_no hE
        rw [hE, b1, b2] at HSH
        clear hE b1 b2
        obtain ⟨c2, hc2⟩ : ∃ z, z = c := ⟨_, rfl⟩
        obtain ⟨v2, hv2⟩ : ∃ z, z = v := ⟨_, rfl⟩
        rw [← hc2, ← hv2] at HSH HL1 HI
        clear hc2 hv2
        obtain ⟨X2, hX⟩ : ∃ X, X = lookX c2 v2 r a1 := ⟨_, rfl⟩
        obtain ⟨k, hk⟩ : ∃ X, X = lookB c2 v2 r a1 := ⟨_, rfl⟩
        have HX2 := Lib.hid hX.symm; have HB2 := Lib.hid hk.symm
        rw [← hX, ← hk] at HL1
        have m1 := HW.out; have m3 := HMN.out
        have k1 : (X2 != X2) = false := by simp
        have k2 : (X2 == X2) = true := by simp
        clear hX hk
        cases k
        case true =>
          rcases hT with ⟨i1, i2⟩ | i1
          all_goals
            go_wp2_with fail
            refine (HL1.out _ HI.out.a).mono ?_
            rintro y5 w5 ⟨rfl, hb⟩
            have HI5 := Lib.hid (HI.out.on hb)
            clear hb
            go_wp2_with fail
            refine (HSH.out _ HI5.out.a).mono ?_
            rintro y6 w6 ⟨rfl, hO, hk⟩
            have HI6 := Lib.hid (HI5.out.step hO hk)
            clear hO hk
            go_wp2_with fail
            refine (HL1.out _ HI6.out.a).mono ?_
            rintro y7 w7 ⟨rfl, hb⟩
            have HI7 := Lib.hid (HI6.out.on hb)
            clear hb
            have HT := Lib.hid (fun (u : World) h => cktune_any a1 q H1.out c2 v2 r t B u h)
            rw [(tu_in HQ.out).1 HB2.out] at HT
            have ht := tu_yes ((tu_in (c := c2) (v := v2) (r := r) (n := a1) HQ.out).1 HB2.out)
            rw [HX2.out] at ht
            obtain ⟨c3, hc3⟩ : ∃ z, z = tuC c2 v2 r a1 q := ⟨_, rfl⟩
            obtain ⟨v3, hv3⟩ : ∃ z, z = tuV c2 v2 r a1 q := ⟨_, rfl⟩
            obtain ⟨r3, hr3⟩ : ∃ z, z = tuR c2 v2 r a1 q := ⟨_, rfl⟩
            rw [← hc3, ← hv3, ← hr3] at ht HT
            have HL3 := Lib.hid (fun (u : World) h => cklook_any a1 H1.out c3 v3 r3 t B u h)
            rw [ht.1, ht.2] at HL3
            clear ht hc3 hv3 hr3
            go_wp2_with fail
            refine (HT.out _ HI7.out.a).mono ?_
            rintro y8 w8 ⟨rfl, hO, hk⟩
            have HI8 := Lib.hid (HI7.out.step hO hk)
            clear hO hk
            go_wp2_with fail
            refine (HL3.out _ HI8.out.a).mono ?_
            rintro y9 w9 ⟨rfl, hb⟩
            have HI9 := Lib.hid (HI8.out.on hb)
            clear hb
            go_wp2_with fail
            refine (live17 _).mono ?_
            rintro y10 w10 ⟨rfl, hb⟩
            have HBz := Lib.hid (below_transG HI9.out.below hb)
            clear hb
            go_wp2_with fail
            go_ret
            exact ⟨rfl, HBz.out⟩
        case false =>
          rcases hT with ⟨i1, i2⟩ | i1
          all_goals
            go_wp2_with fail
            refine (HL1.out _ HI.out.a).mono ?_
            rintro y5 w5 ⟨rfl, hb⟩
            have HI5 := Lib.hid (HI.out.on hb)
            clear hb
            go_wp2_with fail
            refine (HSH.out _ HI5.out.a).mono ?_
            rintro y6 w6 ⟨rfl, hO, hk⟩
            have HI6 := Lib.hid (HI5.out.step hO hk)
            clear hO hk
            go_wp2_with fail
            refine (HL1.out _ HI6.out.a).mono ?_
            rintro y7 w7 ⟨rfl, hb⟩
            have HI7 := Lib.hid (HI6.out.on hb)
            clear hb
            have HT := Lib.hid (fun (u : World) h => cktune_any a1 q H1.out c2 v2 r t B u h)
            rw [(tu_in HQ.out).2 HB2.out] at HT
            have ht := tu_no ((tu_in (c := c2) (v := v2) (r := r) (n := a1) HQ.out).2 HB2.out)
            rw [ht.1, ht.2.1, ht.2.2] at HT
            clear ht
            have HL3 := Lib.hid (fun (u : World) h => cklook_any a1 H1.out c2 v2 r t B u h)
            rw [HB2.out, HX2.out] at HL3
            go_wp2_with fail
            refine (HT.out _ HI7.out.a).mono ?_
            rintro y8 w8 ⟨rfl, hO, hk⟩
            have HI8 := Lib.hid (HI7.out.step hO hk)
            clear hO hk
            go_wp2_with fail
            refine (HL3.out _ HI8.out.a).mono ?_
            rintro y9 w9 ⟨rfl, hb⟩
            have HI9 := Lib.hid (HI8.out.on hb)
            clear hb
            go_wp2_with fail
            refine (live17 _).mono ?_
            rintro y10 w10 ⟨rfl, hb⟩
            have HBz := Lib.hid (below_transG HI9.out.below hb)
            clear hb
            go_wp2_with fail
            go_ret
            exact ⟨rfl, HBz.out⟩
set_option maxRecDepth 100000 in
theorem lifted (os : Os) (started : os.Started) (H : Type) (enc : TypeId × Value → H) :
    ReturnsInHanded {} Try.checked os 5 .any (Rows.clockMovesSpec.pre6 enc Try.prog Try.f5 Rows.clockMovesRow.domain false) (Rows.clockMovesSpec.post enc Try.prog Try.f5 false true false false) := by
  refine returnsInHanded_of_change (C := Try.checked) own started (by kernel_rfl) Try.func5
    (ChangeSpec.witness6 (enc := enc) (C := Try.checked) false ⟨#[], #[.slice none 0 0, .int .i64 0, .int .i64 0], []⟩ 8 (by kernel_rfl) (by kernel_rfl) (by kernel_rfl) (by kernel_rfl)) ?_
  intro W base args ds gs before hval0 hW _ _
  have hval : ∀ (j : Nat) t v, Try.f5.params[j]? = some t → args[j]? = some v → Value.okWide Try.prog W .any base t v := hval0
  have hW' := hW
  obtain ⟨p, q, hA0, hV, rfl, hfz, hnd⟩ := hW
  have hA : DataW.TrodAll enc Try.prog W 0 (fun _ => true) true Try.f5.params.toList args.toList ds p := hA0
  rw [Try.params5] at hA hval
  obtain ⟨v0, vs0, d0, ds0, p0, q0, hargs, rfl, rfl, h0, r0⟩ := trodAll_cons hA
  obtain ⟨v1, vs1, d1, ds1, p1, q1, rfl, rfl, rfl, h1, r1⟩ := trodAll_cons r0
  obtain ⟨v2, vs2, d2, ds2, p2, q2, rfl, rfl, rfl, h2, r2⟩ := trodAll_cons r1
  obtain ⟨rfl, rfl, rfl⟩ := trodAll_nil r2
  obtain rfl : args = #[v0, v1, v2] := by cases args; simp_all
  obtain ⟨rfl, rfl⟩ := trodVars_none hV
  obtain ⟨a0, len0, cap0, rfl⟩ := okWide_slice Try.underlying22 (hval 0 22 v0 rfl rfl)
  have k0 := h0
  have lt0 : ∀ x ∈ p0, x.block < W.heap.size := by obtain ⟨m, hm⟩ := k0; exact DataW.trod_lt m _ _ _ hm
  obtain ⟨L0, wl0, ww0, wr0⟩ : ∃ L : List A17, L.length = len0 ∧ (∀ s ∈ L, A17.wf s) ∧ Rd W 3 (.slice a0 len0 cap0) (L.flatMap A17.C) := by
    obtain ⟨fuel, hf⟩ := h0
    exact open_rows A17.C A17.wf 3 (by decide) Try.underlying22 (by kernel_rfl) (fun _ => rfl) (fun _ _ _ => act17G) (by simpa [Value.cells] using hf)
  obtain ⟨a1, rfl, rfl, rfl, w1⟩ := open_int Try.underlying2 (hval 1 2 v1 rfl rfl) h1
  obtain ⟨a2, rfl, rfl, rfl, w2⟩ := open_int Try.underlying2 (hval 2 2 v2 rfl rfl) h2
  clear hA0 hval0
  refine (walk a0 len0 cap0 L0 a1 a2 W ⟨wl0, ww0, wr0⟩ w1 w2).mono fun e W' ⟨he, bel⟩ => ?_
  subst he
  exact ⟨_, rfl, _, _, _, [], _, [], hW', trodAll_mk1 (shut_bool Try.underlying4 _), (trodAll_cons_mk (Below.trod laidOut (by kernel_rfl) (of_decide_eq_true (by kernel_rfl)) k0 bel lt0) (trodAll_cons_mk (shut_int Try.underlying2 w1) (trodAll_cons_mk (shut_int Try.underlying2 w2) trodAll_mk0))), rfl, bel.frame _, fun h => by cases h⟩
theorem over : Rows.clockMovesRow.holds Try.pinned (OpenSpec.ofChange Rows.clockMovesSpec) :=
  OpenClaim.holds_of_wide 5 Try.f5 rfl rfl rfl rfl rfl rfl rfl ⟨rfl, rfl, rfl, rfl, rfl⟩ rfl rfl rfl rfl rfl (by kernel_rfl) Try.func5 (by kernel_rfl)
    (of_decide_eq_true (by kernel_rfl)) (by unfold Func.isWrapper; first | (rw [if_pos (by decide +kernel)]; kernel_rfl) | (rw [if_neg (by decide +kernel)]; exact ⟨rfl, rfl⟩))
    (fun os started H enc _ => lifted os started H enc)
/-- The statement. -/
theorem proved : Rows.ClockMovesSaid := over
end Go.Proofs.Ytioifgbglgjkcaa.clockMoves
