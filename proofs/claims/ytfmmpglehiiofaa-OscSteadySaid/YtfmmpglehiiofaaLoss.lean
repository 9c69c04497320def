/- OscSteady (P16.5): a steady oscillator has counted at least, and at most, as much as that many bits may have. No conditions. -/
import Derived.Test.YtfmmpglehiiofaaRows
import Derived.Test.YtfmmpglehiiofaaOsr
import Derived.Test.YtfmmpglehiiofaaQui
import Derived.Deep.RegionHeld3
import Derived.Deep.DeepCutAuto
import Derived.Lib.SmallJoins
import Derived.WalkKit
import Derived.ProofKit
import Derived.OpenShut
import Derived.ShutString
import Derived.ChangeOld
import Derived.Below
namespace Go.Proofs.Ytfmmpglehiiofaa.oscSteady
open Go.ChangeShapes Go.WideShapes Go.ChangeAt Go.RowKit
theorem own : ownKnob Try.prog.godebug = none := by kernel_rfl
theorem laidOut : laidOutB Try.prog = true := by kernel_rfl
theorem steady_next {lo hi k c t : Int} (h : k * lo ≤ c ∧ c ≤ k * hi) (h2 : lo ≤ t ∧ t ≤ hi) : (k + 1) * lo ≤ c + t ∧ c + t ≤ (k + 1) * hi := by
  rw [Int.add_mul, Int.add_mul, Int.one_mul, Int.one_mul]; omega
theorem mul_in {k x : Int} (hk : 0 ≤ k ∧ k ≤ 100) (hx : 0 ≤ x ∧ x ≤ 2097152) : 0 ≤ k * x ∧ k * x ≤ 209715200 := by
  have h1 := Int.mul_nonneg hk.1 hx.1
  have h2 := Int.mul_le_mul_of_nonneg_right hk.2 hx.1
  omega
set_option maxRecDepth 100000 in
set_option maxHeartbeats 8000000 in
theorem walk (n d : Int) (a1 : Option Addr) (len1 cap1 : Nat) (z1 : List Int) (w : World) (wn : (Lit.int .i64 n).wf = true) (_wd : (Lit.int .i64 d).wf = true) (w1 : RowI .i64 w a1 len1 cap1 z1) :
    Calls Try.prog 11 #[.agg #[.int .i64 n, .int .i64 d], .slice a1 len1 cap1] w fun y w' => y = .returned (.bool true) ∧ Below w.heap.size w w' := by
  obtain ⟨hrow, hlc, hcm⟩ := rowI_at w1
  have hn := wf64 wn
  obtain ⟨D, hD⟩ : ∃ D, D = w.heap.size := ⟨_, rfl⟩
  obtain ⟨W0, hW0⟩ : ∃ W0, W0 = w.alloc (.cells #[.int .i64 n, .int .i64 d] 90) := ⟨_, rfl⟩
  have hb0 : Below w.heap.size w W0 := by rw [hW0]; exact (Below.refl _ w).alloc (Nat.le_refl _) _
  have hS := (show Blk W0 D 90 [.int .i64 n, .int .i64 d] by rw [hW0, hD]; exact Blk.new w _ [.int .i64 n, .int .i64 d])
  have HS0 := Lib.hid hS; have HB0 := Lib.hid hb0
  have HD := Lib.hid hD
  have q0 : W0.cell? ⟨D, 0, none⟩ = some (.int .i64 n) := hS.cellAt (i := 0) (by simp)
  have q1 : W0.cell? ⟨D, 1, none⟩ = some (.int .i64 d) := hS.cellAt (i := 1) (by simp)
  have HROW := Lib.hid hrow; have HLC := Lib.hid hlc
  clear hS hb0 hrow hlc hcm w1 wn
  obtain ⟨r, hr⟩ : ∃ r, r = rightO n d := ⟨_, rfl⟩
  cases r
  case false =>
    have HN := Lib.hid (fun u => onew_no n d hn hr.symm u)
    clear hr hn
    go_enter Try.func11, Try.ntmps11
    go_upto_region 1 with fail
    rw [← hW0, ← hD]
    clear hW0 hD
    go_wp2_with fail
    refine (HN.out _).mono ?_
    rintro y w3 ⟨rfl, hb⟩
    have HB3 := Lib.hid (below_transG HB0.out hb)
    clear hb q0 q1
    go_wp2_with fail
    refine (live16 _).mono ?_
    rintro y w5 ⟨rfl, hb⟩
    have HB6 := Lib.hid (below_transG HB3.out hb)
    clear hb
    go_wp2_with fail
    go_ret
    exact ⟨rfl, HB6.out⟩
  case true =>
    have HN := Lib.hid (fun u => onew_yes n d hn hr.symm u)
    have hnd := of_decide_eq_true hr.symm
    have HND := Lib.hid hnd
    clear hr hn hnd
    go_enter Try.func11, Try.ntmps11
    go_upto_region 1 with fail
    rw [← hW0, ← hD]
    clear hW0 hD
    go_wp2_with fail
    refine (HN.out _).mono ?_
    rintro y w3 ⟨B, rfl, hO, hBB, hb⟩
    have HB3 := Lib.hid (below_transG HB0.out hb); have HS3 := Lib.hid (HS0.out.keep hb HS0.out.lt)
    have HO3 := Lib.hid hO; have HBB := Lib.hid (Nat.le_trans HB0.out.size hBB); have HBD := Lib.hid (show D ≠ B by have := HS0.out.lt; omega)
    clear hb q0 q1 hO hBB HN
    go_wp2_with fail
    go_loopw [7, 8] (fun s7 s8 wr => ∃ (i : Nat) (k c : Int) (u : Bool), s7 = .int .i64 k ∧ s8 = .int .i64 (i : Int) ∧ i ≤ 100 ∧ (0 ≤ k ∧ k ≤ (i : Int)) ∧ OS wr 156 B n d (c) (u) ∧ (u = false → k * (n - d) ≤ c ∧ c ≤ k * (n + d)) ∧ Blk wr D 90 [.int .i64 n, .int .i64 d] ∧ Below w.heap.size w wr) (fun s7 s8 _ => 100 - (intOf s8).toNat)
    case atStart => exact ⟨0, 0, 0, false, rfl, rfl, by omega, by omega, HO3.out, fun _ => by omega, HS3.out, HB3.out⟩
    case round =>
      obtain ⟨i, k, c, u, rfl, rfl, hi, hk, hO, hck, hS, hB⟩ := hrel
      have HO := Lib.hid hO; have HB := Lib.hid hB; have HS := Lib.hid hS; have HCK := Lib.hid hck; have HK := Lib.hid hk
      clear hO hB hS hck HO3 HS3 HB3 HB0 HS0
      by_cases hgo : i < len1 ∧ i < 100
      · have i1 : (i : Int) < (len1 : Int) := by omega
        have i2 : (i : Int) < 100 := by omega
        have i3 : (0 : Int) ≤ (i : Int) := by omega
        have i4 : i < len1 := hgo.1
        rcases HROW.out with h0 | ⟨g, off, rfl, hg, hrows⟩
        · omega
        obtain ⟨t, ht, hcell⟩ := hrows i hgo.1
        have hcell0 := hcell wr HB.out
        have HG2 := Lib.hid (show i < 100 from hgo.2)
        have HA := Lib.hid (ostep_any t (wf64 ht) n d c u B wr HO.out)
        have HKW := Lib.hid (show wrap64 (k + 1) = k + 1 from w64_in _ (by omega))
        by_cases he : stepE c t = 0
        · have e2 : stepC c t = c + t := by unfold stepC; rw [if_pos he]
          have e3 : stepU n d c u t = (u || wildB n d t) := by unfold stepU; rw [if_pos he]
          rw [he, e2, e3] at HA
          have HNX := Lib.hid (show (u || wildB n d t) = false → (k + 1) * (n - d) ≤ c + t ∧ c + t ≤ (k + 1) * (n + d) from fun h => by
            rw [Bool.or_eq_false_iff] at h
            have h2 := of_decide_eq_false h.2
            exact steady_next (HCK.out h.1) (by omega))
          obtain ⟨c1, hc1⟩ : ∃ c1, c1 = c + t := ⟨_, rfl⟩
          obtain ⟨u1, hu1⟩ : ∃ u1, u1 = (u || wildB n d t) := ⟨_, rfl⟩
          rw [← hc1, ← hu1] at HA HNX
          clear he e2 e3 hc1 hu1 hcell hrows ht hgo hk
          go_wp2_with fail
          refine HA.out.mono ?_
          rintro y w5 ⟨rfl, hO, hkp⟩
          have HO5 := Lib.hid hO; have HB5 := Lib.hid (HB.out.trans (hkp.belowN HBB.out HB.out.size (fun k e => by cases e)))
          have HS5 := Lib.hid (HS.out.on (hkp.block D HS.out.lt HBD.out (fun e => by cases e)))
          clear hO hkp HA
          go_wp2_with fail
          go_roundw
          case rel => exact ⟨i + 1, k + 1, c1, u1, by rw [HKW.out], by simp, by have := HG2.out; omega, by have := HK.out; omega, HO5.out, HNX.out, HS5.out, HB5.out⟩
          case measure => have := HG2.out; simp [intOf]; omega
        · have e2 : stepC c t = c := by unfold stepC; rw [if_neg he]
          have e3 : stepU n d c u t = u := by unfold stepU; rw [if_neg he]
          rw [e2, e3] at HA
          obtain ⟨e, hee⟩ : ∃ e, e = stepE c t := ⟨_, rfl⟩
          rw [← hee] at HA he
          have he1 : (e == 0) = false := by rw [beq_eq_false_iff_ne]; exact he
          clear he e2 e3 hee hcell hrows ht hgo hk
          go_wp2_with fail
          refine HA.out.mono ?_
          rintro y w5 ⟨rfl, hO, hkp⟩
          have HO5 := Lib.hid hO; have HB5 := Lib.hid (HB.out.trans (hkp.belowN HBB.out HB.out.size (fun k e => by cases e)))
          have HS5 := Lib.hid (HS.out.on (hkp.block D HS.out.lt HBD.out (fun e => by cases e)))
          clear hO hkp HA
          go_wp2_with fail
          go_roundw
          case rel => exact ⟨i + 1, k, c, u, rfl, by simp, by have := HG2.out; omega, by have := HK.out; omega, HO5.out, HCK.out, HS5.out, HB5.out⟩
          case measure => have := HG2.out; simp [intOf]; omega
      · have hT : ((i : Int) < (len1 : Int) ∧ ¬ (i : Int) < 100) ∨ ¬ (i : Int) < (len1 : Int) := by omega
        have hk100 : 0 ≤ k ∧ k ≤ 100 := by omega
        obtain ⟨n1, n2, d0, dn⟩ := HND.out
        have hlo : wrap64 (n - d) = n - d := w64_in _ (by omega)
        have hhi : wrap64 (n + d) = n + d := w64_in _ (by omega)
        have m1 := mul_in hk100 (x := n - d) (by omega)
        have m2 := mul_in hk100 (x := n + d) (by omega)
        obtain ⟨lo, hlo2⟩ : ∃ lo, lo = n - d := ⟨_, rfl⟩
        obtain ⟨hi2, hhi2⟩ : ∃ hi, hi = n + d := ⟨_, rfl⟩
        rw [← hlo2] at m1
        rw [← hhi2] at m2
        have hlo3 : wrap64 (n - d) = lo := by rw [hlo, hlo2]
        have hhi3 : wrap64 (n + d) = hi2 := by rw [hhi, hhi2]
        have HCK2 := Lib.hid (show u = false → k * lo ≤ c ∧ c ≤ k * hi2 by rw [hlo2, hhi2]; exact HCK.out)
        obtain ⟨kl, hkl⟩ : ∃ kl, kl = k * lo := ⟨_, rfl⟩
        obtain ⟨kh, hkh⟩ : ∃ kh, kh = k * hi2 := ⟨_, rfl⟩
        rw [← hkl, ← hkh] at HCK2
        rw [← hkl] at m1
        rw [← hkh] at m2
        have hlo4 : IntKind.i64.wrap (n - d) = lo := by rw [hlo2, IntKind.wrap_i64]; omega
        have hhi4 : IntKind.i64.wrap (n + d) = hi2 := by rw [hhi2, IntKind.wrap_i64]; omega
        have hkl4 : IntKind.i64.wrap (k * lo) = kl := by rw [← hkl, IntKind.wrap_i64]; omega
        have hkh4 : IntKind.i64.wrap (k * hi2) = kh := by rw [← hkh, IntKind.wrap_i64]; omega
        have hkl2 : wrap64 (k * lo) = kl := by rw [← hkl]; exact w64_in _ (by omega)
        have hkh2 : wrap64 (k * hi2) = kh := by rw [← hkh]; exact w64_in _ (by omega)
        clear hgo hk100 n1 n2 d0 dn hlo hhi m1 m2 hlo2 hhi2 hkl hkh hk hi
        have HZ := Lib.hid (show ∀ x, Below wr.heap.size wr x → (Below wr.heap.size wr x ∧ (x.cell? ⟨D, 0, none⟩ = some (.int .i64 n) ∧ x.cell? ⟨D, 1, none⟩ = some (.int .i64 d))) from fun x hu => ⟨hu, (HS.out.keep hu HS.out.lt).cellAt (i := 0) (by simp), (HS.out.keep hu HS.out.lt).cellAt (i := 1) (by simp)⟩)
        have HL1 := Lib.hid (show ∀ x, Below wr.heap.size wr x → Calls Try.prog 48 #[] x fun y w' => y = .returned (.bool true) ∧ (Below wr.heap.size wr w' ∧ (w'.cell? ⟨D, 0, none⟩ = some (.int .i64 n) ∧ w'.cell? ⟨D, 1, none⟩ = some (.int .i64 d))) from fun x hu => (live16 x).mono fun y w' ⟨h1, h2⟩ => ⟨h1, HZ.out _ (below_transG hu h2)⟩)
        have HK3 := Lib.hid (show ∀ x, Below wr.heap.size wr x → Calls Try.prog 51 #[.pointer (some ⟨B, 0, none⟩)] x fun y w' => y = .returned (.int .i64 c) ∧ x = w' from fun x hu => ocount_any n d c u B x (HO.out.on hu))
        have HK4 := Lib.hid (show ∀ x, Below wr.heap.size wr x → Calls Try.prog 52 #[.pointer (some ⟨B, 0, none⟩)] x fun y w' => y = .returned (.bool (!u)) ∧ x = w' from fun x hu => osteady_any n d c u B x (HO.out.on hu))
        have z0 := HZ.out _ (Below.refl _ _)
        have z1 := HZ.out _ (Below.refl _ _).drew
        clear HS HO HCK HK HND HROW HLC HBB HBD
        rcases hT with ⟨i1, i2⟩ | i1
        · go_upto_region 10 with fail
          go_cut [4] (fun s4 wx => s4 = .bool true ∧ Below wr.heap.size wr wx)
          case first =>
            cases u
            case false =>
              have g1 : kl ≤ c := (HCK2.out rfl).1
              have g2 : c ≤ kh := (HCK2.out rfl).2
              refine wp_region_class (C := fun x => (Below wr.heap.size wr x ∧ (x.cell? ⟨D, 0, none⟩ = some (.int .i64 n) ∧ x.cell? ⟨D, 1, none⟩ = some (.int .i64 d)))) (by kernel_rfl) (by kernel_rfl) (HZ.out _ (Below.refl _ _).drew) ?_
              repeat
                with_reducible refine wpQuiet_step (fun K hK => ?_)
                first
                  | (refine quiet_skip (by rfl) ?_; (with_reducible refine hK _ ?_); clear hK K)
                  | (refine quiet_want (by rfl) ?_
                     apply Exists.intro
                     refine ⟨fun x hx => ?_, hK _ ?_⟩
                     (obtain ⟨_, hx1, hx2⟩ := id hx; go_simp; first | done | rfl | (first | (go_at_call 48; exact HL1.out _ hx.1) | (go_at_call 51; exact (HK3.out _ hx.1).mono fun y w' ⟨h1, h2⟩ => ⟨h1, h2 ▸ hx⟩) | (go_at_call 52; exact (HK4.out _ hx.1).mono fun y w' ⟨h1, h2⟩ => ⟨h1, h2 ▸ hx⟩)))
                     clear hK K)
                try simp only [Act.put, List.setIfInBounds_toArray, List.set_cons_zero, List.set_cons_succ]
              with_reducible refine wpQuiet_nil ?_
              intro wq hq
              go_wp2_with fail
              go_meet
              exact ⟨rfl, hq.1⟩
            case true =>
              refine wp_region_class (C := fun x => (Below wr.heap.size wr x ∧ (x.cell? ⟨D, 0, none⟩ = some (.int .i64 n) ∧ x.cell? ⟨D, 1, none⟩ = some (.int .i64 d)))) (by kernel_rfl) (by kernel_rfl) (HZ.out _ (Below.refl _ _).drew) ?_
              repeat
                with_reducible refine wpQuiet_step (fun K hK => ?_)
                first
                  | (refine quiet_skip (by rfl) ?_; (with_reducible refine hK _ ?_); clear hK K)
                  | (refine quiet_want (by rfl) ?_
                     apply Exists.intro
                     refine ⟨fun x hx => ?_, hK _ ?_⟩
                     (obtain ⟨_, hx1, hx2⟩ := id hx; go_simp; first | done | rfl | (first | (go_at_call 48; exact HL1.out _ hx.1) | (go_at_call 51; exact (HK3.out _ hx.1).mono fun y w' ⟨h1, h2⟩ => ⟨h1, h2 ▸ hx⟩) | (go_at_call 52; exact (HK4.out _ hx.1).mono fun y w' ⟨h1, h2⟩ => ⟨h1, h2 ▸ hx⟩)))
                     clear hK K)
                try simp only [Act.put, List.setIfInBounds_toArray, List.set_cons_zero, List.set_cons_succ]
              with_reducible refine wpQuiet_nil ?_
              intro wq hq
              go_wp2_with fail
              go_meet
              exact ⟨rfl, hq.1⟩
          case rest =>
          obtain ⟨rfl, h3⟩ := hcut
          have HBf := Lib.hid (below_transG HB.out h3)
          clear h3
          go_wp2_with fail
          go_ret
          exact ⟨rfl, HBf.out⟩
        · go_upto_region 10 with fail
          go_cut [4] (fun s4 wx => s4 = .bool true ∧ Below wr.heap.size wr wx)
          case first =>
            cases u
            case false =>
              have g1 : kl ≤ c := (HCK2.out rfl).1
              have g2 : c ≤ kh := (HCK2.out rfl).2
              refine wp_region_class (C := fun x => (Below wr.heap.size wr x ∧ (x.cell? ⟨D, 0, none⟩ = some (.int .i64 n) ∧ x.cell? ⟨D, 1, none⟩ = some (.int .i64 d)))) (by kernel_rfl) (by kernel_rfl) (HZ.out _ (Below.refl _ _).drew) ?_
              repeat
                with_reducible refine wpQuiet_step (fun K hK => ?_)
                first
                  | (refine quiet_skip (by rfl) ?_; (with_reducible refine hK _ ?_); clear hK K)
                  | (refine quiet_want (by rfl) ?_
                     apply Exists.intro
                     refine ⟨fun x hx => ?_, hK _ ?_⟩
                     (obtain ⟨_, hx1, hx2⟩ := id hx; go_simp; first | done | rfl | (first | (go_at_call 48; exact HL1.out _ hx.1) | (go_at_call 51; exact (HK3.out _ hx.1).mono fun y w' ⟨h1, h2⟩ => ⟨h1, h2 ▸ hx⟩) | (go_at_call 52; exact (HK4.out _ hx.1).mono fun y w' ⟨h1, h2⟩ => ⟨h1, h2 ▸ hx⟩)))
                     clear hK K)
                try simp only [Act.put, List.setIfInBounds_toArray, List.set_cons_zero, List.set_cons_succ]
              with_reducible refine wpQuiet_nil ?_
              intro wq hq
              go_wp2_with fail
              go_meet
              exact ⟨rfl, hq.1⟩
            case true =>
              refine wp_region_class (C := fun x => (Below wr.heap.size wr x ∧ (x.cell? ⟨D, 0, none⟩ = some (.int .i64 n) ∧ x.cell? ⟨D, 1, none⟩ = some (.int .i64 d)))) (by kernel_rfl) (by kernel_rfl) (HZ.out _ (Below.refl _ _).drew) ?_
              repeat
                with_reducible refine wpQuiet_step (fun K hK => ?_)
                first
                  | (refine quiet_skip (by rfl) ?_; (with_reducible refine hK _ ?_); clear hK K)
                  | (refine quiet_want (by rfl) ?_
                     apply Exists.intro
                     refine ⟨fun x hx => ?_, hK _ ?_⟩
                     (obtain ⟨_, hx1, hx2⟩ := id hx; go_simp; first | done | rfl | (first | (go_at_call 48; exact HL1.out _ hx.1) | (go_at_call 51; exact (HK3.out _ hx.1).mono fun y w' ⟨h1, h2⟩ => ⟨h1, h2 ▸ hx⟩) | (go_at_call 52; exact (HK4.out _ hx.1).mono fun y w' ⟨h1, h2⟩ => ⟨h1, h2 ▸ hx⟩)))
                     clear hK K)
                try simp only [Act.put, List.setIfInBounds_toArray, List.set_cons_zero, List.set_cons_succ]
              with_reducible refine wpQuiet_nil ?_
              intro wq hq
              go_wp2_with fail
              go_meet
              exact ⟨rfl, hq.1⟩
          case rest =>
          obtain ⟨rfl, h3⟩ := hcut
          have HBf := Lib.hid (below_transG HB.out h3)
          clear h3
          go_wp2_with fail
          go_ret
          exact ⟨rfl, HBf.out⟩
set_option maxRecDepth 100000 in
theorem lifted (os : Os) (started : os.Started) (H : Type) (enc : TypeId × Value → H) :
    ReturnsInHanded {} Try.checked os 11 .any (Rows.oscSteadySpec.pre6 enc Try.prog Try.f11 Rows.oscSteadyRow.domain false) (Rows.oscSteadySpec.post enc Try.prog Try.f11 false true false false) := by
  refine returnsInHanded_of_change (C := Try.checked) own started (by kernel_rfl) Try.func11
    (ChangeSpec.witness6 (enc := enc) (C := Try.checked) false ⟨#[], #[.agg #[.int .i64 0, .int .i64 0], .slice none 0 0], []⟩ 8 (by kernel_rfl) (by kernel_rfl) (by kernel_rfl) (by kernel_rfl)) ?_
  intro W base args ds gs before hval0 hW _ _
  have hval : ∀ (j : Nat) t v, Try.f11.params[j]? = some t → args[j]? = some v → Value.okWide Try.prog W .any base t v := hval0
  have hW' := hW
  obtain ⟨p, q, hA0, hV, rfl, hfz, hnd⟩ := hW
  have hA : DataW.TrodAll enc Try.prog W 0 (fun _ => true) true Try.f11.params.toList args.toList ds p := hA0
  rw [Try.params11] at hA hval
  obtain ⟨v0, vs0, d0, ds0, p0, q0, hargs, rfl, rfl, h0, r0⟩ := trodAll_cons hA
  obtain ⟨v1, vs1, d1, ds1, p1, q1, rfl, rfl, rfl, h1, r1⟩ := trodAll_cons r0
  obtain ⟨rfl, rfl, rfl⟩ := trodAll_nil r1
  obtain rfl : args = #[v0, v1] := by cases args; simp_all
  obtain ⟨rfl, rfl⟩ := trodVars_none hV
  have k0 := h0
  have lt0 : ∀ x ∈ p0, x.block < W.heap.size := by obtain ⟨m, hm⟩ := k0; exact DataW.trod_lt m _ _ _ hm
  obtain ⟨ca0, cb0, ya0, yb0, n0, rfl, rfl, rfl, ta0, tb0⟩ := Joins.open_agg2 Try.underlying90 (by kernel_rfl) (by kernel_rfl) (hval 0 90 v0 rfl rfl) h0
  obtain ⟨xa0, hxa0, rfl, wa0⟩ := DataW.trod_int Try.underlying2 ta0
  obtain ⟨xb0, hxb0, rfl, wb0⟩ := DataW.trod_int Try.underlying2 tb0
  obtain rfl : ca0 = .int .i64 xa0 := by simpa using hxa0
  obtain rfl : cb0 = .int .i64 xb0 := by simpa using hxb0
  obtain ⟨a1, len1, cap1, rfl⟩ := okWide_slice Try.underlying91 (hval 1 91 v1 rfl rfl)
  have k1 := h1
  have lt1 : ∀ x ∈ p1, x.block < W.heap.size := by obtain ⟨m, hm⟩ := k1; exact DataW.trod_lt m _ _ _ hm
  obtain ⟨z1, w1⟩ : ∃ zs, RowI .i64 W a1 len1 cap1 zs := by
    obtain ⟨fuel, hf⟩ := h1
    rcases open_ints Try.underlying91 Try.underlying2 (by kernel_rfl) hf with ⟨hcs, _⟩ | ⟨x, l, c, zs, hcs, _, hl, hm, hz, _, hcell, hwz⟩
    · simp [Value.cells] at hcs
      obtain ⟨rfl, rfl, rfl⟩ := hcs
      exact ⟨[], .inl ⟨rfl, rfl, rfl, rfl⟩⟩
    · simp [Value.cells] at hcs
      obtain ⟨rfl, rfl, rfl⟩ := hcs
      exact ⟨zs, .inr ⟨_, rfl, hl, hm, by simpa using hz, hcell, hwz⟩⟩
  clear hA0 hval0
  refine (walk xa0 xb0 a1 len1 cap1 z1 W wa0 wb0 w1).mono fun e W' ⟨he, bel⟩ => ?_
  subst he
  exact ⟨_, rfl, _, _, _, [], _, [], hW', trodAll_mk1 (shut_bool Try.underlying4 _), (trodAll_cons_mk (Below.trod laidOut (by kernel_rfl) (of_decide_eq_true (by kernel_rfl)) k0 bel lt0) (trodAll_cons_mk (Below.trod laidOut (by kernel_rfl) (of_decide_eq_true (by kernel_rfl)) k1 bel lt1) trodAll_mk0)), rfl, bel.frame _, fun h => by cases h⟩
theorem over : Rows.oscSteadyRow.holds Try.pinned (OpenSpec.ofChange Rows.oscSteadySpec) :=
  OpenClaim.holds_of_wide 11 Try.f11 rfl rfl rfl rfl rfl rfl rfl ⟨rfl, rfl, rfl, rfl, rfl⟩ rfl rfl rfl rfl rfl (by kernel_rfl) Try.func11 (by kernel_rfl)
    (of_decide_eq_true (by kernel_rfl)) (by unfold Func.isWrapper; first | (rw [if_pos (by decide +kernel)]; kernel_rfl) | (rw [if_neg (by decide +kernel)]; exact ⟨rfl, rfl⟩))
    (fun os started H enc _ => lifted os started H enc)
/-- The statement. -/
theorem proved : Rows.OscSteadySaid := over
end Go.Proofs.Ytfmmpglehiiofaa.oscSteady
