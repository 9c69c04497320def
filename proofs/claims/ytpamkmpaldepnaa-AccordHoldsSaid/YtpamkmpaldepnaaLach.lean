/- AccordHolds (P19.4): a slave that follows is never further from its master than the bound. No conditions. -/
import Derived.Test.YtpamkmpaldepnaaRows
import Derived.Test.YtpamkmpaldepnaaAcq
import Derived.Test.YtpamkmpaldepnaaOpa
import Derived.WalkKit
import Derived.ProofKit
import Derived.OpenShut
import Derived.ShutString
import Derived.ChangeOld
import Derived.Below
namespace Go.Proofs.Ytpamkmpaldepnaa.accordHolds
open Go.ChangeShapes Go.WideShapes Go.ChangeAt Go.RowKit
theorem own : ownKnob Try.prog.godebug = none := by kernel_rfl
theorem laidOut : laidOutB Try.prog = true := by kernel_rfl
theorem and_h50 (n : Int) : 0 ≤ bits .and .i64 n 1125899906842623 ∧ bits .and .i64 n 1125899906842623 ≤ 1125899906842623 := by
  have h : bits .and .i64 n 1125899906842623 = IntKind.i64.wrap ((BitVec.ofInt 64 n &&& BitVec.ofInt 64 1125899906842623).toNat : Nat) := rfl
  have h2 : (BitVec.ofInt 64 n &&& BitVec.ofInt 64 1125899906842623).toNat ≤ 1125899906842623 := by
    rw [BitVec.toNat_and]
    exact Nat.le_trans Nat.and_le_right (by decide)
  rw [h, IntKind.wrap_i64]
  omega
set_option maxRecDepth 100000 in
set_option maxHeartbeats 16000000 in
theorem walk (n d u : Int) (st : Int) (a2 : Option Addr) (len2 cap2 : Nat) (L : List A19) (w : World) (v1 : (Lit.int .i64 n).wf = true) (_ : (Lit.int .i64 d).wf = true) (_ : (Lit.int .i64 u).wf = true) (_ : (Lit.int .i64 st).wf = true) (w2_ : L.length = len2 ∧ (∀ s ∈ L, s.wf) ∧ Rd w 5 (.slice a2 len2 cap2) (L.flatMap A19.C)) :
    Calls Try.prog 5 #[.agg #[.int .i64 n, .int .i64 d, .int .i64 u], .int .i64 st, .slice a2 len2 cap2] w fun y w' => y = .returned (.bool true) ∧ Below w.heap.size w w' := by
  obtain ⟨rfl, hwf, hL⟩ := w2_
  have HLR := Lib.hid hL; have HWF := Lib.hid hwf
  clear hL hwf
  obtain ⟨W0, hW0⟩ : ∃ W, W = w.alloc (.cells #[.int .i64 n, .int .i64 d, .int .i64 u] 25) := ⟨_, rfl⟩
  have HA0 := Lib.hid (show Blk W0 w.heap.size 25 [.int .i64 n, .int .i64 d, .int .i64 u] by rw [hW0]; exact Blk.new w 25 [.int .i64 n, .int .i64 d, .int .i64 u])
  have HB0 := Lib.hid (show Below w.heap.size w W0 by rw [hW0]; exact (Below.refl _ w).alloc (Nat.le_refl _) _)
  have HSM := Lib.hid (fun z => lw_small19 n d u (wf64 v1) z)
  have hsm := sm_in n d u
  have hri := sm_right n d u
  have hst := and_h50 st
  obtain ⟨g0, hg0⟩ : ∃ g, bits .and .i64 st 1125899906842623 = g := ⟨_, rfl⟩
  rw [hg0] at hst
  obtain ⟨N0, hN0⟩ : ∃ x, x = smN n := ⟨_, rfl⟩
  obtain ⟨D0, hD0⟩ : ∃ x, x = smD n d := ⟨_, rfl⟩
  obtain ⟨T0, hT0⟩ : ∃ x, x = smT u := ⟨_, rfl⟩
  rw [← hN0, ← hD0, ← hT0] at HSM hri
  rw [← hN0] at hsm
  have HNW := Lib.hid (fun z => pr_new_yes N0 D0 T0 g0 (by omega) hri (by omega) z)
  have HG0 := Lib.hid hg0
  have hsI : (2 ≤ N0 ∧ N0 ≤ 5001) ∧ (0 ≤ D0 ∧ D0 < N0 / 2) ∧ (0 ≤ T0 ∧ T0 ≤ 4096) := by rw [hN0, hD0, hT0]; exact sm_in n d u
  have HSI := Lib.hid hsI
  obtain ⟨SL, hSL⟩ : ∃ z, z = slopeC N0 D0 T0 := ⟨_, rfl⟩
  have HSL := Lib.hid (show (0 ≤ SL ∧ SL ≤ 2113537) ∧ (N0 + D0 - (N0 - D0)) * 1048576 + (N0 + D0) * T0 ≤ SL * 1048576 from ⟨by have := slope_in N0 D0 T0; rw [← hSL] at this; omega, by have := slopeK hri; rw [← hSL] at this; rw [show N0 + D0 - (N0 - D0) = 2 * D0 by omega]; exact this⟩)
  have HSLE := Lib.hid hSL.symm
  have HRI := Lib.hid hri
  have HIZ := Lib.hid (HI.start N0 D0 T0 g0 SL hsI.2.2 hst)
  have HWI := Lib.hid (fun a z => lw_within N0 D0 T0 hsI.1 (by omega) a z)
  have HPL := Lib.hid (fun z => ac_plain N0 D0 T0 z)
  clear hsI hSL
  clear hsm hri hst hN0 hD0 hT0 hg0
  go_enter Try.func5, Try.ntmps5
  go_upto_region 1 with fail
  rw [← hW0]
  obtain ⟨C, hC⟩ : ∃ C, C = w.heap.size := ⟨_, rfl⟩
  rw [← hC] at HA0 ⊢
  have HCW := Lib.hid hC
  clear hW0 hC
  have c0 := HA0.out.cellAt (i := 0) (by simp); have c1 := HA0.out.cellAt (i := 1) (by simp); have c2 := HA0.out.cellAt (i := 2) (by simp)
  go_wp2_with fail
  refine (HSM.out _).mono ?_
  rintro y w2 ⟨rfl, hb⟩
  have HB2 := Lib.hid (below_transG HB0.out hb)
  have HA2 := Lib.hid (HA0.out.keep hb HA0.out.lt)
  clear hb c0 c1 c2 HA0 HB0
  have c0 : w2.cell? ⟨C, 0, none⟩ = some (.int .i64 n) := HA2.out.cellAt (i := 0) (by simp)
  have c1 : w2.cell? ⟨C, 1, none⟩ = some (.int .i64 d) := HA2.out.cellAt (i := 1) (by simp)
  have c2 : w2.cell? ⟨C, 2, none⟩ = some (.int .i64 u) := HA2.out.cellAt (i := 2) (by simp)
  have f0 : w2.frozen? ⟨C, 0, none⟩ = false := HA2.out.frozenAt 0
  have f1 : w2.frozen? ⟨C, 1, none⟩ = false := HA2.out.frozenAt 1
  have f2 : w2.frozen? ⟨C, 2, none⟩ = false := HA2.out.frozenAt 2
  have hcl := HA2.out.lt
  have HA3 := Lib.hid (((HA2.out.put1 (i := 0) (by simp) (.int .i64 N0)).put1 (i := 1) (by simp) (.int .i64 D0)).put1 (i := 2) (by simp) (.int .i64 T0))
  have HB3 := Lib.hid (((HB2.out.setCell (p := ⟨C, 0, none⟩) (by have := HCW.out; show w.heap.size ≤ C; omega) (.int .i64 N0)).setCell (p := ⟨C, 1, none⟩) (by have := HCW.out; show w.heap.size ≤ C; omega) (.int .i64 D0)).setCell (p := ⟨C, 2, none⟩) (by have := HCW.out; show w.heap.size ≤ C; omega) (.int .i64 T0))
  go_upto_region 2 with fail
  obtain ⟨w3, hw3⟩ : ∃ w3, w3 = (((w2.setCell ⟨C, 0, none⟩ (.int .i64 N0)).setCell ⟨C, 1, none⟩ (.int .i64 D0)).setCell ⟨C, 2, none⟩ (.int .i64 T0)) := ⟨_, rfl⟩
  rw [← hw3] at HA3 HB3 ⊢
  clear c0 c1 c2 f0 f1 f2 hcl hw3 HA2 HB2
  have HA4 := Lib.hid (show Blk w3 C 25 [.int .i64 N0, .int .i64 D0, .int .i64 T0] from HA3.out)
  clear HA3
  have c0 := HA4.out.cellAt (i := 0) (by simp); have c1 := HA4.out.cellAt (i := 1) (by simp); have c2 := HA4.out.cellAt (i := 2) (by simp)
  have hg0 := HG0.out
  go_wp2_with fail
  refine (HNW.out _).mono ?_
  rintro y w4 ⟨B, rfl, hP, hBl, hb⟩
  have HQ4 := Lib.hid (show PQ w w4 B (newP N0 D0 T0 g0) (.pointer none) (.pointer none) from ⟨hP, below_transG HB3.out hb, by have := HB3.out.size; omega⟩)
  have HH4 := Lib.hid (show PH w w4 C B N0 D0 T0 (newP N0 D0 T0 g0) (.pointer none) (.pointer none) from ⟨HQ4.out, HA4.out.keep hb HA4.out.lt, by have := HA4.out.lt; omega⟩)
  clear hP hBl hb c0 c1 c2 hg0 HNW HSM HQ4
  obtain ⟨S0, hS0⟩ : ∃ S0, S0 = newP N0 D0 T0 g0 := ⟨_, rfl⟩
  have HN0 := Lib.hid (show S0.noB ∧ S0.bi = 0 by rw [hS0]; exact ⟨PD.noB_none rfl, rfl⟩)
  rw [← hS0] at HH4 HIZ
  clear hS0
  go_wp2_with fail
  go_loopw [9, 10] (fun s9 s10 wr => ∃ (i : Nat) (s : PD) (pn pa : Value) (most : Int), s10 = .int .i64 (i : Int) ∧ i ≤ 60 ∧ s9 = .int .i64 most ∧ PH w wr C B N0 D0 T0 s pn pa ∧ HI SL T0 most s ∧ s.noB ∧ s.bi ≤ (i : Int) * 40 ∧ 0 ≤ most ∧ most ≤ 2400) (fun _ s10 _ => 60 - (intOf s10).toNat)
  case atStart => exact ⟨0, S0, _, _, 0, rfl, by omega, rfl, HH4.out, HIZ.out, HN0.out.1, by have := HN0.out.2; omega, by omega, by omega⟩
  case round =>
    obtain ⟨i, s, pn, pa, most, rfl, hi60, rfl, hH, hI, hN, hbi, hmo1, hmo2⟩ := hrel
    have HH0 := Lib.hid hH; have HI0 := Lib.hid hI; have HN := Lib.hid hN; have HBI := Lib.hid hbi; have HMO := Lib.hid (And.intro hmo1 hmo2)
    clear hH hI hN hbi hmo1 hmo2 HH4 HIZ HN0
    by_cases hgo : i < L.length ∧ i < 60
    · have hlt := hgo.1
      have i1 : (i : Int) < (L.length : Int) := by omega
      have i2 : (i : Int) < 60 := by have := hgo.2; omega
      have i3 : (0 : Int) ≤ (i : Int) := by omega
      obtain ⟨g, off, rfl, hg, hcell⟩ := rd_at A19.C 5 (fun _ => rfl) HLR.out hlt (by decide)
      have hwf := HWF.out L[i] (List.getElem_mem _)
      obtain ⟨a, ha⟩ : ∃ a, a = L[i] := ⟨_, rfl⟩
      rw [← ha] at hcell hwf
      clear ha
      obtain ⟨kd, k, x, y, q⟩ := a
      have HX := Lib.hid hwf.2.1; have HY := Lib.hid hwf.2.2.1; have HQQ := Lib.hid hwf.2.2.2
      simp only at HX HY HQQ
      have hcw : ∀ j v, (A19.C ⟨kd, k, x, y, q⟩)[j]? = some v → wr.cell? ⟨g, off + i * 5 + j, none⟩ = some v := fun j v h => (HH0.out.q.below.cell (p := ⟨g, off + i * 5 + j, none⟩) hg).trans (hcell j v h)
      have e0 : wr.cell? ⟨g, off + i * 5, none⟩ = some (.int .i64 kd) := hcw 0 _ rfl
      have e1 : wr.cell? ⟨g, off + i * 5 + 1, none⟩ = some (.int .i64 k) := hcw 1 _ rfl
      have e2 : wr.cell? ⟨g, off + i * 5 + 2, none⟩ = some (.int .i64 x) := hcw 2 _ rfl
      have e3 : wr.cell? ⟨g, off + i * 5 + 3, none⟩ = some (.int .i64 y) := hcw 3 _ rfl
      have e4 : wr.cell? ⟨g, off + i * 5 + 4, none⟩ = some (.int .i64 q) := hcw 4 _ rfl
      have HGO := Lib.hid (show i < 60 from hgo.2)
      obtain ⟨W1, hW1⟩ : ∃ W1, W1 = wr.alloc (.cells #[.int .i64 kd, .int .i64 k, .int .i64 x, .int .i64 y, .int .i64 q] 46) := ⟨_, rfl⟩
      have hb1 : Below wr.heap.size wr W1 := by rw [hW1]; exact (Below.refl _ wr).alloc (Nat.le_refl _) _
      have hBs : Blk W1 wr.heap.size 46 [.int .i64 kd, .int .i64 k, .int .i64 x, .int .i64 y, .int .i64 q] := by rw [hW1]; exact Blk.new wr 46 [.int .i64 kd, .int .i64 k, .int .i64 x, .int .i64 y, .int .i64 q]
      have HH1 := Lib.hid (HH0.out.on hb1)
      have HDNE := Lib.hid (show wr.heap.size ≠ B by have := HH0.out.q.a.blk.lt; omega)
      clear hcw hcell hwf hgo hb1
      go_upto_region 10 with fail
      rw [← hW1]
      obtain ⟨D, hD⟩ : ∃ D, D = wr.heap.size := ⟨_, rfl⟩
      rw [← hD] at hBs HDNE ⊢
      have HD1 := Lib.hid hBs
      clear hW1 hD hBs e0 e1 e2 e3 e4 HH0 i1 i2 i3 hlt
      have hbL : s.bi ≤ 2400 := by have := HBI.out; have := HGO.out; omega
      have d0 : W1.cell? ⟨D, 0, none⟩ = some (.int .i64 kd) := HD1.out.cellAt (i := 0) (by simp)
      have d1 : W1.cell? ⟨D, 1, none⟩ = some (.int .i64 k) := HD1.out.cellAt (i := 1) (by simp)
      have d2 : W1.cell? ⟨D, 2, none⟩ = some (.int .i64 x) := HD1.out.cellAt (i := 2) (by simp)
      have d3 : W1.cell? ⟨D, 3, none⟩ = some (.int .i64 y) := HD1.out.cellAt (i := 3) (by simp)
      have d4 : W1.cell? ⟨D, 4, none⟩ = some (.int .i64 q) := HD1.out.cellAt (i := 4) (by simp)
      have c0 : W1.cell? ⟨C, 0, none⟩ = some (.int .i64 N0) := HH1.out.c.cellAt (i := 0) (by simp)
      have c1 : W1.cell? ⟨C, 1, none⟩ = some (.int .i64 D0) := HH1.out.c.cellAt (i := 1) (by simp)
      have c2 : W1.cell? ⟨C, 2, none⟩ = some (.int .i64 T0) := HH1.out.c.cellAt (i := 2) (by simp)
      by_cases h0 : kd = 0
      · have k0 : (kd == 0) = true := by rw [h0]; rfl
        have HC := Lib.hid (pr_capture_yes s pn pa B W1 HH1.out.q.a (HI0.out.has hbL))
        have HI5 := Lib.hid (HI0.out.noted hbL)
        clear h0 hbL
        go_wp2_with fail
        refine HC.out.mono ?_
        rintro yy w5 ⟨rfl, ⟨K, hP⟩, hkp⟩
        have HH5 := Lib.hid (HH1.out.step hP hkp)
        clear hP hkp d0 d1 d2 d3 d4 c0 c1 c2
        go_wp2_with fail
        go_roundw
        case rel => exact ⟨i + 1, _, _, _, most, by simp, by have := HGO.out; omega, (by first | rfl | rw [hMX]), HH5.out, HI5.out, PD.noB_less, by have := HBI.out; show s.bi ≤ ((i + 1 : Nat) : Int) * 40; omega, by have := HMO.out; omega, by have := HMO.out; omega⟩
        case measure => have := HGO.out; simp [intOf]; omega
      have k0 : (kd == 0) = false := by rw [beq_eq_false_iff_ne]; exact h0
      clear h0
      by_cases h1 : kd = 1
      · have k1 : (kd == 1) = true := by rw [h1]; rfl
        clear h1
        obtain ⟨t1, ht1⟩ : ∃ z, z = T0 + 1 := ⟨_, rfl⟩
        have a1 : wrap64 (T0 + 1) = t1 := by rw [ht1]; exact w64_in _ (by have := HSI.out; omega)
        have a2 : ¬ t1 = 0 := by have := HSI.out; omega
        obtain ⟨rr, hrr⟩ : ∃ z, z = q.tmod t1 := ⟨_, rfl⟩
        have hrb : -T0 ≤ rr ∧ rr ≤ T0 := by
          have h2 := Int.tmod_lt_of_pos q (b := t1) (by have := HSI.out; omega)
          have h3 : -t1 < q.tmod t1 := by
            by_cases hq0 : 0 ≤ q
            · have := Int.tmod_nonneg t1 hq0; have := HSI.out; omega
            · have h4 := Int.tmod_lt_of_pos (-q) (b := t1) (by have := HSI.out; omega)
              rw [Int.neg_tmod] at h4; omega
          rw [hrr]; omega
        have a3 : q.tmod t1 = rr := hrr.symm
        obtain ⟨qq, hqq⟩ : ∃ z, z = 1048576 + rr := ⟨_, rfl⟩
        have a4 : wrap64 (1048576 + rr) = qq := by rw [hqq]; exact w64_in _ (by have := HSI.out; omega)
        have hqr : 1048576 - T0 ≤ qq ∧ qq ≤ 1048576 + T0 := by omega
        clear ht1 hrr hqq hrb
        cases hno : s.no with
        | none =>
          have HC := Lib.hid (pr_apply_none s pn pa qq B W1 HH1.out.q.a hno)
          have HG := Lib.hid (pr_gap s pn pa B W1 HH1.out.q.a (by have := HI0.out.gapR hbL; omega))
          have hgl := HI0.out.gm
          obtain ⟨G, hG⟩ : ∃ z, z = s.gap := ⟨_, rfl⟩
          rw [← hG] at HG hgl
          have hMX : max most G = most := by omega
          clear hno hG hgl hqr hbL
          go_wp2_with fail
          refine HC.out.mono ?_
          rintro yy w5 ⟨rfl, rfl⟩
          go_wp2_with fail
          refine HG.out.mono ?_
          rintro yy w6 ⟨rfl, hb⟩
          have HH5 := Lib.hid (HH1.out.on hb)
          clear hb d0 d1 d2 d3 d4 c0 c1 c2
          go_wp2_with fail
          go_roundw
          case rel => exact ⟨i + 1, s, _, _, most, by simp, by have := HGO.out; omega, (by first | rfl | rw [hMX]), HH5.out, HI0.out, HN.out, by have := HBI.out; show s.bi ≤ ((i + 1 : Nat) : Int) * 40; omega, by have := HMO.out; omega, by have := HMO.out; omega⟩
          case measure => have := HGO.out; simp [intOf]; omega
        | some xb =>
          obtain ⟨nx, nb⟩ := xb
          have hxb := HN.out nx nb hno
          have hni := HI0.out.ni nx nb hno
          have hbi0 := HI0.out.bi
          have htu := HI0.out.tu
          obtain ⟨M2, hM2⟩ : ∃ z, z = max most (s.bi - nb) := ⟨_, rfl⟩
          have hap := HI0.out.applied hbL HSL.out.1 qq nx nb hno hqr (most' := M2) (by omega) (by omega)
          have HC := Lib.hid (ap_yes s pn pa qq nx nb hxb B W1 HH1.out.q.a hno (by rw [htu.1]; exact hqr) hap.1)
          have HI5 := Lib.hid hap.2
          have HMB := Lib.hid (show 0 ≤ M2 ∧ M2 ≤ 2400 by have := HMO.out; omega)
          obtain ⟨S, hS⟩ : ∃ S : PD, S = { s.went qq nx with ap := some (nx, nb) } := ⟨_, rfl⟩
          have hgS : S.gap = s.bi - nb := by rw [hS]; rfl
          have HNS := Lib.hid (show S.noB by rw [hS]; exact PD.noB_none rfl)
          have HBS := Lib.hid (show S.bi = s.bi by rw [hS]; rfl)
          rw [← hS] at HC HI5
          have HG := Lib.hid (fun u h => pr_gap S (.pointer none) pn B u h (by rw [hgS]; omega))
          rw [hgS] at HG
          obtain ⟨G, hG⟩ : ∃ z, z = s.bi - nb := ⟨_, rfl⟩
          rw [← hG] at HG hM2
          have hMX := hM2.symm
          clear hno hxb hni hbi0 htu hap hS hgS hG hM2 hqr hbL
          go_wp2_with fail
          refine HC.out.mono ?_
          rintro yy w5 ⟨rfl, hP, hkp⟩
          have HH5 := Lib.hid (HH1.out.step hP hkp)
          clear hP hkp d0 d1 d2 d3 d4 c0 c1 c2
          go_wp2_with fail
          refine (HG.out _ HH5.out.q.a).mono ?_
          rintro yy w6 ⟨rfl, hb⟩
          have HH6 := Lib.hid (HH5.out.on hb)
          clear hb
          go_wp2_with fail
          go_roundw
          case rel => exact ⟨i + 1, S, _, _, M2, by simp, by have := HGO.out; omega, (by first | rfl | rw [hMX]), HH6.out, HI5.out, HNS.out, by have := HBI.out; have := HBS.out; show S.bi ≤ ((i + 1 : Nat) : Int) * 40; omega, HMB.out.1, HMB.out.2⟩
          case measure => have := HGO.out; simp [intOf]; omega
      have k1 : (kd == 1) = false := by rw [beq_eq_false_iff_ne]; exact h1
      clear h1 hbL
      go_wp2_with fail
      go_loopw [9, 12] (fun s9 s12 wr => ∃ (kk : Nat) (s2 : PD) (pn2 pa2 : Value) (most2 : Int), s12 = .int .i64 (kk : Int) ∧ kk ≤ 40 ∧ s9 = .int .i64 most2 ∧ PH w wr C B N0 D0 T0 s2 pn2 pa2 ∧ Blk wr D 46 [.int .i64 kd, .int .i64 k, .int .i64 x, .int .i64 y, .int .i64 q] ∧ HI SL T0 most2 s2 ∧ s2.noB ∧ s2.bi ≤ (i : Int) * 40 + (kk : Int) ∧ 0 ≤ most2 ∧ most2 ≤ 2400) (fun _ s12 _ => 40 - (intOf s12).toNat)
      case atStart => exact ⟨0, s, _, _, most, rfl, by omega, rfl, HH1.out, HD1.out, HI0.out, HN.out, by have := HBI.out; omega, HMO.out.1, HMO.out.2⟩
      case round =>
        obtain ⟨kk, s2, pn2, pa2, most2, rfl, hk40, rfl, hH, hD, hI, hN, hbi, hm1, hm2⟩ := hrel
        have HH2 := Lib.hid hH; have HD2 := Lib.hid hD; have HI2 := Lib.hid hI; have HN2 := Lib.hid hN; have HB2 := Lib.hid hbi; have HM2 := Lib.hid (And.intro hm1 hm2)
        clear hH hD hI hN hbi hm1 hm2 HH1 HD1 HI0 HN d0 d1 d2 d3 d4 c0 c1 c2
        have f1 : wr.cell? ⟨D, 1, none⟩ = some (.int .i64 k) := HD2.out.cellAt (i := 1) (by simp)
        by_cases hgk : (kk : Int) < k ∧ kk < 40
        · have j1 : (kk : Int) < k := hgk.1
          have j2 : (kk : Int) < 40 := by have := hgk.2; omega
          have HGK := Lib.hid (show kk < 40 from hgk.2)
          clear hgk
          go_upto_region 14 with fail
          clear f1
          have HZA := Lib.hid (show ∀ z, Below wr.heap.size wr z → (fun z => Below wr.heap.size wr z ∧ z.cell? ⟨C, 0, none⟩ = some (.int .i64 N0) ∧ z.cell? ⟨C, 1, none⟩ = some (.int .i64 D0) ∧ z.cell? ⟨C, 2, none⟩ = some (.int .i64 T0) ∧ z.cell? ⟨D, 2, none⟩ = some (.int .i64 x) ∧ z.cell? ⟨D, 3, none⟩ = some (.int .i64 y)) z from fun z hz => ⟨hz, (HH2.out.c.keep hz HH2.out.c.lt).cellAt (i := 0) (by simp), (HH2.out.c.keep hz HH2.out.c.lt).cellAt (i := 1) (by simp), (HH2.out.c.keep hz HH2.out.c.lt).cellAt (i := 2) (by simp), (HD2.out.keep hz HD2.out.lt).cellAt (i := 2) (by simp), (HD2.out.keep hz HD2.out.lt).cellAt (i := 3) (by simp)⟩)
          refine wp_region_class (C := fun z => Below wr.heap.size wr z ∧ z.cell? ⟨C, 0, none⟩ = some (.int .i64 N0) ∧ z.cell? ⟨C, 1, none⟩ = some (.int .i64 D0) ∧ z.cell? ⟨C, 2, none⟩ = some (.int .i64 T0) ∧ z.cell? ⟨D, 2, none⟩ = some (.int .i64 x) ∧ z.cell? ⟨D, 3, none⟩ = some (.int .i64 y)) (by kernel_rfl) (by kernel_rfl) (HZA.out _ (Below.refl _ _).drew) ?_
          repeat
            with_reducible refine wpQuiet_step (fun K hK => ?_)
            first
              | (refine quiet_skip (by rfl) ?_; (with_reducible refine hK _ ?_); clear hK K)
              | (refine quiet_want (by rfl) ?_
                 apply Exists.intro
                 refine ⟨fun x hx => ?_, hK _ ?_⟩
                 (obtain ⟨_, hx1, hx2, hx3, hx4, hx5⟩ := id hx; go_simp; first | done | rfl | ((go_at_call 30; exact (HWI.out _ _).mono fun y w' ⟨h1, h2⟩ => ⟨h1, HZA.out _ (below_transG hx.1 h2)⟩)))
                 clear hK K)
            try simp only [Act.put, List.setIfInBounds_toArray, List.set_cons_zero, List.set_cons_succ]
          with_reducible refine wpQuiet_nil ?_
          intro wq hq
          obtain ⟨hq1, _⟩ := hq
          have HH3 := Lib.hid (HH2.out.on hq1)
          have HD3 := Lib.hid (HD2.out.keep hq1 HD2.out.lt)
          clear hq1 HZA
          have j3 : (0 : Int) ≤ (kk : Int) := by omega
          by_cases hod : (kk : Int) % 2 = 1
          · have o1 : ((kk : Int) % 2 == 1) = true := by rw [hod]; rfl
            have o2 : ((kk : Int).tmod 2 == 1) = true := by rw [Int.tmod_eq_emod_of_nonneg j3]; exact o1
            clear hod
            go_upto_region 16 with fail
            obtain ⟨W2, hW2⟩ : ∃ W2, W2 = wq := ⟨_, rfl⟩
            rw [← hW2] at HH3 HD3 ⊢
            clear hW2
            have HH3o := HH3
            have HD3o := HD3
            clear HH3 HD3
            have HZB := Lib.hid (show ∀ z, Below W2.heap.size W2 z → (fun z => Below W2.heap.size W2 z ∧ z.cell? ⟨C, 0, none⟩ = some (.int .i64 N0) ∧ z.cell? ⟨C, 1, none⟩ = some (.int .i64 D0) ∧ z.cell? ⟨C, 2, none⟩ = some (.int .i64 T0) ∧ z.cell? ⟨D, 2, none⟩ = some (.int .i64 x) ∧ z.cell? ⟨D, 3, none⟩ = some (.int .i64 y)) z from fun z hz => ⟨hz, (HH3o.out.c.keep hz HH3o.out.c.lt).cellAt (i := 0) (by simp), (HH3o.out.c.keep hz HH3o.out.c.lt).cellAt (i := 1) (by simp), (HH3o.out.c.keep hz HH3o.out.c.lt).cellAt (i := 2) (by simp), (HD3o.out.keep hz HD3o.out.lt).cellAt (i := 2) (by simp), (HD3o.out.keep hz HD3o.out.lt).cellAt (i := 3) (by simp)⟩)
            refine wp_region_class (C := fun z => Below W2.heap.size W2 z ∧ z.cell? ⟨C, 0, none⟩ = some (.int .i64 N0) ∧ z.cell? ⟨C, 1, none⟩ = some (.int .i64 D0) ∧ z.cell? ⟨C, 2, none⟩ = some (.int .i64 T0) ∧ z.cell? ⟨D, 2, none⟩ = some (.int .i64 x) ∧ z.cell? ⟨D, 3, none⟩ = some (.int .i64 y)) (by kernel_rfl) (by kernel_rfl) (HZB.out _ (Below.refl _ _).drew) ?_
            repeat
              with_reducible refine wpQuiet_step (fun K hK => ?_)
              first
                | (refine quiet_skip (by rfl) ?_; (with_reducible refine hK _ ?_); clear hK K)
                | (refine quiet_want (by rfl) ?_
                   apply Exists.intro
                   refine ⟨fun x hx => ?_, hK _ ?_⟩
                   (obtain ⟨_, hx1, hx2, hx3, hx4, hx5⟩ := id hx; go_simp; first | done | rfl | ((go_at_call 30; exact (HWI.out _ _).mono fun y w' ⟨h1, h2⟩ => ⟨h1, HZB.out _ (below_transG hx.1 h2)⟩)))
                   clear hK K)
              try simp only [Act.put, List.setIfInBounds_toArray, List.set_cons_zero, List.set_cons_succ]
            with_reducible refine wpQuiet_nil ?_
            intro wq hq
            obtain ⟨hq1, _⟩ := hq
            have HH3 := Lib.hid (HH3o.out.on hq1)
            have HD3 := Lib.hid (HD3o.out.keep hq1 HD3o.out.lt)
            clear hq1 HZB
            obtain ⟨W3, hW3⟩ : ∃ W3, W3 = wq := ⟨_, rfl⟩
            rw [← hW3] at HH3 HD3 ⊢
            clear hW3
            obtain ⟨ta, hta⟩ : ∃ z, z = wiX N0 D0 (IntKind.i64.wrap (y.tdiv 3)) := ⟨_, rfl⟩
            obtain ⟨tb, htb⟩ : ∃ z, z = wiX N0 D0 (IntKind.i64.wrap (x.tdiv 5)) := ⟨_, rfl⟩
            have hRa : N0 - D0 ≤ ta ∧ ta ≤ N0 + D0 := by rw [hta]; exact wi_in _ _ _ HSI.out.2.1.1
            have hRb : N0 - D0 ≤ tb ∧ tb ≤ N0 + D0 := by rw [htb]; exact wi_in _ _ _ HSI.out.2.1.1
            rw [← hta, ← htb]
            clear hta htb
            have hbi2 : s2.bi < 2400 := by have := HB2.out; have := HGO.out; have := HGK.out; omega
            obtain ⟨he, hf, hST⟩ := HI2.out.step (lo := N0 - D0) (hi := N0 + D0) (m := ta) (x := tb) hbi2 HSL.out.1 (by have := HSI.out; omega) HSL.out.2 hRa hRb
            have hgp := gapS ta tb (HI2.out.gapR (by omega))
            obtain ⟨S, hS⟩ : ∃ S, S = s2.stepped ta tb := ⟨_, rfl⟩
            have HC := Lib.hid (pr_step_ok s2 pn2 pa2 ta tb (by have := HSI.out; omega) (by have := HSI.out; omega) (by have := HI2.out.bi; omega) B W3 HH3.out.q.a he hf)
            have HNBS := Lib.hid (show S.noB by rw [hS]; exact HN2.out)
            have HBIS := Lib.hid (show S.bi = s2.bi + 1 by rw [hS]; rfl)
            rw [← hS] at HC hST hgp
            have hST2 := hST (max most2 S.gap) (by omega) (by omega)
            obtain ⟨M3, hM3⟩ : ∃ z, z = max most2 S.gap := ⟨_, rfl⟩
            rw [← hM3] at hST2
            have HIS := Lib.hid hST2.1
            have hM3r : 0 ≤ M3 ∧ M3 ≤ 2401 := by have := HM2.out; omega
            have hM3b : M3 ≤ 2400 := by
              have h1 := (HI2.out.gapR (by omega)).2
              have h2 : S.gap ≤ s2.bi + 1 := by
                have := hST2.1.bi
                unfold PD.gap
                cases e : S.ap with
                | none => show (0 : Int) ≤ s2.bi + 1; have := HI2.out.bi; omega
                | some p => obtain ⟨x', b'⟩ := p; have := hST2.1.ai x' b' e; have := HBIS.out; show S.bi - b' ≤ s2.bi + 1; omega
              have := HM2.out; omega
            have HM3 := Lib.hid (And.intro hM3r.1 hM3b)
            have hdt : -9223372036854775808 ≤ S.t ∧ S.t ≤ 9223372036854775807 := by have := hST2.1.cn; have := hST2.1.m0; have := HBIS.out; omega
            have hok := hST2.2
            clear hST hST2 he hf hRa hRb
            go_wp2_with fail
            refine HC.out.mono ?_
            rintro yy w5 ⟨rfl, hP, hkp⟩
            have HH5 := Lib.hid (HH3.out.step hP hkp)
            have HD5 := Lib.hid (blk_kp HD3.out HDNE.out hkp)
            have hSok := hP.ok.t2
            clear hP hkp HC hS
            have HG := Lib.hid (pr_gap S pn2 pa2 B w5 HH5.out.q.a (by omega))
            obtain ⟨dd, hdd⟩ : ∃ z, z = (if S.t < S.t2 then S.t2 - S.t else S.t - S.t2) := ⟨_, rfl⟩
            obtain ⟨BX, hBX⟩ : ∃ z, z = boundX N0 D0 T0 M3 := ⟨_, rfl⟩
            obtain ⟨BB, hBB⟩ : ∃ z, z = boundB N0 D0 T0 M3 := ⟨_, rfl⟩
            have hddr : -9223372036854775808 ≤ dd ∧ dd ≤ 9223372036854775807 := by have := HIS.out.cn; have := HIS.out.m0; have := HBIS.out; rw [hdd]; split <;> omega
            have HDI := Lib.hid (fun z => dist_rf S.t S.t2 hdt (by omega) z)
            rw [← hdd, show okV dd = .tuple #[.int .i64 dd, .bool true] by unfold okV; rw [fit_yes hddr, cut_yes hddr]] at HDI
            have HBO := Lib.hid (fun z => rac_bound N0 D0 T0 M3 (by have := HSI.out; omega) (by have := HM3.out; omega) z)
            rw [← hBX, ← hBB] at HBO
            have HLE := Lib.hid (show S.se = true → ¬ BX < dd from fun e => by
              have h1 := hok e
              have h2 : boundB N0 D0 T0 M3 = true := by unfold boundB; rw [HRI.out]; simp; have := HM3.out; omega
              have h3 : BX = M3 * SL + 4 := by rw [hBX]; unfold boundX; rw [if_pos h2, HSLE.out]
              rw [h3, hdd]
              split <;> omega)
            obtain ⟨GS, hGS⟩ : ∃ z, z = S.gap := ⟨_, rfl⟩
            rw [← hGS] at HG hM3
            have HMX := hM3.symm
            clear hdt hddr hdd hBX hBB hok hgp hM3r hM3b hSok hbi2 hM3 hGS
            go_wp2_with fail
            refine HG.out.mono ?_
            rintro yy w6 ⟨rfl, hb⟩
            have HH6 := Lib.hid (HH5.out.on hb)
            have HD6 := Lib.hid (HD5.out.keep hb HD5.out.lt)
            clear hb HG
            go_wp2_with fail
            refine (pr_master S _ _ B _ HH6.out.q.a).mono ?_
            rintro yy wz ⟨rfl, rfl⟩
            go_wp2_with fail
            refine (pr_slave S _ _ B _ HH6.out.q.a).mono ?_
            rintro yy wz ⟨rfl, rfl⟩
            go_wp2_with fail
            refine (HDI.out _).mono ?_
            rintro yy wz ⟨rfl, rfl⟩
            have c0 : w6.cell? ⟨C, 0, none⟩ = some (.int .i64 N0) := HH6.out.c.cellAt (i := 0) (by simp)
            have c1 : w6.cell? ⟨C, 1, none⟩ = some (.int .i64 D0) := HH6.out.c.cellAt (i := 1) (by simp)
            have c2 : w6.cell? ⟨C, 2, none⟩ = some (.int .i64 T0) := HH6.out.c.cellAt (i := 2) (by simp)
            go_wp2_with fail
            refine (HPL.out _).mono ?_
            rintro yy w7 ⟨rfl, hb⟩
            have HH7 := Lib.hid (HH6.out.on hb)
            have HD7 := Lib.hid (HD6.out.keep hb HD6.out.lt)
            clear hb c0 c1 c2
            go_wp2_with fail
            refine (HBO.out _).mono ?_
            rintro yy w8 ⟨rfl, hb⟩
            have HH8 := Lib.hid (HH7.out.on hb)
            have HD8 := Lib.hid (HD7.out.keep hb HD7.out.lt)
            clear hb
            go_wp2_with fail
            refine (pr_settled S _ _ B _ HH8.out.q.a).mono ?_
            rintro yy wz ⟨rfl, rfl⟩
            cases hse : S.se
            · go_wp2_with fail
              go_roundw
              case rel => exact ⟨kk + 1, S, _, _, M3, by simp, by have := HGK.out; omega, (by first | rfl | rw [HMX]), HH8.out, HD8.out, HIS.out, HNBS.out, by have := HB2.out; have := HBIS.out; show S.bi ≤ (i : Int) * 40 + ((kk + 1 : Nat) : Int); omega, HM3.out.1, HM3.out.2⟩
              case measure => have := HGK.out; simp [intOf]; omega
            · have hle := HLE.out hse
              go_wp2_with fail
              go_roundw
              case rel => exact ⟨kk + 1, S, _, _, M3, by simp, by have := HGK.out; omega, (by first | rfl | rw [HMX]), HH8.out, HD8.out, HIS.out, HNBS.out, by have := HB2.out; have := HBIS.out; show S.bi ≤ (i : Int) * 40 + ((kk + 1 : Nat) : Int); omega, HM3.out.1, HM3.out.2⟩
              case measure => have := HGK.out; simp [intOf]; omega
          · have o1 : ((kk : Int) % 2 == 1) = false := by rw [beq_eq_false_iff_ne]; exact hod
            have o2 : ((kk : Int).tmod 2 == 1) = false := by rw [Int.tmod_eq_emod_of_nonneg j3]; exact o1
            clear hod
            obtain ⟨W3, hW3⟩ : ∃ W3, W3 = wq := ⟨_, rfl⟩
            rw [← hW3] at HH3 HD3 ⊢
            clear hW3
            obtain ⟨ta, hta⟩ : ∃ z, z = wiX N0 D0 x := ⟨_, rfl⟩
            obtain ⟨tb, htb⟩ : ∃ z, z = wiX N0 D0 y := ⟨_, rfl⟩
            have hRa : N0 - D0 ≤ ta ∧ ta ≤ N0 + D0 := by rw [hta]; exact wi_in _ _ _ HSI.out.2.1.1
            have hRb : N0 - D0 ≤ tb ∧ tb ≤ N0 + D0 := by rw [htb]; exact wi_in _ _ _ HSI.out.2.1.1
            rw [← hta, ← htb]
            clear hta htb
            have hbi2 : s2.bi < 2400 := by have := HB2.out; have := HGO.out; have := HGK.out; omega
            obtain ⟨he, hf, hST⟩ := HI2.out.step (lo := N0 - D0) (hi := N0 + D0) (m := ta) (x := tb) hbi2 HSL.out.1 (by have := HSI.out; omega) HSL.out.2 hRa hRb
            have hgp := gapS ta tb (HI2.out.gapR (by omega))
            obtain ⟨S, hS⟩ : ∃ S, S = s2.stepped ta tb := ⟨_, rfl⟩
            have HC := Lib.hid (pr_step_ok s2 pn2 pa2 ta tb (by have := HSI.out; omega) (by have := HSI.out; omega) (by have := HI2.out.bi; omega) B W3 HH3.out.q.a he hf)
            have HNBS := Lib.hid (show S.noB by rw [hS]; exact HN2.out)
            have HBIS := Lib.hid (show S.bi = s2.bi + 1 by rw [hS]; rfl)
            rw [← hS] at HC hST hgp
            have hST2 := hST (max most2 S.gap) (by omega) (by omega)
            obtain ⟨M3, hM3⟩ : ∃ z, z = max most2 S.gap := ⟨_, rfl⟩
            rw [← hM3] at hST2
            have HIS := Lib.hid hST2.1
            have hM3r : 0 ≤ M3 ∧ M3 ≤ 2401 := by have := HM2.out; omega
            have hM3b : M3 ≤ 2400 := by
              have h1 := (HI2.out.gapR (by omega)).2
              have h2 : S.gap ≤ s2.bi + 1 := by
                have := hST2.1.bi
                unfold PD.gap
                cases e : S.ap with
                | none => show (0 : Int) ≤ s2.bi + 1; have := HI2.out.bi; omega
                | some p => obtain ⟨x', b'⟩ := p; have := hST2.1.ai x' b' e; have := HBIS.out; show S.bi - b' ≤ s2.bi + 1; omega
              have := HM2.out; omega
            have HM3 := Lib.hid (And.intro hM3r.1 hM3b)
            have hdt : -9223372036854775808 ≤ S.t ∧ S.t ≤ 9223372036854775807 := by have := hST2.1.cn; have := hST2.1.m0; have := HBIS.out; omega
            have hok := hST2.2
            clear hST hST2 he hf hRa hRb
            go_wp2_with fail
            refine HC.out.mono ?_
            rintro yy w5 ⟨rfl, hP, hkp⟩
            have HH5 := Lib.hid (HH3.out.step hP hkp)
            have HD5 := Lib.hid (blk_kp HD3.out HDNE.out hkp)
            have hSok := hP.ok.t2
            clear hP hkp HC hS
            have HG := Lib.hid (pr_gap S pn2 pa2 B w5 HH5.out.q.a (by omega))
            obtain ⟨dd, hdd⟩ : ∃ z, z = (if S.t < S.t2 then S.t2 - S.t else S.t - S.t2) := ⟨_, rfl⟩
            obtain ⟨BX, hBX⟩ : ∃ z, z = boundX N0 D0 T0 M3 := ⟨_, rfl⟩
            obtain ⟨BB, hBB⟩ : ∃ z, z = boundB N0 D0 T0 M3 := ⟨_, rfl⟩
            have hddr : -9223372036854775808 ≤ dd ∧ dd ≤ 9223372036854775807 := by have := HIS.out.cn; have := HIS.out.m0; have := HBIS.out; rw [hdd]; split <;> omega
            have HDI := Lib.hid (fun z => dist_rf S.t S.t2 hdt (by omega) z)
            rw [← hdd, show okV dd = .tuple #[.int .i64 dd, .bool true] by unfold okV; rw [fit_yes hddr, cut_yes hddr]] at HDI
            have HBO := Lib.hid (fun z => rac_bound N0 D0 T0 M3 (by have := HSI.out; omega) (by have := HM3.out; omega) z)
            rw [← hBX, ← hBB] at HBO
            have HLE := Lib.hid (show S.se = true → ¬ BX < dd from fun e => by
              have h1 := hok e
              have h2 : boundB N0 D0 T0 M3 = true := by unfold boundB; rw [HRI.out]; simp; have := HM3.out; omega
              have h3 : BX = M3 * SL + 4 := by rw [hBX]; unfold boundX; rw [if_pos h2, HSLE.out]
              rw [h3, hdd]
              split <;> omega)
            obtain ⟨GS, hGS⟩ : ∃ z, z = S.gap := ⟨_, rfl⟩
            rw [← hGS] at HG hM3
            have HMX := hM3.symm
            clear hdt hddr hdd hBX hBB hok hgp hM3r hM3b hSok hbi2 hM3 hGS
            go_wp2_with fail
            refine HG.out.mono ?_
            rintro yy w6 ⟨rfl, hb⟩
            have HH6 := Lib.hid (HH5.out.on hb)
            have HD6 := Lib.hid (HD5.out.keep hb HD5.out.lt)
            clear hb HG
            go_wp2_with fail
            refine (pr_master S _ _ B _ HH6.out.q.a).mono ?_
            rintro yy wz ⟨rfl, rfl⟩
            go_wp2_with fail
            refine (pr_slave S _ _ B _ HH6.out.q.a).mono ?_
            rintro yy wz ⟨rfl, rfl⟩
            go_wp2_with fail
            refine (HDI.out _).mono ?_
            rintro yy wz ⟨rfl, rfl⟩
            have c0 : w6.cell? ⟨C, 0, none⟩ = some (.int .i64 N0) := HH6.out.c.cellAt (i := 0) (by simp)
            have c1 : w6.cell? ⟨C, 1, none⟩ = some (.int .i64 D0) := HH6.out.c.cellAt (i := 1) (by simp)
            have c2 : w6.cell? ⟨C, 2, none⟩ = some (.int .i64 T0) := HH6.out.c.cellAt (i := 2) (by simp)
            go_wp2_with fail
            refine (HPL.out _).mono ?_
            rintro yy w7 ⟨rfl, hb⟩
            have HH7 := Lib.hid (HH6.out.on hb)
            have HD7 := Lib.hid (HD6.out.keep hb HD6.out.lt)
            clear hb c0 c1 c2
            go_wp2_with fail
            refine (HBO.out _).mono ?_
            rintro yy w8 ⟨rfl, hb⟩
            have HH8 := Lib.hid (HH7.out.on hb)
            have HD8 := Lib.hid (HD7.out.keep hb HD7.out.lt)
            clear hb
            go_wp2_with fail
            refine (pr_settled S _ _ B _ HH8.out.q.a).mono ?_
            rintro yy wz ⟨rfl, rfl⟩
            cases hse : S.se
            · go_wp2_with fail
              go_roundw
              case rel => exact ⟨kk + 1, S, _, _, M3, by simp, by have := HGK.out; omega, (by first | rfl | rw [HMX]), HH8.out, HD8.out, HIS.out, HNBS.out, by have := HB2.out; have := HBIS.out; show S.bi ≤ (i : Int) * 40 + ((kk + 1 : Nat) : Int); omega, HM3.out.1, HM3.out.2⟩
              case measure => have := HGK.out; simp [intOf]; omega
            · have hle := HLE.out hse
              go_wp2_with fail
              go_roundw
              case rel => exact ⟨kk + 1, S, _, _, M3, by simp, by have := HGK.out; omega, (by first | rfl | rw [HMX]), HH8.out, HD8.out, HIS.out, HNBS.out, by have := HB2.out; have := HBIS.out; show S.bi ≤ (i : Int) * 40 + ((kk + 1 : Nat) : Int); omega, HM3.out.1, HM3.out.2⟩
              case measure => have := HGK.out; simp [intOf]; omega
        · have hT : ((kk : Int) < k ∧ ¬ (kk : Int) < 40) ∨ ¬ (kk : Int) < k := by omega
          clear hgk
          rcases hT with ⟨j1, j2⟩ | j1
          all_goals
            go_wp2_with fail
            go_roundw
            case rel => exact ⟨i + 1, s2, _, _, most2, by simp, by have := HGO.out; omega, rfl, HH2.out, HI2.out, HN2.out, by have := HB2.out; show s2.bi ≤ ((i + 1 : Nat) : Int) * 40; omega, HM2.out.1, HM2.out.2⟩
            case measure => have := HGO.out; simp [intOf]; omega
    · have hT : ((i : Int) < (L.length : Int) ∧ ¬ (i : Int) < 60) ∨ ¬ (i : Int) < (L.length : Int) := by omega
      clear hgo
      rcases hT with ⟨i1, i2⟩ | i1
      all_goals
        go_wp2_with fail
        refine (live19 _).mono ?_
        rintro y w5 ⟨rfl, hb⟩
        have HBz := Lib.hid (below_transG HH0.out.q.below hb)
        clear hb
        go_wp2_with fail
        go_ret
        exact ⟨rfl, HBz.out⟩
set_option maxRecDepth 100000 in
theorem lifted (os : Os) (started : os.Started) (H : Type) (enc : TypeId × Value → H) :
    ReturnsInHanded {} Try.checked os 5 .any (Rows.accordHoldsSpec.pre6 enc Try.prog Try.f5 Rows.accordHoldsRow.domain false) (Rows.accordHoldsSpec.post enc Try.prog Try.f5 false true false false) := by
  refine returnsInHanded_of_change (C := Try.checked) own started (by kernel_rfl) Try.func5
    (ChangeSpec.witness6 (enc := enc) (C := Try.checked) false ⟨#[], #[.agg #[.int .i64 0, .int .i64 0, .int .i64 0], .int .i64 0, .slice none 0 0], []⟩ 8 (by kernel_rfl) (by kernel_rfl) (by kernel_rfl) (by kernel_rfl)) ?_
  intro W base args ds gs before hval0 hW _ _
  have hval : ∀ (j : Nat) t v, Try.f5.params[j]? = some t → args[j]? = some v → Value.okWide Try.prog W .any base t v := hval0
  have hW' := hW
  obtain ⟨p, q, hA0, hV, rfl, hfz, hnd⟩ := hW
  have hA : DataW.TrodAll enc Try.prog W 0 (fun _ => true) true Try.f5.params.toList args.toList ds p := hA0
  rw [Try.params5] at hA hval
  obtain ⟨v0, vs0, d0, ds0, p0, q0, hargs, rfl, rfl, h0, r0⟩ := trodAll_cons hA
  obtain ⟨v1, vs1, d1, ds1, p1, q1, rfl, rfl, rfl, h1, r1⟩ := trodAll_cons r0
  obtain ⟨v2, vs2, d2, ds2, p2, q2, rfl, rfl, rfl, h2, r2⟩ := trodAll_cons r1
  obtain ⟨rfl, rfl, rfl⟩ := trodAll_nil r2
  obtain rfl : args = #[v0, v1, v2] := by cases args; simp_all
  obtain ⟨rfl, rfl⟩ := trodVars_none hV
  have k0 := h0
  have lt0 : ∀ x ∈ p0, x.block < W.heap.size := by obtain ⟨m, hm⟩ := k0; exact DataW.trod_lt m _ _ _ hm
  obtain ⟨xa0, xb0, xc0, rfl, wa0, wb0, wc0⟩ := open_aconf (hval 0 25 v0 rfl rfl) h0
  obtain ⟨a1, rfl, rfl, rfl, w1⟩ := open_int Try.underlying2 (hval 1 2 v1 rfl rfl) h1
  obtain ⟨a2, len2, cap2, rfl⟩ := okWide_slice Try.underlying37 (hval 2 37 v2 rfl rfl)
  have k2 := h2
  have lt2 : ∀ x ∈ p2, x.block < W.heap.size := by obtain ⟨m, hm⟩ := k2; exact DataW.trod_lt m _ _ _ hm
  obtain ⟨L2, wl2, ww2, wr2⟩ : ∃ L : List A19, L.length = len2 ∧ (∀ s ∈ L, A19.wf s) ∧ Rd W 5 (.slice a2 len2 cap2) (L.flatMap A19.C) := by
    obtain ⟨fuel, hf⟩ := h2
    exact open_rows A19.C A19.wf 5 (by decide) Try.underlying37 (by kernel_rfl) (fun _ => rfl) (fun _ _ _ => act19G) (by simpa [Value.cells] using hf)
  clear hA0 hval0
  refine (walk xa0 xb0 xc0 a1 a2 len2 cap2 L2 W wa0 wb0 wc0 w1 ⟨wl2, ww2, wr2⟩).mono fun e W' ⟨he, bel⟩ => ?_
  subst he
  exact ⟨_, rfl, _, _, _, [], _, [], hW', trodAll_mk1 (shut_bool Try.underlying4 _), (trodAll_cons_mk (Below.trod laidOut (by kernel_rfl) (of_decide_eq_true (by kernel_rfl)) k0 bel lt0) (trodAll_cons_mk (shut_int Try.underlying2 w1) (trodAll_cons_mk (Below.trod laidOut (by kernel_rfl) (of_decide_eq_true (by kernel_rfl)) k2 bel lt2) trodAll_mk0))), rfl, bel.frame _, fun h => by cases h⟩
theorem over : Rows.accordHoldsRow.holds Try.pinned (OpenSpec.ofChange Rows.accordHoldsSpec) :=
  OpenClaim.holds_of_wide 5 Try.f5 rfl rfl rfl rfl rfl rfl rfl ⟨rfl, rfl, rfl, rfl, rfl⟩ rfl rfl rfl rfl rfl (by kernel_rfl) Try.func5 (by kernel_rfl)
    (of_decide_eq_true (by kernel_rfl)) (by unfold Func.isWrapper; first | (rw [if_pos (by decide +kernel)]; kernel_rfl) | (rw [if_neg (by decide +kernel)]; exact ⟨rfl, rfl⟩))
    (fun os started H enc _ => lifted os started H enc)
/-- The statement. -/
theorem proved : Rows.AccordHoldsSaid := over
end Go.Proofs.Ytpamkmpaldepnaa.accordHolds
