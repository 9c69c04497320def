/- AccordRises (P19.5): what both tell never falls, whatever ticks go by, is noted, and applied. No conditions. -/
import Derived.Test.YtpamkmpaldepnaaRows
import Derived.Test.YtpamkmpaldepnaaAcn
import Derived.Test.YtpamkmpaldepnaaOpa
import Derived.WalkKit
import Derived.ProofKit
import Derived.OpenShut
import Derived.ShutString
import Derived.ChangeOld
import Derived.Below
namespace Go.Proofs.Ytpamkmpaldepnaa.accordRises
open Go.ChangeShapes Go.WideShapes Go.ChangeAt Go.RowKit
theorem own : ownKnob Try.prog.godebug = none := by kernel_rfl
theorem laidOut : laidOutB Try.prog = true := by kernel_rfl
theorem and_i50 (n : Int) : 0 ≤ bits .and .i64 n 1125899906842623 ∧ bits .and .i64 n 1125899906842623 ≤ 1125899906842623 := by
  have h : bits .and .i64 n 1125899906842623 = IntKind.i64.wrap ((BitVec.ofInt 64 n &&& BitVec.ofInt 64 1125899906842623).toNat : Nat) := rfl
  have h2 : (BitVec.ofInt 64 n &&& BitVec.ofInt 64 1125899906842623).toNat ≤ 1125899906842623 := by
    rw [BitVec.toNat_and]
    exact Nat.le_trans Nat.and_le_right (by decide)
  rw [h, IntKind.wrap_i64]
  omega
set_option maxRecDepth 100000 in
set_option maxHeartbeats 16000000 in
theorem walk (n d u : Int) (st : Int) (a2 : Option Addr) (len2 cap2 : Nat) (L : List A19) (w : World) (v1 : (Lit.int .i64 n).wf = true) (_ : (Lit.int .i64 d).wf = true) (_ : (Lit.int .i64 u).wf = true) (_ : (Lit.int .i64 st).wf = true) (w2_ : L.length = len2 ∧ (∀ s ∈ L, s.wf) ∧ Rd w 5 (.slice a2 len2 cap2) (L.flatMap A19.C)) :
    Calls Try.prog 6 #[.agg #[.int .i64 n, .int .i64 d, .int .i64 u], .int .i64 st, .slice a2 len2 cap2] w fun y w' => y = .returned (.bool true) ∧ Below w.heap.size w w' := by
  obtain ⟨rfl, hwf, hL⟩ := w2_
  have HLR := Lib.hid hL; have HWF := Lib.hid hwf
  clear hL hwf
  obtain ⟨W0, hW0⟩ : ∃ W, W = w.alloc (.cells #[.int .i64 n, .int .i64 d, .int .i64 u] 25) := ⟨_, rfl⟩
  have HA0 := Lib.hid (show Blk W0 w.heap.size 25 [.int .i64 n, .int .i64 d, .int .i64 u] by rw [hW0]; exact Blk.new w 25 [.int .i64 n, .int .i64 d, .int .i64 u])
  have HB0 := Lib.hid (show Below w.heap.size w W0 by rw [hW0]; exact (Below.refl _ w).alloc (Nat.le_refl _) _)
  have HSM := Lib.hid (fun z => lw_small19 n d u (wf64 v1) z)
  have hsm := sm_in n d u
  have hri := sm_right n d u
  have hst := and_i50 st
  obtain ⟨g0, hg0⟩ : ∃ g, bits .and .i64 st 1125899906842623 = g := ⟨_, rfl⟩
  rw [hg0] at hst
  obtain ⟨N0, hN0⟩ : ∃ x, x = smN n := ⟨_, rfl⟩
  obtain ⟨D0, hD0⟩ : ∃ x, x = smD n d := ⟨_, rfl⟩
  obtain ⟨T0, hT0⟩ : ∃ x, x = smT u := ⟨_, rfl⟩
  rw [← hN0, ← hD0, ← hT0] at HSM hri
  rw [← hN0] at hsm
  have HNW := Lib.hid (fun z => pr_new_yes N0 D0 T0 g0 (by omega) hri (by omega) z)
  have HG0 := Lib.hid hg0
  clear hsm hri hst hN0 hD0 hT0 hg0
  go_enter Try.func6, Try.ntmps6
  go_upto_region 1 with fail
  rw [← hW0]
  obtain ⟨C, hC⟩ : ∃ C, C = w.heap.size := ⟨_, rfl⟩
  rw [← hC] at HA0 ⊢
  have HCW := Lib.hid hC
  clear hW0 hC
  have c0 := HA0.out.cellAt (i := 0) (by simp); have c1 := HA0.out.cellAt (i := 1) (by simp); have c2 := HA0.out.cellAt (i := 2) (by simp)
  go_wp2_with fail
  refine (HSM.out _).mono ?_
  rintro y w2 ⟨rfl, hb⟩
  have HB2 := Lib.hid (below_transG HB0.out hb)
  have HA2 := Lib.hid (HA0.out.keep hb HA0.out.lt)
  clear hb c0 c1 c2 HA0 HB0
  have c0 : w2.cell? ⟨C, 0, none⟩ = some (.int .i64 n) := HA2.out.cellAt (i := 0) (by simp)
  have c1 : w2.cell? ⟨C, 1, none⟩ = some (.int .i64 d) := HA2.out.cellAt (i := 1) (by simp)
  have c2 : w2.cell? ⟨C, 2, none⟩ = some (.int .i64 u) := HA2.out.cellAt (i := 2) (by simp)
  have f0 : w2.frozen? ⟨C, 0, none⟩ = false := HA2.out.frozenAt 0
  have f1 : w2.frozen? ⟨C, 1, none⟩ = false := HA2.out.frozenAt 1
  have f2 : w2.frozen? ⟨C, 2, none⟩ = false := HA2.out.frozenAt 2
  have hcl := HA2.out.lt
  have HA3 := Lib.hid (((HA2.out.put1 (i := 0) (by simp) (.int .i64 N0)).put1 (i := 1) (by simp) (.int .i64 D0)).put1 (i := 2) (by simp) (.int .i64 T0))
  have HB3 := Lib.hid (((HB2.out.setCell (p := ⟨C, 0, none⟩) (by have := HCW.out; show w.heap.size ≤ C; omega) (.int .i64 N0)).setCell (p := ⟨C, 1, none⟩) (by have := HCW.out; show w.heap.size ≤ C; omega) (.int .i64 D0)).setCell (p := ⟨C, 2, none⟩) (by have := HCW.out; show w.heap.size ≤ C; omega) (.int .i64 T0))
  go_upto_region 2 with fail
  obtain ⟨w3, hw3⟩ : ∃ w3, w3 = (((w2.setCell ⟨C, 0, none⟩ (.int .i64 N0)).setCell ⟨C, 1, none⟩ (.int .i64 D0)).setCell ⟨C, 2, none⟩ (.int .i64 T0)) := ⟨_, rfl⟩
  rw [← hw3] at HA3 HB3 ⊢
  clear c0 c1 c2 f0 f1 f2 hcl hw3 HA2 HB2
  have HA4 := Lib.hid (show Blk w3 C 25 [.int .i64 N0, .int .i64 D0, .int .i64 T0] from HA3.out)
  clear HA3
  have c0 := HA4.out.cellAt (i := 0) (by simp); have c1 := HA4.out.cellAt (i := 1) (by simp); have c2 := HA4.out.cellAt (i := 2) (by simp)
  have hg0 := HG0.out
  go_wp2_with fail
  refine (HNW.out _).mono ?_
  rintro y w4 ⟨B, rfl, hP, hBl, hb⟩
  have HQ4 := Lib.hid (show PQ w w4 B (newP N0 D0 T0 g0) (.pointer none) (.pointer none) from ⟨hP, below_transG HB3.out hb, by have := HB3.out.size; omega⟩)
  clear hP hBl hb c0 c1 c2 hg0 HNW HSM
  obtain ⟨S0, hS0⟩ : ∃ S0, S0 = newP N0 D0 T0 g0 := ⟨_, rfl⟩
  have HN0 := Lib.hid (show S0.noB ∧ S0.bi = 0 by rw [hS0]; exact ⟨PD.noB_none rfl, rfl⟩)
  rw [← hS0] at HQ4
  clear hS0
  go_wp2_with fail
  refine (pr_master _ _ _ B _ HQ4.out.a).mono ?_
  rintro y wz ⟨rfl, rfl⟩
  go_wp2_with fail
  refine (pr_slave _ _ _ B _ HQ4.out.a).mono ?_
  rintro y wz ⟨rfl, rfl⟩
  go_wp2_with fail
  go_loopw [9, 10, 11] (fun s9 s10 s11 wr => ∃ (i : Nat) (s : PD) (pn pa : Value), s11 = .int .i64 (i : Int) ∧ i ≤ 80 ∧ s9 = .int .i64 s.t ∧ s10 = .int .i64 s.t2 ∧ PQ w wr B s pn pa ∧ s.noB ∧ 0 ≤ s.bi ∧ s.bi ≤ (i : Int)) (fun _ _ s11 _ => 80 - (intOf s11).toNat)
  case atStart => exact ⟨0, S0, _, _, rfl, by omega, rfl, rfl, HQ4.out, HN0.out.1, by have := HN0.out.2; omega, by have := HN0.out.2; omega⟩
  case round =>
    obtain ⟨i, s, pn, pa, rfl, hi80, rfl, rfl, hQ, hN, hbi0, hbi1⟩ := hrel
    have HQ0 := Lib.hid hQ; have HN := Lib.hid hN; have HBI0 := Lib.hid (And.intro hbi0 hbi1)
    clear hQ hN hbi0 hbi1 HQ4 HN0
    by_cases hgo : i < L.length ∧ i < 80
    · have hlt := hgo.1
      have i1 : (i : Int) < (L.length : Int) := by omega
      have i2 : (i : Int) < 80 := by have := hgo.2; omega
      have i3 : (0 : Int) ≤ (i : Int) := by omega
      obtain ⟨g, off, rfl, hg, hcell⟩ := rd_at A19.C 5 (fun _ => rfl) HLR.out hlt (by decide)
      have hwf := HWF.out L[i] (List.getElem_mem _)
      obtain ⟨a, ha⟩ : ∃ a, a = L[i] := ⟨_, rfl⟩
      rw [← ha] at hcell hwf
      clear ha
      obtain ⟨kd, k, x, y, q⟩ := a
      have HX := Lib.hid hwf.2.1; have HY := Lib.hid hwf.2.2.1; have HQQ := Lib.hid hwf.2.2.2
      simp only at HX HY HQQ
      have hcw : ∀ j v, (A19.C ⟨kd, k, x, y, q⟩)[j]? = some v → wr.cell? ⟨g, off + i * 5 + j, none⟩ = some v := fun j v h => (HQ0.out.below.cell (p := ⟨g, off + i * 5 + j, none⟩) hg).trans (hcell j v h)
      have e0 : wr.cell? ⟨g, off + i * 5, none⟩ = some (.int .i64 kd) := hcw 0 _ rfl
      have e1 : wr.cell? ⟨g, off + i * 5 + 1, none⟩ = some (.int .i64 k) := hcw 1 _ rfl
      have e2 : wr.cell? ⟨g, off + i * 5 + 2, none⟩ = some (.int .i64 x) := hcw 2 _ rfl
      have e3 : wr.cell? ⟨g, off + i * 5 + 3, none⟩ = some (.int .i64 y) := hcw 3 _ rfl
      have e4 : wr.cell? ⟨g, off + i * 5 + 4, none⟩ = some (.int .i64 q) := hcw 4 _ rfl
      have HGO := Lib.hid (show i < 80 from hgo.2)
      obtain ⟨W1, hW1⟩ : ∃ W1, W1 = wr.alloc (.cells #[.int .i64 kd, .int .i64 k, .int .i64 x, .int .i64 y, .int .i64 q] 46) := ⟨_, rfl⟩
      have hb1 : Below wr.heap.size wr W1 := by rw [hW1]; exact (Below.refl _ wr).alloc (Nat.le_refl _) _
      have hBs : Blk W1 wr.heap.size 46 [.int .i64 kd, .int .i64 k, .int .i64 x, .int .i64 y, .int .i64 q] := by rw [hW1]; exact Blk.new wr 46 [.int .i64 kd, .int .i64 k, .int .i64 x, .int .i64 y, .int .i64 q]
      have HQ1 := Lib.hid (HQ0.out.on hb1)
      clear hcw hcell hwf hgo hb1
      go_upto_region 10 with fail
      rw [← hW1]
      obtain ⟨D, hD⟩ : ∃ D, D = wr.heap.size := ⟨_, rfl⟩
      rw [← hD] at hBs ⊢
      have HD1 := Lib.hid hBs
      clear hW1 hD hBs e0 e1 e2 e3 e4 HQ0 i1 i2 i3 hlt
      have d0 : W1.cell? ⟨D, 0, none⟩ = some (.int .i64 kd) := HD1.out.cellAt (i := 0) (by simp)
      have d1 : W1.cell? ⟨D, 1, none⟩ = some (.int .i64 k) := HD1.out.cellAt (i := 1) (by simp)
      have d2 : W1.cell? ⟨D, 2, none⟩ = some (.int .i64 x) := HD1.out.cellAt (i := 2) (by simp)
      have d3 : W1.cell? ⟨D, 3, none⟩ = some (.int .i64 y) := HD1.out.cellAt (i := 3) (by simp)
      have d4 : W1.cell? ⟨D, 4, none⟩ = some (.int .i64 q) := HD1.out.cellAt (i := 4) (by simp)
      by_cases h0 : kd = 0
      · have k0 : (kd == 0) = true := by rw [h0]; rfl
        clear h0
        cases hk : s.has with
        | true =>
          have HC := Lib.hid (pr_capture_yes s pn pa B W1 HQ1.out.a hk)
          clear hk
          go_wp2_with fail
          refine HC.out.mono ?_
          rintro yy w5 ⟨rfl, ⟨K, hP⟩, hkp⟩
          have HQ5 := Lib.hid (HQ1.out.step hP hkp)
          clear hP hkp d0 d1 d2 d3 d4
          obtain ⟨S2, hS2⟩ : ∃ S2 : PD, S2 = { s with no := some (s.less, s.bi) } := ⟨_, rfl⟩
          have HGE := Lib.hid (show s.t ≤ S2.t ∧ s.t2 ≤ S2.t2 by rw [hS2]; exact ⟨Int.le_refl _, Int.le_refl _⟩)
          have HNB := Lib.hid (show S2.noB by rw [hS2]; exact PD.noB_less)
          have HBI := Lib.hid (show 0 ≤ S2.bi ∧ S2.bi ≤ (i : Int) + 1 by rw [hS2]; exact (show 0 ≤ s.bi ∧ s.bi ≤ (i : Int) + 1 by have := HBI0.out; omega))
          have HM1 := Lib.hid (fun u h => pr_master S2 (.pointer (some ⟨K, 0, none⟩)) (pa) B u h)
          have HM2 := Lib.hid (fun u h => pr_slave S2 (.pointer (some ⟨K, 0, none⟩)) (pa) B u h)
          have HQ := Lib.hid (show PQ w w5 B S2 (.pointer (some ⟨K, 0, none⟩)) (pa) by rw [hS2]; exact HQ5.out)
          clear hS2
          have m1 : ¬ S2.t < s.t := by have := HGE.out; omega
          have m2 : ¬ S2.t2 < s.t2 := by have := HGE.out; omega
          go_wp2_with fail
          refine (HM1.out _ HQ.out.a).mono ?_
          rintro yz wz ⟨rfl, rfl⟩
          go_wp2_with fail
          refine (HM2.out _ HQ.out.a).mono ?_
          rintro yz wz ⟨rfl, rfl⟩
          go_wp2_with fail
          refine (HM1.out _ HQ.out.a).mono ?_
          rintro yz wz ⟨rfl, rfl⟩
          go_wp2_with fail
          refine (HM2.out _ HQ.out.a).mono ?_
          rintro yz wz ⟨rfl, rfl⟩
          go_wp2_with fail
          go_roundw
          case rel => exact ⟨i + 1, S2, _, _, by simp, by have := HGO.out; omega, rfl, rfl, HQ.out, HNB.out, by have := HBI.out; omega⟩
          case measure => have := HGO.out; simp [intOf]; omega
        | false =>
          have HC := Lib.hid (pr_capture_no s pn pa B W1 HQ1.out.a hk)
          clear hk
          go_wp2_with fail
          refine HC.out.mono ?_
          rintro yy w5 ⟨rfl, hb⟩
          have HQ5 := Lib.hid (HQ1.out.on hb)
          clear hb d0 d1 d2 d3 d4
          obtain ⟨S2, hS2⟩ : ∃ S2 : PD, S2 = s := ⟨_, rfl⟩
          have HGE := Lib.hid (show s.t ≤ S2.t ∧ s.t2 ≤ S2.t2 by rw [hS2]; exact ⟨Int.le_refl _, Int.le_refl _⟩)
          have HNB := Lib.hid (show S2.noB by rw [hS2]; exact HN.out)
          have HBI := Lib.hid (show 0 ≤ S2.bi ∧ S2.bi ≤ (i : Int) + 1 by rw [hS2]; exact (show 0 ≤ s.bi ∧ s.bi ≤ (i : Int) + 1 by have := HBI0.out; omega))
          have HM1 := Lib.hid (fun u h => pr_master S2 (pn) (pa) B u h)
          have HM2 := Lib.hid (fun u h => pr_slave S2 (pn) (pa) B u h)
          have HQ := Lib.hid (show PQ w w5 B S2 (pn) (pa) by rw [hS2]; exact HQ5.out)
          clear hS2
          have m1 : ¬ S2.t < s.t := by have := HGE.out; omega
          have m2 : ¬ S2.t2 < s.t2 := by have := HGE.out; omega
          go_wp2_with fail
          refine (HM1.out _ HQ.out.a).mono ?_
          rintro yz wz ⟨rfl, rfl⟩
          go_wp2_with fail
          refine (HM2.out _ HQ.out.a).mono ?_
          rintro yz wz ⟨rfl, rfl⟩
          go_wp2_with fail
          refine (HM1.out _ HQ.out.a).mono ?_
          rintro yz wz ⟨rfl, rfl⟩
          go_wp2_with fail
          refine (HM2.out _ HQ.out.a).mono ?_
          rintro yz wz ⟨rfl, rfl⟩
          go_wp2_with fail
          go_roundw
          case rel => exact ⟨i + 1, S2, _, _, by simp, by have := HGO.out; omega, rfl, rfl, HQ.out, HNB.out, by have := HBI.out; omega⟩
          case measure => have := HGO.out; simp [intOf]; omega
      have k0 : (kd == 0) = false := by rw [beq_eq_false_iff_ne]; exact h0
      clear h0
      by_cases h1 : kd = 1
      · have k1 : (kd == 1) = true := by rw [h1]; rfl
        clear h1
        cases hno : s.no with
        | none =>
          have HC := Lib.hid (pr_apply_none s pn pa q B W1 HQ1.out.a hno)
          clear hno
          go_wp2_with fail
          refine HC.out.mono ?_
          rintro yy w5 ⟨rfl, rfl⟩
          clear d0 d1 d2 d3 d4
          obtain ⟨S2, hS2⟩ : ∃ S2 : PD, S2 = s := ⟨_, rfl⟩
          have HGE := Lib.hid (show s.t ≤ S2.t ∧ s.t2 ≤ S2.t2 by rw [hS2]; exact ⟨Int.le_refl _, Int.le_refl _⟩)
          have HNB := Lib.hid (show S2.noB by rw [hS2]; exact HN.out)
          have HBI := Lib.hid (show 0 ≤ S2.bi ∧ S2.bi ≤ (i : Int) + 1 by rw [hS2]; exact (show 0 ≤ s.bi ∧ s.bi ≤ (i : Int) + 1 by have := HBI0.out; omega))
          have HM1 := Lib.hid (fun u h => pr_master S2 (pn) (pa) B u h)
          have HM2 := Lib.hid (fun u h => pr_slave S2 (pn) (pa) B u h)
          have HQ := Lib.hid (show PQ w W1 B S2 (pn) (pa) by rw [hS2]; exact HQ1.out)
          clear hS2
          have m1 : ¬ S2.t < s.t := by have := HGE.out; omega
          have m2 : ¬ S2.t2 < s.t2 := by have := HGE.out; omega
          go_wp2_with fail
          refine (HM1.out _ HQ.out.a).mono ?_
          rintro yz wz ⟨rfl, rfl⟩
          go_wp2_with fail
          refine (HM2.out _ HQ.out.a).mono ?_
          rintro yz wz ⟨rfl, rfl⟩
          go_wp2_with fail
          refine (HM1.out _ HQ.out.a).mono ?_
          rintro yz wz ⟨rfl, rfl⟩
          go_wp2_with fail
          refine (HM2.out _ HQ.out.a).mono ?_
          rintro yz wz ⟨rfl, rfl⟩
          go_wp2_with fail
          go_roundw
          case rel => exact ⟨i + 1, S2, _, _, by simp, by have := HGO.out; omega, rfl, rfl, HQ.out, HNB.out, by have := HBI.out; omega⟩
          case measure => have := HGO.out; simp [intOf]; omega
        | some xb =>
          obtain ⟨nx, nb⟩ := xb
          have hxb := HN.out nx nb hno
          by_cases hr : 1048576 - s.tu ≤ q ∧ q ≤ 1048576 + s.tu
          · by_cases hgz : goE s.c2 s.v2 s.r2 s.sc q nx = 0
            · have HC := Lib.hid (ap_yes s pn pa q nx nb hxb B W1 HQ1.out.a hno hr hgz)
              clear hno hxb hr hgz
              go_wp2_with fail
              refine HC.out.mono ?_
              rintro yy w5 ⟨rfl, hP, hkp⟩
              have HQ5 := Lib.hid (HQ1.out.step hP hkp)
              clear hP hkp d0 d1 d2 d3 d4
              obtain ⟨S2, hS2⟩ : ∃ S2 : PD, S2 = { s.went q nx with ap := some (nx, nb) } := ⟨_, rfl⟩
              have HGE := Lib.hid (show s.t ≤ S2.t ∧ s.t2 ≤ S2.t2 by rw [hS2]; exact ⟨Int.le_refl _, Int.le_refl _⟩)
              have HNB := Lib.hid (show S2.noB by rw [hS2]; exact PD.noB_none rfl)
              have HBI := Lib.hid (show 0 ≤ S2.bi ∧ S2.bi ≤ (i : Int) + 1 by rw [hS2]; exact (show 0 ≤ s.bi ∧ s.bi ≤ (i : Int) + 1 by have := HBI0.out; omega))
              have HM1 := Lib.hid (fun u h => pr_master S2 (.pointer none) (pn) B u h)
              have HM2 := Lib.hid (fun u h => pr_slave S2 (.pointer none) (pn) B u h)
              have HQ := Lib.hid (show PQ w w5 B S2 (.pointer none) (pn) by rw [hS2]; exact HQ5.out)
              clear hS2
              have m1 : ¬ S2.t < s.t := by have := HGE.out; omega
              have m2 : ¬ S2.t2 < s.t2 := by have := HGE.out; omega
              go_wp2_with fail
              refine (HM1.out _ HQ.out.a).mono ?_
              rintro yz wz ⟨rfl, rfl⟩
              go_wp2_with fail
              refine (HM2.out _ HQ.out.a).mono ?_
              rintro yz wz ⟨rfl, rfl⟩
              go_wp2_with fail
              refine (HM1.out _ HQ.out.a).mono ?_
              rintro yz wz ⟨rfl, rfl⟩
              go_wp2_with fail
              refine (HM2.out _ HQ.out.a).mono ?_
              rintro yz wz ⟨rfl, rfl⟩
              go_wp2_with fail
              go_roundw
              case rel => exact ⟨i + 1, S2, _, _, by simp, by have := HGO.out; omega, rfl, rfl, HQ.out, HNB.out, by have := HBI.out; omega⟩
              case measure => have := HGO.out; simp [intOf]; omega
            · have HC := Lib.hid (ap_no s pn pa q nx nb hxb B W1 HQ1.out.a hno hr hgz)
              obtain ⟨ge, hge⟩ : ∃ ge, ge = goE s.c2 s.v2 s.r2 s.sc q nx := ⟨_, rfl⟩
              rw [← hge] at HC
              clear hno hxb hr hgz hge
              go_wp2_with fail
              refine HC.out.mono ?_
              rintro yy w5 ⟨rfl, hP, hkp⟩
              have HQ5 := Lib.hid (HQ1.out.step hP hkp)
              clear hP hkp d0 d1 d2 d3 d4
              obtain ⟨S2, hS2⟩ : ∃ S2 : PD, S2 = s.went q nx := ⟨_, rfl⟩
              have HGE := Lib.hid (show s.t ≤ S2.t ∧ s.t2 ≤ S2.t2 by rw [hS2]; exact ⟨Int.le_refl _, Int.le_refl _⟩)
              have HNB := Lib.hid (show S2.noB by rw [hS2]; exact PD.noB_none rfl)
              have HBI := Lib.hid (show 0 ≤ S2.bi ∧ S2.bi ≤ (i : Int) + 1 by rw [hS2]; exact (show 0 ≤ s.bi ∧ s.bi ≤ (i : Int) + 1 by have := HBI0.out; omega))
              have HM1 := Lib.hid (fun u h => pr_master S2 (.pointer none) (pa) B u h)
              have HM2 := Lib.hid (fun u h => pr_slave S2 (.pointer none) (pa) B u h)
              have HQ := Lib.hid (show PQ w w5 B S2 (.pointer none) (pa) by rw [hS2]; exact HQ5.out)
              clear hS2
              have m1 : ¬ S2.t < s.t := by have := HGE.out; omega
              have m2 : ¬ S2.t2 < s.t2 := by have := HGE.out; omega
              go_wp2_with fail
              refine (HM1.out _ HQ.out.a).mono ?_
              rintro yz wz ⟨rfl, rfl⟩
              go_wp2_with fail
              refine (HM2.out _ HQ.out.a).mono ?_
              rintro yz wz ⟨rfl, rfl⟩
              go_wp2_with fail
              refine (HM1.out _ HQ.out.a).mono ?_
              rintro yz wz ⟨rfl, rfl⟩
              go_wp2_with fail
              refine (HM2.out _ HQ.out.a).mono ?_
              rintro yz wz ⟨rfl, rfl⟩
              go_wp2_with fail
              go_roundw
              case rel => exact ⟨i + 1, S2, _, _, by simp, by have := HGO.out; omega, rfl, rfl, HQ.out, HNB.out, by have := HBI.out; omega⟩
              case measure => have := HGO.out; simp [intOf]; omega
          · have HC := Lib.hid (ap_out s pn pa q nx nb hxb B W1 HQ1.out.a hno hr)
            clear hno hxb hr
            go_wp2_with fail
            refine HC.out.mono ?_
            rintro yy w5 ⟨rfl, hb⟩
            have HQ5 := Lib.hid (HQ1.out.on hb)
            clear hb d0 d1 d2 d3 d4
            obtain ⟨S2, hS2⟩ : ∃ S2 : PD, S2 = s := ⟨_, rfl⟩
            have HGE := Lib.hid (show s.t ≤ S2.t ∧ s.t2 ≤ S2.t2 by rw [hS2]; exact ⟨Int.le_refl _, Int.le_refl _⟩)
            have HNB := Lib.hid (show S2.noB by rw [hS2]; exact HN.out)
            have HBI := Lib.hid (show 0 ≤ S2.bi ∧ S2.bi ≤ (i : Int) + 1 by rw [hS2]; exact (show 0 ≤ s.bi ∧ s.bi ≤ (i : Int) + 1 by have := HBI0.out; omega))
            have HM1 := Lib.hid (fun u h => pr_master S2 (pn) (pa) B u h)
            have HM2 := Lib.hid (fun u h => pr_slave S2 (pn) (pa) B u h)
            have HQ := Lib.hid (show PQ w w5 B S2 (pn) (pa) by rw [hS2]; exact HQ5.out)
            clear hS2
            have m1 : ¬ S2.t < s.t := by have := HGE.out; omega
            have m2 : ¬ S2.t2 < s.t2 := by have := HGE.out; omega
            go_wp2_with fail
            refine (HM1.out _ HQ.out.a).mono ?_
            rintro yz wz ⟨rfl, rfl⟩
            go_wp2_with fail
            refine (HM2.out _ HQ.out.a).mono ?_
            rintro yz wz ⟨rfl, rfl⟩
            go_wp2_with fail
            refine (HM1.out _ HQ.out.a).mono ?_
            rintro yz wz ⟨rfl, rfl⟩
            go_wp2_with fail
            refine (HM2.out _ HQ.out.a).mono ?_
            rintro yz wz ⟨rfl, rfl⟩
            go_wp2_with fail
            go_roundw
            case rel => exact ⟨i + 1, S2, _, _, by simp, by have := HGO.out; omega, rfl, rfl, HQ.out, HNB.out, by have := HBI.out; omega⟩
            case measure => have := HGO.out; simp [intOf]; omega
      have k1 : (kd == 1) = false := by rw [beq_eq_false_iff_ne]; exact h1
      clear h1
      by_cases he : stepE s.mc x = 0
      · by_cases hf : stepE s.sc y = 0
        · have HC := Lib.hid (pr_step_ok s pn pa x y HX.out HY.out (by have := HBI0.out; have := HGO.out; omega) B W1 HQ1.out.a he hf)
          clear he hf
          go_wp2_with fail
          refine HC.out.mono ?_
          rintro yy w5 ⟨rfl, hP, hkp⟩
          have HQ5 := Lib.hid (HQ1.out.step hP hkp)
          clear hP hkp d0 d1 d2 d3 d4
          obtain ⟨S2, hS2⟩ : ∃ S2 : PD, S2 = s.stepped x y := ⟨_, rfl⟩
          have HGE := Lib.hid (show s.t ≤ S2.t ∧ s.t2 ≤ S2.t2 by rw [hS2]; exact stepped_ge s x y)
          have HNB := Lib.hid (show S2.noB by rw [hS2]; exact HN.out)
          have HBI := Lib.hid (show 0 ≤ S2.bi ∧ S2.bi ≤ (i : Int) + 1 by rw [hS2]; exact ⟨by show 0 ≤ s.bi + 1; have := HBI0.out; omega, by show s.bi + 1 ≤ (i : Int) + 1; have := HBI0.out; omega⟩)
          have HM1 := Lib.hid (fun u h => pr_master S2 (pn) (pa) B u h)
          have HM2 := Lib.hid (fun u h => pr_slave S2 (pn) (pa) B u h)
          have HQ := Lib.hid (show PQ w w5 B S2 (pn) (pa) by rw [hS2]; exact HQ5.out)
          clear hS2
          have m1 : ¬ S2.t < s.t := by have := HGE.out; omega
          have m2 : ¬ S2.t2 < s.t2 := by have := HGE.out; omega
          go_wp2_with fail
          refine (HM1.out _ HQ.out.a).mono ?_
          rintro yz wz ⟨rfl, rfl⟩
          go_wp2_with fail
          refine (HM2.out _ HQ.out.a).mono ?_
          rintro yz wz ⟨rfl, rfl⟩
          go_wp2_with fail
          refine (HM1.out _ HQ.out.a).mono ?_
          rintro yz wz ⟨rfl, rfl⟩
          go_wp2_with fail
          refine (HM2.out _ HQ.out.a).mono ?_
          rintro yz wz ⟨rfl, rfl⟩
          go_wp2_with fail
          go_roundw
          case rel => exact ⟨i + 1, S2, _, _, by simp, by have := HGO.out; omega, rfl, rfl, HQ.out, HNB.out, by have := HBI.out; omega⟩
          case measure => have := HGO.out; simp [intOf]; omega
        · have HC := Lib.hid (pr_step_s s pn pa x y HX.out HY.out B W1 HQ1.out.a he hf)
          obtain ⟨ge, hge⟩ : ∃ ge, ge = stepE s.sc y := ⟨_, rfl⟩
          rw [← hge] at HC
          clear he hf hge
          go_wp2_with fail
          refine HC.out.mono ?_
          rintro yy w5 ⟨rfl, hP, hkp⟩
          have HQ5 := Lib.hid (HQ1.out.step hP hkp)
          clear hP hkp d0 d1 d2 d3 d4
          obtain ⟨S2, hS2⟩ : ∃ S2 : PD, S2 = s := ⟨_, rfl⟩
          have HGE := Lib.hid (show s.t ≤ S2.t ∧ s.t2 ≤ S2.t2 by rw [hS2]; exact ⟨Int.le_refl _, Int.le_refl _⟩)
          have HNB := Lib.hid (show S2.noB by rw [hS2]; exact HN.out)
          have HBI := Lib.hid (show 0 ≤ S2.bi ∧ S2.bi ≤ (i : Int) + 1 by rw [hS2]; exact (show 0 ≤ s.bi ∧ s.bi ≤ (i : Int) + 1 by have := HBI0.out; omega))
          have HM1 := Lib.hid (fun u h => pr_master S2 (pn) (pa) B u h)
          have HM2 := Lib.hid (fun u h => pr_slave S2 (pn) (pa) B u h)
          have HQ := Lib.hid (show PQ w w5 B S2 (pn) (pa) by rw [hS2]; exact HQ5.out)
          clear hS2
          have m1 : ¬ S2.t < s.t := by have := HGE.out; omega
          have m2 : ¬ S2.t2 < s.t2 := by have := HGE.out; omega
          go_wp2_with fail
          refine (HM1.out _ HQ.out.a).mono ?_
          rintro yz wz ⟨rfl, rfl⟩
          go_wp2_with fail
          refine (HM2.out _ HQ.out.a).mono ?_
          rintro yz wz ⟨rfl, rfl⟩
          go_wp2_with fail
          refine (HM1.out _ HQ.out.a).mono ?_
          rintro yz wz ⟨rfl, rfl⟩
          go_wp2_with fail
          refine (HM2.out _ HQ.out.a).mono ?_
          rintro yz wz ⟨rfl, rfl⟩
          go_wp2_with fail
          go_roundw
          case rel => exact ⟨i + 1, S2, _, _, by simp, by have := HGO.out; omega, rfl, rfl, HQ.out, HNB.out, by have := HBI.out; omega⟩
          case measure => have := HGO.out; simp [intOf]; omega
      · have HC := Lib.hid (pr_step_m s pn pa x y HX.out B W1 HQ1.out.a he)
        obtain ⟨ge, hge⟩ : ∃ ge, ge = stepE s.mc x := ⟨_, rfl⟩
        rw [← hge] at HC
        clear he hge
        go_wp2_with fail
        refine HC.out.mono ?_
        rintro yy w5 ⟨rfl, hP, hkp⟩
        have HQ5 := Lib.hid (HQ1.out.step hP hkp)
        clear hP hkp d0 d1 d2 d3 d4
        obtain ⟨S2, hS2⟩ : ∃ S2 : PD, S2 = s := ⟨_, rfl⟩
        have HGE := Lib.hid (show s.t ≤ S2.t ∧ s.t2 ≤ S2.t2 by rw [hS2]; exact ⟨Int.le_refl _, Int.le_refl _⟩)
        have HNB := Lib.hid (show S2.noB by rw [hS2]; exact HN.out)
        have HBI := Lib.hid (show 0 ≤ S2.bi ∧ S2.bi ≤ (i : Int) + 1 by rw [hS2]; exact (show 0 ≤ s.bi ∧ s.bi ≤ (i : Int) + 1 by have := HBI0.out; omega))
        have HM1 := Lib.hid (fun u h => pr_master S2 (pn) (pa) B u h)
        have HM2 := Lib.hid (fun u h => pr_slave S2 (pn) (pa) B u h)
        have HQ := Lib.hid (show PQ w w5 B S2 (pn) (pa) by rw [hS2]; exact HQ5.out)
        clear hS2
        have m1 : ¬ S2.t < s.t := by have := HGE.out; omega
        have m2 : ¬ S2.t2 < s.t2 := by have := HGE.out; omega
        go_wp2_with fail
        refine (HM1.out _ HQ.out.a).mono ?_
        rintro yz wz ⟨rfl, rfl⟩
        go_wp2_with fail
        refine (HM2.out _ HQ.out.a).mono ?_
        rintro yz wz ⟨rfl, rfl⟩
        go_wp2_with fail
        refine (HM1.out _ HQ.out.a).mono ?_
        rintro yz wz ⟨rfl, rfl⟩
        go_wp2_with fail
        refine (HM2.out _ HQ.out.a).mono ?_
        rintro yz wz ⟨rfl, rfl⟩
        go_wp2_with fail
        go_roundw
        case rel => exact ⟨i + 1, S2, _, _, by simp, by have := HGO.out; omega, rfl, rfl, HQ.out, HNB.out, by have := HBI.out; omega⟩
        case measure => have := HGO.out; simp [intOf]; omega
    · have hT : ((i : Int) < (L.length : Int) ∧ ¬ (i : Int) < 80) ∨ ¬ (i : Int) < (L.length : Int) := by omega
      clear hgo
      rcases hT with ⟨i1, i2⟩ | i1
      all_goals
        go_wp2_with fail
        refine (live19 _).mono ?_
        rintro y w5 ⟨rfl, hb⟩
        have HBz := Lib.hid (below_transG HQ0.out.below hb)
        clear hb
        go_wp2_with fail
        go_ret
        exact ⟨rfl, HBz.out⟩
set_option maxRecDepth 100000 in
theorem lifted (os : Os) (started : os.Started) (H : Type) (enc : TypeId × Value → H) :
    ReturnsInHanded {} Try.checked os 6 .any (Rows.accordRisesSpec.pre6 enc Try.prog Try.f6 Rows.accordRisesRow.domain false) (Rows.accordRisesSpec.post enc Try.prog Try.f6 false true false false) := by
  refine returnsInHanded_of_change (C := Try.checked) own started (by kernel_rfl) Try.func6
    (ChangeSpec.witness6 (enc := enc) (C := Try.checked) false ⟨#[], #[.agg #[.int .i64 0, .int .i64 0, .int .i64 0], .int .i64 0, .slice none 0 0], []⟩ 8 (by kernel_rfl) (by kernel_rfl) (by kernel_rfl) (by kernel_rfl)) ?_
  intro W base args ds gs before hval0 hW _ _
  have hval : ∀ (j : Nat) t v, Try.f6.params[j]? = some t → args[j]? = some v → Value.okWide Try.prog W .any base t v := hval0
  have hW' := hW
  obtain ⟨p, q, hA0, hV, rfl, hfz, hnd⟩ := hW
  have hA : DataW.TrodAll enc Try.prog W 0 (fun _ => true) true Try.f6.params.toList args.toList ds p := hA0
  rw [Try.params6] at hA hval
  obtain ⟨v0, vs0, d0, ds0, p0, q0, hargs, rfl, rfl, h0, r0⟩ := trodAll_cons hA
  obtain ⟨v1, vs1, d1, ds1, p1, q1, rfl, rfl, rfl, h1, r1⟩ := trodAll_cons r0
  obtain ⟨v2, vs2, d2, ds2, p2, q2, rfl, rfl, rfl, h2, r2⟩ := trodAll_cons r1
  obtain ⟨rfl, rfl, rfl⟩ := trodAll_nil r2
  obtain rfl : args = #[v0, v1, v2] := by cases args; simp_all
  obtain ⟨rfl, rfl⟩ := trodVars_none hV
  have k0 := h0
  have lt0 : ∀ x ∈ p0, x.block < W.heap.size := by obtain ⟨m, hm⟩ := k0; exact DataW.trod_lt m _ _ _ hm
  obtain ⟨xa0, xb0, xc0, rfl, wa0, wb0, wc0⟩ := open_aconf (hval 0 25 v0 rfl rfl) h0
  obtain ⟨a1, rfl, rfl, rfl, w1⟩ := open_int Try.underlying2 (hval 1 2 v1 rfl rfl) h1
  obtain ⟨a2, len2, cap2, rfl⟩ := okWide_slice Try.underlying37 (hval 2 37 v2 rfl rfl)
  have k2 := h2
  have lt2 : ∀ x ∈ p2, x.block < W.heap.size := by obtain ⟨m, hm⟩ := k2; exact DataW.trod_lt m _ _ _ hm
  obtain ⟨L2, wl2, ww2, wr2⟩ : ∃ L : List A19, L.length = len2 ∧ (∀ s ∈ L, A19.wf s) ∧ Rd W 5 (.slice a2 len2 cap2) (L.flatMap A19.C) := by
    obtain ⟨fuel, hf⟩ := h2
    exact open_rows A19.C A19.wf 5 (by decide) Try.underlying37 (by kernel_rfl) (fun _ => rfl) (fun _ _ _ => act19G) (by simpa [Value.cells] using hf)
  clear hA0 hval0
  refine (walk xa0 xb0 xc0 a1 a2 len2 cap2 L2 W wa0 wb0 wc0 w1 ⟨wl2, ww2, wr2⟩).mono fun e W' ⟨he, bel⟩ => ?_
  subst he
  exact ⟨_, rfl, _, _, _, [], _, [], hW', trodAll_mk1 (shut_bool Try.underlying4 _), (trodAll_cons_mk (Below.trod laidOut (by kernel_rfl) (of_decide_eq_true (by kernel_rfl)) k0 bel lt0) (trodAll_cons_mk (shut_int Try.underlying2 w1) (trodAll_cons_mk (Below.trod laidOut (by kernel_rfl) (of_decide_eq_true (by kernel_rfl)) k2 bel lt2) trodAll_mk0))), rfl, bel.frame _, fun h => by cases h⟩
theorem over : Rows.accordRisesRow.holds Try.pinned (OpenSpec.ofChange Rows.accordRisesSpec) :=
  OpenClaim.holds_of_wide 6 Try.f6 rfl rfl rfl rfl rfl rfl rfl ⟨rfl, rfl, rfl, rfl, rfl⟩ rfl rfl rfl rfl rfl (by kernel_rfl) Try.func6 (by kernel_rfl)
    (of_decide_eq_true (by kernel_rfl)) (by unfold Func.isWrapper; first | (rw [if_pos (by decide +kernel)]; kernel_rfl) | (rw [if_neg (by decide +kernel)]; exact ⟨rfl, rfl⟩))
    (fun os started H enc _ => lifted os started H enc)
/-- The statement. -/
theorem proved : Rows.AccordRisesSaid := over
end Go.Proofs.Ytpamkmpaldepnaa.accordRises
