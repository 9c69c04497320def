/- AccordPlays (P19.2, P19.3): whatever ticks go by, is noted and applied. No conditions. -/
import Derived.Test.YtbjelggbnmfblaaRows
import Derived.Test.YtbjelggbnmfblaaAcx
import Derived.Test.YtbjelggbnmfblaaOpa
import Derived.Deep.DeepCutAuto
import Derived.WalkKit
import Derived.ProofKit
import Derived.OpenShut
import Derived.ShutString
import Derived.ChangeOld
import Derived.Below
namespace Go.Proofs.Ytbjelggbnmfblaa.accordPlays
open Go.ChangeShapes Go.WideShapes Go.ChangeAt Go.RowKit
theorem own : ownKnob Try.prog.godebug = none := by kernel_rfl
theorem laidOut : laidOutB Try.prog = true := by kernel_rfl
set_option maxRecDepth 100000 in
set_option maxHeartbeats 32000000 in
theorem walk (n d u : Int) (st : Int) (a2 : Option Addr) (len2 cap2 : Nat) (L : List A19) (w : World) (v1 : (Lit.int .i64 n).wf = true) (_ : (Lit.int .i64 d).wf = true) (_ : (Lit.int .i64 u).wf = true) (_ : (Lit.int .i64 st).wf = true) (w2_ : L.length = len2 ∧ (∀ s ∈ L, s.wf) ∧ Rd w 5 (.slice a2 len2 cap2) (L.flatMap A19.C)) :
    Calls Try.prog 7 #[.agg #[.int .i64 n, .int .i64 d, .int .i64 u], .int .i64 st, .slice a2 len2 cap2] w fun y w' => y = .returned (.bool true) ∧ Below w.heap.size w w' := by
  obtain ⟨rfl, hwf, hL⟩ := w2_
  have HLR := Lib.hid hL; have HWF := Lib.hid hwf
  clear hL hwf
  obtain ⟨W0, hW0⟩ : ∃ W, W = w.alloc (.cells #[.int .i64 n, .int .i64 d, .int .i64 u] 92) := ⟨_, rfl⟩
  have HA0 := Lib.hid (show Blk W0 w.heap.size 92 [.int .i64 n, .int .i64 d, .int .i64 u] by rw [hW0]; exact Blk.new w 92 [.int .i64 n, .int .i64 d, .int .i64 u])
  have HB0 := Lib.hid (show Below w.heap.size w W0 by rw [hW0]; exact (Below.refl _ w).alloc (Nat.le_refl _) _)
  have HPL := Lib.hid (fun z => ac_plain n d u z)
  by_cases hN : (rightC n d u && decide (0 ≤ st ∧ st ≤ 1125899906842624)) = true
  · rw [Bool.and_eq_true] at hN
    have hst := of_decide_eq_true hN.2
    have hri := hN.1
    have htu : 0 ≤ u ∧ u ≤ 4096 := by
      unfold rightC at hri
      rw [Bool.and_eq_true] at hri
      exact of_decide_eq_true hri.2
    have HNA := Lib.hid (fun z => pr_new_yes n d u st (wf64 v1) hri hst z)
    have HNR := Lib.hid (fun z => rp_new_yes n d u st (wf64 v1) hri hst z)
    have HLK := Lib.hid (LK.start (n := n) (d := d) htu hst)
    clear hN hst hri htu
    go_enter Try.func7, Try.ntmps7
    go_upto_region 1 with fail
    rw [← hW0]
    obtain ⟨C, hC⟩ : ∃ C, C = w.heap.size := ⟨_, rfl⟩
    rw [← hC] at HA0 ⊢
    have HCW := Lib.hid hC
    clear hW0 hC
    have c0 := HA0.out.cellAt (i := 0) (by simp); have c1 := HA0.out.cellAt (i := 1) (by simp); have c2 := HA0.out.cellAt (i := 2) (by simp)
    go_wp2_with fail
    refine (HNA.out _).mono ?_
    rintro y w2 ⟨A, rfl, hP, hAl, hb⟩
    have HA2 := Lib.hid (HA0.out.keep hb HA0.out.lt); have HB2 := Lib.hid (below_transG HB0.out hb)
    have HP2 := Lib.hid hP; have HLA := Lib.hid (show w.heap.size ≤ A by have h2 := HB0.out.size; omega)
    clear hP hAl hb c0 c1 c2 HA0 HB0
    have c0 := HA2.out.cellAt (i := 0) (by simp); have c1 := HA2.out.cellAt (i := 1) (by simp); have c2 := HA2.out.cellAt (i := 2) (by simp)
    go_wp2_with fail
    refine (HPL.out _).mono ?_
    rintro y w3 ⟨rfl, hb⟩
    have HB3 := Lib.hid (below_transG HB2.out hb); have HP3 := Lib.hid (HP2.out.on hb)
    clear hb c0 c1 c2 HA2 HB2 HP2
    go_wp2_with fail
    refine (HNR.out _).mono ?_
    rintro y w4 ⟨B, mo, so, km, ks, rfl, hR, hlo, hb⟩
    have HP4 := Lib.hid (show PP w w4 A (newP n d u st) (.pointer none) (.pointer none) B (newP n d u st) mo so km ks 0 0 0 0 from ⟨HP3.out.on hb, hR, HLA.out, fun j hj => Nat.le_trans HB3.out.size (hlo j hj), below_transG HB3.out hb⟩)
    clear hR hlo hb HB3 HP3 HNA HNR
    obtain ⟨S0, hS0⟩ : ∃ S0, S0 = newP n d u st := ⟨_, rfl⟩
    have HS0 := Lib.hid (show S0.bi = 0 by rw [hS0]; rfl)
    rw [← hS0] at HP4 HLK
    clear hS0
    go_wp2_with fail
    go_loopw [11] (fun s11 wr => ∃ i : Nat, s11 = .int .i64 (i : Int) ∧ i ≤ 40 ∧ ∃ (s : PD) (pn pa : Value) (z1 z2 z3 z4 : Int), PP w wr A s pn pa B s mo so km ks z1 z2 z3 z4 ∧ LK s ∧ s.bi ≤ (i : Int) * 30) (fun s11 _ => 40 - (intOf s11).toNat)
    case atStart => exact ⟨0, rfl, by omega, S0, _, _, _, _, _, _, HP4.out, HLK.out, by have := HS0.out; omega⟩
    case round =>
      obtain ⟨i, rfl, hi40, s, pn, pa, z1, z2, z3, z4, hQ, hK, hbi⟩ := hrel
      have HQ0 := Lib.hid hQ; have HL0 := Lib.hid hK; have HBI := Lib.hid hbi
      clear hQ hK hbi HP4 HLK
      by_cases hgo : i < L.length ∧ i < 40
      · have hlt := hgo.1
        have i1 : (i : Int) < (L.length : Int) := by omega
        have i2 : (i : Int) < 40 := by have := hgo.2; omega
        have i3 : (0 : Int) ≤ (i : Int) := by omega
        obtain ⟨g, off, rfl, hg, hcell⟩ := rd_at A19.C 5 (fun _ => rfl) HLR.out hlt (by decide)
        have hwf := HWF.out L[i] (List.getElem_mem _)
        obtain ⟨a, ha⟩ : ∃ a, a = L[i] := ⟨_, rfl⟩
        rw [← ha] at hcell hwf
        clear ha
        obtain ⟨kd, k, x, y, q⟩ := a
        have HX_ := Lib.hid hwf.2.1; have HY_ := Lib.hid hwf.2.2.1
        simp only at HX_ HY_
        have hcw : ∀ j v, (A19.C ⟨kd, k, x, y, q⟩)[j]? = some v → wr.cell? ⟨g, off + i * 5 + j, none⟩ = some v := fun j v h => (HQ0.out.below.cell (p := ⟨g, off + i * 5 + j, none⟩) hg).trans (hcell j v h)
        have e0 : wr.cell? ⟨g, off + i * 5, none⟩ = some (.int .i64 kd) := hcw 0 _ rfl
        have e1 : wr.cell? ⟨g, off + i * 5 + 1, none⟩ = some (.int .i64 k) := hcw 1 _ rfl
        have e2 : wr.cell? ⟨g, off + i * 5 + 2, none⟩ = some (.int .i64 x) := hcw 2 _ rfl
        have e3 : wr.cell? ⟨g, off + i * 5 + 3, none⟩ = some (.int .i64 y) := hcw 3 _ rfl
        have e4 : wr.cell? ⟨g, off + i * 5 + 4, none⟩ = some (.int .i64 q) := hcw 4 _ rfl
        have HGO := Lib.hid (show i < 40 from hgo.2)
        obtain ⟨W1, hW1⟩ : ∃ W1, W1 = wr.alloc (.cells #[.int .i64 kd, .int .i64 k, .int .i64 x, .int .i64 y, .int .i64 q] 103) := ⟨_, rfl⟩
        have hb1 : Below wr.heap.size wr W1 := by rw [hW1]; exact (Below.refl _ wr).alloc (Nat.le_refl _) _
        have hBs : Blk W1 wr.heap.size 103 [.int .i64 kd, .int .i64 k, .int .i64 x, .int .i64 y, .int .i64 q] := by rw [hW1]; exact Blk.new wr 103 [.int .i64 kd, .int .i64 k, .int .i64 x, .int .i64 y, .int .i64 q]
        have HQ1 := Lib.hid (HQ0.out.on hb1)
        clear hcw hcell hwf hgo hb1
        go_upto_region 11 with fail
        rw [← hW1]
        obtain ⟨D, hD⟩ : ∃ D, D = wr.heap.size := ⟨_, rfl⟩
        rw [← hD] at hBs ⊢
        have HX1 := Lib.hid (show PX w W1 D [.int .i64 kd, .int .i64 k, .int .i64 x, .int .i64 y, .int .i64 q] A s pn pa B s mo so km ks z1 z2 z3 z4 from ⟨HQ1.out, hBs⟩)
        clear hW1 hD hBs e0 e1 e2 e3 e4 HQ0 HQ1 i1 i2 i3 hlt
        have d0 : W1.cell? ⟨D, 0, none⟩ = some (.int .i64 kd) := HX1.out.d.cellAt (i := 0) (by simp)
        have d1 : W1.cell? ⟨D, 1, none⟩ = some (.int .i64 k) := HX1.out.d.cellAt (i := 1) (by simp)
        have d2 : W1.cell? ⟨D, 2, none⟩ = some (.int .i64 x) := HX1.out.d.cellAt (i := 2) (by simp)
        have d3 : W1.cell? ⟨D, 3, none⟩ = some (.int .i64 y) := HX1.out.d.cellAt (i := 3) (by simp)
        have d4 : W1.cell? ⟨D, 4, none⟩ = some (.int .i64 q) := HX1.out.d.cellAt (i := 4) (by simp)
        by_cases h0 : kd = 0
        · have k0 : (kd == 0) = true := by rw [h0]; rfl
          clear h0
          have hhas := HL0.out.has (by have := HBI.out; have := HGO.out; omega)
          have HC := Lib.hid (fun v h => pr_capture_yes s pn pa A v h hhas)
          have HR := Lib.hid (fun v (h : RP v B s mo so km ks z1 z2 z3 z4) => rp_capture_yes h (HL0.out.b64 (by have := HBI.out; have := HGO.out; omega)).1 (HL0.out.b64 (by have := HBI.out; have := HGO.out; omega)).2 hhas)
          have HLS := Lib.hid (HL0.out.noted (by have := HBI.out; have := HGO.out; omega))
          obtain ⟨S, hS⟩ : ∃ S : PD, S = { s with no := some (s.less, s.bi) } := ⟨_, rfl⟩
          rw [← hS] at HC HR HLS
          have HBS := Lib.hid (show S.bi = s.bi by rw [hS])
          clear hS hhas
          go_wp2_with fail
          refine (HC.out _ HX1.out.p.a).mono ?_
          rintro e5 w5 ⟨rfl, ⟨K, hP⟩, hkp⟩
          have HX5 := Lib.hid (HX1.out.code hP hkp)
          clear hP hkp d0 d1 d2 d3 d4
          go_wp2_with fail
          refine (HR.out _ HX5.out.p.r).mono ?_
          rintro e6 w6 ⟨rfl, ⟨y1, y2, y3, hRR⟩, hF⟩
          have HX7 := Lib.hid (HX5.out.ref hRR hF)
          clear hRR hF HC HR HX1 HX5
          have HSW := Lib.hid (show ∀ x, Below w6.heap.size w6 x → Below w6.heap.size w6 x ∧ x.cell? ⟨B, 5, none⟩ = some (.pointer (some ⟨km, 0, none⟩)) ∧ x.cell? ⟨km, 3, none⟩ = some (.int .i64 S.t) ∧ x.cell? ⟨B, 6, none⟩ = some (.pointer (some ⟨ks, 0, none⟩)) ∧ x.cell? ⟨ks, 3, none⟩ = some (.int .i64 S.t2) ∧ x.cell? ⟨B, 14, none⟩ = some (.bool S.se) from fun x hx => ⟨hx, (HX7.out.on hx).p.r.blk.cellAt (i := 5) (by simp), (HX7.out.on hx).p.r.hkm.blk.cellAt (i := 3) (by simp), (HX7.out.on hx).p.r.blk.cellAt (i := 6) (by simp), (HX7.out.on hx).p.r.hks.blk.cellAt (i := 3) (by simp), (HX7.out.on hx).p.r.blk.cellAt (i := 14) (by simp)⟩)
          have HM1 := Lib.hid (show ∀ x, (Below w6.heap.size w6 x ∧ x.cell? ⟨B, 5, none⟩ = some (.pointer (some ⟨km, 0, none⟩)) ∧ x.cell? ⟨km, 3, none⟩ = some (.int .i64 S.t) ∧ x.cell? ⟨B, 6, none⟩ = some (.pointer (some ⟨ks, 0, none⟩)) ∧ x.cell? ⟨ks, 3, none⟩ = some (.int .i64 S.t2) ∧ x.cell? ⟨B, 14, none⟩ = some (.bool S.se)) → Calls Try.prog 52 #[.pointer (some ⟨A, 0, none⟩)] x fun y w' => y = .returned (.int .i64 S.t) ∧ (Below w6.heap.size w6 w' ∧ w'.cell? ⟨B, 5, none⟩ = some (.pointer (some ⟨km, 0, none⟩)) ∧ w'.cell? ⟨km, 3, none⟩ = some (.int .i64 S.t) ∧ w'.cell? ⟨B, 6, none⟩ = some (.pointer (some ⟨ks, 0, none⟩)) ∧ w'.cell? ⟨ks, 3, none⟩ = some (.int .i64 S.t2) ∧ w'.cell? ⟨B, 14, none⟩ = some (.bool S.se)) from fun x hx => (pr_master S _ _ A x (HX7.out.on hx.1).p.a).mono fun y w' ⟨h1, h2⟩ => ⟨h1, h2 ▸ hx⟩)
          have HM2 := Lib.hid (show ∀ x, (Below w6.heap.size w6 x ∧ x.cell? ⟨B, 5, none⟩ = some (.pointer (some ⟨km, 0, none⟩)) ∧ x.cell? ⟨km, 3, none⟩ = some (.int .i64 S.t) ∧ x.cell? ⟨B, 6, none⟩ = some (.pointer (some ⟨ks, 0, none⟩)) ∧ x.cell? ⟨ks, 3, none⟩ = some (.int .i64 S.t2) ∧ x.cell? ⟨B, 14, none⟩ = some (.bool S.se)) → Calls Try.prog 53 #[.pointer (some ⟨A, 0, none⟩)] x fun y w' => y = .returned (.int .i64 S.t2) ∧ (Below w6.heap.size w6 w' ∧ w'.cell? ⟨B, 5, none⟩ = some (.pointer (some ⟨km, 0, none⟩)) ∧ w'.cell? ⟨km, 3, none⟩ = some (.int .i64 S.t) ∧ w'.cell? ⟨B, 6, none⟩ = some (.pointer (some ⟨ks, 0, none⟩)) ∧ w'.cell? ⟨ks, 3, none⟩ = some (.int .i64 S.t2) ∧ w'.cell? ⟨B, 14, none⟩ = some (.bool S.se)) from fun x hx => (pr_slave S _ _ A x (HX7.out.on hx.1).p.a).mono fun y w' ⟨h1, h2⟩ => ⟨h1, h2 ▸ hx⟩)
          have HM3 := Lib.hid (show ∀ x, (Below w6.heap.size w6 x ∧ x.cell? ⟨B, 5, none⟩ = some (.pointer (some ⟨km, 0, none⟩)) ∧ x.cell? ⟨km, 3, none⟩ = some (.int .i64 S.t) ∧ x.cell? ⟨B, 6, none⟩ = some (.pointer (some ⟨ks, 0, none⟩)) ∧ x.cell? ⟨ks, 3, none⟩ = some (.int .i64 S.t2) ∧ x.cell? ⟨B, 14, none⟩ = some (.bool S.se)) → Calls Try.prog 54 #[.pointer (some ⟨A, 0, none⟩)] x fun y w' => y = .returned (.bool S.se) ∧ (Below w6.heap.size w6 w' ∧ w'.cell? ⟨B, 5, none⟩ = some (.pointer (some ⟨km, 0, none⟩)) ∧ w'.cell? ⟨km, 3, none⟩ = some (.int .i64 S.t) ∧ w'.cell? ⟨B, 6, none⟩ = some (.pointer (some ⟨ks, 0, none⟩)) ∧ w'.cell? ⟨ks, 3, none⟩ = some (.int .i64 S.t2) ∧ w'.cell? ⟨B, 14, none⟩ = some (.bool S.se)) from fun x hx => (pr_settled S _ _ A x (HX7.out.on hx.1).p.a).mono fun y w' ⟨h1, h2⟩ => ⟨h1, h2 ▸ hx⟩)
          have HM4 := Lib.hid (show ∀ x, (Below w6.heap.size w6 x ∧ x.cell? ⟨B, 5, none⟩ = some (.pointer (some ⟨km, 0, none⟩)) ∧ x.cell? ⟨km, 3, none⟩ = some (.int .i64 S.t) ∧ x.cell? ⟨B, 6, none⟩ = some (.pointer (some ⟨ks, 0, none⟩)) ∧ x.cell? ⟨ks, 3, none⟩ = some (.int .i64 S.t2) ∧ x.cell? ⟨B, 14, none⟩ = some (.bool S.se)) → Calls Try.prog 55 #[.pointer (some ⟨A, 0, none⟩)] x fun y w' => y = .returned (.int .i64 S.gap) ∧ (Below w6.heap.size w6 w' ∧ w'.cell? ⟨B, 5, none⟩ = some (.pointer (some ⟨km, 0, none⟩)) ∧ w'.cell? ⟨km, 3, none⟩ = some (.int .i64 S.t) ∧ w'.cell? ⟨B, 6, none⟩ = some (.pointer (some ⟨ks, 0, none⟩)) ∧ w'.cell? ⟨ks, 3, none⟩ = some (.int .i64 S.t2) ∧ w'.cell? ⟨B, 14, none⟩ = some (.bool S.se)) from fun x hx => (pr_gap S _ _ A x (HX7.out.on hx.1).p.a (HLS.out.gapR (by have := HBI.out; have := HGO.out; have := HBS.out; omega))).mono fun y w' ⟨h1, h2⟩ => ⟨h1, HSW.out _ (below_transG hx.1 h2)⟩)
          have HM5 := Lib.hid (show ∀ x, (Below w6.heap.size w6 x ∧ x.cell? ⟨B, 5, none⟩ = some (.pointer (some ⟨km, 0, none⟩)) ∧ x.cell? ⟨km, 3, none⟩ = some (.int .i64 S.t) ∧ x.cell? ⟨B, 6, none⟩ = some (.pointer (some ⟨ks, 0, none⟩)) ∧ x.cell? ⟨ks, 3, none⟩ = some (.int .i64 S.t2) ∧ x.cell? ⟨B, 14, none⟩ = some (.bool S.se)) → Calls Try.prog 56 #[.pointer (some ⟨B, 0, none⟩)] x fun y w' => y = .returned (.int .i64 S.gap) ∧ (Below w6.heap.size w6 w' ∧ w'.cell? ⟨B, 5, none⟩ = some (.pointer (some ⟨km, 0, none⟩)) ∧ w'.cell? ⟨km, 3, none⟩ = some (.int .i64 S.t) ∧ w'.cell? ⟨B, 6, none⟩ = some (.pointer (some ⟨ks, 0, none⟩)) ∧ w'.cell? ⟨ks, 3, none⟩ = some (.int .i64 S.t2) ∧ w'.cell? ⟨B, 14, none⟩ = some (.bool S.se)) from fun x hx => (rp_gap (HX7.out.on hx.1).p.r (HLS.out.gapR (by have := HBI.out; have := HGO.out; have := HBS.out; omega))).mono fun y w' ⟨h1, h2⟩ => ⟨h1, HSW.out _ (below_transG hx.1 h2)⟩)
          obtain ⟨GP, hGP⟩ : ∃ z, z = S.gap := ⟨_, rfl⟩
          rw [← hGP] at HM4 HM5
          clear hGP
          obtain ⟨T1, hT1⟩ : ∃ z, z = S.t := ⟨_, rfl⟩
          obtain ⟨T2, hT2⟩ : ∃ z, z = S.t2 := ⟨_, rfl⟩
          obtain ⟨SE, hSE⟩ : ∃ z, z = S.se := ⟨_, rfl⟩
          rw [← hT1, ← hT2, ← hSE] at HSW HM1 HM2 HM3 HM4 HM5
          clear hT1 hT2 hSE
          have tq1 : (T1 == T1) = true := by simp
          have tq2 : (T2 == T2) = true := by simp
          have tq3 : (GP == GP) = true := by simp
          have tq4 : (SE == SE) = true := by simp
          have HS0 := Lib.hid (HSW.out _ (Below.refl _ _).drew)
          go_upto_region 23 with fail
          go_cut [134] (fun s134 wx => s134 = .bool false ∧ Below w6.heap.size w6 wx)
          case first =>
            refine wp_region_class (C := fun x => Below w6.heap.size w6 x ∧ x.cell? ⟨B, 5, none⟩ = some (.pointer (some ⟨km, 0, none⟩)) ∧ x.cell? ⟨km, 3, none⟩ = some (.int .i64 T1) ∧ x.cell? ⟨B, 6, none⟩ = some (.pointer (some ⟨ks, 0, none⟩)) ∧ x.cell? ⟨ks, 3, none⟩ = some (.int .i64 T2) ∧ x.cell? ⟨B, 14, none⟩ = some (.bool SE)) (by kernel_rfl) (by kernel_rfl) (HS0.out) ?_
            repeat
              with_reducible refine wpQuiet_step (fun K hK => ?_)
              first
                | (refine quiet_skip (by rfl) ?_; (with_reducible refine hK _ ?_); clear hK K)
                | (refine quiet_want (by rfl) ?_
                   apply Exists.intro
                   refine ⟨fun x hx => ?_, hK _ ?_⟩
                   (have hy1 := hx.2.1; have hy2 := hx.2.2.1; have hy3 := hx.2.2.2.1; have hy4 := hx.2.2.2.2.1; have hy5 := hx.2.2.2.2.2; go_simp; first | done | with_reducible rfl | (go_at_call 52; with_reducible exact HM1.out x hx) | (go_at_call 53; with_reducible exact HM2.out x hx) | (go_at_call 54; with_reducible exact HM3.out x hx) | (go_at_call 55; with_reducible exact HM4.out x hx) | (go_at_call 56; with_reducible exact HM5.out x hx) )
                   clear hK K)
              try simp only [Act.put, List.setIfInBounds_toArray, List.set_cons_zero, List.set_cons_succ]
            with_reducible refine wpQuiet_nil ?_
            intro wq hq
            have HQ := Lib.hid hq.1
            clear hq
            go_wp2_with fail
            go_meet
            exact ⟨rfl, HQ.out⟩
          case rest =>
          obtain ⟨rfl, hb⟩ := hcut
          have HPZ := Lib.hid (HX7.out.on hb).p
          clear hb HSW HM1 HM2 HM3 HM4 HM5 HS0
          go_wp2_with fail
          go_roundw
          case rel => exact ⟨i + 1, by simp, by have := HGO.out; omega, S, _, _, _, _, _, _, HPZ.out, HLS.out, (by have := HBI.out; have := HBS.out; show S.bi ≤ ((i + 1 : Nat) : Int) * 30; omega)⟩
          case measure => have := HGO.out; simp [intOf]; omega
        have k0 : (kd == 0) = false := by rw [beq_eq_false_iff_ne]; exact h0
        clear h0
        by_cases h1 : kd = 1
        · have k1 : (kd == 1) = true := by rw [h1]; rfl
          clear h1
          cases hno : s.no with
          | none =>
            have HC := Lib.hid (fun v h => pr_apply_none s pn pa q A v h hno)
            have HR := Lib.hid (fun v (h : RP v B s mo so km ks z1 z2 z3 z4) => rp_apply_none h q hno)
            clear hno
            go_upto_region 21 with fail
            go_cut [96] (fun s96 wx => s96 = .bool false ∧ PX w wx D [.int .i64 kd, .int .i64 k, .int .i64 x, .int .i64 y, .int .i64 q] A s pn pa B s mo so km ks z1 z2 z3 z4)
            case first =>
              have HS0 := Lib.hid (show True ∧ W1.drew.cell? ⟨D, 4, none⟩ = some (.int .i64 q) from ⟨trivial, (HX1.out.on (Below.refl _ _).drew).d.cellAt (i := 4) (by simp)⟩)
              refine wp_region_held_drew (S := fun vv => True ∧ vv.cell? ⟨D, 4, none⟩ = some (.int .i64 q)) (by kernel_rfl) HS0.out (fun hHeld => ?_)
              refine wpAnyH_take (i := 0) (oi := _) (v := ?_) rfl (by kernel_rfl) (by kernel_rfl) (by kernel_rfl) (fun _ _ _ h => h) (Or.inl ⟨by rfl, ?_⟩) (by assumption) ?_
              rotate_left
              · intro x hSx
                try dsimp only at hSx
                obtain ⟨_, hSx0⟩ := hSx
                go_simp
                first | done | with_reducible rfl
              try simp only [Act.put]
              refine wpAnyH_take (i := 1) (oi := _) (v := ?_) rfl (by kernel_rfl) (by kernel_rfl) (by kernel_rfl) (fun _ _ _ h => h) (Or.inl ⟨by rfl, ?_⟩) (by assumption) ?_
              rotate_left
              · intro x hSx
                try dsimp only at hSx
                obtain ⟨_, hSx0⟩ := hSx
                go_simp
                first | done | with_reducible rfl
              try simp only [Act.put]
              refine wpAnyH_take (i := 2) (oi := _) (v := ?_) rfl (by kernel_rfl) (by kernel_rfl) (by kernel_rfl) (fun _ _ _ h => h) (Or.inl ⟨by rfl, ?_⟩) (by assumption) ?_
              rotate_left
              · intro x hSx
                try dsimp only at hSx
                obtain ⟨_, hSx0⟩ := hSx
                go_simp
                first | done | with_reducible rfl
              try simp only [Act.put]
              refine wpAnyH_take (i := 4) (oi := _) (v := ?_) rfl (by kernel_rfl) (by kernel_rfl) (by kernel_rfl) (fun _ _ _ h => h) (Or.inl ⟨by rfl, ?_⟩) (by assumption) ?_
              rotate_left
              · intro x hSx
                try dsimp only at hSx
                obtain ⟨_, hSx0⟩ := hSx
                go_simp
                first | done | with_reducible rfl
              try simp only [Act.put]
              refine wpAnyH_take (i := 5) (oi := _) (v := ?_) rfl (by kernel_rfl) (by kernel_rfl) (by kernel_rfl) (fun _ _ _ h => h) (Or.inl ⟨by rfl, ?_⟩) (by assumption) ?_
              rotate_left
              · intro x hSx
                try dsimp only at hSx
                obtain ⟨_, hSx0⟩ := hSx
                go_simp
                first | done | with_reducible rfl
              try simp only [Act.put]
              refine wpAnyH_take (i := 6) (oi := _) (v := ?_) rfl (by kernel_rfl) (by kernel_rfl) (by kernel_rfl) (fun _ _ _ h => h) (Or.inl ⟨by rfl, ?_⟩) (by assumption) ?_
              rotate_left
              · intro x hSx
                try dsimp only at hSx
                obtain ⟨_, hSx0⟩ := hSx
                go_simp
                first | done | with_reducible rfl
              try simp only [Act.put]
              refine wpAnyH_ready (rs := [3]) (by kernel_rfl) (by simp) ?_
              refine AllReadyH.cons (o := _) rfl (fun K hK => ?_) AllReadyH.nil
              go_simp
              refine (HC.out _ (HX1.out.on (Below.refl _ _).drew).p.a).mono ?_
              rintro e5 w5 ⟨rfl, hw5⟩
              have HX5 := Lib.hid (show PX w w5 D [.int .i64 kd, .int .i64 k, .int .i64 x, .int .i64 y, .int .i64 q] A s pn pa B s mo so km ks z1 z2 z3 z4 by rw [← hw5]; exact (HX1.out.on (Below.refl _ _).drew))
              have hs3 : True ∧ w5.cell? ⟨D, 4, none⟩ = some (.int .i64 q) := ⟨trivial, HX5.out.d.cellAt (i := 4) (by simp)⟩
              go_wp2_with fail
              refine hK.out _ _ hs3 (fun hHeld => ?_)
              clear hK K
              try simp only [Act.put]
              refine wpAnyH_ready (rs := [7]) (by kernel_rfl) (by simp) ?_
              refine AllReadyH.cons (o := _) rfl (fun K hK => ?_) AllReadyH.nil
              go_simp
              refine (HR.out _ HX5.out.p.r).mono ?_
              rintro e6 w6 ⟨rfl, hw6⟩
              have HX6 := Lib.hid (show PX w w6 D [.int .i64 kd, .int .i64 k, .int .i64 x, .int .i64 y, .int .i64 q] A s pn pa B s mo so km ks z1 z2 z3 z4 by rw [← hw6]; exact HX5.out)
              have hs7 : True ∧ w6.cell? ⟨D, 4, none⟩ = some (.int .i64 q) := ⟨trivial, HX6.out.d.cellAt (i := 4) (by simp)⟩
              go_wp2_with fail
              refine hK.out _ _ hs7 (fun hHeld => ?_)
              clear hK K
              try simp only [Act.put]
              refine wpAnyH_class (C := fun x => x = w6) 8 _ rfl (by kernel_rfl) (by rfl) (by kernel_rfl) (fun x hx => by rw [hx]; exact hs7) rfl ?_
              simp only [List.drop_succ_cons, List.drop_zero]
              repeat
                with_reducible refine wpQuiet_step (fun K hK => ?_)
                first
                  | (refine quiet_skip (by rfl) ?_; (with_reducible refine hK _ ?_); clear hK K)
                  | (refine quiet_want (by rfl) ?_
                     apply Exists.intro
                     refine ⟨fun x hx => ?_, hK _ ?_⟩
                     (obtain rfl := id hx; go_simp; first | done | rfl | (fail))
                     clear hK K)
                try simp only [Act.put]
              with_reducible refine wpQuiet_nil ?_
              intro wq hq
              subst hq
              go_wp2_with fail
              go_meet
              exact ⟨rfl, HX6.out⟩
            case rest =>
            obtain ⟨rfl, h7⟩ := hcut
            obtain ⟨w7, hw7⟩ : ∃ w7, w7 = wc := ⟨_, rfl⟩
            rw [← hw7] at h7 ⊢
            have HX7 := Lib.hid h7
            clear h7 hw7 HC HR HX1 d0 d1 d2 d3 d4
            have HSW := Lib.hid (show ∀ x, Below w7.heap.size w7 x → Below w7.heap.size w7 x ∧ x.cell? ⟨B, 5, none⟩ = some (.pointer (some ⟨km, 0, none⟩)) ∧ x.cell? ⟨km, 3, none⟩ = some (.int .i64 s.t) ∧ x.cell? ⟨B, 6, none⟩ = some (.pointer (some ⟨ks, 0, none⟩)) ∧ x.cell? ⟨ks, 3, none⟩ = some (.int .i64 s.t2) ∧ x.cell? ⟨B, 14, none⟩ = some (.bool s.se) from fun x hx => ⟨hx, (HX7.out.on hx).p.r.blk.cellAt (i := 5) (by simp), (HX7.out.on hx).p.r.hkm.blk.cellAt (i := 3) (by simp), (HX7.out.on hx).p.r.blk.cellAt (i := 6) (by simp), (HX7.out.on hx).p.r.hks.blk.cellAt (i := 3) (by simp), (HX7.out.on hx).p.r.blk.cellAt (i := 14) (by simp)⟩)
            have HM1 := Lib.hid (show ∀ x, (Below w7.heap.size w7 x ∧ x.cell? ⟨B, 5, none⟩ = some (.pointer (some ⟨km, 0, none⟩)) ∧ x.cell? ⟨km, 3, none⟩ = some (.int .i64 s.t) ∧ x.cell? ⟨B, 6, none⟩ = some (.pointer (some ⟨ks, 0, none⟩)) ∧ x.cell? ⟨ks, 3, none⟩ = some (.int .i64 s.t2) ∧ x.cell? ⟨B, 14, none⟩ = some (.bool s.se)) → Calls Try.prog 52 #[.pointer (some ⟨A, 0, none⟩)] x fun y w' => y = .returned (.int .i64 s.t) ∧ (Below w7.heap.size w7 w' ∧ w'.cell? ⟨B, 5, none⟩ = some (.pointer (some ⟨km, 0, none⟩)) ∧ w'.cell? ⟨km, 3, none⟩ = some (.int .i64 s.t) ∧ w'.cell? ⟨B, 6, none⟩ = some (.pointer (some ⟨ks, 0, none⟩)) ∧ w'.cell? ⟨ks, 3, none⟩ = some (.int .i64 s.t2) ∧ w'.cell? ⟨B, 14, none⟩ = some (.bool s.se)) from fun x hx => (pr_master s _ _ A x (HX7.out.on hx.1).p.a).mono fun y w' ⟨h1, h2⟩ => ⟨h1, h2 ▸ hx⟩)
            have HM2 := Lib.hid (show ∀ x, (Below w7.heap.size w7 x ∧ x.cell? ⟨B, 5, none⟩ = some (.pointer (some ⟨km, 0, none⟩)) ∧ x.cell? ⟨km, 3, none⟩ = some (.int .i64 s.t) ∧ x.cell? ⟨B, 6, none⟩ = some (.pointer (some ⟨ks, 0, none⟩)) ∧ x.cell? ⟨ks, 3, none⟩ = some (.int .i64 s.t2) ∧ x.cell? ⟨B, 14, none⟩ = some (.bool s.se)) → Calls Try.prog 53 #[.pointer (some ⟨A, 0, none⟩)] x fun y w' => y = .returned (.int .i64 s.t2) ∧ (Below w7.heap.size w7 w' ∧ w'.cell? ⟨B, 5, none⟩ = some (.pointer (some ⟨km, 0, none⟩)) ∧ w'.cell? ⟨km, 3, none⟩ = some (.int .i64 s.t) ∧ w'.cell? ⟨B, 6, none⟩ = some (.pointer (some ⟨ks, 0, none⟩)) ∧ w'.cell? ⟨ks, 3, none⟩ = some (.int .i64 s.t2) ∧ w'.cell? ⟨B, 14, none⟩ = some (.bool s.se)) from fun x hx => (pr_slave s _ _ A x (HX7.out.on hx.1).p.a).mono fun y w' ⟨h1, h2⟩ => ⟨h1, h2 ▸ hx⟩)
            have HM3 := Lib.hid (show ∀ x, (Below w7.heap.size w7 x ∧ x.cell? ⟨B, 5, none⟩ = some (.pointer (some ⟨km, 0, none⟩)) ∧ x.cell? ⟨km, 3, none⟩ = some (.int .i64 s.t) ∧ x.cell? ⟨B, 6, none⟩ = some (.pointer (some ⟨ks, 0, none⟩)) ∧ x.cell? ⟨ks, 3, none⟩ = some (.int .i64 s.t2) ∧ x.cell? ⟨B, 14, none⟩ = some (.bool s.se)) → Calls Try.prog 54 #[.pointer (some ⟨A, 0, none⟩)] x fun y w' => y = .returned (.bool s.se) ∧ (Below w7.heap.size w7 w' ∧ w'.cell? ⟨B, 5, none⟩ = some (.pointer (some ⟨km, 0, none⟩)) ∧ w'.cell? ⟨km, 3, none⟩ = some (.int .i64 s.t) ∧ w'.cell? ⟨B, 6, none⟩ = some (.pointer (some ⟨ks, 0, none⟩)) ∧ w'.cell? ⟨ks, 3, none⟩ = some (.int .i64 s.t2) ∧ w'.cell? ⟨B, 14, none⟩ = some (.bool s.se)) from fun x hx => (pr_settled s _ _ A x (HX7.out.on hx.1).p.a).mono fun y w' ⟨h1, h2⟩ => ⟨h1, h2 ▸ hx⟩)
            have HM4 := Lib.hid (show ∀ x, (Below w7.heap.size w7 x ∧ x.cell? ⟨B, 5, none⟩ = some (.pointer (some ⟨km, 0, none⟩)) ∧ x.cell? ⟨km, 3, none⟩ = some (.int .i64 s.t) ∧ x.cell? ⟨B, 6, none⟩ = some (.pointer (some ⟨ks, 0, none⟩)) ∧ x.cell? ⟨ks, 3, none⟩ = some (.int .i64 s.t2) ∧ x.cell? ⟨B, 14, none⟩ = some (.bool s.se)) → Calls Try.prog 55 #[.pointer (some ⟨A, 0, none⟩)] x fun y w' => y = .returned (.int .i64 s.gap) ∧ (Below w7.heap.size w7 w' ∧ w'.cell? ⟨B, 5, none⟩ = some (.pointer (some ⟨km, 0, none⟩)) ∧ w'.cell? ⟨km, 3, none⟩ = some (.int .i64 s.t) ∧ w'.cell? ⟨B, 6, none⟩ = some (.pointer (some ⟨ks, 0, none⟩)) ∧ w'.cell? ⟨ks, 3, none⟩ = some (.int .i64 s.t2) ∧ w'.cell? ⟨B, 14, none⟩ = some (.bool s.se)) from fun x hx => (pr_gap s _ _ A x (HX7.out.on hx.1).p.a (HL0.out.gapR (by have := HBI.out; have := HGO.out; omega))).mono fun y w' ⟨h1, h2⟩ => ⟨h1, HSW.out _ (below_transG hx.1 h2)⟩)
            have HM5 := Lib.hid (show ∀ x, (Below w7.heap.size w7 x ∧ x.cell? ⟨B, 5, none⟩ = some (.pointer (some ⟨km, 0, none⟩)) ∧ x.cell? ⟨km, 3, none⟩ = some (.int .i64 s.t) ∧ x.cell? ⟨B, 6, none⟩ = some (.pointer (some ⟨ks, 0, none⟩)) ∧ x.cell? ⟨ks, 3, none⟩ = some (.int .i64 s.t2) ∧ x.cell? ⟨B, 14, none⟩ = some (.bool s.se)) → Calls Try.prog 56 #[.pointer (some ⟨B, 0, none⟩)] x fun y w' => y = .returned (.int .i64 s.gap) ∧ (Below w7.heap.size w7 w' ∧ w'.cell? ⟨B, 5, none⟩ = some (.pointer (some ⟨km, 0, none⟩)) ∧ w'.cell? ⟨km, 3, none⟩ = some (.int .i64 s.t) ∧ w'.cell? ⟨B, 6, none⟩ = some (.pointer (some ⟨ks, 0, none⟩)) ∧ w'.cell? ⟨ks, 3, none⟩ = some (.int .i64 s.t2) ∧ w'.cell? ⟨B, 14, none⟩ = some (.bool s.se)) from fun x hx => (rp_gap (HX7.out.on hx.1).p.r (HL0.out.gapR (by have := HBI.out; have := HGO.out; omega))).mono fun y w' ⟨h1, h2⟩ => ⟨h1, HSW.out _ (below_transG hx.1 h2)⟩)
            obtain ⟨GP, hGP⟩ : ∃ z, z = s.gap := ⟨_, rfl⟩
            rw [← hGP] at HM4 HM5
            clear hGP
            obtain ⟨T1, hT1⟩ : ∃ z, z = s.t := ⟨_, rfl⟩
            obtain ⟨T2, hT2⟩ : ∃ z, z = s.t2 := ⟨_, rfl⟩
            obtain ⟨SE, hSE⟩ : ∃ z, z = s.se := ⟨_, rfl⟩
            rw [← hT1, ← hT2, ← hSE] at HSW HM1 HM2 HM3 HM4 HM5
            clear hT1 hT2 hSE
            have tq1 : (T1 == T1) = true := by simp
            have tq2 : (T2 == T2) = true := by simp
            have tq3 : (GP == GP) = true := by simp
            have tq4 : (SE == SE) = true := by simp
            have HS0 := Lib.hid (HSW.out _ (Below.refl _ _).drew)
            go_upto_region 23 with fail
            go_cut [134] (fun s134 wx => s134 = .bool false ∧ Below w7.heap.size w7 wx)
            case first =>
              refine wp_region_class (C := fun x => Below w7.heap.size w7 x ∧ x.cell? ⟨B, 5, none⟩ = some (.pointer (some ⟨km, 0, none⟩)) ∧ x.cell? ⟨km, 3, none⟩ = some (.int .i64 T1) ∧ x.cell? ⟨B, 6, none⟩ = some (.pointer (some ⟨ks, 0, none⟩)) ∧ x.cell? ⟨ks, 3, none⟩ = some (.int .i64 T2) ∧ x.cell? ⟨B, 14, none⟩ = some (.bool SE)) (by kernel_rfl) (by kernel_rfl) (HS0.out) ?_
              repeat
                with_reducible refine wpQuiet_step (fun K hK => ?_)
                first
                  | (refine quiet_skip (by rfl) ?_; (with_reducible refine hK _ ?_); clear hK K)
                  | (refine quiet_want (by rfl) ?_
                     apply Exists.intro
                     refine ⟨fun x hx => ?_, hK _ ?_⟩
                     (have hy1 := hx.2.1; have hy2 := hx.2.2.1; have hy3 := hx.2.2.2.1; have hy4 := hx.2.2.2.2.1; have hy5 := hx.2.2.2.2.2; go_simp; first | done | with_reducible rfl | (go_at_call 52; with_reducible exact HM1.out x hx) | (go_at_call 53; with_reducible exact HM2.out x hx) | (go_at_call 54; with_reducible exact HM3.out x hx) | (go_at_call 55; with_reducible exact HM4.out x hx) | (go_at_call 56; with_reducible exact HM5.out x hx) )
                     clear hK K)
                try simp only [Act.put, List.setIfInBounds_toArray, List.set_cons_zero, List.set_cons_succ]
              with_reducible refine wpQuiet_nil ?_
              intro wq hq
              have HQ := Lib.hid hq.1
              clear hq
              go_wp2_with fail
              go_meet
              exact ⟨rfl, HQ.out⟩
            case rest =>
            obtain ⟨rfl, hb⟩ := hcut
            have HPZ := Lib.hid (HX7.out.on hb).p
            clear hb HSW HM1 HM2 HM3 HM4 HM5 HS0
            go_wp2_with fail
            go_roundw
            case rel => exact ⟨i + 1, by simp, by have := HGO.out; omega, s, _, _, _, _, _, _, HPZ.out, HL0.out, (by have := HBI.out; show s.bi ≤ ((i + 1 : Nat) : Int) * 30; omega)⟩
            case measure => have := HGO.out; simp [intOf]; omega
          | some xb =>
            obtain ⟨nx, nb⟩ := xb
            have hxb := HL0.out.noX (by have := HBI.out; have := HGO.out; omega) hno
            by_cases hr : 1048576 - s.tu ≤ q ∧ q ≤ 1048576 + s.tu
            · have hgo := HL0.out.applied (by have := HBI.out; have := HGO.out; omega) q nx nb hno hr
              have HC := Lib.hid (fun v h => ap_yes s pn pa q nx nb hxb A v h hno hr hgo.1)
              have HR := Lib.hid (fun v (h : RP v B s mo so km ks z1 z2 z3 z4) => rp_apply_yes h q nx nb HL0.out.tu (HL0.out.b64 (by have := HBI.out; have := HGO.out; omega)).2 hno hr hgo.1)
              have HLS := Lib.hid hgo.2
              clear hgo
              obtain ⟨S, hS⟩ : ∃ S : PD, S = ({ s.went q nx with ap := some (nx, nb) } : PD) := ⟨_, rfl⟩
              rw [← hS] at HC HR HLS
              have HBS := Lib.hid (show S.bi = s.bi by rw [hS]; rfl)
              clear hS
              clear hno hxb hr
              go_upto_region 21 with fail
              go_cut [96] (fun s96 wx => s96 = .bool false ∧ PX w wx D [.int .i64 kd, .int .i64 k, .int .i64 x, .int .i64 y, .int .i64 q] A S (.pointer none) pn B S mo so km ks z1 z2 z3 nb)
              case first =>
                have HS0 := Lib.hid (show True ∧ W1.drew.cell? ⟨D, 4, none⟩ = some (.int .i64 q) from ⟨trivial, (HX1.out.on (Below.refl _ _).drew).d.cellAt (i := 4) (by simp)⟩)
                refine wp_region_held_drew (S := fun vv => True ∧ vv.cell? ⟨D, 4, none⟩ = some (.int .i64 q)) (by kernel_rfl) HS0.out (fun hHeld => ?_)
                refine wpAnyH_take (i := 0) (oi := _) (v := ?_) rfl (by kernel_rfl) (by kernel_rfl) (by kernel_rfl) (fun _ _ _ h => h) (Or.inl ⟨by rfl, ?_⟩) (by assumption) ?_
                rotate_left
                · intro x hSx
                  try dsimp only at hSx
                  obtain ⟨_, hSx0⟩ := hSx
                  go_simp
                  first | done | with_reducible rfl
                try simp only [Act.put]
                refine wpAnyH_take (i := 1) (oi := _) (v := ?_) rfl (by kernel_rfl) (by kernel_rfl) (by kernel_rfl) (fun _ _ _ h => h) (Or.inl ⟨by rfl, ?_⟩) (by assumption) ?_
                rotate_left
                · intro x hSx
                  try dsimp only at hSx
                  obtain ⟨_, hSx0⟩ := hSx
                  go_simp
                  first | done | with_reducible rfl
                try simp only [Act.put]
                refine wpAnyH_take (i := 2) (oi := _) (v := ?_) rfl (by kernel_rfl) (by kernel_rfl) (by kernel_rfl) (fun _ _ _ h => h) (Or.inl ⟨by rfl, ?_⟩) (by assumption) ?_
                rotate_left
                · intro x hSx
                  try dsimp only at hSx
                  obtain ⟨_, hSx0⟩ := hSx
                  go_simp
                  first | done | with_reducible rfl
                try simp only [Act.put]
                refine wpAnyH_take (i := 4) (oi := _) (v := ?_) rfl (by kernel_rfl) (by kernel_rfl) (by kernel_rfl) (fun _ _ _ h => h) (Or.inl ⟨by rfl, ?_⟩) (by assumption) ?_
                rotate_left
                · intro x hSx
                  try dsimp only at hSx
                  obtain ⟨_, hSx0⟩ := hSx
                  go_simp
                  first | done | with_reducible rfl
                try simp only [Act.put]
                refine wpAnyH_take (i := 5) (oi := _) (v := ?_) rfl (by kernel_rfl) (by kernel_rfl) (by kernel_rfl) (fun _ _ _ h => h) (Or.inl ⟨by rfl, ?_⟩) (by assumption) ?_
                rotate_left
                · intro x hSx
                  try dsimp only at hSx
                  obtain ⟨_, hSx0⟩ := hSx
                  go_simp
                  first | done | with_reducible rfl
                try simp only [Act.put]
                refine wpAnyH_take (i := 6) (oi := _) (v := ?_) rfl (by kernel_rfl) (by kernel_rfl) (by kernel_rfl) (fun _ _ _ h => h) (Or.inl ⟨by rfl, ?_⟩) (by assumption) ?_
                rotate_left
                · intro x hSx
                  try dsimp only at hSx
                  obtain ⟨_, hSx0⟩ := hSx
                  go_simp
                  first | done | with_reducible rfl
                try simp only [Act.put]
                refine wpAnyH_ready (rs := [3]) (by kernel_rfl) (by simp) ?_
                refine AllReadyH.cons (o := _) rfl (fun K hK => ?_) AllReadyH.nil
                go_simp
                refine (HC.out _ (HX1.out.on (Below.refl _ _).drew).p.a).mono ?_
                rintro e5 w5 ⟨rfl, hP, hkp⟩
                have HX5 := Lib.hid ((HX1.out.on (Below.refl _ _).drew).code hP hkp)
                have hs3 : True ∧ w5.cell? ⟨D, 4, none⟩ = some (.int .i64 q) := ⟨trivial, HX5.out.d.cellAt (i := 4) (by simp)⟩
                go_wp2_with fail
                refine hK.out _ _ hs3 (fun hHeld => ?_)
                clear hK K
                try simp only [Act.put]
                refine wpAnyH_ready (rs := [7]) (by kernel_rfl) (by simp) ?_
                refine AllReadyH.cons (o := _) rfl (fun K hK => ?_) AllReadyH.nil
                go_simp
                refine (HR.out _ HX5.out.p.r).mono ?_
                rintro e6 w6 ⟨rfl, hRR, hF⟩
                have HX6 := Lib.hid (HX5.out.ref hRR hF)
                have hs7 : True ∧ w6.cell? ⟨D, 4, none⟩ = some (.int .i64 q) := ⟨trivial, HX6.out.d.cellAt (i := 4) (by simp)⟩
                go_wp2_with fail
                refine hK.out _ _ hs7 (fun hHeld => ?_)
                clear hK K
                try simp only [Act.put]
                refine wpAnyH_class (C := fun x => x = w6) 8 _ rfl (by kernel_rfl) (by rfl) (by kernel_rfl) (fun x hx => by rw [hx]; exact hs7) rfl ?_
                simp only [List.drop_succ_cons, List.drop_zero]
                repeat
                  with_reducible refine wpQuiet_step (fun K hK => ?_)
                  first
                    | (refine quiet_skip (by rfl) ?_; (with_reducible refine hK _ ?_); clear hK K)
                    | (refine quiet_want (by rfl) ?_
                       apply Exists.intro
                       refine ⟨fun x hx => ?_, hK _ ?_⟩
                       (obtain rfl := id hx; go_simp; first | done | rfl | (fail))
                       clear hK K)
                  try simp only [Act.put]
                with_reducible refine wpQuiet_nil ?_
                intro wq hq
                subst hq
                go_wp2_with fail
                go_meet
                exact ⟨rfl, HX6.out⟩
              case rest =>
              obtain ⟨rfl, h7⟩ := hcut
              obtain ⟨w7, hw7⟩ : ∃ w7, w7 = wc := ⟨_, rfl⟩
              rw [← hw7] at h7 ⊢
              have HX7 := Lib.hid h7
              clear h7 hw7 HC HR HX1 d0 d1 d2 d3 d4
              have HSW := Lib.hid (show ∀ x, Below w7.heap.size w7 x → Below w7.heap.size w7 x ∧ x.cell? ⟨B, 5, none⟩ = some (.pointer (some ⟨km, 0, none⟩)) ∧ x.cell? ⟨km, 3, none⟩ = some (.int .i64 S.t) ∧ x.cell? ⟨B, 6, none⟩ = some (.pointer (some ⟨ks, 0, none⟩)) ∧ x.cell? ⟨ks, 3, none⟩ = some (.int .i64 S.t2) ∧ x.cell? ⟨B, 14, none⟩ = some (.bool S.se) from fun x hx => ⟨hx, (HX7.out.on hx).p.r.blk.cellAt (i := 5) (by simp), (HX7.out.on hx).p.r.hkm.blk.cellAt (i := 3) (by simp), (HX7.out.on hx).p.r.blk.cellAt (i := 6) (by simp), (HX7.out.on hx).p.r.hks.blk.cellAt (i := 3) (by simp), (HX7.out.on hx).p.r.blk.cellAt (i := 14) (by simp)⟩)
              have HM1 := Lib.hid (show ∀ x, (Below w7.heap.size w7 x ∧ x.cell? ⟨B, 5, none⟩ = some (.pointer (some ⟨km, 0, none⟩)) ∧ x.cell? ⟨km, 3, none⟩ = some (.int .i64 S.t) ∧ x.cell? ⟨B, 6, none⟩ = some (.pointer (some ⟨ks, 0, none⟩)) ∧ x.cell? ⟨ks, 3, none⟩ = some (.int .i64 S.t2) ∧ x.cell? ⟨B, 14, none⟩ = some (.bool S.se)) → Calls Try.prog 52 #[.pointer (some ⟨A, 0, none⟩)] x fun y w' => y = .returned (.int .i64 S.t) ∧ (Below w7.heap.size w7 w' ∧ w'.cell? ⟨B, 5, none⟩ = some (.pointer (some ⟨km, 0, none⟩)) ∧ w'.cell? ⟨km, 3, none⟩ = some (.int .i64 S.t) ∧ w'.cell? ⟨B, 6, none⟩ = some (.pointer (some ⟨ks, 0, none⟩)) ∧ w'.cell? ⟨ks, 3, none⟩ = some (.int .i64 S.t2) ∧ w'.cell? ⟨B, 14, none⟩ = some (.bool S.se)) from fun x hx => (pr_master S _ _ A x (HX7.out.on hx.1).p.a).mono fun y w' ⟨h1, h2⟩ => ⟨h1, h2 ▸ hx⟩)
              have HM2 := Lib.hid (show ∀ x, (Below w7.heap.size w7 x ∧ x.cell? ⟨B, 5, none⟩ = some (.pointer (some ⟨km, 0, none⟩)) ∧ x.cell? ⟨km, 3, none⟩ = some (.int .i64 S.t) ∧ x.cell? ⟨B, 6, none⟩ = some (.pointer (some ⟨ks, 0, none⟩)) ∧ x.cell? ⟨ks, 3, none⟩ = some (.int .i64 S.t2) ∧ x.cell? ⟨B, 14, none⟩ = some (.bool S.se)) → Calls Try.prog 53 #[.pointer (some ⟨A, 0, none⟩)] x fun y w' => y = .returned (.int .i64 S.t2) ∧ (Below w7.heap.size w7 w' ∧ w'.cell? ⟨B, 5, none⟩ = some (.pointer (some ⟨km, 0, none⟩)) ∧ w'.cell? ⟨km, 3, none⟩ = some (.int .i64 S.t) ∧ w'.cell? ⟨B, 6, none⟩ = some (.pointer (some ⟨ks, 0, none⟩)) ∧ w'.cell? ⟨ks, 3, none⟩ = some (.int .i64 S.t2) ∧ w'.cell? ⟨B, 14, none⟩ = some (.bool S.se)) from fun x hx => (pr_slave S _ _ A x (HX7.out.on hx.1).p.a).mono fun y w' ⟨h1, h2⟩ => ⟨h1, h2 ▸ hx⟩)
              have HM3 := Lib.hid (show ∀ x, (Below w7.heap.size w7 x ∧ x.cell? ⟨B, 5, none⟩ = some (.pointer (some ⟨km, 0, none⟩)) ∧ x.cell? ⟨km, 3, none⟩ = some (.int .i64 S.t) ∧ x.cell? ⟨B, 6, none⟩ = some (.pointer (some ⟨ks, 0, none⟩)) ∧ x.cell? ⟨ks, 3, none⟩ = some (.int .i64 S.t2) ∧ x.cell? ⟨B, 14, none⟩ = some (.bool S.se)) → Calls Try.prog 54 #[.pointer (some ⟨A, 0, none⟩)] x fun y w' => y = .returned (.bool S.se) ∧ (Below w7.heap.size w7 w' ∧ w'.cell? ⟨B, 5, none⟩ = some (.pointer (some ⟨km, 0, none⟩)) ∧ w'.cell? ⟨km, 3, none⟩ = some (.int .i64 S.t) ∧ w'.cell? ⟨B, 6, none⟩ = some (.pointer (some ⟨ks, 0, none⟩)) ∧ w'.cell? ⟨ks, 3, none⟩ = some (.int .i64 S.t2) ∧ w'.cell? ⟨B, 14, none⟩ = some (.bool S.se)) from fun x hx => (pr_settled S _ _ A x (HX7.out.on hx.1).p.a).mono fun y w' ⟨h1, h2⟩ => ⟨h1, h2 ▸ hx⟩)
              have HM4 := Lib.hid (show ∀ x, (Below w7.heap.size w7 x ∧ x.cell? ⟨B, 5, none⟩ = some (.pointer (some ⟨km, 0, none⟩)) ∧ x.cell? ⟨km, 3, none⟩ = some (.int .i64 S.t) ∧ x.cell? ⟨B, 6, none⟩ = some (.pointer (some ⟨ks, 0, none⟩)) ∧ x.cell? ⟨ks, 3, none⟩ = some (.int .i64 S.t2) ∧ x.cell? ⟨B, 14, none⟩ = some (.bool S.se)) → Calls Try.prog 55 #[.pointer (some ⟨A, 0, none⟩)] x fun y w' => y = .returned (.int .i64 S.gap) ∧ (Below w7.heap.size w7 w' ∧ w'.cell? ⟨B, 5, none⟩ = some (.pointer (some ⟨km, 0, none⟩)) ∧ w'.cell? ⟨km, 3, none⟩ = some (.int .i64 S.t) ∧ w'.cell? ⟨B, 6, none⟩ = some (.pointer (some ⟨ks, 0, none⟩)) ∧ w'.cell? ⟨ks, 3, none⟩ = some (.int .i64 S.t2) ∧ w'.cell? ⟨B, 14, none⟩ = some (.bool S.se)) from fun x hx => (pr_gap S _ _ A x (HX7.out.on hx.1).p.a (HLS.out.gapR (by have := HBI.out; have := HGO.out; have := HBS.out; omega))).mono fun y w' ⟨h1, h2⟩ => ⟨h1, HSW.out _ (below_transG hx.1 h2)⟩)
              have HM5 := Lib.hid (show ∀ x, (Below w7.heap.size w7 x ∧ x.cell? ⟨B, 5, none⟩ = some (.pointer (some ⟨km, 0, none⟩)) ∧ x.cell? ⟨km, 3, none⟩ = some (.int .i64 S.t) ∧ x.cell? ⟨B, 6, none⟩ = some (.pointer (some ⟨ks, 0, none⟩)) ∧ x.cell? ⟨ks, 3, none⟩ = some (.int .i64 S.t2) ∧ x.cell? ⟨B, 14, none⟩ = some (.bool S.se)) → Calls Try.prog 56 #[.pointer (some ⟨B, 0, none⟩)] x fun y w' => y = .returned (.int .i64 S.gap) ∧ (Below w7.heap.size w7 w' ∧ w'.cell? ⟨B, 5, none⟩ = some (.pointer (some ⟨km, 0, none⟩)) ∧ w'.cell? ⟨km, 3, none⟩ = some (.int .i64 S.t) ∧ w'.cell? ⟨B, 6, none⟩ = some (.pointer (some ⟨ks, 0, none⟩)) ∧ w'.cell? ⟨ks, 3, none⟩ = some (.int .i64 S.t2) ∧ w'.cell? ⟨B, 14, none⟩ = some (.bool S.se)) from fun x hx => (rp_gap (HX7.out.on hx.1).p.r (HLS.out.gapR (by have := HBI.out; have := HGO.out; have := HBS.out; omega))).mono fun y w' ⟨h1, h2⟩ => ⟨h1, HSW.out _ (below_transG hx.1 h2)⟩)
              obtain ⟨GP, hGP⟩ : ∃ z, z = S.gap := ⟨_, rfl⟩
              rw [← hGP] at HM4 HM5
              clear hGP
              obtain ⟨T1, hT1⟩ : ∃ z, z = S.t := ⟨_, rfl⟩
              obtain ⟨T2, hT2⟩ : ∃ z, z = S.t2 := ⟨_, rfl⟩
              obtain ⟨SE, hSE⟩ : ∃ z, z = S.se := ⟨_, rfl⟩
              rw [← hT1, ← hT2, ← hSE] at HSW HM1 HM2 HM3 HM4 HM5
              clear hT1 hT2 hSE
              have tq1 : (T1 == T1) = true := by simp
              have tq2 : (T2 == T2) = true := by simp
              have tq3 : (GP == GP) = true := by simp
              have tq4 : (SE == SE) = true := by simp
              have HS0 := Lib.hid (HSW.out _ (Below.refl _ _).drew)
              go_upto_region 23 with fail
              go_cut [134] (fun s134 wx => s134 = .bool false ∧ Below w7.heap.size w7 wx)
              case first =>
                refine wp_region_class (C := fun x => Below w7.heap.size w7 x ∧ x.cell? ⟨B, 5, none⟩ = some (.pointer (some ⟨km, 0, none⟩)) ∧ x.cell? ⟨km, 3, none⟩ = some (.int .i64 T1) ∧ x.cell? ⟨B, 6, none⟩ = some (.pointer (some ⟨ks, 0, none⟩)) ∧ x.cell? ⟨ks, 3, none⟩ = some (.int .i64 T2) ∧ x.cell? ⟨B, 14, none⟩ = some (.bool SE)) (by kernel_rfl) (by kernel_rfl) (HS0.out) ?_
                repeat
                  with_reducible refine wpQuiet_step (fun K hK => ?_)
                  first
                    | (refine quiet_skip (by rfl) ?_; (with_reducible refine hK _ ?_); clear hK K)
                    | (refine quiet_want (by rfl) ?_
                       apply Exists.intro
                       refine ⟨fun x hx => ?_, hK _ ?_⟩
                       (have hy1 := hx.2.1; have hy2 := hx.2.2.1; have hy3 := hx.2.2.2.1; have hy4 := hx.2.2.2.2.1; have hy5 := hx.2.2.2.2.2; go_simp; first | done | with_reducible rfl | (go_at_call 52; with_reducible exact HM1.out x hx) | (go_at_call 53; with_reducible exact HM2.out x hx) | (go_at_call 54; with_reducible exact HM3.out x hx) | (go_at_call 55; with_reducible exact HM4.out x hx) | (go_at_call 56; with_reducible exact HM5.out x hx) )
                       clear hK K)
                  try simp only [Act.put, List.setIfInBounds_toArray, List.set_cons_zero, List.set_cons_succ]
                with_reducible refine wpQuiet_nil ?_
                intro wq hq
                have HQ := Lib.hid hq.1
                clear hq
                go_wp2_with fail
                go_meet
                exact ⟨rfl, HQ.out⟩
              case rest =>
              obtain ⟨rfl, hb⟩ := hcut
              have HPZ := Lib.hid (HX7.out.on hb).p
              clear hb HSW HM1 HM2 HM3 HM4 HM5 HS0
              go_wp2_with fail
              go_roundw
              case rel => exact ⟨i + 1, by simp, by have := HGO.out; omega, S, _, _, _, _, _, _, HPZ.out, HLS.out, (by have := HBI.out; have := HBS.out; show S.bi ≤ ((i + 1 : Nat) : Int) * 30; omega)⟩
              case measure => have := HGO.out; simp [intOf]; omega
            · have HC := Lib.hid (fun v h => ap_out s pn pa q nx nb hxb A v h hno hr)
              have HR := Lib.hid (fun v (h : RP v B s mo so km ks z1 z2 z3 z4) => rp_apply_out h q nx nb HL0.out.tu hno hr)
              clear hno hxb hr
              go_upto_region 21 with fail
              go_cut [96] (fun s96 wx => s96 = .bool false ∧ PX w wx D [.int .i64 kd, .int .i64 k, .int .i64 x, .int .i64 y, .int .i64 q] A s pn pa B s mo so km ks z1 z2 z3 z4)
              case first =>
                have HS0 := Lib.hid (show True ∧ W1.drew.cell? ⟨D, 4, none⟩ = some (.int .i64 q) from ⟨trivial, (HX1.out.on (Below.refl _ _).drew).d.cellAt (i := 4) (by simp)⟩)
                refine wp_region_held_drew (S := fun vv => True ∧ vv.cell? ⟨D, 4, none⟩ = some (.int .i64 q)) (by kernel_rfl) HS0.out (fun hHeld => ?_)
                refine wpAnyH_take (i := 0) (oi := _) (v := ?_) rfl (by kernel_rfl) (by kernel_rfl) (by kernel_rfl) (fun _ _ _ h => h) (Or.inl ⟨by rfl, ?_⟩) (by assumption) ?_
                rotate_left
                · intro x hSx
                  try dsimp only at hSx
                  obtain ⟨_, hSx0⟩ := hSx
                  go_simp
                  first | done | with_reducible rfl
                try simp only [Act.put]
                refine wpAnyH_take (i := 1) (oi := _) (v := ?_) rfl (by kernel_rfl) (by kernel_rfl) (by kernel_rfl) (fun _ _ _ h => h) (Or.inl ⟨by rfl, ?_⟩) (by assumption) ?_
                rotate_left
                · intro x hSx
                  try dsimp only at hSx
                  obtain ⟨_, hSx0⟩ := hSx
                  go_simp
                  first | done | with_reducible rfl
                try simp only [Act.put]
                refine wpAnyH_take (i := 2) (oi := _) (v := ?_) rfl (by kernel_rfl) (by kernel_rfl) (by kernel_rfl) (fun _ _ _ h => h) (Or.inl ⟨by rfl, ?_⟩) (by assumption) ?_
                rotate_left
                · intro x hSx
                  try dsimp only at hSx
                  obtain ⟨_, hSx0⟩ := hSx
                  go_simp
                  first | done | with_reducible rfl
                try simp only [Act.put]
                refine wpAnyH_take (i := 4) (oi := _) (v := ?_) rfl (by kernel_rfl) (by kernel_rfl) (by kernel_rfl) (fun _ _ _ h => h) (Or.inl ⟨by rfl, ?_⟩) (by assumption) ?_
                rotate_left
                · intro x hSx
                  try dsimp only at hSx
                  obtain ⟨_, hSx0⟩ := hSx
                  go_simp
                  first | done | with_reducible rfl
                try simp only [Act.put]
                refine wpAnyH_take (i := 5) (oi := _) (v := ?_) rfl (by kernel_rfl) (by kernel_rfl) (by kernel_rfl) (fun _ _ _ h => h) (Or.inl ⟨by rfl, ?_⟩) (by assumption) ?_
                rotate_left
                · intro x hSx
                  try dsimp only at hSx
                  obtain ⟨_, hSx0⟩ := hSx
                  go_simp
                  first | done | with_reducible rfl
                try simp only [Act.put]
                refine wpAnyH_take (i := 6) (oi := _) (v := ?_) rfl (by kernel_rfl) (by kernel_rfl) (by kernel_rfl) (fun _ _ _ h => h) (Or.inl ⟨by rfl, ?_⟩) (by assumption) ?_
                rotate_left
                · intro x hSx
                  try dsimp only at hSx
                  obtain ⟨_, hSx0⟩ := hSx
                  go_simp
                  first | done | with_reducible rfl
                try simp only [Act.put]
                refine wpAnyH_ready (rs := [3]) (by kernel_rfl) (by simp) ?_
                refine AllReadyH.cons (o := _) rfl (fun K hK => ?_) AllReadyH.nil
                go_simp
                refine (HC.out _ (HX1.out.on (Below.refl _ _).drew).p.a).mono ?_
                rintro e5 w5 ⟨rfl, hb⟩
                have HX5 := Lib.hid ((HX1.out.on (Below.refl _ _).drew).on hb)
                have hs3 : True ∧ w5.cell? ⟨D, 4, none⟩ = some (.int .i64 q) := ⟨trivial, HX5.out.d.cellAt (i := 4) (by simp)⟩
                go_wp2_with fail
                refine hK.out _ _ hs3 (fun hHeld => ?_)
                clear hK K
                try simp only [Act.put]
                refine wpAnyH_ready (rs := [7]) (by kernel_rfl) (by simp) ?_
                refine AllReadyH.cons (o := _) rfl (fun K hK => ?_) AllReadyH.nil
                go_simp
                refine (HR.out _ HX5.out.p.r).mono ?_
                rintro e6 w6 ⟨rfl, hw6⟩
                have HX6 := Lib.hid (show PX w w6 D [.int .i64 kd, .int .i64 k, .int .i64 x, .int .i64 y, .int .i64 q] A s pn pa B s mo so km ks z1 z2 z3 z4 by rw [← hw6]; exact HX5.out)
                have hs7 : True ∧ w6.cell? ⟨D, 4, none⟩ = some (.int .i64 q) := ⟨trivial, HX6.out.d.cellAt (i := 4) (by simp)⟩
                go_wp2_with fail
                refine hK.out _ _ hs7 (fun hHeld => ?_)
                clear hK K
                try simp only [Act.put]
                refine wpAnyH_class (C := fun x => x = w6) 8 _ rfl (by kernel_rfl) (by rfl) (by kernel_rfl) (fun x hx => by rw [hx]; exact hs7) rfl ?_
                simp only [List.drop_succ_cons, List.drop_zero]
                repeat
                  with_reducible refine wpQuiet_step (fun K hK => ?_)
                  first
                    | (refine quiet_skip (by rfl) ?_; (with_reducible refine hK _ ?_); clear hK K)
                    | (refine quiet_want (by rfl) ?_
                       apply Exists.intro
                       refine ⟨fun x hx => ?_, hK _ ?_⟩
                       (obtain rfl := id hx; go_simp; first | done | rfl | (fail))
                       clear hK K)
                  try simp only [Act.put]
                with_reducible refine wpQuiet_nil ?_
                intro wq hq
                subst hq
                go_wp2_with fail
                go_meet
                exact ⟨rfl, HX6.out⟩
              case rest =>
              obtain ⟨rfl, h7⟩ := hcut
              obtain ⟨w7, hw7⟩ : ∃ w7, w7 = wc := ⟨_, rfl⟩
              rw [← hw7] at h7 ⊢
              have HX7 := Lib.hid h7
              clear h7 hw7 HC HR HX1 d0 d1 d2 d3 d4
              have HSW := Lib.hid (show ∀ x, Below w7.heap.size w7 x → Below w7.heap.size w7 x ∧ x.cell? ⟨B, 5, none⟩ = some (.pointer (some ⟨km, 0, none⟩)) ∧ x.cell? ⟨km, 3, none⟩ = some (.int .i64 s.t) ∧ x.cell? ⟨B, 6, none⟩ = some (.pointer (some ⟨ks, 0, none⟩)) ∧ x.cell? ⟨ks, 3, none⟩ = some (.int .i64 s.t2) ∧ x.cell? ⟨B, 14, none⟩ = some (.bool s.se) from fun x hx => ⟨hx, (HX7.out.on hx).p.r.blk.cellAt (i := 5) (by simp), (HX7.out.on hx).p.r.hkm.blk.cellAt (i := 3) (by simp), (HX7.out.on hx).p.r.blk.cellAt (i := 6) (by simp), (HX7.out.on hx).p.r.hks.blk.cellAt (i := 3) (by simp), (HX7.out.on hx).p.r.blk.cellAt (i := 14) (by simp)⟩)
              have HM1 := Lib.hid (show ∀ x, (Below w7.heap.size w7 x ∧ x.cell? ⟨B, 5, none⟩ = some (.pointer (some ⟨km, 0, none⟩)) ∧ x.cell? ⟨km, 3, none⟩ = some (.int .i64 s.t) ∧ x.cell? ⟨B, 6, none⟩ = some (.pointer (some ⟨ks, 0, none⟩)) ∧ x.cell? ⟨ks, 3, none⟩ = some (.int .i64 s.t2) ∧ x.cell? ⟨B, 14, none⟩ = some (.bool s.se)) → Calls Try.prog 52 #[.pointer (some ⟨A, 0, none⟩)] x fun y w' => y = .returned (.int .i64 s.t) ∧ (Below w7.heap.size w7 w' ∧ w'.cell? ⟨B, 5, none⟩ = some (.pointer (some ⟨km, 0, none⟩)) ∧ w'.cell? ⟨km, 3, none⟩ = some (.int .i64 s.t) ∧ w'.cell? ⟨B, 6, none⟩ = some (.pointer (some ⟨ks, 0, none⟩)) ∧ w'.cell? ⟨ks, 3, none⟩ = some (.int .i64 s.t2) ∧ w'.cell? ⟨B, 14, none⟩ = some (.bool s.se)) from fun x hx => (pr_master s _ _ A x (HX7.out.on hx.1).p.a).mono fun y w' ⟨h1, h2⟩ => ⟨h1, h2 ▸ hx⟩)
              have HM2 := Lib.hid (show ∀ x, (Below w7.heap.size w7 x ∧ x.cell? ⟨B, 5, none⟩ = some (.pointer (some ⟨km, 0, none⟩)) ∧ x.cell? ⟨km, 3, none⟩ = some (.int .i64 s.t) ∧ x.cell? ⟨B, 6, none⟩ = some (.pointer (some ⟨ks, 0, none⟩)) ∧ x.cell? ⟨ks, 3, none⟩ = some (.int .i64 s.t2) ∧ x.cell? ⟨B, 14, none⟩ = some (.bool s.se)) → Calls Try.prog 53 #[.pointer (some ⟨A, 0, none⟩)] x fun y w' => y = .returned (.int .i64 s.t2) ∧ (Below w7.heap.size w7 w' ∧ w'.cell? ⟨B, 5, none⟩ = some (.pointer (some ⟨km, 0, none⟩)) ∧ w'.cell? ⟨km, 3, none⟩ = some (.int .i64 s.t) ∧ w'.cell? ⟨B, 6, none⟩ = some (.pointer (some ⟨ks, 0, none⟩)) ∧ w'.cell? ⟨ks, 3, none⟩ = some (.int .i64 s.t2) ∧ w'.cell? ⟨B, 14, none⟩ = some (.bool s.se)) from fun x hx => (pr_slave s _ _ A x (HX7.out.on hx.1).p.a).mono fun y w' ⟨h1, h2⟩ => ⟨h1, h2 ▸ hx⟩)
              have HM3 := Lib.hid (show ∀ x, (Below w7.heap.size w7 x ∧ x.cell? ⟨B, 5, none⟩ = some (.pointer (some ⟨km, 0, none⟩)) ∧ x.cell? ⟨km, 3, none⟩ = some (.int .i64 s.t) ∧ x.cell? ⟨B, 6, none⟩ = some (.pointer (some ⟨ks, 0, none⟩)) ∧ x.cell? ⟨ks, 3, none⟩ = some (.int .i64 s.t2) ∧ x.cell? ⟨B, 14, none⟩ = some (.bool s.se)) → Calls Try.prog 54 #[.pointer (some ⟨A, 0, none⟩)] x fun y w' => y = .returned (.bool s.se) ∧ (Below w7.heap.size w7 w' ∧ w'.cell? ⟨B, 5, none⟩ = some (.pointer (some ⟨km, 0, none⟩)) ∧ w'.cell? ⟨km, 3, none⟩ = some (.int .i64 s.t) ∧ w'.cell? ⟨B, 6, none⟩ = some (.pointer (some ⟨ks, 0, none⟩)) ∧ w'.cell? ⟨ks, 3, none⟩ = some (.int .i64 s.t2) ∧ w'.cell? ⟨B, 14, none⟩ = some (.bool s.se)) from fun x hx => (pr_settled s _ _ A x (HX7.out.on hx.1).p.a).mono fun y w' ⟨h1, h2⟩ => ⟨h1, h2 ▸ hx⟩)
              have HM4 := Lib.hid (show ∀ x, (Below w7.heap.size w7 x ∧ x.cell? ⟨B, 5, none⟩ = some (.pointer (some ⟨km, 0, none⟩)) ∧ x.cell? ⟨km, 3, none⟩ = some (.int .i64 s.t) ∧ x.cell? ⟨B, 6, none⟩ = some (.pointer (some ⟨ks, 0, none⟩)) ∧ x.cell? ⟨ks, 3, none⟩ = some (.int .i64 s.t2) ∧ x.cell? ⟨B, 14, none⟩ = some (.bool s.se)) → Calls Try.prog 55 #[.pointer (some ⟨A, 0, none⟩)] x fun y w' => y = .returned (.int .i64 s.gap) ∧ (Below w7.heap.size w7 w' ∧ w'.cell? ⟨B, 5, none⟩ = some (.pointer (some ⟨km, 0, none⟩)) ∧ w'.cell? ⟨km, 3, none⟩ = some (.int .i64 s.t) ∧ w'.cell? ⟨B, 6, none⟩ = some (.pointer (some ⟨ks, 0, none⟩)) ∧ w'.cell? ⟨ks, 3, none⟩ = some (.int .i64 s.t2) ∧ w'.cell? ⟨B, 14, none⟩ = some (.bool s.se)) from fun x hx => (pr_gap s _ _ A x (HX7.out.on hx.1).p.a (HL0.out.gapR (by have := HBI.out; have := HGO.out; omega))).mono fun y w' ⟨h1, h2⟩ => ⟨h1, HSW.out _ (below_transG hx.1 h2)⟩)
              have HM5 := Lib.hid (show ∀ x, (Below w7.heap.size w7 x ∧ x.cell? ⟨B, 5, none⟩ = some (.pointer (some ⟨km, 0, none⟩)) ∧ x.cell? ⟨km, 3, none⟩ = some (.int .i64 s.t) ∧ x.cell? ⟨B, 6, none⟩ = some (.pointer (some ⟨ks, 0, none⟩)) ∧ x.cell? ⟨ks, 3, none⟩ = some (.int .i64 s.t2) ∧ x.cell? ⟨B, 14, none⟩ = some (.bool s.se)) → Calls Try.prog 56 #[.pointer (some ⟨B, 0, none⟩)] x fun y w' => y = .returned (.int .i64 s.gap) ∧ (Below w7.heap.size w7 w' ∧ w'.cell? ⟨B, 5, none⟩ = some (.pointer (some ⟨km, 0, none⟩)) ∧ w'.cell? ⟨km, 3, none⟩ = some (.int .i64 s.t) ∧ w'.cell? ⟨B, 6, none⟩ = some (.pointer (some ⟨ks, 0, none⟩)) ∧ w'.cell? ⟨ks, 3, none⟩ = some (.int .i64 s.t2) ∧ w'.cell? ⟨B, 14, none⟩ = some (.bool s.se)) from fun x hx => (rp_gap (HX7.out.on hx.1).p.r (HL0.out.gapR (by have := HBI.out; have := HGO.out; omega))).mono fun y w' ⟨h1, h2⟩ => ⟨h1, HSW.out _ (below_transG hx.1 h2)⟩)
              obtain ⟨GP, hGP⟩ : ∃ z, z = s.gap := ⟨_, rfl⟩
              rw [← hGP] at HM4 HM5
              clear hGP
              obtain ⟨T1, hT1⟩ : ∃ z, z = s.t := ⟨_, rfl⟩
              obtain ⟨T2, hT2⟩ : ∃ z, z = s.t2 := ⟨_, rfl⟩
              obtain ⟨SE, hSE⟩ : ∃ z, z = s.se := ⟨_, rfl⟩
              rw [← hT1, ← hT2, ← hSE] at HSW HM1 HM2 HM3 HM4 HM5
              clear hT1 hT2 hSE
              have tq1 : (T1 == T1) = true := by simp
              have tq2 : (T2 == T2) = true := by simp
              have tq3 : (GP == GP) = true := by simp
              have tq4 : (SE == SE) = true := by simp
              have HS0 := Lib.hid (HSW.out _ (Below.refl _ _).drew)
              go_upto_region 23 with fail
              go_cut [134] (fun s134 wx => s134 = .bool false ∧ Below w7.heap.size w7 wx)
              case first =>
                refine wp_region_class (C := fun x => Below w7.heap.size w7 x ∧ x.cell? ⟨B, 5, none⟩ = some (.pointer (some ⟨km, 0, none⟩)) ∧ x.cell? ⟨km, 3, none⟩ = some (.int .i64 T1) ∧ x.cell? ⟨B, 6, none⟩ = some (.pointer (some ⟨ks, 0, none⟩)) ∧ x.cell? ⟨ks, 3, none⟩ = some (.int .i64 T2) ∧ x.cell? ⟨B, 14, none⟩ = some (.bool SE)) (by kernel_rfl) (by kernel_rfl) (HS0.out) ?_
                repeat
                  with_reducible refine wpQuiet_step (fun K hK => ?_)
                  first
                    | (refine quiet_skip (by rfl) ?_; (with_reducible refine hK _ ?_); clear hK K)
                    | (refine quiet_want (by rfl) ?_
                       apply Exists.intro
                       refine ⟨fun x hx => ?_, hK _ ?_⟩
                       (have hy1 := hx.2.1; have hy2 := hx.2.2.1; have hy3 := hx.2.2.2.1; have hy4 := hx.2.2.2.2.1; have hy5 := hx.2.2.2.2.2; go_simp; first | done | with_reducible rfl | (go_at_call 52; with_reducible exact HM1.out x hx) | (go_at_call 53; with_reducible exact HM2.out x hx) | (go_at_call 54; with_reducible exact HM3.out x hx) | (go_at_call 55; with_reducible exact HM4.out x hx) | (go_at_call 56; with_reducible exact HM5.out x hx) )
                       clear hK K)
                  try simp only [Act.put, List.setIfInBounds_toArray, List.set_cons_zero, List.set_cons_succ]
                with_reducible refine wpQuiet_nil ?_
                intro wq hq
                have HQ := Lib.hid hq.1
                clear hq
                go_wp2_with fail
                go_meet
                exact ⟨rfl, HQ.out⟩
              case rest =>
              obtain ⟨rfl, hb⟩ := hcut
              have HPZ := Lib.hid (HX7.out.on hb).p
              clear hb HSW HM1 HM2 HM3 HM4 HM5 HS0
              go_wp2_with fail
              go_roundw
              case rel => exact ⟨i + 1, by simp, by have := HGO.out; omega, s, _, _, _, _, _, _, HPZ.out, HL0.out, (by have := HBI.out; show s.bi ≤ ((i + 1 : Nat) : Int) * 30; omega)⟩
              case measure => have := HGO.out; simp [intOf]; omega
        have k1 : (kd == 1) = false := by rw [beq_eq_false_iff_ne]; exact h1
        clear h1
        go_wp2_with fail
        go_loopw [13] (fun s13 wr => ∃ kk : Nat, s13 = .int .i64 (kk : Int) ∧ kk ≤ 30 ∧ ∃ (s2 : PD) (pn2 pa2 : Value) (y1 y2 y3 y4 : Int), PX w wr D [.int .i64 kd, .int .i64 k, .int .i64 x, .int .i64 y, .int .i64 q] A s2 pn2 pa2 B s2 mo so km ks y1 y2 y3 y4 ∧ LK s2 ∧ s2.bi ≤ (i : Int) * 30 + (kk : Int)) (fun s13 _ => 30 - (intOf s13).toNat)
        case atStart => exact ⟨0, rfl, by omega, s, _, _, _, _, _, _, HX1.out, HL0.out, by have := HBI.out; omega⟩
        case round =>
          obtain ⟨kk, rfl, hk30, s2, pn2, pa2, y1, y2, y3, y4, hX, hK, hbj⟩ := hrel
          have HX2 := Lib.hid hX; have HL2 := Lib.hid hK; have HBJ := Lib.hid (show 0 ≤ s2.bi ∧ s2.bi ≤ (i : Int) * 30 + (kk : Int) ∧ s2.bi ≤ 1290 from ⟨hK.bi, hbj, by have := HGO.out; omega⟩)
          clear hX hK hbj HX1 HL0 d0 d1 d2 d3 d4
          have f1 : wr.cell? ⟨D, 1, none⟩ = some (.int .i64 k) := HX2.out.d.cellAt (i := 1) (by simp)
          by_cases hgk : (kk : Int) < k ∧ kk < 30
          · have j1 : (kk : Int) < k := hgk.1
            have j2 : (kk : Int) < 30 := by have := hgk.2; omega
            have HGK := Lib.hid (show kk < 30 from hgk.2)
            clear hgk
            by_cases he : stepE s2.mc x = 0
            · by_cases hf : stepE s2.sc y = 0
              · have HC := Lib.hid (fun v h => pr_step_ok s2 pn2 pa2 x y HX_.out HY_.out (by have := HBJ.out; omega) A v h he hf)
                have HR := Lib.hid (fun v h => rp_step_ok (w := v) (B := B) (s := s2) (mo := mo) (so := so) (km := km) (ks := ks) (mine := y1) (its := y2) (at_ := y3) (si := y4) h x y HX_.out HY_.out (by have := HBJ.out; omega) he hf)
                have HLN := Lib.hid (HL2.out.step x y he hf)
                have HBN := Lib.hid (show s2.bi + 1 ≤ (i : Int) * 30 + ((kk : Int) + 1) by have := HBJ.out; omega)
                clear he hf
                obtain ⟨S, hS⟩ : ∃ S : PD, S = (s2.stepped x y) := ⟨_, rfl⟩
                rw [← hS] at HC HR HLN
                have HBS := Lib.hid (show S.bi ≤ (i : Int) * 30 + ((kk : Int) + 1) by rw [hS]; exact HBN.out)
                have HLS := Lib.hid (show LK S by exact HLN.out)

                go_upto_region 15 with fail
                go_cut [78] (fun s78 wx => s78 = .bool false ∧ PX w wx D [.int .i64 kd, .int .i64 k, .int .i64 x, .int .i64 y, .int .i64 q] A S pn2 pa2 B S mo so km ks y1 y2 y3 y4)
                case first =>
                  have HS0 := Lib.hid (show True ∧ wr.drew.cell? ⟨D, 2, none⟩ = some (.int .i64 x) ∧ wr.drew.cell? ⟨D, 3, none⟩ = some (.int .i64 y) from ⟨trivial, (HX2.out.on (Below.refl _ _).drew).d.cellAt (i := 2) (by simp), (HX2.out.on (Below.refl _ _).drew).d.cellAt (i := 3) (by simp)⟩)
                  refine wp_region_held_drew (S := fun vv => True ∧ vv.cell? ⟨D, 2, none⟩ = some (.int .i64 x) ∧ vv.cell? ⟨D, 3, none⟩ = some (.int .i64 y)) (by kernel_rfl) HS0.out (fun hHeld => ?_)
                  refine wpAnyH_take (i := 0) (oi := _) (v := ?_) rfl (by kernel_rfl) (by kernel_rfl) (by kernel_rfl) (fun _ _ _ h => h) (Or.inl ⟨by rfl, ?_⟩) (by assumption) ?_
                  rotate_left
                  · intro x hSx
                    try dsimp only at hSx
                    obtain ⟨_, hSx0, hSx1⟩ := hSx
                    go_simp
                    first | done | with_reducible rfl
                  try simp only [Act.put]
                  refine wpAnyH_take (i := 1) (oi := _) (v := ?_) rfl (by kernel_rfl) (by kernel_rfl) (by kernel_rfl) (fun _ _ _ h => h) (Or.inl ⟨by rfl, ?_⟩) (by assumption) ?_
                  rotate_left
                  · intro x hSx
                    try dsimp only at hSx
                    obtain ⟨_, hSx0, hSx1⟩ := hSx
                    go_simp
                    first | done | with_reducible rfl
                  try simp only [Act.put]
                  refine wpAnyH_take (i := 2) (oi := _) (v := ?_) rfl (by kernel_rfl) (by kernel_rfl) (by kernel_rfl) (fun _ _ _ h => h) (Or.inl ⟨by rfl, ?_⟩) (by assumption) ?_
                  rotate_left
                  · intro x hSx
                    try dsimp only at hSx
                    obtain ⟨_, hSx0, hSx1⟩ := hSx
                    go_simp
                    first | done | with_reducible rfl
                  try simp only [Act.put]
                  refine wpAnyH_take (i := 3) (oi := _) (v := ?_) rfl (by kernel_rfl) (by kernel_rfl) (by kernel_rfl) (fun _ _ _ h => h) (Or.inl ⟨by rfl, ?_⟩) (by assumption) ?_
                  rotate_left
                  · intro x hSx
                    try dsimp only at hSx
                    obtain ⟨_, hSx0, hSx1⟩ := hSx
                    go_simp
                    first | done | with_reducible rfl
                  try simp only [Act.put]
                  refine wpAnyH_take (i := 4) (oi := _) (v := ?_) rfl (by kernel_rfl) (by kernel_rfl) (by kernel_rfl) (fun _ _ _ h => h) (Or.inl ⟨by rfl, ?_⟩) (by assumption) ?_
                  rotate_left
                  · intro x hSx
                    try dsimp only at hSx
                    obtain ⟨_, hSx0, hSx1⟩ := hSx
                    go_simp
                    first | done | with_reducible rfl
                  try simp only [Act.put]
                  refine wpAnyH_take (i := 6) (oi := _) (v := ?_) rfl (by kernel_rfl) (by kernel_rfl) (by kernel_rfl) (fun _ _ _ h => h) (Or.inl ⟨by rfl, ?_⟩) (by assumption) ?_
                  rotate_left
                  · intro x hSx
                    try dsimp only at hSx
                    obtain ⟨_, hSx0, hSx1⟩ := hSx
                    go_simp
                    first | done | with_reducible rfl
                  try simp only [Act.put]
                  refine wpAnyH_take (i := 7) (oi := _) (v := ?_) rfl (by kernel_rfl) (by kernel_rfl) (by kernel_rfl) (fun _ _ _ h => h) (Or.inl ⟨by rfl, ?_⟩) (by assumption) ?_
                  rotate_left
                  · intro x hSx
                    try dsimp only at hSx
                    obtain ⟨_, hSx0, hSx1⟩ := hSx
                    go_simp
                    first | done | with_reducible rfl
                  try simp only [Act.put]
                  refine wpAnyH_take (i := 8) (oi := _) (v := ?_) rfl (by kernel_rfl) (by kernel_rfl) (by kernel_rfl) (fun _ _ _ h => h) (Or.inl ⟨by rfl, ?_⟩) (by assumption) ?_
                  rotate_left
                  · intro x hSx
                    try dsimp only at hSx
                    obtain ⟨_, hSx0, hSx1⟩ := hSx
                    go_simp
                    first | done | with_reducible rfl
                  try simp only [Act.put]
                  refine wpAnyH_take (i := 9) (oi := _) (v := ?_) rfl (by kernel_rfl) (by kernel_rfl) (by kernel_rfl) (fun _ _ _ h => h) (Or.inl ⟨by rfl, ?_⟩) (by assumption) ?_
                  rotate_left
                  · intro x hSx
                    try dsimp only at hSx
                    obtain ⟨_, hSx0, hSx1⟩ := hSx
                    go_simp
                    first | done | with_reducible rfl
                  try simp only [Act.put]
                  refine wpAnyH_take (i := 10) (oi := _) (v := ?_) rfl (by kernel_rfl) (by kernel_rfl) (by kernel_rfl) (fun _ _ _ h => h) (Or.inl ⟨by rfl, ?_⟩) (by assumption) ?_
                  rotate_left
                  · intro x hSx
                    try dsimp only at hSx
                    obtain ⟨_, hSx0, hSx1⟩ := hSx
                    go_simp
                    first | done | with_reducible rfl
                  try simp only [Act.put]
                  refine wpAnyH_ready (rs := [5]) (by kernel_rfl) (by simp) ?_
                  refine AllReadyH.cons (o := _) rfl (fun K hK => ?_) AllReadyH.nil
                  go_simp
                  refine (HC.out _ (HX2.out.on (Below.refl _ _).drew).p.a).mono ?_
                  rintro e5 w5 ⟨rfl, hP, hkp⟩
                  have HX5 := Lib.hid ((HX2.out.on (Below.refl _ _).drew).code hP hkp)
                  have hs5 : True ∧ w5.cell? ⟨D, 2, none⟩ = some (.int .i64 x) ∧ w5.cell? ⟨D, 3, none⟩ = some (.int .i64 y) := ⟨trivial, HX5.out.d.cellAt (i := 2) (by simp), HX5.out.d.cellAt (i := 3) (by simp)⟩
                  go_wp2_with fail
                  refine hK.out _ _ hs5 (fun hHeld => ?_)
                  clear hK K
                  try simp only [Act.put]
                  refine wpAnyH_ready (rs := [11]) (by kernel_rfl) (by simp) ?_
                  refine AllReadyH.cons (o := _) rfl (fun K hK => ?_) AllReadyH.nil
                  go_simp
                  refine (HR.out _ HX5.out.p.r).mono ?_
                  rintro e6 w6 ⟨rfl, hRR, hF⟩
                  have HX6 := Lib.hid (HX5.out.ref hRR hF)
                  have hs11 : True ∧ w6.cell? ⟨D, 2, none⟩ = some (.int .i64 x) ∧ w6.cell? ⟨D, 3, none⟩ = some (.int .i64 y) := ⟨trivial, HX6.out.d.cellAt (i := 2) (by simp), HX6.out.d.cellAt (i := 3) (by simp)⟩
                  go_wp2_with fail
                  refine hK.out _ _ hs11 (fun hHeld => ?_)
                  clear hK K
                  try simp only [Act.put]
                  refine wpAnyH_class (C := fun x => x = w6) 12 _ rfl (by kernel_rfl) (by rfl) (by kernel_rfl) (fun x hx => by rw [hx]; exact hs11) rfl ?_
                  simp only [List.drop_succ_cons, List.drop_zero]
                  repeat
                    with_reducible refine wpQuiet_step (fun K hK => ?_)
                    first
                      | (refine quiet_skip (by rfl) ?_; (with_reducible refine hK _ ?_); clear hK K)
                      | (refine quiet_want (by rfl) ?_
                         apply Exists.intro
                         refine ⟨fun x hx => ?_, hK _ ?_⟩
                         (obtain rfl := id hx; go_simp; first | done | rfl | (fail))
                         clear hK K)
                    try simp only [Act.put]
                  with_reducible refine wpQuiet_nil ?_
                  intro wq hq
                  subst hq
                  go_wp2_with fail
                  go_meet
                  exact ⟨rfl, HX6.out⟩
                case rest =>
                obtain ⟨rfl, h7⟩ := hcut
                have HX7 := Lib.hid h7
                clear h7 HC HR f1
                go_wp2_with fail
                go_roundw
                case rel => exact ⟨kk + 1, by simp, by have := HGK.out; omega, S, _, _, _, _, _, _, HX7.out, HLS.out, (by have := HBS.out; show S.bi ≤ (i : Int) * 30 + ((kk + 1 : Nat) : Int); omega)⟩
                case measure => have := HGK.out; simp [intOf]; omega
              · have HC := Lib.hid (fun v h => pr_step_s s2 pn2 pa2 x y HX_.out HY_.out A v h he hf)
                have HR := Lib.hid (fun v h => rp_step_s (w := v) (B := B) (s := s2) (mo := mo) (so := so) (km := km) (ks := ks) (mine := y1) (its := y2) (at_ := y3) (si := y4) h x y HX_.out HY_.out he hf)
                have HLN := Lib.hid (HL2.out)
                have HBN := Lib.hid (show s2.bi ≤ (i : Int) * 30 + ((kk : Int) + 1) by have := HBJ.out; omega)
                obtain ⟨ge, hge⟩ : ∃ ge, ge = stepE s2.sc y := ⟨_, rfl⟩
                rw [← hge] at HC HR
                clear hge
                clear he hf
                obtain ⟨S, hS⟩ : ∃ S : PD, S = s2 := ⟨_, rfl⟩

                have HBS := Lib.hid (show S.bi ≤ (i : Int) * 30 + ((kk : Int) + 1) by rw [hS]; exact HBN.out)
                have HLS := Lib.hid (show LK S by rw [hS]; exact HLN.out)
                subst hS
                go_upto_region 15 with fail
                go_cut [78] (fun s78 wx => s78 = .bool false ∧ PX w wx D [.int .i64 kd, .int .i64 k, .int .i64 x, .int .i64 y, .int .i64 q] A S pn2 pa2 B S mo so km ks y1 y2 y3 y4)
                case first =>
                  have HS0 := Lib.hid (show True ∧ wr.drew.cell? ⟨D, 2, none⟩ = some (.int .i64 x) ∧ wr.drew.cell? ⟨D, 3, none⟩ = some (.int .i64 y) from ⟨trivial, (HX2.out.on (Below.refl _ _).drew).d.cellAt (i := 2) (by simp), (HX2.out.on (Below.refl _ _).drew).d.cellAt (i := 3) (by simp)⟩)
                  refine wp_region_held_drew (S := fun vv => True ∧ vv.cell? ⟨D, 2, none⟩ = some (.int .i64 x) ∧ vv.cell? ⟨D, 3, none⟩ = some (.int .i64 y)) (by kernel_rfl) HS0.out (fun hHeld => ?_)
                  refine wpAnyH_take (i := 0) (oi := _) (v := ?_) rfl (by kernel_rfl) (by kernel_rfl) (by kernel_rfl) (fun _ _ _ h => h) (Or.inl ⟨by rfl, ?_⟩) (by assumption) ?_
                  rotate_left
                  · intro x hSx
                    try dsimp only at hSx
                    obtain ⟨_, hSx0, hSx1⟩ := hSx
                    go_simp
                    first | done | with_reducible rfl
                  try simp only [Act.put]
                  refine wpAnyH_take (i := 1) (oi := _) (v := ?_) rfl (by kernel_rfl) (by kernel_rfl) (by kernel_rfl) (fun _ _ _ h => h) (Or.inl ⟨by rfl, ?_⟩) (by assumption) ?_
                  rotate_left
                  · intro x hSx
                    try dsimp only at hSx
                    obtain ⟨_, hSx0, hSx1⟩ := hSx
                    go_simp
                    first | done | with_reducible rfl
                  try simp only [Act.put]
                  refine wpAnyH_take (i := 2) (oi := _) (v := ?_) rfl (by kernel_rfl) (by kernel_rfl) (by kernel_rfl) (fun _ _ _ h => h) (Or.inl ⟨by rfl, ?_⟩) (by assumption) ?_
                  rotate_left
                  · intro x hSx
                    try dsimp only at hSx
                    obtain ⟨_, hSx0, hSx1⟩ := hSx
                    go_simp
                    first | done | with_reducible rfl
                  try simp only [Act.put]
                  refine wpAnyH_take (i := 3) (oi := _) (v := ?_) rfl (by kernel_rfl) (by kernel_rfl) (by kernel_rfl) (fun _ _ _ h => h) (Or.inl ⟨by rfl, ?_⟩) (by assumption) ?_
                  rotate_left
                  · intro x hSx
                    try dsimp only at hSx
                    obtain ⟨_, hSx0, hSx1⟩ := hSx
                    go_simp
                    first | done | with_reducible rfl
                  try simp only [Act.put]
                  refine wpAnyH_take (i := 4) (oi := _) (v := ?_) rfl (by kernel_rfl) (by kernel_rfl) (by kernel_rfl) (fun _ _ _ h => h) (Or.inl ⟨by rfl, ?_⟩) (by assumption) ?_
                  rotate_left
                  · intro x hSx
                    try dsimp only at hSx
                    obtain ⟨_, hSx0, hSx1⟩ := hSx
                    go_simp
                    first | done | with_reducible rfl
                  try simp only [Act.put]
                  refine wpAnyH_take (i := 6) (oi := _) (v := ?_) rfl (by kernel_rfl) (by kernel_rfl) (by kernel_rfl) (fun _ _ _ h => h) (Or.inl ⟨by rfl, ?_⟩) (by assumption) ?_
                  rotate_left
                  · intro x hSx
                    try dsimp only at hSx
                    obtain ⟨_, hSx0, hSx1⟩ := hSx
                    go_simp
                    first | done | with_reducible rfl
                  try simp only [Act.put]
                  refine wpAnyH_take (i := 7) (oi := _) (v := ?_) rfl (by kernel_rfl) (by kernel_rfl) (by kernel_rfl) (fun _ _ _ h => h) (Or.inl ⟨by rfl, ?_⟩) (by assumption) ?_
                  rotate_left
                  · intro x hSx
                    try dsimp only at hSx
                    obtain ⟨_, hSx0, hSx1⟩ := hSx
                    go_simp
                    first | done | with_reducible rfl
                  try simp only [Act.put]
                  refine wpAnyH_take (i := 8) (oi := _) (v := ?_) rfl (by kernel_rfl) (by kernel_rfl) (by kernel_rfl) (fun _ _ _ h => h) (Or.inl ⟨by rfl, ?_⟩) (by assumption) ?_
                  rotate_left
                  · intro x hSx
                    try dsimp only at hSx
                    obtain ⟨_, hSx0, hSx1⟩ := hSx
                    go_simp
                    first | done | with_reducible rfl
                  try simp only [Act.put]
                  refine wpAnyH_take (i := 9) (oi := _) (v := ?_) rfl (by kernel_rfl) (by kernel_rfl) (by kernel_rfl) (fun _ _ _ h => h) (Or.inl ⟨by rfl, ?_⟩) (by assumption) ?_
                  rotate_left
                  · intro x hSx
                    try dsimp only at hSx
                    obtain ⟨_, hSx0, hSx1⟩ := hSx
                    go_simp
                    first | done | with_reducible rfl
                  try simp only [Act.put]
                  refine wpAnyH_take (i := 10) (oi := _) (v := ?_) rfl (by kernel_rfl) (by kernel_rfl) (by kernel_rfl) (fun _ _ _ h => h) (Or.inl ⟨by rfl, ?_⟩) (by assumption) ?_
                  rotate_left
                  · intro x hSx
                    try dsimp only at hSx
                    obtain ⟨_, hSx0, hSx1⟩ := hSx
                    go_simp
                    first | done | with_reducible rfl
                  try simp only [Act.put]
                  refine wpAnyH_ready (rs := [5]) (by kernel_rfl) (by simp) ?_
                  refine AllReadyH.cons (o := _) rfl (fun K hK => ?_) AllReadyH.nil
                  go_simp
                  refine (HC.out _ (HX2.out.on (Below.refl _ _).drew).p.a).mono ?_
                  rintro e5 w5 ⟨rfl, hP, hkp⟩
                  have HX5 := Lib.hid ((HX2.out.on (Below.refl _ _).drew).code hP hkp)
                  have hs5 : True ∧ w5.cell? ⟨D, 2, none⟩ = some (.int .i64 x) ∧ w5.cell? ⟨D, 3, none⟩ = some (.int .i64 y) := ⟨trivial, HX5.out.d.cellAt (i := 2) (by simp), HX5.out.d.cellAt (i := 3) (by simp)⟩
                  go_wp2_with fail
                  refine hK.out _ _ hs5 (fun hHeld => ?_)
                  clear hK K
                  try simp only [Act.put]
                  refine wpAnyH_ready (rs := [11]) (by kernel_rfl) (by simp) ?_
                  refine AllReadyH.cons (o := _) rfl (fun K hK => ?_) AllReadyH.nil
                  go_simp
                  refine (HR.out _ HX5.out.p.r).mono ?_
                  rintro e6 w6 ⟨rfl, hRR, hF⟩
                  have HX6 := Lib.hid (HX5.out.ref hRR hF)
                  have hs11 : True ∧ w6.cell? ⟨D, 2, none⟩ = some (.int .i64 x) ∧ w6.cell? ⟨D, 3, none⟩ = some (.int .i64 y) := ⟨trivial, HX6.out.d.cellAt (i := 2) (by simp), HX6.out.d.cellAt (i := 3) (by simp)⟩
                  go_wp2_with fail
                  refine hK.out _ _ hs11 (fun hHeld => ?_)
                  clear hK K
                  try simp only [Act.put]
                  refine wpAnyH_class (C := fun x => x = w6) 12 _ rfl (by kernel_rfl) (by rfl) (by kernel_rfl) (fun x hx => by rw [hx]; exact hs11) rfl ?_
                  simp only [List.drop_succ_cons, List.drop_zero]
                  repeat
                    with_reducible refine wpQuiet_step (fun K hK => ?_)
                    first
                      | (refine quiet_skip (by rfl) ?_; (with_reducible refine hK _ ?_); clear hK K)
                      | (refine quiet_want (by rfl) ?_
                         apply Exists.intro
                         refine ⟨fun x hx => ?_, hK _ ?_⟩
                         (obtain rfl := id hx; go_simp; first | done | rfl | (fail))
                         clear hK K)
                    try simp only [Act.put]
                  with_reducible refine wpQuiet_nil ?_
                  intro wq hq
                  subst hq
                  go_wp2_with fail
                  go_meet
                  exact ⟨rfl, HX6.out⟩
                case rest =>
                obtain ⟨rfl, h7⟩ := hcut
                have HX7 := Lib.hid h7
                clear h7 HC HR f1
                go_wp2_with fail
                go_roundw
                case rel => exact ⟨kk + 1, by simp, by have := HGK.out; omega, S, _, _, _, _, _, _, HX7.out, HLS.out, (by have := HBS.out; show S.bi ≤ (i : Int) * 30 + ((kk + 1 : Nat) : Int); omega)⟩
                case measure => have := HGK.out; simp [intOf]; omega
            · have HC := Lib.hid (fun v h => pr_step_m s2 pn2 pa2 x y HX_.out A v h he)
              have HR := Lib.hid (fun v h => rp_step_m (w := v) (B := B) (s := s2) (mo := mo) (so := so) (km := km) (ks := ks) (mine := y1) (its := y2) (at_ := y3) (si := y4) h x y HX_.out he)
              have HLN := Lib.hid (HL2.out)
              have HBN := Lib.hid (show s2.bi ≤ (i : Int) * 30 + ((kk : Int) + 1) by have := HBJ.out; omega)
              obtain ⟨ge, hge⟩ : ∃ ge, ge = stepE s2.mc x := ⟨_, rfl⟩
              rw [← hge] at HC HR
              clear hge
              clear he
              obtain ⟨S, hS⟩ : ∃ S : PD, S = s2 := ⟨_, rfl⟩

              have HBS := Lib.hid (show S.bi ≤ (i : Int) * 30 + ((kk : Int) + 1) by rw [hS]; exact HBN.out)
              have HLS := Lib.hid (show LK S by rw [hS]; exact HLN.out)
              subst hS
              go_upto_region 15 with fail
              go_cut [78] (fun s78 wx => s78 = .bool false ∧ PX w wx D [.int .i64 kd, .int .i64 k, .int .i64 x, .int .i64 y, .int .i64 q] A S pn2 pa2 B S mo so km ks y1 y2 y3 y4)
              case first =>
                have HS0 := Lib.hid (show True ∧ wr.drew.cell? ⟨D, 2, none⟩ = some (.int .i64 x) ∧ wr.drew.cell? ⟨D, 3, none⟩ = some (.int .i64 y) from ⟨trivial, (HX2.out.on (Below.refl _ _).drew).d.cellAt (i := 2) (by simp), (HX2.out.on (Below.refl _ _).drew).d.cellAt (i := 3) (by simp)⟩)
                refine wp_region_held_drew (S := fun vv => True ∧ vv.cell? ⟨D, 2, none⟩ = some (.int .i64 x) ∧ vv.cell? ⟨D, 3, none⟩ = some (.int .i64 y)) (by kernel_rfl) HS0.out (fun hHeld => ?_)
                refine wpAnyH_take (i := 0) (oi := _) (v := ?_) rfl (by kernel_rfl) (by kernel_rfl) (by kernel_rfl) (fun _ _ _ h => h) (Or.inl ⟨by rfl, ?_⟩) (by assumption) ?_
                rotate_left
                · intro x hSx
                  try dsimp only at hSx
                  obtain ⟨_, hSx0, hSx1⟩ := hSx
                  go_simp
                  first | done | with_reducible rfl
                try simp only [Act.put]
                refine wpAnyH_take (i := 1) (oi := _) (v := ?_) rfl (by kernel_rfl) (by kernel_rfl) (by kernel_rfl) (fun _ _ _ h => h) (Or.inl ⟨by rfl, ?_⟩) (by assumption) ?_
                rotate_left
                · intro x hSx
                  try dsimp only at hSx
                  obtain ⟨_, hSx0, hSx1⟩ := hSx
                  go_simp
                  first | done | with_reducible rfl
                try simp only [Act.put]
                refine wpAnyH_take (i := 2) (oi := _) (v := ?_) rfl (by kernel_rfl) (by kernel_rfl) (by kernel_rfl) (fun _ _ _ h => h) (Or.inl ⟨by rfl, ?_⟩) (by assumption) ?_
                rotate_left
                · intro x hSx
                  try dsimp only at hSx
                  obtain ⟨_, hSx0, hSx1⟩ := hSx
                  go_simp
                  first | done | with_reducible rfl
                try simp only [Act.put]
                refine wpAnyH_take (i := 3) (oi := _) (v := ?_) rfl (by kernel_rfl) (by kernel_rfl) (by kernel_rfl) (fun _ _ _ h => h) (Or.inl ⟨by rfl, ?_⟩) (by assumption) ?_
                rotate_left
                · intro x hSx
                  try dsimp only at hSx
                  obtain ⟨_, hSx0, hSx1⟩ := hSx
                  go_simp
                  first | done | with_reducible rfl
                try simp only [Act.put]
                refine wpAnyH_take (i := 4) (oi := _) (v := ?_) rfl (by kernel_rfl) (by kernel_rfl) (by kernel_rfl) (fun _ _ _ h => h) (Or.inl ⟨by rfl, ?_⟩) (by assumption) ?_
                rotate_left
                · intro x hSx
                  try dsimp only at hSx
                  obtain ⟨_, hSx0, hSx1⟩ := hSx
                  go_simp
                  first | done | with_reducible rfl
                try simp only [Act.put]
                refine wpAnyH_take (i := 6) (oi := _) (v := ?_) rfl (by kernel_rfl) (by kernel_rfl) (by kernel_rfl) (fun _ _ _ h => h) (Or.inl ⟨by rfl, ?_⟩) (by assumption) ?_
                rotate_left
                · intro x hSx
                  try dsimp only at hSx
                  obtain ⟨_, hSx0, hSx1⟩ := hSx
                  go_simp
                  first | done | with_reducible rfl
                try simp only [Act.put]
                refine wpAnyH_take (i := 7) (oi := _) (v := ?_) rfl (by kernel_rfl) (by kernel_rfl) (by kernel_rfl) (fun _ _ _ h => h) (Or.inl ⟨by rfl, ?_⟩) (by assumption) ?_
                rotate_left
                · intro x hSx
                  try dsimp only at hSx
                  obtain ⟨_, hSx0, hSx1⟩ := hSx
                  go_simp
                  first | done | with_reducible rfl
                try simp only [Act.put]
                refine wpAnyH_take (i := 8) (oi := _) (v := ?_) rfl (by kernel_rfl) (by kernel_rfl) (by kernel_rfl) (fun _ _ _ h => h) (Or.inl ⟨by rfl, ?_⟩) (by assumption) ?_
                rotate_left
                · intro x hSx
                  try dsimp only at hSx
                  obtain ⟨_, hSx0, hSx1⟩ := hSx
                  go_simp
                  first | done | with_reducible rfl
                try simp only [Act.put]
                refine wpAnyH_take (i := 9) (oi := _) (v := ?_) rfl (by kernel_rfl) (by kernel_rfl) (by kernel_rfl) (fun _ _ _ h => h) (Or.inl ⟨by rfl, ?_⟩) (by assumption) ?_
                rotate_left
                · intro x hSx
                  try dsimp only at hSx
                  obtain ⟨_, hSx0, hSx1⟩ := hSx
                  go_simp
                  first | done | with_reducible rfl
                try simp only [Act.put]
                refine wpAnyH_take (i := 10) (oi := _) (v := ?_) rfl (by kernel_rfl) (by kernel_rfl) (by kernel_rfl) (fun _ _ _ h => h) (Or.inl ⟨by rfl, ?_⟩) (by assumption) ?_
                rotate_left
                · intro x hSx
                  try dsimp only at hSx
                  obtain ⟨_, hSx0, hSx1⟩ := hSx
                  go_simp
                  first | done | with_reducible rfl
                try simp only [Act.put]
                refine wpAnyH_ready (rs := [5]) (by kernel_rfl) (by simp) ?_
                refine AllReadyH.cons (o := _) rfl (fun K hK => ?_) AllReadyH.nil
                go_simp
                refine (HC.out _ (HX2.out.on (Below.refl _ _).drew).p.a).mono ?_
                rintro e5 w5 ⟨rfl, hP, hkp⟩
                have HX5 := Lib.hid ((HX2.out.on (Below.refl _ _).drew).code hP hkp)
                have hs5 : True ∧ w5.cell? ⟨D, 2, none⟩ = some (.int .i64 x) ∧ w5.cell? ⟨D, 3, none⟩ = some (.int .i64 y) := ⟨trivial, HX5.out.d.cellAt (i := 2) (by simp), HX5.out.d.cellAt (i := 3) (by simp)⟩
                go_wp2_with fail
                refine hK.out _ _ hs5 (fun hHeld => ?_)
                clear hK K
                try simp only [Act.put]
                refine wpAnyH_ready (rs := [11]) (by kernel_rfl) (by simp) ?_
                refine AllReadyH.cons (o := _) rfl (fun K hK => ?_) AllReadyH.nil
                go_simp
                refine (HR.out _ HX5.out.p.r).mono ?_
                rintro e6 w6 ⟨rfl, hRR, hF⟩
                have HX6 := Lib.hid (HX5.out.ref hRR hF)
                have hs11 : True ∧ w6.cell? ⟨D, 2, none⟩ = some (.int .i64 x) ∧ w6.cell? ⟨D, 3, none⟩ = some (.int .i64 y) := ⟨trivial, HX6.out.d.cellAt (i := 2) (by simp), HX6.out.d.cellAt (i := 3) (by simp)⟩
                go_wp2_with fail
                refine hK.out _ _ hs11 (fun hHeld => ?_)
                clear hK K
                try simp only [Act.put]
                refine wpAnyH_class (C := fun x => x = w6) 12 _ rfl (by kernel_rfl) (by rfl) (by kernel_rfl) (fun x hx => by rw [hx]; exact hs11) rfl ?_
                simp only [List.drop_succ_cons, List.drop_zero]
                repeat
                  with_reducible refine wpQuiet_step (fun K hK => ?_)
                  first
                    | (refine quiet_skip (by rfl) ?_; (with_reducible refine hK _ ?_); clear hK K)
                    | (refine quiet_want (by rfl) ?_
                       apply Exists.intro
                       refine ⟨fun x hx => ?_, hK _ ?_⟩
                       (obtain rfl := id hx; go_simp; first | done | rfl | (fail))
                       clear hK K)
                  try simp only [Act.put]
                with_reducible refine wpQuiet_nil ?_
                intro wq hq
                subst hq
                go_wp2_with fail
                go_meet
                exact ⟨rfl, HX6.out⟩
              case rest =>
              obtain ⟨rfl, h7⟩ := hcut
              have HX7 := Lib.hid h7
              clear h7 HC HR f1
              go_wp2_with fail
              go_roundw
              case rel => exact ⟨kk + 1, by simp, by have := HGK.out; omega, S, _, _, _, _, _, _, HX7.out, HLS.out, (by have := HBS.out; show S.bi ≤ (i : Int) * 30 + ((kk + 1 : Nat) : Int); omega)⟩
              case measure => have := HGK.out; simp [intOf]; omega
          · have hT : ((kk : Int) < k ∧ ¬ (kk : Int) < 30) ∨ ¬ (kk : Int) < k := by omega
            have HB2 := Lib.hid (show s2.bi ≤ ((i + 1 : Nat) : Int) * 30 by have := HBJ.out; omega)
            clear hgk
            rcases hT with ⟨j1, j2⟩ | j1
            all_goals
              have HSW := Lib.hid (show ∀ x, Below wr.heap.size wr x → Below wr.heap.size wr x ∧ x.cell? ⟨B, 5, none⟩ = some (.pointer (some ⟨km, 0, none⟩)) ∧ x.cell? ⟨km, 3, none⟩ = some (.int .i64 s2.t) ∧ x.cell? ⟨B, 6, none⟩ = some (.pointer (some ⟨ks, 0, none⟩)) ∧ x.cell? ⟨ks, 3, none⟩ = some (.int .i64 s2.t2) ∧ x.cell? ⟨B, 14, none⟩ = some (.bool s2.se) from fun x hx => ⟨hx, (HX2.out.on hx).p.r.blk.cellAt (i := 5) (by simp), (HX2.out.on hx).p.r.hkm.blk.cellAt (i := 3) (by simp), (HX2.out.on hx).p.r.blk.cellAt (i := 6) (by simp), (HX2.out.on hx).p.r.hks.blk.cellAt (i := 3) (by simp), (HX2.out.on hx).p.r.blk.cellAt (i := 14) (by simp)⟩)
              have HM1 := Lib.hid (show ∀ x, (Below wr.heap.size wr x ∧ x.cell? ⟨B, 5, none⟩ = some (.pointer (some ⟨km, 0, none⟩)) ∧ x.cell? ⟨km, 3, none⟩ = some (.int .i64 s2.t) ∧ x.cell? ⟨B, 6, none⟩ = some (.pointer (some ⟨ks, 0, none⟩)) ∧ x.cell? ⟨ks, 3, none⟩ = some (.int .i64 s2.t2) ∧ x.cell? ⟨B, 14, none⟩ = some (.bool s2.se)) → Calls Try.prog 52 #[.pointer (some ⟨A, 0, none⟩)] x fun y w' => y = .returned (.int .i64 s2.t) ∧ (Below wr.heap.size wr w' ∧ w'.cell? ⟨B, 5, none⟩ = some (.pointer (some ⟨km, 0, none⟩)) ∧ w'.cell? ⟨km, 3, none⟩ = some (.int .i64 s2.t) ∧ w'.cell? ⟨B, 6, none⟩ = some (.pointer (some ⟨ks, 0, none⟩)) ∧ w'.cell? ⟨ks, 3, none⟩ = some (.int .i64 s2.t2) ∧ w'.cell? ⟨B, 14, none⟩ = some (.bool s2.se)) from fun x hx => (pr_master s2 _ _ A x (HX2.out.on hx.1).p.a).mono fun y w' ⟨h1, h2⟩ => ⟨h1, h2 ▸ hx⟩)
              have HM2 := Lib.hid (show ∀ x, (Below wr.heap.size wr x ∧ x.cell? ⟨B, 5, none⟩ = some (.pointer (some ⟨km, 0, none⟩)) ∧ x.cell? ⟨km, 3, none⟩ = some (.int .i64 s2.t) ∧ x.cell? ⟨B, 6, none⟩ = some (.pointer (some ⟨ks, 0, none⟩)) ∧ x.cell? ⟨ks, 3, none⟩ = some (.int .i64 s2.t2) ∧ x.cell? ⟨B, 14, none⟩ = some (.bool s2.se)) → Calls Try.prog 53 #[.pointer (some ⟨A, 0, none⟩)] x fun y w' => y = .returned (.int .i64 s2.t2) ∧ (Below wr.heap.size wr w' ∧ w'.cell? ⟨B, 5, none⟩ = some (.pointer (some ⟨km, 0, none⟩)) ∧ w'.cell? ⟨km, 3, none⟩ = some (.int .i64 s2.t) ∧ w'.cell? ⟨B, 6, none⟩ = some (.pointer (some ⟨ks, 0, none⟩)) ∧ w'.cell? ⟨ks, 3, none⟩ = some (.int .i64 s2.t2) ∧ w'.cell? ⟨B, 14, none⟩ = some (.bool s2.se)) from fun x hx => (pr_slave s2 _ _ A x (HX2.out.on hx.1).p.a).mono fun y w' ⟨h1, h2⟩ => ⟨h1, h2 ▸ hx⟩)
              have HM3 := Lib.hid (show ∀ x, (Below wr.heap.size wr x ∧ x.cell? ⟨B, 5, none⟩ = some (.pointer (some ⟨km, 0, none⟩)) ∧ x.cell? ⟨km, 3, none⟩ = some (.int .i64 s2.t) ∧ x.cell? ⟨B, 6, none⟩ = some (.pointer (some ⟨ks, 0, none⟩)) ∧ x.cell? ⟨ks, 3, none⟩ = some (.int .i64 s2.t2) ∧ x.cell? ⟨B, 14, none⟩ = some (.bool s2.se)) → Calls Try.prog 54 #[.pointer (some ⟨A, 0, none⟩)] x fun y w' => y = .returned (.bool s2.se) ∧ (Below wr.heap.size wr w' ∧ w'.cell? ⟨B, 5, none⟩ = some (.pointer (some ⟨km, 0, none⟩)) ∧ w'.cell? ⟨km, 3, none⟩ = some (.int .i64 s2.t) ∧ w'.cell? ⟨B, 6, none⟩ = some (.pointer (some ⟨ks, 0, none⟩)) ∧ w'.cell? ⟨ks, 3, none⟩ = some (.int .i64 s2.t2) ∧ w'.cell? ⟨B, 14, none⟩ = some (.bool s2.se)) from fun x hx => (pr_settled s2 _ _ A x (HX2.out.on hx.1).p.a).mono fun y w' ⟨h1, h2⟩ => ⟨h1, h2 ▸ hx⟩)
              have HM4 := Lib.hid (show ∀ x, (Below wr.heap.size wr x ∧ x.cell? ⟨B, 5, none⟩ = some (.pointer (some ⟨km, 0, none⟩)) ∧ x.cell? ⟨km, 3, none⟩ = some (.int .i64 s2.t) ∧ x.cell? ⟨B, 6, none⟩ = some (.pointer (some ⟨ks, 0, none⟩)) ∧ x.cell? ⟨ks, 3, none⟩ = some (.int .i64 s2.t2) ∧ x.cell? ⟨B, 14, none⟩ = some (.bool s2.se)) → Calls Try.prog 55 #[.pointer (some ⟨A, 0, none⟩)] x fun y w' => y = .returned (.int .i64 s2.gap) ∧ (Below wr.heap.size wr w' ∧ w'.cell? ⟨B, 5, none⟩ = some (.pointer (some ⟨km, 0, none⟩)) ∧ w'.cell? ⟨km, 3, none⟩ = some (.int .i64 s2.t) ∧ w'.cell? ⟨B, 6, none⟩ = some (.pointer (some ⟨ks, 0, none⟩)) ∧ w'.cell? ⟨ks, 3, none⟩ = some (.int .i64 s2.t2) ∧ w'.cell? ⟨B, 14, none⟩ = some (.bool s2.se)) from fun x hx => (pr_gap s2 _ _ A x (HX2.out.on hx.1).p.a (HL2.out.gapR (by have := HBJ.out; omega))).mono fun y w' ⟨h1, h2⟩ => ⟨h1, HSW.out _ (below_transG hx.1 h2)⟩)
              have HM5 := Lib.hid (show ∀ x, (Below wr.heap.size wr x ∧ x.cell? ⟨B, 5, none⟩ = some (.pointer (some ⟨km, 0, none⟩)) ∧ x.cell? ⟨km, 3, none⟩ = some (.int .i64 s2.t) ∧ x.cell? ⟨B, 6, none⟩ = some (.pointer (some ⟨ks, 0, none⟩)) ∧ x.cell? ⟨ks, 3, none⟩ = some (.int .i64 s2.t2) ∧ x.cell? ⟨B, 14, none⟩ = some (.bool s2.se)) → Calls Try.prog 56 #[.pointer (some ⟨B, 0, none⟩)] x fun y w' => y = .returned (.int .i64 s2.gap) ∧ (Below wr.heap.size wr w' ∧ w'.cell? ⟨B, 5, none⟩ = some (.pointer (some ⟨km, 0, none⟩)) ∧ w'.cell? ⟨km, 3, none⟩ = some (.int .i64 s2.t) ∧ w'.cell? ⟨B, 6, none⟩ = some (.pointer (some ⟨ks, 0, none⟩)) ∧ w'.cell? ⟨ks, 3, none⟩ = some (.int .i64 s2.t2) ∧ w'.cell? ⟨B, 14, none⟩ = some (.bool s2.se)) from fun x hx => (rp_gap (HX2.out.on hx.1).p.r (HL2.out.gapR (by have := HBJ.out; omega))).mono fun y w' ⟨h1, h2⟩ => ⟨h1, HSW.out _ (below_transG hx.1 h2)⟩)
              obtain ⟨GP, hGP⟩ : ∃ z, z = s2.gap := ⟨_, rfl⟩
              rw [← hGP] at HM4 HM5
              clear hGP
              obtain ⟨T1, hT1⟩ : ∃ z, z = s2.t := ⟨_, rfl⟩
              obtain ⟨T2, hT2⟩ : ∃ z, z = s2.t2 := ⟨_, rfl⟩
              obtain ⟨SE, hSE⟩ : ∃ z, z = s2.se := ⟨_, rfl⟩
              rw [← hT1, ← hT2, ← hSE] at HSW HM1 HM2 HM3 HM4 HM5
              clear hT1 hT2 hSE
              have tq1 : (T1 == T1) = true := by simp
              have tq2 : (T2 == T2) = true := by simp
              have tq3 : (GP == GP) = true := by simp
              have tq4 : (SE == SE) = true := by simp
              have HS0 := Lib.hid (HSW.out _ (Below.refl _ _).drew)
              go_upto_region 23 with fail
              go_cut [134] (fun s134 wx => s134 = .bool false ∧ Below wr.heap.size wr wx)
              case first =>
                refine wp_region_class (C := fun x => Below wr.heap.size wr x ∧ x.cell? ⟨B, 5, none⟩ = some (.pointer (some ⟨km, 0, none⟩)) ∧ x.cell? ⟨km, 3, none⟩ = some (.int .i64 T1) ∧ x.cell? ⟨B, 6, none⟩ = some (.pointer (some ⟨ks, 0, none⟩)) ∧ x.cell? ⟨ks, 3, none⟩ = some (.int .i64 T2) ∧ x.cell? ⟨B, 14, none⟩ = some (.bool SE)) (by kernel_rfl) (by kernel_rfl) (HS0.out) ?_
                repeat
                  with_reducible refine wpQuiet_step (fun K hK => ?_)
                  first
                    | (refine quiet_skip (by rfl) ?_; (with_reducible refine hK _ ?_); clear hK K)
                    | (refine quiet_want (by rfl) ?_
                       apply Exists.intro
                       refine ⟨fun x hx => ?_, hK _ ?_⟩
                       (have hy1 := hx.2.1; have hy2 := hx.2.2.1; have hy3 := hx.2.2.2.1; have hy4 := hx.2.2.2.2.1; have hy5 := hx.2.2.2.2.2; go_simp; first | done | with_reducible rfl | (go_at_call 52; with_reducible exact HM1.out x hx) | (go_at_call 53; with_reducible exact HM2.out x hx) | (go_at_call 54; with_reducible exact HM3.out x hx) | (go_at_call 55; with_reducible exact HM4.out x hx) | (go_at_call 56; with_reducible exact HM5.out x hx) )
                       clear hK K)
                  try simp only [Act.put, List.setIfInBounds_toArray, List.set_cons_zero, List.set_cons_succ]
                with_reducible refine wpQuiet_nil ?_
                intro wq hq
                have HQ := Lib.hid hq.1
                clear hq
                go_wp2_with fail
                go_meet
                exact ⟨rfl, HQ.out⟩
              case rest =>
              obtain ⟨rfl, hb⟩ := hcut
              have HPZ := Lib.hid (HX2.out.on hb).p
              clear hb HSW HM1 HM2 HM3 HM4 HM5 HS0
              go_wp2_with fail
              go_roundw
              case rel => exact ⟨i + 1, by simp, by have := HGO.out; omega, s2, _, _, _, _, _, _, HPZ.out, HL2.out, HB2.out⟩
              case measure => have := HGO.out; simp [intOf]; omega
      · have hT : ((i : Int) < (L.length : Int) ∧ ¬ (i : Int) < 40) ∨ ¬ (i : Int) < (L.length : Int) := by omega
        clear hgo
        rcases hT with ⟨i1, i2⟩ | i1
        all_goals
          go_wp2_with fail
          refine (live19 _).mono ?_
          rintro y w5 ⟨rfl, hb⟩
          have HBz := Lib.hid (below_transG HQ0.out.below hb)
          clear hb
          go_wp2_with fail
          go_ret
          exact ⟨rfl, HBz.out⟩
  · have hn2 := Bool.eq_false_iff.mpr hN
    have HNA := Lib.hid (fun z => pr_new_no n d u st (wf64 v1) hn2 z)
    have HNR := Lib.hid (fun z => rp_new_no n d u st (wf64 v1) hn2 z)
    clear hN hn2
    go_enter Try.func7, Try.ntmps7
    go_upto_region 1 with fail
    rw [← hW0]
    obtain ⟨C, hC⟩ : ∃ C, C = w.heap.size := ⟨_, rfl⟩
    rw [← hC] at HA0 ⊢
    have HCW := Lib.hid hC
    clear hW0 hC
    have c0 := HA0.out.cellAt (i := 0) (by simp); have c1 := HA0.out.cellAt (i := 1) (by simp); have c2 := HA0.out.cellAt (i := 2) (by simp)
    go_wp2_with fail
    refine (HNA.out _).mono ?_
    rintro y w2 ⟨rfl, hb⟩
    have HA2 := Lib.hid (HA0.out.keep hb HA0.out.lt); have HB2 := Lib.hid (below_transG HB0.out hb)
    clear hb c0 c1 c2 HA0 HB0
    have c0 := HA2.out.cellAt (i := 0) (by simp); have c1 := HA2.out.cellAt (i := 1) (by simp); have c2 := HA2.out.cellAt (i := 2) (by simp)
    go_wp2_with fail
    refine (HPL.out _).mono ?_
    rintro y w3 ⟨rfl, hb⟩
    have HB3 := Lib.hid (below_transG HB2.out hb)
    clear hb c0 c1 c2 HA2 HB2
    go_wp2_with fail
    refine (HNR.out _).mono ?_
    rintro y w4 ⟨rfl, hb⟩
    have HB4 := Lib.hid (below_transG HB3.out hb)
    clear hb HB3
    go_wp2_with fail
    refine (live19 _).mono ?_
    rintro y w5 ⟨rfl, hb⟩
    have HBz := Lib.hid (below_transG HB4.out hb)
    clear hb
    go_wp2_with fail
    go_ret
    exact ⟨rfl, HBz.out⟩
set_option maxRecDepth 100000 in
theorem lifted (os : Os) (started : os.Started) (H : Type) (enc : TypeId × Value → H) :
    ReturnsInHanded {} Try.checked os 7 .any (Rows.accordPlaysSpec.pre6 enc Try.prog Try.f7 Rows.accordPlaysRow.domain false) (Rows.accordPlaysSpec.post enc Try.prog Try.f7 false true false false) := by
  refine returnsInHanded_of_change (C := Try.checked) own started (by kernel_rfl) Try.func7
    (ChangeSpec.witness6 (enc := enc) (C := Try.checked) false ⟨#[], #[.agg #[.int .i64 0, .int .i64 0, .int .i64 0], .int .i64 0, .slice none 0 0], []⟩ 8 (by kernel_rfl) (by kernel_rfl) (by kernel_rfl) (by kernel_rfl)) ?_
  intro W base args ds gs before hval0 hW _ _
  have hval : ∀ (j : Nat) t v, Try.f7.params[j]? = some t → args[j]? = some v → Value.okWide Try.prog W .any base t v := hval0
  have hW' := hW
  obtain ⟨p, q, hA0, hV, rfl, hfz, hnd⟩ := hW
  have hA : DataW.TrodAll enc Try.prog W 0 (fun _ => true) true Try.f7.params.toList args.toList ds p := hA0
  rw [Try.params7] at hA hval
  obtain ⟨v0, vs0, d0, ds0, p0, q0, hargs, rfl, rfl, h0, r0⟩ := trodAll_cons hA
  obtain ⟨v1, vs1, d1, ds1, p1, q1, rfl, rfl, rfl, h1, r1⟩ := trodAll_cons r0
  obtain ⟨v2, vs2, d2, ds2, p2, q2, rfl, rfl, rfl, h2, r2⟩ := trodAll_cons r1
  obtain ⟨rfl, rfl, rfl⟩ := trodAll_nil r2
  obtain rfl : args = #[v0, v1, v2] := by cases args; simp_all
  obtain ⟨rfl, rfl⟩ := trodVars_none hV
  have k0 := h0
  have lt0 : ∀ x ∈ p0, x.block < W.heap.size := by obtain ⟨m, hm⟩ := k0; exact DataW.trod_lt m _ _ _ hm
  obtain ⟨xa0, xb0, xc0, rfl, wa0, wb0, wc0⟩ := open_aconf (hval 0 92 v0 rfl rfl) h0
  obtain ⟨a1, rfl, rfl, rfl, w1⟩ := open_int Try.underlying2 (hval 1 2 v1 rfl rfl) h1
  obtain ⟨a2, len2, cap2, rfl⟩ := okWide_slice Try.underlying93 (hval 2 93 v2 rfl rfl)
  have k2 := h2
  have lt2 : ∀ x ∈ p2, x.block < W.heap.size := by obtain ⟨m, hm⟩ := k2; exact DataW.trod_lt m _ _ _ hm
  obtain ⟨L2, wl2, ww2, wr2⟩ : ∃ L : List A19, L.length = len2 ∧ (∀ s ∈ L, A19.wf s) ∧ Rd W 5 (.slice a2 len2 cap2) (L.flatMap A19.C) := by
    obtain ⟨fuel, hf⟩ := h2
    exact open_rows A19.C A19.wf 5 (by decide) Try.underlying93 (by kernel_rfl) (fun _ => rfl) (fun _ _ _ => act19G) (by simpa [Value.cells] using hf)
  clear hA0 hval0
  refine (walk xa0 xb0 xc0 a1 a2 len2 cap2 L2 W wa0 wb0 wc0 w1 ⟨wl2, ww2, wr2⟩).mono fun e W' ⟨he, bel⟩ => ?_
  subst he
  exact ⟨_, rfl, _, _, _, [], _, [], hW', trodAll_mk1 (shut_bool Try.underlying4 _), (trodAll_cons_mk (Below.trod laidOut (by kernel_rfl) (of_decide_eq_true (by kernel_rfl)) k0 bel lt0) (trodAll_cons_mk (shut_int Try.underlying2 w1) (trodAll_cons_mk (Below.trod laidOut (by kernel_rfl) (of_decide_eq_true (by kernel_rfl)) k2 bel lt2) trodAll_mk0))), rfl, bel.frame _, fun h => by cases h⟩
theorem over : Rows.accordPlaysRow.holds Try.pinned (OpenSpec.ofChange Rows.accordPlaysSpec) :=
  OpenClaim.holds_of_wide 7 Try.f7 rfl rfl rfl rfl rfl rfl rfl ⟨rfl, rfl, rfl, rfl, rfl⟩ rfl rfl rfl rfl rfl (by kernel_rfl) Try.func7 (by kernel_rfl)
    (of_decide_eq_true (by kernel_rfl)) (by unfold Func.isWrapper; first | (rw [if_pos (by decide +kernel)]; kernel_rfl) | (rw [if_neg (by decide +kernel)]; exact ⟨rfl, rfl⟩))
    (fun os started H enc _ => lifted os started H enc)
/-- The statement. -/
theorem proved : Rows.AccordPlaysSaid := over
end Go.Proofs.Ytbjelggbnmfblaa.accordPlays
