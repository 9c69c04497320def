/- TopTold (E2): a time that is told by two words, as frames, is what the slave has then, but for how both went on. No conditions. -/
import Derived.Test.YtpamkmpaldepnaaRows
import Derived.Test.YtpamkmpaldepnaaTta
import Derived.Test.YtpamkmpaldepnaaTtb
import Derived.Test.YtpamkmpaldepnaaOpa
import Derived.WalkKit
import Derived.ProofKit
import Derived.OpenShut
import Derived.ShutString
import Derived.ChangeOld
import Derived.Below
namespace Go.Proofs.Ytpamkmpaldepnaa.topTold
open Go.ChangeShapes Go.WideShapes Go.ChangeAt Go.RowKit
theorem own : ownKnob Try.prog.godebug = none := by kernel_rfl
theorem laidOut : laidOutB Try.prog = true := by kernel_rfl
def TP (rd : Int) (i : Nat) (s : PD) (nn : Int) (l : List Value) : Prop :=
  (i ≤ 20 ∧ nn = 0 ∧ s.no = none ∧ s.ap = none ∧ l = [.bool false, .bool false, .int .i64 0, .int .i64 0, .int .i64 0, .int .i64 0]) ∨ (20 < i ∧ i ≤ 40 ∧ nn = 0 ∧ (∃ x, s.no = some (x, 21)) ∧ s.ap = none ∧ l = [.bool true, .bool false, .int .i64 1, .int .i64 rd, .int .i64 0, .int .i64 20]) ∨ (40 < i ∧ nn = 1 ∧ s.no = none ∧ (∃ x, s.ap = some (x, 21)) ∧ l.length = 6)
set_option maxRecDepth 100000 in
set_option maxHeartbeats 16000000 in
theorem walk (n d u : Int) (ra : Option Addr) (la ca : Nat) (za : List Int) (rb : Option Addr) (lb cb : Nat) (zb : List Int) (rd : Int) (w : World) (v1 : (Lit.int .i64 n).wf = true) (_ : (Lit.int .i64 d).wf = true) (_ : (Lit.int .i64 u).wf = true) (w1_ : RowI .u16 w ra la ca za ∧ RowI .u16 w rb lb cb zb) (v5 : (Lit.int .u16 rd).wf = true) :
    Calls Try.prog 7 #[.agg #[.int .i64 n, .int .i64 d, .int .i64 u], .agg #[.slice ra la ca, .slice rb lb cb], .int .u16 rd] w fun y w' => y = .returned (.bool true) ∧ Below w.heap.size w w' := by
  have HRW := Lib.hid w1_
  have hrd : 0 ≤ rd ∧ rd ≤ 65535 := by
    simp [Lit.wf, IntKind.min, IntKind.max, IntKind.bits, IntKind.signed] at v5
    omega
  have HRD := Lib.hid hrd
  have hrw : wrap64 rd = rd := w64_in _ (by omega)
  clear w1_ hrd v5
  obtain ⟨W0, hW0⟩ : ∃ W, W = ((w.alloc (.cells #[.int .i64 n, .int .i64 d, .int .i64 u] 25)).alloc (.cells #[.slice ra la ca, .slice rb lb cb] 61)) := ⟨_, rfl⟩
  have HB0 := Lib.hid (show Below w.heap.size w W0 by rw [hW0]; exact ((Below.refl _ w).alloc (Nat.le_refl _) _).alloc (by simp) _)
  have HA0 := Lib.hid (show Blk W0 w.heap.size 25 [.int .i64 n, .int .i64 d, .int .i64 u] by rw [hW0]; exact (Blk.new w 25 [.int .i64 n, .int .i64 d, .int .i64 u]).keep ((Below.refl _ _).alloc (Nat.le_refl _) _) (by simp))
  have HC0 := Lib.hid (show Blk W0 (w.heap.size + 1) 61 [.slice ra la ca, .slice rb lb cb] by
    rw [hW0]
    have := Blk.new (w.alloc (Obj.cells #[.int .i64 n, .int .i64 d, .int .i64 u] 25)) 61 [.slice ra la ca, .slice rb lb cb]
    rw [show (w.alloc (Obj.cells #[.int .i64 n, .int .i64 d, .int .i64 u] 25)).heap.size = w.heap.size + 1 by simp] at this
    exact this)
  have HSM := Lib.hid (fun z => lw_small19 n d u (wf64 v1) z)
  have hsm := sm_in n d u
  have hri := sm_right n d u
  obtain ⟨N0, hN0⟩ : ∃ x, x = smN n := ⟨_, rfl⟩
  obtain ⟨D0, hD0⟩ : ∃ x, x = smD n d := ⟨_, rfl⟩
  obtain ⟨T0, hT0⟩ : ∃ x, x = smT u := ⟨_, rfl⟩
  rw [← hN0, ← hD0, ← hT0] at HSM hri
  rw [← hN0, ← hD0, ← hT0] at hsm
  have HSI := Lib.hid hsm
  have HNW := Lib.hid (fun z => pr_new_yes N0 D0 T0 0 (by omega) hri (by omega) z)
  obtain ⟨SL, hSL⟩ : ∃ z, z = slopeC N0 D0 T0 := ⟨_, rfl⟩
  have HSL := Lib.hid (show (0 ≤ SL ∧ SL ≤ 2113537) ∧ (N0 + D0 - (N0 - D0)) * 1048576 + (N0 + D0) * T0 ≤ SL * 1048576 from ⟨by have := slope_in N0 D0 T0; rw [← hSL] at this; omega, by have := slopeK hri; rw [← hSL] at this; rw [show N0 + D0 - (N0 - D0) = 2 * D0 by omega]; exact this⟩)
  have HSLE := Lib.hid hSL.symm
  have HRI := Lib.hid hri
  have HIZ := Lib.hid ((HI.start N0 D0 T0 0 SL hsm.2.2 (by omega)).mono HSL.out.1.1 (show (0 : Int) ≤ 39 by decide))
  clear hsm hri hN0 hD0 hT0 hSL v1
  go_enter Try.func7, Try.ntmps7
  go_upto_region 1 with fail
  rw [← hW0]
  have HZ := Lib.hid (show ∀ x, Below W0.heap.size W0 x → Below W0.heap.size W0 x ∧ x.cell? ⟨w.heap.size + 1, 0, none⟩ = some (.slice ra la ca) ∧ x.cell? ⟨w.heap.size + 1, 1, none⟩ = some (.slice rb lb cb) from fun x hx => ⟨hx, (HC0.out.keep hx HC0.out.lt).cellAt (i := 0) (by simp), (HC0.out.keep hx HC0.out.lt).cellAt (i := 1) (by simp)⟩)
  clear hW0
  refine wp_region_class (C := fun x => Below W0.heap.size W0 x ∧ x.cell? ⟨w.heap.size + 1, 0, none⟩ = some (.slice ra la ca) ∧ x.cell? ⟨w.heap.size + 1, 1, none⟩ = some (.slice rb lb cb)) (by kernel_rfl) (by kernel_rfl) (HZ.out _ (Below.refl _ _).drew) ?_
  repeat
    with_reducible refine wpQuiet_step (fun K hK => ?_)
    first
      | (refine quiet_skip (by rfl) ?_; (with_reducible refine hK _ ?_); clear hK K)
      | (refine quiet_want (by rfl) ?_
         apply Exists.intro
         refine ⟨fun x hx => ?_, hK _ ?_⟩
         (obtain ⟨_, hx1, hx2⟩ := id hx; go_simp; first | done | rfl | (fail))
         clear hK K)
    try simp only [Act.put, List.setIfInBounds_toArray, List.set_cons_zero, List.set_cons_succ]
  with_reducible refine wpQuiet_nil ?_
  intro wq hq
  obtain ⟨w1, hw1⟩ : ∃ x, x = wq := ⟨_, rfl⟩
  rw [← hw1] at hq ⊢
  have HB1 := Lib.hid (below_transG HB0.out hq.1)
  have HA1 := Lib.hid (HA0.out.keep hq.1 HA0.out.lt)
  clear hw1 hq HZ HA0 HC0 HB0
  obtain ⟨C, hC⟩ : ∃ C, C = w.heap.size := ⟨_, rfl⟩
  rw [← hC] at HA1 ⊢
  have HCW := Lib.hid hC
  clear hC
  have c0 : w1.cell? ⟨C, 0, none⟩ = some (.int .i64 n) := HA1.out.cellAt (i := 0) (by simp)
  have c1 : w1.cell? ⟨C, 1, none⟩ = some (.int .i64 d) := HA1.out.cellAt (i := 1) (by simp)
  have c2 : w1.cell? ⟨C, 2, none⟩ = some (.int .i64 u) := HA1.out.cellAt (i := 2) (by simp)
  go_wp2_with fail
  refine (HSM.out _).mono ?_
  rintro y w2 ⟨rfl, hb⟩
  have HB2 := Lib.hid (below_transG HB1.out hb)
  have HA2 := Lib.hid (HA1.out.keep hb HA1.out.lt)
  clear hb c0 c1 c2 HA1 HB1
  have c0 : w2.cell? ⟨C, 0, none⟩ = some (.int .i64 n) := HA2.out.cellAt (i := 0) (by simp)
  have c1 : w2.cell? ⟨C, 1, none⟩ = some (.int .i64 d) := HA2.out.cellAt (i := 1) (by simp)
  have c2 : w2.cell? ⟨C, 2, none⟩ = some (.int .i64 u) := HA2.out.cellAt (i := 2) (by simp)
  have f0 : w2.frozen? ⟨C, 0, none⟩ = false := HA2.out.frozenAt 0
  have f1 : w2.frozen? ⟨C, 1, none⟩ = false := HA2.out.frozenAt 1
  have f2 : w2.frozen? ⟨C, 2, none⟩ = false := HA2.out.frozenAt 2
  have hcl := HA2.out.lt
  have HA3 := Lib.hid (((HA2.out.put1 (i := 0) (by simp) (.int .i64 N0)).put1 (i := 1) (by simp) (.int .i64 D0)).put1 (i := 2) (by simp) (.int .i64 T0))
  have HB3 := Lib.hid (((HB2.out.setCell (p := ⟨C, 0, none⟩) (by have := HCW.out; show w.heap.size ≤ C; omega) (.int .i64 N0)).setCell (p := ⟨C, 1, none⟩) (by have := HCW.out; show w.heap.size ≤ C; omega) (.int .i64 D0)).setCell (p := ⟨C, 2, none⟩) (by have := HCW.out; show w.heap.size ≤ C; omega) (.int .i64 T0))
  go_upto_region 3 with fail
  obtain ⟨w3, hw3⟩ : ∃ w3, w3 = (((w2.setCell ⟨C, 0, none⟩ (.int .i64 N0)).setCell ⟨C, 1, none⟩ (.int .i64 D0)).setCell ⟨C, 2, none⟩ (.int .i64 T0)) := ⟨_, rfl⟩
  rw [← hw3] at HA3 HB3 ⊢
  clear c0 c1 c2 f0 f1 f2 hcl hw3 HA2 HB2
  have HA4 := Lib.hid (show Blk w3 C 25 [.int .i64 N0, .int .i64 D0, .int .i64 T0] from HA3.out)
  clear HA3
  have c0 : w3.cell? ⟨C, 0, none⟩ = some (.int .i64 N0) := HA4.out.cellAt (i := 0) (by simp)
  have c1 : w3.cell? ⟨C, 1, none⟩ = some (.int .i64 D0) := HA4.out.cellAt (i := 1) (by simp)
  have c2 : w3.cell? ⟨C, 2, none⟩ = some (.int .i64 T0) := HA4.out.cellAt (i := 2) (by simp)
  go_wp2_with fail
  refine (HNW.out _).mono ?_
  rintro y w4 ⟨B, rfl, hP, hBl, hb⟩
  have HH4 := Lib.hid (show PH w w4 C B N0 D0 T0 (newP N0 D0 T0 0) (.pointer none) (.pointer none) from ⟨⟨hP, below_transG HB3.out hb, by have := HB3.out.size; omega⟩, HA4.out.keep hb HA4.out.lt, by have := HA4.out.lt; omega⟩)
  clear hP hBl hb c0 c1 c2 HNW HSM HA4 HB3
  obtain ⟨S0, hS0⟩ : ∃ S0, S0 = newP N0 D0 T0 0 := ⟨_, rfl⟩
  have HN0 := Lib.hid (show S0.noB ∧ S0.bi = 0 ∧ S0.no = none ∧ S0.ap = none by rw [hS0]; exact ⟨PD.noB_none rfl, rfl, rfl, rfl⟩)
  rw [← hS0] at HH4 HIZ
  clear hS0
  go_wp2_with fail
  refine (slnew_any _).mono ?_
  rintro y w5 ⟨X, rfl, hX, hXl, hb⟩
  have HXN := Lib.hid (show B ≠ X ∧ C ≠ X ∧ w.heap.size ≤ X from ⟨by have := HH4.out.q.a.blk.lt; omega, by have := HH4.out.c.lt; omega, by have := HH4.out.q.below.size; omega⟩)
  have HH5 := Lib.hid (HH4.out.on hb)
  have HX5 := Lib.hid hX
  clear hb hX hXl HH4
  go_wp2_with fail
  go_loopw [12, 13] (fun s12 s13 wr => ∃ (i : Nat) (s : PD) (pn pa : Value) (nn : Int) (l : List Value), s13 = .int .i64 (i : Int) ∧ i ≤ 60 ∧ s12 = .int .i64 nn ∧ PH w wr C B N0 D0 T0 s pn pa ∧ Blk wr X 106 l ∧ HI SL T0 39 s ∧ s.noB ∧ s.bi = (i : Int) ∧ TP rd i s nn l ∧ (41 < i → s.se = true → -(39 * SL + 2) ≤ s.t - s.t2 ∧ s.t - s.t2 ≤ 39 * SL + 2)) (fun _ s13 _ => 60 - (intOf s13).toNat)
  case atStart => exact ⟨0, S0, _, _, 0, _, rfl, by omega, rfl, HH5.out, HX5.out, HIZ.out, HN0.out.1, HN0.out.2.1, .inl ⟨by omega, rfl, HN0.out.2.2.1, HN0.out.2.2.2, rfl⟩, fun h => by omega⟩
  case round =>
    obtain ⟨i, s, pn, pa, nn, l, rfl, hi60, rfl, hH, hX, hI, hN, hbi, hph, hse⟩ := hrel
    have HH2 := Lib.hid hH; have HX2 := Lib.hid hX; have HI2 := Lib.hid hI; have HN2 := Lib.hid hN; have HB2 := Lib.hid hbi; have HPH := Lib.hid hph; have HSE := Lib.hid hse
    clear hH hX hI hN hbi hph hse HH5 HX5 HIZ HN0
    by_cases hgo : i < 60
    · have i1 : (i : Int) < 60 := by omega
      have HGO := Lib.hid hgo
      obtain ⟨ta, hRa, hTa⟩ := tp_ticks N0 D0 T0 HSI.out.1 (by have := HSI.out; omega) ra la ca za w HRW.out.1 i hgo
      obtain ⟨tb, hRb, hTb⟩ := tp_ticks N0 D0 T0 HSI.out.1 (by have := HSI.out; omega) rb lb cb zb w HRW.out.2 i hgo
      have HTa := Lib.hid hTa; have HTb := Lib.hid hTb; have HRa := Lib.hid hRa; have HRb := Lib.hid hRb
      clear hTa hTb hRa hRb hgo
      have HZA := Lib.hid (show ∀ x, Below wr.heap.size wr x → (fun x => Below wr.heap.size wr x ∧ x.cell? ⟨C, 0, none⟩ = some (.int .i64 N0) ∧ x.cell? ⟨C, 1, none⟩ = some (.int .i64 D0) ∧ x.cell? ⟨C, 2, none⟩ = some (.int .i64 T0)) x from fun x hx => ⟨hx, (HH2.out.c.keep hx HH2.out.c.lt).cellAt (i := 0) (by simp), (HH2.out.c.keep hx HH2.out.c.lt).cellAt (i := 1) (by simp), (HH2.out.c.keep hx HH2.out.c.lt).cellAt (i := 2) (by simp)⟩)
      go_upto_region 11 with fail
      refine wp_region_class (C := fun x => Below wr.heap.size wr x ∧ x.cell? ⟨C, 0, none⟩ = some (.int .i64 N0) ∧ x.cell? ⟨C, 1, none⟩ = some (.int .i64 D0) ∧ x.cell? ⟨C, 2, none⟩ = some (.int .i64 T0)) (by kernel_rfl) (by kernel_rfl) (HZA.out _ (Below.refl _ _).drew) ?_
      repeat
        with_reducible refine wpQuiet_step (fun K hK => ?_)
        first
          | (refine quiet_skip (by rfl) ?_; (with_reducible refine hK _ ?_); clear hK K)
          | (refine quiet_want (by rfl) ?_
             apply Exists.intro
             refine ⟨fun x hx => ?_, hK _ ?_⟩
             (obtain ⟨_, hx1, hx2, hx3⟩ := id hx; go_simp; first | done | rfl | (first | (go_at_call 33; with_reducible exact Calls.mono (HTa.out _ (below_transG HH2.out.q.below hx.1)) (fun y w' h => ⟨h.1, HZA.out _ (below_transG hx.1 h.2)⟩)) | (go_at_call 33; with_reducible exact Calls.mono (HTb.out _ (below_transG HH2.out.q.below hx.1)) (fun y w' h => ⟨h.1, HZA.out _ (below_transG hx.1 h.2)⟩))))
             clear hK K)
        try simp only [Act.put, List.setIfInBounds_toArray, List.set_cons_zero, List.set_cons_succ]
      with_reducible refine wpQuiet_nil ?_
      intro wq hq
      obtain ⟨W3, hW3⟩ : ∃ x, x = wq := ⟨_, rfl⟩
      rw [← hW3] at hq ⊢
      obtain ⟨hq1, _⟩ := hq
      have HH3 := Lib.hid (HH2.out.on hq1); have HX3 := Lib.hid (HX2.out.keep hq1 HX2.out.lt)
      clear hq1 hW3 HZA HTa HTb
      have hbi2 : s.bi < 2400 := by have := HB2.out; have := HGO.out; omega
      obtain ⟨he, hf, hST⟩ := HI2.out.step (lo := N0 - D0) (hi := N0 + D0) (m := ta) (x := tb) hbi2 HSL.out.1 (by have := HSI.out; omega) HSL.out.2 HRa.out HRb.out
      obtain ⟨S, hS⟩ : ∃ S, S = s.stepped ta tb := ⟨_, rfl⟩
      have HC := Lib.hid (pr_step_ok s pn pa ta tb (by have := HSI.out; have := HRa.out; omega) (by have := HSI.out; have := HRb.out; omega) (by have := HI2.out.bi; omega) B W3 HH3.out.q.a he hf)
      have HNBS := Lib.hid (show S.noB by rw [hS]; exact HN2.out)
      have HBIS := Lib.hid (show S.bi = (i : Int) + 1 by rw [hS]; show s.bi + 1 = _; have := HB2.out; omega)
      have HNOS := Lib.hid (show S.no = s.no ∧ S.ap = s.ap by rw [hS]; exact ⟨rfl, rfl⟩)
      rw [← hS] at HC hST
      have hgp : S.gap ≤ 39 := by
        unfold PD.gap
        rw [HNOS.out.2]
        rcases HPH.out with ⟨_, _, _, h, _⟩ | ⟨_, _, _, _, h, _⟩ | ⟨_, _, _, ⟨x, h⟩, _⟩
        · rw [h]; show (0 : Int) ≤ 39; decide
        · rw [h]; show (0 : Int) ≤ 39; decide
        · rw [h]; show S.bi - 21 ≤ 39; have := HBIS.out; have := HGO.out; omega
      have hST2 := hST 39 (by decide) hgp
      have HIS := Lib.hid hST2.1
      have HOK := Lib.hid hST2.2
      have hS40 : S.bi ≤ 2400 := by have := HBIS.out; have := HGO.out; omega
      have HHAS := Lib.hid (HIS.out.has hS40)
      clear hST hST2 he hf hgp hS hbi2 i1
      go_upto_region 12 with fail
      go_wp2_with fail
      refine HC.out.mono ?_
      rintro yy w5 ⟨rfl, hP, hkp⟩
      have HH5 := Lib.hid (HH3.out.step hP hkp)
      have HX5 := Lib.hid (blk_kp HX3.out HXN.out.1.symm hkp)
      clear hP hkp HC
      rcases HPH.out with ⟨p1, p2, p3, p4, rfl⟩ | ⟨p1, p2, p3, ⟨nx, p4⟩, p5, rfl⟩ | ⟨p1, p2, p3, ⟨nx, p4⟩, p5⟩
      · obtain rfl := p2
        have k40 : ((i : Int) == 40) = false := by rw [beq_eq_false_iff_ne]; omega
        by_cases h20 : i = 20
        · have k20 : ((i : Int) == 20) = true := by rw [beq_iff_eq]; omega
          obtain ⟨gn, gl, y0, y1, y2, y3, y4, y5, y6, y7, hF, hO⟩ := word_back false 1 rd 0 (rightW_yes ⟨by decide, by have := HRD.out; omega, by decide, .inr rfl⟩)
          have HF := Lib.hid hF; have HO := Lib.hid hO
          have HHE := Lib.hid (fun u h => slhear_any false 0 0 0 false 1 rd 0 (i : Int) X u h)
          have hnb : noteB false 1 rd 0 = true := decide_eq_true ⟨rightW_yes ⟨by decide, by have := HRD.out; omega, by decide, .inr rfl⟩, rfl⟩
          have htl : tellB false 0 0 false 1 rd 0 = false := decide_eq_false (by simp)
          rw [hnb, htl, if_pos rfl] at HHE
          have HI5 := Lib.hid (HIS.out.noted hS40)
          have HCP := Lib.hid (fun u h => pr_capture_yes S pn pa B u h HHAS.out)
          have HPI := Lib.hid (And.intro h20 p4)
          clear hF hO hnb htl h20 p1 p3 p4 hS40
          go_wp2_with fail
          skip
          skip
          skip
          refine (HF.out _).mono ?_
          rintro yy w6 ⟨rfl, hb⟩
          have HH6 := Lib.hid (HH5.out.on hb); have HX6 := Lib.hid (HX5.out.keep hb HX5.out.lt)
          clear hb
          go_upto_region 16 with fail
          obtain ⟨w7, hww⟩ : ∃ x, x = w6.alloc (.cells #[.bool false, .int .u32 (gn : Int), .bool false, .int .i64 gl, .int .u8 (y0 : Int), .int .u8 (y1 : Int), .int .u8 (y2 : Int), .int .u8 (y3 : Int), .int .u8 (y4 : Int), .int .u8 (y5 : Int), .int .u8 (y6 : Int), .int .u8 (y7 : Int)] 71) := ⟨_, rfl⟩
          rw [← hww]
          have hb7 : Below w6.heap.size w6 w7 := by rw [hww]; exact (Below.refl _ _).alloc (Nat.le_refl _) _
          have HG7 := Lib.hid (show Blk w7 w6.heap.size 71 [.bool false, .int .u32 (gn : Int), .bool false, .int .i64 gl, .int .u8 (y0 : Int), .int .u8 (y1 : Int), .int .u8 (y2 : Int), .int .u8 (y3 : Int), .int .u8 (y4 : Int), .int .u8 (y5 : Int), .int .u8 (y6 : Int), .int .u8 (y7 : Int)] by rw [hww]; exact Blk.new w6 71 [.bool false, .int .u32 (gn : Int), .bool false, .int .i64 gl, .int .u8 (y0 : Int), .int .u8 (y1 : Int), .int .u8 (y2 : Int), .int .u8 (y3 : Int), .int .u8 (y4 : Int), .int .u8 (y5 : Int), .int .u8 (y6 : Int), .int .u8 (y7 : Int)])
          have HH7 := Lib.hid (HH6.out.on hb7); have HX7 := Lib.hid (HX6.out.keep hb7 HX6.out.lt)
          clear hww hb7
          have q0 : w7.cell? ⟨w6.heap.size, 0, none⟩ = some (.bool false) := HG7.out.cellAt (i := 0) (by simp)
          have q1 : w7.cell? ⟨w6.heap.size, 1, none⟩ = some (.int .u32 (gn : Int)) := HG7.out.cellAt (i := 1) (by simp)
          have q2 : w7.cell? ⟨w6.heap.size, 2, none⟩ = some (.bool false) := HG7.out.cellAt (i := 2) (by simp)
          have q3 : w7.cell? ⟨w6.heap.size, 3, none⟩ = some (.int .i64 gl) := HG7.out.cellAt (i := 3) (by simp)
          have q4 : w7.cell? ⟨w6.heap.size, 4, none⟩ = some (.int .u8 (y0 : Int)) := HG7.out.cellAt (i := 4) (by simp)
          have q5 : w7.cell? ⟨w6.heap.size, 5, none⟩ = some (.int .u8 (y1 : Int)) := HG7.out.cellAt (i := 5) (by simp)
          have q6 : w7.cell? ⟨w6.heap.size, 6, none⟩ = some (.int .u8 (y2 : Int)) := HG7.out.cellAt (i := 6) (by simp)
          have q7 : w7.cell? ⟨w6.heap.size, 7, none⟩ = some (.int .u8 (y3 : Int)) := HG7.out.cellAt (i := 7) (by simp)
          have q8 : w7.cell? ⟨w6.heap.size, 8, none⟩ = some (.int .u8 (y4 : Int)) := HG7.out.cellAt (i := 8) (by simp)
          have q9 : w7.cell? ⟨w6.heap.size, 9, none⟩ = some (.int .u8 (y5 : Int)) := HG7.out.cellAt (i := 9) (by simp)
          have q10 : w7.cell? ⟨w6.heap.size, 10, none⟩ = some (.int .u8 (y6 : Int)) := HG7.out.cellAt (i := 10) (by simp)
          have q11 : w7.cell? ⟨w6.heap.size, 11, none⟩ = some (.int .u8 (y7 : Int)) := HG7.out.cellAt (i := 11) (by simp)
          go_wp2_with fail
          refine (HO.out _).mono ?_
          rintro yy w8 ⟨rfl, hb⟩
          have HH8 := Lib.hid (HH7.out.on hb); have HX8 := Lib.hid (HX7.out.keep hb HX7.out.lt)
          clear hb q0 q1 q2 q3 q4 q5 q6 q7 q8 q9 q10 q11
          go_upto_region 17 with fail
          obtain ⟨w9, hww⟩ : ∃ x, x = w8.alloc (.cells #[.bool false, .int .i64 1, .int .i64 rd, .int .i64 0] 75) := ⟨_, rfl⟩
          rw [← hww]
          have hb9 : Below w8.heap.size w8 w9 := by rw [hww]; exact (Below.refl _ _).alloc (Nat.le_refl _) _
          have HV9 := Lib.hid (show Blk w9 w8.heap.size 75 [.bool false, .int .i64 1, .int .i64 rd, .int .i64 0] by rw [hww]; exact Blk.new w8 75 [.bool false, .int .i64 1, .int .i64 rd, .int .i64 0])
          have HVN := Lib.hid (show w8.heap.size ≠ B by have := HH8.out.q.a.blk.lt; omega)
          have HH9 := Lib.hid (HH8.out.on hb9); have HX9 := Lib.hid (HX8.out.keep hb9 HX8.out.lt)
          clear hww hb9
          go_wp2_with fail
          refine (HCP.out _ HH9.out.q.a).mono ?_
          rintro yy w10 ⟨rfl, ⟨K, hP⟩, hkp⟩
          have HH10 := Lib.hid (HH9.out.step hP hkp); have HX10 := Lib.hid (blk_kp HX9.out HXN.out.1.symm hkp); have HV10 := Lib.hid (blk_kp HV9.out HVN.out hkp)
          clear hP hkp
          have q0 : w10.cell? ⟨w8.heap.size, 0, none⟩ = some (.bool false) := HV10.out.cellAt (i := 0) (by simp)
          have q1 : w10.cell? ⟨w8.heap.size, 1, none⟩ = some (.int .i64 1) := HV10.out.cellAt (i := 1) (by simp)
          have q2 : w10.cell? ⟨w8.heap.size, 2, none⟩ = some (.int .i64 rd) := HV10.out.cellAt (i := 2) (by simp)
          have q3 : w10.cell? ⟨w8.heap.size, 3, none⟩ = some (.int .i64 0) := HV10.out.cellAt (i := 3) (by simp)
          go_wp2_with fail
          refine (HHE.out _ HX10.out).mono ?_
          rintro yy w11 ⟨rfl, hXn, hkx⟩
          have HH11 := Lib.hid (HH10.out.hear HX10.out rfl HXN.out.1 HXN.out.2.1 HXN.out.2.2 hkx); have HX11 := Lib.hid hXn
          clear hXn hkx q0 q1 q2 q3
          go_wp2_with fail
          go_roundw
          case rel => exact ⟨i + 1, _, _, _, 0, _, by simp, by have := HGO.out; omega, rfl, HH11.out, HX11.out, HI5.out, PD.noB_less, (by have := HBIS.out; show S.bi = ((i + 1 : Nat) : Int); omega), (.inr (.inl ⟨by have := HPI.out; omega, by have := HPI.out; omega, rfl, ⟨S.less, by show some (S.less, S.bi) = _; have := HBIS.out; have := HPI.out.1; rw [show S.bi = 21 by omega]⟩, HNOS.out.2.trans HPI.out.2, by have := HPI.out.1; rw [show (i : Int) = 20 by omega]⟩)), (fun h => by have := HPI.out.1; omega)⟩
          case measure => have := HGO.out; simp [intOf]; omega
        · have k20 : ((i : Int) == 20) = false := by rw [beq_eq_false_iff_ne]; omega
          have HPI := Lib.hid (show i < 20 ∧ s.no = none ∧ s.ap = none from ⟨by omega, p3, p4⟩)
          clear h20 p1 p3 p4 hS40
          go_wp2_with fail
          go_roundw
          case rel => exact ⟨i + 1, S, _, _, 0, _, by simp, by have := HGO.out; omega, rfl, HH5.out, HX5.out, HIS.out, HNBS.out, (by have := HBIS.out; omega), (.inl ⟨by have := HPI.out; omega, rfl, HNOS.out.1.trans HPI.out.2.1, HNOS.out.2.trans HPI.out.2.2, rfl⟩), (fun h => by have := HPI.out.1; omega)⟩
          case measure => have := HGO.out; simp [intOf]; omega
      · obtain rfl := p3
        have k20 : ((i : Int) == 20) = false := by rw [beq_eq_false_iff_ne]; omega
        by_cases h40 : i = 40
        · have k40 : ((i : Int) == 40) = true := by rw [beq_iff_eq]; omega
          have hStt : 0 ≤ S.t ∧ S.t < 281474976710656 := by have h1 := HIS.out.cn; have h2 := HIS.out.m0.2.2.2; have := HBIS.out; omega
          have hrW : rightW true 1 rd S.t = true := rightW_yes ⟨by decide, by have := HRD.out; omega, hStt, .inl rfl⟩
          obtain ⟨gn, gl, y0, y1, y2, y3, y4, y5, y6, y7, hF, hO⟩ := word_back true 1 rd S.t hrW
          have HF := Lib.hid hF; have HO := Lib.hid hO
          have HHE := Lib.hid (fun u h => slhear_any true 1 rd 20 true 1 rd S.t (i : Int) X u h)
          have hnb : noteB true 1 rd S.t = false := decide_eq_false (by simp)
          have htl : tellB true 1 rd true 1 rd S.t = true := decide_eq_true ⟨hrW, rfl, rfl, rfl, rfl⟩
          rw [hnb, htl, if_pos rfl, if_pos rfl, if_neg (by decide), if_pos rfl] at HHE
          have hno := HNOS.out.1.trans p4
          have hxb := HNBS.out nx 21 hno
          have hap := HIS.out.applied hS40 HSL.out.1 1048576 nx 21 hno (by have := HSI.out; omega) (most' := 39) (by decide) (by have := HBIS.out; omega)
          have HAP := Lib.hid (fun u h => ap_yes S pn pa 1048576 nx 21 hxb B u h hno (by rw [HIS.out.tu.1]; have := HSI.out; omega) hap.1)
          have HI5 := Lib.hid hap.2
          have HPI := Lib.hid h40
          have kt : (S.t != S.t) = false := by simp
          clear hF hO hnb htl h40 p1 p2 p4 p5 hS40 hStt hrW hno hxb hap
          go_wp2_with fail
          refine (pr_master S _ _ B _ HH5.out.q.a).mono ?_
          rintro yy wz ⟨rfl, rfl⟩
          go_wp2_with fail
          refine (HF.out _).mono ?_
          rintro yy w6 ⟨rfl, hb⟩
          have HH6 := Lib.hid (HH5.out.on hb); have HX6 := Lib.hid (HX5.out.keep hb HX5.out.lt)
          clear hb
          go_upto_region 22 with fail
          obtain ⟨w7, hww⟩ : ∃ x, x = w6.alloc (.cells #[.bool false, .int .u32 (gn : Int), .bool false, .int .i64 gl, .int .u8 (y0 : Int), .int .u8 (y1 : Int), .int .u8 (y2 : Int), .int .u8 (y3 : Int), .int .u8 (y4 : Int), .int .u8 (y5 : Int), .int .u8 (y6 : Int), .int .u8 (y7 : Int)] 71) := ⟨_, rfl⟩
          rw [← hww]
          have hb7 : Below w6.heap.size w6 w7 := by rw [hww]; exact (Below.refl _ _).alloc (Nat.le_refl _) _
          have HG7 := Lib.hid (show Blk w7 w6.heap.size 71 [.bool false, .int .u32 (gn : Int), .bool false, .int .i64 gl, .int .u8 (y0 : Int), .int .u8 (y1 : Int), .int .u8 (y2 : Int), .int .u8 (y3 : Int), .int .u8 (y4 : Int), .int .u8 (y5 : Int), .int .u8 (y6 : Int), .int .u8 (y7 : Int)] by rw [hww]; exact Blk.new w6 71 [.bool false, .int .u32 (gn : Int), .bool false, .int .i64 gl, .int .u8 (y0 : Int), .int .u8 (y1 : Int), .int .u8 (y2 : Int), .int .u8 (y3 : Int), .int .u8 (y4 : Int), .int .u8 (y5 : Int), .int .u8 (y6 : Int), .int .u8 (y7 : Int)])
          have HH7 := Lib.hid (HH6.out.on hb7); have HX7 := Lib.hid (HX6.out.keep hb7 HX6.out.lt)
          clear hww hb7
          have q0 : w7.cell? ⟨w6.heap.size, 0, none⟩ = some (.bool false) := HG7.out.cellAt (i := 0) (by simp)
          have q1 : w7.cell? ⟨w6.heap.size, 1, none⟩ = some (.int .u32 (gn : Int)) := HG7.out.cellAt (i := 1) (by simp)
          have q2 : w7.cell? ⟨w6.heap.size, 2, none⟩ = some (.bool false) := HG7.out.cellAt (i := 2) (by simp)
          have q3 : w7.cell? ⟨w6.heap.size, 3, none⟩ = some (.int .i64 gl) := HG7.out.cellAt (i := 3) (by simp)
          have q4 : w7.cell? ⟨w6.heap.size, 4, none⟩ = some (.int .u8 (y0 : Int)) := HG7.out.cellAt (i := 4) (by simp)
          have q5 : w7.cell? ⟨w6.heap.size, 5, none⟩ = some (.int .u8 (y1 : Int)) := HG7.out.cellAt (i := 5) (by simp)
          have q6 : w7.cell? ⟨w6.heap.size, 6, none⟩ = some (.int .u8 (y2 : Int)) := HG7.out.cellAt (i := 6) (by simp)
          have q7 : w7.cell? ⟨w6.heap.size, 7, none⟩ = some (.int .u8 (y3 : Int)) := HG7.out.cellAt (i := 7) (by simp)
          have q8 : w7.cell? ⟨w6.heap.size, 8, none⟩ = some (.int .u8 (y4 : Int)) := HG7.out.cellAt (i := 8) (by simp)
          have q9 : w7.cell? ⟨w6.heap.size, 9, none⟩ = some (.int .u8 (y5 : Int)) := HG7.out.cellAt (i := 9) (by simp)
          have q10 : w7.cell? ⟨w6.heap.size, 10, none⟩ = some (.int .u8 (y6 : Int)) := HG7.out.cellAt (i := 10) (by simp)
          have q11 : w7.cell? ⟨w6.heap.size, 11, none⟩ = some (.int .u8 (y7 : Int)) := HG7.out.cellAt (i := 11) (by simp)
          go_wp2_with fail
          refine (HO.out _).mono ?_
          rintro yy w8 ⟨rfl, hb⟩
          have HH8 := Lib.hid (HH7.out.on hb); have HX8 := Lib.hid (HX7.out.keep hb HX7.out.lt)
          clear hb q0 q1 q2 q3 q4 q5 q6 q7 q8 q9 q10 q11
          go_upto_region 23 with fail
          obtain ⟨w9, hww⟩ : ∃ x, x = w8.alloc (.cells #[.bool true, .int .i64 1, .int .i64 rd, .int .i64 S.t] 75) := ⟨_, rfl⟩
          rw [← hww]
          have hb9 : Below w8.heap.size w8 w9 := by rw [hww]; exact (Below.refl _ _).alloc (Nat.le_refl _) _
          have HV9 := Lib.hid (show Blk w9 w8.heap.size 75 [.bool true, .int .i64 1, .int .i64 rd, .int .i64 S.t] by rw [hww]; exact Blk.new w8 75 [.bool true, .int .i64 1, .int .i64 rd, .int .i64 S.t])
          have HVN := Lib.hid (show w8.heap.size ≠ B by have := HH8.out.q.a.blk.lt; omega)
          have HH9 := Lib.hid (HH8.out.on hb9); have HX9 := Lib.hid (HX8.out.keep hb9 HX8.out.lt)
          clear hww hb9
          have q0 : w9.cell? ⟨w8.heap.size, 0, none⟩ = some (.bool true) := HV9.out.cellAt (i := 0) (by simp)
          have q1 : w9.cell? ⟨w8.heap.size, 1, none⟩ = some (.int .i64 1) := HV9.out.cellAt (i := 1) (by simp)
          have q2 : w9.cell? ⟨w8.heap.size, 2, none⟩ = some (.int .i64 rd) := HV9.out.cellAt (i := 2) (by simp)
          have q3 : w9.cell? ⟨w8.heap.size, 3, none⟩ = some (.int .i64 S.t) := HV9.out.cellAt (i := 3) (by simp)
          go_wp2_with fail
          refine (HHE.out _ HX9.out).mono ?_
          rintro yy w10 ⟨rfl, hXn, hkx⟩
          have HH10 := Lib.hid (HH9.out.hear HX9.out rfl HXN.out.1 HXN.out.2.1 HXN.out.2.2 hkx); have HX10 := Lib.hid hXn
          clear hXn hkx q0 q1 q2 q3
          go_wp2_with fail
          refine (pr_master S _ _ B _ HH10.out.q.a).mono ?_
          rintro yy wz ⟨rfl, rfl⟩
          go_wp2_with fail
          refine (HAP.out _ HH10.out.q.a).mono ?_
          rintro yy w11 ⟨rfl, hP, hkp⟩
          have HH11 := Lib.hid (HH10.out.step hP hkp); have HX11 := Lib.hid (blk_kp HX10.out HXN.out.1.symm hkp)
          clear hP hkp
          go_wp2_with fail
          go_roundw
          case rel => exact ⟨i + 1, _, _, _, 1, _, by simp, by have := HGO.out; omega, rfl, HH11.out, HX11.out, HI5.out, (PD.noB_none rfl), (by have := HBIS.out; show S.bi = ((i + 1 : Nat) : Int); omega), (.inr (.inr ⟨by have := HPI.out; omega, rfl, rfl, ⟨nx, rfl⟩, rfl⟩)), (fun h => by have := HPI.out; omega)⟩
          case measure => have := HGO.out; simp [intOf]; omega
        · have k40 : ((i : Int) == 40) = false := by rw [beq_eq_false_iff_ne]; omega
          have HPI := Lib.hid (show 20 < i ∧ i < 40 from ⟨p1, by omega⟩)
          have HPN := Lib.hid (And.intro p4 p5)
          clear h40 p1 p2 p4 p5 hS40
          go_wp2_with fail
          go_roundw
          case rel => exact ⟨i + 1, S, _, _, 0, _, by simp, by have := HGO.out; omega, rfl, HH5.out, HX5.out, HIS.out, HNBS.out, (by have := HBIS.out; omega), (.inr (.inl ⟨by have := HPI.out; omega, by have := HPI.out; omega, rfl, ⟨nx, HNOS.out.1.trans HPN.out.1⟩, HNOS.out.2.trans HPN.out.2, rfl⟩)), (fun h => by have := HPI.out; omega)⟩
          case measure => have := HGO.out; simp [intOf]; omega
      · obtain rfl := p2
        have k20 : ((i : Int) == 20) = false := by rw [beq_eq_false_iff_ne]; omega
        have k40 : ((i : Int) == 40) = false := by rw [beq_eq_false_iff_ne]; omega
        have HPI := Lib.hid p1
        have HPN := Lib.hid (And.intro p3 (And.intro p4 p5))
        clear p1 p3 p4 p5 hS40
        go_wp2_with fail
        go_roundw
        case rel => exact ⟨i + 1, S, _, _, 1, _, by simp, by have := HGO.out; omega, rfl, HH5.out, HX5.out, HIS.out, HNBS.out, (by have := HBIS.out; omega), (.inr (.inr ⟨by have := HPI.out; omega, rfl, HNOS.out.1.trans HPN.out.1, ⟨nx, HNOS.out.2.trans HPN.out.2.1⟩, HPN.out.2.2⟩)), (fun _ => HOK.out)⟩
        case measure => have := HGO.out; simp [intOf]; omega
    · have i1 : ¬ (i : Int) < 60 := by omega
      obtain ⟨nx, hap, rfl⟩ : ∃ nx, s.ap = some (nx, 21) ∧ nn = 1 := by
        rcases HPH.out with ⟨p1, _⟩ | ⟨_, p2, _⟩ | ⟨_, p2, _, ⟨nx, p4⟩, _⟩
        · omega
        · omega
        · exact ⟨nx, p4, p2⟩
      have hgap : s.gap = 39 := by unfold PD.gap; rw [hap]; show s.bi - 21 = 39; have := HB2.out; omega
      have HG := Lib.hid (fun u h => pr_gap s pn pa B u h (by rw [hgap]; decide))
      rw [hgap] at HG
      have hcn := HI2.out.cn; have hm0 := HI2.out.m0; have hb2 := HB2.out; have ht2 := HH2.out.q.a.ok.t2
      obtain ⟨dd, hdd⟩ : ∃ z, z = (if s.t < s.t2 then s.t2 - s.t else s.t - s.t2) := ⟨_, rfl⟩
      have hddr : -9223372036854775808 ≤ dd ∧ dd ≤ 9223372036854775807 := by rw [hdd]; split <;> omega
      have HDI := Lib.hid (fun z => dist_ex s.t s.t2 (by omega) (by omega) z)
      rw [← hdd, show okV dd = .tuple #[.int .i64 dd, .bool true] by unfold okV; rw [fit_yes hddr, cut_yes hddr]] at HDI
      have HBO := Lib.hid (fun z => ac_bound N0 D0 T0 40 (by have := HSI.out; omega) (by decide) z)
      have h2 : boundB N0 D0 T0 40 = true := by unfold boundB; rw [HRI.out]; simp
      obtain ⟨BX, hBX⟩ : ∃ z, z = boundX N0 D0 T0 40 := ⟨_, rfl⟩
      rw [← hBX, h2] at HBO
      have HLE := Lib.hid (show s.se = true → dd ≤ BX from fun e => by
        have h1 := HSE.out (by omega) e
        have h3 : BX = 40 * SL + 4 := by rw [hBX]; unfold boundX; rw [if_pos h2, HSLE.out]
        have h4 := HSL.out.1
        rw [h3, hdd]
        split <;> omega)
      clear hap hgap hcn hm0 hb2 ht2 hddr hdd h2 hBX hi60 hgo
      go_wp2_with fail
      refine (pr_master s _ _ B _ HH2.out.q.a).mono ?_
      rintro yy wz ⟨rfl, rfl⟩
      go_wp2_with fail
      refine (pr_slave s _ _ B _ HH2.out.q.a).mono ?_
      rintro yy wz ⟨rfl, rfl⟩
      go_wp2_with fail
      refine (HDI.out _).mono ?_
      rintro yy wz ⟨rfl, rfl⟩
      have c0 : wr.cell? ⟨C, 0, none⟩ = some (.int .i64 N0) := HH2.out.c.cellAt (i := 0) (by simp)
      have c1 : wr.cell? ⟨C, 1, none⟩ = some (.int .i64 D0) := HH2.out.c.cellAt (i := 1) (by simp)
      have c2 : wr.cell? ⟨C, 2, none⟩ = some (.int .i64 T0) := HH2.out.c.cellAt (i := 2) (by simp)
      go_wp2_with fail
      refine (HBO.out _).mono ?_
      rintro yy w6 ⟨rfl, hb⟩
      have HH6 := Lib.hid (HH2.out.on hb)
      clear hb c0 c1 c2
      go_wp2_with fail
      refine (HG.out _ HH6.out.q.a).mono ?_
      rintro yy w7 ⟨rfl, hb⟩
      have HH7 := Lib.hid (HH6.out.on hb)
      clear hb
      go_wp2_with fail
      refine (pr_settled s _ _ B _ HH7.out.q.a).mono ?_
      rintro yy wz ⟨rfl, rfl⟩
      cases hse : s.se
      · go_wp2_with fail
        go_ret
        exact ⟨rfl, HH7.out.q.below⟩
      · have hle := HLE.out hse
        go_wp2_with fail
        go_ret
        exact ⟨rfl, HH7.out.q.below⟩
set_option maxRecDepth 100000 in
theorem lifted (os : Os) (started : os.Started) (H : Type) (enc : TypeId × Value → H) :
    ReturnsInHanded {} Try.checked os 7 .any (Rows.topToldSpec.pre6 enc Try.prog Try.f7 Rows.topToldRow.domain false) (Rows.topToldSpec.post enc Try.prog Try.f7 false true false false) := by
  refine returnsInHanded_of_change (C := Try.checked) own started (by kernel_rfl) Try.func7
    (ChangeSpec.witness6 (enc := enc) (C := Try.checked) false ⟨#[], #[.agg #[.int .i64 0, .int .i64 0, .int .i64 0], .agg #[.slice none 0 0, .slice none 0 0], .int .u16 0], []⟩ 8 (by kernel_rfl) (by kernel_rfl) (by kernel_rfl) (by kernel_rfl)) ?_
  intro W base args ds gs before hval0 hW _ _
  have hval : ∀ (j : Nat) t v, Try.f7.params[j]? = some t → args[j]? = some v → Value.okWide Try.prog W .any base t v := hval0
  have hW' := hW
  obtain ⟨p, q, hA0, hV, rfl, hfz, hnd⟩ := hW
  have hA : DataW.TrodAll enc Try.prog W 0 (fun _ => true) true Try.f7.params.toList args.toList ds p := hA0
  rw [Try.params7] at hA hval
  obtain ⟨v0, vs0, d0, ds0, p0, q0, hargs, rfl, rfl, h0, r0⟩ := trodAll_cons hA
  obtain ⟨v1, vs1, d1, ds1, p1, q1, rfl, rfl, rfl, h1, r1⟩ := trodAll_cons r0
  obtain ⟨v2, vs2, d2, ds2, p2, q2, rfl, rfl, rfl, h2, r2⟩ := trodAll_cons r1
  obtain ⟨rfl, rfl, rfl⟩ := trodAll_nil r2
  obtain rfl : args = #[v0, v1, v2] := by cases args; simp_all
  obtain ⟨rfl, rfl⟩ := trodVars_none hV
  have k0 := h0
  have lt0 : ∀ x ∈ p0, x.block < W.heap.size := by obtain ⟨m, hm⟩ := k0; exact DataW.trod_lt m _ _ _ hm
  obtain ⟨xa0, xb0, xc0, rfl, wa0, wb0, wc0⟩ := open_aconf (hval 0 25 v0 rfl rfl) h0
  have k1 := h1
  have lt1 : ∀ x ∈ p1, x.block < W.heap.size := by obtain ⟨m, hm⟩ := k1; exact DataW.trod_lt m _ _ _ hm
  obtain ⟨a1, la1, ca1, za1, b1, lb1, cb1, zb1, rfl, w1⟩ := open_two16 (fun _ => rfl) (hval 1 61 v1 rfl rfl) h1
  obtain ⟨a2, rfl, rfl, rfl, w2⟩ := open_int Try.underlying62 (hval 2 62 v2 rfl rfl) h2
  clear hA0 hval0
  refine (walk xa0 xb0 xc0 a1 la1 ca1 za1 b1 lb1 cb1 zb1 a2 W wa0 wb0 wc0 w1 w2).mono fun e W' ⟨he, bel⟩ => ?_
  subst he
  exact ⟨_, rfl, _, _, _, [], _, [], hW', trodAll_mk1 (shut_bool Try.underlying4 _), (trodAll_cons_mk (Below.trod laidOut (by kernel_rfl) (of_decide_eq_true (by kernel_rfl)) k0 bel lt0) (trodAll_cons_mk (Below.trod laidOut (by kernel_rfl) (of_decide_eq_true (by kernel_rfl)) k1 bel lt1) (trodAll_cons_mk (shut_int Try.underlying62 w2) trodAll_mk0))), rfl, bel.frame _, fun h => by cases h⟩
theorem over : Rows.topToldRow.holds Try.pinned (OpenSpec.ofChange Rows.topToldSpec) :=
  OpenClaim.holds_of_wide 7 Try.f7 rfl rfl rfl rfl rfl rfl rfl ⟨rfl, rfl, rfl, rfl, rfl⟩ rfl rfl rfl rfl rfl (by kernel_rfl) Try.func7 (by kernel_rfl)
    (of_decide_eq_true (by kernel_rfl)) (by unfold Func.isWrapper; first | (rw [if_pos (by decide +kernel)]; kernel_rfl) | (rw [if_neg (by decide +kernel)]; exact ⟨rfl, rfl⟩))
    (fun os started H enc _ => lifted os started H enc)
/-- The statement. -/
theorem proved : Rows.TopToldSaid := over
end Go.Proofs.Ytpamkmpaldepnaa.topTold
