/- DRAFT. -/
import Derived.Test.YtbdockeopbfliaaBry
import Derived.Test.YtbdockeopbfliaaQui
import Derived.Test.YtbdockeopbfliaaEqg
namespace Go.Proofs.Ytbdockeopbfliaa
open Go.RowKit
set_option linter.unusedSimpArgs false
set_option linter.unusedVariables false
theorem ownB {H k m c : Nat} (e : (Value.slice (some ⟨H, 0, none⟩) m c).ownBlock = some k) : H = k := by simpa [Value.ownBlock] using e
set_option maxRecDepth 1000000 in
set_option maxHeartbeats 64000000 in
theorem lplay_yes (m : Nat) (m1 : 1 ≤ m) (m8 : m ≤ 8) (a : Option Addr) (len cap : Nat) (L : List A13) (w : World) (hL : L.length = len ∧ (∀ s ∈ L, s.wf) ∧ Rd w 16 (.slice a len cap) (L.flatMap A13.C)) : Calls Try.prog 3 #[.int .i64 (m : Int), .slice a len cap] w fun y w' => y = .returned (.bool true) ∧ Below w.heap.size w w' := by
  obtain ⟨rfl, hwf, hr⟩ := hL
  have HLR := Lib.hid hr; have HWF := Lib.hid hwf
  have HN1 := Lib.hid (new_any m m1 m8 w)
  have HN2 := Lib.hid (fun u => rbnew_any m m1 m8 u)
  have HLV := Lib.hid (fun u => live13 u)
  have HQ := Lib.hid (show ∀ (x0 x1 x2 x3 x4 x5 x6 x7 : Int) (u : World), Sem.run Try.prog (Op.equalIn 9998 35 (.agg #[.int .u8 x0, .int .u8 x1, .int .u8 x2, .int .u8 x3, .int .u8 x4, .int .u8 x5, .int .u8 x6, .int .u8 x7]) (.agg #[.int .u8 x0, .int .u8 x1, .int .u8 x2, .int .u8 x3, .int .u8 x4, .int .u8 x5, .int .u8 x6, .int .u8 x7])) u = .ok true u from fun x0 x1 x2 x3 x4 x5 x6 x7 u => eqs8 9996 x0 x1 x2 x3 x4 x5 x6 x7 u)
  have HMM := Lib.hid (show 1 ≤ m ∧ m ≤ 8 from ⟨m1, m8⟩)
  clear hwf hr
  obtain ⟨B1, hB1⟩ : ∃ B, B = w.heap.size := ⟨_, rfl⟩
  rw [← hB1] at HN1
  have HB1 := Lib.hid hB1
  go_enter Try.func3, Try.ntmps3
  go_wp2_with fail
  refine HN1.out.mono ?_
  rintro y w1 ⟨rfl, hba, hb⟩
  have HBA := Lib.hid hba
  have HBE1 := Lib.hid (show Below w.heap.size w w1 by rw [← hB1]; exact hb)
  clear hba hb hB1
  go_wp2_with fail
  refine (HN2.out _).mono ?_
  rintro y w2 ⟨B, rfl, P, H, hrb, q1, q2, q3, hb⟩
  have HM2 := Lib.hid (show M2 w w2 B1 B P H m (List.replicate 8 BD.zero) (List.replicate 8 BD.zero) from by
    have h1 := HBA.out.lt
    have h2 := HB1.out
    have h3 := HBE1.out.size
    exact ⟨HBA.out.on hb, hrb, by omega, by omega, by omega, by omega, by omega, by omega, HBE1.out.trans (hb.mono h3)⟩)
  clear hrb q1 q2 q3 hb
  go_wp2_with fail
  go_loopw [13] (fun s13 wr => ∃ (i : Nat) (L' : List BD), s13 = .int .i64 (i : Int) ∧ i ≤ 60 ∧ M2 w wr B1 B P H m L' L' ∧ BOk L') (fun s13 _ => 60 - (intOf s13).toNat)
  case atStart => exact ⟨0, _, rfl, by omega, by first | exact HM2.out | exact HM2.out.on (Below.refl _ _).drew, BOk.start⟩
  case round =>
    obtain ⟨i, L', rfl, hi60, hM, hO⟩ := hrel
    have HM := Lib.hid hM; have HO := Lib.hid hO
    clear hM hO
    have i3 : (0 : Int) ≤ (i : Int) := by omega
    have i4 : wrap64 ((i : Int) + 1) = (i : Int) + 1 := by unfold wrap64; omega
    by_cases hgo : i < L.length ∧ i < 60
    · have hlt := hgo.1
      have i1 : (i : Int) < (L.length : Int) := by omega
      have i2 : (i : Int) < 60 := by have := hgo.2; omega
      obtain ⟨g, off, rfl, hg, hcell⟩ := rd_act13 HLR.out hlt
      have hws : (L[i]).wf := HWF.out _ (List.getElem_mem hlt)
      obtain ⟨s, hs⟩ : ∃ s, s = L[i] := ⟨_, rfl⟩
      rw [← hs] at hcell hws
      clear hs
      obtain ⟨kd, ix, p⟩ := s
      have HPN := Lib.hid (show p.n < 4294967296 from hws)
      clear hws
      have hcw : ∀ j u, (A13.C ⟨kd, ix, p⟩)[j]? = some u → wr.cell? ⟨g, off + i * 16 + j, none⟩ = some u := fun j u h => (HM.out.bel.cell (p := ⟨g, off + i * 16 + j, none⟩) hg).trans (hcell j u h)
      have HPA := Lib.hid (fun u (h : BxA u B1 L' m) => put_any B1 L' m p u h)
      have HPR := Lib.hid (fun u (h : RB u B P H L' m) => rbput_any B P H L' m p u h)
      have HOP := Lib.hid (HO.out.put HMM.out.2 HPN.out)
      obtain ⟨R, hR⟩ : ∃ R, R = putF m L' p := ⟨_, rfl⟩
      rw [← hR] at HPA HPR HOP
      clear hR hcell
      obtain ⟨e, n, q, l, x0, x1, x2, x3, x4, x5, x6, x7, once, tag⟩ := p
      unfold PD.V at HPA HPR
      simp only at HPA HPR
      have e0 : wr.cell? ⟨g, off + i * 16, none⟩ = some (.int .i64 kd) := hcw 0 _ rfl
      have e1 : wr.cell? ⟨g, off + i * 16 + 1, none⟩ = some (.int .i64 ix) := hcw 1 _ rfl
      have e2 : wr.cell? ⟨g, off + i * 16 + 2, none⟩ = some (.bool e) := hcw 2 _ rfl
      have e3 : wr.cell? ⟨g, off + i * 16 + 3, none⟩ = some (.int .u32 (n : Int)) := hcw 3 _ rfl
      have e4 : wr.cell? ⟨g, off + i * 16 + 4, none⟩ = some (.bool q) := hcw 4 _ rfl
      have e5 : wr.cell? ⟨g, off + i * 16 + 5, none⟩ = some (.int .i64 l) := hcw 5 _ rfl
      have e6 : wr.cell? ⟨g, off + i * 16 + 6, none⟩ = some (.int .u8 (x0 : Int)) := hcw 6 _ rfl
      have e7 : wr.cell? ⟨g, off + i * 16 + 7, none⟩ = some (.int .u8 (x1 : Int)) := hcw 7 _ rfl
      have e8 : wr.cell? ⟨g, off + i * 16 + 8, none⟩ = some (.int .u8 (x2 : Int)) := hcw 8 _ rfl
      have e9 : wr.cell? ⟨g, off + i * 16 + 9, none⟩ = some (.int .u8 (x3 : Int)) := hcw 9 _ rfl
      have e10 : wr.cell? ⟨g, off + i * 16 + 10, none⟩ = some (.int .u8 (x4 : Int)) := hcw 10 _ rfl
      have e11 : wr.cell? ⟨g, off + i * 16 + 11, none⟩ = some (.int .u8 (x5 : Int)) := hcw 11 _ rfl
      have e12 : wr.cell? ⟨g, off + i * 16 + 12, none⟩ = some (.int .u8 (x6 : Int)) := hcw 12 _ rfl
      have e13 : wr.cell? ⟨g, off + i * 16 + 13, none⟩ = some (.int .u8 (x7 : Int)) := hcw 13 _ rfl
      have e14 : wr.cell? ⟨g, off + i * 16 + 14, none⟩ = some (.bool once) := hcw 14 _ rfl
      have e15 : wr.cell? ⟨g, off + i * 16 + 15, none⟩ = some (.int .i64 tag) := hcw 15 _ rfl
      obtain ⟨W1, hW1⟩ : ∃ W1, W1 = wr.alloc (.cells #[.int .i64 kd, .int .i64 ix, .bool e, .int .u32 (n : Int), .bool q, .int .i64 l, .int .u8 (x0 : Int), .int .u8 (x1 : Int), .int .u8 (x2 : Int), .int .u8 (x3 : Int), .int .u8 (x4 : Int), .int .u8 (x5 : Int), .int .u8 (x6 : Int), .int .u8 (x7 : Int), .bool once, .int .i64 tag] 46) := ⟨_, rfl⟩
      have hb1 : Below wr.heap.size wr W1 := by rw [hW1]; exact (Below.refl _ wr).alloc (Nat.le_refl _) _
      have HD := Lib.hid (show Blk W1 wr.heap.size 46 [.int .i64 kd, .int .i64 ix, .bool e, .int .u32 (n : Int), .bool q, .int .i64 l, .int .u8 (x0 : Int), .int .u8 (x1 : Int), .int .u8 (x2 : Int), .int .u8 (x3 : Int), .int .u8 (x4 : Int), .int .u8 (x5 : Int), .int .u8 (x6 : Int), .int .u8 (x7 : Int), .bool once, .int .i64 tag] by rw [hW1]; exact Blk.new wr _ [.int .i64 kd, .int .i64 ix, .bool e, .int .u32 (n : Int), .bool q, .int .i64 l, .int .u8 (x0 : Int), .int .u8 (x1 : Int), .int .u8 (x2 : Int), .int .u8 (x3 : Int), .int .u8 (x4 : Int), .int .u8 (x5 : Int), .int .u8 (x6 : Int), .int .u8 (x7 : Int), .bool once, .int .i64 tag])
      have HM1 := Lib.hid (HM.out.on hb1)
      have HDN := Lib.hid (show wr.heap.size ≠ B1 ∧ wr.heap.size ≠ B ∧ wr.heap.size ≠ P ∧ wr.heap.size ≠ H from by
        have h1 := HM.out.a.lt; have h2 := HM.out.r.blk.lt; have h3 := HM.out.r.posts.lt; have h4 := HM.out.r.has.lt
        exact ⟨by omega, by omega, by omega, by omega⟩)
      clear hcw hb1
      go_upto_region 13 with fail
      obtain ⟨D, hD⟩ : ∃ D, D = wr.heap.size := ⟨_, rfl⟩
      rw [← hD] at HD HDN ⊢
      rw [← hW1]
      clear hW1 hD e0 e1 e2 e3 e4 e5 e6 e7 e8 e9 e10 e11 e12 e13 e14 e15
      have HGO := Lib.hid (show i < 60 from hgo.2)
      have d0 := HD.out.cellAt (i := 0) (by simp)
      simp only [List.getElem_cons_zero] at d0
      go_upto_if 96 with fail
      clear d0
      go_cut [] (fun wx => ∃ L2, M2 w wx B1 B P H m L2 L2 ∧ BOk L2 ∧ Blk wx D 46 [.int .i64 kd, .int .i64 ix, .bool e, .int .u32 (n : Int), .bool q, .int .i64 l, .int .u8 (x0 : Int), .int .u8 (x1 : Int), .int .u8 (x2 : Int), .int .u8 (x3 : Int), .int .u8 (x4 : Int), .int .u8 (x5 : Int), .int .u8 (x6 : Int), .int .u8 (x7 : Int), .bool once, .int .i64 tag])
      case first =>
        have d0 := HD.out.cellAt (i := 0) (by simp)
        have d1 := HD.out.cellAt (i := 1) (by simp)
        have d2 := HD.out.cellAt (i := 2) (by simp)
        have d3 := HD.out.cellAt (i := 3) (by simp)
        have d4 := HD.out.cellAt (i := 4) (by simp)
        have d5 := HD.out.cellAt (i := 5) (by simp)
        have d6 := HD.out.cellAt (i := 6) (by simp)
        have d7 := HD.out.cellAt (i := 7) (by simp)
        have d8 := HD.out.cellAt (i := 8) (by simp)
        have d9 := HD.out.cellAt (i := 9) (by simp)
        have d10 := HD.out.cellAt (i := 10) (by simp)
        have d11 := HD.out.cellAt (i := 11) (by simp)
        have d12 := HD.out.cellAt (i := 12) (by simp)
        have d13 := HD.out.cellAt (i := 13) (by simp)
        have d14 := HD.out.cellAt (i := 14) (by simp)
        have d15 := HD.out.cellAt (i := 15) (by simp)
        simp only [List.getElem_cons_zero, List.getElem_cons_succ] at d0 d1 d2 d3 d4 d5 d6 d7 d8 d9 d10 d11 d12 d13 d14 d15
        by_cases h0 : kd = 0
        · have j0 : (kd == 0) = true := by rw [h0]; rfl
          as_aux_lemma =>
            clear h0
            go_wp2_with fail
            refine (HPA.out _ HM1.out.a).mono ?_
            rintro y w3 ⟨rfl, ha, hk⟩
            have HM3 := Lib.hid (HM1.out.stepA ha hk)
            have HD3 := Lib.hid (HD.out.on (hk.block D HD.out.lt HDN.out.1 (fun e => by cases e)))
            clear ha hk d0 d1 d2 d3 d4 d5 d6 d7 d8 d9 d10 d11 d12 d13 d14 d15
            have d0 := HD3.out.cellAt (i := 0) (by simp)
            have d1 := HD3.out.cellAt (i := 1) (by simp)
            have d2 := HD3.out.cellAt (i := 2) (by simp)
            have d3 := HD3.out.cellAt (i := 3) (by simp)
            have d4 := HD3.out.cellAt (i := 4) (by simp)
            have d5 := HD3.out.cellAt (i := 5) (by simp)
            have d6 := HD3.out.cellAt (i := 6) (by simp)
            have d7 := HD3.out.cellAt (i := 7) (by simp)
            have d8 := HD3.out.cellAt (i := 8) (by simp)
            have d9 := HD3.out.cellAt (i := 9) (by simp)
            have d10 := HD3.out.cellAt (i := 10) (by simp)
            have d11 := HD3.out.cellAt (i := 11) (by simp)
            have d12 := HD3.out.cellAt (i := 12) (by simp)
            have d13 := HD3.out.cellAt (i := 13) (by simp)
            have d14 := HD3.out.cellAt (i := 14) (by simp)
            have d15 := HD3.out.cellAt (i := 15) (by simp)
            simp only [List.getElem_cons_zero, List.getElem_cons_succ] at d0 d1 d2 d3 d4 d5 d6 d7 d8 d9 d10 d11 d12 d13 d14 d15
            go_wp2_with fail
            refine (HPR.out _ HM3.out.r).mono ?_
            rintro y w4 ⟨rfl, ha, hk⟩
            have HM4 := Lib.hid (HM3.out.stepR ha hk)
            have HD4 := Lib.hid (HD3.out.on (hk.block D HD3.out.lt HDN.out.2.2.1 (fun e => HDN.out.2.2.2 (ownB e).symm)))
            have k1 : (R.1 != R.1) = false := by simp
            have k2 : ((R.2.1 : Int) != (R.2.1 : Int)) = false := by simp
            clear ha hk d0 d1 d2 d3 d4 d5 d6 d7 d8 d9 d10 d11 d12 d13 d14 d15
            go_wp2_with fail
            go_meet
            exact ⟨_, HM4.out, HOP.out, HD4.out⟩
        · have j0 : (kd == 0) = false := by simpa using h0
          as_aux_lemma =>
            clear h0
            have HNE := Lib.hid (fun u => near_any ix (m : Int) (by have := HMM.out.1; omega) u)
            obtain ⟨nf, hnf⟩ : ∃ nf, nf = nearF ix (m : Int) := ⟨_, rfl⟩
            rw [← hnf] at HNE
            clear hnf
            have HTA := Lib.hid (fun at_ u (h : BxA u B1 L' m) => take_any B1 L' m at_ u h)
            have HTR := Lib.hid (fun at_ u (h : RB u B P H L' m) => rbtake_any B P H L' m at_ u h)
            have HBR := Lib.hid (fun u (h : RB u B P H L' m) => rbbest_any B P H L' m (fun j _ => HO.out.small j) u h)
            have HZ := Lib.hid (show ∀ u, Below W1.heap.size W1 u → Below W1.heap.size W1 u ∧ u.cell? ⟨D, 1, none⟩ = some (.int .i64 ix) ∧ u.cell? ⟨B, 0, none⟩ = some (.slice (some ⟨P, 0, none⟩) m m) from fun u hx => ⟨hx, (HD.out.keep hx HD.out.lt).cellAt (i := 1) (by simp), (HM1.out.on hx).r.c0⟩)
            go_upto_region 18 with fail
            clear d0 d1 d2 d3 d4 d5 d6 d7 d8 d9 d10 d11 d12 d13 d14 d15
            refine wp_region_class (C := fun x_ => Below W1.heap.size W1 x_ ∧ x_.cell? ⟨D, 1, none⟩ = some (.int .i64 ix) ∧ x_.cell? ⟨B, 0, none⟩ = some (.slice (some ⟨P, 0, none⟩) m m)) (by kernel_rfl) (by kernel_rfl) (HZ.out _ (Below.refl _ _).drew) ?_
            repeat
              with_reducible refine wpQuiet_step (fun K hK => ?_)
              first
                | (refine quiet_skip (by rfl) ?_; (with_reducible refine hK _ ?_); clear hK K)
                | (refine quiet_want (by rfl) ?_
                   apply Exists.intro
                   refine ⟨fun xw hx => ?_, hK _ ?_⟩
                   (obtain ⟨_, hx1, hx2⟩ := id hx; go_simp; first | done | rfl | ((go_at_call 12; with_reducible exact Calls.mono (HNE.out xw) (fun y w' hh => ⟨hh.1, by rw [← hh.2]; exact hx⟩))))
                   clear hK K)
              try simp only [Act.put, List.setIfInBounds_toArray, List.set_cons_zero, List.set_cons_succ]
            with_reducible refine wpQuiet_nil ?_
            intro wq hq
            have HM5 := Lib.hid (HM1.out.on hq.1); have HD5 := Lib.hid (HD.out.keep hq.1 HD.out.lt)
            clear hq
            obtain ⟨W5, hW5⟩ : ∃ u, u = wq := ⟨_, rfl⟩
            rw [← hW5] at HM5 HD5 ⊢
            clear hW5
            have d0 := HD5.out.cellAt (i := 0) (by simp)
            simp only [List.getElem_cons_zero] at d0
            go_upto_if 129 with fail
            clear d0
            go_cut [19] (fun s19 wx => ∃ at_ : Int, s19 = .int .i64 at_ ∧ Below W5.heap.size W5 wx)
            case first =>
              by_cases h1 : kd = 1
              · have j1 : (kd != 1) = false := by rw [h1]; rfl
                clear h1
                go_wp2_with fail
                go_meet
                exact ⟨_, rfl, by first | exact Below.refl _ _ | exact (Below.refl _ _).drew⟩
              · have j1 : (kd != 1) = true := by simpa using h1
                clear h1
                go_wp2_with fail
                refine (HBR.out _ HM5.out.r).mono ?_
                rintro y w6 ⟨rfl, hb⟩
                have HB6 := Lib.hid hb
                clear hb
                go_wp2_with fail
                go_meet
                exact ⟨_, rfl, by first | exact HB6.out | exact HB6.out.drew⟩
            case rest =>
            obtain ⟨at_, rfl, hb⟩ := hcut
            obtain ⟨W6, hW6⟩ : ∃ u, u = wc := ⟨_, rfl⟩
            rw [← hW6] at hb ⊢
            have HM6 := Lib.hid (HM5.out.on hb); have HD6 := Lib.hid (HD5.out.keep hb HD5.out.lt)
            have HOT := Lib.hid (HO.out.take HMM.out.2 at_)
            have HTA2 := Lib.hid (HTA.out at_); have HTR2 := Lib.hid (HTR.out at_)
            obtain ⟨T, hT⟩ : ∃ T, T = takeF m L' at_ := ⟨_, rfl⟩
            rw [← hT] at HOT HTA2 HTR2
            clear hb hW6 hT
            as_aux_lemma =>
              obtain ⟨⟨te, tn, tq, tl, t0, t1, t2, t3, t4, t5, t6, t7, tonce, ttag⟩, terr, TL⟩ := T
              unfold PD.V at HTA2 HTR2
              simp only at HTA2 HTR2 HOT
              go_wp2_with fail
              refine (HTA2.out _ HM6.out.a).mono ?_
              rintro y w7 ⟨rfl, ha, hk⟩
              have HM7 := Lib.hid (HM6.out.stepA ha hk)
              have HD7 := Lib.hid (HD6.out.on (hk.block D HD6.out.lt HDN.out.1 (fun e => by cases e)))
              clear ha hk
              obtain ⟨W7, hW7⟩ : ∃ u, u = w7.alloc (.cells #[.bool te, .int .u32 (tn : Int), .bool tq, .int .i64 tl, .int .u8 (t0 : Int), .int .u8 (t1 : Int), .int .u8 (t2 : Int), .int .u8 (t3 : Int), .int .u8 (t4 : Int), .int .u8 (t5 : Int), .int .u8 (t6 : Int), .int .u8 (t7 : Int), .bool tonce, .int .i64 ttag] 39) := ⟨_, rfl⟩
              have hb7 : Below w7.heap.size w7 W7 := by rw [hW7]; exact (Below.refl _ _).alloc (Nat.le_refl _) _
              have HE7 := Lib.hid (show Blk W7 w7.heap.size 39 [.bool te, .int .u32 (tn : Int), .bool tq, .int .i64 tl, .int .u8 (t0 : Int), .int .u8 (t1 : Int), .int .u8 (t2 : Int), .int .u8 (t3 : Int), .int .u8 (t4 : Int), .int .u8 (t5 : Int), .int .u8 (t6 : Int), .int .u8 (t7 : Int), .bool tonce, .int .i64 ttag] by rw [hW7]; exact Blk.new w7 _ [.bool te, .int .u32 (tn : Int), .bool tq, .int .i64 tl, .int .u8 (t0 : Int), .int .u8 (t1 : Int), .int .u8 (t2 : Int), .int .u8 (t3 : Int), .int .u8 (t4 : Int), .int .u8 (t5 : Int), .int .u8 (t6 : Int), .int .u8 (t7 : Int), .bool tonce, .int .i64 ttag])
              have HM7b := Lib.hid (HM7.out.on hb7); have HD7b := Lib.hid (HD7.out.keep hb7 HD7.out.lt)
              have HEN := Lib.hid (show w7.heap.size ≠ P ∧ w7.heap.size ≠ H from by
                have h3 := HM7.out.r.posts.lt; have h4 := HM7.out.r.has.lt
                exact ⟨by omega, by omega⟩)
              clear hb7
              go_upto_region 22 with fail
              obtain ⟨E1, hE1⟩ : ∃ D, D = w7.heap.size := ⟨_, rfl⟩
              rw [← hE1] at HE7 HEN ⊢
              rw [← hW7]
              clear hW7 hE1
              as_aux_lemma =>
                go_wp2_with fail
                refine (HTR2.out _ HM7b.out.r).mono ?_
                rintro y w8 ⟨rfl, ha, hk⟩
                have HM8 := Lib.hid (HM7b.out.stepR ha hk)
                have HD8 := Lib.hid (HD7b.out.on (hk.block D HD7b.out.lt HDN.out.2.2.1 (fun e => HDN.out.2.2.2 (ownB e).symm)))
                have HE8 := Lib.hid (HE7.out.on (hk.block E1 HE7.out.lt HEN.out.1 (fun e => HEN.out.2 (ownB e).symm)))
                clear ha hk
                obtain ⟨W8, hW8⟩ : ∃ u, u = w8.alloc (.cells #[.bool te, .int .u32 (tn : Int), .bool tq, .int .i64 tl, .int .u8 (t0 : Int), .int .u8 (t1 : Int), .int .u8 (t2 : Int), .int .u8 (t3 : Int), .int .u8 (t4 : Int), .int .u8 (t5 : Int), .int .u8 (t6 : Int), .int .u8 (t7 : Int), .bool tonce, .int .i64 ttag] 39) := ⟨_, rfl⟩
                have hb8 : Below w8.heap.size w8 W8 := by rw [hW8]; exact (Below.refl _ _).alloc (Nat.le_refl _) _
                have HF9 := Lib.hid (show Blk W8 w8.heap.size 39 [.bool te, .int .u32 (tn : Int), .bool tq, .int .i64 tl, .int .u8 (t0 : Int), .int .u8 (t1 : Int), .int .u8 (t2 : Int), .int .u8 (t3 : Int), .int .u8 (t4 : Int), .int .u8 (t5 : Int), .int .u8 (t6 : Int), .int .u8 (t7 : Int), .bool tonce, .int .i64 ttag] by rw [hW8]; exact Blk.new w8 _ [.bool te, .int .u32 (tn : Int), .bool tq, .int .i64 tl, .int .u8 (t0 : Int), .int .u8 (t1 : Int), .int .u8 (t2 : Int), .int .u8 (t3 : Int), .int .u8 (t4 : Int), .int .u8 (t5 : Int), .int .u8 (t6 : Int), .int .u8 (t7 : Int), .bool tonce, .int .i64 ttag])
                have HM9 := Lib.hid (HM8.out.on hb8); have HD9 := Lib.hid (HD8.out.keep hb8 HD8.out.lt); have HE9 := Lib.hid (HE8.out.keep hb8 HE8.out.lt)
                clear hb8
                go_upto_region 23 with fail
                obtain ⟨E2, hE2⟩ : ∃ D, D = w8.heap.size := ⟨_, rfl⟩
                rw [← hE2] at HF9 ⊢
                rw [← hW8]
                clear hW8 hE2
                as_aux_lemma =>
                  have u0 := HE9.out.cellAt (i := 0) (by simp)
                  have u1 := HE9.out.cellAt (i := 1) (by simp)
                  have u2 := HE9.out.cellAt (i := 2) (by simp)
                  have u3 := HE9.out.cellAt (i := 3) (by simp)
                  have u4 := HE9.out.cellAt (i := 4) (by simp)
                  have u5 := HE9.out.cellAt (i := 5) (by simp)
                  have u6 := HE9.out.cellAt (i := 6) (by simp)
                  have u7 := HE9.out.cellAt (i := 7) (by simp)
                  have u8 := HE9.out.cellAt (i := 8) (by simp)
                  have u9 := HE9.out.cellAt (i := 9) (by simp)
                  have u10 := HE9.out.cellAt (i := 10) (by simp)
                  have u11 := HE9.out.cellAt (i := 11) (by simp)
                  have u12 := HE9.out.cellAt (i := 12) (by simp)
                  have u13 := HE9.out.cellAt (i := 13) (by simp)
                  simp only [List.getElem_cons_zero, List.getElem_cons_succ] at u0 u1 u2 u3 u4 u5 u6 u7 u8 u9 u10 u11 u12 u13
                  have v0 := HF9.out.cellAt (i := 0) (by simp)
                  have v1 := HF9.out.cellAt (i := 1) (by simp)
                  have v2 := HF9.out.cellAt (i := 2) (by simp)
                  have v3 := HF9.out.cellAt (i := 3) (by simp)
                  have v4 := HF9.out.cellAt (i := 4) (by simp)
                  have v5 := HF9.out.cellAt (i := 5) (by simp)
                  have v6 := HF9.out.cellAt (i := 6) (by simp)
                  have v7 := HF9.out.cellAt (i := 7) (by simp)
                  have v8 := HF9.out.cellAt (i := 8) (by simp)
                  have v9 := HF9.out.cellAt (i := 9) (by simp)
                  have v10 := HF9.out.cellAt (i := 10) (by simp)
                  have v11 := HF9.out.cellAt (i := 11) (by simp)
                  have v12 := HF9.out.cellAt (i := 12) (by simp)
                  have v13 := HF9.out.cellAt (i := 13) (by simp)
                  simp only [List.getElem_cons_zero, List.getElem_cons_succ] at v0 v1 v2 v3 v4 v5 v6 v7 v8 v9 v10 v11 v12 v13
                  have hee := HQ.out t0 t1 t2 t3 t4 t5 t6 t7
                  have q14 : ((terr : Int) != (terr : Int)) = false := by simp
                  go_wp2_with fail
                  go_meet
                  exact ⟨_, HM9.out, HOT.out, HD9.out⟩
      case rest =>
      obtain ⟨L2, hM, hO, hD⟩ := hcut
      have HMc := Lib.hid hM; have HOc := Lib.hid hO; have HDc := Lib.hid hD
      clear hM hO hD
      have HNE := Lib.hid (fun u => near_any ix (m : Int) (by have := HMM.out.1; omega) u)
      obtain ⟨nf, hnf⟩ : ∃ nf, nf = nearF ix (m : Int) := ⟨_, rfl⟩
      rw [← hnf] at HNE
      have HGA := Lib.hid (fun u (h : M2 w u B1 B P H m L2 L2) => m2_getA h nf)
      have HGR := Lib.hid (fun u (h : M2 w u B1 B P H m L2 L2) => m2_getR h HOc.out nf)
      obtain ⟨G, hG⟩ : ∃ G, G = getF m L2 nf := ⟨_, rfl⟩
      rw [← hG] at HGA HGR
      clear hnf hG
      obtain ⟨⟨te, tn, tq, tl, t0, t1, t2, t3, t4, t5, t6, t7, tonce, ttag⟩, gok⟩ := G
      unfold PD.V at HGA HGR
      simp only at HGA HGR
      obtain ⟨W10, hW10⟩ : ∃ u, u = wc := ⟨_, rfl⟩
      rw [← hW10] at HMc HDc ⊢
      clear hW10
      have d1 := HDc.out.cellAt (i := 1) (by simp)
      simp only [List.getElem_cons_zero, List.getElem_cons_succ] at d1
      go_wp2_with fail
      refine (HNE.out _).mono ?_
      rintro y w11 ⟨rfl, rfl⟩
      go_wp2_with fail
      refine (HGA.out _ HMc.out).mono ?_
      rintro y w12 ⟨rfl, hb⟩
      have HM12 := Lib.hid (HMc.out.on hb); have HD12 := Lib.hid (HDc.out.keep hb HDc.out.lt)
      clear hb d1
      obtain ⟨W12, hW12⟩ : ∃ u, u = w12.alloc (.cells #[.bool te, .int .u32 (tn : Int), .bool tq, .int .i64 tl, .int .u8 (t0 : Int), .int .u8 (t1 : Int), .int .u8 (t2 : Int), .int .u8 (t3 : Int), .int .u8 (t4 : Int), .int .u8 (t5 : Int), .int .u8 (t6 : Int), .int .u8 (t7 : Int), .bool tonce, .int .i64 ttag] 39) := ⟨_, rfl⟩
      have hb12 : Below w12.heap.size w12 W12 := by rw [hW12]; exact (Below.refl _ _).alloc (Nat.le_refl _) _
      have HE12 := Lib.hid (show Blk W12 w12.heap.size 39 [.bool te, .int .u32 (tn : Int), .bool tq, .int .i64 tl, .int .u8 (t0 : Int), .int .u8 (t1 : Int), .int .u8 (t2 : Int), .int .u8 (t3 : Int), .int .u8 (t4 : Int), .int .u8 (t5 : Int), .int .u8 (t6 : Int), .int .u8 (t7 : Int), .bool tonce, .int .i64 ttag] by rw [hW12]; exact Blk.new w12 _ [.bool te, .int .u32 (tn : Int), .bool tq, .int .i64 tl, .int .u8 (t0 : Int), .int .u8 (t1 : Int), .int .u8 (t2 : Int), .int .u8 (t3 : Int), .int .u8 (t4 : Int), .int .u8 (t5 : Int), .int .u8 (t6 : Int), .int .u8 (t7 : Int), .bool tonce, .int .i64 ttag])
      have HM12b := Lib.hid (HM12.out.on hb12); have HD12b := Lib.hid (HD12.out.keep hb12 HD12.out.lt)
      clear hb12
      go_upto_region 26 with fail
      obtain ⟨E1, hE1⟩ : ∃ D, D = w12.heap.size := ⟨_, rfl⟩
      rw [← hE1] at HE12 ⊢
      rw [← hW12]
      clear hW12 hE1
      have d1 := HD12b.out.cellAt (i := 1) (by simp)
      simp only [List.getElem_cons_zero, List.getElem_cons_succ] at d1
      go_wp2_with fail
      refine (HNE.out _).mono ?_
      rintro y w13 ⟨rfl, rfl⟩
      go_wp2_with fail
      refine (HGR.out _ HM12b.out).mono ?_
      rintro y w14 ⟨rfl, hb⟩
      have HM14 := Lib.hid (HM12b.out.on hb); have HD14 := Lib.hid (HD12b.out.keep hb HD12b.out.lt); have HE14 := Lib.hid (HE12.out.keep hb HE12.out.lt)
      clear hb d1
      obtain ⟨W14, hW14⟩ : ∃ u, u = w14.alloc (.cells #[.bool te, .int .u32 (tn : Int), .bool tq, .int .i64 tl, .int .u8 (t0 : Int), .int .u8 (t1 : Int), .int .u8 (t2 : Int), .int .u8 (t3 : Int), .int .u8 (t4 : Int), .int .u8 (t5 : Int), .int .u8 (t6 : Int), .int .u8 (t7 : Int), .bool tonce, .int .i64 ttag] 39) := ⟨_, rfl⟩
      have hb14 : Below w14.heap.size w14 W14 := by rw [hW14]; exact (Below.refl _ _).alloc (Nat.le_refl _) _
      have HF14 := Lib.hid (show Blk W14 w14.heap.size 39 [.bool te, .int .u32 (tn : Int), .bool tq, .int .i64 tl, .int .u8 (t0 : Int), .int .u8 (t1 : Int), .int .u8 (t2 : Int), .int .u8 (t3 : Int), .int .u8 (t4 : Int), .int .u8 (t5 : Int), .int .u8 (t6 : Int), .int .u8 (t7 : Int), .bool tonce, .int .i64 ttag] by rw [hW14]; exact Blk.new w14 _ [.bool te, .int .u32 (tn : Int), .bool tq, .int .i64 tl, .int .u8 (t0 : Int), .int .u8 (t1 : Int), .int .u8 (t2 : Int), .int .u8 (t3 : Int), .int .u8 (t4 : Int), .int .u8 (t5 : Int), .int .u8 (t6 : Int), .int .u8 (t7 : Int), .bool tonce, .int .i64 ttag])
      have HM15 := Lib.hid (HM14.out.on hb14); have HD15 := Lib.hid (HD14.out.keep hb14 HD14.out.lt); have HE15 := Lib.hid (HE14.out.keep hb14 HE14.out.lt)
      clear hb14
      go_upto_region 27 with fail
      obtain ⟨E2, hE2⟩ : ∃ D, D = w14.heap.size := ⟨_, rfl⟩
      rw [← hE2] at HF14 ⊢
      rw [← hW14]
      clear hW14 hE2
      have HCA := Lib.hid (show ∀ u, Below W14.heap.size W14 u → Below W14.heap.size W14 u ∧ u.cell? ⟨D, 15, none⟩ = some (.int .i64 tag) ∧ Blk u E1 39 [.bool te, .int .u32 (tn : Int), .bool tq, .int .i64 tl, .int .u8 (t0 : Int), .int .u8 (t1 : Int), .int .u8 (t2 : Int), .int .u8 (t3 : Int), .int .u8 (t4 : Int), .int .u8 (t5 : Int), .int .u8 (t6 : Int), .int .u8 (t7 : Int), .bool tonce, .int .i64 ttag] ∧ Blk u E2 39 [.bool te, .int .u32 (tn : Int), .bool tq, .int .i64 tl, .int .u8 (t0 : Int), .int .u8 (t1 : Int), .int .u8 (t2 : Int), .int .u8 (t3 : Int), .int .u8 (t4 : Int), .int .u8 (t5 : Int), .int .u8 (t6 : Int), .int .u8 (t7 : Int), .bool tonce, .int .i64 ttag] from fun u hx => ⟨hx, (HD15.out.keep hx HD15.out.lt).cellAt (i := 15) (by simp), HE15.out.keep hx HE15.out.lt, HF14.out.keep hx HF14.out.lt⟩)
      have HBA := Lib.hid (fun u (hx : Below W14.heap.size W14 u) => (best_any B1 L2 m HOc.out.small u (HM15.out.on hx).a).mono fun y w' hh => (⟨hh.1, HCA.out _ (hx.trans (hh.2.mono hx.size))⟩ : y = .returned (.int .i64 (bestF L2 m)) ∧ Below W14.heap.size W14 w' ∧ w'.cell? ⟨D, 15, none⟩ = some (.int .i64 tag) ∧ Blk w' E1 39 [.bool te, .int .u32 (tn : Int), .bool tq, .int .i64 tl, .int .u8 (t0 : Int), .int .u8 (t1 : Int), .int .u8 (t2 : Int), .int .u8 (t3 : Int), .int .u8 (t4 : Int), .int .u8 (t5 : Int), .int .u8 (t6 : Int), .int .u8 (t7 : Int), .bool tonce, .int .i64 ttag] ∧ Blk w' E2 39 [.bool te, .int .u32 (tn : Int), .bool tq, .int .i64 tl, .int .u8 (t0 : Int), .int .u8 (t1 : Int), .int .u8 (t2 : Int), .int .u8 (t3 : Int), .int .u8 (t4 : Int), .int .u8 (t5 : Int), .int .u8 (t6 : Int), .int .u8 (t7 : Int), .bool tonce, .int .i64 ttag]))
      have HBR := Lib.hid (fun u (hx : Below W14.heap.size W14 u) => (rbbest_any B P H L2 m (fun j _ => HOc.out.small j) u (HM15.out.on hx).r).mono fun y w' hh => (⟨hh.1, HCA.out _ (hx.trans (hh.2.mono hx.size))⟩ : y = .returned (.int .i64 (bestF L2 m)) ∧ Below W14.heap.size W14 w' ∧ w'.cell? ⟨D, 15, none⟩ = some (.int .i64 tag) ∧ Blk w' E1 39 [.bool te, .int .u32 (tn : Int), .bool tq, .int .i64 tl, .int .u8 (t0 : Int), .int .u8 (t1 : Int), .int .u8 (t2 : Int), .int .u8 (t3 : Int), .int .u8 (t4 : Int), .int .u8 (t5 : Int), .int .u8 (t6 : Int), .int .u8 (t7 : Int), .bool tonce, .int .i64 ttag] ∧ Blk w' E2 39 [.bool te, .int .u32 (tn : Int), .bool tq, .int .i64 tl, .int .u8 (t0 : Int), .int .u8 (t1 : Int), .int .u8 (t2 : Int), .int .u8 (t3 : Int), .int .u8 (t4 : Int), .int .u8 (t5 : Int), .int .u8 (t6 : Int), .int .u8 (t7 : Int), .bool tonce, .int .i64 ttag]))
      have HLA := Lib.hid (fun u (hx : Below W14.heap.size W14 u) => (blen_any B1 L2 m u (HM15.out.on hx).a).mono fun y w' hh => (⟨hh.1, HCA.out _ (hx.trans (hh.2.mono hx.size))⟩ : y = .returned (.int .i64 (lenF L2 m : Int)) ∧ Below W14.heap.size W14 w' ∧ w'.cell? ⟨D, 15, none⟩ = some (.int .i64 tag) ∧ Blk w' E1 39 [.bool te, .int .u32 (tn : Int), .bool tq, .int .i64 tl, .int .u8 (t0 : Int), .int .u8 (t1 : Int), .int .u8 (t2 : Int), .int .u8 (t3 : Int), .int .u8 (t4 : Int), .int .u8 (t5 : Int), .int .u8 (t6 : Int), .int .u8 (t7 : Int), .bool tonce, .int .i64 ttag] ∧ Blk w' E2 39 [.bool te, .int .u32 (tn : Int), .bool tq, .int .i64 tl, .int .u8 (t0 : Int), .int .u8 (t1 : Int), .int .u8 (t2 : Int), .int .u8 (t3 : Int), .int .u8 (t4 : Int), .int .u8 (t5 : Int), .int .u8 (t6 : Int), .int .u8 (t7 : Int), .bool tonce, .int .i64 ttag]))
      have HLR2 := Lib.hid (fun u (hx : Below W14.heap.size W14 u) => (rblen_any B P H L2 m u (HM15.out.on hx).r).mono fun y w' hh => (⟨hh.1, HCA.out _ (hx.trans (hh.2.mono hx.size))⟩ : y = .returned (.int .i64 (lenF L2 m : Int)) ∧ Below W14.heap.size W14 w' ∧ w'.cell? ⟨D, 15, none⟩ = some (.int .i64 tag) ∧ Blk w' E1 39 [.bool te, .int .u32 (tn : Int), .bool tq, .int .i64 tl, .int .u8 (t0 : Int), .int .u8 (t1 : Int), .int .u8 (t2 : Int), .int .u8 (t3 : Int), .int .u8 (t4 : Int), .int .u8 (t5 : Int), .int .u8 (t6 : Int), .int .u8 (t7 : Int), .bool tonce, .int .i64 ttag] ∧ Blk w' E2 39 [.bool te, .int .u32 (tn : Int), .bool tq, .int .i64 tl, .int .u8 (t0 : Int), .int .u8 (t1 : Int), .int .u8 (t2 : Int), .int .u8 (t3 : Int), .int .u8 (t4 : Int), .int .u8 (t5 : Int), .int .u8 (t6 : Int), .int .u8 (t7 : Int), .bool tonce, .int .i64 ttag]))
      have HFA := Lib.hid (fun u (hx : Below W14.heap.size W14 u) => (find_any B1 L2 m tag u (HM15.out.on hx).a).mono fun y w' hh => (⟨hh.1, HCA.out _ (hx.trans (hh.2.mono hx.size))⟩ : y = .returned (.int .i64 (findF L2 m tag)) ∧ Below W14.heap.size W14 w' ∧ w'.cell? ⟨D, 15, none⟩ = some (.int .i64 tag) ∧ Blk w' E1 39 [.bool te, .int .u32 (tn : Int), .bool tq, .int .i64 tl, .int .u8 (t0 : Int), .int .u8 (t1 : Int), .int .u8 (t2 : Int), .int .u8 (t3 : Int), .int .u8 (t4 : Int), .int .u8 (t5 : Int), .int .u8 (t6 : Int), .int .u8 (t7 : Int), .bool tonce, .int .i64 ttag] ∧ Blk w' E2 39 [.bool te, .int .u32 (tn : Int), .bool tq, .int .i64 tl, .int .u8 (t0 : Int), .int .u8 (t1 : Int), .int .u8 (t2 : Int), .int .u8 (t3 : Int), .int .u8 (t4 : Int), .int .u8 (t5 : Int), .int .u8 (t6 : Int), .int .u8 (t7 : Int), .bool tonce, .int .i64 ttag]))
      have HFR := Lib.hid (fun u (hx : Below W14.heap.size W14 u) => (rbfind_any B P H L2 m tag u (HM15.out.on hx).r).mono fun y w' hh => (⟨hh.1, HCA.out _ (hx.trans (hh.2.mono hx.size))⟩ : y = .returned (.int .i64 (findF L2 m tag)) ∧ Below W14.heap.size W14 w' ∧ w'.cell? ⟨D, 15, none⟩ = some (.int .i64 tag) ∧ Blk w' E1 39 [.bool te, .int .u32 (tn : Int), .bool tq, .int .i64 tl, .int .u8 (t0 : Int), .int .u8 (t1 : Int), .int .u8 (t2 : Int), .int .u8 (t3 : Int), .int .u8 (t4 : Int), .int .u8 (t5 : Int), .int .u8 (t6 : Int), .int .u8 (t7 : Int), .bool tonce, .int .i64 ttag] ∧ Blk w' E2 39 [.bool te, .int .u32 (tn : Int), .bool tq, .int .i64 tl, .int .u8 (t0 : Int), .int .u8 (t1 : Int), .int .u8 (t2 : Int), .int .u8 (t3 : Int), .int .u8 (t4 : Int), .int .u8 (t5 : Int), .int .u8 (t6 : Int), .int .u8 (t7 : Int), .bool tonce, .int .i64 ttag]))
      have HRA := Lib.hid (fun u (hx : Below W14.heap.size W14 u) => (room_any B1 L2 m u (HM15.out.on hx).a).mono fun y w' hh => (⟨hh.1, HCA.out _ (hx.trans (hh.2.mono hx.size))⟩ : y = .returned (.int .i64 (m : Int)) ∧ Below W14.heap.size W14 w' ∧ w'.cell? ⟨D, 15, none⟩ = some (.int .i64 tag) ∧ Blk w' E1 39 [.bool te, .int .u32 (tn : Int), .bool tq, .int .i64 tl, .int .u8 (t0 : Int), .int .u8 (t1 : Int), .int .u8 (t2 : Int), .int .u8 (t3 : Int), .int .u8 (t4 : Int), .int .u8 (t5 : Int), .int .u8 (t6 : Int), .int .u8 (t7 : Int), .bool tonce, .int .i64 ttag] ∧ Blk w' E2 39 [.bool te, .int .u32 (tn : Int), .bool tq, .int .i64 tl, .int .u8 (t0 : Int), .int .u8 (t1 : Int), .int .u8 (t2 : Int), .int .u8 (t3 : Int), .int .u8 (t4 : Int), .int .u8 (t5 : Int), .int .u8 (t6 : Int), .int .u8 (t7 : Int), .bool tonce, .int .i64 ttag]))
      obtain ⟨vb, hvb⟩ : ∃ v, v = bestF L2 m := ⟨_, rfl⟩
      obtain ⟨vl, hvl⟩ : ∃ v, v = (lenF L2 m : Int) := ⟨_, rfl⟩
      obtain ⟨vf, hvf⟩ : ∃ v, v = findF L2 m tag := ⟨_, rfl⟩
      rw [← hvb] at HBA HBR
      rw [← hvl] at HLA HLR2
      rw [← hvf] at HFA HFR
      clear hvb hvl hvf
      have hee := HQ.out t0 t1 t2 t3 t4 t5 t6 t7
      refine wp_region_class (C := fun x_ => Below W14.heap.size W14 x_ ∧ x_.cell? ⟨D, 15, none⟩ = some (.int .i64 tag) ∧ Blk x_ E1 39 [.bool te, .int .u32 (tn : Int), .bool tq, .int .i64 tl, .int .u8 (t0 : Int), .int .u8 (t1 : Int), .int .u8 (t2 : Int), .int .u8 (t3 : Int), .int .u8 (t4 : Int), .int .u8 (t5 : Int), .int .u8 (t6 : Int), .int .u8 (t7 : Int), .bool tonce, .int .i64 ttag] ∧ Blk x_ E2 39 [.bool te, .int .u32 (tn : Int), .bool tq, .int .i64 tl, .int .u8 (t0 : Int), .int .u8 (t1 : Int), .int .u8 (t2 : Int), .int .u8 (t3 : Int), .int .u8 (t4 : Int), .int .u8 (t5 : Int), .int .u8 (t6 : Int), .int .u8 (t7 : Int), .bool tonce, .int .i64 ttag]) (by kernel_rfl) (by kernel_rfl) (HCA.out _ (Below.refl _ _).drew) ?_
      repeat
        with_reducible refine wpQuiet_step (fun K hK => ?_)
        first
          | (refine quiet_skip (by rfl) ?_; (with_reducible refine hK _ ?_); clear hK K)
          | (refine quiet_want (by rfl) ?_
             apply Exists.intro
             refine ⟨fun xw hx => ?_, hK _ ?_⟩
             first | (obtain ⟨_, hx2, hx3, hx4⟩ := id hx; go_simp; first | done | rfl | (first | (go_at_call 17; with_reducible exact HBA.out xw hx.1) | (go_at_call 13; with_reducible exact HBR.out xw hx.1) | (go_at_call 18; with_reducible exact HLA.out xw hx.1) | (go_at_call 19; with_reducible exact HLR2.out xw hx.1) | (go_at_call 10; with_reducible exact HFA.out xw hx.1) | (go_at_call 20; with_reducible exact HFR.out xw hx.1) | (go_at_call 9; with_reducible exact HRA.out xw hx.1))) | (obtain ⟨_, hx2, hx3, hx4⟩ := id hx; have u0 := hx3.cellAt (i := 0) (by simp); have u1 := hx3.cellAt (i := 1) (by simp); have u2 := hx3.cellAt (i := 2) (by simp); have u3 := hx3.cellAt (i := 3) (by simp); have u4 := hx3.cellAt (i := 4) (by simp); have u5 := hx3.cellAt (i := 5) (by simp); have u6 := hx3.cellAt (i := 6) (by simp); have u7 := hx3.cellAt (i := 7) (by simp); have u8 := hx3.cellAt (i := 8) (by simp); have u9 := hx3.cellAt (i := 9) (by simp); have u10 := hx3.cellAt (i := 10) (by simp); have u11 := hx3.cellAt (i := 11) (by simp); have u12 := hx3.cellAt (i := 12) (by simp); have u13 := hx3.cellAt (i := 13) (by simp); simp only [List.getElem_cons_zero, List.getElem_cons_succ] at u0 u1 u2 u3 u4 u5 u6 u7 u8 u9 u10 u11 u12 u13; have v0 := hx4.cellAt (i := 0) (by simp); have v1 := hx4.cellAt (i := 1) (by simp); have v2 := hx4.cellAt (i := 2) (by simp); have v3 := hx4.cellAt (i := 3) (by simp); have v4 := hx4.cellAt (i := 4) (by simp); have v5 := hx4.cellAt (i := 5) (by simp); have v6 := hx4.cellAt (i := 6) (by simp); have v7 := hx4.cellAt (i := 7) (by simp); have v8 := hx4.cellAt (i := 8) (by simp); have v9 := hx4.cellAt (i := 9) (by simp); have v10 := hx4.cellAt (i := 10) (by simp); have v11 := hx4.cellAt (i := 11) (by simp); have v12 := hx4.cellAt (i := 12) (by simp); have v13 := hx4.cellAt (i := 13) (by simp); simp only [List.getElem_cons_zero, List.getElem_cons_succ] at v0 v1 v2 v3 v4 v5 v6 v7 v8 v9 v10 v11 v12 v13; go_simp; first | done | rfl)
             clear hK K)
        try simp only [Act.put, List.setIfInBounds_toArray, List.set_cons_zero, List.set_cons_succ]
      with_reducible refine wpQuiet_nil ?_
      intro wq hq
      have HM16 := Lib.hid (HM15.out.on hq.1)
      clear hq hee
      obtain ⟨W16, hW16⟩ : ∃ u, u = wq := ⟨_, rfl⟩
      rw [← hW16] at HM16 ⊢
      clear hW16
      go_wp2_with fail
      go_roundw
      case rel => exact ⟨i + 1, L2, by simp, by have := HGO.out; omega, HM16.out, HOc.out⟩
      case measure => have := HGO.out; simp [intOf]; omega
    · by_cases h1 : i < L.length
      · have i1 : (i : Int) < (L.length : Int) := by omega
        have i2 : ¬ (i : Int) < 60 := by omega
        go_wp2_with fail
        refine (HLV.out _).mono ?_
        rintro y w9 ⟨rfl, hb⟩
        have HB9 := Lib.hid (HM.out.bel.trans (hb.mono HM.out.bel.size))
        clear hb
        go_wp2_with fail
        go_ret
        exact ⟨rfl, HB9.out⟩
      · have i1 : ¬ (i : Int) < (L.length : Int) := by omega
        go_wp2_with fail
        refine (HLV.out _).mono ?_
        rintro y w9 ⟨rfl, hb⟩
        have HB9 := Lib.hid (HM.out.bel.trans (hb.mono HM.out.bel.size))
        clear hb
        go_wp2_with fail
        go_ret
        exact ⟨rfl, HB9.out⟩

end Go.Proofs.Ytbdockeopbfliaa
