/- RankDemotes (P21.5): a master that hears a better one is none any more; of two that are, without a loss, the worse one is none behind a period and two ticks. No conditions. -/
import Derived.Test.YthgoaijfpdnolaaRows
import Derived.Test.YthgoaijfpdnolaaKnm
import Derived.Test.YthgoaijfpdnolaaRko
import Derived.Test.YthgoaijfpdnolaaOpr
import Derived.Lib.SmallJoins
import Derived.WalkKit
import Derived.ProofKit
import Derived.OpenShut
import Derived.ShutString
import Derived.ChangeOld
import Derived.Below
namespace Go.Proofs.Ythgoaijfpdnolaa.rankDemotes
open Go.ChangeShapes Go.WideShapes Go.ChangeAt Go.RowKit
theorem own : ownKnob Try.prog.godebug = none := by kernel_rfl
theorem laidOut : laidOutB Try.prog = true := by kernel_rfl
set_option maxRecDepth 100000 in
set_option maxHeartbeats 16000000 in
theorem walk (b s p : Int) (a1 : Option Addr) (len1 cap1 : Nat) (L : List A21) (w : World) (_ : (Lit.int .i64 b).wf = true) (_ : (Lit.int .i64 s).wf = true) (_ : (Lit.int .i64 p).wf = true) (w1 : L.length = len1 ∧ (∀ s ∈ L, s.wf) ∧ Rd w 3 (.slice a1 len1 cap1) (L.flatMap A21.C)) :
    Calls Try.prog 12 #[.agg #[.int .i64 b, .int .i64 s, .int .i64 p], .slice a1 len1 cap1] w fun y w' => y = .returned (.bool true) ∧ Below w.heap.size w w' := by
  obtain ⟨rfl, _, hL⟩ := w1
  have HLR := Lib.hid hL
  clear hL
  obtain ⟨W0, hW0⟩ : ∃ W, W = w.alloc (.cells #[.int .i64 b, .int .i64 s, .int .i64 p] 34) := ⟨_, rfl⟩
  have HA0 := Lib.hid (show Blk W0 w.heap.size 34 [.int .i64 b, .int .i64 s, .int .i64 p] by rw [hW0]; exact Blk.new w 34 [.int .i64 b, .int .i64 s, .int .i64 p])
  have HB0 := Lib.hid (show Below w.heap.size w W0 by rw [hW0]; exact (Below.refl _ w).alloc (Nat.le_refl _) _)
  have HSM := Lib.hid (fun u => lw_small b s p 0 (by omega) u)
  obtain ⟨hrc, hp5, hb12⟩ := sm_rc b s p 0 (by omega)
  obtain ⟨B0, hB0⟩ : ∃ x, x = smB b 0 := ⟨_, rfl⟩
  obtain ⟨S0, hS0⟩ : ∃ x, x = smS s := ⟨_, rfl⟩
  obtain ⟨P0, hP0⟩ : ∃ x, x = smP p := ⟨_, rfl⟩
  rw [← hB0, ← hS0, ← hP0] at HSM hrc
  rw [← hP0] at hp5
  rw [← hB0] at hb12
  have HRC := Lib.hid hrc
  have HP5 := Lib.hid (show 1 ≤ P0 ∧ P0 ≤ 5 ∧ P0 + 2 ≤ B0 by have := hrc.p1; omega)
  have HOP := Lib.hid (fun u => fd_open_yes B0 S0 P0 5 (rc_rightR hrc) (by omega) u)
  clear hB0 hS0 hP0 hrc hp5 hb12
  have c0 := HA0.out.cellAt (i := 0) (by simp); have c1 := HA0.out.cellAt (i := 1) (by simp); have c2 := HA0.out.cellAt (i := 2) (by simp)
  go_enter Try.func12, Try.ntmps12
  go_upto_region 1 with fail
  rw [← hW0]
  clear hW0
  obtain ⟨C, hC⟩ : ∃ C, C = w.heap.size := ⟨_, rfl⟩
  rw [← hC] at HA0 c0 c1 c2 ⊢
  have HCW := Lib.hid hC
  clear hC
  go_wp2_with fail
  refine (HSM.out _).mono ?_
  rintro y w2 ⟨rfl, hb⟩
  have HB2 := Lib.hid (below_transG HB0.out hb)
  have HA2 := Lib.hid (HA0.out.keep hb HA0.out.lt)
  clear hb c0 c1 c2 HA0 HB0
  have c0 : w2.cell? ⟨C, 0, none⟩ = some (.int .i64 b) := HA2.out.cellAt (i := 0) (by simp)
  have c1 : w2.cell? ⟨C, 1, none⟩ = some (.int .i64 s) := HA2.out.cellAt (i := 1) (by simp)
  have c2 : w2.cell? ⟨C, 2, none⟩ = some (.int .i64 p) := HA2.out.cellAt (i := 2) (by simp)
  have f0 : w2.frozen? ⟨C, 0, none⟩ = false := HA2.out.frozenAt 0
  have f1 : w2.frozen? ⟨C, 1, none⟩ = false := HA2.out.frozenAt 1
  have f2 : w2.frozen? ⟨C, 2, none⟩ = false := HA2.out.frozenAt 2
  have hcl := HA2.out.lt
  have HA3 := Lib.hid (((HA2.out.put1 (i := 0) (by simp) (.int .i64 B0)).put1 (i := 1) (by simp) (.int .i64 S0)).put1 (i := 2) (by simp) (.int .i64 P0))
  have HB3 := Lib.hid (((HB2.out.setCell (p := ⟨C, 0, none⟩) (by have := HCW.out; show w.heap.size ≤ C; omega) (.int .i64 B0)).setCell (p := ⟨C, 1, none⟩) (by have := HCW.out; show w.heap.size ≤ C; omega) (.int .i64 S0)).setCell (p := ⟨C, 2, none⟩) (by have := HCW.out; show w.heap.size ≤ C; omega) (.int .i64 P0))
  go_upto_region 3 with fail
  obtain ⟨w3, hw3⟩ : ∃ w3, w3 = (((w2.setCell ⟨C, 0, none⟩ (.int .i64 B0)).setCell ⟨C, 1, none⟩ (.int .i64 S0)).setCell ⟨C, 2, none⟩ (.int .i64 P0)) := ⟨_, rfl⟩
  rw [← hw3] at HA3 HB3 ⊢
  clear c0 c1 c2 f0 f1 f2 hcl hw3 HA2 HB2
  have HA4 := Lib.hid (show Blk w3 C 34 [.int .i64 B0, .int .i64 S0, .int .i64 P0] from HA3.out)
  clear HA3
  have c0 := HA4.out.cellAt (i := 0) (by simp); have c1 := HA4.out.cellAt (i := 1) (by simp); have c2 := HA4.out.cellAt (i := 2) (by simp)
  go_wp2_with fail
  refine (HOP.out _).mono ?_
  rintro y w4 ⟨A, NB, pk, rfl, hF, hS, hb⟩
  have HF := Lib.hid hF; have HS := Lib.hid hS; have HB := Lib.hid hb
  have HCL := Lib.hid HA4.out.lt
  have HCC := Lib.hid (show ∀ u, Below w3.heap.size w3 u → u.cell? ⟨C, 2, none⟩ = some (.int .i64 P0) from fun u hu => (HA4.out.keep hu HA4.out.lt).cellAt (i := 2) (by simp))
  obtain ⟨st0, hst0⟩ : ∃ st0, st0 = newS 5 := ⟨_, rfl⟩
  rw [← hst0] at HF HS
  clear hF hS hb c0 c1 c2 hst0 HSM HOP
  go_wp2_with fail
  go_loopw [8] (fun s8 wr => ∃ (i : Nat) (pk : Nat → Nat) (st : Fs) (ta : Option Addr) (tc : Nat) (told : List Int), s8 = .int .i64 (i : Int) ∧ i ≤ 40 ∧ FA wr A NB B0 S0 P0 5 pk st ta tc told ∧ (∀ j, FC.S A NB 5 pk st j → w3.heap.size ≤ j) ∧ Below w3.heap.size w3 wr) (fun s8 _ => 40 - (intOf s8).toNat)
  case atStart => exact ⟨0, pk, st0, none, 0, [], rfl, by omega, HF.out, HS.out, HB.out⟩
  case round =>
    clear HF HS HB
    obtain ⟨i, pk, st, ta, tc, told, rfl, hi40, hF, hS, hB⟩ := hrel
    have HF := Lib.hid hF; have HS := Lib.hid hS; have HB := Lib.hid hB
    clear hF hS hB
    by_cases hgo : i < L.length ∧ i < 40
    · have hlt := hgo.1
      have i1 : (i : Int) < (L.length : Int) := by omega
      have i2 : (i : Int) < 40 := by have := hgo.2; omega
      have i3 : (0 : Int) ≤ (i : Int) := by omega
      obtain ⟨g, off, rfl, hg, hcell⟩ := rd_at A21.C 3 (fun _ => rfl) HLR.out hlt (by decide)
      obtain ⟨x, hx⟩ : ∃ x, x = L[i] := ⟨_, rfl⟩
      rw [← hx] at hcell
      clear hx
      obtain ⟨kd, k, m⟩ := x
      have hbw := HB3.out.trans (HB.out.mono HB3.out.size)
      have hcw : ∀ j v, (A21.C ⟨kd, k, m⟩)[j]? = some v → wr.cell? ⟨g, off + i * 3 + j, none⟩ = some v := fun j v h => (hbw.cell (p := ⟨g, off + i * 3 + j, none⟩) hg).trans (hcell j v h)
      have e0 : wr.cell? ⟨g, off + i * 3, none⟩ = some (.int .i64 kd) := hcw 0 _ rfl
      have e1 : wr.cell? ⟨g, off + i * 3 + 1, none⟩ = some (.int .i64 k) := hcw 1 _ rfl
      have e2 : wr.cell? ⟨g, off + i * 3 + 2, none⟩ = some (.int .i64 m) := hcw 2 _ rfl
      have HD := Lib.hid (lw_do HF.out kd k m)
      have HGO := Lib.hid (show i < 40 from hgo.2)
      clear hcw hbw hcell
      go_wp2_with fail
      refine HD.out.mono ?_
      rintro y w5 ⟨rfl, pk', st', ta', tc', told', hF5, hS5, hFo⟩
      have HF5 := Lib.hid hF5
      have HS6 := Lib.hid (show ∀ j, FC.S A NB 5 pk' st' j → w3.heap.size ≤ j from fun j hj => by rcases hS5 j hj with h | h; exact HS.out j h; have := HB.out.size; omega)
      have HB5 := Lib.hid (HB.out.trans (hFo.below HS.out HB.out.size))
      clear hF5 hS5 hFo e0 e1 e2
      go_wp2_with fail
      go_roundw
      case rel => exact ⟨i + 1, pk', st', ta', tc', told', by simp, by have := HGO.out; omega, HF5.out, HS6.out, HB5.out⟩
      case measure => have := HGO.out; simp [intOf]; omega
    have hT : ((i : Int) < (L.length : Int) ∧ ¬ (i : Int) < 40) ∨ ¬ (i : Int) < (L.length : Int) := by omega
    clear hgo
    have HT1 := Lib.hid (fd_tick HF.out false)
    obtain ⟨st1, hst1⟩ : ∃ st1, st1 = tkS B0 S0 P0 (hearI false told) st := ⟨_, rfl⟩
    obtain ⟨td1, htd1⟩ : ∃ td1, td1 = pickI 5 (tellB B0 S0 P0 (hearI false told) st) := ⟨_, rfl⟩
    obtain ⟨M, hM⟩ : ∃ M, M = pickI 5 (mastB st1) := ⟨_, rfl⟩
    have HJ0 := Lib.hid (show ∀ x m', M = x :: m' → x.toNat < 5 ∧ x = (x.toNat : Int) ∧ I2 B0 S0 P0 5 x.toNat 0 st1 td1 from fun x m' e => by
      rw [hM] at e
      obtain ⟨c, h1, h2, h3, h4⟩ := pick_head e
      have h5 : x.toNat = c := by omega
      rw [hst1] at e
      have h6 := I2.begins (q := x.toNat) HF.out.fi HRC.out e (by omega)
      rw [hst1, htd1]
      exact ⟨h6.1, by omega, h6.2⟩)
    rw [← hst1, ← htd1] at HT1
    have HS1 := Lib.hid (show ∀ j, FC.S A NB 5 pk st1 j → FC.S A NB 5 pk st j from fun j hj => by rw [hst1] at hj; exact S_tick.1 hj)
    have HM := Lib.hid hM
    obtain ⟨P2, hP2⟩ : ∃ P2, P2 = P0 + 2 := ⟨_, rfl⟩
    have HP2 := Lib.hid hP2
    have HPW := Lib.hid (show wrap64 (P0 + 2) = P2 by rw [hP2]; exact w64_in _ (by have := HP5.out; omega))
    clear hst1 htd1 hM hP2
    rcases hT with ⟨i1, i2⟩ | i1
    all_goals
      go_wp2_with fail
      refine HT1.out.mono ?_
      rintro y w6 ⟨rfl, ta6, tc6, hF6, hFo6⟩
      have HF6 := Lib.hid hF6
      have HB6 := Lib.hid (HB.out.trans (hFo6.below HS.out HB.out.size))
      have HS6 := Lib.hid (show ∀ j, FC.S A NB 5 pk st1 j → w3.heap.size ≤ j from fun j hj => HS.out j (HS1.out j hj))
      have HMS := Lib.hid (fd_masters HF6.out)
      rw [← HM.out] at HMS
      clear hF6 hFo6
      go_wp2_with fail
      refine HMS.out.mono ?_
      rintro y w7 ⟨ma, mc, rfl, hI, hG, hb⟩
      have HF7 := Lib.hid (HF6.out.on hb)
      have HB7 := Lib.hid (HB6.out.trans (hb.mono HB6.out.size))
      have HI7 := Lib.hid hI
      have HG7 := Lib.hid (show ∀ g off, ma = some ⟨g, off, none⟩ → ¬ FC.S A NB 5 pk st1 g from fun g off e hS => by have h1 := hG g off e; have h2 := HF6.out.c.lt hS; omega)
      clear hI hG hb HMS
      go_wp2_with fail
      go_loopw [10] (fun s10 wr => ∃ (t : Nat) (st : Fs) (ta : Option Addr) (tc : Nat) (told : List Int), s10 = .int .i64 (t : Int) ∧ (t : Int) ≤ P2 ∧ FA wr A NB B0 S0 P0 5 pk st ta tc told ∧ (∀ j, FC.S A NB 5 pk st j → FC.S A NB 5 pk st1 j) ∧ (∀ x m', M = x :: m' → I2 B0 S0 P0 5 x.toNat (t : Int) st told) ∧ Ints wr ma M ∧ Below w3.heap.size w3 wr) (fun s10 _ => P2.toNat - (intOf s10).toNat)
      case atStart => exact ⟨0, st1, ta6, tc6, td1, rfl, by have := HP2.out; have := HP5.out; omega, HF7.out, fun j hj => hj, fun x m' e => (HJ0.out x m' e).2.2, HI7.out, HB7.out⟩
      case round =>
        obtain ⟨t, st2, ta2, tc2, td2, rfl, htP, hF, hS, hJ, hI, hB⟩ := hrel
        have HF := Lib.hid hF; have HS2 := Lib.hid hS; have HJ := Lib.hid hJ; have HI := Lib.hid hI; have HB := Lib.hid hB
        clear hF hS hJ hI hB HF6 HF7 HB6 HB7 HI7
        have cP := HCC.out wr HB.out
        have ht7 : (t : Int) ≤ 7 := by have := HP2.out; have := HP5.out; omega
        have hw := HPW.out
        by_cases hlt : (t : Int) < P2
        · have HT := Lib.hid (fd_tick HF.out false)
          have HTP := Lib.hid (show (t : Int) + 1 ≤ P2 ∧ P2 ≤ 7 ∧ (t : Int) < P0 + 2 by have := HP2.out; have := HP5.out; omega)
          go_wp2_with fail
          refine HT.out.mono ?_
          rintro y w8 ⟨rfl, ya, yc, hF8, hFo8⟩
          have HF8 := Lib.hid hF8
          have HS8 := Lib.hid (show ∀ j, FC.S A NB 5 pk (tkS B0 S0 P0 (hearI false td2) st2) j → FC.S A NB 5 pk st1 j from fun j hj => HS2.out j (S_tick.1 hj))
          have HB8 := Lib.hid (HB.out.trans (hFo8.below (fun k hk => HS6.out k (HS2.out k hk)) HB.out.size))
          have HI8 := Lib.hid (show Ints w8 ma M from fun j hj => by
            obtain ⟨g, off, h1, h2, h3⟩ := HI.out j hj
            exact ⟨g, off, h1, Nat.lt_of_lt_of_le h2 hFo8.size, (World.cell?_of_block (hFo8.block g h2 (fun h => HG7.out g off h1 (HS2.out g h)))).trans h3⟩)
          have HJ8 := Lib.hid (show ∀ x m', M = x :: m' → I2 B0 S0 P0 5 x.toNat ((t : Int) + 1) (tkS B0 S0 P0 (hearI false td2) st2) (pickI 5 (tellB B0 S0 P0 (hearI false td2) st2)) from fun x m' e => (HJ.out x m' e).step HRC.out (HJ0.out x m' e).1 (by omega) HP5.out.2.2 HTP.out.2.2)
          clear hF8 hFo8 cP
          go_wp2_with fail
          go_roundw
          case rel => exact ⟨t + 1, _, ya, yc, _, by simp, by have := HTP.out; omega, HF8.out, HS8.out, fun x m' e => by have := HJ8.out x m' e; rw [show ((t + 1 : Nat) : Int) = (t : Int) + 1 by omega]; exact this, HI8.out, HB8.out⟩
          case measure => have := HTP.out; simp [intOf]; omega
        have HTE := Lib.hid (show (t : Int) = P0 + 2 by have := HP2.out; omega)
        have HMS := Lib.hid (fd_masters HF.out)
        obtain ⟨AF, hAF⟩ : ∃ AF, AF = pickI 5 (mastB st2) := ⟨_, rfl⟩
        rw [← hAF] at HMS
        have HAF := Lib.hid (show ∀ x m', M = x :: m' → (∀ r ∈ AF, r ≤ x) ∧ AF ≠ [] from fun x m' e => by
          have h1 := HJ.out x m' e
          rw [HTE.out] at h1
          have h2 := h1.ends (HJ0.out x m' e).1 HRC.out
          rw [← hAF] at h2
          exact ⟨fun r hr => by have := h2.1 r hr; have := (HJ0.out x m' e).2.1; omega, h2.2⟩)
        have HAL := Lib.hid (show AF.length ≤ 5 by rw [hAF]; exact pick_len _ _)
        clear hAF htP
        go_wp2_with fail
        refine HMS.out.mono ?_
        rintro y w9 ⟨aa, ac, rfl, hI9, _, hb⟩
        have HI9 := Lib.hid hI9
        have HM9 := Lib.hid (HI.out.on hb)
        have HB9 := Lib.hid (HB3.out.trans ((HB.out.trans (hb.mono HB.out.size)).mono HB3.out.size))
        clear hI9 hb cP hw HMS
        match M, HM9, HAF with
        | [], HM9, HAF =>
          go_wp2_with fail
          refine (live21 _).mono ?_
          rintro y w10 ⟨rfl, hb⟩
          have HBz := Lib.hid (below_transG HB9.out hb)
          clear hb
          go_wp2_with fail
          go_ret
          exact ⟨rfl, HBz.out⟩
        | x :: m', HM9, HAF =>
          obtain ⟨mg, mo, hma, hmg, hm0⟩ := HM9.out 0 (by simp)
          subst hma
          have HM0 := Lib.hid (show w9.cell? ⟨mg, mo, none⟩ = some (.int .i64 x) from hm0)
          have HMG := Lib.hid hmg
          have HAX := Lib.hid (HAF.out x m' rfl)
          obtain ⟨ML, hML⟩ : ∃ ML, ML = (x :: m').length := ⟨_, rfl⟩
          rw [← hML]
          have hML1 : 1 ≤ ML := by rw [hML]; simp
          have i9 : ((ML : Int) == 0) = false := by rw [beq_eq_false_iff_ne]; omega
          have i10 : (0 : Int) < (ML : Int) := by omega
          have hal := HAL.out
          clear hML hm0 hmg HM HJ0 HJ HAF
          go_wp2_with fail
          go_loopw [12] (fun s12 wr => ∃ i : Nat, s12 = .int .i64 (i : Int) ∧ i ≤ AF.length ∧ Below w9.heap.size w9 wr) (fun s12 _ => AF.length - (intOf s12).toNat)
          case atStart => exact ⟨0, rfl, by omega, Below.refl _ _⟩
          case round =>
            obtain ⟨j, rfl, hj, hB⟩ := hrel
            have HBj := Lib.hid hB
            clear hB
            by_cases hlt : j < AF.length
            · have j1 : (j : Int) < (AF.length : Int) := by omega
              have j2 : (0 : Int) ≤ (j : Int) := by omega
              obtain ⟨g2, o2, hag, hg2, hc2⟩ := HI9.out j hlt
              subst hag
              obtain ⟨z, hz⟩ : ∃ z, z = AF[j] := ⟨_, rfl⟩
              rw [← hz] at hc2
              have j3 : ¬ x < z := by have := HAX.out.1 z (by rw [hz]; exact List.getElem_mem _); omega
              have e1 := (HBj.out.cell (p := ⟨g2, o2 + j, none⟩) hg2).trans hc2
              have e2 := (HBj.out.cell (p := ⟨mg, mo, none⟩) HMG.out).trans HM0.out
              clear hc2 hz
              go_upto_region 22 with fail
              go_region
              all_goals
                go_wp2_with fail
                go_roundw
                case rel => exact ⟨j + 1, by simp, by omega, HBj.out.drew⟩
                case measure => simp [intOf]; omega
            · obtain rfl : j = AF.length := by omega
              have k1 : (0 : Int) < (AF.length : Int) := by
                have h1 : AF.length ≠ 0 := fun e => HAX.out.2 (List.eq_nil_of_length_eq_zero e)
                omega
              go_wp2_with fail
              refine (live21 _).mono ?_
              rintro y w10 ⟨rfl, hb⟩
              have HBz := Lib.hid (below_transG (below_transG HB9.out HBj.out) hb)
              have HK1 := Lib.hid (show decide (0 < AF.length) = true from decide_eq_true (by omega))
              clear hb
              go_wp2_with fail
              go_ret
              exact ⟨congrArg (fun v => Ending.returned (.bool v)) HK1.out, HBz.out⟩
set_option maxRecDepth 100000 in
theorem lifted (os : Os) (started : os.Started) (H : Type) (enc : TypeId × Value → H) :
    ReturnsInHanded {} Try.checked os 12 .any (Rows.rankDemotesSpec.pre6 enc Try.prog Try.f12 Rows.rankDemotesRow.domain false) (Rows.rankDemotesSpec.post enc Try.prog Try.f12 false true false false) := by
  refine returnsInHanded_of_change (C := Try.checked) own started (by kernel_rfl) Try.func12
    (ChangeSpec.witness6 (enc := enc) (C := Try.checked) false ⟨#[], #[.agg #[.int .i64 0, .int .i64 0, .int .i64 0], .slice none 0 0], []⟩ 8 (by kernel_rfl) (by kernel_rfl) (by kernel_rfl) (by kernel_rfl)) ?_
  intro W base args ds gs before hval0 hW _ _
  have hval : ∀ (j : Nat) t v, Try.f12.params[j]? = some t → args[j]? = some v → Value.okWide Try.prog W .any base t v := hval0
  have hW' := hW
  obtain ⟨p, q, hA0, hV, rfl, hfz, hnd⟩ := hW
  have hA : DataW.TrodAll enc Try.prog W 0 (fun _ => true) true Try.f12.params.toList args.toList ds p := hA0
  rw [Try.params12] at hA hval
  obtain ⟨v0, vs0, d0, ds0, p0, q0, hargs, rfl, rfl, h0, r0⟩ := trodAll_cons hA
  obtain ⟨v1, vs1, d1, ds1, p1, q1, rfl, rfl, rfl, h1, r1⟩ := trodAll_cons r0
  obtain ⟨rfl, rfl, rfl⟩ := trodAll_nil r1
  obtain rfl : args = #[v0, v1] := by cases args; simp_all
  obtain ⟨rfl, rfl⟩ := trodVars_none hV
  have k0 := h0
  have lt0 : ∀ x ∈ p0, x.block < W.heap.size := by obtain ⟨m, hm⟩ := k0; exact DataW.trod_lt m _ _ _ hm
  obtain ⟨ca0, cb0, cc0, ya0, yb0, yc0, n0, rfl, rfl, rfl, ta0, tb0, tc0⟩ := Joins.open_agg3 Try.underlying34 (by kernel_rfl) (by kernel_rfl) (hval 0 34 v0 rfl rfl) h0
  obtain ⟨xa0, hxa0, rfl, wa0⟩ := DataW.trod_int Try.underlying3 ta0
  obtain ⟨xb0, hxb0, rfl, wb0⟩ := DataW.trod_int Try.underlying3 tb0
  obtain ⟨xc0, hxc0, rfl, wc0⟩ := DataW.trod_int Try.underlying3 tc0
  obtain rfl : ca0 = .int .i64 xa0 := by simpa using hxa0
  obtain rfl : cb0 = .int .i64 xb0 := by simpa using hxb0
  obtain rfl : cc0 = .int .i64 xc0 := by simpa using hxc0
  obtain ⟨a1, len1, cap1, rfl⟩ := okWide_slice Try.underlying60 (hval 1 60 v1 rfl rfl)
  have k1 := h1
  have lt1 : ∀ x ∈ p1, x.block < W.heap.size := by obtain ⟨m, hm⟩ := k1; exact DataW.trod_lt m _ _ _ hm
  obtain ⟨L1, wl1, ww1, wr1⟩ : ∃ L : List A21, L.length = len1 ∧ (∀ s ∈ L, A21.wf s) ∧ Rd W 3 (.slice a1 len1 cap1) (L.flatMap A21.C) := by
    obtain ⟨fuel, hf⟩ := h1
    exact open_rows A21.C A21.wf 3 (by decide) Try.underlying60 (by kernel_rfl) (fun _ => rfl) (fun _ _ _ => act21G) (by simpa [Value.cells] using hf)
  clear hA0 hval0
  refine (walk xa0 xb0 xc0 a1 len1 cap1 L1 W wa0 wb0 wc0 ⟨wl1, ww1, wr1⟩).mono fun e W' ⟨he, bel⟩ => ?_
  subst he
  exact ⟨_, rfl, _, _, _, [], _, [], hW', trodAll_mk1 (shut_bool Try.underlying4 _), (trodAll_cons_mk (Below.trod laidOut (by kernel_rfl) (of_decide_eq_true (by kernel_rfl)) k0 bel lt0) (trodAll_cons_mk (Below.trod laidOut (by kernel_rfl) (of_decide_eq_true (by kernel_rfl)) k1 bel lt1) trodAll_mk0)), rfl, bel.frame _, fun h => by cases h⟩
theorem over : Rows.rankDemotesRow.holds Try.pinned (OpenSpec.ofChange Rows.rankDemotesSpec) :=
  OpenClaim.holds_of_wide 12 Try.f12 rfl rfl rfl rfl rfl rfl rfl ⟨rfl, rfl, rfl, rfl, rfl⟩ rfl rfl rfl rfl rfl (by kernel_rfl) Try.func12 (by kernel_rfl)
    (of_decide_eq_true (by kernel_rfl)) (by unfold Func.isWrapper; first | (rw [if_pos (by decide +kernel)]; kernel_rfl) | (rw [if_neg (by decide +kernel)]; exact ⟨rfl, rfl⟩))
    (fun os started H enc _ => lifted os started H enc)
/-- The statement. -/
theorem proved : Rows.RankDemotesSaid := over
end Go.Proofs.Ythgoaijfpdnolaa.rankDemotes
