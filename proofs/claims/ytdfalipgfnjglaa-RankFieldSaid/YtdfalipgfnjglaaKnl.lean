/- Package rank: what must be whatever is asked (live of layer 21). No conditions. -/
import Derived.Test.YtdfalipgfnjglaaKnk
namespace Go.Proofs.Ytdfalipgfnjglaa
open Go.RowKit
/-- A field of three, after so many ticks. -/
def itF : Nat → Fs × List Int
  | 0 => (newS 3, [])
  | i + 1 => (tkS 5 2 3 (itF i).2 (itF i).1, pickI 3 (tellB 5 2 3 (itF i).2 (itF i).1))
theorem it_six : pickI 3 (mastB (itF 6).1) = [0] ∧ ((itF 6).1 0).isSome = true := by decide +kernel
/-- A node alone, after so many ticks. -/
def itN : Nat → Nd
  | 0 => ⟨false, 0, 0⟩
  | i + 1 => (tkN 5 2 3 1 [] (itN i)).1
theorem it_eight : (itN 8).m = true ∧ (tkN 5 2 3 1 [0] (itN 8)).1.m = false ∧ (tkN 5 2 3 1 [0] (itN 8)).1.i = 0 := by decide +kernel
theorem c523 : rightR 5 2 3 = true := by decide
theorem itN_ok : ∀ i, Ok1 5 2 3 1 (itN i)
  | 0 => Ok1.new (by decide)
  | i + 1 => (itN_ok i).tick (by decide) (by decide) []
theorem live_x : rightR 0 0 0 = false ∧ waitX 5 2 3 1 = 7 ∧ windX 5 2 3 3 0 = 22 := by decide +kernel
set_option maxRecDepth 100000 in
set_option maxHeartbeats 8000000 in
theorem live21 (w : World) : Calls Try.prog 59 #[] w fun y w' => y = .returned (.bool true) ∧ Below w.heap.size w w' := by
  have HZ := Lib.hid (fun u => fd_open_no 0 0 0 1 (fun h => by rw [live_x.1] at h; cases h) u)
  have HWT := Lib.hid (fun u => rk_wait 5 2 3 1 u)
  have HWI := Lib.hid (fun u => rk_window 5 2 3 3 0 u)
  have HRI := Lib.hid (fun u => rk_right 5 2 3 u)
  rw [live_x.2.1] at HWT
  rw [live_x.2.2] at HWI
  rw [c523] at HRI
  obtain ⟨W0, hW0⟩ : ∃ W, W = w.alloc (.cells #[.int .i64 5, .int .i64 2, .int .i64 3] 115) := ⟨_, rfl⟩
  have hB0 : Below w.heap.size w W0 := by rw [hW0]; exact (Below.refl _ w).alloc (Nat.le_refl _) _
  have hC0 : Blk W0 w.heap.size 115 [.int .i64 5, .int .i64 2, .int .i64 3] := by rw [hW0]; exact Blk.new w 115 [.int .i64 5, .int .i64 2, .int .i64 3]
  have HOP := Lib.hid (fd_open_yes 5 2 3 3 c523 (by omega) W0)
  go_enter Try.func59, Try.ntmps59
  go_upto_region 2 with fail
  rw [← hW0]
  obtain ⟨C, hC⟩ : ∃ C, C = w.heap.size := ⟨_, rfl⟩
  rw [← hC] at hC0 ⊢
  have HCW := Lib.hid (show w.heap.size ≤ C by omega)
  have HB0 := Lib.hid hB0; have HC0 := Lib.hid hC0
  clear hW0 hB0 hC0 hC
  have c0 := HC0.out.cellAt (i := 0) (by simp); have c1 := HC0.out.cellAt (i := 1) (by simp); have c2 := HC0.out.cellAt (i := 2) (by simp)
  go_wp2_with fail
  refine HOP.out.mono ?_
  rintro y w1 ⟨A, NB, pk, rfl, hF, hS, hb⟩
  have HF1 := Lib.hid hF
  have HS1 := Lib.hid (show ∀ j, FC.S A NB 3 pk (newS 3) j → w.heap.size ≤ j ∧ j ≠ C from fun j hj => by have h1 := hS j hj; have h2 := HC0.out.lt; have h3 := HB0.out.size; omega)
  have HB1 := Lib.hid (below_transG HB0.out hb)
  have HC1 := Lib.hid (HC0.out.keep hb HC0.out.lt)
  clear hF hS hb c0 c1 c2 HB0 HC0 HOP
  go_wp2_with fail
  refine (HZ.out _).mono ?_
  rintro y w2 ⟨rfl, hb⟩
  have HF2 := Lib.hid (HF1.out.on hb)
  have HB2 := Lib.hid (below_transG HB1.out hb)
  have HC2 := Lib.hid (HC1.out.keep hb HC1.out.lt)
  clear hb HF1 HB1 HC1
  go_wp2_with fail
  go_loopw [6] (fun s6 wr => ∃ (i : Nat) (ta : Option Addr) (tc : Nat), s6 = .int .i64 (i : Int) ∧ i ≤ 6 ∧ FA wr A NB 5 2 3 3 pk (itF i).1 ta tc (itF i).2 ∧ (∀ j, FC.S A NB 3 pk (itF i).1 j → w.heap.size ≤ j ∧ j ≠ C) ∧ Blk wr C 115 [.int .i64 5, .int .i64 2, .int .i64 3] ∧ Below w.heap.size w wr) (fun s6 _ => 6 - (intOf s6).toNat)
  case atStart => exact ⟨0, none, 0, rfl, by omega, HF2.out, HS1.out, HC2.out, HB2.out⟩
  case round =>
    obtain ⟨i, ta, tc, rfl, hi6, hF, hS, hC, hB⟩ := hrel
    have HF := Lib.hid hF; have HS := Lib.hid hS; have HC := Lib.hid hC; have HB := Lib.hid hB
    clear hF hS hC hB HF2 HS1 HC2 HB2
    by_cases hlt : i < 6
    · have i1 : (i : Int) < 6 := by omega
      have HT := Lib.hid (fd_tick HF.out false)
      go_wp2_with fail
      refine HT.out.mono ?_
      rintro y w3 ⟨rfl, ya, yc, h1, h2⟩
      have HF3 := Lib.hid (show FA w3 A NB 5 2 3 3 pk (itF (i + 1)).1 ya yc (itF (i + 1)).2 from h1)
      have HS3 := Lib.hid (show ∀ j, FC.S A NB 3 pk (itF (i + 1)).1 j → w.heap.size ≤ j ∧ j ≠ C from fun j hj => HS.out j (S_tick.1 hj))
      have HC3 := Lib.hid (HC.out.on (h2.block C HC.out.lt (fun h => (HS.out C h).2 rfl)))
      have HB3 := Lib.hid (HB.out.trans (h2.below (fun k hk => (HS.out k hk).1) HB.out.size))
      clear h1 h2
      go_wp2_with fail
      go_roundw
      case rel => exact ⟨i + 1, ya, yc, by simp, by omega, HF3.out, HS3.out, HC3.out, HB3.out⟩
      case measure => simp [intOf]; omega
    obtain rfl : i = 6 := by omega
    have HM := Lib.hid (fd_masters HF.out)
    rw [it_six.1] at HM
    obtain ⟨d0, hd0⟩ : ∃ d0, (itF 6).1 0 = some d0 := Option.isSome_iff_exists.1 it_six.2
    have HD0 := Lib.hid hd0
    clear hd0
    go_wp2_with fail
    refine HM.out.mono ?_
    rintro y w3 ⟨ma, mc, rfl, hI, hG, hb⟩
    have HF3 := Lib.hid (HF.out.on hb); have HC3 := Lib.hid (HC.out.keep hb HC.out.lt); have HB3 := Lib.hid (below_transG HB.out hb)
    obtain ⟨mg, mo, rfl, hmg, hm0⟩ := hI 0 (by simp)
    have HM3 := Lib.hid (show w3.cell? ⟨mg, mo, none⟩ = some (.int .i64 0) from hm0)
    have HMG := Lib.hid hmg
    have HMS := Lib.hid (show ∀ j, FC.S A NB 3 pk (itF 6).1 j → j ≠ mg from fun j hj e => by have h1 := HF.out.c.lt hj; have h2 := hG mg mo rfl; omega)
    clear hb hI hmg hm0 hG HF HC HB HM
    have HCR := Lib.hid (fd_Crash_yes HF3.out 0 (by omega) HD0.out)
    go_wp2_with fail
    refine HCR.out.mono ?_
    rintro y w4 ⟨rfl, hF, hFo⟩
    obtain ⟨st1, hst1⟩ : ∃ st1, st1 = setS (itF 6).1 0 none := ⟨_, rfl⟩
    rw [← hst1] at hF
    have HST := Lib.hid (show st1 0 = none by rw [hst1]; exact if_pos rfl)
    have hal : ∀ j, FC.S A NB 3 pk st1 j → FC.S A NB 3 pk (itF 6).1 j := fun j hj => by
      rcases hj with h | h | ⟨k, h1, h2, h3⟩
      · exact .inl h
      · exact .inr (.inl h)
      · refine .inr (.inr ⟨k, h1, fun e => h2 ?_, h3⟩)
        rw [hst1]; unfold setS
        by_cases ek : k = 0
        · rw [if_pos ek]
        · rw [if_neg ek, e]
    have HF4 := Lib.hid hF
    have HS4 := Lib.hid (show ∀ j, FC.S A NB 3 pk st1 j → w.heap.size ≤ j ∧ j ≠ C ∧ j ≠ mg from fun j hj => ⟨(HS.out j (hal j hj)).1, (HS.out j (hal j hj)).2, HMS.out j (hal j hj)⟩)
    have HC4 := Lib.hid (HC3.out.on (hFo.block C HC3.out.lt (fun h => (HS.out C h).2 rfl)))
    have HM4 := Lib.hid (show w4.cell? ⟨mg, mo, none⟩ = some (.int .i64 0) from (World.cell?_of_block (hFo.block mg HMG.out (fun h => HMS.out mg h rfl))).trans HM3.out)
    have HB4 := Lib.hid (HB3.out.trans (hFo.below (fun k hk => (HS.out k hk).1) HB3.out.size))
    have HMG4 := Lib.hid (Nat.lt_of_lt_of_le HMG.out hFo.size)
    clear hF hFo hal hst1 HCR HF3 HC3 HB3 HM3 HMG HD0 HS HMS
    have HCI := Lib.hid (fd_Crash_is HF4.out 0 (by omega) (by rw [HST.out]; rfl))
    go_wp2_with fail
    refine HCI.out.mono ?_
    rintro y w5 ⟨rfl, rfl⟩
    have c0 := HC4.out.cellAt (i := 0) (by simp); have c1 := HC4.out.cellAt (i := 1) (by simp); have c2 := HC4.out.cellAt (i := 2) (by simp)
    have HNW := Lib.hid (rk_new_yes 5 2 3 1 c523 (by omega) w4)
    go_wp2_with fail
    refine HNW.out.mono ?_
    rintro y w5 ⟨B, rfl, hN, hBs, hb⟩
    have HF5 := Lib.hid (HF4.out.on hb); have HC5 := Lib.hid (HC4.out.keep hb HC4.out.lt); have HB5 := Lib.hid (below_transG HB4.out hb)
    have HM5 := Lib.hid (show w5.cell? ⟨mg, mo, none⟩ = some (.int .i64 0) from (hb.cell (p := ⟨mg, mo, none⟩) HMG4.out).trans HM4.out)
    have HN5 := Lib.hid (show Blk w5 B 214 (ndC 5 2 3 1 (itN 0)) from hN)
    have HBN := Lib.hid (show (∀ j, (FC.S A NB 3 pk st1 j ∨ ∃ off, ta = some ⟨j, off, none⟩) → j ≠ B) ∧ C ≠ B ∧ mg ≠ B ∧ w.heap.size ≤ B from ⟨fun j hj e => by have h1 := HF4.out.lts hj; omega, fun e => by have h1 := HC4.out.lt; omega, fun e => by have h1 := HMG4.out; omega, by have h1 := HB4.out.size; omega⟩)
    clear hN hBs hb c0 c1 c2 HF4 HC4 HB4 HM4 HMG4 HCI HNW
    go_wp2_with fail
    go_loopw [12] (fun s13 wr => ∃ i : Nat, s13 = .int .i64 (i : Int) ∧ i ≤ 8 ∧ FA wr A NB 5 2 3 3 pk st1 ta tc (itF 6).2 ∧ Blk wr C 115 [.int .i64 5, .int .i64 2, .int .i64 3] ∧ Below w.heap.size w wr ∧ wr.cell? ⟨mg, mo, none⟩ = some (.int .i64 0) ∧ Blk wr B 214 (ndC 5 2 3 1 (itN i))) (fun s13 _ => 8 - (intOf s13).toNat)
    case atStart => exact ⟨0, rfl, by omega, HF5.out, HC5.out, HB5.out, HM5.out, HN5.out⟩
    case round =>
      obtain ⟨i, rfl, hi8, hF, hC, hB, hM, hN⟩ := hrel
      have HF := Lib.hid hF; have HC := Lib.hid hC; have HB := Lib.hid hB; have HM := Lib.hid hM; have HN := Lib.hid hN
      clear hF hC hB hM hN HF5 HC5 HB5 HM5 HN5
      by_cases hlt : i < 8
      · have i1 : (i : Int) < 8 := by omega
        have HT := Lib.hid (rk_tick 5 2 3 1 c523 (by omega) (itN i) (itN_ok i) B [] none 0 (by simp) wr HN.out (Ints.nil _ _))
        go_wp2_with fail
        refine HT.out.mono ?_
        rintro y w6 ⟨rfl, h1, h2⟩
        have HN6 := Lib.hid (show Blk w6 B 214 (ndC 5 2 3 1 (itN (i + 1))) from h1)
        have HF6 := Lib.hid (HF.out.step h2 HBN.out.1)
        have HC6 := Lib.hid (HC.out.on (h2.block C HC.out.lt HBN.out.2.1 (fun e => by cases e)))
        have HM6 := Lib.hid (show w6.cell? ⟨mg, mo, none⟩ = some (.int .i64 0) from (World.cell?_of_block (h2.block mg (cell_ltG HM.out) HBN.out.2.2.1 (fun e => by cases e))).trans HM.out)
        have HB6 := Lib.hid (HB.out.trans (h2.belowN HBN.out.2.2.2 HB.out.size (fun k e => by cases e)))
        clear h1 h2
        go_wp2_with fail
        go_roundw
        case rel => exact ⟨i + 1, by simp, by omega, HF6.out, HC6.out, HB6.out, HM6.out, HN6.out⟩
        case measure => simp [intOf]; omega
      obtain rfl : i = 8 := by omega
      have HMA := Lib.hid (rk_Master 5 2 3 1 (itN 8) B wr HN.out)
      rw [it_eight.1] at HMA
      go_wp2_with fail
      refine HMA.out.mono ?_
      rintro y w6 ⟨rfl, rfl⟩
      obtain ⟨w6, hw6⟩ : ∃ w6, w6 = wr.alloc (.cells #[.int .i64 0] 3) := ⟨_, rfl⟩
      have hb6 : Below wr.heap.size wr w6 := by rw [hw6]; exact (Below.refl _ wr).alloc (Nat.le_refl _) _
      have hL6 : Blk w6 wr.heap.size 3 [.int .i64 0] := by rw [hw6]; exact Blk.new wr 3 [.int .i64 0]
      have HT := Lib.hid (rk_tick 5 2 3 1 c523 (by omega) (itN 8) (itN_ok 8) B [0] (some ⟨wr.heap.size, 0, none⟩) 1 (by simp) w6 (HN.out.keep hb6 HN.out.lt) (fun j hj => ⟨wr.heap.size, 0, rfl, hL6.lt, by
        match j, hj with
        | 0, _ => exact hL6.cellAt (i := 0) (by simp)⟩))
      have HB6 := Lib.hid hb6
      go_wp2_with fail
      rw [← hw6]
      clear hw6 hb6 hL6
      refine HT.out.mono ?_
      rintro y w7 ⟨rfl, h1, h2⟩
      obtain ⟨d7, hd7⟩ : ∃ d, d = (tkN 5 2 3 1 [0] (itN 8)).1 := ⟨_, rfl⟩
      rw [← hd7] at h1
      have HD7 := Lib.hid (show d7.m = false ∧ d7.i = 0 by rw [hd7]; exact it_eight.2)
      have h3 := (Kp.of_below (B := B) (v := .slice none 0 0) HB6.out).trans h2 (Nx.refl _ _)
      have HN7 := Lib.hid h1
      have HF7 := Lib.hid (HF.out.step h3 HBN.out.1)
      have HC7 := Lib.hid (HC.out.on (h3.block C HC.out.lt HBN.out.2.1 (fun e => by cases e)))
      have HM7 := Lib.hid (show w7.cell? ⟨mg, mo, none⟩ = some (.int .i64 0) from (World.cell?_of_block (h3.block mg (cell_ltG HM.out) HBN.out.2.2.1 (fun e => by cases e))).trans HM.out)
      have HB7 := Lib.hid (HB.out.trans (h3.belowN HBN.out.2.2.2 HB.out.size (fun k e => by cases e)))
      clear h1 h2 h3 hd7 HF HC HB HM HN HT HB6 HMA
      have q0 := HM7.out
      have HRS := Lib.hid (fd_Restart_yes HF7.out 0 (by omega) HST.out)
      go_wp2_with fail
      refine HRS.out.mono ?_
      rintro y w8 ⟨rfl, B2, hF, hB2, hFo⟩
      have hSB : ¬ FC.S A NB 3 pk st1 B := fun h => HBN.out.1 B (.inl h) rfl
      have HN8 := Lib.hid (HN7.out.on (hFo.block B HN7.out.lt hSB))
      have HC8 := Lib.hid (HC7.out.on (hFo.block C HC7.out.lt (fun h => (HS4.out C h).2.1 rfl)))
      have HB8 := Lib.hid (HB7.out.trans (hFo.below (fun k hk => (HS4.out k hk).1) HB7.out.size))
      have HAL := Lib.hid (fd_alive hF.c 0)
      rw [show aliveB 3 (setS st1 0 (some ⟨false, 0, 0⟩)) 0 = true by rfl] at HAL
      clear hF hB2 hFo hSB q0 HRS HF7 HC7 HB7 HM7 HN7
      go_wp2_with fail
      refine HAL.out.mono ?_
      rintro y w9 ⟨rfl, rfl⟩
      have HMA := Lib.hid (rk_Master 5 2 3 1 d7 B w8 HN8.out)
      have HID := Lib.hid (rk_Idle 5 2 3 1 d7 B w8 HN8.out)
      have HRA := Lib.hid (rk_Rank 5 2 3 1 d7 B w8 HN8.out)
      rw [HD7.out.1] at HMA
      rw [HD7.out.2] at HID
      go_wp2_with fail
      refine HMA.out.mono ?_
      rintro y w9 ⟨rfl, rfl⟩
      go_wp2_with fail
      refine HID.out.mono ?_
      rintro y w9 ⟨rfl, rfl⟩
      go_wp2_with fail
      refine HRA.out.mono ?_
      rintro y w9 ⟨rfl, rfl⟩
      have c0 := HC8.out.cellAt (i := 0) (by simp); have c1 := HC8.out.cellAt (i := 1) (by simp); have c2 := HC8.out.cellAt (i := 2) (by simp)
      go_wp2_with fail
      refine (HWT.out _).mono ?_
      rintro y w9 ⟨rfl, hb⟩
      have HC9 := Lib.hid (HC8.out.keep hb HC8.out.lt); have HB9 := Lib.hid (below_transG HB8.out hb)
      clear hb c0 c1 c2
      have c0 := HC9.out.cellAt (i := 0) (by simp); have c1 := HC9.out.cellAt (i := 1) (by simp); have c2 := HC9.out.cellAt (i := 2) (by simp)
      go_wp2_with fail
      refine (HWI.out _).mono ?_
      rintro y w10 ⟨rfl, hb⟩
      have HC10 := Lib.hid (HC9.out.keep hb HC9.out.lt); have HB10 := Lib.hid (below_transG HB9.out hb)
      clear hb c0 c1 c2
      have c0 := HC10.out.cellAt (i := 0) (by simp); have c1 := HC10.out.cellAt (i := 1) (by simp); have c2 := HC10.out.cellAt (i := 2) (by simp)
      go_wp2_with fail
      refine (HRI.out _).mono ?_
      rintro y w11 ⟨rfl, hb⟩
      have HB11 := Lib.hid (below_transG HB10.out hb)
      clear hb c0 c1 c2
      go_wp2_with fail
      refine (fd_Crash_nil 0 _).mono ?_
      rintro y w12 ⟨rfl, rfl⟩
      go_wp2_with fail
      refine (fd_masters_nil _).mono ?_
      rintro y w12 ⟨rfl, rfl⟩
      go_wp2_with fail
      refine (rk_Rank_nil _).mono ?_
      rintro y w12 ⟨rfl, rfl⟩
      go_wp2_with fail
      refine (rk_tick_nil _ _).mono ?_
      rintro y w12 ⟨rfl, rfl⟩
      go_wp2_with fail
      go_ret
      exact ⟨rfl, by first | exact HB11.out | exact HB11.out.alloc HB11.out.size _⟩
end Go.Proofs.Ytdfalipgfnjglaa
