/- The statement of E4 (TopRetries): who sends, and is never answered, meets that in the slot, each time; if each time counted, the thirty-second would take it off the bus. Conditions: the divisor's cells hold what the program's own text lays in them (tied). -/
import Derived.Test.YtmfnkfiocnngeaaDoorRows
import Derived.Test.YtmfnkfiocnngeaaDoorSpk
import Derived.Test.YtmfnkfiocnngeaaDoorWrf
import Derived.Test.YtmfnkfiocnngeaaDoorOpe
import Derived.Test.YtmfnkfiocnngeaaDoorCob
import Derived.Deep.DeepCutAuto
import Derived.Test.YtmfnkfiocnngeaaDoorBat
import Derived.WalkKit
import Derived.ProofKit
import Derived.OpenShut
import Derived.ShutString
import Derived.ChangeOld
import Derived.Below
namespace Go.Proofs.YtmfnkfiocnngeaaDoor.topRetries
open Go.ChangeShapes Go.WideShapes Go.ChangeAt Go.RowKit
theorem own : ownKnob Tryd.prog.godebug = none := by kernel_rfl
theorem laidOut : laidOutB Tryd.prog = true := by kernel_rfl
def cT (j : Nat) : Int := if 32 ≤ j then 256 else ((8 * j : Nat) : Int)
theorem cT_can (j : Nat) : rightC (cT j) 0 (decide (32 ≤ j)) = true := by
  rw [rightC_iff]
  unfold cT
  by_cases h : 32 ≤ j
  · rw [if_pos h, decide_eq_true h]; simp
  · rw [if_neg h, decide_eq_false h]
    refine ⟨by omega, by omega, by omega, by omega, ?_⟩
    have : (((8 * j : Nat) : Int) == 256) = false := by rw [beq_eq_false_iff_ne]; omega
    rw [this]
theorem cT_fail (j : Nat) (u : World) : Calls Tryd.prog 39 #[.agg #[.int .i64 (cT j), .int .i64 0, .bool (decide (32 ≤ j))]] u fun x w' => x = .returned (.agg #[.int .i64 (cT (j + 1)), .int .i64 0, .bool (decide (32 ≤ j + 1))]) ∧ Below u.heap.size u w' := by
  have h := txFail_any (cT j) 0 (decide (32 ≤ j)) u
  have hc := cT_can j
  have e1 : nT (cT j) 0 (decide (32 ≤ j)) = cT j := by unfold nT; rw [if_pos hc]
  have e2 : nR (cT j) 0 (decide (32 ≤ j)) = 0 := by unfold nR; rw [if_pos hc]
  have e3 : txF (cT j) = cT (j + 1) := by unfold txF cT; split <;> split <;> (try split) <;> omega
  have e4 : decide (248 ≤ cT j) = decide (32 ≤ j + 1) := by
    rw [Bool.eq_iff_iff, decide_eq_true_iff, decide_eq_true_iff]; unfold cT; split <;> omega
  rw [e1, e2, e3, e4] at h
  exact h
theorem cT_mode (j : Nat) (u : World) : Calls Tryd.prog 40 #[.agg #[.int .i64 (cT j), .int .i64 0, .bool (decide (32 ≤ j))]] u fun x w' => x = .returned (.int .i64 (if 32 ≤ j then 2 else if 16 ≤ j then 1 else 0)) ∧ Below u.heap.size u w' := by
  have h := mode_any (cT j) 0 (decide (32 ≤ j)) u
  have hc := cT_can j
  have e1 : nT (cT j) 0 (decide (32 ≤ j)) = cT j := by unfold nT; rw [if_pos hc]
  have e2 : nR (cT j) 0 (decide (32 ≤ j)) = 0 := by unfold nR; rw [if_pos hc]
  have e3 : moF (cT j) 0 = if 32 ≤ j then 2 else if 16 ≤ j then 1 else 0 := by
    unfold moF cT
    by_cases h : 32 ≤ j
    · rw [if_pos h, if_pos rfl, if_pos h]
    · rw [if_neg h, if_neg h, if_neg (by omega)]
      by_cases g : 16 ≤ j
      · rw [if_pos g, if_pos (by omega)]
      · rw [if_neg g, if_neg (by omega)]
  rw [e1, e2, e3] at h
  exact h
theorem mode200 (u : World) : Calls Tryd.prog 40 #[.agg #[.int .i64 200, .int .i64 0, .bool false]] u fun x w' => x = .returned (.int .i64 1) ∧ Below u.heap.size u w' := by
  have h := mode_any 200 0 false u
  exact h
set_option maxRecDepth 100000 in
set_option maxHeartbeats 16000000 in
theorem walk (e0 : Bool) (n0 : Nat) (q0 : Bool) (l0 : Int) (x0 : List Nat) (n : Int) (w0 : n0 < 4294967296 ∧ x0.length = 8 ∧ ∀ y ∈ x0, y < 256) (hn : (Lit.int .u8 n).wf = true) (w : World) (h0 : 1 < w.heap.size) (hT : Tab w) :
    Calls Tryd.prog 10 #[frameV e0 n0 q0 l0 x0, .int .u8 n] w fun e w' => e = .returned (.bool true) ∧ Below w.heap.size w w' := by
  obtain ⟨hn0, hx0, hb0⟩ := w0
  have hr : 0 ≤ n ∧ n ≤ 255 := by
    simp [Lit.wf, IntKind.min, IntKind.max, IntKind.bits, IntKind.signed] at hn
    omega
  clear hn
  obtain ⟨g0, g1⟩ := hr
  have hw0 : IntKind.i64.wrap n = n := by rw [IntKind.wrap_i64]; omega
  obtain ⟨T, hk⟩ : ∃ T : Nat, (T : Int) = n.tmod 40 := ⟨(n.tmod 40).toNat, by rw [Int.tmod_eq_emod_of_nonneg g0]; omega⟩
  have hk40 : T < 40 := by rw [Int.tmod_eq_emod_of_nonneg g0] at hk; omega
  have hrem : n.tmod 40 = (T : Int) := hk.symm
  clear hk
  have HLF := Lib.hid (fun u => lawFrame_any e0 n0 hn0 q0 l0 x0 hx0 u)
  have HF0 := Lib.hid (FrameAt.new w 27 e0 n0 q0 l0 x0 hx0)
  have hok := cut_can e0 n0 q0 l0 x0
  have hcb : ∀ y ∈ trimD x0 q0 (cutL l0) 8, y < 256 := fun y hy => by
    simp only [trimD, List.mem_map, List.mem_range] at hy
    obtain ⟨i, hi, rfl⟩ := hy
    split
    · omega
    · by_cases hl : i < x0.length
      · rw [List.getElem?_eq_getElem hl]; exact hb0 _ (List.getElem_mem _)
      · rw [List.getElem?_eq_none (by omega)]; exact Nat.zero_lt_succ _
  have hs0 : cutN e0 n0 < 4294967296 := by unfold cutN; split <;> omega
  obtain ⟨d0, d1, d2, d3, d4, d5, d6, d7, hC⟩ := eight (trimD_length x0 q0 (cutL l0) 8)
  rw [hC] at HLF hok hcb
  obtain ⟨s0, hss0⟩ : ∃ s0, s0 = cutN e0 n0 := ⟨_, rfl⟩
  obtain ⟨m0, hm0⟩ : ∃ m0, m0 = cutL l0 := ⟨_, rfl⟩
  rw [← hss0, ← hm0] at HLF hok
  rw [← hss0] at hs0
  have HNW := Lib.hid (fun u (hu : Below w.heap.size w u) => snew_yes e0 s0 hs0 q0 m0 [d0, d1, d2, d3, d4, d5, d6, d7] rfl hcb hok u (Nat.lt_of_lt_of_le h0 hu.size) (hT.onB hu h0))
  have hlong := enc_long hok
  have hel := encB_length (e := e0) (n := s0) (r := q0) (len := m0) (data := [d0, d1, d2, d3, d4, d5, d6, d7])
  obtain ⟨N, hN⟩ : ∃ N, N = (encB e0 s0 q0 m0 [d0, d1, d2, d3, d4, d5, d6, d7]).length := ⟨_, rfl⟩
  rw [← hN] at hlong hel
  have HEN := Lib.hid (show ∀ u, Calls Tryd.prog 29 #[.agg #[.bool e0, .int .u32 (s0 : Int), .bool q0, .int .i64 (m0 : Int), .int .u8 (d0 : Int), .int .u8 (d1 : Int), .int .u8 (d2 : Int), .int .u8 (d3 : Int), .int .u8 (d4 : Int), .int .u8 (d5 : Int), .int .u8 (d6 : Int), .int .u8 (d7 : Int)]] u fun x w' => ∃ a cap, x = .returned (.slice a N cap) ∧ Below u.heap.size u w' from fun u => (refEnc_yes e0 s0 hs0 q0 m0 [d0, d1, d2, d3, d4, d5, d6, d7] rfl hcb hok u).mono fun x w' h => by
    obtain ⟨v, rfl, ho, hb⟩ := h
    obtain ⟨a, cap, rfl⟩ := ho.shape
    rw [← hN]
    exact ⟨a, cap, rfl, hb⟩)
  obtain ⟨SA, hSA⟩ : ∃ SA, SA = stuffB (bodyB e0 s0 q0 m0 [d0, d1, d2, d3, d4, d5, d6, d7]) := ⟨_, rfl⟩
  obtain ⟨M, hM⟩ : ∃ M, M = 1 + (idBits e0 s0 q0).length := ⟨_, rfl⟩
  obtain ⟨PL, hPL⟩ : ∃ PL, PL = partsB M SA := ⟨_, rfl⟩
  rw [← hSA, ← hM, ← hPL] at HNW
  rw [← hSA] at hel
  obtain ⟨FR, hFR⟩ : ∃ FR, FR = frameC e0 s0 q0 (m0 : Int) [d0, d1, d2, d3, d4, d5, d6, d7] := ⟨_, rfl⟩
  rw [← hFR] at HNW
  have hpl : PL.length = N := by rw [hPL, partsB_length]; exact hel.symm
  obtain ⟨a8, ha8⟩ : ∃ a8, a8 = N - 8 := ⟨_, rfl⟩
  have HGEN := Lib.hid (show ∀ j, j + 1 < a8 → ∃ x a e, PL[j]? = some ⟨x, a, e, false, false⟩ from fun j hj => by
    rw [hPL, partsB_get _ _ (by omega)]
    by_cases hk : j < SA.length
    · obtain ⟨b1, s1, l1⟩ := part_bit M SA j hk
      exact ⟨SA[j]?.getD 0, _, _, congrArg some (pb_eq _ ⟨b1, rfl, rfl, s1, l1⟩)⟩
    · refine ⟨1, false, false, ?_⟩
      unfold partAt
      rw [if_neg hk, decide_eq_false (by omega), decide_eq_false (by omega)])
  have HSL := Lib.hid (show ∀ j, j + 1 = a8 → PL[j]? = some ⟨1, false, false, true, false⟩ from fun j hj => by
    rw [hPL, partsB_get _ _ (by omega)]
    unfold partAt
    rw [if_neg (by omega), decide_eq_true (by omega), decide_eq_false (by omega)])
  have HA8 := Lib.hid (show a8 + 8 = N ∧ 44 ≤ N ∧ N ≤ 160 by omega)
  have HPL := Lib.hid (show PL.length ≤ 1000 by omega)
  have HPN := Lib.hid hpl
  have hw8 : IntKind.i64.wrap ((N : Int) - 8) = (a8 : Int) := by rw [IntKind.wrap_i64]; omega
  obtain ⟨x0, x1, x2, x3, x4, x5, x6, x7, rfl⟩ := eight hx0
  obtain ⟨p0, p1, p2, p3, p4, p5, p6, p7, p8, p9, p10, p11⟩ := HF0.out.cells
  obtain ⟨r0, r1, r2, r3, r4, r5, r6, r7, r8, r9, r10, r11⟩ := HF0.out.frz
  have HT40 := Lib.hid hk40
  simp only [frameV, frameC, List.map] at HLF HNW p0 p1 p2 p3 p4 p5 p6 p7 p8 p9 p10 p11 r0 r1 r2 r3 r4 r5 r6 r7 r8 r9 r10 r11 ⊢
  clear hC hss0 hm0 hlong hel hN hSA hM hPL hFR hpl ha8 hok hcb hs0 hx0 hb0 hn0 h0 hT hk40
  go_enter Tryd.func10, Tryd.ntmps10
  go_wp2_with fail
  refine (HLF.out _).mono ?_
  rintro y w1 ⟨rfl, hb1⟩
  have HF1 := Lib.hid (FrameAt.keep HF0.out hb1 (by simp))
  have HB1 := Lib.hid (below_trans' ((Below.refl _ w).alloc (Nat.le_refl _) _) hb1)
  have HS1 := Lib.hid (show w.heap.size < w1.heap.size by have := hb1.size; simp at this; omega)
  clear hb1 p0 p1 p2 p3 p4 p5 p6 p7 p8 p9 p10 p11 r0 r1 r2 r3 r4 r5 r6 r7 r8 r9 r10 r11
  obtain ⟨p0, p1, p2, p3, p4, p5, p6, p7, p8, p9, p10, p11⟩ := HF1.out.cells
  obtain ⟨r0, r1, r2, r3, r4, r5, r6, r7, r8, r9, r10, r11⟩ := HF1.out.frz
  obtain ⟨BC, hBC⟩ : ∃ BC, BC = w1.heap.size := ⟨_, rfl⟩
  obtain ⟨wA, hwA⟩ : ∃ wA, wA = ((((((((((((w1.setCell ⟨w.heap.size, 0, none⟩ (.bool e0)).setCell ⟨w.heap.size, 1, none⟩ (.int .u32 (s0 : Int))).setCell ⟨w.heap.size, 2, none⟩ (.bool q0)).setCell ⟨w.heap.size, 3, none⟩ (.int .i64 (m0 : Int))).setCell ⟨w.heap.size, 4, none⟩ (.int .u8 (d0 : Int))).setCell ⟨w.heap.size, 5, none⟩ (.int .u8 (d1 : Int))).setCell ⟨w.heap.size, 6, none⟩ (.int .u8 (d2 : Int))).setCell ⟨w.heap.size, 7, none⟩ (.int .u8 (d3 : Int))).setCell ⟨w.heap.size, 8, none⟩ (.int .u8 (d4 : Int))).setCell ⟨w.heap.size, 9, none⟩ (.int .u8 (d5 : Int))).setCell ⟨w.heap.size, 10, none⟩ (.int .u8 (d6 : Int))).setCell ⟨w.heap.size, 11, none⟩ (.int .u8 (d7 : Int))) := ⟨_, rfl⟩
  have hFA : FrameAt wA w.heap.size e0 s0 q0 (m0 : Int) [d0, d1, d2, d3, d4, d5, d6, d7] := by rw [hwA]; exact HF1.out.put e0 s0 q0 (m0 : Int) d0 d1 d2 d3 d4 d5 d6 d7
  have hBA : Below w.heap.size w wA := by rw [hwA]; exact below12 (Nat.le_refl _) HB1.out _ _ _ _ _ _ _ _ _ _ _ _
  have hSA : wA.heap.size = BC := by rw [hwA, hBC]; simp only [setCell_size2]
  obtain ⟨wB, hwB⟩ : ∃ wB, wB = wA.alloc (.cells #[.int .i64 0, .int .i64 0, .bool false] 64) := ⟨_, rfl⟩
  have HFB := Lib.hid (show FrameAt wB w.heap.size e0 s0 q0 (m0 : Int) [d0, d1, d2, d3, d4, d5, d6, d7] by rw [hwB]; exact hFA.more (by rw [hSA, hBC]; exact HS1.out) _)
  have HBB := Lib.hid (show Below w.heap.size w wB by rw [hwB]; exact hBA.alloc hBA.size _)
  have HTB := Lib.hid (show Tri wB BC (.int .i64 (cT 0)) (.int .i64 0) (.bool (decide (32 ≤ 0))) by rw [hwB]; exact Tri.new wA _ _ _ 64 hSA.symm)
  have HSB := Lib.hid (show w.heap.size < BC ∧ BC < wB.heap.size by rw [hwB, World.size_alloc, hSA, hBC]; have := HS1.out; omega)
  go_upto_region 4 with fail
  rw [← hwA, ← hBC, ← hwB]
  clear hwA hwB hBC hFA hBA hSA p0 p1 p2 p3 p4 p5 p6 p7 p8 p9 p10 p11 r0 r1 r2 r3 r4 r5 r6 r7 r8 r9 r10 r11
  go_wp2_with fail
  go_loopw [7] (fun i wr => ∃ j : Nat, j ≤ T ∧ i = .int .i64 (j : Int) ∧ FrameAt wr w.heap.size e0 s0 q0 (m0 : Int) [d0, d1, d2, d3, d4, d5, d6, d7] ∧ Tri wr BC (.int .i64 (cT j)) (.int .i64 0) (.bool (decide (32 ≤ j))) ∧ Below w.heap.size w wr ∧ BC < wr.heap.size) (fun i _ => T - (intOf i).toNat)
  case atStart => exact ⟨0, Nat.zero_le _, rfl, HFB.out, HTB.out, HBB.out, HSB.out.2⟩
  case round =>
    obtain ⟨j, hj, rfl, hF, hTr, hB, hlt⟩ := hrel
    obtain ⟨wo, hwo⟩ : ∃ wo, wo = wr := ⟨_, rfl⟩
    rw [← hwo] at hF hTr hB hlt ⊢
    clear hwo
    have HFr := Lib.hid hF; have HTr := Lib.hid hTr; have HBr := Lib.hid hB; have HLTr := Lib.hid hlt
    clear hF hTr hB hlt
    by_cases hjT : j < T
    · have i1 : (j : Int) < (T : Int) := by omega
      have hw : IntKind.i64.wrap ((j : Int) + 1) = (j : Int) + 1 := by rw [IntKind.wrap_i64]; have := HT40.out; omega
      have HJT := Lib.hid hjT
      clear hj hjT
      obtain ⟨c0, c1, c2, c3, c4, c5, c6, c7, c8, c9, c10, c11⟩ := HFr.out.cells
      go_wp2_with fail
      refine (HNW.out _ HBr.out).mono ?_
      rintro y w2 ⟨B, D, rfl, hBB, hDD, hs, hb⟩
      have HS2 := Lib.hid hs; have HB2 := Lib.hid hb
      have HBD := Lib.hid (show wo.heap.size ≤ B from hBB)
      clear hs hb hBB hDD c0 c1 c2 c3 c4 c5 c6 c7 c8 c9 c10 c11
      go_wp2_with fail
      go_loopw [10, 11] (fun v k wx => ∃ k' : Nat, k' ≤ a8 ∧ k = .int .i64 (k' : Int) ∧ v = .int .i64 ((if k' = a8 then 4 else 0 : Nat) : Int) ∧ SPA wx B D FR PL k' (decide (k' ≠ a8)) ∧ Below wo.heap.size wo wx) (fun _ k _ => a8 - (intOf k).toNat)
      case atStart => exact ⟨0, Nat.zero_le _, rfl, by rw [if_neg (by have := HA8.out; omega)]; rfl, by rw [decide_eq_true (by have := HA8.out; omega)]; exact HS2.out, HB2.out⟩
      case round =>
        clear HS2 HB2
        obtain ⟨k, hk, rfl, rfl, hs, hb⟩ := hrel
        have HS3 := Lib.hid hs; have HB3 := Lib.hid hb
        clear hs hb
        by_cases hka : k = a8
        · have HS3 := Lib.hid (show SPA wr B D FR PL a8 false by have h := HS3.out; rw [hka, decide_eq_false (by simp)] at h; exact h)
          rw [if_pos hka]
          have i2 : (k : Int) < 200 := by have := HA8.out; omega
          clear hk hka
          go_upto_region 15 with fail
          obtain ⟨wz, hwz⟩ : ∃ wz, wz = wr := ⟨_, rfl⟩
          rw [← hwz] at HS3 HB3 ⊢
          clear hwz
          have HFz := Lib.hid (HFr.out.keep HB3.out (by have := HSB.out; have := HLTr.out; omega))
          have HZ := Lib.hid (show ∀ u, Below wz.heap.size wz u → (Below wz.heap.size wz u ∧ u.cell? ⟨w.heap.size, 0, none⟩ = some (.bool e0) ∧ u.cell? ⟨w.heap.size, 1, none⟩ = some (.int .u32 (s0 : Int)) ∧ u.cell? ⟨w.heap.size, 2, none⟩ = some (.bool q0) ∧ u.cell? ⟨w.heap.size, 3, none⟩ = some (.int .i64 (m0 : Int)) ∧ u.cell? ⟨w.heap.size, 4, none⟩ = some (.int .u8 (d0 : Int)) ∧ u.cell? ⟨w.heap.size, 5, none⟩ = some (.int .u8 (d1 : Int)) ∧ u.cell? ⟨w.heap.size, 6, none⟩ = some (.int .u8 (d2 : Int)) ∧ u.cell? ⟨w.heap.size, 7, none⟩ = some (.int .u8 (d3 : Int)) ∧ u.cell? ⟨w.heap.size, 8, none⟩ = some (.int .u8 (d4 : Int)) ∧ u.cell? ⟨w.heap.size, 9, none⟩ = some (.int .u8 (d5 : Int)) ∧ u.cell? ⟨w.heap.size, 10, none⟩ = some (.int .u8 (d6 : Int)) ∧ u.cell? ⟨w.heap.size, 11, none⟩ = some (.int .u8 (d7 : Int))) from fun u hu => by
            obtain ⟨c0, c1, c2, c3, c4, c5, c6, c7, c8, c9, c10, c11⟩ := (HFz.out.keep hu (by have := HSB.out; have := HLTr.out; have := HB3.out.size; omega)).cells
            exact ⟨hu, c0, c1, c2, c3, c4, c5, c6, c7, c8, c9, c10, c11⟩)
          have HZA := Lib.hid (show ∀ u o, (Below wz.heap.size wz u ∧ u.cell? ⟨w.heap.size, 0, none⟩ = some (.bool e0) ∧ u.cell? ⟨w.heap.size, 1, none⟩ = some (.int .u32 (s0 : Int)) ∧ u.cell? ⟨w.heap.size, 2, none⟩ = some (.bool q0) ∧ u.cell? ⟨w.heap.size, 3, none⟩ = some (.int .i64 (m0 : Int)) ∧ u.cell? ⟨w.heap.size, 4, none⟩ = some (.int .u8 (d0 : Int)) ∧ u.cell? ⟨w.heap.size, 5, none⟩ = some (.int .u8 (d1 : Int)) ∧ u.cell? ⟨w.heap.size, 6, none⟩ = some (.int .u8 (d2 : Int)) ∧ u.cell? ⟨w.heap.size, 7, none⟩ = some (.int .u8 (d3 : Int)) ∧ u.cell? ⟨w.heap.size, 8, none⟩ = some (.int .u8 (d4 : Int)) ∧ u.cell? ⟨w.heap.size, 9, none⟩ = some (.int .u8 (d5 : Int)) ∧ u.cell? ⟨w.heap.size, 10, none⟩ = some (.int .u8 (d6 : Int)) ∧ u.cell? ⟨w.heap.size, 11, none⟩ = some (.int .u8 (d7 : Int))) → (Below wz.heap.size wz (u.alloc o) ∧ (u.alloc o).cell? ⟨w.heap.size, 0, none⟩ = some (.bool e0) ∧ (u.alloc o).cell? ⟨w.heap.size, 1, none⟩ = some (.int .u32 (s0 : Int)) ∧ (u.alloc o).cell? ⟨w.heap.size, 2, none⟩ = some (.bool q0) ∧ (u.alloc o).cell? ⟨w.heap.size, 3, none⟩ = some (.int .i64 (m0 : Int)) ∧ (u.alloc o).cell? ⟨w.heap.size, 4, none⟩ = some (.int .u8 (d0 : Int)) ∧ (u.alloc o).cell? ⟨w.heap.size, 5, none⟩ = some (.int .u8 (d1 : Int)) ∧ (u.alloc o).cell? ⟨w.heap.size, 6, none⟩ = some (.int .u8 (d2 : Int)) ∧ (u.alloc o).cell? ⟨w.heap.size, 7, none⟩ = some (.int .u8 (d3 : Int)) ∧ (u.alloc o).cell? ⟨w.heap.size, 8, none⟩ = some (.int .u8 (d4 : Int)) ∧ (u.alloc o).cell? ⟨w.heap.size, 9, none⟩ = some (.int .u8 (d5 : Int)) ∧ (u.alloc o).cell? ⟨w.heap.size, 10, none⟩ = some (.int .u8 (d6 : Int)) ∧ (u.alloc o).cell? ⟨w.heap.size, 11, none⟩ = some (.int .u8 (d7 : Int))) from fun u o h => HZ.out _ (h.1.alloc h.1.size o))
          have HZD := Lib.hid (show ∀ u, (Below wz.heap.size wz u ∧ u.cell? ⟨w.heap.size, 0, none⟩ = some (.bool e0) ∧ u.cell? ⟨w.heap.size, 1, none⟩ = some (.int .u32 (s0 : Int)) ∧ u.cell? ⟨w.heap.size, 2, none⟩ = some (.bool q0) ∧ u.cell? ⟨w.heap.size, 3, none⟩ = some (.int .i64 (m0 : Int)) ∧ u.cell? ⟨w.heap.size, 4, none⟩ = some (.int .u8 (d0 : Int)) ∧ u.cell? ⟨w.heap.size, 5, none⟩ = some (.int .u8 (d1 : Int)) ∧ u.cell? ⟨w.heap.size, 6, none⟩ = some (.int .u8 (d2 : Int)) ∧ u.cell? ⟨w.heap.size, 7, none⟩ = some (.int .u8 (d3 : Int)) ∧ u.cell? ⟨w.heap.size, 8, none⟩ = some (.int .u8 (d4 : Int)) ∧ u.cell? ⟨w.heap.size, 9, none⟩ = some (.int .u8 (d5 : Int)) ∧ u.cell? ⟨w.heap.size, 10, none⟩ = some (.int .u8 (d6 : Int)) ∧ u.cell? ⟨w.heap.size, 11, none⟩ = some (.int .u8 (d7 : Int))) → (Below wz.heap.size wz u.drew ∧ u.drew.cell? ⟨w.heap.size, 0, none⟩ = some (.bool e0) ∧ u.drew.cell? ⟨w.heap.size, 1, none⟩ = some (.int .u32 (s0 : Int)) ∧ u.drew.cell? ⟨w.heap.size, 2, none⟩ = some (.bool q0) ∧ u.drew.cell? ⟨w.heap.size, 3, none⟩ = some (.int .i64 (m0 : Int)) ∧ u.drew.cell? ⟨w.heap.size, 4, none⟩ = some (.int .u8 (d0 : Int)) ∧ u.drew.cell? ⟨w.heap.size, 5, none⟩ = some (.int .u8 (d1 : Int)) ∧ u.drew.cell? ⟨w.heap.size, 6, none⟩ = some (.int .u8 (d2 : Int)) ∧ u.drew.cell? ⟨w.heap.size, 7, none⟩ = some (.int .u8 (d3 : Int)) ∧ u.drew.cell? ⟨w.heap.size, 8, none⟩ = some (.int .u8 (d4 : Int)) ∧ u.drew.cell? ⟨w.heap.size, 9, none⟩ = some (.int .u8 (d5 : Int)) ∧ u.drew.cell? ⟨w.heap.size, 10, none⟩ = some (.int .u8 (d6 : Int)) ∧ u.drew.cell? ⟨w.heap.size, 11, none⟩ = some (.int .u8 (d7 : Int))) from fun u h => HZ.out _ h.1.drew)
          have HZC := Lib.hid (show ∀ u u', (Below wz.heap.size wz u ∧ u.cell? ⟨w.heap.size, 0, none⟩ = some (.bool e0) ∧ u.cell? ⟨w.heap.size, 1, none⟩ = some (.int .u32 (s0 : Int)) ∧ u.cell? ⟨w.heap.size, 2, none⟩ = some (.bool q0) ∧ u.cell? ⟨w.heap.size, 3, none⟩ = some (.int .i64 (m0 : Int)) ∧ u.cell? ⟨w.heap.size, 4, none⟩ = some (.int .u8 (d0 : Int)) ∧ u.cell? ⟨w.heap.size, 5, none⟩ = some (.int .u8 (d1 : Int)) ∧ u.cell? ⟨w.heap.size, 6, none⟩ = some (.int .u8 (d2 : Int)) ∧ u.cell? ⟨w.heap.size, 7, none⟩ = some (.int .u8 (d3 : Int)) ∧ u.cell? ⟨w.heap.size, 8, none⟩ = some (.int .u8 (d4 : Int)) ∧ u.cell? ⟨w.heap.size, 9, none⟩ = some (.int .u8 (d5 : Int)) ∧ u.cell? ⟨w.heap.size, 10, none⟩ = some (.int .u8 (d6 : Int)) ∧ u.cell? ⟨w.heap.size, 11, none⟩ = some (.int .u8 (d7 : Int))) → Below u.heap.size u u' → (Below wz.heap.size wz u' ∧ u'.cell? ⟨w.heap.size, 0, none⟩ = some (.bool e0) ∧ u'.cell? ⟨w.heap.size, 1, none⟩ = some (.int .u32 (s0 : Int)) ∧ u'.cell? ⟨w.heap.size, 2, none⟩ = some (.bool q0) ∧ u'.cell? ⟨w.heap.size, 3, none⟩ = some (.int .i64 (m0 : Int)) ∧ u'.cell? ⟨w.heap.size, 4, none⟩ = some (.int .u8 (d0 : Int)) ∧ u'.cell? ⟨w.heap.size, 5, none⟩ = some (.int .u8 (d1 : Int)) ∧ u'.cell? ⟨w.heap.size, 6, none⟩ = some (.int .u8 (d2 : Int)) ∧ u'.cell? ⟨w.heap.size, 7, none⟩ = some (.int .u8 (d3 : Int)) ∧ u'.cell? ⟨w.heap.size, 8, none⟩ = some (.int .u8 (d4 : Int)) ∧ u'.cell? ⟨w.heap.size, 9, none⟩ = some (.int .u8 (d5 : Int)) ∧ u'.cell? ⟨w.heap.size, 10, none⟩ = some (.int .u8 (d6 : Int)) ∧ u'.cell? ⟨w.heap.size, 11, none⟩ = some (.int .u8 (d7 : Int))) from fun u u' h hb => HZ.out _ (h.1.trans (hb.mono h.1.size)))
          have K1 := Lib.hid (show ∀ u, (Below wz.heap.size wz u ∧ u.cell? ⟨w.heap.size, 0, none⟩ = some (.bool e0) ∧ u.cell? ⟨w.heap.size, 1, none⟩ = some (.int .u32 (s0 : Int)) ∧ u.cell? ⟨w.heap.size, 2, none⟩ = some (.bool q0) ∧ u.cell? ⟨w.heap.size, 3, none⟩ = some (.int .i64 (m0 : Int)) ∧ u.cell? ⟨w.heap.size, 4, none⟩ = some (.int .u8 (d0 : Int)) ∧ u.cell? ⟨w.heap.size, 5, none⟩ = some (.int .u8 (d1 : Int)) ∧ u.cell? ⟨w.heap.size, 6, none⟩ = some (.int .u8 (d2 : Int)) ∧ u.cell? ⟨w.heap.size, 7, none⟩ = some (.int .u8 (d3 : Int)) ∧ u.cell? ⟨w.heap.size, 8, none⟩ = some (.int .u8 (d4 : Int)) ∧ u.cell? ⟨w.heap.size, 9, none⟩ = some (.int .u8 (d5 : Int)) ∧ u.cell? ⟨w.heap.size, 10, none⟩ = some (.int .u8 (d6 : Int)) ∧ u.cell? ⟨w.heap.size, 11, none⟩ = some (.int .u8 (d7 : Int))) → Calls Tryd.prog 35 #[.pointer (some ⟨B, 0, none⟩)] u fun y w' => y = .returned (.int .i64 (a8 : Int)) ∧ (Below wz.heap.size wz w' ∧ w'.cell? ⟨w.heap.size, 0, none⟩ = some (.bool e0) ∧ w'.cell? ⟨w.heap.size, 1, none⟩ = some (.int .u32 (s0 : Int)) ∧ w'.cell? ⟨w.heap.size, 2, none⟩ = some (.bool q0) ∧ w'.cell? ⟨w.heap.size, 3, none⟩ = some (.int .i64 (m0 : Int)) ∧ w'.cell? ⟨w.heap.size, 4, none⟩ = some (.int .u8 (d0 : Int)) ∧ w'.cell? ⟨w.heap.size, 5, none⟩ = some (.int .u8 (d1 : Int)) ∧ w'.cell? ⟨w.heap.size, 6, none⟩ = some (.int .u8 (d2 : Int)) ∧ w'.cell? ⟨w.heap.size, 7, none⟩ = some (.int .u8 (d3 : Int)) ∧ w'.cell? ⟨w.heap.size, 8, none⟩ = some (.int .u8 (d4 : Int)) ∧ w'.cell? ⟨w.heap.size, 9, none⟩ = some (.int .u8 (d5 : Int)) ∧ w'.cell? ⟨w.heap.size, 10, none⟩ = some (.int .u8 (d6 : Int)) ∧ w'.cell? ⟨w.heap.size, 11, none⟩ = some (.int .u8 (d7 : Int))) from fun u hu => by
            refine (psent_any B D FR PL a8 false u (HS3.out.keep hu.1)).mono ?_
            rintro _ w' ⟨rfl, rfl⟩
            exact ⟨rfl, hu⟩)
          have K2 := Lib.hid (show ∀ u, (Below wz.heap.size wz u ∧ u.cell? ⟨w.heap.size, 0, none⟩ = some (.bool e0) ∧ u.cell? ⟨w.heap.size, 1, none⟩ = some (.int .u32 (s0 : Int)) ∧ u.cell? ⟨w.heap.size, 2, none⟩ = some (.bool q0) ∧ u.cell? ⟨w.heap.size, 3, none⟩ = some (.int .i64 (m0 : Int)) ∧ u.cell? ⟨w.heap.size, 4, none⟩ = some (.int .u8 (d0 : Int)) ∧ u.cell? ⟨w.heap.size, 5, none⟩ = some (.int .u8 (d1 : Int)) ∧ u.cell? ⟨w.heap.size, 6, none⟩ = some (.int .u8 (d2 : Int)) ∧ u.cell? ⟨w.heap.size, 7, none⟩ = some (.int .u8 (d3 : Int)) ∧ u.cell? ⟨w.heap.size, 8, none⟩ = some (.int .u8 (d4 : Int)) ∧ u.cell? ⟨w.heap.size, 9, none⟩ = some (.int .u8 (d5 : Int)) ∧ u.cell? ⟨w.heap.size, 10, none⟩ = some (.int .u8 (d6 : Int)) ∧ u.cell? ⟨w.heap.size, 11, none⟩ = some (.int .u8 (d7 : Int))) → Calls Tryd.prog 29 #[.agg #[.bool e0, .int .u32 (s0 : Int), .bool q0, .int .i64 (m0 : Int), .int .u8 (d0 : Int), .int .u8 (d1 : Int), .int .u8 (d2 : Int), .int .u8 (d3 : Int), .int .u8 (d4 : Int), .int .u8 (d5 : Int), .int .u8 (d6 : Int), .int .u8 (d7 : Int)]] u fun y w' => ∃ a cap, y = .returned (.slice a N cap) ∧ (Below wz.heap.size wz w' ∧ w'.cell? ⟨w.heap.size, 0, none⟩ = some (.bool e0) ∧ w'.cell? ⟨w.heap.size, 1, none⟩ = some (.int .u32 (s0 : Int)) ∧ w'.cell? ⟨w.heap.size, 2, none⟩ = some (.bool q0) ∧ w'.cell? ⟨w.heap.size, 3, none⟩ = some (.int .i64 (m0 : Int)) ∧ w'.cell? ⟨w.heap.size, 4, none⟩ = some (.int .u8 (d0 : Int)) ∧ w'.cell? ⟨w.heap.size, 5, none⟩ = some (.int .u8 (d1 : Int)) ∧ w'.cell? ⟨w.heap.size, 6, none⟩ = some (.int .u8 (d2 : Int)) ∧ w'.cell? ⟨w.heap.size, 7, none⟩ = some (.int .u8 (d3 : Int)) ∧ w'.cell? ⟨w.heap.size, 8, none⟩ = some (.int .u8 (d4 : Int)) ∧ w'.cell? ⟨w.heap.size, 9, none⟩ = some (.int .u8 (d5 : Int)) ∧ w'.cell? ⟨w.heap.size, 10, none⟩ = some (.int .u8 (d6 : Int)) ∧ w'.cell? ⟨w.heap.size, 11, none⟩ = some (.int .u8 (d7 : Int))) from fun u hu => by
            refine (HEN.out u).mono ?_
            rintro _ w' ⟨a, cap, rfl, hb⟩
            exact ⟨a, cap, rfl, HZC.out _ _ hu hb⟩)
          have z0 := HZ.out _ (Below.refl _ _)
          have z1 := HZ.out _ (Below.refl _ _).drew
          go_cut [55] (fun s55 wy => s55 = .bool false ∧ Below wz.heap.size wz wy)
          case first =>
            go_region_held3 (fun u => (Below wz.heap.size wz u ∧ u.cell? ⟨w.heap.size, 0, none⟩ = some (.bool e0) ∧ u.cell? ⟨w.heap.size, 1, none⟩ = some (.int .u32 (s0 : Int)) ∧ u.cell? ⟨w.heap.size, 2, none⟩ = some (.bool q0) ∧ u.cell? ⟨w.heap.size, 3, none⟩ = some (.int .i64 (m0 : Int)) ∧ u.cell? ⟨w.heap.size, 4, none⟩ = some (.int .u8 (d0 : Int)) ∧ u.cell? ⟨w.heap.size, 5, none⟩ = some (.int .u8 (d1 : Int)) ∧ u.cell? ⟨w.heap.size, 6, none⟩ = some (.int .u8 (d2 : Int)) ∧ u.cell? ⟨w.heap.size, 7, none⟩ = some (.int .u8 (d3 : Int)) ∧ u.cell? ⟨w.heap.size, 8, none⟩ = some (.int .u8 (d4 : Int)) ∧ u.cell? ⟨w.heap.size, 9, none⟩ = some (.int .u8 (d5 : Int)) ∧ u.cell? ⟨w.heap.size, 10, none⟩ = some (.int .u8 (d6 : Int)) ∧ u.cell? ⟨w.heap.size, 11, none⟩ = some (.int .u8 (d7 : Int)))) (repeat (first | (with_reducible assumption) | (with_reducible refine HZA.out _ _ ?_) | (with_reducible refine HZD.out _ ?_))) (first | (go_at_call 35; refine (K1.out _ (by repeat (first | (with_reducible assumption) | (with_reducible refine HZA.out _ _ ?_) | (with_reducible refine HZD.out _ ?_)))).mono ?_; rintro y3 v3 ⟨rfl, h3S⟩) | (go_at_call 29; refine (K2.out _ (by repeat (first | (with_reducible assumption) | (with_reducible refine HZA.out _ _ ?_) | (with_reducible refine HZD.out _ ?_)))).mono ?_; rintro y4 v4 ⟨a4, c4, rfl, h4S⟩))
            all_goals (go_wp2_with fail; go_meet)
            all_goals exact ⟨rfl, h4S.1⟩
          case rest =>
          obtain ⟨rfl, hbz⟩ := hcut
          obtain ⟨wy, hwy⟩ : ∃ wy, wy = wc := ⟨_, rfl⟩
          rw [← hwy] at hbz ⊢
          clear hwy z0 z1
          have HBy := Lib.hid (HB3.out.trans (hbz.mono HB3.out.size))
          have HTy := Lib.hid (HTr.out.keep HBy.out HLTr.out)
          have HFy := Lib.hid (HFr.out.keep HBy.out (by have := HSB.out; have := HLTr.out; omega))
          have HC := Lib.hid (fun u => cT_fail j u)
          obtain ⟨t, ht⟩ : ∃ t, t = cT j := ⟨_, rfl⟩
          obtain ⟨o, ho⟩ : ∃ o, o = decide (32 ≤ j) := ⟨_, rfl⟩
          obtain ⟨t', ht'⟩ : ∃ t, t = cT (j + 1) := ⟨_, rfl⟩
          obtain ⟨o', ho'⟩ : ∃ o, o = decide (32 ≤ j + 1) := ⟨_, rfl⟩
          have HE := Lib.hid (show t' = cT (j + 1) ∧ o' = decide (32 ≤ j + 1) from ⟨ht', ho'⟩)
          rw [← ht, ← ho] at HC HTy
          rw [← ht', ← ho'] at HC
          obtain ⟨s0', s1', s2', s3', s4', s5'⟩ := HTy.out
          clear ht ho ht' ho' hbz
          go_wp2_with fail
          refine (HC.out _).mono ?_
          rintro x w5 ⟨rfl, hb⟩
          have HT5 := Lib.hid (HTy.out.keep hb (by have := HLTr.out; have := HBy.out.size; omega))
          have HF5 := Lib.hid (HFy.out.keep hb (by have := HSB.out; have := HLTr.out; have := HBy.out.size; omega))
          have HB5 := Lib.hid (HBr.out.trans ((below_trans' HBy.out hb).mono HBr.out.size))
          have HL5 := Lib.hid (show BC < w5.heap.size by have := HLTr.out; have := HBy.out.size; have := hb.size; omega)
          clear hb s0' s1' s2' s3' s4' s5'
          obtain ⟨s0', s1', s2', s3', s4', s5'⟩ := HT5.out
          go_wp2_with fail
          go_roundw
          case rel =>
            refine ⟨j + 1, HJT.out, by simp, ((HF5.out.other (by have := HSB.out; omega) _).other (by have := HSB.out; omega) _).other (by have := HSB.out; omega) _, ?_, ((HB5.out.setCell (p := ⟨BC, 0, none⟩) (by show w.heap.size ≤ BC; have := HSB.out; omega) _).setCell (p := ⟨BC, 1, none⟩) (by show w.heap.size ≤ BC; have := HSB.out; omega) _).setCell (p := ⟨BC, 2, none⟩) (by show w.heap.size ≤ BC; have := HSB.out; omega) _, by have := HL5.out; simpa [World.setCell] using this⟩
            rw [← HE.out.1, ← HE.out.2]
            exact ((HT5.out.set0 _).set1 _).set2 _
          case measure => have := HJT.out; simp [intOf]; omega
        · have hlt : k < a8 := by omega
          rw [if_neg hka]
          have HS3 := Lib.hid (show SPA wr B D FR PL k true by have h := HS3.out; rw [decide_eq_true hka] at h; exact h)
          have i2 : (k : Int) < 200 := by have := HA8.out; omega
          have hwk : IntKind.i64.wrap ((k : Int) + 1) = (k : Int) + 1 := by rw [IntKind.wrap_i64]; have := HA8.out; omega
          have HKA := Lib.hid hlt
          by_cases hlast : k + 1 = a8
          · have HP := Lib.hid (HSL.out k hlast)
            have HLAST := Lib.hid hlast
            clear hlast hlt hka hk
            go_wp2_with fail
            refine (sbit_on B D _ _ k 1 false false true false HP.out _ HS3.out).mono ?_
            rintro y v1 ⟨rfl, hs, hb⟩
            have HS3 := Lib.hid hs; have HB3 := Lib.hid (below_trans' HB3.out hb)
            clear hs hb
            go_wp2_with fail
            refine (shd_kp B D _ _ k 1 false false true false HP.out HPL.out 1 4 (by decide) (fun _ => by rw [HPN.out]; have := HA8.out; have := HKA.out; omega) _ HS3.out).mono ?_
            rintro y v2 ⟨rfl, hs, hk⟩
            have HB3 := Lib.hid (HB3.out.trans ((kp_low hk (Nat.le_of_lt HS3.out.ltOf)).mono HBD.out))
            have HS3 := Lib.hid hs
            clear hs hk
            go_wp2_with fail
            go_roundw
            case rel => exact ⟨k + 1, HKA.out, by simp, by rw [if_pos HLAST.out]; rfl, by rw [decide_eq_false (fun h => h HLAST.out)]; exact HS3.out, HB3.out⟩
            case measure => have := HKA.out; simp [intOf]; omega
          · obtain ⟨x, a, e, hp⟩ := HGEN.out k (by omega)
            have HP := Lib.hid hp
            have HLAST := Lib.hid hlast
            clear hlast hlt hka hk hp
            go_wp2_with fail
            refine (sbit_on B D _ _ k x a e false false HP.out _ HS3.out).mono ?_
            rintro y v1 ⟨rfl, hs, hb⟩
            have HS3 := Lib.hid hs; have HB3 := Lib.hid (below_trans' HB3.out hb)
            clear hs hb
            go_wp2_with fail
            refine (shd_kp B D _ _ k x a e false false HP.out HPL.out x 0 (by simp [verd]) (fun _ => by rw [HPN.out]; have := HA8.out; have := HKA.out; omega) _ HS3.out).mono ?_
            rintro y v2 ⟨rfl, hs, hk⟩
            have HB3 := Lib.hid (HB3.out.trans ((kp_low hk (Nat.le_of_lt HS3.out.ltOf)).mono HBD.out))
            have HS3 := Lib.hid hs
            clear hs hk
            go_wp2_with fail
            go_roundw
            case rel => exact ⟨k + 1, HKA.out, by simp, by rw [if_neg HLAST.out]; rfl, by rw [decide_eq_true HLAST.out]; exact HS3.out, HB3.out⟩
            case measure => have := HKA.out; simp [intOf]; omega
    · obtain rfl : j = T := by omega
      have i1 : ¬ (j : Int) < (j : Int) := by omega
      have HM := Lib.hid (fun u => cT_mode j u)
      obtain ⟨t, ht⟩ : ∃ t, t = cT j := ⟨_, rfl⟩
      obtain ⟨o, ho⟩ : ∃ o, o = decide (32 ≤ j) := ⟨_, rfl⟩
      rw [← ht, ← ho] at HM HTr
      obtain ⟨s0', s1', s2', s3', s4', s5'⟩ := HTr.out
      clear ht ho hj hjT
      by_cases h32 : 32 ≤ j
      · have c2 : (32 : Int) ≤ (j : Int) := by omega
        rw [if_pos h32] at HM
        clear h32
        go_wp2_with fail
        refine (HM.out _).mono ?_
        rintro x w5 ⟨rfl, hb⟩
        have HB5 := Lib.hid (HBr.out.trans (hb.mono HBr.out.size))
        clear hb s0' s1' s2' s3' s4' s5'
        go_wp2_with fail
        refine (mode200 _).mono ?_
        rintro x w6 ⟨rfl, hb⟩
        have HB6 := Lib.hid (below_trans' HB5.out hb)
        clear hb
        go_wp2_with fail
        go_ret
        exact ⟨rfl, HB6.out⟩
      · have c2 : decide ((32 : Int) ≤ (j : Int)) = false := by simp; omega
        rw [if_neg h32] at HM
        obtain ⟨M2, hM2⟩ : ∃ M2 : Nat, M2 = (if 16 ≤ j then 1 else 0) := ⟨_, rfl⟩
        have hm : ((if 16 ≤ j then (1 : Int) else 0)) = (M2 : Int) := by rw [hM2]; split <;> rfl
        rw [hm] at HM
        have c3 : ((M2 : Int) == 2) = false := by rw [beq_eq_false_iff_ne, hM2]; split <;> decide
        clear h32 hM2 hm
        go_wp2_with fail
        refine (HM.out _).mono ?_
        rintro x w5 ⟨rfl, hb⟩
        have HB5 := Lib.hid (HBr.out.trans (hb.mono HBr.out.size))
        clear hb s0' s1' s2' s3' s4' s5'
        go_wp2_with fail
        refine (mode200 _).mono ?_
        rintro x w6 ⟨rfl, hb⟩
        have HB6 := Lib.hid (below_trans' HB5.out hb)
        clear hb
        go_wp2_with fail
        go_ret
        exact ⟨rfl, HB6.out⟩
theorem door_met (os : Os) (args : Array Value) : laidMetH Tryd.prog laidD ((World.doorLaid Tryd.prog 400 os).forCall (fun _ _ => 0) ⟨#[], args, []⟩).memory :=
  laidMetH_of_parts3 (fuel := 8) (laidMet_of_run' 8 (by kernel_rfl) (by kernel_rfl)) (by kernel_rfl) (by kernel_rfl)
set_option maxRecDepth 100000 in
theorem lifted (os : Os) (started : os.Started) (H : Type) (enc : TypeId × Value → H) :
    ReturnsInHanded {} Tryd.checked os 10 .any (fun w args => (Rows.topRetriesSpec.pre enc Tryd.prog Tryd.f10 [] false w args ∧ laidMetH Tryd.prog laidD w) ∧ sizedMet enc Tryd.prog Tryd.f10 (OpenSpec.ofChange Rows.topRetriesSpec) false w args)
      (Rows.topRetriesSpec.post enc Tryd.prog Tryd.f10 false true false false) := by
  refine returnsInHanded_of_change_and (C := Tryd.checked) (X := fun w _ => laidMetH Tryd.prog laidD w) (fun _ _ _ hh h => h.of_heap hh) own started (by kernel_rfl) Tryd.func10
    (ChangeSpec.witness_shaped (enc := enc) (C := Tryd.checked) (os := os) (X := fun w _ => laidMetH Tryd.prog laidD w) false (World.doorLaid Tryd.prog 400 os) #[.agg #[.bool false, .int .u32 0, .bool false, .int .i64 0, .int .u8 0, .int .u8 0, .int .u8 0, .int .u8 0, .int .u8 0, .int .u8 0, .int .u8 0, .int .u8 0], .int .u8 0] 8 rfl (World.shaped_of_RefB (by kernel_rfl) (by kernel_rfl)) (by kernel_rfl) (by kernel_rfl) (by kernel_rfl) (door_met os _)) ?_
  intro W base args ds gs before hval0 hW _ _ hL _
  have hval : ∀ (j : Nat) t v, Tryd.f10.params[j]? = some t → args[j]? = some v → Value.okWide Tryd.prog W .any base t v := hval0
  have hW' := hW
  obtain ⟨p, q, hA0, hV, rfl, hfz, hnd⟩ := hW
  have hA : DataW.TrodAll enc Tryd.prog W 0 (fun _ => true) true Tryd.f10.params.toList args.toList ds p := hA0
  rw [Tryd.params10] at hA hval
  obtain ⟨v0, vs0, d0, ds0, p0, q0, hargs, rfl, rfl, h0, r0⟩ := trodAll_cons hA
  obtain ⟨v1, vs1, d1, ds1, p1, q1, rfl, rfl, rfl, h1, r1⟩ := trodAll_cons r0
  obtain ⟨rfl, rfl, rfl⟩ := trodAll_nil r1
  obtain rfl : args = #[v0, v1] := by cases args; simp_all
  obtain ⟨rfl, rfl⟩ := trodVars_none hV
  have k0 := h0
  have lt0 : ∀ x ∈ p0, x.block < W.heap.size := by obtain ⟨m, hm⟩ := k0; exact DataW.trod_lt m _ _ _ hm
  obtain ⟨e0, n0, q0, l0, x0, rfl, w0⟩ := open_frame (hval 0 27 v0 rfl rfl) h0
  obtain ⟨a1, rfl, rfl, rfl, w1⟩ := open_int Tryd.underlying5 (hval 1 5 v1 rfl rfl) h1
  clear hA0 hval0
  obtain ⟨hTab, hsz0⟩ := tab_of_laid hL
  refine (walk e0 n0 q0 l0 x0 a1 w0 w1 W hsz0 hTab).mono fun e W' ⟨he, bel⟩ => ?_
  subst he
  exact ⟨_, rfl, _, _, _, [], _, [], hW', trodAll_mk1 (shut_bool Tryd.underlying4 _), (trodAll_cons_mk (Below.trod laidOut (by kernel_rfl) (of_decide_eq_true (by kernel_rfl)) k0 bel lt0) (trodAll_cons_mk (shut_int Tryd.underlying5 w1) trodAll_mk0)), rfl, bel.frame _, fun h => by cases h⟩
theorem over : Rows.topRetriesRow.holds Tryd.pinned (OpenSpec.ofChange Rows.topRetriesSpec) :=
  OpenClaim.holds_of_wide 10 Tryd.f10 rfl rfl rfl rfl rfl rfl rfl ⟨rfl, rfl, rfl, rfl, rfl⟩ rfl rfl rfl rfl rfl (by kernel_rfl) Tryd.func10 (by kernel_rfl)
    (of_decide_eq_true (by kernel_rfl)) (by unfold Func.isWrapper; first | (rw [if_pos (by decide +kernel)]; kernel_rfl) | (rw [if_neg (by decide +kernel)]; exact ⟨rfl, rfl⟩))
    (fun os started H enc _ => lifted os started H enc)
/-- The statement: the row, and what it lists tied to the program's text. -/
theorem proved : Rows.TopRetriesCardSaid :=
  Claim7.holds_tied_plain_at .later [] [.data] true _ true
    over (fun _ h => by cases h) (by kernel_rfl) (fun _ h => by cases h) topRetries_row_tie rfl ⟨rfl, rfl⟩ (by kernel_rfl) rfl
    (fun f fn hf hfn => by
      obtain rfl : f = 10 := Option.some.inj ((show Tryd.prog.funcNamed "bellbuoy/bellbuoytop.TopRetries" = some 10 by kernel_rfl).symm.trans hf) |>.symm
      obtain rfl : fn = Tryd.f10 := (Option.some.inj (Tryd.func10.symm.trans hfn)).symm
      exact ⟨by kernel_rfl, fun j t ht => by
        rw [Tryd.params10] at ht
        have hm : t ∈ [27, 5] := by simpa using Array.mem_of_getElem? ht
        have hall : ([27, 5].all fun u => !Tryd.prog.wantsStandIn u) = true := by kernel_rfl
        exact (show Tryd.prog.wantsStandIn t = false by simpa using List.all_eq_true.1 hall t hm)⟩)
    (by kernel_rfl)
end Go.Proofs.YtmfnkfiocnngeaaDoor.topRetries
