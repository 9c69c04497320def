/- The statement of P9.4 (SpeakTwo): of two speakers that ask unlike the one that does not win is lost, at the first bit at which both are unlike; the other one goes on. Conditions: the divisor's cells hold what the program's own text lays in them (tied). -/
import Derived.Test.YtmfnkfiocnngeaaDoorRows
import Derived.Test.YtmfnkfiocnngeaaDoorSpk
import Derived.Test.YtmfnkfiocnngeaaDoorBat
import Derived.Test.YtmfnkfiocnngeaaDoorFrc
import Derived.Test.YtmfnkfiocnngeaaDoorOpe
import Derived.Deep.DeepCutAuto
import Derived.WalkKit
import Derived.ProofKit
import Derived.OpenShut
import Derived.ShutString
import Derived.ChangeOld
import Derived.Below
namespace Go.Proofs.YtmfnkfiocnngeaaDoor.speakTwo
open Go.ChangeShapes Go.WideShapes Go.ChangeAt Go.RowKit
theorem own : ownKnob Tryd.prog.godebug = none := by kernel_rfl
theorem laidOut : laidOutB Tryd.prog = true := by kernel_rfl
set_option maxRecDepth 100000 in
set_option maxHeartbeats 16000000 in
theorem walk (e0 : Bool) (n0 : Nat) (q0 : Bool) (l0 : Int) (x0 : List Nat) (e1 : Bool) (n1 : Nat) (q1 : Bool) (l1 : Int) (x1 : List Nat) (w0 : n0 < 4294967296 ∧ x0.length = 8 ∧ ∀ y ∈ x0, y < 256) (w1 : n1 < 4294967296 ∧ x1.length = 8 ∧ ∀ y ∈ x1, y < 256) (w : World) (h0 : 1 < w.heap.size) (hT : Tab w) :
    Calls Tryd.prog 9 #[frameV e0 n0 q0 l0 x0, frameV e1 n1 q1 l1 x1] w fun e w' => e = .returned (.bool true) ∧ Below w.heap.size w w' := by
  obtain ⟨hn0, hx0, hb0⟩ := w0
  obtain ⟨hn1, hx1, hb1⟩ := w1
  have HLV := Lib.hid (fun u (hu : Below w.heap.size w u) => live9 u (Nat.lt_of_lt_of_le h0 hu.size) (hT.onB hu h0))
  have HNA := Lib.hid (fun u (hu : Below w.heap.size w u) => snew_any e0 n0 hn0 q0 l0 x0 hx0 hb0 u (Nat.lt_of_lt_of_le h0 hu.size) (hT.onB hu h0))
  have HNB := Lib.hid (fun u (hu : Below w.heap.size w u) => snew_any e1 n1 hn1 q1 l1 x1 hx1 hb1 u (Nat.lt_of_lt_of_le h0 hu.size) (hT.onB hu h0))
  have HRA := Lib.hid (fun u => ref6Right_any e0 n0 q0 l0 x0 hx0 u)
  have HRB := Lib.hid (fun u => ref6Right_any e1 n1 q1 l1 x1 hx1 u)
  obtain ⟨c0, hc0⟩ : ∃ c0, c0 = rightF e0 n0 q0 l0 x0 := ⟨_, rfl⟩
  obtain ⟨c1, hc1⟩ : ∃ c1, c1 = rightF e1 n1 q1 l1 x1 := ⟨_, rfl⟩
  rw [← hc0] at HNA HRA
  rw [← hc1] at HNB HRB
  have HC0 := Lib.hid hc0; have HC1 := Lib.hid hc1
  have HN0 := Lib.hid hn0; have HN1 := Lib.hid hn1
  have HF0 := Lib.hid (FrameAt.new w 27 e0 n0 q0 l0 x0 hx0)
  have HG0 := Lib.hid (FrameAt.new (w.alloc (.cells ((frameC e0 n0 q0 l0 x0).toArray) 27)) 27 e1 n1 q1 l1 x1 hx1)
  obtain ⟨x0, x1, x2, x3, x4, x5, x6, x7, rfl⟩ := eight hx0
  obtain ⟨y0, y1, y2, y3, y4, y5, y6, y7, rfl⟩ := eight hx1
  obtain ⟨FR1, hFR1⟩ : ∃ FR1, FR1 = frameC e0 n0 q0 l0 [x0, x1, x2, x3, x4, x5, x6, x7] := ⟨_, rfl⟩
  obtain ⟨FR2, hFR2⟩ : ∃ FR2, FR2 = frameC e1 n1 q1 l1 [y0, y1, y2, y3, y4, y5, y6, y7] := ⟨_, rfl⟩
  rw [← hFR1] at HNA
  rw [← hFR2] at HNB
  obtain ⟨wr, hwr⟩ : ∃ wr, wr = ((w.alloc (.cells ((frameC e0 n0 q0 l0 [x0, x1, x2, x3, x4, x5, x6, x7]).toArray) 27)).alloc (.cells ((frameC e1 n1 q1 l1 [y0, y1, y2, y3, y4, y5, y6, y7]).toArray) 27)) := ⟨_, rfl⟩
  have HF1 := Lib.hid (show FrameAt wr w.heap.size e0 n0 q0 l0 [x0, x1, x2, x3, x4, x5, x6, x7] by rw [hwr]; exact HF0.out.more (by simp) _)
  have HG1 := Lib.hid (show FrameAt wr (w.heap.size + 1) e1 n1 q1 l1 [y0, y1, y2, y3, y4, y5, y6, y7] by have h := HG0.out; rw [World.size_alloc] at h; rw [hwr]; exact h)
  have HBR := Lib.hid (show Below w.heap.size w wr by rw [hwr]; exact ((Below.refl _ w).alloc (Nat.le_refl _) _).alloc (by simp) _)
  have HSR := Lib.hid (show w.heap.size + 2 ≤ wr.heap.size by rw [hwr]; simp)
  simp only [frameV, frameC, List.map] at HNA HNB HRA HRB hwr ⊢
  obtain ⟨p0, p1, p2, p3, p4, p5, p6, p7, p8, p9, p10, p11⟩ := HF1.out.cells
  obtain ⟨o0, o1, o2, o3, o4, o5, o6, o7, o8, o9, o10, o11⟩ := HG1.out.cells
  have j0 : ((c0 : Int) != (c0 : Int)) = false := by simp
  have j1 : ((c1 : Int) != (c1 : Int)) = false := by simp
  clear hc0 hc1 hn0 hn1 hx0 hx1 hb0 hb1 h0 hT HF0 HG0 hFR1 hFR2
  go_enter Tryd.func9, Tryd.ntmps9
  go_upto_region 1 with fail
  rw [← hwr]
  clear hwr
  go_wp2_with fail
  refine (HNA.out _ HBR.out).mono ?_
  rintro y w2 ⟨pA, rfl, hb2, hA0, hA1⟩
  have HA0 := Lib.hid hA0; have HA1 := Lib.hid hA1; have HB2 := Lib.hid (below_trans' HBR.out hb2)
  have HF2 := Lib.hid (HF1.out.keep hb2 (by have := HSR.out; omega)); have HG2 := Lib.hid (HG1.out.keep hb2 (by have := HSR.out; omega))
  have HS2 := Lib.hid (show wr.heap.size ≤ w2.heap.size from hb2.size)
  obtain ⟨p0, p1, p2, p3, p4, p5, p6, p7, p8, p9, p10, p11⟩ := HF2.out.cells
  obtain ⟨o0, o1, o2, o3, o4, o5, o6, o7, o8, o9, o10, o11⟩ := HG2.out.cells
  clear hb2 hA0 hA1
  go_wp2_with fail
  refine (HNB.out _ HB2.out).mono ?_
  rintro y w3 ⟨pB, rfl, hb3, hB0, hB1⟩
  have HB0 := Lib.hid hB0; have HB1 := Lib.hid hB1; have HB3 := Lib.hid (below_trans' HB2.out hb3)
  have HK3 := Lib.hid hb3
  have HF3 := Lib.hid (HF2.out.keep hb3 (by have := HSR.out; have := HS2.out; omega)); have HG3 := Lib.hid (HG2.out.keep hb3 (by have := HSR.out; have := HS2.out; omega))
  have HS3 := Lib.hid (show wr.heap.size ≤ w3.heap.size by have := hb3.size; have := HS2.out; omega)
  obtain ⟨p0, p1, p2, p3, p4, p5, p6, p7, p8, p9, p10, p11⟩ := HF3.out.cells
  obtain ⟨o0, o1, o2, o3, o4, o5, o6, o7, o8, o9, o10, o11⟩ := HG3.out.cells
  clear hb3 hB0 hB1
  go_wp2_with fail
  refine (HRA.out _).mono ?_
  rintro y w4 ⟨rfl, hb4⟩
  have HB4 := Lib.hid (below_trans' HB3.out hb4); have HK4 := Lib.hid hb4
  have HF4 := Lib.hid (HF3.out.keep hb4 (by have := HSR.out; have := HS3.out; omega)); have HG4 := Lib.hid (HG3.out.keep hb4 (by have := HSR.out; have := HS3.out; omega))
  have HS4 := Lib.hid (show wr.heap.size ≤ w4.heap.size by have := hb4.size; have := HS3.out; omega)
  obtain ⟨p0, p1, p2, p3, p4, p5, p6, p7, p8, p9, p10, p11⟩ := HF4.out.cells
  obtain ⟨o0, o1, o2, o3, o4, o5, o6, o7, o8, o9, o10, o11⟩ := HG4.out.cells
  clear hb4
  go_wp2_with fail
  refine (HRB.out _).mono ?_
  rintro y w5 ⟨rfl, hb5⟩
  have HBZ := Lib.hid (below_trans' HB4.out hb5); have HK5 := Lib.hid (below_trans' HK4.out hb5)
  have HFX := Lib.hid (HF4.out.keep hb5 (by have := HSR.out; have := HS4.out; omega)); have HGX := Lib.hid (HG4.out.keep hb5 (by have := HSR.out; have := HS4.out; omega))
  clear hb5 p0 p1 p2 p3 p4 p5 p6 p7 p8 p9 p10 p11 o0 o1 o2 o3 o4 o5 o6 o7 o8 o9 o10 o11
  go_upto_region 5 with fail
  by_cases hc0 : c0 = 0
  case neg =>
    obtain rfl : pA = none := HA0.out hc0
    clear hc0
    go_wp2_with fail
    refine (HLV.out _ HBZ.out).mono ?_
    rintro x wz ⟨rfl, hbz⟩
    have HBY := Lib.hid (below_trans' HBZ.out hbz)
    clear hbz
    go_wp2_with fail
    go_ret
    exact ⟨rfl, HBY.out⟩
  case pos =>
  by_cases hc1 : c1 = 0
  case neg =>
    obtain rfl : pB = none := HB0.out hc1
    obtain ⟨m0, B1, D1, hm0, hpA, hB1, hD1, hS1⟩ := HA1.out hc0
    subst hpA
    clear hc0 hc1 hS1 hm0
    go_wp2_with fail
    refine (HLV.out _ HBZ.out).mono ?_
    rintro x wz ⟨rfl, hbz⟩
    have HBY := Lib.hid (below_trans' HBZ.out hbz)
    clear hbz
    go_wp2_with fail
    go_ret
    exact ⟨rfl, HBY.out⟩
  case pos =>
  obtain ⟨m0, B1, D1, hm0, hpA, hBB1, hDD1, hS1⟩ := HA1.out hc0
  obtain ⟨m1, B2, D2, hm1, hpB, hBB2, hDD2, hS2⟩ := HB1.out hc1
  subst hpA hpB
  have HNE := Lib.hid (show B2 ≠ B1 ∧ D2 ≠ B1 ∧ B1 ≠ B2 ∧ D1 ≠ B2 ∧ w.heap.size ≤ B1 ∧ w.heap.size ≤ B2 by
    have h1 := hS1.blk.lt; have h2 := hS1.parts.lt; have h3 := HSR.out; have h4 := HS2.out
    omega)
  have HRI0 := Lib.hid (show rightI e0 n0 = true ∧ m0 ≤ 8 by
    have h := HC0.out
    rw [hc0, hm0] at h
    obtain ⟨h1, h2, _⟩ := rightF_data h.symm
    exact ⟨h1, h2⟩)
  have HRI1 := Lib.hid (show rightI e1 n1 = true ∧ m1 ≤ 8 by
    have h := HC1.out
    rw [hc1, hm1] at h
    obtain ⟨h1, h2, _⟩ := rightF_data h.symm
    exact ⟨h1, h2⟩)
  have hlgA : (stuffB (bodyB e0 n0 q0 m0 [x0, x1, x2, x3, x4, x5, x6, x7])).length ≤ 900 := by
    have h := HC0.out
    rw [hc0, hm0] at h
    have h2 := (enc_long h.symm).2.1
    rw [encB_length] at h2
    omega
  have hlgB : (stuffB (bodyB e1 n1 q1 m1 [y0, y1, y2, y3, y4, y5, y6, y7])).length ≤ 900 := by
    have h := HC1.out
    rw [hc1, hm1] at h
    have h2 := (enc_long h.symm).2.1
    rw [encB_length] at h2
    omega
  have HLGA := Lib.hid hlgA; have HLGB := Lib.hid hlgB
  have HSPA := Lib.hid ((hS1.keep HK3.out).keep HK5.out)
  have HSPB := Lib.hid (hS2.keep HK5.out)
  have HRI0 := Lib.hid HRI0.out.1; have HRI1 := Lib.hid HRI1.out.1
  clear hc0 hc1 hS1 hS2 hm0 hm1 hBB1 hDD1 hBB2 hDD2 hlgA hlgB
  obtain ⟨sm, hsm⟩ : ∃ sm, sm = (decide (e0 = e1) && (decide (n0 = n1) && decide (q0 = q1))) := ⟨_, rfl⟩
  have HSM := Lib.hid hsm
  clear hsm
  go_cut [55] (fun s55 wx => s55 = .bool sm ∧ w5 = wx)
  case first =>
    obtain ⟨p0, p1, p2, p3, p4, p5, p6, p7, p8, p9, p10, p11⟩ := HFX.out.cells
    obtain ⟨o0, o1, o2, o3, o4, o5, o6, o7, o8, o9, o10, o11⟩ := HGX.out.cells
    by_cases hn : n0 = n1
    · subst hn
      have bn : ((n0 : Int) == (n0 : Int)) = true := by simp
      cases e0 <;> cases e1 <;> cases q0 <;> cases q1
      all_goals
        go_wp2_with fail
        go_meet
        exact ⟨by rw [HSM.out]; simp, rfl⟩
    · have bn : ((n0 : Int) == (n1 : Int)) = false := by rw [beq_eq_false_iff_ne]; omega
      have HSF := Lib.hid (show sm = false by rw [HSM.out, decide_eq_false hn]; simp)
      clear hn
      cases e0 <;> cases e1 <;> cases q0 <;> cases q1
      all_goals
        go_wp2_with fail
        go_meet
        exact ⟨by rw [HSF.out], rfl⟩
  case rest =>
  obtain ⟨rfl, rfl⟩ := hcut
  cases sm
  case true =>
    go_wp2_with fail
    refine (HLV.out _ HBZ.out).mono ?_
    rintro x wz ⟨rfl, hbz⟩
    have HBY := Lib.hid (below_trans' HBZ.out hbz)
    clear hbz
    go_wp2_with fail
    go_ret
    exact ⟨rfl, HBY.out⟩
  case false =>
  have hdiff : ¬ (e0 = e1 ∧ n0 = n1 ∧ q0 = q1) := fun h => by
    have h2 := HSM.out
    rw [decide_eq_true h.1, decide_eq_true h.2.1, decide_eq_true h.2.2] at h2
    exact absurd h2 (by decide)
  have HBX := HBZ
  obtain ⟨j, hj50, hjA, hjB, hjs, xx, yy, hx1, hy1, hpA, hpB, hw⟩ := two_unlike (e := e0) (n := n0) (r := q0) (f := e1) (m := n1) (s := q1) (len := m0) (len' := m1) (d := [x0, x1, x2, x3, x4, x5, x6, x7]) (d' := [y0, y1, y2, y3, y4, y5, y6, y7]) HRI0.out HRI1.out hdiff
  obtain ⟨SA, hSA⟩ : ∃ SA, SA = stuffB (bodyB e0 n0 q0 m0 [x0, x1, x2, x3, x4, x5, x6, x7]) := ⟨_, rfl⟩
  obtain ⟨SB, hSB⟩ : ∃ SB, SB = stuffB (bodyB e1 n1 q1 m1 [y0, y1, y2, y3, y4, y5, y6, y7]) := ⟨_, rfl⟩
  obtain ⟨MA, hMA⟩ : ∃ MA, MA = 1 + (idBits e0 n0 q0).length := ⟨_, rfl⟩
  obtain ⟨MB, hMB⟩ : ∃ MB, MB = 1 + (idBits e1 n1 q1).length := ⟨_, rfl⟩
  rw [← hSA, ← hMA] at hpA
  rw [← hSB, ← hMB] at hpB
  rw [← hSA] at hjA hjs
  rw [← hSB] at hjB hjs
  have H1 := HSPA; have H2 := HSPB
  rw [← hSA, ← hMA] at H1
  rw [← hSB, ← hMB] at H2
  have hA1 : ∀ i, SA[i]?.getD 0 ≤ 1 := fun i => by rw [hSA]; exact getD_bit (stuff_le _ (bodyB_le _ _ _ _ _)) i
  have hlA := HLGA.out; have hlB := HLGB.out
  rw [← hSA] at hlA
  rw [← hSB] at hlB
  obtain ⟨PLA, hLA⟩ : ∃ PLA, PLA = partsB MA SA := ⟨_, rfl⟩
  obtain ⟨PLB, hLB⟩ : ∃ PLB, PLB = partsB MB SB := ⟨_, rfl⟩
  rw [← hLA] at H1
  rw [← hLB] at H2
  have HLA := Lib.hid (show PLA.length ≤ 1000 by rw [hLA, partsB_length]; omega)
  have HLB := Lib.hid (show PLB.length ≤ 1000 by rw [hLB, partsB_length]; omega)
  have HAT := Lib.hid (show ∀ k, k < j → ∃ x aa ea ab eb, x ≤ 1 ∧ PLA[k]? = some ⟨x, aa, ea, false, false⟩ ∧ PLB[k]? = some ⟨x, ab, eb, false, false⟩ from fun k hk => by
    obtain ⟨b1, s1, l1⟩ := part_bit MA SA k (by omega)
    obtain ⟨b2, s2, l2⟩ := part_bit MB SB k (by omega)
    refine ⟨SA[k]?.getD 0, (partAt MA SA k).a, (partAt MA SA k).e, (partAt MB SB k).a, (partAt MB SB k).e, hA1 k, ?_, ?_⟩
    · rw [hLA, partsB_get _ _ (by omega)]
      exact congrArg some (pb_eq _ ⟨b1, rfl, rfl, s1, l1⟩)
    · rw [hLB, partsB_get _ _ (by omega), hjs k hk]
      exact congrArg some (pb_eq _ ⟨b2, rfl, rfl, s2, l2⟩))
  have HJA := Lib.hid (show PLA[j]? = some ⟨xx, true, false, false, false⟩ by rw [hLA, partsB_get _ _ (by omega), hpA])
  have HJB := Lib.hid (show PLB[j]? = some ⟨yy, true, false, false, false⟩ by rw [hLB, partsB_get _ _ (by omega), hpB])
  have HKK := Lib.hid (show ∀ k, k ≤ j → k + 1 < PLA.length ∧ k + 1 < PLB.length from fun k hk => by rw [hLA, hLB, partsB_length, partsB_length]; omega)
  have HJ := Lib.hid hj50
  have HXY := Lib.hid (And.intro hx1 hy1)
  obtain ⟨wn, hwn⟩ : ∃ wn, wn = winsI e0 n0 q0 e1 n1 q1 := ⟨_, rfl⟩
  have HWN := Lib.hid (fun u => refWins_any e0 n0 q0 e1 n1 q1 HN0.out HN1.out u)
  unfold identV at HWN
  rw [← hwn] at HWN hw
  have HW := Lib.hid hw
  clear hSA hSB hMA hMB hpA hpB hjA hjB hjs hlA hlB hA1 hLA hLB hwn hw hj50 hx1 hy1
  obtain ⟨p0, p1, p2, p3, p4, p5, p6, p7, p8, p9, p10, p11⟩ := HFX.out.cells
  obtain ⟨o0, o1, o2, o3, o4, o5, o6, o7, o8, o9, o10, o11⟩ := HGX.out.cells
  clear hdiff
  go_wp2_with fail
  refine (HWN.out _).mono ?_
  rintro y wq ⟨rfl, hb⟩
  have H1 := Lib.hid (H1.out.keep hb); have H2 := Lib.hid (H2.out.keep hb); have HB := Lib.hid (below_trans' HBX.out hb)
  clear hb p0 p1 p2 p3 p4 p5 p6 p7 p8 p9 p10 p11 o0 o1 o2 o3 o4 o5 o6 o7 o8 o9 o10 o11
  go_wp2_with fail
  go_loopw [10] (fun i wr => ∃ k : Nat, k ≤ j ∧ i = .int .i64 (k : Int) ∧ SPA wr B1 D1 FR1 PLA k true ∧ SPA wr B2 D2 FR2 PLB k true ∧ Below w.heap.size w wr) (fun i _ => 60 - (intOf i).toNat)
  case atStart => exact ⟨0, Nat.zero_le _, rfl, H1.out, H2.out, HB.out⟩
  case round =>
    clear H1 H2 HB
    obtain ⟨k, hk, rfl, h1, h2, hb⟩ := hrel
    have H1 := Lib.hid h1; have H2 := Lib.hid h2; have HB := Lib.hid hb
    have i1 : (k : Int) < 60 := by have := HJ.out; omega
    have hw1 : IntKind.i64.wrap ((k : Int) + 1) = (k : Int) + 1 := by rw [IntKind.wrap_i64]; have := HJ.out; omega
    have HKA := Lib.hid (HKK.out k hk).1; have HKB := Lib.hid (HKK.out k hk).2
    clear h1 h2 hb
    by_cases hlt : k < j
    · obtain ⟨x, aa, ea, ab, eb, hx1, hpa, hpb⟩ := HAT.out k hlt
      have HLT := Lib.hid hlt
      clear hlt hk
      obtain rfl | rfl : x = 0 ∨ x = 1 := by omega
      · have HPA := Lib.hid hpa; have HPB := Lib.hid hpb
        clear hpa hpb hx1
        go_wp2_with fail
        refine (sbit_on B1 D1 _ _ k 0 aa ea false false HPA.out _ H1.out).mono ?_
        rintro y v1 ⟨rfl, hs, hb⟩
        have H1 := Lib.hid hs; have H2 := Lib.hid (H2.out.keep hb); have HB := Lib.hid (below_trans' HB.out hb)
        clear hs hb
        go_wp2_with fail
        refine (sbit_on B2 D2 _ _ k 0 ab eb false false HPB.out _ H2.out).mono ?_
        rintro y v2 ⟨rfl, hs, hb⟩
        have H2 := Lib.hid hs; have H1 := Lib.hid (H1.out.keep hb); have HB := Lib.hid (below_trans' HB.out hb)
        clear hs hb
        go_wp2_with fail
        refine (shd_kp B1 D1 _ _ k 0 aa ea false false HPA.out HLA.out 0 0 (by simp [verd]) (fun _ => HKA.out) _ H1.out).mono ?_
        rintro y v3 ⟨rfl, hs, hk⟩
        have HB := Lib.hid (HB.out.trans ((kp_low hk (Nat.le_of_lt H1.out.ltOf)).mono HNE.out.2.2.2.2.1))
        have H1 := Lib.hid hs; have H2 := Lib.hid (H2.out.kp hk HNE.out.1 HNE.out.2.1)
        clear hs hk
        go_wp2_with fail
        refine (shd_kp B2 D2 _ _ k 0 ab eb false false HPB.out HLB.out 0 0 (by simp [verd]) (fun _ => HKB.out) _ H2.out).mono ?_
        rintro y v4 ⟨rfl, hs, hk⟩
        have HB := Lib.hid (HB.out.trans ((kp_low hk (Nat.le_of_lt H2.out.ltOf)).mono HNE.out.2.2.2.2.2))
        have H2 := Lib.hid hs; have H1 := Lib.hid (H1.out.kp hk HNE.out.2.2.1 HNE.out.2.2.2.1)
        clear hs hk
        go_wp2_with fail
        go_roundw
        case rel => exact ⟨k + 1, by have := HLT.out; omega, by simp, H1.out, H2.out, HB.out⟩
        case measure => have := HLT.out; have := HJ.out; simp [intOf]; omega
      · have HPA := Lib.hid hpa; have HPB := Lib.hid hpb
        clear hpa hpb hx1
        go_wp2_with fail
        refine (sbit_on B1 D1 _ _ k 1 aa ea false false HPA.out _ H1.out).mono ?_
        rintro y v1 ⟨rfl, hs, hb⟩
        have H1 := Lib.hid hs; have H2 := Lib.hid (H2.out.keep hb); have HB := Lib.hid (below_trans' HB.out hb)
        clear hs hb
        go_wp2_with fail
        refine (sbit_on B2 D2 _ _ k 1 ab eb false false HPB.out _ H2.out).mono ?_
        rintro y v2 ⟨rfl, hs, hb⟩
        have H2 := Lib.hid hs; have H1 := Lib.hid (H1.out.keep hb); have HB := Lib.hid (below_trans' HB.out hb)
        clear hs hb
        go_wp2_with fail
        refine (shd_kp B1 D1 _ _ k 1 aa ea false false HPA.out HLA.out 1 0 (by simp [verd]) (fun _ => HKA.out) _ H1.out).mono ?_
        rintro y v3 ⟨rfl, hs, hk⟩
        have HB := Lib.hid (HB.out.trans ((kp_low hk (Nat.le_of_lt H1.out.ltOf)).mono HNE.out.2.2.2.2.1))
        have H1 := Lib.hid hs; have H2 := Lib.hid (H2.out.kp hk HNE.out.1 HNE.out.2.1)
        clear hs hk
        go_wp2_with fail
        refine (shd_kp B2 D2 _ _ k 1 ab eb false false HPB.out HLB.out 1 0 (by simp [verd]) (fun _ => HKB.out) _ H2.out).mono ?_
        rintro y v4 ⟨rfl, hs, hk⟩
        have HB := Lib.hid (HB.out.trans ((kp_low hk (Nat.le_of_lt H2.out.ltOf)).mono HNE.out.2.2.2.2.2))
        have H2 := Lib.hid hs; have H1 := Lib.hid (H1.out.kp hk HNE.out.2.2.1 HNE.out.2.2.2.1)
        clear hs hk
        go_wp2_with fail
        go_roundw
        case rel => exact ⟨k + 1, by have := HLT.out; omega, by simp, H1.out, H2.out, HB.out⟩
        case measure => have := HLT.out; have := HJ.out; simp [intOf]; omega
    · obtain rfl : k = j := by omega
      have hx1 := HXY.out.1; have hy1 := HXY.out.2
      clear hlt hk
      obtain rfl | rfl : xx = 0 ∨ xx = 1 := by omega
      · obtain rfl : yy = 1 := hy1
        obtain rfl : wn = true := HW.out
        have HPA := HJA; have HPB := HJB
        clear hx1
        go_wp2_with fail
        refine (sbit_on B1 D1 _ _ k 0 true false false false HPA.out _ H1.out).mono ?_
        rintro y v1 ⟨rfl, hs, hb⟩
        have H1 := Lib.hid hs; have H2 := Lib.hid (H2.out.keep hb); have HB := Lib.hid (below_trans' HB.out hb)
        clear hs hb
        go_wp2_with fail
        refine (sbit_on B2 D2 _ _ k 1 true false false false HPB.out _ H2.out).mono ?_
        rintro y v2 ⟨rfl, hs, hb⟩
        have H2 := Lib.hid hs; have H1 := Lib.hid (H1.out.keep hb); have HB := Lib.hid (below_trans' HB.out hb)
        clear hs hb
        go_wp2_with fail
        refine (shd_kp B1 D1 _ _ k 0 true false false false HPA.out HLA.out 0 0 (by decide) (fun _ => HKA.out) _ H1.out).mono ?_
        rintro y v3 ⟨rfl, hs, hk⟩
        have H2 := Lib.hid (H2.out.kp hk HNE.out.1 HNE.out.2.1)
        have HB := Lib.hid (HB.out.trans ((kp_low hk (Nat.le_of_lt H1.out.ltOf)).mono HNE.out.2.2.2.2.1))
        clear hs hk
        go_wp2_with fail
        refine (shd_kp B2 D2 _ _ k 1 true false false false HPB.out HLB.out 0 1 (by decide) (fun _ => HKB.out) _ H2.out).mono ?_
        rintro y v4 ⟨rfl, hs, hk⟩
        have HBZ := Lib.hid (HB.out.trans ((kp_low hk (Nat.le_of_lt H2.out.ltOf)).mono HNE.out.2.2.2.2.2))
        clear hs hk
        go_wp2_with fail
        refine (HLV.out _ HBZ.out).mono ?_
        rintro x wz ⟨rfl, hbz⟩
        have HBY := Lib.hid (below_trans' HBZ.out hbz)
        clear hbz
        go_wp2_with fail
        go_ret
        exact ⟨rfl, HBY.out⟩
      · obtain rfl : yy = 0 := hy1
        obtain rfl : wn = false := HW.out
        have HPA := HJA; have HPB := HJB
        clear hx1
        go_wp2_with fail
        refine (sbit_on B1 D1 _ _ k 1 true false false false HPA.out _ H1.out).mono ?_
        rintro y v1 ⟨rfl, hs, hb⟩
        have H1 := Lib.hid hs; have H2 := Lib.hid (H2.out.keep hb); have HB := Lib.hid (below_trans' HB.out hb)
        clear hs hb
        go_wp2_with fail
        refine (sbit_on B2 D2 _ _ k 0 true false false false HPB.out _ H2.out).mono ?_
        rintro y v2 ⟨rfl, hs, hb⟩
        have H2 := Lib.hid hs; have H1 := Lib.hid (H1.out.keep hb); have HB := Lib.hid (below_trans' HB.out hb)
        clear hs hb
        go_wp2_with fail
        refine (shd_kp B1 D1 _ _ k 1 true false false false HPA.out HLA.out 0 1 (by decide) (fun _ => HKA.out) _ H1.out).mono ?_
        rintro y v3 ⟨rfl, hs, hk⟩
        have H2 := Lib.hid (H2.out.kp hk HNE.out.1 HNE.out.2.1)
        have HB := Lib.hid (HB.out.trans ((kp_low hk (Nat.le_of_lt H1.out.ltOf)).mono HNE.out.2.2.2.2.1))
        clear hs hk
        go_wp2_with fail
        refine (shd_kp B2 D2 _ _ k 0 true false false false HPB.out HLB.out 0 0 (by decide) (fun _ => HKB.out) _ H2.out).mono ?_
        rintro y v4 ⟨rfl, hs, hk⟩
        have HBZ := Lib.hid (HB.out.trans ((kp_low hk (Nat.le_of_lt H2.out.ltOf)).mono HNE.out.2.2.2.2.2))
        clear hs hk
        go_wp2_with fail
        refine (HLV.out _ HBZ.out).mono ?_
        rintro x wz ⟨rfl, hbz⟩
        have HBY := Lib.hid (below_trans' HBZ.out hbz)
        clear hbz
        go_wp2_with fail
        go_ret
        exact ⟨rfl, HBY.out⟩
theorem door_met (os : Os) (args : Array Value) : laidMetH Tryd.prog laidD ((World.doorLaid Tryd.prog 400 os).forCall (fun _ _ => 0) ⟨#[], args, []⟩).memory :=
  laidMetH_of_parts3 (fuel := 8) (laidMet_of_run' 8 (by kernel_rfl) (by kernel_rfl)) (by kernel_rfl) (by kernel_rfl)
set_option maxRecDepth 100000 in
theorem lifted (os : Os) (started : os.Started) (H : Type) (enc : TypeId × Value → H) :
    ReturnsInHanded {} Tryd.checked os 9 .any (fun w args => (Rows.speakTwoSpec.pre enc Tryd.prog Tryd.f9 [] false w args ∧ laidMetH Tryd.prog laidD w) ∧ sizedMet enc Tryd.prog Tryd.f9 (OpenSpec.ofChange Rows.speakTwoSpec) false w args)
      (Rows.speakTwoSpec.post enc Tryd.prog Tryd.f9 false true false false) := by
  refine returnsInHanded_of_change_and (C := Tryd.checked) (X := fun w _ => laidMetH Tryd.prog laidD w) (fun _ _ _ hh h => h.of_heap hh) own started (by kernel_rfl) Tryd.func9
    (ChangeSpec.witness_shaped (enc := enc) (C := Tryd.checked) (os := os) (X := fun w _ => laidMetH Tryd.prog laidD w) false (World.doorLaid Tryd.prog 400 os) #[.agg #[.bool false, .int .u32 0, .bool false, .int .i64 0, .int .u8 0, .int .u8 0, .int .u8 0, .int .u8 0, .int .u8 0, .int .u8 0, .int .u8 0, .int .u8 0], .agg #[.bool false, .int .u32 0, .bool false, .int .i64 0, .int .u8 0, .int .u8 0, .int .u8 0, .int .u8 0, .int .u8 0, .int .u8 0, .int .u8 0, .int .u8 0]] 8 rfl (World.shaped_of_RefB (by kernel_rfl) (by kernel_rfl)) (by kernel_rfl) (by kernel_rfl) (by kernel_rfl) (door_met os _)) ?_
  intro W base args ds gs before hval0 hW _ _ hL _
  have hval : ∀ (j : Nat) t v, Tryd.f9.params[j]? = some t → args[j]? = some v → Value.okWide Tryd.prog W .any base t v := hval0
  have hW' := hW
  obtain ⟨p, q, hA0, hV, rfl, hfz, hnd⟩ := hW
  have hA : DataW.TrodAll enc Tryd.prog W 0 (fun _ => true) true Tryd.f9.params.toList args.toList ds p := hA0
  rw [Tryd.params9] at hA hval
  obtain ⟨v0, vs0, d0, ds0, p0, q0, hargs, rfl, rfl, h0, r0⟩ := trodAll_cons hA
  obtain ⟨v1, vs1, d1, ds1, p1, q1, rfl, rfl, rfl, h1, r1⟩ := trodAll_cons r0
  obtain ⟨rfl, rfl, rfl⟩ := trodAll_nil r1
  obtain rfl : args = #[v0, v1] := by cases args; simp_all
  obtain ⟨rfl, rfl⟩ := trodVars_none hV
  have k0 := h0
  have lt0 : ∀ x ∈ p0, x.block < W.heap.size := by obtain ⟨m, hm⟩ := k0; exact DataW.trod_lt m _ _ _ hm
  obtain ⟨e0, n0, q0, l0, x0, rfl, w0⟩ := open_frame (hval 0 27 v0 rfl rfl) h0
  have k1 := h1
  have lt1 : ∀ x ∈ p1, x.block < W.heap.size := by obtain ⟨m, hm⟩ := k1; exact DataW.trod_lt m _ _ _ hm
  obtain ⟨e1, n1, q1, l1, x1, rfl, w1⟩ := open_frame (hval 1 27 v1 rfl rfl) h1
  clear hA0 hval0
  obtain ⟨hTab, hsz0⟩ := tab_of_laid hL
  refine (walk e0 n0 q0 l0 x0 e1 n1 q1 l1 x1 w0 w1 W hsz0 hTab).mono fun e W' ⟨he, bel⟩ => ?_
  subst he
  exact ⟨_, rfl, _, _, _, [], _, [], hW', trodAll_mk1 (shut_bool Tryd.underlying4 _), (trodAll_cons_mk (Below.trod laidOut (by kernel_rfl) (of_decide_eq_true (by kernel_rfl)) k0 bel lt0) (trodAll_cons_mk (Below.trod laidOut (by kernel_rfl) (of_decide_eq_true (by kernel_rfl)) k1 bel lt1) trodAll_mk0)), rfl, bel.frame _, fun h => by cases h⟩
theorem over : Rows.speakTwoRow.holds Tryd.pinned (OpenSpec.ofChange Rows.speakTwoSpec) :=
  OpenClaim.holds_of_wide 9 Tryd.f9 rfl rfl rfl rfl rfl rfl rfl ⟨rfl, rfl, rfl, rfl, rfl⟩ rfl rfl rfl rfl rfl (by kernel_rfl) Tryd.func9 (by kernel_rfl)
    (of_decide_eq_true (by kernel_rfl)) (by unfold Func.isWrapper; first | (rw [if_pos (by decide +kernel)]; kernel_rfl) | (rw [if_neg (by decide +kernel)]; exact ⟨rfl, rfl⟩))
    (fun os started H enc _ => lifted os started H enc)
/-- The statement: the row, and what it lists tied to the program's text. -/
theorem proved : Rows.SpeakTwoCardSaid :=
  Claim7.holds_tied_plain_at .later [] [.data] true _ true
    over (fun _ h => by cases h) (by kernel_rfl) (fun _ h => by cases h) speakTwo_row_tie rfl ⟨rfl, rfl⟩ (by kernel_rfl) rfl
    (fun f fn hf hfn => by
      obtain rfl : f = 9 := Option.some.inj ((show Tryd.prog.funcNamed "bellbuoy/bellbuoylaw09.SpeakTwo" = some 9 by kernel_rfl).symm.trans hf) |>.symm
      obtain rfl : fn = Tryd.f9 := (Option.some.inj (Tryd.func9.symm.trans hfn)).symm
      exact ⟨by kernel_rfl, fun j t ht => by
        rw [Tryd.params9] at ht
        have hm : t ∈ [27, 27] := by simpa using Array.mem_of_getElem? ht
        have hall : ([27, 27].all fun u => !Tryd.prog.wantsStandIn u) = true := by kernel_rfl
        exact (show Tryd.prog.wantsStandIn t = false by simpa using List.all_eq_true.1 hall t hm)⟩)
    (by kernel_rfl)
end Go.Proofs.YtmfnkfiocnngeaaDoor.speakTwo
