/- The statement of P8.3 (ListenFrames): who hears a frame has it, at the last bit but one; whatever the slot has. Conditions: the divisor's cells hold what the program's own text lays in them (tied). -/
import Derived.Test.YtndjennhbggoiaaDoorRows
import Derived.Test.YtndjennhbggoiaaDoorLij
import Derived.Test.YtndjennhbggoiaaDoorOpe
import Derived.Test.YtndjennhbggoiaaDoorBat
import Derived.WalkKit
import Derived.ProofKit
import Derived.OpenShut
import Derived.ShutString
import Derived.ChangeOld
import Derived.Below
namespace Go.Proofs.YtndjennhbggoiaaDoor.listenFrames
open Go.ChangeShapes Go.WideShapes Go.ChangeAt Go.RowKit
theorem own : ownKnob Tryd.prog.godebug = none := by kernel_rfl
theorem laidOut : laidOutB Tryd.prog = true := by kernel_rfl
/-- The slot of a frame on the wire has a place of its own. -/
theorem enc_slot (e : Bool) (n : Nat) (r : Bool) (m : Nat) (data : List Nat) (x : Nat) : (encB e n r m data).set ((encB e n r m data).length - 9) x = stuffB (bodyB e n r m data) ++ (1 :: x :: 1 :: 1 :: 1 :: 1 :: 1 :: 1 :: 1 :: 1 :: []) := by
  rw [encB_length, show (stuffB (bodyB e n r m data)).length + 10 - 9 = (stuffB (bodyB e n r m data)).length + 1 by omega]
  unfold encB
  rw [List.set_append_right _ _ (by omega), show (stuffB (bodyB e n r m data)).length + 1 - (stuffB (bodyB e n r m data)).length = 1 by omega]
  rfl
set_option maxRecDepth 100000 in
set_option maxHeartbeats 16000000 in
theorem walk (e0 : Bool) (n0 : Nat) (q0 : Bool) (l0 : Int) (x0 : List Nat) (a1 : Bool) (w0 : n0 < 4294967296 ∧ x0.length = 8 ∧ ∀ y ∈ x0, y < 256) (w : World) (h0 : 0 < w.heap.size) (hT : Tab w) :
    Calls Tryd.prog 10 #[frameV e0 n0 q0 l0 x0, .bool a1] w fun e w' => e = .returned (.bool true) ∧ Below w.heap.size w w' := by
  obtain ⟨hn0, hx0, hb0⟩ := w0
  have HLV := Lib.hid (fun u (hu : Below w.heap.size w u) => live8 u (Nat.lt_of_lt_of_le h0 hu.size) (hT.onB hu h0))
  by_cases hok : rightF e0 n0 q0 l0 x0 = 0
  · obtain ⟨m, rfl⟩ : ∃ m : Nat, l0 = m := by
      by_cases hneg : l0 < 0
      · exfalso
        unfold rightF at hok
        split at hok
        · exact absurd hok (by decide)
        · rw [if_pos (.inl hneg)] at hok; exact absurd hok (by decide)
      · exact ⟨l0.toNat, by omega⟩
    obtain ⟨x0, x1, x2, x3, x4, x5, x6, x7, rfl⟩ := eight hx0
    have hlong := enc_long hok
    obtain ⟨L, hL⟩ : ∃ L, L = (encB e0 n0 q0 m [x0, x1, x2, x3, x4, x5, x6, x7]).length := ⟨_, rfl⟩
    rw [← hL] at hlong
    have HEN := Lib.hid (show ∀ u, Calls Tryd.prog 42 #[.agg #[.bool e0, .int .u32 (n0 : Int), .bool q0, .int .i64 (m : Int), .int .u8 (x0 : Int), .int .u8 (x1 : Int), .int .u8 (x2 : Int), .int .u8 (x3 : Int), .int .u8 (x4 : Int), .int .u8 (x5 : Int), .int .u8 (x6 : Int), .int .u8 (x7 : Int)]] u fun x w' => ∃ a cap, x = .returned (.slice a L cap) ∧ Ow u.heap.size w' (.slice a L cap) (encB e0 n0 q0 m [x0, x1, x2, x3, x4, x5, x6, x7]) ∧ Below u.heap.size u w' from fun u => (refEnc_yes e0 n0 hn0 q0 m [x0, x1, x2, x3, x4, x5, x6, x7] rfl hb0 hok u).mono fun x w' h => by
      obtain ⟨v, rfl, ho, hb⟩ := h
      obtain ⟨a, cap, rfl⟩ := ho.shape
      rw [← hL] at ho ⊢
      exact ⟨a, cap, rfl, ho, hb⟩)
    have HLE := Lib.hid hL; have HLO := Lib.hid hlong; have HOK := Lib.hid hok; have HDB := Lib.hid hb0; have HG0 := Lib.hid h0; have HTT := Lib.hid hT
    have HFA := Lib.hid (FrameAt.new w 27 e0 n0 q0 (m : Int) [x0, x1, x2, x3, x4, x5, x6, x7] rfl)
    simp only [frameV, frameC, List.map] at HFA ⊢
    have i0 : ((L : Int) == 0) = false := by rw [beq_eq_false_iff_ne]; omega
    have heq : ∀ u : World, Sem.run Tryd.prog (Op.equalIn 9999 25 (.agg #[.int .u8 (x0 : Int), .int .u8 (x1 : Int), .int .u8 (x2 : Int), .int .u8 (x3 : Int), .int .u8 (x4 : Int), .int .u8 (x5 : Int), .int .u8 (x6 : Int), .int .u8 (x7 : Int)]) (.agg #[.int .u8 (x0 : Int), .int .u8 (x1 : Int), .int .u8 (x2 : Int), .int .u8 (x3 : Int), .int .u8 (x4 : Int), .int .u8 (x5 : Int), .int .u8 (x6 : Int), .int .u8 (x7 : Int)])) u = .ok true u := fun u => frame_same 9997 x0 x1 x2 x3 x4 x5 x6 x7 u
    obtain ⟨a2, ha2⟩ : ∃ a2, a2 = L - 2 := ⟨_, rfl⟩
    obtain ⟨a1', ha1⟩ : ∃ a1', a1' = L - 1 := ⟨_, rfl⟩
    obtain ⟨a11, ha11⟩ : ∃ a11, a11 = L - 11 := ⟨_, rfl⟩
    have hs2 : IntKind.i64.wrap ((L : Int) - 2) = (a2 : Int) := by rw [IntKind.wrap_i64]; omega
    have hs1 : IntKind.i64.wrap ((L : Int) - 1) = (a1' : Int) := by rw [IntKind.wrap_i64]; omega
    have hs11 : IntKind.i64.wrap ((L : Int) - 11) = (a11 : Int) := by rw [IntKind.wrap_i64]; omega
    have HA2 := Lib.hid (show a2 + 2 = L by omega); have HA1 := Lib.hid (show a1' + 1 = L by omega); have HA11 := Lib.hid (show a11 + 11 = L by omega)
    clear hlong hL hok hx0 hb0 hn0 h0 hT ha2 ha1 ha11
    go_enter Tryd.func10, Tryd.ntmps10
    go_wp2_with fail
    refine (HEN.out _).mono ?_
    rintro x w4 ⟨va, vc, rfl, ho, hb⟩
    have HB4 := Lib.hid (below_trans' ((Below.refl _ w).alloc (Nat.le_refl _) _) hb)
    have HF4 := Lib.hid (FrameAt.keep HFA.out hb (by simp))
    have hlt4 : w.heap.size < w4.heap.size := by have := hb.size; simp at this; omega
    have HO3 := Lib.hid (Ow.low ho (A := w.heap.size + 1) (by simp))
    clear hb ho
    go_upto_region 5 with fail
    cases a1
    · go_wp2_with fail
      obtain ⟨EB, hEB⟩ : ∃ EB, EB = slotB e0 n0 q0 m [x0, x1, x2, x3, x4, x5, x6, x7] 1 := ⟨_, rfl⟩
      obtain ⟨w5, hw5⟩ : ∃ w5, w5 = w4 := ⟨_, rfl⟩
      have HO5 := Lib.hid (show Ow (w.heap.size + 1) w5 (.slice va L vc) EB by rw [hEB, slotB_enc, hw5]; exact HO3.out)
      have HB5 := Lib.hid (show Below w.heap.size w w5 by rw [hw5]; exact HB4.out)
      have HF5 := Lib.hid (show FrameAt w5 w.heap.size e0 n0 q0 (m : Int) [x0, x1, x2, x3, x4, x5, x6, x7] by rw [hw5]; exact HF4.out)
      have hlt5 : w.heap.size < w5.heap.size := by rw [hw5]; exact hlt4
      have HEBD := Lib.hid hEB
      have HEL := Lib.hid (show EB.length = L by rw [hEB, slotB_length, HLE.out, encB_length])
      rw [← hw5]
      clear hw5 hEB
      have hEBe : EB = slotB e0 n0 q0 m [x0, x1, x2, x3, x4, x5, x6, x7] 1 := HEBD.out
      have HEV := Lib.hid (fun i => frame_event HOK.out rfl HDB.out 1 (by decide) i)
      have HGO := Lib.hid (fun i => frame_good HOK.out rfl HDB.out 1 (by decide) i)
      have hrunE := frame_run HOK.out rfl HDB.out 1 (by decide)
      rw [← hEBe] at HEV HGO hrunE
      rw [HEL.out] at HEV HGO
      obtain ⟨_, s1, _, _, _, _, hp5, hvl, hfr, hhh, _⟩ := hrunE
      have HVL := Lib.hid hvl; have HFR := Lib.hid hfr
      clear hEBe hp5 hvl hfr hhh
      refine (lnew_any _).mono ?_
      rintro x w6 ⟨rfl, hla, hw6⟩
      obtain ⟨B1, hB1⟩ : ∃ B1, B1 = w5.heap.size := ⟨_, rfl⟩
      rw [← hB1] at hla ⊢
      have hb6 : Below w5.heap.size w5 w6 := by rw [hw6]; exact (Below.refl _ _).alloc (Nat.le_refl _) _
      have HB6 := Lib.hid (below_trans' HB5.out hb6)
      have HF6 := Lib.hid (HF5.out.keep hb6 hlt5)
      have HO6 := Lib.hid (HO5.out.on hb6)
      have HLA6 := Lib.hid hla
      have HNB := Lib.hid (show (Value.slice va L vc).ownBlock ≠ some B1 from fun e => by have := (World.ownsRow.lt HO5.out.own B1 e).2; omega)
      have HBB := Lib.hid (show w.heap.size < B1 by rw [hB1]; exact hlt5)
      clear hla hw6 hb6 hB1 hlt5
      go_wp2_with fail
      go_loopw [8] (fun i wr => ∃ (j : Nat) (v' : Value), j ≤ L ∧ i = .int .i64 j ∧ Hr w6 B1 EB j wr v') (fun i _ => L - (intOf i).toNat)
      case atStart => exact ⟨0, _, Nat.zero_le _, rfl, Hr.start HLA6.out⟩
      case round =>
        obtain ⟨j, v', hj, rfl, hhr⟩ := hrel
        have HHR := Lib.hid hhr; have HJ := Lib.hid hj
        have HOr := Lib.hid (hhr.ow HO6.out HNB.out)
        clear hhr hj
        by_cases hlt : j < L
        · have i1 : (j : Int) < (L : Int) := by omega
          have i2 : (0 : Int) ≤ (j : Int) := by omega
          have hw : IntKind.i64.wrap ((j : Int) + 1) = (j : Int) + 1 := by rw [IntKind.wrap_i64]; have := HLO.out.2.1; omega
          obtain ⟨bk, off, hae, hbk, hc⟩ := HOr.out.str.at hlt
          subst hae
          have c0 := hc _ (Below.refl _ _)
          skip
          have HST := Lib.hid (Hr.step HHR.out (by rw [HEL.out]; exact hlt) (by rw [HEL.out]; have := HLO.out.2.1; omega) (Nat.lt_trans HG0.out HBB.out) HLA6.out.lt (HTT.out.onB HB6.out HG0.out))
          have he := HEV.out j hlt
          rw [he] at HST
          obtain ⟨y, hy⟩ : ∃ y, y = EB[j]?.getD 0 := ⟨_, rfl⟩
          rw [← hy] at c0 HST
          have HLT := Lib.hid hlt
          have HA2' := HA2.out; have HA1' := HA1.out; have HA11' := HA11.out
          have hways : (j + 1 = L) ∨ (j + 2 = L) ∨ (L < j + 11 ∧ j + 2 < L) ∨ (j + 11 = L) ∨ (j + 11 < L) := by omega
          clear he hy
          rcases hways with hways | hways | hways | hways | hways
          · have k2 : ((j : Int) == (a2 : Int)) = false := by rw [beq_eq_false_iff_ne]; omega
            have k1 : ((j : Int) == (a1' : Int)) = true := by rw [beq_iff_eq]; omega
            have kg : (a11 : Int) < (j : Int) := by omega
            have kl : ¬ (j : Int) < (a1' : Int) := by omega
            have kn : ((j : Int) != (a11 : Int)) = true := by simp; omega
            have hwe : wantE L j = 5 := by unfold wantE; (repeat' split) <;> omega
            rw [hwe] at HST
            clear hwe hc hlt hways HA2' HA1' HA11'
            go_wp2_with fail
            refine HST.out.mono ?_
            rintro y' w6 ⟨v2, rfl, h3⟩
            have H3 := Lib.hid h3
            clear h3 c0
            go_wp2_with fail
            go_roundw
            case rel => exact ⟨j + 1, v2, HLT.out, by simp, H3.out⟩
            case measure => have := HLT.out; simp [intOf]; omega
          · have k2 : ((j : Int) == (a2 : Int)) = true := by rw [beq_iff_eq]; omega
            have k1 : ((j : Int) == (a1' : Int)) = false := by rw [beq_eq_false_iff_ne]; omega
            have kg : (a11 : Int) < (j : Int) := by omega
            have kl : (j : Int) < (a1' : Int) := by omega
            have kn : ((j : Int) != (a11 : Int)) = true := by simp; omega
            have hwe : wantE L j = 4 := by unfold wantE; (repeat' split) <;> omega
            rw [hwe] at HST
            have HGV := Lib.hid (show (decide ((LS0.run (EB.take (j + 1))).p ≠ 5) && (LS0.run (EB.take (j + 1))).g) = true by
              rw [HGO.out (j + 1) (by omega)]
              rw [decide_eq_true_iff]; omega)
            clear hwe hc hlt hways HA2' HA1' HA11'
            go_wp2_with fail
            refine HST.out.mono ?_
            rintro y' w6 ⟨v2, rfl, h3⟩
            have H3 := Lib.hid h3
            clear h3 c0
            go_wp2_with fail
            have HGD := Lib.hid (lgood_any B1 (LS0.run (EB.take (j + 1))) v2 w6 H3.out.la)
            rw [HGV.out] at HGD
            refine HGD.out.mono ?_
            rintro y'' w7 ⟨rfl, rfl⟩
            go_wp2_with fail
            go_roundw
            case rel => exact ⟨j + 1, v2, HLT.out, by simp, H3.out⟩
            case measure => have := HLT.out; simp [intOf]; omega
          · have k2 : ((j : Int) == (a2 : Int)) = false := by rw [beq_eq_false_iff_ne]; omega
            have k1 : ((j : Int) == (a1' : Int)) = false := by rw [beq_eq_false_iff_ne]; omega
            have kg : (a11 : Int) < (j : Int) := by omega
            have kl : (j : Int) < (a1' : Int) := by omega
            have kn : ((j : Int) != (a11 : Int)) = true := by simp; omega
            have hwe : wantE L j = 0 := by unfold wantE; (repeat' split) <;> omega
            rw [hwe] at HST
            have HGV := Lib.hid (show (decide ((LS0.run (EB.take (j + 1))).p ≠ 5) && (LS0.run (EB.take (j + 1))).g) = true by
              rw [HGO.out (j + 1) (by omega)]
              rw [decide_eq_true_iff]; omega)
            clear hwe hc hlt hways HA2' HA1' HA11'
            go_wp2_with fail
            refine HST.out.mono ?_
            rintro y' w6 ⟨v2, rfl, h3⟩
            have H3 := Lib.hid h3
            clear h3 c0
            go_wp2_with fail
            have HGD := Lib.hid (lgood_any B1 (LS0.run (EB.take (j + 1))) v2 w6 H3.out.la)
            rw [HGV.out] at HGD
            refine HGD.out.mono ?_
            rintro y'' w7 ⟨rfl, rfl⟩
            go_wp2_with fail
            go_roundw
            case rel => exact ⟨j + 1, v2, HLT.out, by simp, H3.out⟩
            case measure => have := HLT.out; simp [intOf]; omega
          · have k2 : ((j : Int) == (a2 : Int)) = false := by rw [beq_eq_false_iff_ne]; omega
            have k1 : ((j : Int) == (a1' : Int)) = false := by rw [beq_eq_false_iff_ne]; omega
            have kg : ¬ (a11 : Int) < (j : Int) := by omega
            have kl : (j : Int) < (a1' : Int) := by omega
            have kn : ((j : Int) != (a11 : Int)) = false := by simp; omega
            have hwe : wantE L j = 0 := by unfold wantE; (repeat' split) <;> omega
            rw [hwe] at HST
            have HGV := Lib.hid (show (decide ((LS0.run (EB.take (j + 1))).p ≠ 5) && (LS0.run (EB.take (j + 1))).g) = true by
              rw [HGO.out (j + 1) (by omega)]
              rw [decide_eq_true_iff]; omega)
            clear hwe hc hlt hways HA2' HA1' HA11'
            go_wp2_with fail
            refine HST.out.mono ?_
            rintro y' w6 ⟨v2, rfl, h3⟩
            have H3 := Lib.hid h3
            clear h3 c0
            go_wp2_with fail
            have HGD := Lib.hid (lgood_any B1 (LS0.run (EB.take (j + 1))) v2 w6 H3.out.la)
            rw [HGV.out] at HGD
            refine HGD.out.mono ?_
            rintro y'' w7 ⟨rfl, rfl⟩
            go_wp2_with fail
            go_roundw
            case rel => exact ⟨j + 1, v2, HLT.out, by simp, H3.out⟩
            case measure => have := HLT.out; simp [intOf]; omega
          · have k2 : ((j : Int) == (a2 : Int)) = false := by rw [beq_eq_false_iff_ne]; omega
            have k1 : ((j : Int) == (a1' : Int)) = false := by rw [beq_eq_false_iff_ne]; omega
            have kg : ¬ (a11 : Int) < (j : Int) := by omega
            have kl : (j : Int) < (a1' : Int) := by omega
            have kn : ((j : Int) != (a11 : Int)) = true := by simp; omega
            have hwe : wantE L j = 0 := by unfold wantE; (repeat' split) <;> omega
            rw [hwe] at HST
            have HGV := Lib.hid (show (decide ((LS0.run (EB.take (j + 1))).p ≠ 5) && (LS0.run (EB.take (j + 1))).g) = false by
              rw [HGO.out (j + 1) (by omega)]
              rw [decide_eq_false_iff_not]; omega)
            clear hwe hc hlt hways HA2' HA1' HA11'
            go_wp2_with fail
            refine HST.out.mono ?_
            rintro y' w6 ⟨v2, rfl, h3⟩
            have H3 := Lib.hid h3
            clear h3 c0
            go_wp2_with fail
            have HGD := Lib.hid (lgood_any B1 (LS0.run (EB.take (j + 1))) v2 w6 H3.out.la)
            rw [HGV.out] at HGD
            refine HGD.out.mono ?_
            rintro y'' w7 ⟨rfl, rfl⟩
            go_wp2_with fail
            go_roundw
            case rel => exact ⟨j + 1, v2, HLT.out, by simp, H3.out⟩
            case measure => have := HLT.out; simp [intOf]; omega
        · obtain rfl : j = L := by have := HJ.out; omega
          have i1 : ¬ (j : Int) < (j : Int) := by omega
          have hla : LA wr B1 (LS0.run EB) v' := by
            have h := HHR.out.la
            rw [List.take_of_length_le (by rw [HEL.out]; exact Nat.le_refl _)] at h
            exact h
          have HFM := Lib.hid (lframe_any B1 (LS0.run EB) v' wr ⟨e0, n0, q0, m, x0, x1, x2, x3, x4, x5, x6, x7, HFR.out⟩ hla)
          rw [HVL.out, HFR.out] at HFM
          simp only [frameC, List.map, if_true] at HFM
          have hge := HHR.out.ge HLA6.out.lt
          have HBr := Lib.hid (HB6.out.trans (hge.mono (by have := HBB.out; omega)))
          have HFr := Lib.hid (HF6.out.keepAt hge HBB.out)
          have HBL := Lib.hid (show B1 < wr.heap.size from hla.lt)
          clear hla hlt hge
          go_wp2_with fail
          refine HFM.out.mono ?_
          rintro x w7 ⟨rfl, hb7⟩
          have HB7 := Lib.hid (below_trans' HBr.out hb7)
          have HF7 := Lib.hid (HFr.out.keep hb7 (by have := HBB.out; have := HBL.out; omega))
          have hs7 := hb7.size
          obtain ⟨W8, hW8⟩ : ∃ W8, W8 = w7.alloc (.cells #[.bool e0, .int .u32 (n0 : Int), .bool q0, .int .i64 (m : Int), .int .u8 (x0 : Int), .int .u8 (x1 : Int), .int .u8 (x2 : Int), .int .u8 (x3 : Int), .int .u8 (x4 : Int), .int .u8 (x5 : Int), .int .u8 (x6 : Int), .int .u8 (x7 : Int)] 27) := ⟨_, rfl⟩
          have ha8 : Below w7.heap.size w7 W8 := by rw [hW8]; exact (Below.refl _ _).alloc (Nat.le_refl _) _
          have HB8 := Lib.hid (below_trans' HB7.out ha8)
          have HF8 := Lib.hid (HF7.out.keep ha8 (by have := HBB.out; have := HBL.out; omega))
          have HG8 := Lib.hid (show FrameAt W8 w7.heap.size e0 n0 q0 (m : Int) [x0, x1, x2, x3, x4, x5, x6, x7] by rw [hW8]; exact FrameAt.new w7 27 e0 n0 q0 (m : Int) [x0, x1, x2, x3, x4, x5, x6, x7] rfl)
          have HSZ := Lib.hid (show w.heap.size < w7.heap.size ∧ w7.heap.size < W8.heap.size by rw [hW8]; simp; have := HBB.out; have := HBL.out; omega)
          clear hb7 ha8 hs7
          go_upto_region 20 with fail
          rw [← hW8]
          clear hW8
          obtain ⟨D, hD⟩ : ∃ D, D = w7.heap.size := ⟨_, rfl⟩
          rw [← hD] at HG8 HSZ ⊢
          clear hD
          go_wp2_with fail
          refine (HLV.out _ HB8.out).mono ?_
          rintro x wz ⟨rfl, hbz⟩
          have HBZ := Lib.hid (below_trans' HB8.out hbz)
          obtain ⟨c0, c1, c2, c3, c4, c5, c6, c7, c8, c9, c10, c11⟩ := (HF8.out.keep hbz (by have := HSZ.out; omega)).cells
          obtain ⟨k0, k1, k2, k3, k4, k5, k6, k7, k8, k9, k10, k11⟩ := (HG8.out.keep hbz HSZ.out.2).cells
          clear hbz
          go_wp2_with fail
          go_ret
          exact ⟨rfl, HBZ.out⟩
    · go_upto_region 6 with fail
      obtain ⟨k, hk⟩ : ∃ k, k = L - 9 := ⟨_, rfl⟩
      obtain ⟨gg, cap', hgv, hg1, _, _, hg2, hg3, hg4, hg5⟩ := Ow.write HO3.out (k := k) (by rw [← HLE.out]; have := HLO.out.1; omega)
      injection hgv with hg6 hgl hg7
      clear hgl
      subst hg6 hg7
      have e1 : (L : Int) - 9 = (k : Int) := by have := HLO.out.1; omega
      have e2 : IntKind.i64.wrap (k : Int) = (k : Int) := by rw [IntKind.wrap_i64]; have := HLO.out.2.1; omega
      have i5 : (0 : Int) ≤ (k : Int) := by omega
      have i6 : (k : Int) < (L : Int) := by have := HLO.out.1; omega
      obtain ⟨EB, hEB⟩ : ∃ EB, EB = slotB e0 n0 q0 m [x0, x1, x2, x3, x4, x5, x6, x7] 0 := ⟨_, rfl⟩
      obtain ⟨w5, hw5⟩ : ∃ w5, w5 = w4.setCell ⟨gg, k, none⟩ (.int .u8 ((0 : Nat) : Int)) := ⟨_, rfl⟩
      have HO5 := Lib.hid (show Ow (w.heap.size + 1) w5 (.slice (some ⟨gg, 0, none⟩) L vc) EB by
        have h := hg5 0
        rw [hk] at h hw5
        rw [hEB]
        unfold slotB
        rw [← enc_slot, ← HLE.out, hw5]
        exact h)
      have HB5 := Lib.hid (show Below w.heap.size w w5 by rw [hw5]; exact HB4.out.setCell (p := ⟨gg, k, none⟩) (by show w.heap.size ≤ gg; omega) _)
      have HF5 := Lib.hid (show FrameAt w5 w.heap.size e0 n0 q0 (m : Int) [x0, x1, x2, x3, x4, x5, x6, x7] by rw [hw5]; exact HF4.out.other (by omega) _)
      have hlt5 : w.heap.size < w5.heap.size := by rw [hw5]; simp only [setCell_size2]; exact hlt4
      have HW5 := Lib.hid hw5
      have HEBD := Lib.hid hEB
      have HEL := Lib.hid (show EB.length = L by rw [hEB, slotB_length, HLE.out, encB_length])
      clear hw5 hEB hk hg5
      go_wp2_with fail
      rw [show w4.setCell ⟨gg, k, none⟩ (.int .u8 0) = w5 from HW5.out.symm]
      clear hg3 hg4 e1 e2 i5 i6
      have hEBe : EB = slotB e0 n0 q0 m [x0, x1, x2, x3, x4, x5, x6, x7] 0 := HEBD.out
      have HEV := Lib.hid (fun i => frame_event HOK.out rfl HDB.out 0 (by decide) i)
      have HGO := Lib.hid (fun i => frame_good HOK.out rfl HDB.out 0 (by decide) i)
      have hrunE := frame_run HOK.out rfl HDB.out 0 (by decide)
      rw [← hEBe] at HEV HGO hrunE
      rw [HEL.out] at HEV HGO
      obtain ⟨_, s1, _, _, _, _, hp5, hvl, hfr, hhh, _⟩ := hrunE
      have HVL := Lib.hid hvl; have HFR := Lib.hid hfr
      clear hEBe hp5 hvl hfr hhh
      refine (lnew_any _).mono ?_
      rintro x w6 ⟨rfl, hla, hw6⟩
      obtain ⟨B1, hB1⟩ : ∃ B1, B1 = w5.heap.size := ⟨_, rfl⟩
      rw [← hB1] at hla ⊢
      have hb6 : Below w5.heap.size w5 w6 := by rw [hw6]; exact (Below.refl _ _).alloc (Nat.le_refl _) _
      have HB6 := Lib.hid (below_trans' HB5.out hb6)
      have HF6 := Lib.hid (HF5.out.keep hb6 hlt5)
      have HO6 := Lib.hid (HO5.out.on hb6)
      have HLA6 := Lib.hid hla
      have HNB := Lib.hid (show (Value.slice (some ⟨gg, 0, none⟩) L vc).ownBlock ≠ some B1 from fun e => by have := (World.ownsRow.lt HO5.out.own B1 e).2; omega)
      have HBB := Lib.hid (show w.heap.size < B1 by rw [hB1]; exact hlt5)
      clear hla hw6 hb6 hB1 hlt5
      go_wp2_with fail
      go_loopw [8] (fun i wr => ∃ (j : Nat) (v' : Value), j ≤ L ∧ i = .int .i64 j ∧ Hr w6 B1 EB j wr v') (fun i _ => L - (intOf i).toNat)
      case atStart => exact ⟨0, _, Nat.zero_le _, rfl, Hr.start HLA6.out⟩
      case round =>
        obtain ⟨j, v', hj, rfl, hhr⟩ := hrel
        have HHR := Lib.hid hhr; have HJ := Lib.hid hj
        have HOr := Lib.hid (hhr.ow HO6.out HNB.out)
        clear hhr hj
        by_cases hlt : j < L
        · have i1 : (j : Int) < (L : Int) := by omega
          have i2 : (0 : Int) ≤ (j : Int) := by omega
          have hw : IntKind.i64.wrap ((j : Int) + 1) = (j : Int) + 1 := by rw [IntKind.wrap_i64]; have := HLO.out.2.1; omega
          obtain ⟨bk, off, hae, hbk, hc⟩ := HOr.out.str.at hlt
          injection hae with hae; injection hae with hg1 hg2 _; subst hg1 hg2
          have c0 := hc _ (Below.refl _ _)
          rw [Nat.zero_add] at c0
          have HST := Lib.hid (Hr.step HHR.out (by rw [HEL.out]; exact hlt) (by rw [HEL.out]; have := HLO.out.2.1; omega) (Nat.lt_trans HG0.out HBB.out) HLA6.out.lt (HTT.out.onB HB6.out HG0.out))
          have he := HEV.out j hlt
          rw [he] at HST
          obtain ⟨y, hy⟩ : ∃ y, y = EB[j]?.getD 0 := ⟨_, rfl⟩
          rw [← hy] at c0 HST
          have HLT := Lib.hid hlt
          have HA2' := HA2.out; have HA1' := HA1.out; have HA11' := HA11.out
          have hways : (j + 1 = L) ∨ (j + 2 = L) ∨ (L < j + 11 ∧ j + 2 < L) ∨ (j + 11 = L) ∨ (j + 11 < L) := by omega
          clear he hy
          rcases hways with hways | hways | hways | hways | hways
          · have k2 : ((j : Int) == (a2 : Int)) = false := by rw [beq_eq_false_iff_ne]; omega
            have k1 : ((j : Int) == (a1' : Int)) = true := by rw [beq_iff_eq]; omega
            have kg : (a11 : Int) < (j : Int) := by omega
            have kl : ¬ (j : Int) < (a1' : Int) := by omega
            have kn : ((j : Int) != (a11 : Int)) = true := by simp; omega
            have hwe : wantE L j = 5 := by unfold wantE; (repeat' split) <;> omega
            rw [hwe] at HST
            clear hwe hc hlt hways HA2' HA1' HA11'
            go_wp2_with fail
            refine HST.out.mono ?_
            rintro y' w6 ⟨v2, rfl, h3⟩
            have H3 := Lib.hid h3
            clear h3 c0
            go_wp2_with fail
            go_roundw
            case rel => exact ⟨j + 1, v2, HLT.out, by simp, H3.out⟩
            case measure => have := HLT.out; simp [intOf]; omega
          · have k2 : ((j : Int) == (a2 : Int)) = true := by rw [beq_iff_eq]; omega
            have k1 : ((j : Int) == (a1' : Int)) = false := by rw [beq_eq_false_iff_ne]; omega
            have kg : (a11 : Int) < (j : Int) := by omega
            have kl : (j : Int) < (a1' : Int) := by omega
            have kn : ((j : Int) != (a11 : Int)) = true := by simp; omega
            have hwe : wantE L j = 4 := by unfold wantE; (repeat' split) <;> omega
            rw [hwe] at HST
            have HGV := Lib.hid (show (decide ((LS0.run (EB.take (j + 1))).p ≠ 5) && (LS0.run (EB.take (j + 1))).g) = true by
              rw [HGO.out (j + 1) (by omega)]
              rw [decide_eq_true_iff]; omega)
            clear hwe hc hlt hways HA2' HA1' HA11'
            go_wp2_with fail
            refine HST.out.mono ?_
            rintro y' w6 ⟨v2, rfl, h3⟩
            have H3 := Lib.hid h3
            clear h3 c0
            go_wp2_with fail
            have HGD := Lib.hid (lgood_any B1 (LS0.run (EB.take (j + 1))) v2 w6 H3.out.la)
            rw [HGV.out] at HGD
            refine HGD.out.mono ?_
            rintro y'' w7 ⟨rfl, rfl⟩
            go_wp2_with fail
            go_roundw
            case rel => exact ⟨j + 1, v2, HLT.out, by simp, H3.out⟩
            case measure => have := HLT.out; simp [intOf]; omega
          · have k2 : ((j : Int) == (a2 : Int)) = false := by rw [beq_eq_false_iff_ne]; omega
            have k1 : ((j : Int) == (a1' : Int)) = false := by rw [beq_eq_false_iff_ne]; omega
            have kg : (a11 : Int) < (j : Int) := by omega
            have kl : (j : Int) < (a1' : Int) := by omega
            have kn : ((j : Int) != (a11 : Int)) = true := by simp; omega
            have hwe : wantE L j = 0 := by unfold wantE; (repeat' split) <;> omega
            rw [hwe] at HST
            have HGV := Lib.hid (show (decide ((LS0.run (EB.take (j + 1))).p ≠ 5) && (LS0.run (EB.take (j + 1))).g) = true by
              rw [HGO.out (j + 1) (by omega)]
              rw [decide_eq_true_iff]; omega)
            clear hwe hc hlt hways HA2' HA1' HA11'
            go_wp2_with fail
            refine HST.out.mono ?_
            rintro y' w6 ⟨v2, rfl, h3⟩
            have H3 := Lib.hid h3
            clear h3 c0
            go_wp2_with fail
            have HGD := Lib.hid (lgood_any B1 (LS0.run (EB.take (j + 1))) v2 w6 H3.out.la)
            rw [HGV.out] at HGD
            refine HGD.out.mono ?_
            rintro y'' w7 ⟨rfl, rfl⟩
            go_wp2_with fail
            go_roundw
            case rel => exact ⟨j + 1, v2, HLT.out, by simp, H3.out⟩
            case measure => have := HLT.out; simp [intOf]; omega
          · have k2 : ((j : Int) == (a2 : Int)) = false := by rw [beq_eq_false_iff_ne]; omega
            have k1 : ((j : Int) == (a1' : Int)) = false := by rw [beq_eq_false_iff_ne]; omega
            have kg : ¬ (a11 : Int) < (j : Int) := by omega
            have kl : (j : Int) < (a1' : Int) := by omega
            have kn : ((j : Int) != (a11 : Int)) = false := by simp; omega
            have hwe : wantE L j = 0 := by unfold wantE; (repeat' split) <;> omega
            rw [hwe] at HST
            have HGV := Lib.hid (show (decide ((LS0.run (EB.take (j + 1))).p ≠ 5) && (LS0.run (EB.take (j + 1))).g) = true by
              rw [HGO.out (j + 1) (by omega)]
              rw [decide_eq_true_iff]; omega)
            clear hwe hc hlt hways HA2' HA1' HA11'
            go_wp2_with fail
            refine HST.out.mono ?_
            rintro y' w6 ⟨v2, rfl, h3⟩
            have H3 := Lib.hid h3
            clear h3 c0
            go_wp2_with fail
            have HGD := Lib.hid (lgood_any B1 (LS0.run (EB.take (j + 1))) v2 w6 H3.out.la)
            rw [HGV.out] at HGD
            refine HGD.out.mono ?_
            rintro y'' w7 ⟨rfl, rfl⟩
            go_wp2_with fail
            go_roundw
            case rel => exact ⟨j + 1, v2, HLT.out, by simp, H3.out⟩
            case measure => have := HLT.out; simp [intOf]; omega
          · have k2 : ((j : Int) == (a2 : Int)) = false := by rw [beq_eq_false_iff_ne]; omega
            have k1 : ((j : Int) == (a1' : Int)) = false := by rw [beq_eq_false_iff_ne]; omega
            have kg : ¬ (a11 : Int) < (j : Int) := by omega
            have kl : (j : Int) < (a1' : Int) := by omega
            have kn : ((j : Int) != (a11 : Int)) = true := by simp; omega
            have hwe : wantE L j = 0 := by unfold wantE; (repeat' split) <;> omega
            rw [hwe] at HST
            have HGV := Lib.hid (show (decide ((LS0.run (EB.take (j + 1))).p ≠ 5) && (LS0.run (EB.take (j + 1))).g) = false by
              rw [HGO.out (j + 1) (by omega)]
              rw [decide_eq_false_iff_not]; omega)
            clear hwe hc hlt hways HA2' HA1' HA11'
            go_wp2_with fail
            refine HST.out.mono ?_
            rintro y' w6 ⟨v2, rfl, h3⟩
            have H3 := Lib.hid h3
            clear h3 c0
            go_wp2_with fail
            have HGD := Lib.hid (lgood_any B1 (LS0.run (EB.take (j + 1))) v2 w6 H3.out.la)
            rw [HGV.out] at HGD
            refine HGD.out.mono ?_
            rintro y'' w7 ⟨rfl, rfl⟩
            go_wp2_with fail
            go_roundw
            case rel => exact ⟨j + 1, v2, HLT.out, by simp, H3.out⟩
            case measure => have := HLT.out; simp [intOf]; omega
        · obtain rfl : j = L := by have := HJ.out; omega
          have i1 : ¬ (j : Int) < (j : Int) := by omega
          have hla : LA wr B1 (LS0.run EB) v' := by
            have h := HHR.out.la
            rw [List.take_of_length_le (by rw [HEL.out]; exact Nat.le_refl _)] at h
            exact h
          have HFM := Lib.hid (lframe_any B1 (LS0.run EB) v' wr ⟨e0, n0, q0, m, x0, x1, x2, x3, x4, x5, x6, x7, HFR.out⟩ hla)
          rw [HVL.out, HFR.out] at HFM
          simp only [frameC, List.map, if_true] at HFM
          have hge := HHR.out.ge HLA6.out.lt
          have HBr := Lib.hid (HB6.out.trans (hge.mono (by have := HBB.out; omega)))
          have HFr := Lib.hid (HF6.out.keepAt hge HBB.out)
          have HBL := Lib.hid (show B1 < wr.heap.size from hla.lt)
          clear hla hlt hge
          go_wp2_with fail
          refine HFM.out.mono ?_
          rintro x w7 ⟨rfl, hb7⟩
          have HB7 := Lib.hid (below_trans' HBr.out hb7)
          have HF7 := Lib.hid (HFr.out.keep hb7 (by have := HBB.out; have := HBL.out; omega))
          have hs7 := hb7.size
          obtain ⟨W8, hW8⟩ : ∃ W8, W8 = w7.alloc (.cells #[.bool e0, .int .u32 (n0 : Int), .bool q0, .int .i64 (m : Int), .int .u8 (x0 : Int), .int .u8 (x1 : Int), .int .u8 (x2 : Int), .int .u8 (x3 : Int), .int .u8 (x4 : Int), .int .u8 (x5 : Int), .int .u8 (x6 : Int), .int .u8 (x7 : Int)] 27) := ⟨_, rfl⟩
          have ha8 : Below w7.heap.size w7 W8 := by rw [hW8]; exact (Below.refl _ _).alloc (Nat.le_refl _) _
          have HB8 := Lib.hid (below_trans' HB7.out ha8)
          have HF8 := Lib.hid (HF7.out.keep ha8 (by have := HBB.out; have := HBL.out; omega))
          have HG8 := Lib.hid (show FrameAt W8 w7.heap.size e0 n0 q0 (m : Int) [x0, x1, x2, x3, x4, x5, x6, x7] by rw [hW8]; exact FrameAt.new w7 27 e0 n0 q0 (m : Int) [x0, x1, x2, x3, x4, x5, x6, x7] rfl)
          have HSZ := Lib.hid (show w.heap.size < w7.heap.size ∧ w7.heap.size < W8.heap.size by rw [hW8]; simp; have := HBB.out; have := HBL.out; omega)
          clear hb7 ha8 hs7
          go_upto_region 20 with fail
          rw [← hW8]
          clear hW8
          obtain ⟨D, hD⟩ : ∃ D, D = w7.heap.size := ⟨_, rfl⟩
          rw [← hD] at HG8 HSZ ⊢
          clear hD
          go_wp2_with fail
          refine (HLV.out _ HB8.out).mono ?_
          rintro x wz ⟨rfl, hbz⟩
          have HBZ := Lib.hid (below_trans' HB8.out hbz)
          obtain ⟨c0, c1, c2, c3, c4, c5, c6, c7, c8, c9, c10, c11⟩ := (HF8.out.keep hbz (by have := HSZ.out; omega)).cells
          obtain ⟨k0, k1, k2, k3, k4, k5, k6, k7, k8, k9, k10, k11⟩ := (HG8.out.keep hbz HSZ.out.2).cells
          clear hbz
          go_wp2_with fail
          go_ret
          exact ⟨rfl, HBZ.out⟩
  · have HEN := Lib.hid (fun u => refEnc_no e0 n0 q0 l0 x0 hx0 hok u)
    obtain ⟨x0, x1, x2, x3, x4, x5, x6, x7, rfl⟩ := eight hx0
    simp only [frameV, frameC, List.map] at HEN ⊢
    clear hok hx0 hb0 hn0 h0 hT
    go_enter Tryd.func10, Tryd.ntmps10
    go_wp2_with fail
    refine (HEN.out _).mono ?_
    rintro x wa ⟨rfl, hb⟩
    have HBa := Lib.hid (below_trans' ((Below.refl _ w).alloc (Nat.le_refl _) _) hb)
    clear hb
    go_wp2_with fail
    refine (HLV.out _ HBa.out).mono ?_
    rintro x wd ⟨rfl, hb⟩
    have HBd := Lib.hid (below_trans' HBa.out hb)
    clear hb
    go_wp2_with fail
    go_ret
    exact ⟨rfl, HBd.out⟩
theorem door_met (os : Os) (args : Array Value) : laidMetH Tryd.prog laidD ((World.doorLaid Tryd.prog 400 os).forCall (fun _ _ => 0) ⟨#[], args, []⟩).memory :=
  laidMetH_of_parts3 (fuel := 8) (laidMet_of_run' 8 (by kernel_rfl) (by kernel_rfl)) (by kernel_rfl) (by kernel_rfl)
set_option maxRecDepth 100000 in
theorem lifted (os : Os) (started : os.Started) (H : Type) (enc : TypeId × Value → H) :
    ReturnsInHanded {} Tryd.checked os 10 .any (fun w args => (Rows.listenFramesSpec.pre enc Tryd.prog Tryd.f10 [] false w args ∧ laidMetH Tryd.prog laidD w) ∧ sizedMet enc Tryd.prog Tryd.f10 (OpenSpec.ofChange Rows.listenFramesSpec) false w args)
      (Rows.listenFramesSpec.post enc Tryd.prog Tryd.f10 false true false false) := by
  refine returnsInHanded_of_change_and (C := Tryd.checked) (X := fun w _ => laidMetH Tryd.prog laidD w) (fun _ _ _ hh h => h.of_heap hh) own started (by kernel_rfl) Tryd.func10
    (ChangeSpec.witness_shaped (enc := enc) (C := Tryd.checked) (os := os) (X := fun w _ => laidMetH Tryd.prog laidD w) false (World.doorLaid Tryd.prog 400 os) #[.agg #[.bool false, .int .u32 0, .bool false, .int .i64 0, .int .u8 0, .int .u8 0, .int .u8 0, .int .u8 0, .int .u8 0, .int .u8 0, .int .u8 0, .int .u8 0], .bool false] 8 rfl (World.shaped_of_RefB (by kernel_rfl) (by kernel_rfl)) (by kernel_rfl) (by kernel_rfl) (by kernel_rfl) (door_met os _)) ?_
  intro W base args ds gs before hval0 hW _ _ hL _
  have hval : ∀ (j : Nat) t v, Tryd.f10.params[j]? = some t → args[j]? = some v → Value.okWide Tryd.prog W .any base t v := hval0
  have hW' := hW
  obtain ⟨p, q, hA0, hV, rfl, hfz, hnd⟩ := hW
  have hA : DataW.TrodAll enc Tryd.prog W 0 (fun _ => true) true Tryd.f10.params.toList args.toList ds p := hA0
  rw [Tryd.params10] at hA hval
  obtain ⟨v0, vs0, d0, ds0, p0, q0, hargs, rfl, rfl, h0, r0⟩ := trodAll_cons hA
  obtain ⟨v1, vs1, d1, ds1, p1, q1, rfl, rfl, rfl, h1, r1⟩ := trodAll_cons r0
  obtain ⟨rfl, rfl, rfl⟩ := trodAll_nil r1
  obtain rfl : args = #[v0, v1] := by cases args; simp_all
  obtain ⟨rfl, rfl⟩ := trodVars_none hV
  have k0 := h0
  have lt0 : ∀ x ∈ p0, x.block < W.heap.size := by obtain ⟨m, hm⟩ := k0; exact DataW.trod_lt m _ _ _ hm
  obtain ⟨e0, n0, q0, l0, x0, rfl, w0⟩ := open_frame (hval 0 27 v0 rfl rfl) h0
  obtain ⟨a1, rfl, rfl, rfl⟩ := open_bool Tryd.underlying4 (hval 1 4 v1 rfl rfl) h1
  clear hA0 hval0
  obtain ⟨hTab, hsz0⟩ := tab_of_laid hL
  refine (walk e0 n0 q0 l0 x0 a1 w0 W hsz0 hTab).mono fun e W' ⟨he, bel⟩ => ?_
  subst he
  exact ⟨_, rfl, _, _, _, [], _, [], hW', trodAll_mk1 (shut_bool Tryd.underlying4 _), (trodAll_cons_mk (Below.trod laidOut (by kernel_rfl) (of_decide_eq_true (by kernel_rfl)) k0 bel lt0) (trodAll_cons_mk (shut_bool Tryd.underlying4 _) trodAll_mk0)), rfl, bel.frame _, fun h => by cases h⟩
theorem over : Rows.listenFramesRow.holds Tryd.pinned (OpenSpec.ofChange Rows.listenFramesSpec) :=
  OpenClaim.holds_of_wide 10 Tryd.f10 rfl rfl rfl rfl rfl rfl rfl ⟨rfl, rfl, rfl, rfl, rfl⟩ rfl rfl rfl rfl rfl (by kernel_rfl) Tryd.func10 (by kernel_rfl)
    (of_decide_eq_true (by kernel_rfl)) (by unfold Func.isWrapper; first | (rw [if_pos (by decide +kernel)]; kernel_rfl) | (rw [if_neg (by decide +kernel)]; exact ⟨rfl, rfl⟩))
    (fun os started H enc _ => lifted os started H enc)
/-- The statement: the row, and what it lists tied to the program's text. -/
theorem proved : Rows.ListenFramesCardSaid :=
  Claim7.holds_tied_plain_at .later [] [.data] true _ true
    over (fun _ h => by cases h) (by kernel_rfl) (fun _ h => by cases h) listenFrames_row_tie rfl ⟨rfl, rfl⟩ (by kernel_rfl) rfl
    (fun f fn hf hfn => by
      obtain rfl : f = 10 := Option.some.inj ((show Tryd.prog.funcNamed "bellbuoy/bellbuoylaw08.ListenFrames" = some 10 by kernel_rfl).symm.trans hf) |>.symm
      obtain rfl : fn = Tryd.f10 := (Option.some.inj (Tryd.func10.symm.trans hfn)).symm
      exact ⟨by kernel_rfl, fun j t ht => by
        rw [Tryd.params10] at ht
        have hm : t ∈ [27, 4] := by simpa using Array.mem_of_getElem? ht
        have hall : ([27, 4].all fun u => !Tryd.prog.wantsStandIn u) = true := by kernel_rfl
        exact (show Tryd.prog.wantsStandIn t = false by simpa using List.all_eq_true.1 hall t hm)⟩)
    (by kernel_rfl)
end Go.Proofs.YtndjennhbggoiaaDoor.listenFrames
