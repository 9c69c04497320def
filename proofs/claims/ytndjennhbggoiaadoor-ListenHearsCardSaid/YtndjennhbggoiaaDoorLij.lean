/- What must be whatever is asked, of package listen (live of layer 8). Conditions: the divisor's cells hold what the program's own text lays in them. -/
import Derived.Test.YtndjennhbggoiaaDoorLih
namespace Go.Proofs.YtndjennhbggoiaaDoor
open Go.RowKit Go.Shelf
theorem LA.at {W X : World} {B : Nat} {s : LS} {v : Value} (h : LA W B s v) (hb : Below W.heap.size W X) : LA X B s v := h.on hb
set_option maxRecDepth 100000 in
set_option maxHeartbeats 8000000 in
theorem live8 (w : World) (h0 : 0 < w.heap.size) (hT : Tab w) : Calls Tryd.prog 41 #[] w fun x w' => x = .returned (.bool true) ∧ Below w.heap.size w w' := by
  obtain ⟨E, hE⟩ : ∃ E, E = encB false 291 false 1 [10, 0, 0, 0, 0, 0, 0, 0] := ⟨_, rfl⟩
  have hd8 : ([10, 0, 0, 0, 0, 0, 0, 0] : List Nat).length = 8 := rfl
  have hb8 : ∀ x ∈ ([10, 0, 0, 0, 0, 0, 0, 0] : List Nat), x < 256 := by decide
  have hlong := enc_long f0_right
  have hev := fun i => frame_event f0_right hd8 hb8 1 (by decide) i
  have hrunE := frame_run f0_right hd8 hb8 1 (by decide)
  rw [slotB_enc, ← hE] at hev hrunE
  rw [← hE] at hlong
  obtain ⟨_, s1, _, _, _, _, hp5, hvl, hfr, hhh, _⟩ := hrunE
  have hEl : E.length = (stuffB (bodyB false 291 false 1 [10, 0, 0, 0, 0, 0, 0, 0])).length + 10 := by rw [hE]; exact encB_length
  rw [← hEl] at hhh
  obtain ⟨L, hL⟩ : ∃ L, L = E.length := ⟨_, rfl⟩
  rw [← hL] at hlong hhh hev
  have HEN := Lib.hid (show ∀ u, Calls Tryd.prog 42 #[.agg #[.bool false, .int .u32 291, .bool false, .int .i64 1, .int .u8 10, .int .u8 0, .int .u8 0, .int .u8 0, .int .u8 0, .int .u8 0, .int .u8 0, .int .u8 0]] u fun x w' => ∃ a cap, x = .returned (.slice a L cap) ∧ Ow u.heap.size w' (.slice a L cap) E ∧ Below u.heap.size u w' from fun u => (refEnc_yes false 291 (by omega) false 1 [10, 0, 0, 0, 0, 0, 0, 0] rfl (by decide) f0_right u).mono fun x w' h => by
    obtain ⟨v, rfl, ho, hb⟩ := h
    obtain ⟨a, cap, rfl⟩ := ho.shape
    rw [← hE] at ho ⊢
    rw [hL]
    exact ⟨a, cap, rfl, ho, hb⟩)
  have HEV := Lib.hid hev; have HP5 := Lib.hid hp5; have HVL := Lib.hid hvl; have HFR := Lib.hid hfr; have HHH := Lib.hid hhh; have HL := Lib.hid hL; have HG0 := Lib.hid h0; have HTT := Lib.hid hT; have HLO := Lib.hid hlong
  have heq : ∀ u : World, Sem.run Tryd.prog (Op.equalIn 9999 25 (.agg #[.int .u8 10, .int .u8 0, .int .u8 0, .int .u8 0, .int .u8 0, .int .u8 0, .int .u8 0, .int .u8 0]) (.agg #[.int .u8 10, .int .u8 0, .int .u8 0, .int .u8 0, .int .u8 0, .int .u8 0, .int .u8 0, .int .u8 0])) u = .ok true u := fun u => frame_same 9997 10 0 0 0 0 0 0 0 u
  have HFA := Lib.hid (FrameAt.new w 27 false 291 false 1 [10, 0, 0, 0, 0, 0, 0, 0] rfl)
  simp only [frameC, List.map] at HFA
  clear hev hp5 hvl hfr hhh hL h0 hT hlong hEl hE hd8 hb8
  go_enter Tryd.func41, Tryd.ntmps41
  go_wp2_with fail
  refine (lnew_any _).mono ?_
  rintro x w1 ⟨rfl, hla, hw1⟩
  obtain ⟨B1, hB1⟩ : ∃ B1, B1 = (w.alloc (.cells #[.bool false, .int .u32 291, .bool false, .int .i64 1, .int .u8 10, .int .u8 0, .int .u8 0, .int .u8 0, .int .u8 0, .int .u8 0, .int .u8 0, .int .u8 0] 27)).heap.size := ⟨_, rfl⟩
  rw [← hB1] at hla ⊢
  have hbw : Below w.heap.size w w1 := by rw [hw1]; exact ((Below.refl _ w).alloc (Nat.le_refl _) _).alloc (by simp) _
  have HB1 := Lib.hid hbw
  have HF1 := Lib.hid (show FrameAt w1 w.heap.size false 291 false 1 [10, 0, 0, 0, 0, 0, 0, 0] by rw [hw1]; exact HFA.out.more (by simp) _)
  have HLA1 := Lib.hid hla
  have HBB := Lib.hid (show w.heap.size < B1 by rw [hB1]; simp)
  clear hw1 hla hbw hB1 HFA
  obtain ⟨c0, c1, c2, c3, c4, c5, c6, c7, c8, c9, c10, c11⟩ := (HF1.out).cells
  go_wp2_with fail
  refine (HEN.out _).mono ?_
  rintro x w2 ⟨a, cap, rfl, ho, hb⟩
  have HB2 := Lib.hid (below_trans' HB1.out hb)
  have HF2 := Lib.hid (HF1.out.keep hb (by have := HLA1.out.lt; have := HBB.out; omega))
  have HLA2 := Lib.hid (HLA1.out.on hb)
  have HO2 := Lib.hid ho
  have HNB := Lib.hid (show (Value.slice a L cap).ownBlock ≠ some B1 from fun e => by have := HO2.out.ge B1 e; have := HLA1.out.lt; omega)
  clear ho hb c0 c1 c2 c3 c4 c5 c6 c7 c8 c9 c10 c11
  go_wp2_with fail
  go_loopw [4, 5] (fun z i wr => ∃ (j : Nat) (v' : Value), j ≤ L ∧ i = .int .i64 j ∧ z = .int .i64 ((if j = 0 then 0 else wantE L (j - 1) : Nat) : Int) ∧ Hr w2 B1 E j wr v') (fun _ i _ => L - (intOf i).toNat)
  case atStart => exact ⟨0, _, Nat.zero_le _, rfl, rfl, Hr.start HLA2.out⟩
  case round =>
    obtain ⟨j, v', hj, rfl, rfl, hhr⟩ := hrel
    have HHR := Lib.hid hhr; have HJ := Lib.hid hj
    obtain ⟨z, hz⟩ : ∃ z : Nat, z = (if j = 0 then 0 else wantE L (j - 1)) := ⟨_, rfl⟩
    rw [← hz]
    have HZ := Lib.hid hz
    have HOr := Lib.hid (hhr.ow HO2.out HNB.out)
    clear hhr hz hj
    by_cases hlt : j < L
    · have i1 : (j : Int) < (L : Int) := by omega
      have i2 : (0 : Int) ≤ (j : Int) := by omega
      have hw : IntKind.i64.wrap ((j : Int) + 1) = (j : Int) + 1 := by rw [IntKind.wrap_i64]; have := HLO.out.2.1; omega
      obtain ⟨bk, off, rfl, hbk, hc⟩ := HOr.out.str.at hlt
      have c0 := hc _ (Below.refl _ _)
      have HST := Lib.hid (Hr.step HHR.out (by rw [← HL.out]; exact hlt) (by rw [← HL.out]; have := HLO.out.2.1; omega) (Nat.lt_trans HG0.out HBB.out) HLA2.out.lt (HTT.out.onB HB2.out HG0.out))
      have he := HEV.out j hlt
      rw [he] at HST
      obtain ⟨y, hy⟩ : ∃ y, y = E[j]?.getD 0 := ⟨_, rfl⟩
      rw [← hy] at c0 HST
      have HLT := Lib.hid hlt
      obtain ⟨z2, hz2⟩ : ∃ z2, z2 = wantE L j := ⟨_, rfl⟩
      rw [← hz2] at HST
      have HZ2 := Lib.hid hz2
      clear hc he hy hlt hz2
      go_wp2_with fail
      refine HST.out.mono ?_
      rintro y' w3 ⟨v2, rfl, h3⟩
      have H3 := Lib.hid h3
      clear h3 c0
      go_wp2_with fail
      go_roundw
      case rel => exact ⟨j + 1, v2, HLT.out, by simp, by rw [if_neg (by omega), HZ2.out]; rfl, H3.out⟩
      case measure => have := HLT.out; simp [intOf]; omega
    · obtain rfl : j = L := by have := HJ.out; omega
      have i1 : ¬ (j : Int) < (j : Int) := by omega
      have hz5 : z = 5 := by
        rw [HZ.out, if_neg (by have := HLO.out.1; omega)]
        unfold wantE
        rw [if_pos (by have := HLO.out.1; omega)]
      have i5 : ((z : Int) == 5) = true := by rw [hz5]; rfl
      have hla : LA wr B1 (LS0.run E) v' := by
        have h := HHR.out.la
        rw [List.take_of_length_le (by rw [HL.out]; exact Nat.le_refl _)] at h
        exact h
      have HFM := Lib.hid (lframe_any B1 (LS0.run E) v' wr ⟨false, 291, false, 1, 10, 0, 0, 0, 0, 0, 0, 0, HFR.out⟩ hla)
      rw [HVL.out, HFR.out] at HFM
      simp only [frameC, List.map, if_true] at HFM
      have HLAr := Lib.hid hla
      have hge := HHR.out.ge HLA2.out.lt
      have HBr := Lib.hid (HB2.out.trans (hge.mono (by have := HBB.out; omega)))
      have HFr := Lib.hid (HF2.out.keepAt hge HBB.out)
      have HBL := Lib.hid (show B1 < wr.heap.size from hla.lt)
      clear hla hz5 hlt hge
      go_wp2_with fail
      refine HFM.out.mono ?_
      rintro x w3 ⟨rfl, hb3⟩
      have HB3 := Lib.hid (below_trans' HBr.out hb3)
      have HF3 := Lib.hid (HFr.out.keep hb3 (by have := HBB.out; have := HBL.out; omega))
      have HLA3 := Lib.hid (HLAr.out.on hb3)
      have hs3 := hb3.size
      obtain ⟨W4, hW4⟩ : ∃ W4, W4 = w3.alloc (.cells #[.bool false, .int .u32 291, .bool false, .int .i64 1, .int .u8 10, .int .u8 0, .int .u8 0, .int .u8 0, .int .u8 0, .int .u8 0, .int .u8 0, .int .u8 0] 27) := ⟨_, rfl⟩
      have ha4 : Below w3.heap.size w3 W4 := by rw [hW4]; exact (Below.refl _ _).alloc (Nat.le_refl _) _
      have HB4 := Lib.hid (below_trans' HB3.out ha4)
      have HF4 := Lib.hid (HF3.out.keep ha4 (by have := HBB.out; have := HBL.out; omega))
      have HLA4 := Lib.hid (HLA3.out.on ha4)
      have HG4 := Lib.hid (show FrameAt W4 w3.heap.size false 291 false 1 [10, 0, 0, 0, 0, 0, 0, 0] by rw [hW4]; exact FrameAt.new w3 27 false 291 false 1 [10, 0, 0, 0, 0, 0, 0, 0] rfl)
      have HSZ := Lib.hid (show w.heap.size < w3.heap.size ∧ w3.heap.size < W4.heap.size by rw [hW4]; simp; have := HBB.out; have := HBL.out; omega)
      clear hb3 ha4 hs3
      go_upto_region 10 with fail
      rw [← hW4]
      clear hW4
      obtain ⟨D, hD⟩ : ∃ D, D = w3.heap.size := ⟨_, rfl⟩
      rw [← hD] at HG4 HSZ ⊢
      clear hD
      go_wp2_with fail
      refine (lnew_any _).mono ?_
      rintro x w5 ⟨rfl, hla5, hw5⟩
      obtain ⟨B2, hB2⟩ : ∃ B2, B2 = W4.heap.size := ⟨_, rfl⟩
      rw [← hB2] at hla5 ⊢
      have ha5 : Below W4.heap.size W4 w5 := by rw [hw5]; exact (Below.refl _ _).alloc (Nat.le_refl _) _
      have HB5 := Lib.hid ha5
      have HLA5 := Lib.hid hla5
      have HB2' := Lib.hid hB2
      clear ha5 hla5 hw5 hB2
      go_wp2_with fail
      refine (lplace_any B2 LS0 _ _ HLA5.out).mono ?_
      rintro x w5' ⟨rfl, rfl⟩
      go_wp2_with fail
      have HHE := Lib.hid (hear_any B2 LS0 _ 1 (by decide) (by decide) (by decide) (by decide) (by decide) w5 (by have := HG0.out; have := HSZ.out; have := HB2'.out; omega) ((HTT.out.onB HB4.out HG0.out).onB (HB5.out) (by have := HG0.out; have := HSZ.out; omega)) HLA5.out)
      rw [show (LS0.hear 1).2 = 2 from by decide] at HHE
      refine HHE.out.mono ?_
      rintro x w6 ⟨v6, rfl, _, hk6, _⟩
      have hb6 : Below W4.heap.size W4 w6 := HB5.out.trans (by have h := hk6.below (Nat.le_of_lt HLA5.out.lt) (fun k e => by rw [own_none] at e; exact absurd e (by simp)); rw [HB2'.out] at h; exact h)
      have HB6 := Lib.hid (below_trans' HB4.out hb6)
      have HLA6 := Lib.hid (HLA4.out.on hb6)
      have HF6 := Lib.hid (HF4.out.keep hb6 (by have := HSZ.out; omega))
      have HG6 := Lib.hid (HG4.out.keep hb6 HSZ.out.2)
      clear hk6 hb6
      have HPA := Lib.hid (lplace_any B1 (LS0.run E) v' w6 HLA6.out)
      rw [HP5.out] at HPA
      have HHA := Lib.hid (lheard_any B1 (LS0.run E) v' w6 HLA6.out)
      rw [HHH.out] at HHA
      obtain ⟨c0, c1, c2, c3, c4, c5, c6, c7, c8, c9, c10, c11⟩ := (HF6.out).cells
      obtain ⟨k0, k1, k2, k3, k4, k5, k6, k7, k8, k9, k10, k11⟩ := (HG6.out).cells
      go_wp2_with fail
      refine HPA.out.mono ?_
      rintro x w7 ⟨rfl, rfl⟩
      go_wp2_with fail
      refine HHA.out.mono ?_
      rintro x w8 ⟨rfl, rfl⟩
      go_wp2_with fail
      refine (hear_nil _ 0).mono ?_
      rintro x w9 ⟨rfl, rfl⟩
      go_wp2_with fail
      refine (place_nil _).mono ?_
      rintro x w10 ⟨rfl, rfl⟩
      go_wp2_with fail
      refine (good_nil _).mono ?_
      rintro x w11 ⟨rfl, rfl⟩
      go_wp2_with fail
      refine (heard_nil _).mono ?_
      rintro x w12 ⟨rfl, rfl⟩
      go_wp2_with fail
      go_ret
      exact ⟨rfl, HB6.out⟩
end Go.Proofs.YtndjennhbggoiaaDoor
