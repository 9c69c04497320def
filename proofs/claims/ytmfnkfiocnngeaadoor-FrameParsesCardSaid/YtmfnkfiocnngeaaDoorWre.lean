/- The document's own body of a frame, in plain words: what it returns. Conditions: a frame has eight bytes of data. -/
import Derived.Test.YtmfnkfiocnngeaaDoorWrl
namespace Go.Proofs.YtmfnkfiocnngeaaDoor
open Go.RowKit Go.Shelf
set_option maxRecDepth 100000 in
set_option maxHeartbeats 8000000 in
theorem ref6Body_std (n : Nat) (hn : n < 4294967296) (r : Bool) (m : Nat) (data : List Nat) (hd : data.length = 8) (hdb : ∀ x ∈ data, x < 256) (hok : rightF false n r (m : Int) data = 0) (w : World) : Calls Tryd.prog 18 #[frameV false n r (m : Int) data] w fun x w' => ∃ v, x = .returned v ∧ Ow w.heap.size w' v (bodyB false n r m data) ∧ Below w.heap.size w w' := by
  have HRI := Lib.hid (fun u => ref6Right_any false n r (m : Int) data hd u)
  rw [hok] at HRI
  obtain ⟨hri, hm8, _⟩ := rightF_data hok
  have HBT := Lib.hid (fun u => refBits_any false n r hn u)
  have hil : (idBits false n r).length = 13 := by rw [idBits_length false n r hri]; rfl
  obtain ⟨I, hI⟩ : ∃ I, I = idBits false n r := ⟨_, rfl⟩
  rw [← hI] at HBT hil
  have HIL := Lib.hid hil; have HI := Lib.hid hI
  have HO4 := Lib.hid (fun u => refOf_yes m 4 (by omega) (by omega) (by omega) u)
  have hu64 : IntKind.u64.wrap (m : Int) = (m : Int) := by rw [IntKind.wrap_u64]; omega
  have HFL := Lib.hid (ofB_length m 4)
  obtain ⟨i0, hi, hz0, hz1, hz2⟩ := info_parts info_u8
  have HFA := Lib.hid (FrameAt.new w 27 false n r (m : Int) data hd)
  have HDB := Lib.hid hdb; have HD8 := Lib.hid hd
  have HBE := Lib.hid (bodyB_le false n r m data)
  obtain ⟨x0, x1, x2, x3, x4, x5, x6, x7, hX⟩ := eight hd
  have HX := Lib.hid hX
  subst hX
  simp only [frameV, frameC, List.map] at HRI HFA ⊢
  unfold identV at HBT
  clear hil hI hok hri hd hdb
  go_enter Tryd.func18, Tryd.ntmps18
  go_wp2_with fail
  refine (HRI.out _).mono ?_
  rintro x w1 ⟨rfl, hb⟩
  have HB1 := Lib.hid (below_trans' ((Below.refl _ w).alloc (Nat.le_refl _) _) hb)
  have HF1 := Lib.hid (FrameAt.keep HFA.out hb (by simp))
  have lt1 : w.heap.size < w1.heap.size := by have := hb.size; simp at this; omega
  clear hb
  obtain ⟨w2, hw2⟩ : ∃ w2, w2 = w1.alloc (.cells #[.int .u8 0] 5) := ⟨_, rfl⟩
  have HO2 := Lib.hid (show Ow (w.heap.size + 1) w2 (.slice (some ⟨w1.heap.size, 0, none⟩) 1 1) [0] by rw [hw2]; exact ow_block (L := 1) rfl (by omega) (by omega) (World.alloc_heap_new w1 _))
  have HB2 := Lib.hid (show Below w.heap.size w w2 by rw [hw2]; exact HB1.out.alloc HB1.out.size _)
  have HF2 := Lib.hid (show FrameAt w2 w.heap.size false n r (m : Int) [x0, x1, x2, x3, x4, x5, x6, x7] by rw [hw2]; exact HF1.out.more lt1 _)
  have lt2 : w.heap.size < w2.heap.size := by rw [hw2]; simp; omega
  obtain ⟨c0, c1, c2, c3, c4, c5, c6, c7, c8, c9, c10, c11⟩ := HF2.out.cells
  have HW2 := Lib.hid hw2
  rw [hw2] at c0 c1 c2 c3 c4 c5 c6 c7 c8 c9 c10 c11
  obtain ⟨P0, hP0⟩ : ∃ P0 : List Nat, P0 = [0] := ⟨_, rfl⟩
  rw [← hP0] at HO2
  have hlP0 : P0.length ≤ 1 := by rw [hP0]; exact Nat.le_refl _
  have HP0 := Lib.hid hP0
  clear hw2 hP0
  go_wp2_with fail
  rw [← HW2.out]
  refine (HBT.out w2).mono ?_
  rintro x w3 ⟨vI, rfl, hoI, hbI⟩
  obtain ⟨gI, cgI, rfl, hcI⟩ := hoI.cells (by rw [HIL.out]; omega)
  rw [HIL.out]
  have HCI := Lib.hid hcI
  have HOI := Lib.hid (HO2.out.on hbI)
  have HBI := Lib.hid (below_trans' HB2.out hbI)
  have HFI := Lib.hid (HF2.out.keep hbI lt2)
  have ltI : w.heap.size < w3.heap.size := by have := hbI.size; omega
  clear hcI hoI hbI
  go_wp2_with (at_builtin; refine wpList_append_own _ rfl _ _ 34 rfl (w.heap.size + 1) 5 i0 (.int .u8 0) 1 1 Tryd.underlying34 hi hz0 hz1 hz2 rfl (by decide) _ _ _ rfl HOI.out.own ⟨gI, 0, none⟩ 13 cgI (I.map (fun n : Nat => Value.int .u8 ((n : Nat) : Int))) rfl (by rw [List.length_map, HIL.out]) HCI.out (flat_bytes _) ?c3 ?c4 ?c5 ?_)
  case c3 => unfold maxLen; omega
  case c4 => omega
  case c5 => omega
  intro vw4 w4 hown hgrow _
  have h34 : Below (w.heap.size + 1) w3 w4 := (Below.refl _ w3).grown hgrow (by omega) HOI.out.ge
  have HO4b := Lib.hid (show Ow (w.heap.size + 1) w4 vw4 (P0 ++ I) by
    unfold Ow
    rw [List.length_append, List.map_append, HIL.out]
    exact hown)
  have HB4 := Lib.hid (HBI.out.trans (h34.mono (by omega)))
  have HF4 := Lib.hid (HFI.out.keepAt h34 (by omega))
  have lt4 : w.heap.size < w4.heap.size := by have := h34.size; omega
  obtain ⟨P1, hP1⟩ : ∃ P1, P1 = P0 ++ I := ⟨_, rfl⟩
  rw [← hP1] at HO4b
  have hlP1 : P1.length ≤ P0.length + 13 := by rw [hP1, List.length_append, HIL.out]; exact Nat.le_refl _
  have HP1 := Lib.hid hP1
  obtain ⟨c0, c1, c2, c3, c4, c5, c6, c7, c8, c9, c10, c11⟩ := HF4.out.cells
  clear hown hgrow h34 hP1 HCI HOI HBI HFI ltI
  go_wp2_with (at_builtin; refine wpList_append_own _ rfl _ _ 34 rfl (w.heap.size + 1) 5 i0 (.int .u8 0) 1 1 Tryd.underlying34 hi hz0 hz1 hz2 rfl (by decide) _ _ _ rfl (HO4b.out.own.alloc _) ⟨_, 0, none⟩ 1 1 [.int .u8 0] rfl rfl one_cell one_flat ?c3 ?c4 ?c5 ?_)
  case c3 => unfold maxLen; omega
  case c4 => omega
  case c5 => simp; omega
  intro vw5 w5 hown hgrow _
  have h34 : Below (w.heap.size + 1) w4 w5 := ((Below.refl _ w4).alloc (by omega) _).grown hgrow (by simp; omega) HO4b.out.ge
  have HO5 := Lib.hid (show Ow (w.heap.size + 1) w5 vw5 (P1 ++ [0]) from Ow.snoc hown)
  have HB5 := Lib.hid (HB4.out.trans (h34.mono (by omega)))
  have HF5 := Lib.hid (HF4.out.keepAt h34 (by omega))
  have lt5 : w.heap.size < w5.heap.size := by have := h34.size; omega
  obtain ⟨P2, hP2⟩ : ∃ P2, P2 = P1 ++ [0] := ⟨_, rfl⟩
  rw [← hP2] at HO5
  have hlP2 : P2.length ≤ P1.length + 1 := by rw [hP2]; simp
  have HP2 := Lib.hid hP2
  obtain ⟨c0, c1, c2, c3, c4, c5, c6, c7, c8, c9, c10, c11⟩ := HF5.out.cells
  clear hown hgrow h34 hP2
  go_wp2_with fail
  refine (HO4.out w5).mono ?_
  rintro x w7 ⟨vI, rfl, hoI, hbI⟩
  obtain ⟨gI, cgI, rfl, hcI⟩ := hoI.cells (by rw [HFL.out]; omega)
  rw [HFL.out]
  have HCI := Lib.hid hcI
  have HOI := Lib.hid (HO5.out.on hbI)
  have HBI := Lib.hid (below_trans' HB5.out hbI)
  have HFI := Lib.hid (HF5.out.keep hbI lt5)
  have ltI : w.heap.size < w7.heap.size := by have := hbI.size; omega
  clear hcI hoI hbI
  go_wp2_with (at_builtin; refine wpList_append_own _ rfl _ _ 34 rfl (w.heap.size + 1) 5 i0 (.int .u8 0) 1 1 Tryd.underlying34 hi hz0 hz1 hz2 rfl (by decide) _ _ _ rfl HOI.out.own ⟨gI, 0, none⟩ 4 cgI ((ofB m 4).map (fun n : Nat => Value.int .u8 ((n : Nat) : Int))) rfl (by rw [List.length_map, HFL.out]) HCI.out (flat_bytes _) ?c3 ?c4 ?c5 ?_)
  case c3 => unfold maxLen; omega
  case c4 => omega
  case c5 => omega
  intro vw8 w8 hown hgrow _
  have h34 : Below (w.heap.size + 1) w7 w8 := (Below.refl _ w7).grown hgrow (by omega) HOI.out.ge
  have HO8 := Lib.hid (show Ow (w.heap.size + 1) w8 vw8 (P2 ++ (ofB m 4)) by
    unfold Ow
    rw [List.length_append, List.map_append, HFL.out]
    exact hown)
  have HB8 := Lib.hid (HBI.out.trans (h34.mono (by omega)))
  have HF8 := Lib.hid (HFI.out.keepAt h34 (by omega))
  have lt8 : w.heap.size < w8.heap.size := by have := h34.size; omega
  obtain ⟨P4, hP4⟩ : ∃ P4, P4 = P2 ++ (ofB m 4) := ⟨_, rfl⟩
  rw [← hP4] at HO8
  have hlP4 : P4.length ≤ P2.length + 4 := by rw [hP4, List.length_append, HFL.out]; exact Nat.le_refl _
  have HP4 := Lib.hid hP4
  obtain ⟨c0, c1, c2, c3, c4, c5, c6, c7, c8, c9, c10, c11⟩ := HF8.out.cells
  clear hown hgrow h34 hP4 HCI HOI HBI HFI ltI
  go_wp2_with fail
  go_loopw [3, 4] (fun v i wr => ∃ k : Nat, i = .int .i64 k ∧ k ≤ m ∧ (r = true → k = 0) ∧ Ow (w.heap.size + 1) wr v (P4 ++ dataBits [x0, x1, x2, x3, x4, x5, x6, x7] k) ∧ FrameAt wr w.heap.size false n r (m : Int) [x0, x1, x2, x3, x4, x5, x6, x7] ∧ Below w.heap.size w wr ∧ w.heap.size < wr.heap.size) (fun _ i _ => m - (intOf i).toNat)
  case atStart => exact ⟨0, rfl, Nat.zero_le _, fun _ => rfl, by rw [show dataBits [x0, x1, x2, x3, x4, x5, x6, x7] 0 = [] from rfl, List.append_nil]; exact HO8.out, HF8.out, HB8.out, lt8⟩
  case round =>
    clear c0 c1 c2 c3 c4 c5 c6 c7 c8 c9 c10 c11
    obtain ⟨k, rfl, hk, hrk, hO, hF, hB, hlt⟩ := hrel
    have HO := Lib.hid hO; have HF := Lib.hid hF; have HB := Lib.hid hB
    have c2 := hF.c2; have c3 := hF.c3
    have hdk := dataBits_length [x0, x1, x2, x3, x4, x5, x6, x7] k
    have hlD : (P4 ++ dataBits [x0, x1, x2, x3, x4, x5, x6, x7] k).length ≤ 118 := by rw [List.length_append, hdk]; omega
    obtain ⟨Q, hQ⟩ : ∃ Q, Q = P4 ++ dataBits [x0, x1, x2, x3, x4, x5, x6, x7] k := ⟨_, rfl⟩
    rw [← hQ] at HO hlD
    have HQ := Lib.hid hQ
    clear hO hF hB hdk hQ
    by_cases hgo : k < m ∧ r = false
    · obtain ⟨hkm, rfl⟩ := hgo
      have i1 : (k : Int) < (m : Int) := by omega
      have i2 : (0 : Int) ≤ (k : Int) := by omega
      have i3 : (k : Int) < 8 := by omega
      have c4 := HF.out.cd k (by omega)
      obtain ⟨y, hy⟩ : ∃ y, y = [x0, x1, x2, x3, x4, x5, x6, x7][k]?.getD 0 := ⟨_, rfl⟩
      rw [← hy] at c4
      have hy256 : y < 256 := by
        rw [hy, List.getElem?_eq_getElem (by simp; omega)]
        exact HDB.out _ (List.getElem_mem _)
      have hyw : IntKind.u64.wrap (y : Int) = (y : Int) := by rw [IntKind.wrap_u64]; omega
      have HY := Lib.hid (fun u => refOf_yes y 8 (by omega) (by omega) (by omega) u)
      have HYL := Lib.hid (ofB_length y 8)
      have HYE := Lib.hid (show P4 ++ dataBits [x0, x1, x2, x3, x4, x5, x6, x7] (k + 1) = Q ++ ofB y 8 by
        rw [HQ.out, hy, List.append_assoc]
        rfl)
      clear hy hrk
      go_wp2_with fail
      refine (HY.out wr).mono ?_
      rintro x wm ⟨vI, rfl, hoI, hbI⟩
      obtain ⟨gI, cgI, rfl, hcI⟩ := hoI.cells (by rw [HYL.out]; omega)
      rw [HYL.out]
      have HCI := Lib.hid hcI
      have HOI := Lib.hid (HO.out.on hbI)
      have HBI := Lib.hid (below_trans' HB.out hbI)
      have HFI := Lib.hid (HF.out.keep hbI hlt)
      have ltI : w.heap.size < wm.heap.size := by have := hbI.size; omega
      clear hcI hoI hbI
      go_wp2_with (at_builtin; refine wpList_append_own _ rfl _ _ 34 rfl (w.heap.size + 1) 5 i0 (.int .u8 0) 1 1 Tryd.underlying34 hi hz0 hz1 hz2 rfl (by decide) _ _ _ rfl HOI.out.own ⟨gI, 0, none⟩ 8 cgI ((ofB y 8).map (fun n : Nat => Value.int .u8 ((n : Nat) : Int))) rfl (by rw [List.length_map, HYL.out]) HCI.out (flat_bytes _) ?c3 ?c4 ?c5 ?_)
      case c3 => unfold maxLen; omega
      case c4 => omega
      case c5 => omega
      intro vwn wn hown hgrow _
      have h34 : Below (w.heap.size + 1) wm wn := (Below.refl _ wm).grown hgrow (by omega) HOI.out.ge
      have HOn := Lib.hid (show Ow (w.heap.size + 1) wn vwn (Q ++ (ofB y 8)) by
        unfold Ow
        rw [List.length_append, List.map_append, HYL.out]
        exact hown)
      have HBn := Lib.hid (HBI.out.trans (h34.mono (by omega)))
      have HFn := Lib.hid (HFI.out.keepAt h34 (by omega))
      have ltn : w.heap.size < wn.heap.size := by have := h34.size; omega
      obtain ⟨Q2, hQ2⟩ : ∃ Q2, Q2 = Q ++ (ofB y 8) := ⟨_, rfl⟩
      rw [← hQ2] at HOn
      have hlQ2 : Q2.length ≤ Q.length + 8 := by rw [hQ2, List.length_append, HYL.out]; exact Nat.le_refl _
      have HQ2 := Lib.hid hQ2
      obtain ⟨c0, c1, c2, c3, c4, c5, c6, c7, c8, c9, c10, c11⟩ := HFn.out.cells
      clear hown hgrow h34 hQ2 HCI HOI HBI HFI ltI
      go_wp2_with fail
      go_roundw
      case rel => exact ⟨k + 1, by simp, by omega, fun h => absurd h (by decide), by rw [HYE.out, ← HQ2.out]; exact HOn.out, HFn.out, HBn.out, ltn⟩
      case measure => simp [intOf]; omega
    · have hend : dataBits [x0, x1, x2, x3, x4, x5, x6, x7] k = if r then [] else dataBits [x0, x1, x2, x3, x4, x5, x6, x7] m := by
        cases r
        · obtain rfl : k = m := by
            by_cases h : k < m
            · exact absurd ⟨h, rfl⟩ hgo
            · omega
          rfl
        · rw [hrk rfl]; rfl
      have HEND := Lib.hid hend
      have HS := Lib.hid HO.out.str
      have hh : bitsOf Q ++ ofB (crcOf (bitsOf Q) 0) 15 = bodyB false n r m [x0, x1, x2, x3, x4, x5, x6, x7] := by
        have h1 : Q = headB false n r m [x0, x1, x2, x3, x4, x5, x6, x7] := by
          unfold headB
          rw [HQ.out, HEND.out, HP4.out, HP2.out, HP1.out, HP0.out, HI.out]
          simp
        have h2 : bitsOf Q = Q := bitsOf_self (by rw [h1]; exact headB_le _ _ _ _ _)
        rw [h2, h1]
        rfl
      obtain ⟨va, vc, rfl⟩ := HO.out.shape
      have HSE := Lib.hid (refSeal_any va Q.length vc Q (by omega) wr HS.out)
      rw [hh] at HSE
      clear hend hh hgo
      have hcase : (¬ (k : Int) < (m : Int)) ∨ ((k : Int) < (m : Int) ∧ r = true) := by
        by_cases h : k < m
        · right
          refine ⟨by omega, ?_⟩
          cases r
          · have := HEND.out
            have h2 := congrArg List.length this
            rw [if_neg (by decide), dataBits_length, dataBits_length] at h2
            omega
          · rfl
        · exact .inl (by omega)
      rcases hcase with i1 | ⟨i1, rfl⟩
      all_goals
        go_wp2_with fail
        refine HSE.out.mono ?_
        rintro x w9 ⟨v9, rfl, ho9, hb9⟩
        have HB9 := Lib.hid (below_trans' HB.out hb9)
        have HO9 := Lib.hid (Ow.low ho9 HB.out.size)
        clear hb9 ho9
        go_wp2_with fail
        go_ret
        exact ⟨_, rfl, HO9.out, HB9.out⟩
set_option maxRecDepth 100000 in
set_option maxHeartbeats 8000000 in
theorem ref6Body_ext (n : Nat) (hn : n < 4294967296) (r : Bool) (m : Nat) (data : List Nat) (hd : data.length = 8) (hdb : ∀ x ∈ data, x < 256) (hok : rightF true n r (m : Int) data = 0) (w : World) : Calls Tryd.prog 18 #[frameV true n r (m : Int) data] w fun x w' => ∃ v, x = .returned v ∧ Ow w.heap.size w' v (bodyB true n r m data) ∧ Below w.heap.size w w' := by
  have HRI := Lib.hid (fun u => ref6Right_any true n r (m : Int) data hd u)
  rw [hok] at HRI
  obtain ⟨hri, hm8, _⟩ := rightF_data hok
  have HBT := Lib.hid (fun u => refBits_any true n r hn u)
  have hil : (idBits true n r).length = 32 := by rw [idBits_length true n r hri]; rfl
  obtain ⟨I, hI⟩ : ∃ I, I = idBits true n r := ⟨_, rfl⟩
  rw [← hI] at HBT hil
  have HIL := Lib.hid hil; have HI := Lib.hid hI
  have HO4 := Lib.hid (fun u => refOf_yes m 4 (by omega) (by omega) (by omega) u)
  have hu64 : IntKind.u64.wrap (m : Int) = (m : Int) := by rw [IntKind.wrap_u64]; omega
  have HFL := Lib.hid (ofB_length m 4)
  obtain ⟨i0, hi, hz0, hz1, hz2⟩ := info_parts info_u8
  have HFA := Lib.hid (FrameAt.new w 27 true n r (m : Int) data hd)
  have HDB := Lib.hid hdb; have HD8 := Lib.hid hd
  have HBE := Lib.hid (bodyB_le true n r m data)
  obtain ⟨x0, x1, x2, x3, x4, x5, x6, x7, hX⟩ := eight hd
  have HX := Lib.hid hX
  subst hX
  simp only [frameV, frameC, List.map] at HRI HFA ⊢
  unfold identV at HBT
  clear hil hI hok hri hd hdb
  go_enter Tryd.func18, Tryd.ntmps18
  go_wp2_with fail
  refine (HRI.out _).mono ?_
  rintro x w1 ⟨rfl, hb⟩
  have HB1 := Lib.hid (below_trans' ((Below.refl _ w).alloc (Nat.le_refl _) _) hb)
  have HF1 := Lib.hid (FrameAt.keep HFA.out hb (by simp))
  have lt1 : w.heap.size < w1.heap.size := by have := hb.size; simp at this; omega
  clear hb
  obtain ⟨w2, hw2⟩ : ∃ w2, w2 = w1.alloc (.cells #[.int .u8 0] 5) := ⟨_, rfl⟩
  have HO2 := Lib.hid (show Ow (w.heap.size + 1) w2 (.slice (some ⟨w1.heap.size, 0, none⟩) 1 1) [0] by rw [hw2]; exact ow_block (L := 1) rfl (by omega) (by omega) (World.alloc_heap_new w1 _))
  have HB2 := Lib.hid (show Below w.heap.size w w2 by rw [hw2]; exact HB1.out.alloc HB1.out.size _)
  have HF2 := Lib.hid (show FrameAt w2 w.heap.size true n r (m : Int) [x0, x1, x2, x3, x4, x5, x6, x7] by rw [hw2]; exact HF1.out.more lt1 _)
  have lt2 : w.heap.size < w2.heap.size := by rw [hw2]; simp; omega
  obtain ⟨c0, c1, c2, c3, c4, c5, c6, c7, c8, c9, c10, c11⟩ := HF2.out.cells
  have HW2 := Lib.hid hw2
  rw [hw2] at c0 c1 c2 c3 c4 c5 c6 c7 c8 c9 c10 c11
  obtain ⟨P0, hP0⟩ : ∃ P0 : List Nat, P0 = [0] := ⟨_, rfl⟩
  rw [← hP0] at HO2
  have hlP0 : P0.length ≤ 1 := by rw [hP0]; exact Nat.le_refl _
  have HP0 := Lib.hid hP0
  clear hw2 hP0
  go_wp2_with fail
  rw [← HW2.out]
  refine (HBT.out w2).mono ?_
  rintro x w3 ⟨vI, rfl, hoI, hbI⟩
  obtain ⟨gI, cgI, rfl, hcI⟩ := hoI.cells (by rw [HIL.out]; omega)
  rw [HIL.out]
  have HCI := Lib.hid hcI
  have HOI := Lib.hid (HO2.out.on hbI)
  have HBI := Lib.hid (below_trans' HB2.out hbI)
  have HFI := Lib.hid (HF2.out.keep hbI lt2)
  have ltI : w.heap.size < w3.heap.size := by have := hbI.size; omega
  clear hcI hoI hbI
  go_wp2_with (at_builtin; refine wpList_append_own _ rfl _ _ 34 rfl (w.heap.size + 1) 5 i0 (.int .u8 0) 1 1 Tryd.underlying34 hi hz0 hz1 hz2 rfl (by decide) _ _ _ rfl HOI.out.own ⟨gI, 0, none⟩ 32 cgI (I.map (fun n : Nat => Value.int .u8 ((n : Nat) : Int))) rfl (by rw [List.length_map, HIL.out]) HCI.out (flat_bytes _) ?c3 ?c4 ?c5 ?_)
  case c3 => unfold maxLen; omega
  case c4 => omega
  case c5 => omega
  intro vw4 w4 hown hgrow _
  have h34 : Below (w.heap.size + 1) w3 w4 := (Below.refl _ w3).grown hgrow (by omega) HOI.out.ge
  have HO4b := Lib.hid (show Ow (w.heap.size + 1) w4 vw4 (P0 ++ I) by
    unfold Ow
    rw [List.length_append, List.map_append, HIL.out]
    exact hown)
  have HB4 := Lib.hid (HBI.out.trans (h34.mono (by omega)))
  have HF4 := Lib.hid (HFI.out.keepAt h34 (by omega))
  have lt4 : w.heap.size < w4.heap.size := by have := h34.size; omega
  obtain ⟨P1, hP1⟩ : ∃ P1, P1 = P0 ++ I := ⟨_, rfl⟩
  rw [← hP1] at HO4b
  have hlP1 : P1.length ≤ P0.length + 32 := by rw [hP1, List.length_append, HIL.out]; exact Nat.le_refl _
  have HP1 := Lib.hid hP1
  obtain ⟨c0, c1, c2, c3, c4, c5, c6, c7, c8, c9, c10, c11⟩ := HF4.out.cells
  clear hown hgrow h34 hP1 HCI HOI HBI HFI ltI
  go_wp2_with (at_builtin; refine wpList_append_own _ rfl _ _ 34 rfl (w.heap.size + 1) 5 i0 (.int .u8 0) 1 1 Tryd.underlying34 hi hz0 hz1 hz2 rfl (by decide) _ _ _ rfl (HO4b.out.own.alloc _) ⟨_, 0, none⟩ 1 1 [.int .u8 0] rfl rfl one_cell one_flat ?c3 ?c4 ?c5 ?_)
  case c3 => unfold maxLen; omega
  case c4 => omega
  case c5 => simp; omega
  intro vw5 w5 hown hgrow _
  have h34 : Below (w.heap.size + 1) w4 w5 := ((Below.refl _ w4).alloc (by omega) _).grown hgrow (by simp; omega) HO4b.out.ge
  have HO5 := Lib.hid (show Ow (w.heap.size + 1) w5 vw5 (P1 ++ [0]) from Ow.snoc hown)
  have HB5 := Lib.hid (HB4.out.trans (h34.mono (by omega)))
  have HF5 := Lib.hid (HF4.out.keepAt h34 (by omega))
  have lt5 : w.heap.size < w5.heap.size := by have := h34.size; omega
  obtain ⟨P2, hP2⟩ : ∃ P2, P2 = P1 ++ [0] := ⟨_, rfl⟩
  rw [← hP2] at HO5
  have hlP2 : P2.length ≤ P1.length + 1 := by rw [hP2]; simp
  have HP2 := Lib.hid hP2
  obtain ⟨c0, c1, c2, c3, c4, c5, c6, c7, c8, c9, c10, c11⟩ := HF5.out.cells
  clear hown hgrow h34 hP2
  go_wp2_with (at_builtin; refine wpList_append_own _ rfl _ _ 34 rfl (w.heap.size + 1) 5 i0 (.int .u8 0) 1 1 Tryd.underlying34 hi hz0 hz1 hz2 rfl (by decide) _ _ _ rfl (HO5.out.own.alloc _) ⟨_, 0, none⟩ 1 1 [.int .u8 0] rfl rfl one_cell one_flat ?c3 ?c4 ?c5 ?_)
  case c3 => unfold maxLen; omega
  case c4 => omega
  case c5 => simp; omega
  intro vw6 w6 hown hgrow _
  have h34 : Below (w.heap.size + 1) w5 w6 := ((Below.refl _ w5).alloc (by omega) _).grown hgrow (by simp; omega) HO5.out.ge
  have HO6 := Lib.hid (show Ow (w.heap.size + 1) w6 vw6 (P2 ++ [0]) from Ow.snoc hown)
  have HB6 := Lib.hid (HB5.out.trans (h34.mono (by omega)))
  have HF6 := Lib.hid (HF5.out.keepAt h34 (by omega))
  have lt6 : w.heap.size < w6.heap.size := by have := h34.size; omega
  obtain ⟨P3, hP3⟩ : ∃ P3, P3 = P2 ++ [0] := ⟨_, rfl⟩
  rw [← hP3] at HO6
  have hlP3 : P3.length ≤ P2.length + 1 := by rw [hP3]; simp
  have HP3 := Lib.hid hP3
  obtain ⟨c0, c1, c2, c3, c4, c5, c6, c7, c8, c9, c10, c11⟩ := HF6.out.cells
  clear hown hgrow h34 hP3
  go_wp2_with fail
  refine (HO4.out w6).mono ?_
  rintro x w7 ⟨vI, rfl, hoI, hbI⟩
  obtain ⟨gI, cgI, rfl, hcI⟩ := hoI.cells (by rw [HFL.out]; omega)
  rw [HFL.out]
  have HCI := Lib.hid hcI
  have HOI := Lib.hid (HO6.out.on hbI)
  have HBI := Lib.hid (below_trans' HB6.out hbI)
  have HFI := Lib.hid (HF6.out.keep hbI lt6)
  have ltI : w.heap.size < w7.heap.size := by have := hbI.size; omega
  clear hcI hoI hbI
  go_wp2_with (at_builtin; refine wpList_append_own _ rfl _ _ 34 rfl (w.heap.size + 1) 5 i0 (.int .u8 0) 1 1 Tryd.underlying34 hi hz0 hz1 hz2 rfl (by decide) _ _ _ rfl HOI.out.own ⟨gI, 0, none⟩ 4 cgI ((ofB m 4).map (fun n : Nat => Value.int .u8 ((n : Nat) : Int))) rfl (by rw [List.length_map, HFL.out]) HCI.out (flat_bytes _) ?c3 ?c4 ?c5 ?_)
  case c3 => unfold maxLen; omega
  case c4 => omega
  case c5 => omega
  intro vw8 w8 hown hgrow _
  have h34 : Below (w.heap.size + 1) w7 w8 := (Below.refl _ w7).grown hgrow (by omega) HOI.out.ge
  have HO8 := Lib.hid (show Ow (w.heap.size + 1) w8 vw8 (P3 ++ (ofB m 4)) by
    unfold Ow
    rw [List.length_append, List.map_append, HFL.out]
    exact hown)
  have HB8 := Lib.hid (HBI.out.trans (h34.mono (by omega)))
  have HF8 := Lib.hid (HFI.out.keepAt h34 (by omega))
  have lt8 : w.heap.size < w8.heap.size := by have := h34.size; omega
  obtain ⟨P4, hP4⟩ : ∃ P4, P4 = P3 ++ (ofB m 4) := ⟨_, rfl⟩
  rw [← hP4] at HO8
  have hlP4 : P4.length ≤ P3.length + 4 := by rw [hP4, List.length_append, HFL.out]; exact Nat.le_refl _
  have HP4 := Lib.hid hP4
  obtain ⟨c0, c1, c2, c3, c4, c5, c6, c7, c8, c9, c10, c11⟩ := HF8.out.cells
  clear hown hgrow h34 hP4 HCI HOI HBI HFI ltI
  go_wp2_with fail
  go_loopw [3, 4] (fun v i wr => ∃ k : Nat, i = .int .i64 k ∧ k ≤ m ∧ (r = true → k = 0) ∧ Ow (w.heap.size + 1) wr v (P4 ++ dataBits [x0, x1, x2, x3, x4, x5, x6, x7] k) ∧ FrameAt wr w.heap.size true n r (m : Int) [x0, x1, x2, x3, x4, x5, x6, x7] ∧ Below w.heap.size w wr ∧ w.heap.size < wr.heap.size) (fun _ i _ => m - (intOf i).toNat)
  case atStart => exact ⟨0, rfl, Nat.zero_le _, fun _ => rfl, by rw [show dataBits [x0, x1, x2, x3, x4, x5, x6, x7] 0 = [] from rfl, List.append_nil]; exact HO8.out, HF8.out, HB8.out, lt8⟩
  case round =>
    clear c0 c1 c2 c3 c4 c5 c6 c7 c8 c9 c10 c11
    obtain ⟨k, rfl, hk, hrk, hO, hF, hB, hlt⟩ := hrel
    have HO := Lib.hid hO; have HF := Lib.hid hF; have HB := Lib.hid hB
    have c2 := hF.c2; have c3 := hF.c3
    have hdk := dataBits_length [x0, x1, x2, x3, x4, x5, x6, x7] k
    have hlD : (P4 ++ dataBits [x0, x1, x2, x3, x4, x5, x6, x7] k).length ≤ 118 := by rw [List.length_append, hdk]; omega
    obtain ⟨Q, hQ⟩ : ∃ Q, Q = P4 ++ dataBits [x0, x1, x2, x3, x4, x5, x6, x7] k := ⟨_, rfl⟩
    rw [← hQ] at HO hlD
    have HQ := Lib.hid hQ
    clear hO hF hB hdk hQ
    by_cases hgo : k < m ∧ r = false
    · obtain ⟨hkm, rfl⟩ := hgo
      have i1 : (k : Int) < (m : Int) := by omega
      have i2 : (0 : Int) ≤ (k : Int) := by omega
      have i3 : (k : Int) < 8 := by omega
      have c4 := HF.out.cd k (by omega)
      obtain ⟨y, hy⟩ : ∃ y, y = [x0, x1, x2, x3, x4, x5, x6, x7][k]?.getD 0 := ⟨_, rfl⟩
      rw [← hy] at c4
      have hy256 : y < 256 := by
        rw [hy, List.getElem?_eq_getElem (by simp; omega)]
        exact HDB.out _ (List.getElem_mem _)
      have hyw : IntKind.u64.wrap (y : Int) = (y : Int) := by rw [IntKind.wrap_u64]; omega
      have HY := Lib.hid (fun u => refOf_yes y 8 (by omega) (by omega) (by omega) u)
      have HYL := Lib.hid (ofB_length y 8)
      have HYE := Lib.hid (show P4 ++ dataBits [x0, x1, x2, x3, x4, x5, x6, x7] (k + 1) = Q ++ ofB y 8 by
        rw [HQ.out, hy, List.append_assoc]
        rfl)
      clear hy hrk
      go_wp2_with fail
      refine (HY.out wr).mono ?_
      rintro x wm ⟨vI, rfl, hoI, hbI⟩
      obtain ⟨gI, cgI, rfl, hcI⟩ := hoI.cells (by rw [HYL.out]; omega)
      rw [HYL.out]
      have HCI := Lib.hid hcI
      have HOI := Lib.hid (HO.out.on hbI)
      have HBI := Lib.hid (below_trans' HB.out hbI)
      have HFI := Lib.hid (HF.out.keep hbI hlt)
      have ltI : w.heap.size < wm.heap.size := by have := hbI.size; omega
      clear hcI hoI hbI
      go_wp2_with (at_builtin; refine wpList_append_own _ rfl _ _ 34 rfl (w.heap.size + 1) 5 i0 (.int .u8 0) 1 1 Tryd.underlying34 hi hz0 hz1 hz2 rfl (by decide) _ _ _ rfl HOI.out.own ⟨gI, 0, none⟩ 8 cgI ((ofB y 8).map (fun n : Nat => Value.int .u8 ((n : Nat) : Int))) rfl (by rw [List.length_map, HYL.out]) HCI.out (flat_bytes _) ?c3 ?c4 ?c5 ?_)
      case c3 => unfold maxLen; omega
      case c4 => omega
      case c5 => omega
      intro vwn wn hown hgrow _
      have h34 : Below (w.heap.size + 1) wm wn := (Below.refl _ wm).grown hgrow (by omega) HOI.out.ge
      have HOn := Lib.hid (show Ow (w.heap.size + 1) wn vwn (Q ++ (ofB y 8)) by
        unfold Ow
        rw [List.length_append, List.map_append, HYL.out]
        exact hown)
      have HBn := Lib.hid (HBI.out.trans (h34.mono (by omega)))
      have HFn := Lib.hid (HFI.out.keepAt h34 (by omega))
      have ltn : w.heap.size < wn.heap.size := by have := h34.size; omega
      obtain ⟨Q2, hQ2⟩ : ∃ Q2, Q2 = Q ++ (ofB y 8) := ⟨_, rfl⟩
      rw [← hQ2] at HOn
      have hlQ2 : Q2.length ≤ Q.length + 8 := by rw [hQ2, List.length_append, HYL.out]; exact Nat.le_refl _
      have HQ2 := Lib.hid hQ2
      obtain ⟨c0, c1, c2, c3, c4, c5, c6, c7, c8, c9, c10, c11⟩ := HFn.out.cells
      clear hown hgrow h34 hQ2 HCI HOI HBI HFI ltI
      go_wp2_with fail
      go_roundw
      case rel => exact ⟨k + 1, by simp, by omega, fun h => absurd h (by decide), by rw [HYE.out, ← HQ2.out]; exact HOn.out, HFn.out, HBn.out, ltn⟩
      case measure => simp [intOf]; omega
    · have hend : dataBits [x0, x1, x2, x3, x4, x5, x6, x7] k = if r then [] else dataBits [x0, x1, x2, x3, x4, x5, x6, x7] m := by
        cases r
        · obtain rfl : k = m := by
            by_cases h : k < m
            · exact absurd ⟨h, rfl⟩ hgo
            · omega
          rfl
        · rw [hrk rfl]; rfl
      have HEND := Lib.hid hend
      have HS := Lib.hid HO.out.str
      have hh : bitsOf Q ++ ofB (crcOf (bitsOf Q) 0) 15 = bodyB true n r m [x0, x1, x2, x3, x4, x5, x6, x7] := by
        have h1 : Q = headB true n r m [x0, x1, x2, x3, x4, x5, x6, x7] := by
          unfold headB
          rw [HQ.out, HEND.out, HP4.out, HP3.out, HP2.out, HP1.out, HP0.out, HI.out]
          simp
        have h2 : bitsOf Q = Q := bitsOf_self (by rw [h1]; exact headB_le _ _ _ _ _)
        rw [h2, h1]
        rfl
      obtain ⟨va, vc, rfl⟩ := HO.out.shape
      have HSE := Lib.hid (refSeal_any va Q.length vc Q (by omega) wr HS.out)
      rw [hh] at HSE
      clear hend hh hgo
      have hcase : (¬ (k : Int) < (m : Int)) ∨ ((k : Int) < (m : Int) ∧ r = true) := by
        by_cases h : k < m
        · right
          refine ⟨by omega, ?_⟩
          cases r
          · have := HEND.out
            have h2 := congrArg List.length this
            rw [if_neg (by decide), dataBits_length, dataBits_length] at h2
            omega
          · rfl
        · exact .inl (by omega)
      rcases hcase with i1 | ⟨i1, rfl⟩
      all_goals
        go_wp2_with fail
        refine HSE.out.mono ?_
        rintro x w9 ⟨v9, rfl, ho9, hb9⟩
        have HB9 := Lib.hid (below_trans' HB.out hb9)
        have HO9 := Lib.hid (Ow.low ho9 HB.out.size)
        clear hb9 ho9
        go_wp2_with fail
        go_ret
        exact ⟨_, rfl, HO9.out, HB9.out⟩
theorem ref6Body_yes (e : Bool) (n : Nat) (hn : n < 4294967296) (r : Bool) (m : Nat) (data : List Nat) (hd : data.length = 8) (hdb : ∀ x ∈ data, x < 256) (hok : rightF e n r (m : Int) data = 0) (w : World) : Calls Tryd.prog 18 #[frameV e n r (m : Int) data] w fun x w' => ∃ v, x = .returned v ∧ Ow w.heap.size w' v (bodyB e n r m data) ∧ Below w.heap.size w w' := by
  cases e
  · exact ref6Body_std n hn r m data hd hdb hok w
  · exact ref6Body_ext n hn r m data hd hdb hok w
end Go.Proofs.YtmfnkfiocnngeaaDoor
