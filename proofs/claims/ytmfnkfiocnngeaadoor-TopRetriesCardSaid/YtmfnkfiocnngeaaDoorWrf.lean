/- The document's own bits of a frame on the wire, and how many at most: what they return. Conditions: a frame has eight bytes of data. -/
import Derived.Test.YtmfnkfiocnngeaaDoorWre
namespace Go.Proofs.YtmfnkfiocnngeaaDoor
open Go.RowKit Go.Shelf
set_option maxHeartbeats 2000000 in
theorem ones_any (w : World) : Calls Tryd.prog 73 #[.int .i64 10] w fun x w' => ∃ v, x = .returned v ∧ Ow w.heap.size w' v (List.replicate 10 1) ∧ Below w.heap.size w w' := by
  obtain ⟨i0, hi, hz0, hz1, hz2⟩ := info_parts info_u8
  go_enter Tryd.func73, Tryd.ntmps73
  go_wp2_with fail
  go_loopw [3, 4] (fun v i wr => ∃ k : Nat, i = .int .i64 k ∧ k ≤ 10 ∧ Ow w.heap.size wr v (List.replicate k 1) ∧ Below w.heap.size w wr) (fun _ i _ => 10 - (intOf i).toNat)
  case atStart => exact ⟨0, rfl, by omega, Ow.nil _ _, Below.refl _ _⟩
  case round =>
    obtain ⟨k, rfl, hk, hO, hB⟩ := hrel
    have HO := Lib.hid hO; have HB := Lib.hid hB
    clear hO hB
    by_cases hlt : k < 10
    · have i1 : (k : Int) < 10 := by omega
      have hs := HB.out.size
      obtain ⟨S, hS⟩ : ∃ S, S = List.replicate k 1 := ⟨_, rfl⟩
      rw [← hS] at HO
      have hSl : S.length ≤ 10 := by rw [hS]; simp; omega
      have HS := Lib.hid hS
      clear hS
      go_wp2_with (at_builtin; refine wpList_append_own _ rfl _ _ 34 rfl w.heap.size 5 i0 (.int .u8 0) 1 1 Tryd.underlying34 hi hz0 hz1 hz2 rfl (by decide) _ _ _ rfl (HO.out.own.alloc _) ⟨_, 0, none⟩ 1 1 [.int .u8 1] rfl rfl one_cell one_flat ?c3 ?c4 ?c5 ?_)
      case c3 => unfold maxLen; omega
      case c4 => omega
      case c5 => simp; omega
      intro v2 w2 hown hgrow _
      have HO2 := Lib.hid (show Ow w.heap.size w2 v2 (List.replicate (k + 1) 1) by
        rw [List.replicate_succ', ← HS.out]
        exact Ow.snoc hown)
      have HB2 := Lib.hid ((HB.out.alloc hs _).grown hgrow (by simp; omega) HO.out.ge)
      clear hown hgrow
      go_wp2_with fail
      go_roundw
      case rel => exact ⟨k + 1, by simp, by omega, HO2.out, HB2.out⟩
      case measure => simp [intOf]; omega
    · obtain rfl : k = 10 := by omega
      go_wp2_with fail
      go_ret
      exact ⟨_, rfl, HO.out, HB.out⟩
set_option maxHeartbeats 2000000 in
theorem refEnc_no (e : Bool) (n : Nat) (r : Bool) (len : Int) (data : List Nat) (hd : data.length = 8) (hok : rightF e n r len data ≠ 0) (w : World) : Calls Tryd.prog 29 #[frameV e n r len data] w fun x w' => x = .returned (.slice none 0 0) ∧ Below w.heap.size w w' := by
  have HRI := Lib.hid (fun u => ref6Right_any e n r len data hd u)
  obtain ⟨rr, hrr⟩ : ∃ rr, rr = rightF e n r len data := ⟨_, rfl⟩
  rw [← hrr] at HRI hok
  have i1 : ((rr : Int) != 0) = true := by simp; omega
  obtain ⟨d0, d1, d2, d3, d4, d5, d6, d7, rfl⟩ := eight hd
  simp only [frameV, frameC, List.map] at HRI ⊢
  clear hd hrr hok
  go_enter Tryd.func29, Tryd.ntmps29
  go_wp2_with fail
  refine (HRI.out _).mono ?_
  rintro x w1 ⟨rfl, hb⟩
  have HB := Lib.hid (below_trans' ((Below.refl _ w).alloc (Nat.le_refl _) _) hb)
  clear hb
  go_wp2_with fail
  go_ret
  exact ⟨rfl, HB.out⟩
set_option maxHeartbeats 4000000 in
theorem refEnc_yes (e : Bool) (n : Nat) (hn : n < 4294967296) (r : Bool) (m : Nat) (data : List Nat) (hd : data.length = 8) (hdb : ∀ x ∈ data, x < 256) (hok : rightF e n r (m : Int) data = 0) (w : World) : Calls Tryd.prog 29 #[frameV e n r (m : Int) data] w fun x w' => ∃ v, x = .returned v ∧ Ow w.heap.size w' v (encB e n r m data) ∧ Below w.heap.size w w' := by
  have HRI := Lib.hid (fun u => ref6Right_any e n r (m : Int) data hd u)
  have HBO := Lib.hid (fun u => ref6Body_yes e n hn r m data hd hdb hok u)
  obtain ⟨hri, hm8, _⟩ := rightF_data hok
  have hbl := bodyB_length (r := r) (len := m) (data := data) hri
  have hbl2 : sizeN e r m ≤ 118 := by unfold sizeN; split <;> split <;> omega
  have hble := bodyB_le e n r m data
  rw [hok] at HRI
  obtain ⟨B, hB⟩ : ∃ B, B = bodyB e n r m data := ⟨_, rfl⟩
  have HE := Lib.hid (show encB e n r m data = stuffB B ++ List.replicate 10 1 by rw [hB]; rfl)
  rw [HE.out]
  rw [← hB] at HBO hbl hble
  have hB118 : B.length ≤ 118 := by omega
  have hst := (stuff_most B).2
  have HBL := Lib.hid hble
  obtain ⟨i0, hi, hz0, hz1, hz2⟩ := info_parts info_u8
  have HFA := Lib.hid (FrameAt.new w 27 e n r (m : Int) data hd)
  obtain ⟨d0, d1, d2, d3, d4, d5, d6, d7, rfl⟩ := eight hd
  simp only [frameV, frameC, List.map] at HRI HBO HFA ⊢
  clear hd hok hdb hri hm8 hB HE hbl hbl2 hble
  go_enter Tryd.func29, Tryd.ntmps29
  go_wp2_with fail
  refine (HRI.out _).mono ?_
  rintro x w1 ⟨rfl, hb⟩
  have HB1 := Lib.hid (below_trans' ((Below.refl _ w).alloc (Nat.le_refl _) _) hb)
  obtain ⟨c0, c1, c2, c3, c4, c5, c6, c7, c8, c9, c10, c11⟩ := (FrameAt.keep HFA.out hb (by simp)).cells
  clear hb
  go_wp2_with fail
  refine (HBO.out _).mono ?_
  rintro x w2 ⟨v, rfl, ho, hb⟩
  have HB2 := Lib.hid (below_trans' HB1.out hb)
  obtain ⟨va, vc, rfl⟩ := ho.shape
  have HS2 := Lib.hid ho.str
  obtain ⟨l, hl⟩ : ∃ l, l = B.length := ⟨_, rfl⟩
  rw [← hl] at HS2 ⊢
  have HL := Lib.hid hl
  clear ho hb hl c0 c1 c2 c3 c4 c5 c6 c7 c8 c9 c10 c11
  go_wp2_with fail
  refine (refStuff_any va l vc B (by omega) w2 HS2.out).mono ?_
  rintro x w3 ⟨v3, rfl, ho, hb⟩
  rw [bitsOf_self HBL.out] at ho
  have HB3 := Lib.hid (below_trans' HB2.out hb)
  have HO3 := Lib.hid (Ow.low ho (A := w.heap.size) (by have := HB2.out.size; omega))
  clear ho hb
  go_wp2_with fail
  refine (ones_any w3).mono ?_
  rintro x w4 ⟨v4, rfl, ho, hb⟩
  obtain ⟨g, cg, rfl, hcells⟩ := ho.cells (by simp)
  have HCE := Lib.hid hcells
  have HB4 := Lib.hid (below_trans' HB3.out hb)
  have HO4 := Lib.hid (HO3.out.on hb)
  rw [show (List.replicate 10 1).length = 10 from rfl]
  clear ho hb hcells
  go_wp2_with (at_builtin; refine wpList_append_own _ rfl _ _ 34 rfl w.heap.size 5 i0 (.int .u8 0) 1 1 Tryd.underlying34 hi hz0 hz1 hz2 rfl (by decide) _ _ _ rfl HO4.out.own ⟨g, 0, none⟩ 10 cg ((List.replicate 10 1).map (fun n : Nat => Value.int .u8 ((n : Nat) : Int))) rfl rfl HCE.out (flat_bytes _) ?c3 ?c4 ?c5 ?_)
  case c3 => unfold maxLen; omega
  case c4 => omega
  case c5 => exact HB4.out.size
  intro v' w5 hown2 hgrow _
  have HO := Lib.hid (show Ow w.heap.size w5 v' (stuffB B ++ List.replicate 10 1) by
    unfold Ow
    rw [List.length_append, List.map_append]
    exact hown2)
  have HB := Lib.hid (HB4.out.grown hgrow HB4.out.size HO4.out.ge)
  clear hown2 hgrow HO4 HB4 HCE
  go_wp2
  go_ret
  exact ⟨_, rfl, HO.out, HB.out⟩
end Go.Proofs.YtmfnkfiocnngeaaDoor
