/- What must be of package wire whatever is asked. No conditions. -/
import Derived.Test.YtndjennhbggoiaaDoorWrd
namespace Go.Proofs.YtndjennhbggoiaaDoor
open Go.RowKit Go.Shelf
/-- A frame that is on the wire is read, whatever the slot has, and whatever stands behind. -/
theorem dcV_back {e : Bool} {n : Nat} {r : Bool} {m : Nat} {data : List Nat} (h : rightF e n r (m : Int) data = 0) (hd : data.length = 8) (hb : ∀ x ∈ data, x < 256) (x : Nat) (q : List Nat) : dcV (stuffB (bodyB e n r m data) ++ (1 :: x :: 1 :: 1 :: 1 :: 1 :: 1 :: 1 :: 1 :: 1 :: q)) = .tuple #[frameV e n r (m : Int) data, .int .i64 ((encB e n r m data).length : Nat), .int .i64 0] := by
  obtain ⟨hri, hm, _⟩ := rightF_data h
  have hp := parse_body h hd hb []
  rw [List.append_nil] at hp
  rw [dcV, dec_back hri hm]
  show Value.tuple #[frOf (if (0 : Nat) = 0 then parseB (bodyB e n r m data) else .error 0), .int .i64 ((encB e n r m data).length : Nat), .int .i64 ((0 : Nat) : Int)] = _
  rw [if_pos rfl, hp]
  rfl
theorem stuff_le (l : List Nat) (hb : ∀ x ∈ l, x ≤ 1) : ∀ y ∈ stuffB l, y ≤ 1 := by
  obtain ⟨k, hk⟩ : ∃ k, l.length = k := ⟨_, rfl⟩
  induction k generalizing l with
  | zero =>
    obtain rfl := List.length_eq_zero_iff.1 hk
    intro y hy
    cases hy
  | succ k ih =>
    rcases List.eq_nil_or_concat l with rfl | ⟨l', b, rfl⟩
    · cases hk
    · rw [List.concat_eq_append] at hk hb ⊢
      have hb1 : b ≤ 1 := hb b (by simp)
      have h' := ih l' (fun x hx => hb x (by simp [hx])) (by simpa using hk)
      intro y hy
      unfold stuffB at hy h'
      rw [sFold_snoc] at hy
      unfold sStep at hy
      split at hy
      · rcases List.mem_append.1 hy with hy | hy
        · rcases List.mem_append.1 hy with hy | hy
          · exact h' y hy
          · obtain rfl : y = b := by simpa using hy
            exact hb1
        · obtain rfl : y = 1 - b := by simpa using hy
          omega
      · rcases List.mem_append.1 hy with hy | hy
        · exact h' y hy
        · obtain rfl : y = b := by simpa using hy
          exact hb1
theorem enc_bits (e : Bool) (n : Nat) (r : Bool) (m : Nat) (data : List Nat) : ∀ y ∈ encB e n r m data, y ≤ 1 := by
  intro y hy
  unfold encB at hy
  rcases List.mem_append.mp hy with h | h
  · exact stuff_le _ (bodyB_le e n r m data) y h
  · rw [List.eq_of_mem_replicate h]; exact Nat.le_refl _
theorem enc_long {e : Bool} {n : Nat} {r : Bool} {m : Nat} {data : List Nat} (h : rightF e n r (m : Int) data = 0) : 44 ≤ (encB e n r m data).length ∧ (encB e n r m data).length ≤ 160 ∧ ((encB e n r m data).length : Int) ≤ mostF e (m : Int) := by
  obtain ⟨hri, hm, _⟩ := rightF_data h
  have hbl := bodyB_length (r := r) (len := m) (data := data) hri
  obtain ⟨s1, s2⟩ := stuff_most (bodyB e n r m data)
  rw [hbl] at s1 s2
  have hs1 : 34 ≤ sizeN e r m := by unfold sizeN; split <;> omega
  have hs2 : sizeN e r m ≤ 118 := by unfold sizeN; split <;> split <;> omega
  rw [encB_length]
  refine ⟨by omega, by omega, ?_⟩
  unfold mostF
  rw [if_neg (by omega)]
  have hs3 : sizeN e r m ≤ (if e then 54 else 34) + 8 * m := by unfold sizeN; split <;> split <;> omega
  obtain ⟨l, hl⟩ : ∃ l : Nat, l = (if e then 54 else 34) + 8 * m := ⟨_, rfl⟩
  have hl2 : l ≤ 118 := by rw [hl]; split <;> omega
  rw [show ((if e then 54 else 34) + 8 * (m : Int) : Int) = (l : Int) by rw [hl]; split <;> omega, mostW_nat l (by omega)]
  rw [← hl] at hs3
  unfold mostN
  omega
theorem frame_same (d : Nat) (x0 x1 x2 x3 x4 x5 x6 x7 : Nat) (w : World) : Sem.run Tryd.prog (Op.equalIn (d + 2) 25 (.agg #[.int .u8 (x0 : Int), .int .u8 (x1 : Int), .int .u8 (x2 : Int), .int .u8 (x3 : Int), .int .u8 (x4 : Int), .int .u8 (x5 : Int), .int .u8 (x6 : Int), .int .u8 (x7 : Int)]) (.agg #[.int .u8 (x0 : Int), .int .u8 (x1 : Int), .int .u8 (x2 : Int), .int .u8 (x3 : Int), .int .u8 (x4 : Int), .int .u8 (x5 : Int), .int .u8 (x6 : Int), .int .u8 (x7 : Int)])) w = .ok true w := by
  rw [equal8]
  simp
theorem f0_right : rightF false 291 false ((1 : Nat) : Int) [10, 0, 0, 0, 0, 0, 0, 0] = 0 := by decide
theorem most8 : mostF false 8 = 132 := by decide
theorem most9 : mostF true 9 = 0 := by decide
theorem dc_nil : dcV (bitsOf []) = .tuple #[.agg #[.bool false, .int .u32 0, .bool false, .int .i64 0, .int .u8 0, .int .u8 0, .int .u8 0, .int .u8 0, .int .u8 0, .int .u8 0, .int .u8 0, .int .u8 0], .int .i64 0, .int .i64 2] := by rfl
set_option maxRecDepth 100000 in
set_option maxHeartbeats 8000000 in
theorem live7 (w : World) (h0 : 0 < w.heap.size) (hT : Tab w) : Calls Tryd.prog 35 #[] w fun x w' => x = .returned (.bool true) ∧ Below w.heap.size w w' := by
  obtain ⟨E, hE⟩ : ∃ E, E = encB false 291 false 1 [10, 0, 0, 0, 0, 0, 0, 0] := ⟨_, rfl⟩
  have h44 := enc_long f0_right
  have hbk := dcV_back f0_right rfl (by decide) 1 []
  have hbits : bitsOf E = E := bitsOf_self (by rw [hE]; exact enc_bits _ _ _ _ _)
  have hEe : stuffB (bodyB false 291 false 1 [10, 0, 0, 0, 0, 0, 0, 0]) ++ (1 :: 1 :: 1 :: 1 :: 1 :: 1 :: 1 :: 1 :: 1 :: 1 :: []) = E := by rw [hE]; rfl
  rw [hEe, ← hE] at hbk
  rw [← hE] at h44
  have hEN := fun u (h0 : 0 < u.heap.size) (hT : Tab u) => encode_yes false 291 (by omega) false 1 [10, 0, 0, 0, 0, 0, 0, 0] rfl (by decide) f0_right u h0 hT
  have hLO := fun u (h0 : 0 < u.heap.size) (hT : Tab u) => long_yes false 291 (by omega) false 1 [10, 0, 0, 0, 0, 0, 0, 0] rfl (by decide) f0_right u h0 hT
  rw [← hE] at hEN hLO
  obtain ⟨len, hlen⟩ : ∃ len, len = E.length := ⟨_, rfl⟩
  rw [← hlen] at h44 hLO hbk
  have HEN := Lib.hid (show ∀ u, Below w.heap.size w u → Calls Tryd.prog 45 #[.agg #[.bool false, .int .u32 291, .bool false, .int .i64 1, .int .u8 10, .int .u8 0, .int .u8 0, .int .u8 0, .int .u8 0, .int .u8 0, .int .u8 0, .int .u8 0]] u fun x w' => ∃ a cap, x = .returned (.slice a len cap) ∧ Str w'.heap.size w' (.slice a len cap) E ∧ Below u.heap.size u w' from fun u hu => (hEN u (Nat.lt_of_lt_of_le h0 hu.size) (hT.onB hu h0)).mono fun x w' h => by
    obtain ⟨v, rfl, ho, hb⟩ := h
    obtain ⟨a, cap, rfl⟩ := ho.shape
    rw [hlen]
    exact ⟨a, cap, rfl, ho.str, hb⟩)
  have HLO := Lib.hid (show ∀ u, Below w.heap.size w u → Calls Tryd.prog 91 #[.agg #[.bool false, .int .u32 291, .bool false, .int .i64 1, .int .u8 10, .int .u8 0, .int .u8 0, .int .u8 0, .int .u8 0, .int .u8 0, .int .u8 0, .int .u8 0]] u fun x w' => x = .returned (.int .i64 (len : Int)) ∧ Below u.heap.size u w' from fun u hu => hLO u (Nat.lt_of_lt_of_le h0 hu.size) (hT.onB hu h0))
  have HDE := Lib.hid (show ∀ u, Below w.heap.size w u → ∀ a cap, Str u.heap.size u (.slice a len cap) E → Calls Tryd.prog 33 #[.slice a len cap] u fun x w' => x = .returned (.tuple #[.agg #[.bool false, .int .u32 291, .bool false, .int .i64 1, .int .u8 10, .int .u8 0, .int .u8 0, .int .u8 0, .int .u8 0, .int .u8 0, .int .u8 0, .int .u8 0], .int .i64 (len : Int), .int .i64 0]) ∧ Below u.heap.size u w' from fun u hu a cap hs => (decode_any a len cap E (by omega) u (Nat.lt_of_lt_of_le h0 hu.size) (hT.onB hu h0) hs).mono fun x w' h => by
    rw [hbits, hbk] at h
    exact h)
  have HDN := Lib.hid (show ∀ u, Below w.heap.size w u → Calls Tryd.prog 33 #[.slice none 0 0] u fun x w' => x = .returned (.tuple #[.agg #[.bool false, .int .u32 0, .bool false, .int .i64 0, .int .u8 0, .int .u8 0, .int .u8 0, .int .u8 0, .int .u8 0, .int .u8 0, .int .u8 0, .int .u8 0], .int .i64 0, .int .i64 2]) ∧ Below u.heap.size u w' from fun u hu => (decode_any none 0 0 [] (by simp) u (Nat.lt_of_lt_of_le h0 hu.size) (hT.onB hu h0) (Ow.nil 0 u).str).mono fun x w' h => by
    rw [dc_nil] at h
    exact h)
  have HM8 := Lib.hid (show ∀ u, Below w.heap.size w u → Calls Tryd.prog 92 #[.bool false, .int .i64 8] u fun x w' => x = .returned (.int .i64 132) ∧ Below u.heap.size u w' from fun u hu => by rw [← most8]; exact most_any7 false 8 u (Nat.lt_of_lt_of_le h0 hu.size) (hT.onB hu h0))
  have HM9 := Lib.hid (show ∀ u, Below w.heap.size w u → Calls Tryd.prog 92 #[.bool true, .int .i64 9] u fun x w' => x = .returned (.int .i64 0) ∧ Below u.heap.size u w' from fun u hu => by rw [← most9]; exact most_any7 true 9 u (Nat.lt_of_lt_of_le h0 hu.size) (hT.onB hu h0))
  have heq : ∀ u : World, Sem.run Tryd.prog (Op.equalIn 9999 25 (.agg #[.int .u8 10, .int .u8 0, .int .u8 0, .int .u8 0, .int .u8 0, .int .u8 0, .int .u8 0, .int .u8 0]) (.agg #[.int .u8 10, .int .u8 0, .int .u8 0, .int .u8 0, .int .u8 0, .int .u8 0, .int .u8 0, .int .u8 0])) u = .ok true u := fun u => frame_same 9997 10 0 0 0 0 0 0 0 u
  have i1 : (44 : Int) < (len : Int) ∨ (len : Int) = 44 := by omega
  have i44 : (44 : Int) < (len : Int) := by
    rw [hlen, hE, encB_length]
    have hbl := bodyB_length (e := false) (n := 291) (r := false) (len := 1) (data := [10, 0, 0, 0, 0, 0, 0, 0]) rfl
    have := (stuff_most (bodyB false 291 false 1 [10, 0, 0, 0, 0, 0, 0, 0])).1
    rw [hbl] at this
    have h2 : sizeN false false 1 = 42 := rfl
    omega
  clear i1 h44 hbk hbits hEe hEN hLO hlen hE h0 hT
  have HFA := Lib.hid (FrameAt.new w 27 false 291 false 1 [10, 0, 0, 0, 0, 0, 0, 0] rfl)
  simp only [frameC, List.map] at HFA
  go_enter Tryd.func35, Tryd.ntmps35
  go_wp2_with fail
  refine (HEN.out _ ((Below.refl _ w).alloc (Nat.le_refl _) _)).mono ?_
  rintro x w1 ⟨a, cap, rfl, hs1, hb1⟩
  have HB1 := Lib.hid (below_trans' ((Below.refl _ w).alloc (Nat.le_refl _) _) hb1)
  have HF1 := Lib.hid (FrameAt.keep HFA.out hb1 (by simp))
  have HS1 := Lib.hid hs1
  have hn2 : w.heap.size < w1.heap.size := by have := hb1.size; simp at this; omega
  clear hs1 hb1
  go_wp2_with fail
  refine (HDE.out _ HB1.out _ _ HS1.out).mono ?_
  rintro x w2 ⟨rfl, hb2⟩
  have HB2 := Lib.hid (below_trans' HB1.out hb2)
  have hz2 := hb2.size
  have hz1 := HB1.out.size
  obtain ⟨w3, hw3⟩ : ∃ w3, w3 = w2.alloc (.cells #[.bool false, .int .u32 291, .bool false, .int .i64 1, .int .u8 10, .int .u8 0, .int .u8 0, .int .u8 0, .int .u8 0, .int .u8 0, .int .u8 0, .int .u8 0] 27) := ⟨_, rfl⟩
  have HF3 := Lib.hid (show FrameAt w3 w.heap.size false 291 false 1 [10, 0, 0, 0, 0, 0, 0, 0] by rw [hw3]; exact ((HF1.out.keep hb2 hn2).more (by omega) _))
  have HG3 := Lib.hid (show FrameAt w3 w2.heap.size false 291 false 1 [10, 0, 0, 0, 0, 0, 0, 0] by rw [hw3]; exact FrameAt.new w2 27 false 291 false 1 [10, 0, 0, 0, 0, 0, 0, 0] rfl)
  have HB3 := Lib.hid (show Below w.heap.size w w3 by rw [hw3]; exact HB2.out.alloc HB2.out.size _)
  have hn3 : w.heap.size < w3.heap.size ∧ w2.heap.size < w3.heap.size := by rw [hw3]; simp; omega
  clear hb2
  go_wp2_with fail
  rw [← hw3]
  clear hw3
  refine (HDN.out _ HB3.out).mono ?_
  rintro x w4 ⟨rfl, hb4⟩
  have HB4 := Lib.hid (below_trans' HB3.out hb4)
  have HF4 := Lib.hid ((HF3.out.keep hb4 hn3.1).keep ((Below.refl _ w4).alloc (Nat.le_refl _) (.cells #[.bool false, .int .u32 0, .bool false, .int .i64 0, .int .u8 0, .int .u8 0, .int .u8 0, .int .u8 0, .int .u8 0, .int .u8 0, .int .u8 0, .int .u8 0] 27)) (by have := hb4.size; omega))
  have HG4 := Lib.hid ((HG3.out.keep hb4 hn3.2).keep ((Below.refl _ w4).alloc (Nat.le_refl _) (.cells #[.bool false, .int .u32 0, .bool false, .int .i64 0, .int .u8 0, .int .u8 0, .int .u8 0, .int .u8 0, .int .u8 0, .int .u8 0, .int .u8 0, .int .u8 0] 27)) (by have := hb4.size; omega))
  obtain ⟨c0, c1, c2, c3, c4, c5, c6, c7, c8, c9, c10, c11⟩ := HF4.out.cells
  obtain ⟨k0, k1, k2, k3, k4, k5, k6, k7, k8, k9, k10, k11⟩ := HG4.out.cells
  clear hb4 hn3 hn2 hz2 hz1
  go_wp2_with fail
  refine (HLO.out _ (HB4.out.alloc HB4.out.size _)).mono ?_
  rintro x w5 ⟨rfl, hb5⟩
  have HB5 := Lib.hid (below_trans' (HB4.out.alloc HB4.out.size _) hb5)
  clear hb5 c0 c1 c2 c3 c4 c5 c6 c7 c8 c9 c10 c11 k0 k1 k2 k3 k4 k5 k6 k7 k8 k9 k10 k11
  go_wp2_with fail
  refine (HM8.out _ HB5.out).mono ?_
  rintro x w6 ⟨rfl, hb6⟩
  have HB6 := Lib.hid (below_trans' HB5.out hb6)
  clear hb6
  go_wp2_with fail
  refine (HM9.out _ HB6.out).mono ?_
  rintro x w7 ⟨rfl, hb7⟩
  have HB7 := Lib.hid (below_trans' HB6.out hb7)
  clear hb7
  go_wp2_with fail
  go_ret
  exact ⟨rfl, HB7.out⟩
end Go.Proofs.YtndjennhbggoiaaDoor
