/- The document's own parse of a body, in plain words: what it returns of a body that is whole. Conditions: not more than a thousand bits. -/
import Derived.Test.YtmfnkfiocnngeaaDoorWrg
namespace Go.Proofs.YtmfnkfiocnngeaaDoor
open Go.RowKit Go.Shelf
section
variable {W : World} {B : Nat} {e : Bool} {n : Nat} {r : Bool} {len : Int} {data : List Nat}
theorem FrameAt.setE (h : FrameAt W B e n r len data) (e' : Bool) : FrameAt (W.setCell ⟨B, 0, none⟩ (.bool e')) B e' n r len data :=
  ⟨World.cell?_setCell_same _ _ _ h.c0, (World.cell?_setCell_other _ _ _ _ (addr_ne (.inr (by omega)))).trans h.c1, (World.cell?_setCell_other _ _ _ _ (addr_ne (.inr (by omega)))).trans h.c2, (World.cell?_setCell_other _ _ _ _ (addr_ne (.inr (by omega)))).trans h.c3, fun i hi => (World.cell?_setCell_other _ _ _ _ (addr_ne (.inr (by omega)))).trans (h.cd i hi), fun i hi => by rw [World.frozen?_setCell]; exact h.fz i hi⟩
theorem FrameAt.setR (h : FrameAt W B e n r len data) (r' : Bool) : FrameAt (W.setCell ⟨B, 2, none⟩ (.bool r')) B e n r' len data :=
  ⟨(World.cell?_setCell_other _ _ _ _ (addr_ne (.inr (by omega)))).trans h.c0, (World.cell?_setCell_other _ _ _ _ (addr_ne (.inr (by omega)))).trans h.c1, World.cell?_setCell_same _ _ _ h.c2, (World.cell?_setCell_other _ _ _ _ (addr_ne (.inr (by omega)))).trans h.c3, fun i hi => (World.cell?_setCell_other _ _ _ _ (addr_ne (.inr (by omega)))).trans (h.cd i hi), fun i hi => by rw [World.frozen?_setCell]; exact h.fz i hi⟩
theorem FrameAt.drawn (h : FrameAt W B e n r len data) : FrameAt W.drew B e n r len data := ⟨h.c0, h.c1, h.c2, h.c3, h.cd, h.fz⟩
end
theorem dataOf_set (l : List Nat) (fr k : Nat) : (dataOf l fr k).set k (numP (subL l (fr + 8 * k) 8)) = dataOf l fr (k + 1) := by
  apply List.ext_getElem
  · simp [dataOf]
  · intro i h1 h2
    have hi : i < 8 := by simpa [dataOf] using h2
    rw [List.getElem_set]
    simp only [dataOf, List.getElem_map, List.getElem_range]
    by_cases h : k = i
    · subst h; rw [if_pos rfl, if_pos (by omega)]
    · rw [if_neg h]
      by_cases h3 : i < k
      · rw [if_pos h3, if_pos (by omega)]
      · rw [if_neg h3, if_neg (by omega)]
set_option maxRecDepth 100000 in
set_option maxHeartbeats 8000000 in
theorem ref6Parse_std (a : Option Addr) (len cap : Nat) (bs : List Nat) (h0 : bs[0]?.getD 0 = 0) (n : Nat) (hs : sizeB (bitsOf bs) = some n) (hn : n ≤ bs.length) (hc : crcOf (bitsOf (bs.take n)) 0 = 0) (hl : bs.length ≤ 1000) (he : decide (bs[13]?.getD 0 ≠ 0) = false) (w : World) (hI : Str w.heap.size w (.slice a len cap) bs) : Calls Tryd.prog 23 #[.slice a len cap] w fun x w' => x = .returned (prV (parseB (bitsOf bs))) ∧ Below w.heap.size w w' := by
  have hlen := hI.len
  have hpo := parse_ok bs h0 false he.symm 12 15 rfl rfl n hs hn hc
  have hsz : n = sumN bs 12 15 + 15 ∧ 15 + 4 ≤ bs.length ∧ 13 < bs.length := by
    have h13 : 13 < bs.length := by
      by_cases h : bs.length ≤ 13
      · rw [sizeB_short bs h] at hs; exact absurd hs (by simp)
      · omega
    have h2 := sizeB_long bs h13 false he.symm 12 15 rfl rfl
    rw [hs] at h2
    by_cases h4 : 15 + 4 ≤ bs.length
    · rw [if_pos h4] at h2
      exact ⟨Option.some.inj h2, h4, h13⟩
    · rw [if_neg h4] at h2; exact absurd h2 (by simp)
  obtain ⟨q, hq⟩ : ∃ q, q = decide (bs[12]?.getD 0 ≠ 0) := ⟨_, rfl⟩
  obtain ⟨m, hm⟩ : ∃ m, m = min 8 (numP (bitsOf (subL bs 15 4))) := ⟨_, rfl⟩
  obtain ⟨V, hV⟩ : ∃ V, V = idN false bs := ⟨_, rfl⟩
  obtain ⟨K, hK⟩ : ∃ K, K = (if bs[12]?.getD 0 ≠ 0 then 0 else min 8 (numP (bitsOf (subL bs 15 4)))) := ⟨_, rfl⟩
  rw [← hK, ← hq, ← hm, ← hV] at hpo
  have hKq : (q = true → K = 0) ∧ (q = false → K = m) := by
    rw [hq, hK, hm]
    by_cases h : bs[12]?.getD 0 = 0
    · simp [h]
    · simp [h]
  have hm8 : m ≤ 8 := by rw [hm]; omega
  have hKm : K ≤ m := by
    cases q
    · rw [hKq.2 rfl]; exact Nat.le_refl _
    · rw [hKq.1 rfl]; exact Nat.zero_le _
  have hnK : n = 15 + 4 + 8 * K + 15 := by rw [hsz.1, hK]; rfl
  obtain ⟨bk, off, rfl, hbk, _⟩ := hI.at (k := 0) (by omega)
  have hlc := hI.lenCap
  have hsub : ∀ u, Below w.heap.size w u → ∀ s k, 0 < k → s + k ≤ n → Str u.heap.size u (.slice (some ⟨bk, off + s, none⟩) k (cap - s)) (subL bs s k) := fun u hu s k hk hsk => by
    have h1 : Str u.heap.size u (.slice (some ⟨bk, off, none⟩) (s + k) cap) (bs.take (s + k)) := ((hI.below hu).mono hu.size).take (by omega)
    have h2 := h1.drop
    rw [List.drop_take, show s + k - s = k by omega, Option.map_some, add_off] at h2
    exact h2
  have hnum : ∀ u, Below w.heap.size w u → ∀ s k, 0 < k → k ≤ 31 → s + k ≤ n → Calls Tryd.prog 68 #[.slice (some ⟨bk, off + s, none⟩) k (cap - s)] u fun x w' => x = .returned (.int .u64 ((numP (bitsOf (subL bs s k)) : Nat) : Int)) ∧ u = w' := fun u hu s k hk hk2 hsk => by
    have h := refNumber_any _ _ _ _ u (hsub u hu s k hk hsk)
    rw [(numB_small bs s k (by omega) hk2).2] at h
    exact h
  have hlt : ∀ s k, k ≤ 31 → s + k ≤ bs.length → numP (bitsOf (subL bs s k)) < 2 ^ k := fun s k hk hsk => by
    have h := numB_small bs s k hsk hk
    rw [h.2] at h
    exact h.1
  have hat : ∀ u, Below w.heap.size w u → ∀ k : Nat, k < n → Calls Tryd.prog 66 #[.slice (some ⟨bk, off, none⟩) n cap, .int .i64 (k : Int)] u fun x w' => x = .returned (.bool (decide (bs[k]?.getD 0 ≠ 0))) ∧ Below u.heap.size u w' := fun u hu k hk => by
    have h := ref6at_any _ n cap k (bs.take n) u (((hI.below hu).mono hu.size).take (by omega)) (by rw [List.length_take]; omega)
    rw [get_take bs n k hk] at h
    exact h
  have HNUM := Lib.hid hnum
  obtain ⟨v1, hv1⟩ : ∃ v1, v1 = numP (bitsOf (subL bs 1 11)) := ⟨_, rfl⟩
  have hv1l : v1 < 2048 := by rw [hv1]; exact hlt 1 11 (by omega) (by omega)
  obtain ⟨b12, hb12⟩ : ∃ b, b = decide (bs[12]?.getD 0 ≠ 0) := ⟨_, rfl⟩
  have HA0 := Lib.hid (show ∀ u, Below w.heap.size w u → Calls Tryd.prog 66 #[.slice (some ⟨bk, off, none⟩) len cap, .int .i64 0] u fun x w' => x = .returned (.bool false) ∧ Below u.heap.size u w' from fun u hu => (ref6at_any _ len cap 0 bs u ((hI.below hu).mono hu.size) (by omega)).mono fun x w' hx => by
    rw [decide_eq_false (not_not_intro h0)] at hx
    exact hx)
  have HA12 := Lib.hid (show ∀ u, Below w.heap.size w u → Calls Tryd.prog 66 #[.slice (some ⟨bk, off, none⟩) n cap, .int .i64 12] u fun x w' => x = .returned (.bool b12) ∧ Below u.heap.size u w' from fun u hu => by rw [hb12]; exact hat u hu 12 (by omega))
  have HA13 := Lib.hid (show ∀ u, Below w.heap.size w u → Calls Tryd.prog 66 #[.slice (some ⟨bk, off, none⟩) n cap, .int .i64 13] u fun x w' => x = .returned (.bool false) ∧ Below u.heap.size u w' from fun u hu => by rw [← he]; exact hat u hu 13 (by omega))
  have HN1 := Lib.hid (show ∀ u, Below w.heap.size w u → Calls Tryd.prog 68 #[.slice (some ⟨bk, off + 1, none⟩) 11 (cap - 1)] u fun x w' => x = .returned (.int .u64 (v1 : Int)) ∧ u = w' from fun u hu => by rw [hv1]; exact hnum u hu 1 11 (by omega) (by omega) (by omega))
  have HLE := Lib.hid (show ∀ u, Below w.heap.size w u → Calls Tryd.prog 69 #[.slice (some ⟨bk, off + 15, none⟩) 4 (cap - 15)] u fun x w' => x = .returned (.int .i64 (m : Int)) ∧ Below u.heap.size u w' from fun u hu => by
    rw [hm]
    exact ref6length_any _ _ _ _ u (hsub u hu 15 4 (by omega) (by omega)) (subL_length bs 15 4 (by omega)))
  have hVe : V = v1 := by rw [hV, hv1]; rfl
  have hqe : q = b12 := by rw [hq, hb12]
  have HVQ := Lib.hid hVe; have HQE := Lib.hid hqe
  have HSI := Lib.hid (show ∀ u, Below w.heap.size w u → Calls Tryd.prog 25 #[.slice (some ⟨bk, off, none⟩) len cap] u fun x w' => x = .returned (.tuple #[.int .i64 (n : Int), .bool true]) ∧ Below u.heap.size u w' from fun u hu => (ref6Size_any _ len cap bs u ((hI.below hu).mono hu.size)).mono fun x w' hx => by
    rw [hs] at hx
    exact hx)
  have hst : ∀ u, Below w.heap.size w u → Str u.heap.size u (.slice (some ⟨bk, off, none⟩) n cap) (bs.take n) := fun u hu => ((hI.below hu).mono hu.size).take (by omega)
  have HWH := Lib.hid (show ∀ u, Below w.heap.size w u → Calls Tryd.prog 67 #[.slice (some ⟨bk, off, none⟩) n cap] u fun x w' => x = .returned (.bool true) ∧ Below u.heap.size u w' from fun u hu => (refWhole_any _ n cap (bs.take n) u (hst u hu)).mono fun x w' hx => by
    have e := wholeB_eq (bs.take n) (by rw [List.length_take]; omega)
    unfold wholeB at e
    rw [e, decide_eq_true hc] at hx
    exact hx)
  have HPO := Lib.hid hpo; have HNK := Lib.hid hnK
  have HLT := Lib.hid hlt; have HNB := Lib.hid hn
  have w1' : IntKind.u32.wrap (v1 : Int) = (v1 : Int) := by rw [IntKind.wrap_u32]; omega
  have i0 : (0 : Int) < (len : Int) := by omega
  have i1 : ¬ (len : Int) < (n : Int) := by omega
  have i2 : (n : Int) ≤ (cap : Int) := by omega
  have i3 : (0 : Int) ≤ (n : Int) := by omega
  have i4 : (12 : Int) ≤ (cap : Int) := by omega
  have i5 : (19 : Int) ≤ (cap : Int) := by omega
  have j1 : cap ≠ 1 := by omega
  have j2 : cap ≠ 15 := by omega
  have hcapn : n ≤ cap := by omega
  obtain ⟨wr, hwr⟩ : ∃ wr, wr = w.alloc (.cells #[.bool false, .int .u32 0, .bool false, .int .i64 0, .int .u8 0, .int .u8 0, .int .u8 0, .int .u8 0, .int .u8 0, .int .u8 0, .int .u8 0, .int .u8 0] 27) := ⟨_, rfl⟩
  have HB0 := Lib.hid (show Below w.heap.size w wr by rw [hwr]; exact (Below.refl _ w).alloc (Nat.le_refl _) _)
  have HQ0 := Lib.hid (show Blk wr w.heap.size 27 (frameC false 0 false 0 [0, 0, 0, 0, 0, 0, 0, 0]) by rw [hwr]; exact Blk.new w _ _)
  have HKQ := Lib.hid hKq; have HM := Lib.hid hm; have HLEN := Lib.hid hlen
  clear hI h0 hs hn hc hl he hpo hsz hq hV hK hKq hsub hnum hlt hat hst hnK hv1 hb12 hm hlen hlc hVe hqe
  go_enter Tryd.func23, Tryd.ntmps23
  go_wp2_with fail
  rw [← hwr]
  clear hwr
  refine (HA0.out _ HB0.out).mono ?_
  rintro x w1 ⟨rfl, hb⟩
  have HB1 := Lib.hid (below_trans' HB0.out hb)
  have HQ1 := Lib.hid (HQ0.out.keep hb HQ0.out.lt)
  clear hb
  go_wp2_with fail
  refine (HSI.out _ HB1.out).mono ?_
  rintro x w2 ⟨rfl, hb⟩
  have HB2 := Lib.hid (below_trans' HB1.out hb)
  have HQ2 := Lib.hid (HQ1.out.keep hb HQ1.out.lt)
  clear hb
  go_wp2_with fail
  refine (HWH.out _ HB2.out).mono ?_
  rintro x w3 ⟨rfl, hb⟩
  have HB3 := Lib.hid (below_trans' HB2.out hb)
  have HQ3 := Lib.hid (HQ2.out.keep hb HQ2.out.lt)
  clear hb
  go_wp2_with fail
  refine (HN1.out _ HB3.out).mono ?_
  rintro x w4 ⟨rfl, rfl⟩
  go_wp2_with fail
  refine (HA12.out _ HB3.out).mono ?_
  rintro x w5 ⟨rfl, hb⟩
  have HB5 := Lib.hid (below_trans' HB3.out hb)
  have HQ5 := Lib.hid (HQ3.out.keep hb HQ3.out.lt)
  clear hb
  obtain ⟨w6, hw6⟩ : ∃ w6, w6 = w5.alloc (.cells #[.bool false, .int .u32 (v1 : Int), .bool b12, .int .i64 0, .int .u8 0, .int .u8 0, .int .u8 0, .int .u8 0, .int .u8 0, .int .u8 0, .int .u8 0, .int .u8 0] 27) := ⟨_, rfl⟩
  have HB6 := Lib.hid (show Below w.heap.size w w6 by rw [hw6]; exact HB5.out.alloc HB5.out.size _)
  have HQ6 := Lib.hid (show Blk w6 w.heap.size 27 (frameC false 0 false 0 [0, 0, 0, 0, 0, 0, 0, 0]) by rw [hw6]; exact HQ5.out.keep ((Below.refl _ w5).alloc (Nat.le_refl _) _) HQ5.out.lt)
  have HF6 := Lib.hid (show FrameAt w6 w5.heap.size false v1 b12 0 [0, 0, 0, 0, 0, 0, 0, 0] by rw [hw6]; exact FrameAt.new w5 27 false v1 b12 0 [0, 0, 0, 0, 0, 0, 0, 0] rfl)
  have hbb : w.heap.size < w5.heap.size := HQ5.out.lt
  have hlt6 : w5.heap.size < w6.heap.size := by rw [hw6]; simp
  go_wp2_with fail
  rw [← hw6]
  clear hw6
  refine (HA13.out _ HB6.out).mono ?_
  rintro x w7 ⟨rfl, hb⟩
  have HB7 := Lib.hid (below_trans' HB6.out hb)
  have HQ7 := Lib.hid (HQ6.out.keep hb HQ6.out.lt)
  have HF7 := Lib.hid (HF6.out.keep hb hlt6)
  have hlt7 : w5.heap.size < w7.heap.size := by have := hb.size; omega
  obtain ⟨c0, c1, c2, c3, c4, c5, c6, c7, c8, c9, c10, c11⟩ := HF7.out.cells
  obtain ⟨g0, g1, g2, g3, g4, g5, g6, g7, g8, g9, g10, g11⟩ := HF7.out.frz
  clear hb
  go_wp2_with fail
  refine (HLE.out _ HB7.out).mono ?_
  rintro x w8 ⟨rfl, hb⟩
  have HB8 := Lib.hid (below_trans' HB7.out hb)
  have HQ8 := Lib.hid (HQ7.out.keep hb HQ7.out.lt)
  have HF8 := Lib.hid (HF7.out.keep hb hlt7)
  have hlt8 : w5.heap.size < w8.heap.size := by have := hb.size; omega
  obtain ⟨w9, hw9⟩ : ∃ w9, w9 = w8.setCell ⟨w5.heap.size, 3, none⟩ (.int .i64 (m : Int)) := ⟨_, rfl⟩
  have HF9 := Lib.hid (show FrameAt w9 w5.heap.size false V q (m : Int) [0, 0, 0, 0, 0, 0, 0, 0] by rw [hw9]; rw [HVQ.out, HQE.out]; exact HF8.out.setL (m : Int))
  have HB9 := Lib.hid (show Below w.heap.size w w9 by rw [hw9]; exact HB8.out.setCell (p := ⟨w5.heap.size, 3, none⟩) (by show w.heap.size ≤ w5.heap.size; omega) _)
  have HQ9 := Lib.hid (show Blk w9 w.heap.size 27 (frameC false 0 false 0 [0, 0, 0, 0, 0, 0, 0, 0]) by rw [hw9]; exact HQ8.out.keep (n := w5.heap.size) ((Below.refl w5.heap.size w8).setCell (p := ⟨w5.heap.size, 3, none⟩) (Nat.le_refl _) _) hbb)
  have hlt9 : w5.heap.size < w9.heap.size := by rw [hw9]; simp only [setCell_size2]; exact hlt8
  clear c0 c1 c2 c3 c4 c5 c6 c7 c8 c9 c10 c11 g0 g1 g2 g3 g4 g5 g6 g7 g8 g9 g10 g11
  obtain ⟨c0, c1, c2, c3, c4, c5, c6, c7, c8, c9, c10, c11⟩ := HF8.out.cells
  obtain ⟨g0, g1, g2, g3, g4, g5, g6, g7, g8, g9, g10, g11⟩ := HF8.out.frz
  have HW9 := Lib.hid hw9
  clear hb hw9
  go_wp2_with fail
  clear c0 c1 c2 c3 c4 c5 c6 c7 c8 c9 c10 c11 g0 g1 g2 g3 g4 g5 g6 g7 g8 g9 g10 g11
  rw [← HW9.out]
  go_loopw [9] (fun i wr => ∃ k : Nat, i = .int .i64 k ∧ k ≤ K ∧ FrameAt wr w5.heap.size false V q (m : Int) (dataOf (bitsOf bs) 19 k) ∧ Blk wr w.heap.size 27 (frameC false 0 false 0 [0, 0, 0, 0, 0, 0, 0, 0]) ∧ Below w.heap.size w wr ∧ w5.heap.size < wr.heap.size) (fun i _ => K - (intOf i).toNat)
  case atStart => exact ⟨0, rfl, Nat.zero_le _, by rw [show dataOf (bitsOf bs) 19 0 = [0, 0, 0, 0, 0, 0, 0, 0] by simp [dataOf, List.range, List.range.loop]]; exact HF9.out, HQ9.out, HB9.out, hlt9⟩
  case round =>
    obtain ⟨k, rfl, hk, hF, hQ, hB, hltr⟩ := hrel
    have HF := Lib.hid hF; have HQ := Lib.hid hQ; have HB := Lib.hid hB
    have c2 := hF.c2; have c3 := hF.c3
    clear hF hQ hB
    by_cases hkK : k < K
    · have hqf : q = false := by
        cases q
        · rfl
        · have := HKQ.out.1 rfl; omega
      subst hqf
      have a1 : (k : Int) < (m : Int) := by omega
      obtain ⟨z, hz⟩ : ∃ z, z = 8 * k := ⟨_, rfl⟩
      obtain ⟨p, hp⟩ : ∃ p, p = 19 + z := ⟨_, rfl⟩
      obtain ⟨t, ht⟩ : ∃ t, t = p + 8 := ⟨_, rfl⟩
      have htn : t ≤ n := by rw [HNK.out]; omega
      have a2 : (8 : Int) * (k : Int) = (z : Int) := by omega
      have a3 : IntKind.i64.wrap (z : Int) = (z : Int) := by rw [IntKind.wrap_i64]; omega
      have a4 : (19 : Int) + (z : Int) = (p : Int) := by omega
      have a5 : IntKind.i64.wrap (p : Int) = (p : Int) := by rw [IntKind.wrap_i64]; omega
      have a6 : (p : Int) + 8 = (t : Int) := by omega
      have a7 : IntKind.i64.wrap (t : Int) = (t : Int) := by rw [IntKind.wrap_i64]; omega
      have a8 : (0 : Int) ≤ (p : Int) := by omega
      have a9 : (p : Int) ≤ (t : Int) := by omega
      have b1 : (t : Int) ≤ (cap : Int) := by omega
      have b2 : t - p = 8 := by omega
      have b3 : cap ≠ p := by omega
      have b4 : (0 : Int) ≤ (k : Int) := by omega
      have b5 : (k : Int) < 8 := by omega
      obtain ⟨y, hy⟩ : ∃ y, y = numP (bitsOf (subL bs p 8)) := ⟨_, rfl⟩
      have HNY := Lib.hid (show Calls Tryd.prog 68 #[.slice (some ⟨bk, off + p, none⟩) 8 (cap - p)] wr fun x w' => x = .returned (.int .u64 (y : Int)) ∧ wr = w' from by rw [hy]; exact HNUM.out wr HB.out p 8 (by omega) (by omega) (by omega))
      have hyl : y < 256 := by rw [hy]; exact HLT.out p 8 (by omega) (by have := HNB.out; omega)
      have b6 : IntKind.u8.wrap (y : Int) = (y : Int) := by rw [IntKind.wrap_u8]; omega
      have c4 := HF.out.cd k (by omega)
      have f4 := HF.out.fz (4 + k) (by omega)
      have HSD := Lib.hid (HF.out.setD (by simp [dataOf]) k y (by omega))
      have HDE := Lib.hid (show (dataOf (bitsOf bs) 19 k).set k y = dataOf (bitsOf bs) 19 (k + 1) by
        rw [hy, ← subL_bits, hp, hz]
        exact dataOf_set _ _ _)
      have HBS := Lib.hid (show Below w.heap.size w (wr.setCell ⟨w5.heap.size, 4 + k, none⟩ (.int .u8 (y : Int))) from HB.out.setCell (p := ⟨w5.heap.size, 4 + k, none⟩) (by show w.heap.size ≤ w5.heap.size; omega) _)
      have HQS := Lib.hid (show Blk (wr.setCell ⟨w5.heap.size, 4 + k, none⟩ (.int .u8 (y : Int))) w.heap.size 27 (frameC false 0 false 0 [0, 0, 0, 0, 0, 0, 0, 0]) from HQ.out.keep (n := w5.heap.size) ((Below.refl w5.heap.size wr).setCell (p := ⟨w5.heap.size, 4 + k, none⟩) (Nat.le_refl _) _) hbb)
      clear hy hz hp ht
      go_wp2_with fail
      refine HNY.out.mono ?_
      rintro x w' ⟨rfl, rfl⟩
      go_wp2_with fail
      go_roundw
      case rel => exact ⟨k + 1, by simp, by omega, by rw [← HDE.out]; exact HSD.out, HQS.out, HBS.out, by simp only [setCell_size2]; exact hltr⟩
      case measure => simp [intOf]; omega
    · obtain rfl : k = K := by omega
      have hcase : (¬ (k : Int) < (m : Int)) ∨ ((k : Int) < (m : Int) ∧ q = true) := by
        by_cases h : k < m
        · right
          refine ⟨by omega, ?_⟩
          cases q
          · have := HKQ.out.2 rfl; omega
          · rfl
        · exact .inl (by omega)
      obtain ⟨x0, x1, x2, x3, x4, x5, x6, x7, hX⟩ := eight (data := dataOf (bitsOf bs) 19 k) (by simp [dataOf])
      have HFX := Lib.hid (show FrameAt wr w5.heap.size false V q (m : Int) [x0, x1, x2, x3, x4, x5, x6, x7] by rw [← hX]; exact HF.out)
      have HX := Lib.hid hX
      clear hX c2 c3
      obtain ⟨c0, c1, c2, c3, c4, c5, c6, c7, c8, c9, c10, c11⟩ := HFX.out.cells
      obtain ⟨z0, z1, z2, z3, z4, z5, z6, z7, z8, z9, z10, z11⟩ := (HQ.out.at rfl).cells
      obtain ⟨f0, f1, f2, f3, f4, f5, f6, f7, f8, f9, f10, f11⟩ := (HQ.out.at rfl).frz
      have hcase2 : (¬ (k : Int) < (m : Int)) ∨ ((k : Int) < (m : Int) ∧ (!q) = false) := by
        rcases hcase with h | ⟨h, h2⟩
        · exact .inl h
        · exact .inr ⟨h, by rw [h2]; rfl⟩
      clear hcase
      rcases hcase2 with a1 | ⟨a1, a2⟩
      all_goals
        go_wp2_with fail
        refine bodyPost_ret (v := .tuple #[.agg #[.bool false, .int .u32 (V : Int), .bool q, .int .i64 (m : Int), .int .u8 (x0 : Int), .int .u8 (x1 : Int), .int .u8 (x2 : Int), .int .u8 (x3 : Int), .int .u8 (x4 : Int), .int .u8 (x5 : Int), .int .u8 (x6 : Int), .int .u8 (x7 : Int)], .int .i64 (n : Int), .int .i64 0]) (by simp [results, Tryd.results23, go_sem, World.cell?_setCell_same', z0, z1, z2, z3, z4, z5, z6, z7, z8, z9, z10, z11]) rfl ⟨by rw [HPO.out, HX.out]; rfl, below12 (Nat.le_refl _) HB.out _ _ _ _ _ _ _ _ _ _ _ _⟩
set_option maxRecDepth 100000 in
set_option maxHeartbeats 8000000 in
theorem ref6Parse_ext (a : Option Addr) (len cap : Nat) (bs : List Nat) (h0 : bs[0]?.getD 0 = 0) (n : Nat) (hs : sizeB (bitsOf bs) = some n) (hn : n ≤ bs.length) (hc : crcOf (bitsOf (bs.take n)) 0 = 0) (hl : bs.length ≤ 1000) (he : decide (bs[13]?.getD 0 ≠ 0) = true) (w : World) (hI : Str w.heap.size w (.slice a len cap) bs) : Calls Tryd.prog 23 #[.slice a len cap] w fun x w' => x = .returned (prV (parseB (bitsOf bs))) ∧ Below w.heap.size w w' := by
  have hlen := hI.len
  have hpo := parse_ok bs h0 true he.symm 32 35 rfl rfl n hs hn hc
  have hsz : n = sumN bs 32 35 + 15 ∧ 35 + 4 ≤ bs.length ∧ 13 < bs.length := by
    have h13 : 13 < bs.length := by
      by_cases h : bs.length ≤ 13
      · rw [sizeB_short bs h] at hs; exact absurd hs (by simp)
      · omega
    have h2 := sizeB_long bs h13 true he.symm 32 35 rfl rfl
    rw [hs] at h2
    by_cases h4 : 35 + 4 ≤ bs.length
    · rw [if_pos h4] at h2
      exact ⟨Option.some.inj h2, h4, h13⟩
    · rw [if_neg h4] at h2; exact absurd h2 (by simp)
  obtain ⟨q, hq⟩ : ∃ q, q = decide (bs[32]?.getD 0 ≠ 0) := ⟨_, rfl⟩
  obtain ⟨m, hm⟩ : ∃ m, m = min 8 (numP (bitsOf (subL bs 35 4))) := ⟨_, rfl⟩
  obtain ⟨V, hV⟩ : ∃ V, V = idN true bs := ⟨_, rfl⟩
  obtain ⟨K, hK⟩ : ∃ K, K = (if bs[32]?.getD 0 ≠ 0 then 0 else min 8 (numP (bitsOf (subL bs 35 4)))) := ⟨_, rfl⟩
  rw [← hK, ← hq, ← hm, ← hV] at hpo
  have hKq : (q = true → K = 0) ∧ (q = false → K = m) := by
    rw [hq, hK, hm]
    by_cases h : bs[32]?.getD 0 = 0
    · simp [h]
    · simp [h]
  have hm8 : m ≤ 8 := by rw [hm]; omega
  have hKm : K ≤ m := by
    cases q
    · rw [hKq.2 rfl]; exact Nat.le_refl _
    · rw [hKq.1 rfl]; exact Nat.zero_le _
  have hnK : n = 35 + 4 + 8 * K + 15 := by rw [hsz.1, hK]; rfl
  obtain ⟨bk, off, rfl, hbk, _⟩ := hI.at (k := 0) (by omega)
  have hlc := hI.lenCap
  have hsub : ∀ u, Below w.heap.size w u → ∀ s k, 0 < k → s + k ≤ n → Str u.heap.size u (.slice (some ⟨bk, off + s, none⟩) k (cap - s)) (subL bs s k) := fun u hu s k hk hsk => by
    have h1 : Str u.heap.size u (.slice (some ⟨bk, off, none⟩) (s + k) cap) (bs.take (s + k)) := ((hI.below hu).mono hu.size).take (by omega)
    have h2 := h1.drop
    rw [List.drop_take, show s + k - s = k by omega, Option.map_some, add_off] at h2
    exact h2
  have hnum : ∀ u, Below w.heap.size w u → ∀ s k, 0 < k → k ≤ 31 → s + k ≤ n → Calls Tryd.prog 68 #[.slice (some ⟨bk, off + s, none⟩) k (cap - s)] u fun x w' => x = .returned (.int .u64 ((numP (bitsOf (subL bs s k)) : Nat) : Int)) ∧ u = w' := fun u hu s k hk hk2 hsk => by
    have h := refNumber_any _ _ _ _ u (hsub u hu s k hk hsk)
    rw [(numB_small bs s k (by omega) hk2).2] at h
    exact h
  have hlt : ∀ s k, k ≤ 31 → s + k ≤ bs.length → numP (bitsOf (subL bs s k)) < 2 ^ k := fun s k hk hsk => by
    have h := numB_small bs s k hsk hk
    rw [h.2] at h
    exact h.1
  have hat : ∀ u, Below w.heap.size w u → ∀ k : Nat, k < n → Calls Tryd.prog 66 #[.slice (some ⟨bk, off, none⟩) n cap, .int .i64 (k : Int)] u fun x w' => x = .returned (.bool (decide (bs[k]?.getD 0 ≠ 0))) ∧ Below u.heap.size u w' := fun u hu k hk => by
    have h := ref6at_any _ n cap k (bs.take n) u (((hI.below hu).mono hu.size).take (by omega)) (by rw [List.length_take]; omega)
    rw [get_take bs n k hk] at h
    exact h
  have HNUM := Lib.hid hnum
  obtain ⟨v1, hv1⟩ : ∃ v1, v1 = numP (bitsOf (subL bs 1 11)) := ⟨_, rfl⟩
  have hv1l : v1 < 2048 := by rw [hv1]; exact hlt 1 11 (by omega) (by omega)
  obtain ⟨b12, hb12⟩ : ∃ b, b = decide (bs[12]?.getD 0 ≠ 0) := ⟨_, rfl⟩
  have HA0 := Lib.hid (show ∀ u, Below w.heap.size w u → Calls Tryd.prog 66 #[.slice (some ⟨bk, off, none⟩) len cap, .int .i64 0] u fun x w' => x = .returned (.bool false) ∧ Below u.heap.size u w' from fun u hu => (ref6at_any _ len cap 0 bs u ((hI.below hu).mono hu.size) (by omega)).mono fun x w' hx => by
    rw [decide_eq_false (not_not_intro h0)] at hx
    exact hx)
  have HA12 := Lib.hid (show ∀ u, Below w.heap.size w u → Calls Tryd.prog 66 #[.slice (some ⟨bk, off, none⟩) n cap, .int .i64 12] u fun x w' => x = .returned (.bool b12) ∧ Below u.heap.size u w' from fun u hu => by rw [hb12]; exact hat u hu 12 (by omega))
  have HA13 := Lib.hid (show ∀ u, Below w.heap.size w u → Calls Tryd.prog 66 #[.slice (some ⟨bk, off, none⟩) n cap, .int .i64 13] u fun x w' => x = .returned (.bool true) ∧ Below u.heap.size u w' from fun u hu => by rw [← he]; exact hat u hu 13 (by omega))
  have HN1 := Lib.hid (show ∀ u, Below w.heap.size w u → Calls Tryd.prog 68 #[.slice (some ⟨bk, off + 1, none⟩) 11 (cap - 1)] u fun x w' => x = .returned (.int .u64 (v1 : Int)) ∧ u = w' from fun u hu => by rw [hv1]; exact hnum u hu 1 11 (by omega) (by omega) (by omega))
  have HLE := Lib.hid (show ∀ u, Below w.heap.size w u → Calls Tryd.prog 69 #[.slice (some ⟨bk, off + 35, none⟩) 4 (cap - 35)] u fun x w' => x = .returned (.int .i64 (m : Int)) ∧ Below u.heap.size u w' from fun u hu => by
    rw [hm]
    exact ref6length_any _ _ _ _ u (hsub u hu 35 4 (by omega) (by omega)) (subL_length bs 35 4 (by omega)))
  obtain ⟨v2, hv2⟩ : ∃ v2, v2 = numP (bitsOf (subL bs 14 18)) := ⟨_, rfl⟩
  have hv2l : v2 < 262144 := by rw [hv2]; exact hlt 14 18 (by omega) (by omega)
  have HN2 := Lib.hid (show ∀ u, Below w.heap.size w u → Calls Tryd.prog 68 #[.slice (some ⟨bk, off + 14, none⟩) 18 (cap - 14)] u fun x w' => x = .returned (.int .u64 (v2 : Int)) ∧ u = w' from fun u hu => by rw [hv2]; exact hnum u hu 14 18 (by omega) (by omega) (by omega))
  have HA32 := Lib.hid (show ∀ u, Below w.heap.size w u → Calls Tryd.prog 66 #[.slice (some ⟨bk, off, none⟩) n cap, .int .i64 32] u fun x w' => x = .returned (.bool q) ∧ Below u.heap.size u w' from fun u hu => by rw [hq]; exact hat u hu 32 (by omega))
  have HVV := Lib.hid (show bits BinOp.or IntKind.u32 ((v1 : Int) * 262144) (v2 : Int) = (V : Int) by
    have hVe : V = v1 * 262144 + v2 := by rw [hV, hv1, hv2]; rfl
    rw [hVe, show (v1 : Int) * 262144 = ((v1 * 262144 : Nat) : Int) by omega, u32_or_nat _ _ (by omega) (by omega), or_plus _ _ hv2l])
  have w2' : IntKind.u32.wrap (v2 : Int) = (v2 : Int) := by rw [IntKind.wrap_u32]; omega
  have HSI := Lib.hid (show ∀ u, Below w.heap.size w u → Calls Tryd.prog 25 #[.slice (some ⟨bk, off, none⟩) len cap] u fun x w' => x = .returned (.tuple #[.int .i64 (n : Int), .bool true]) ∧ Below u.heap.size u w' from fun u hu => (ref6Size_any _ len cap bs u ((hI.below hu).mono hu.size)).mono fun x w' hx => by
    rw [hs] at hx
    exact hx)
  have hst : ∀ u, Below w.heap.size w u → Str u.heap.size u (.slice (some ⟨bk, off, none⟩) n cap) (bs.take n) := fun u hu => ((hI.below hu).mono hu.size).take (by omega)
  have HWH := Lib.hid (show ∀ u, Below w.heap.size w u → Calls Tryd.prog 67 #[.slice (some ⟨bk, off, none⟩) n cap] u fun x w' => x = .returned (.bool true) ∧ Below u.heap.size u w' from fun u hu => (refWhole_any _ n cap (bs.take n) u (hst u hu)).mono fun x w' hx => by
    have e := wholeB_eq (bs.take n) (by rw [List.length_take]; omega)
    unfold wholeB at e
    rw [e, decide_eq_true hc] at hx
    exact hx)
  have HPO := Lib.hid hpo; have HNK := Lib.hid hnK
  have HLT := Lib.hid hlt; have HNB := Lib.hid hn
  have w1' : IntKind.u32.wrap (v1 : Int) = (v1 : Int) := by rw [IntKind.wrap_u32]; omega
  have i0 : (0 : Int) < (len : Int) := by omega
  have i1 : ¬ (len : Int) < (n : Int) := by omega
  have i2 : (n : Int) ≤ (cap : Int) := by omega
  have i3 : (0 : Int) ≤ (n : Int) := by omega
  have i4 : (12 : Int) ≤ (cap : Int) := by omega
  have i5 : (39 : Int) ≤ (cap : Int) := by omega
  have j1 : cap ≠ 1 := by omega
  have j2 : cap ≠ 35 := by omega
  have i6 : (32 : Int) ≤ (cap : Int) := by omega
  have j3 : cap ≠ 14 := by omega
  have hcapn : n ≤ cap := by omega
  obtain ⟨wr, hwr⟩ : ∃ wr, wr = w.alloc (.cells #[.bool false, .int .u32 0, .bool false, .int .i64 0, .int .u8 0, .int .u8 0, .int .u8 0, .int .u8 0, .int .u8 0, .int .u8 0, .int .u8 0, .int .u8 0] 27) := ⟨_, rfl⟩
  have HB0 := Lib.hid (show Below w.heap.size w wr by rw [hwr]; exact (Below.refl _ w).alloc (Nat.le_refl _) _)
  have HQ0 := Lib.hid (show Blk wr w.heap.size 27 (frameC false 0 false 0 [0, 0, 0, 0, 0, 0, 0, 0]) by rw [hwr]; exact Blk.new w _ _)
  have HKQ := Lib.hid hKq; have HM := Lib.hid hm; have HLEN := Lib.hid hlen
  clear hI h0 hs hn hc hl he hpo hsz hq hV hK hKq hsub hnum hlt hat hst hnK hv1 hb12 hm hlen hlc hv2
  go_enter Tryd.func23, Tryd.ntmps23
  go_wp2_with fail
  rw [← hwr]
  clear hwr
  refine (HA0.out _ HB0.out).mono ?_
  rintro x w1 ⟨rfl, hb⟩
  have HB1 := Lib.hid (below_trans' HB0.out hb)
  have HQ1 := Lib.hid (HQ0.out.keep hb HQ0.out.lt)
  clear hb
  go_wp2_with fail
  refine (HSI.out _ HB1.out).mono ?_
  rintro x w2 ⟨rfl, hb⟩
  have HB2 := Lib.hid (below_trans' HB1.out hb)
  have HQ2 := Lib.hid (HQ1.out.keep hb HQ1.out.lt)
  clear hb
  go_wp2_with fail
  refine (HWH.out _ HB2.out).mono ?_
  rintro x w3 ⟨rfl, hb⟩
  have HB3 := Lib.hid (below_trans' HB2.out hb)
  have HQ3 := Lib.hid (HQ2.out.keep hb HQ2.out.lt)
  clear hb
  go_wp2_with fail
  refine (HN1.out _ HB3.out).mono ?_
  rintro x w4 ⟨rfl, rfl⟩
  go_wp2_with fail
  refine (HA12.out _ HB3.out).mono ?_
  rintro x w5 ⟨rfl, hb⟩
  have HB5 := Lib.hid (below_trans' HB3.out hb)
  have HQ5 := Lib.hid (HQ3.out.keep hb HQ3.out.lt)
  clear hb
  obtain ⟨w6, hw6⟩ : ∃ w6, w6 = w5.alloc (.cells #[.bool false, .int .u32 (v1 : Int), .bool b12, .int .i64 0, .int .u8 0, .int .u8 0, .int .u8 0, .int .u8 0, .int .u8 0, .int .u8 0, .int .u8 0, .int .u8 0] 27) := ⟨_, rfl⟩
  have HB6 := Lib.hid (show Below w.heap.size w w6 by rw [hw6]; exact HB5.out.alloc HB5.out.size _)
  have HQ6 := Lib.hid (show Blk w6 w.heap.size 27 (frameC false 0 false 0 [0, 0, 0, 0, 0, 0, 0, 0]) by rw [hw6]; exact HQ5.out.keep ((Below.refl _ w5).alloc (Nat.le_refl _) _) HQ5.out.lt)
  have HF6 := Lib.hid (show FrameAt w6 w5.heap.size false v1 b12 0 [0, 0, 0, 0, 0, 0, 0, 0] by rw [hw6]; exact FrameAt.new w5 27 false v1 b12 0 [0, 0, 0, 0, 0, 0, 0, 0] rfl)
  have hbb : w.heap.size < w5.heap.size := HQ5.out.lt
  have hlt6 : w5.heap.size < w6.heap.size := by rw [hw6]; simp
  go_wp2_with fail
  rw [← hw6]
  clear hw6
  refine (HA13.out _ HB6.out).mono ?_
  rintro x w7 ⟨rfl, hb⟩
  have HB7 := Lib.hid (below_trans' HB6.out hb)
  have HQ7 := Lib.hid (HQ6.out.keep hb HQ6.out.lt)
  have HF7 := Lib.hid (HF6.out.keep hb hlt6)
  have hlt7 : w5.heap.size < w7.heap.size := by have := hb.size; omega
  obtain ⟨c0, c1, c2, c3, c4, c5, c6, c7, c8, c9, c10, c11⟩ := HF7.out.cells
  obtain ⟨g0, g1, g2, g3, g4, g5, g6, g7, g8, g9, g10, g11⟩ := HF7.out.frz
  clear hb
  go_wp2_with fail
  go_region_with (go_at_call 68; refine (HN2.out _ (by first | exact HB7.out | exact HB7.out.drew)).mono ?_; rintro x w' ⟨rfl, rfl⟩)
  all_goals
    go_wp2_with fail
    rw [HVV.out]
    obtain ⟨wa, hwa⟩ : ∃ wa, wa = ((w7.setCell ⟨w5.heap.size, 0, none⟩ (.bool true)).setCell ⟨w5.heap.size, 1, none⟩ (.int .u32 (V : Int))).drew := ⟨_, rfl⟩
    have HFa := Lib.hid (show FrameAt wa w5.heap.size true V b12 0 [0, 0, 0, 0, 0, 0, 0, 0] by rw [hwa]; exact ((HF7.out.setE true).setN V).drawn)
    have HBa := Lib.hid (show Below w.heap.size w wa by rw [hwa]; exact ((HB7.out.setCell (p := ⟨w5.heap.size, 0, none⟩) (by show w.heap.size ≤ w5.heap.size; omega) _).setCell (p := ⟨w5.heap.size, 1, none⟩) (by show w.heap.size ≤ w5.heap.size; omega) _).drew)
    have HQa := Lib.hid (show Blk wa w.heap.size 27 (frameC false 0 false 0 [0, 0, 0, 0, 0, 0, 0, 0]) by rw [hwa]; exact HQ7.out.keep (n := w5.heap.size) (((Below.refl w5.heap.size w7).setCell (p := ⟨w5.heap.size, 0, none⟩) (Nat.le_refl _) _).setCell (p := ⟨w5.heap.size, 1, none⟩) (Nat.le_refl _) _).drew hbb)
    have hlta : w5.heap.size < wa.heap.size := by rw [hwa]; show w5.heap.size < (World.setCell _ _ _).heap.size; simp only [setCell_size2]; exact hlt7
    rw [← hwa]
    clear hwa c0 c1 c2 c3 c4 c5 c6 c7 c8 c9 c10 c11 g0 g1 g2 g3 g4 g5 g6 g7 g8 g9 g10 g11
    refine (HA32.out _ HBa.out).mono ?_
    rintro x wb ⟨rfl, hb⟩
    have HBb' := Lib.hid (below_trans' HBa.out hb)
    have HFb' := Lib.hid (HFa.out.keep hb hlta)
    have HQb' := Lib.hid (HQa.out.keep hb HQa.out.lt)
    have hltb' : w5.heap.size < wb.heap.size := by have := hb.size; omega
    obtain ⟨wd, hwd⟩ : ∃ wd, wd = wb.setCell ⟨w5.heap.size, 2, none⟩ (.bool q) := ⟨_, rfl⟩
    have HFd := Lib.hid (show FrameAt wd w5.heap.size true V q 0 [0, 0, 0, 0, 0, 0, 0, 0] by rw [hwd]; exact HFb'.out.setR q)
    have HBd := Lib.hid (show Below w.heap.size w wd by rw [hwd]; exact HBb'.out.setCell (p := ⟨w5.heap.size, 2, none⟩) (by show w.heap.size ≤ w5.heap.size; omega) _)
    have HQd := Lib.hid (show Blk wd w.heap.size 27 (frameC false 0 false 0 [0, 0, 0, 0, 0, 0, 0, 0]) by rw [hwd]; exact HQb'.out.keep (n := w5.heap.size) ((Below.refl w5.heap.size wb).setCell (p := ⟨w5.heap.size, 2, none⟩) (Nat.le_refl _) _) hbb)
    have hltd : w5.heap.size < wd.heap.size := by rw [hwd]; simp only [setCell_size2]; exact hltb'
    obtain ⟨c0, c1, c2, c3, c4, c5, c6, c7, c8, c9, c10, c11⟩ := HFb'.out.cells
    obtain ⟨g0, g1, g2, g3, g4, g5, g6, g7, g8, g9, g10, g11⟩ := HFb'.out.frz
    have HWD := Lib.hid hwd
    clear hb hwd
    go_wp2_with fail
    rw [← HWD.out]
    refine (HLE.out _ HBd.out).mono ?_
    rintro x w8 ⟨rfl, hb⟩
    have HB8 := Lib.hid (below_trans' HBd.out hb)
    have HQ8 := Lib.hid (HQd.out.keep hb HQd.out.lt)
    have HF8 := Lib.hid (HFd.out.keep hb hltd)
    have hlt8 : w5.heap.size < w8.heap.size := by have := hb.size; omega
    obtain ⟨w9, hw9⟩ : ∃ w9, w9 = w8.setCell ⟨w5.heap.size, 3, none⟩ (.int .i64 (m : Int)) := ⟨_, rfl⟩
    have HF9 := Lib.hid (show FrameAt w9 w5.heap.size true V q (m : Int) [0, 0, 0, 0, 0, 0, 0, 0] by rw [hw9]; skip; exact HF8.out.setL (m : Int))
    have HB9 := Lib.hid (show Below w.heap.size w w9 by rw [hw9]; exact HB8.out.setCell (p := ⟨w5.heap.size, 3, none⟩) (by show w.heap.size ≤ w5.heap.size; omega) _)
    have HQ9 := Lib.hid (show Blk w9 w.heap.size 27 (frameC false 0 false 0 [0, 0, 0, 0, 0, 0, 0, 0]) by rw [hw9]; exact HQ8.out.keep (n := w5.heap.size) ((Below.refl w5.heap.size w8).setCell (p := ⟨w5.heap.size, 3, none⟩) (Nat.le_refl _) _) hbb)
    have hlt9 : w5.heap.size < w9.heap.size := by rw [hw9]; simp only [setCell_size2]; exact hlt8
    clear c0 c1 c2 c3 c4 c5 c6 c7 c8 c9 c10 c11 g0 g1 g2 g3 g4 g5 g6 g7 g8 g9 g10 g11
    obtain ⟨c0, c1, c2, c3, c4, c5, c6, c7, c8, c9, c10, c11⟩ := HF8.out.cells
    obtain ⟨g0, g1, g2, g3, g4, g5, g6, g7, g8, g9, g10, g11⟩ := HF8.out.frz
    have HW9 := Lib.hid hw9
    clear hb hw9
    go_wp2_with fail
    clear c0 c1 c2 c3 c4 c5 c6 c7 c8 c9 c10 c11 g0 g1 g2 g3 g4 g5 g6 g7 g8 g9 g10 g11
    rw [← HW9.out]
    go_loopw [9] (fun i wr => ∃ k : Nat, i = .int .i64 k ∧ k ≤ K ∧ FrameAt wr w5.heap.size true V q (m : Int) (dataOf (bitsOf bs) 39 k) ∧ Blk wr w.heap.size 27 (frameC false 0 false 0 [0, 0, 0, 0, 0, 0, 0, 0]) ∧ Below w.heap.size w wr ∧ w5.heap.size < wr.heap.size) (fun i _ => K - (intOf i).toNat)
    case atStart => exact ⟨0, rfl, Nat.zero_le _, by rw [show dataOf (bitsOf bs) 39 0 = [0, 0, 0, 0, 0, 0, 0, 0] by simp [dataOf, List.range, List.range.loop]]; exact HF9.out, HQ9.out, HB9.out, hlt9⟩
    case round =>
      obtain ⟨k, rfl, hk, hF, hQ, hB, hltr⟩ := hrel
      have HF := Lib.hid hF; have HQ := Lib.hid hQ; have HB := Lib.hid hB
      have c2 := hF.c2; have c3 := hF.c3
      clear hF hQ hB
      by_cases hkK : k < K
      · have hqf : q = false := by
          cases q
          · rfl
          · have := HKQ.out.1 rfl; omega
        subst hqf
        have a1 : (k : Int) < (m : Int) := by omega
        obtain ⟨z, hz⟩ : ∃ z, z = 8 * k := ⟨_, rfl⟩
        obtain ⟨p, hp⟩ : ∃ p, p = 39 + z := ⟨_, rfl⟩
        obtain ⟨t, ht⟩ : ∃ t, t = p + 8 := ⟨_, rfl⟩
        have htn : t ≤ n := by rw [HNK.out]; omega
        have a2 : (8 : Int) * (k : Int) = (z : Int) := by omega
        have a3 : IntKind.i64.wrap (z : Int) = (z : Int) := by rw [IntKind.wrap_i64]; omega
        have a4 : (39 : Int) + (z : Int) = (p : Int) := by omega
        have a5 : IntKind.i64.wrap (p : Int) = (p : Int) := by rw [IntKind.wrap_i64]; omega
        have a6 : (p : Int) + 8 = (t : Int) := by omega
        have a7 : IntKind.i64.wrap (t : Int) = (t : Int) := by rw [IntKind.wrap_i64]; omega
        have a8 : (0 : Int) ≤ (p : Int) := by omega
        have a9 : (p : Int) ≤ (t : Int) := by omega
        have b1 : (t : Int) ≤ (cap : Int) := by omega
        have b2 : t - p = 8 := by omega
        have b3 : cap ≠ p := by omega
        have b4 : (0 : Int) ≤ (k : Int) := by omega
        have b5 : (k : Int) < 8 := by omega
        obtain ⟨y, hy⟩ : ∃ y, y = numP (bitsOf (subL bs p 8)) := ⟨_, rfl⟩
        have HNY := Lib.hid (show Calls Tryd.prog 68 #[.slice (some ⟨bk, off + p, none⟩) 8 (cap - p)] wr fun x w' => x = .returned (.int .u64 (y : Int)) ∧ wr = w' from by rw [hy]; exact HNUM.out wr HB.out p 8 (by omega) (by omega) (by omega))
        have hyl : y < 256 := by rw [hy]; exact HLT.out p 8 (by omega) (by have := HNB.out; omega)
        have b6 : IntKind.u8.wrap (y : Int) = (y : Int) := by rw [IntKind.wrap_u8]; omega
        have c4 := HF.out.cd k (by omega)
        have f4 := HF.out.fz (4 + k) (by omega)
        have HSD := Lib.hid (HF.out.setD (by simp [dataOf]) k y (by omega))
        have HDE := Lib.hid (show (dataOf (bitsOf bs) 39 k).set k y = dataOf (bitsOf bs) 39 (k + 1) by
          rw [hy, ← subL_bits, hp, hz]
          exact dataOf_set _ _ _)
        have HBS := Lib.hid (show Below w.heap.size w (wr.setCell ⟨w5.heap.size, 4 + k, none⟩ (.int .u8 (y : Int))) from HB.out.setCell (p := ⟨w5.heap.size, 4 + k, none⟩) (by show w.heap.size ≤ w5.heap.size; omega) _)
        have HQS := Lib.hid (show Blk (wr.setCell ⟨w5.heap.size, 4 + k, none⟩ (.int .u8 (y : Int))) w.heap.size 27 (frameC false 0 false 0 [0, 0, 0, 0, 0, 0, 0, 0]) from HQ.out.keep (n := w5.heap.size) ((Below.refl w5.heap.size wr).setCell (p := ⟨w5.heap.size, 4 + k, none⟩) (Nat.le_refl _) _) hbb)
        clear hy hz hp ht
        go_wp2_with fail
        refine HNY.out.mono ?_
        rintro x w' ⟨rfl, rfl⟩
        go_wp2_with fail
        go_roundw
        case rel => exact ⟨k + 1, by simp, by omega, by rw [← HDE.out]; exact HSD.out, HQS.out, HBS.out, by simp only [setCell_size2]; exact hltr⟩
        case measure => simp [intOf]; omega
      · obtain rfl : k = K := by omega
        have hcase : (¬ (k : Int) < (m : Int)) ∨ ((k : Int) < (m : Int) ∧ q = true) := by
          by_cases h : k < m
          · right
            refine ⟨by omega, ?_⟩
            cases q
            · have := HKQ.out.2 rfl; omega
            · rfl
          · exact .inl (by omega)
        obtain ⟨x0, x1, x2, x3, x4, x5, x6, x7, hX⟩ := eight (data := dataOf (bitsOf bs) 39 k) (by simp [dataOf])
        have HFX := Lib.hid (show FrameAt wr w5.heap.size true V q (m : Int) [x0, x1, x2, x3, x4, x5, x6, x7] by rw [← hX]; exact HF.out)
        have HX := Lib.hid hX
        clear hX c2 c3
        obtain ⟨c0, c1, c2, c3, c4, c5, c6, c7, c8, c9, c10, c11⟩ := HFX.out.cells
        obtain ⟨z0, z1, z2, z3, z4, z5, z6, z7, z8, z9, z10, z11⟩ := (HQ.out.at rfl).cells
        obtain ⟨f0, f1, f2, f3, f4, f5, f6, f7, f8, f9, f10, f11⟩ := (HQ.out.at rfl).frz
        have hcase2 : (¬ (k : Int) < (m : Int)) ∨ ((k : Int) < (m : Int) ∧ (!q) = false) := by
          rcases hcase with h | ⟨h, h2⟩
          · exact .inl h
          · exact .inr ⟨h, by rw [h2]; rfl⟩
        clear hcase
        rcases hcase2 with a1 | ⟨a1, a2⟩
        all_goals
          go_wp2_with fail
          refine bodyPost_ret (v := .tuple #[.agg #[.bool true, .int .u32 (V : Int), .bool q, .int .i64 (m : Int), .int .u8 (x0 : Int), .int .u8 (x1 : Int), .int .u8 (x2 : Int), .int .u8 (x3 : Int), .int .u8 (x4 : Int), .int .u8 (x5 : Int), .int .u8 (x6 : Int), .int .u8 (x7 : Int)], .int .i64 (n : Int), .int .i64 0]) (by simp [results, Tryd.results23, go_sem, World.cell?_setCell_same', z0, z1, z2, z3, z4, z5, z6, z7, z8, z9, z10, z11]) rfl ⟨by rw [HPO.out, HX.out]; rfl, below12 (Nat.le_refl _) HB.out _ _ _ _ _ _ _ _ _ _ _ _⟩
theorem ref6Parse_any (a : Option Addr) (len cap : Nat) (bs : List Nat) (hl : bs.length ≤ 1000) (w : World) (hI : Str w.heap.size w (.slice a len cap) bs) : Calls Tryd.prog 23 #[.slice a len cap] w fun x w' => x = .returned (prV (parseB (bitsOf bs))) ∧ Below w.heap.size w w' := by
  by_cases h0 : bs[0]?.getD 0 = 0
  · cases hs : sizeB (bitsOf bs) with
    | none =>
      rw [parse_none bs h0 hs]
      exact ref6Parse_none a len cap bs h0 hs w hI
    | some n =>
      by_cases hn : bs.length < n
      · rw [parse_short bs h0 n hs hn]
        exact ref6Parse_short a len cap bs h0 n hs hn w hI
      · by_cases hc : crcOf (bitsOf (bs.take n)) 0 = 0
        · cases he : decide (bs[13]?.getD 0 ≠ 0) with
          | false => exact ref6Parse_std a len cap bs h0 n hs (by omega) hc hl he w hI
          | true => exact ref6Parse_ext a len cap bs h0 n hs (by omega) hc hl he w hI
        · rw [parse_crc bs h0 n hs (by omega) hc]
          exact ref6Parse_crc a len cap bs h0 n hs (by omega) hc w hI
  · have hn : 0 < bs.length := by
      cases bs
      · exact absurd rfl h0
      · simp
    rw [parse_one bs h0]
    exact ref6Parse_one a len cap bs hn h0 w hI
end Go.Proofs.YtmfnkfiocnngeaaDoor
