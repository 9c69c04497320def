/- The code of package frame: what bits are as a body. Conditions: not more than a thousand bits. -/
import Derived.Test.YtmfnkfiocnngeaaDoorFci
import Derived.Test.YtmfnkfiocnngeaaDoorFcf
namespace Go.Proofs.YtmfnkfiocnngeaaDoor
open Go.RowKit Go.Shelf
/-- What Parse answers, as a value. -/
def prV : Except Nat (Bool × Nat × Bool × Nat × List Nat × Nat) → Value
  | .error c => .tuple #[frameV false 0 false 0 [0, 0, 0, 0, 0, 0, 0, 0], .int .i64 0, .int .i64 (c : Int)]
  | .ok (e, n, r, len, data, k) => .tuple #[frameV e n r (len : Int) data, .int .i64 (k : Int), .int .i64 0]
theorem bits_get (bs : List Nat) (i : Nat) : (bitsOf bs)[i]?.getD 0 = if bs[i]?.getD 0 = 0 then 0 else 1 := by
  have h := bitsOf_zero bs i
  by_cases c : bs[i]?.getD 0 = 0
  · rw [if_pos c, h.mpr c]
  · rw [if_neg c]
    have h2 : (bitsOf bs)[i]?.getD 0 ≤ 1 := by
      by_cases hi : i < (bitsOf bs).length
      · rw [List.getElem?_eq_getElem hi]
        exact bitsOf_le bs _ (List.getElem_mem hi)
      · rw [List.getElem?_eq_none (by omega)]; simp
    have h3 := fun h' => c (h.mp h')
    omega
theorem parse_one (bs : List Nat) (h : bs[0]?.getD 0 ≠ 0) : parseB (bitsOf bs) = .error 3 := by
  unfold parseB
  rw [if_pos (by rw [bits_get, if_neg h])]
theorem parse_none (bs : List Nat) (h : bs[0]?.getD 0 = 0) (hs : sizeB (bitsOf bs) = none) : parseB (bitsOf bs) = .error 2 := by
  unfold parseB
  rw [if_neg (by rw [bits_get, if_pos h]; decide), hs]
theorem parse_short (bs : List Nat) (h : bs[0]?.getD 0 = 0) (n : Nat) (hs : sizeB (bitsOf bs) = some n) (hn : bs.length < n) : parseB (bitsOf bs) = .error 2 := by
  unfold parseB
  rw [if_neg (by rw [bits_get, if_pos h]; decide), hs]
  simp only
  rw [if_pos (by rw [bitsOf_length]; exact hn)]
theorem parse_crc (bs : List Nat) (h : bs[0]?.getD 0 = 0) (n : Nat) (hs : sizeB (bitsOf bs) = some n) (hn : n ≤ bs.length) (hc : crcOf (bitsOf (bs.take n)) 0 ≠ 0) : parseB (bitsOf bs) = .error 5 := by
  have e : bitsOf (bs.take n) = (bitsOf bs).take n := by simp [bitsOf]
  rw [e] at hc
  unfold parseB
  rw [if_neg (by rw [bits_get, if_pos h]; decide), hs]
  simp only
  rw [if_neg (by rw [bitsOf_length]; omega), if_neg hc]
theorem parse_ok (bs : List Nat) (h : bs[0]?.getD 0 = 0) (e : Bool) (he : e = decide (bs[13]?.getD 0 ≠ 0)) (R L : Nat) (hR : R = if e then 32 else 12) (hL : L = if e then 35 else 15) (n : Nat) (hs : sizeB (bitsOf bs) = some n) (hn : n ≤ bs.length) (hc : crcOf (bitsOf (bs.take n)) 0 = 0) :
    parseB (bitsOf bs) = .ok (e, idN e bs, decide (bs[R]?.getD 0 ≠ 0), min 8 (numP (bitsOf (subL bs L 4))), dataOf (bitsOf bs) (L + 4) (if bs[R]?.getD 0 ≠ 0 then 0 else min 8 (numP (bitsOf (subL bs L 4)))), n) := by
  have e0 : bitsOf (bs.take n) = (bitsOf bs).take n := by simp [bitsOf]
  rw [e0] at hc
  have hask : ∀ i, decide ((bitsOf bs)[i]?.getD 0 = 1) = decide (bs[i]?.getD 0 ≠ 0) := fun i => by
    rw [bits_get]
    by_cases c : bs[i]?.getD 0 = 0
    · rw [if_pos c, decide_eq_false (by decide : ¬ (0 : Nat) = 1), decide_eq_false (not_not_intro c)]
    · rw [if_neg c, decide_eq_true rfl, decide_eq_true c]
  have hask2 : ∀ i (a b : Nat), (if (bitsOf bs)[i]?.getD 0 = 1 then a else b) = (if bs[i]?.getD 0 ≠ 0 then a else b) := fun i a b => by
    rw [bits_get]
    by_cases c : bs[i]?.getD 0 = 0
    · rw [if_pos c, if_neg (by decide), if_neg (not_not_intro c)]
    · rw [if_neg c, if_pos rfl, if_pos c]
  unfold parseB
  rw [if_neg (by rw [bits_get, if_pos h]; decide), hs]
  simp only
  rw [if_neg (by rw [bitsOf_length]; omega), if_pos hc]
  by_cases h13 : bs[13]?.getD 0 = 0
  · have he' : e = false := by rw [he]; simp [h13]
    subst he'
    have hR' : R = 12 := hR
    have hL' : L = 15 := hL
    subst hR' hL'
    rw [if_pos (by rw [bits_get, if_pos h13]), hask, hask2]
    simp only [idN, subL_bits]
    rfl
  · have he' : e = true := by rw [he]; simp [h13]
    subst he'
    have hR' : R = 32 := hR
    have hL' : L = 35 := hL
    subst hR' hL'
    rw [if_neg (by rw [bits_get, if_neg h13]; decide), hask, hask2]
    simp only [idN, subL_bits]
    rfl
set_option maxRecDepth 100000 in
set_option maxHeartbeats 4000000 in
theorem frameParse_one (a : Option Addr) (len cap : Nat) (bs : List Nat) (hn : 0 < bs.length) (h : bs[0]?.getD 0 ≠ 0) (w : World) (hI : Str w.heap.size w (.slice a len cap) bs) : Calls Tryd.prog 22 #[.slice a len cap] w fun x w' => x = .returned (prV (.error 3)) ∧ Below w.heap.size w w' := by
  obtain rfl := hI.len
  obtain ⟨bk, off, rfl, hbk, hc⟩ := hI.at hn
  obtain ⟨x, hx⟩ : ∃ x, x = bs[0]?.getD 0 := ⟨_, rfl⟩
  rw [← hx] at hc h
  have i1 : (0 : Int) < (bs.length : Int) := by omega
  have i2 : ((x : Int) != 0) = true := by simp; omega
  have c := hc _ ((Below.refl w.heap.size w).alloc (Nat.le_refl _) (.cells #[.bool false, .int .u32 0, .bool false, .int .i64 0, .int .u8 0, .int .u8 0, .int .u8 0, .int .u8 0, .int .u8 0, .int .u8 0, .int .u8 0, .int .u8 0] 27))
  rw [Nat.add_zero] at c
  clear hI hx h hc
  go_enter Tryd.func22, Tryd.ntmps22
  go_wp2_with fail
  exact bodyPost_ret (v := prV (.error 3)) (by simp [results, Tryd.results22, go_sem, prV, frameV, frameC]) rfl ⟨rfl, (Below.refl _ w).alloc (Nat.le_refl _) _⟩
theorem cell12 {W : World} {B C : Nat} (h : B ≠ C) (o : Nat) (v0 v1 v2 v3 v4 v5 v6 v7 v8 v9 v10 v11 : Value) : ((((((((((((W.setCell ⟨B, 0, none⟩ v0).setCell ⟨B, 1, none⟩ v1).setCell ⟨B, 2, none⟩ v2).setCell ⟨B, 3, none⟩ v3).setCell ⟨B, 4, none⟩ v4).setCell ⟨B, 5, none⟩ v5).setCell ⟨B, 6, none⟩ v6).setCell ⟨B, 7, none⟩ v7).setCell ⟨B, 8, none⟩ v8).setCell ⟨B, 9, none⟩ v9).setCell ⟨B, 10, none⟩ v10).setCell ⟨B, 11, none⟩ v11).cell? ⟨C, o, none⟩ = W.cell? ⟨C, o, none⟩ :=
  World.cell?_setCells_out B [v0, v1, v2, v3, v4, v5, v6, v7, v8, v9, v10, v11] 0 W ⟨C, o, none⟩ (fun hb _ => absurd hb.symm h)
/-- The first test of Parse passes: what is laid of it. -/
theorem parse_first (bs : List Nat) (len cap : Nat) (a : Option Addr) (w : World) (hI : Str w.heap.size w (.slice a len cap) bs) (h0 : bs[0]?.getD 0 = 0) : len = 0 ∨ ∃ bk off, a = some ⟨bk, off, none⟩ ∧ bk < w.heap.size ∧ (0 : Int) < (len : Int) ∧ ∀ X, Below w.heap.size w X → X.cell? ⟨bk, off, none⟩ = some (.int .u8 0) := by
  obtain rfl := hI.len
  by_cases hn : 0 < bs.length
  · obtain ⟨bk, off, rfl, hbk, hc⟩ := hI.at hn
    rw [h0] at hc
    exact .inr ⟨bk, off, rfl, hbk, by omega, hc⟩
  · exact .inl (by omega)
set_option maxRecDepth 100000 in
set_option maxHeartbeats 4000000 in
theorem frameParse_few (a : Option Addr) (len cap : Nat) (bs : List Nat) (h0 : bs[0]?.getD 0 = 0) (h : bs.length ≤ 13) (w : World) (hI : Str w.heap.size w (.slice a len cap) bs) : Calls Tryd.prog 22 #[.slice a len cap] w fun x w' => x = .returned (prV (.error 2)) ∧ Below w.heap.size w w' := by
  have HO := Lib.hid (show ∀ u, Below w.heap.size w u → Calls Tryd.prog 62 #[.slice a len cap] u fun x w' => x = .returned (.tuple #[rdV false 0 0 (.slice none 0 0), .bool false]) ∧ Below u.heap.size u w' from fun u hu => open_few a len cap bs h u ((hI.below hu).mono hu.size))
  obtain ⟨wr, hwr⟩ : ∃ wr, wr = w.alloc (.cells #[.bool false, .int .u32 0, .bool false, .int .i64 0, .int .u8 0, .int .u8 0, .int .u8 0, .int .u8 0, .int .u8 0, .int .u8 0, .int .u8 0, .int .u8 0] 27) := ⟨_, rfl⟩
  have hB0 : Below w.heap.size w wr := by rw [hwr]; exact (Below.refl _ w).alloc (Nat.le_refl _) _
  have HB0 := Lib.hid hB0
  have HQ0 := Lib.hid (show Blk wr w.heap.size 27 (frameC false 0 false 0 [0, 0, 0, 0, 0, 0, 0, 0]) by rw [hwr]; exact Blk.new w _ _)
  have hz := parse_first bs len cap a w hI h0
  have hlen := hI.len
  have h13 : (len : Int) ≤ 13 := by omega
  clear hI h h0 hlen
  unfold rdV at HO
  rcases hz with rfl | ⟨bk, off, rfl, hbk, hpos, hc⟩
  · go_enter Tryd.func22, Tryd.ntmps22
    go_wp2_with fail
    rw [← hwr]
    clear hwr
    refine (HO.out _ HB0.out).mono ?_
    rintro x w1 ⟨rfl, hb⟩
    have HB1 := Lib.hid (below_trans' HB0.out hb)
    have hQ : Blk (w1.alloc (.cells #[.bool false, .int .i64 0, .int .i64 0, .slice none 0 0] 88)) w.heap.size 27 (frameC false 0 false 0 [0, 0, 0, 0, 0, 0, 0, 0]) := (HQ0.out.keep hb HQ0.out.lt).keep ((Below.refl _ w1).alloc (Nat.le_refl _) _) (by have := hb.size; have := HQ0.out.lt; omega)
    obtain ⟨z0, z1, z2, z3, z4, z5, z6, z7, z8, z9, z10, z11⟩ := (hQ.at rfl).cells
    obtain ⟨f0, f1, f2, f3, f4, f5, f6, f7, f8, f9, f10, f11⟩ := (hQ.at rfl).frz
    clear hb hQ hB0
    go_wp2_with fail
    refine bodyPost_ret (v := prV (.error 2)) (by simp [results, Tryd.results22, go_sem, World.cell?_setCell_same', z0, z1, z2, z3, z4, z5, z6, z7, z8, z9, z10, z11, prV, frameV, frameC]) rfl ⟨rfl, below12 (Nat.le_refl _) (HB1.out.alloc HB1.out.size _) _ _ _ _ _ _ _ _ _ _ _ _⟩
  · have c := hc _ hB0
    rw [hwr] at c
    clear hc
    go_enter Tryd.func22, Tryd.ntmps22
    go_wp2_with fail
    rw [← hwr]
    clear hwr c
    refine (HO.out _ HB0.out).mono ?_
    rintro x w1 ⟨rfl, hb⟩
    have HB1 := Lib.hid (below_trans' HB0.out hb)
    have hQ : Blk (w1.alloc (.cells #[.bool false, .int .i64 0, .int .i64 0, .slice none 0 0] 88)) w.heap.size 27 (frameC false 0 false 0 [0, 0, 0, 0, 0, 0, 0, 0]) := (HQ0.out.keep hb HQ0.out.lt).keep ((Below.refl _ w1).alloc (Nat.le_refl _) _) (by have := hb.size; have := HQ0.out.lt; omega)
    obtain ⟨z0, z1, z2, z3, z4, z5, z6, z7, z8, z9, z10, z11⟩ := (hQ.at rfl).cells
    obtain ⟨f0, f1, f2, f3, f4, f5, f6, f7, f8, f9, f10, f11⟩ := (hQ.at rfl).frz
    clear hb hQ hB0
    go_wp2_with fail
    refine bodyPost_ret (v := prV (.error 2)) (by simp [results, Tryd.results22, go_sem, World.cell?_setCell_same', z0, z1, z2, z3, z4, z5, z6, z7, z8, z9, z10, z11, prV, frameV, frameC]) rfl ⟨rfl, below12 (Nat.le_refl _) (HB1.out.alloc HB1.out.size _) _ _ _ _ _ _ _ _ _ _ _ _⟩
set_option maxRecDepth 100000 in
set_option maxHeartbeats 4000000 in
theorem frameParse_long (a : Option Addr) (len cap : Nat) (bs : List Nat) (h0 : bs[0]?.getD 0 = 0) (h : 13 < bs.length) (hl : bs.length ≤ 1000) (w : World) (hg0 : 1 < w.heap.size) (hT : Tab w) (hI : Str w.heap.size w (.slice a len cap) bs) : Calls Tryd.prog 22 #[.slice a len cap] w fun x w' => x = .returned (prV (parseB (bitsOf bs))) ∧ Below w.heap.size w w' := by
  obtain ⟨e, he⟩ : ∃ e, e = decide (bs[13]?.getD 0 ≠ 0) := ⟨_, rfl⟩
  obtain ⟨R, hR⟩ : ∃ R : Nat, R = if e then 32 else 12 := ⟨_, rfl⟩
  obtain ⟨L, hL⟩ : ∃ L : Nat, L = if e then 35 else 15 := ⟨_, rfl⟩
  have hRL : R + 3 ≤ L := by rw [hR, hL]; cases e <;> decide
  have heL : e = true → 32 ≤ L := fun h => by rw [hL, h]; decide
  have h15 : 15 ≤ L := by rw [hL]; cases e <;> decide
  have hsz := sizeB_long bs h e he R L hR hL
  obtain ⟨ok, hok⟩ : ∃ ok, ok = decide (L + 4 ≤ bs.length) := ⟨_, rfl⟩
  obtain ⟨V, hV⟩ : ∃ V, V = prV (parseB (bitsOf bs)) := ⟨_, rfl⟩
  rw [← hV]
  have HO := Lib.hid (show ∀ u, Below w.heap.size w u → Calls Tryd.prog 62 #[.slice a len cap] u fun x w' => x = .returned (.tuple #[rdV e R L (.slice a len cap), .bool ok]) ∧ Below u.heap.size u w' from fun u hu => by rw [hok]; exact open_any a len cap bs h u ((hI.below hu).mono hu.size) e he R L hR hL)
  have HT := Lib.hid hT; have HG0 := Lib.hid hg0; have HI := Lib.hid hI; have HV := Lib.hid hV
  obtain ⟨wr, hwr⟩ : ∃ wr, wr = w.alloc (.cells #[.bool false, .int .u32 0, .bool false, .int .i64 0, .int .u8 0, .int .u8 0, .int .u8 0, .int .u8 0, .int .u8 0, .int .u8 0, .int .u8 0, .int .u8 0] 27) := ⟨_, rfl⟩
  have hB0 : Below w.heap.size w wr := by rw [hwr]; exact (Below.refl _ w).alloc (Nat.le_refl _) _
  have HB0 := Lib.hid hB0
  have HQ0 := Lib.hid (show Blk wr w.heap.size 27 (frameC false 0 false 0 [0, 0, 0, 0, 0, 0, 0, 0]) by rw [hwr]; exact Blk.new w _ _)
  have hlen := hI.len
  obtain ⟨bk, off, rfl, hbk, hpos, hc⟩ := (parse_first bs len cap a w hI h0).resolve_left (by omega)
  unfold rdV at HO
  have c := hc _ hB0
  rw [hwr] at c
  have HOK := Lib.hid hok
  have HPN := Lib.hid (parse_none bs h0); have HPS := Lib.hid (parse_short bs h0); have HPC := Lib.hid (parse_crc bs h0); have HPO := Lib.hid (parse_ok bs h0 e he R L hR hL)
  have HSZ := Lib.hid hsz; have HLEN := Lib.hid hlen
  clear hI h0 hT hg0 hok hV hsz hlen he hR hL
  -- from the call of open on
  have key : ∀ w1, Below wr.heap.size wr w1 → ∃ W2, W2 = w1.alloc (.cells #[.bool e, .int .i64 (R : Int), .int .i64 (L : Int), .slice (some ⟨bk, off, none⟩) len cap] 88) ∧ Below w.heap.size w W2 ∧ w.heap.size < w1.heap.size ∧ Blk W2 w.heap.size 27 (frameC false 0 false 0 [0, 0, 0, 0, 0, 0, 0, 0]) ∧ Blk W2 w1.heap.size 88 [.bool e, .int .i64 (R : Int), .int .i64 (L : Int), .slice (some ⟨bk, off, none⟩) len cap] := fun w1 hb => by
    have h1 := HQ0.out.lt
    have h2 := hb.size
    exact ⟨_, rfl, (below_trans' HB0.out hb).alloc (by omega) _, by omega, (HQ0.out.keep hb h1).keep ((Below.refl _ w1).alloc (Nat.le_refl _) _) (by omega), Blk.new w1 _ _⟩
  have KEY := Lib.hid key
  cases ok
  · clear hc key
    have hbig : bs.length < L + 4 := by have := HOK.out; simp at this; omega
    go_enter Tryd.func22, Tryd.ntmps22
    go_wp2_with fail
    rw [← hwr]
    clear hwr c
    refine (HO.out _ HB0.out).mono ?_
    rintro x w1 ⟨rfl, hb⟩
    obtain ⟨W2, hW2, hB2, hs1, hQ, hR2⟩ := KEY.out w1 hb
    have HS1 := Lib.hid hs1
    clear hs1
    rw [hW2] at hQ
    obtain ⟨z0, z1, z2, z3, z4, z5, z6, z7, z8, z9, z10, z11⟩ := (hQ.at rfl).cells
    obtain ⟨f0, f1, f2, f3, f4, f5, f6, f7, f8, f9, f10, f11⟩ := (hQ.at rfl).frz
    have HB2 := Lib.hid hB2
    rw [hW2] at HB2
    clear hb hQ hB0 hW2 hB2 hR2
    go_wp2_with fail
    have HE := Lib.hid (show parseB (bitsOf bs) = .error 2 from HPN.out (by rw [HSZ.out, if_neg (by omega)]))
    refine bodyPost_ret (v := prV (.error 2)) (by simp [results, Tryd.results22, go_sem, World.cell?_setCell_same', z0, z1, z2, z3, z4, z5, z6, z7, z8, z9, z10, z11, prV, frameV, frameC]) rfl ⟨by rw [HV.out, HE.out], below12 (Nat.le_refl _) HB2.out _ _ _ _ _ _ _ _ _ _ _ _⟩
  · have hbig : L + 4 ≤ bs.length := by have := HOK.out; simpa using this.symm
    obtain ⟨n, hn⟩ : ∃ n, n = sumN bs R L + 15 := ⟨_, rfl⟩
    have hsize := HSZ.out
    rw [if_pos hbig, ← hn] at hsize
    have HSI := Lib.hid hsize; have HN := Lib.hid hn
    have hn1100 : n ≤ 1200 := by
      rw [hn]
      have : (if bs[R]?.getD 0 ≠ 0 then 0 else min 8 (numP (bitsOf (subL bs L 4)))) ≤ 8 := by split <;> omega
      unfold sumN
      omega
    have HSA := Lib.hid (show ∀ u, Below w.heap.size w u → Calls Tryd.prog 63 #[.agg #[.bool e, .int .i64 (R : Int), .int .i64 (L : Int), .slice (some ⟨bk, off, none⟩) len cap]] u fun x w' => x = .returned (.int .i64 (n : Int)) ∧ Below u.heap.size u w' from fun u hu => by
      rw [HN.out]; exact rdSize_any e R L _ len cap bs (by omega) hbig hl u ((HI.out.below hu).mono hu.size))
    clear hsize hn hc key
    have hnl : ∃ m : Nat, m = n := ⟨n, rfl⟩
    by_cases hlong : (n : Int) > (len : Int)
    · have HE := Lib.hid (show parseB (bitsOf bs) = .error 2 from HPS.out n HSI.out (by have := HLEN.out; omega))
      go_enter Tryd.func22, Tryd.ntmps22
      go_wp2_with fail
      rw [← hwr]
      clear hwr c
      refine (HO.out _ HB0.out).mono ?_
      rintro x w1 ⟨rfl, hb⟩
      obtain ⟨W2, hW2, hB2, hs1, hQ, hR2⟩ := KEY.out w1 hb
      have HS1 := Lib.hid hs1
      have HRC := Lib.hid (show ∀ u, Below W2.heap.size W2 u → u.cell? ⟨w1.heap.size, 0, none⟩ = some (.bool e) ∧ u.cell? ⟨w1.heap.size, 1, none⟩ = some (.int .i64 (R : Int)) ∧ u.cell? ⟨w1.heap.size, 2, none⟩ = some (.int .i64 (L : Int)) ∧ u.cell? ⟨w1.heap.size, 3, none⟩ = some (.slice (some ⟨bk, off, none⟩) len cap) from fun u hu => by
        have h := (hR2.keep hu hR2.lt).row
        exact ⟨h.cell (by simp), h.cell (by simp), h.cell (by simp), h.cell (by simp)⟩)
      have HB2 := Lib.hid hB2; have HQ2 := Lib.hid hQ; have HW2 := Lib.hid hW2
      obtain ⟨r0, r1, r2, r3⟩ := HRC.out W2 (Below.refl _ _)
      rw [hW2] at r0 r1 r2 r3
      clear hb hQ hB0 hB2 hR2 hs1 hW2
      go_wp2_with fail
      rw [← HW2.out]
      clear r0 r1 r2 r3
      refine (HSA.out _ HB2.out).mono ?_
      rintro x w3 ⟨rfl, hb3⟩
      have HB3 := Lib.hid (below_trans' HB2.out hb3)
      have hQ := HQ2.out.keep hb3 HQ2.out.lt
      obtain ⟨z0, z1, z2, z3, z4, z5, z6, z7, z8, z9, z10, z11⟩ := (hQ.at rfl).cells
      obtain ⟨f0, f1, f2, f3, f4, f5, f6, f7, f8, f9, f10, f11⟩ := (hQ.at rfl).frz
      clear hb3 hQ
      go_wp2_with fail
      refine bodyPost_ret (v := prV (.error 2)) (by simp [results, Tryd.results22, go_sem, World.cell?_setCell_same', z0, z1, z2, z3, z4, z5, z6, z7, z8, z9, z10, z11, prV, frameV, frameC]) rfl ⟨by rw [HV.out, HE.out], below12 (Nat.le_refl _) HB3.out _ _ _ _ _ _ _ _ _ _ _ _⟩
    · have hn1 : n ≤ bs.length := by have := HLEN.out; omega
      have hn2 : (n : Int) ≤ (cap : Int) := by have := HI.out.lenCap; have := HLEN.out; omega
      have hn3 : (0 : Int) ≤ (n : Int) := by omega
      have HWH := Lib.hid (show ∀ u, Below w.heap.size w u → Calls Tryd.prog 64 #[.slice (some ⟨bk, off, none⟩) n cap] u fun x w' => x = .returned (.bool (decide (crcOf (bitsOf (bs.take n)) 0 = 0))) ∧ Below u.heap.size u w' from fun u hu => by
        have hs : Str u.heap.size u (.slice (some ⟨bk, off, none⟩) n cap) (bs.take n) := ((HI.out.below hu).mono hu.size).take (by have := HLEN.out; omega)
        have h15 : 15 ≤ (bs.take n).length := by rw [List.length_take]; have := HN.out; omega
        refine (whole_any _ _ _ (bs.take n) (by rw [List.length_take]; omega) u (by have := hu.size; have := HG0.out; omega) (HT.out.onB hu HG0.out) hs).mono ?_
        rintro x w' h
        rw [← wholeB_eq _ h15]
        exact h)
      obtain ⟨g, hg⟩ : ∃ g, g = decide (crcOf (bitsOf (bs.take n)) 0 = 0) := ⟨_, rfl⟩
      rw [← hg] at HWH
      have HG := Lib.hid hg
      clear hg hnl
      go_enter Tryd.func22, Tryd.ntmps22
      go_wp2_with fail
      rw [← hwr]
      clear hwr c
      refine (HO.out _ HB0.out).mono ?_
      rintro x w1 ⟨rfl, hb⟩
      obtain ⟨W2, hW2, hB2, hs1, hQ, hR2⟩ := KEY.out w1 hb
      have HS1 := Lib.hid hs1
      have HRC := Lib.hid (show ∀ u, Below W2.heap.size W2 u → u.cell? ⟨w1.heap.size, 0, none⟩ = some (.bool e) ∧ u.cell? ⟨w1.heap.size, 1, none⟩ = some (.int .i64 (R : Int)) ∧ u.cell? ⟨w1.heap.size, 2, none⟩ = some (.int .i64 (L : Int)) ∧ u.cell? ⟨w1.heap.size, 3, none⟩ = some (.slice (some ⟨bk, off, none⟩) len cap) from fun u hu => by
        have h := (hR2.keep hu hR2.lt).row
        exact ⟨h.cell (by simp), h.cell (by simp), h.cell (by simp), h.cell (by simp)⟩)
      have HB2 := Lib.hid hB2; have HQ2 := Lib.hid hQ; have HW2 := Lib.hid hW2
      obtain ⟨r0, r1, r2, r3⟩ := HRC.out W2 (Below.refl _ _)
      rw [hW2] at r0 r1 r2 r3
      clear hb hQ hB0 hB2 hR2 hs1 hW2
      go_wp2_with fail
      rw [← HW2.out]
      clear r0 r1 r2 r3
      refine (HSA.out _ HB2.out).mono ?_
      rintro x w3 ⟨rfl, hb3⟩
      have HB3 := Lib.hid (below_trans' HB2.out hb3)
      have H23 := Lib.hid hb3
      obtain ⟨r0, r1, r2, r3⟩ := HRC.out _ hb3
      clear hb3
      go_wp2_with fail
      refine (HSA.out _ HB3.out).mono ?_
      rintro x w4 ⟨rfl, hb4⟩
      have HB4 := Lib.hid (below_trans' HB3.out hb4)
      have H24 := Lib.hid (below_trans' H23.out hb4)
      clear hb4 r0 r1 r2 r3
      go_wp2_with fail
      refine (HWH.out _ HB4.out).mono ?_
      rintro x w5 ⟨rfl, hb5⟩
      have HB5 := Lib.hid (below_trans' HB4.out hb5)
      have H25 := Lib.hid (below_trans' H24.out hb5)
      clear hb5
      cases g
      · have HE := Lib.hid (show parseB (bitsOf bs) = .error 5 from HPC.out n HSI.out hn1 (by have := HG.out; simpa using this))
        have hQ := HQ2.out.keep H25.out HQ2.out.lt
        obtain ⟨z0, z1, z2, z3, z4, z5, z6, z7, z8, z9, z10, z11⟩ := (hQ.at rfl).cells
        obtain ⟨f0, f1, f2, f3, f4, f5, f6, f7, f8, f9, f10, f11⟩ := (hQ.at rfl).frz
        clear hQ
        go_wp2_with fail
        refine bodyPost_ret (v := prV (.error 5)) (by simp [results, Tryd.results22, go_sem, World.cell?_setCell_same', z0, z1, z2, z3, z4, z5, z6, z7, z8, z9, z10, z11, prV, frameV, frameC]) rfl ⟨by rw [HV.out, HE.out], below12 (Nat.le_refl _) HB5.out _ _ _ _ _ _ _ _ _ _ _ _⟩
      · have hok := HPO.out n HSI.out hn1 (by have := HG.out; simpa using this.symm)
        obtain ⟨v, hv⟩ : ∃ v, v = idN e bs := ⟨_, rfl⟩
        obtain ⟨q, hq⟩ : ∃ q, q = decide (bs[R]?.getD 0 ≠ 0) := ⟨_, rfl⟩
        obtain ⟨m, hm⟩ : ∃ m, m = min 8 (numP (bitsOf (subL bs L 4))) := ⟨_, rfl⟩
        obtain ⟨D, hD⟩ : ∃ D, D = dataOf (bitsOf bs) (L + 4) (if bs[R]?.getD 0 ≠ 0 then 0 else min 8 (numP (bitsOf (subL bs L 4)))) := ⟨_, rfl⟩
        rw [← hD, ← hv, ← hq, ← hm] at hok
        have hd8 : D.length = 8 := by rw [hD]; simp [dataOf]
        have hF : ∀ u, Below w.heap.size w u → Calls Tryd.prog 65 #[rdV e R L (.slice (some ⟨bk, off, none⟩) len cap)] u fun x w' => x = .returned (frameV e v q (m : Int) D) ∧ Below u.heap.size u w' := fun u hu => by
          rw [hv, hq, hm, hD]
          exact rdFrame_any e R L _ len cap bs (by omega) (fun h => by have := heL h; omega) (by omega) hbig (by have := HN.out; omega) hl u ((HI.out.below hu).mono hu.size)
        obtain ⟨x0, x1, x2, x3, x4, x5, x6, x7, rfl⟩ := eight hd8
        have HOK2 := Lib.hid hok
        have hs1 := HS1.out
        have hst : ∀ u X, (Below w.heap.size w u ∧ w1.heap.size < u.heap.size ∧ u.cell? ⟨w1.heap.size, 0, none⟩ = some (.bool e) ∧ u.cell? ⟨w1.heap.size, 1, none⟩ = some (.int .i64 (R : Int)) ∧ u.cell? ⟨w1.heap.size, 2, none⟩ = some (.int .i64 (L : Int)) ∧ u.cell? ⟨w1.heap.size, 3, none⟩ = some (.slice (some ⟨bk, off, none⟩) len cap)) → Below u.heap.size u X → X.heap[w.heap.size]? = u.heap[w.heap.size]? ∧ (Below w.heap.size w X ∧ w1.heap.size < X.heap.size ∧ X.cell? ⟨w1.heap.size, 0, none⟩ = some (.bool e) ∧ X.cell? ⟨w1.heap.size, 1, none⟩ = some (.int .i64 (R : Int)) ∧ X.cell? ⟨w1.heap.size, 2, none⟩ = some (.int .i64 (L : Int)) ∧ X.cell? ⟨w1.heap.size, 3, none⟩ = some (.slice (some ⟨bk, off, none⟩) len cap)) := fun u X hu hb => by
          have h2 := hu.2.1
          have hc : ∀ o : Nat, X.cell? ⟨w1.heap.size, o, none⟩ = u.cell? ⟨w1.heap.size, o, none⟩ := fun o => hb.cell (p := ⟨w1.heap.size, o, none⟩) h2
          exact ⟨hb.block _ (by omega), below_mid hu.1 hb hu.1.size, by have := hb.size; omega, (hc 0).trans hu.2.2.1, (hc 1).trans hu.2.2.2.1, (hc 2).trans hu.2.2.2.2.1, (hc 3).trans hu.2.2.2.2.2⟩
        have HFF := Lib.hid (show ∀ u, (Below w.heap.size w u ∧ w1.heap.size < u.heap.size ∧ u.cell? ⟨w1.heap.size, 0, none⟩ = some (.bool e) ∧ u.cell? ⟨w1.heap.size, 1, none⟩ = some (.int .i64 (R : Int)) ∧ u.cell? ⟨w1.heap.size, 2, none⟩ = some (.int .i64 (L : Int)) ∧ u.cell? ⟨w1.heap.size, 3, none⟩ = some (.slice (some ⟨bk, off, none⟩) len cap)) → Calls Tryd.prog 65 #[.agg #[.bool e, .int .i64 (R : Int), .int .i64 (L : Int), .slice (some ⟨bk, off, none⟩) len cap]] u fun x w' => x = .returned (.agg #[.bool e, .int .u32 (v : Int), .bool q, .int .i64 (m : Int), .int .u8 (x0 : Int), .int .u8 (x1 : Int), .int .u8 (x2 : Int), .int .u8 (x3 : Int), .int .u8 (x4 : Int), .int .u8 (x5 : Int), .int .u8 (x6 : Int), .int .u8 (x7 : Int)]) ∧ w'.heap[w.heap.size]? = u.heap[w.heap.size]? ∧ (Below w.heap.size w w' ∧ w1.heap.size < w'.heap.size ∧ w'.cell? ⟨w1.heap.size, 0, none⟩ = some (.bool e) ∧ w'.cell? ⟨w1.heap.size, 1, none⟩ = some (.int .i64 (R : Int)) ∧ w'.cell? ⟨w1.heap.size, 2, none⟩ = some (.int .i64 (L : Int)) ∧ w'.cell? ⟨w1.heap.size, 3, none⟩ = some (.slice (some ⟨bk, off, none⟩) len cap)) from fun u hu => (hF u hu.1).mono fun _ _ h => ⟨h.1, hst _ _ hu h.2⟩)
        have HSS := Lib.hid (show ∀ u, (Below w.heap.size w u ∧ w1.heap.size < u.heap.size ∧ u.cell? ⟨w1.heap.size, 0, none⟩ = some (.bool e) ∧ u.cell? ⟨w1.heap.size, 1, none⟩ = some (.int .i64 (R : Int)) ∧ u.cell? ⟨w1.heap.size, 2, none⟩ = some (.int .i64 (L : Int)) ∧ u.cell? ⟨w1.heap.size, 3, none⟩ = some (.slice (some ⟨bk, off, none⟩) len cap)) → Calls Tryd.prog 63 #[.agg #[.bool e, .int .i64 (R : Int), .int .i64 (L : Int), .slice (some ⟨bk, off, none⟩) len cap]] u fun x w' => x = .returned (.int .i64 (n : Int)) ∧ w'.heap[w.heap.size]? = u.heap[w.heap.size]? ∧ (Below w.heap.size w w' ∧ w1.heap.size < w'.heap.size ∧ w'.cell? ⟨w1.heap.size, 0, none⟩ = some (.bool e) ∧ w'.cell? ⟨w1.heap.size, 1, none⟩ = some (.int .i64 (R : Int)) ∧ w'.cell? ⟨w1.heap.size, 2, none⟩ = some (.int .i64 (L : Int)) ∧ w'.cell? ⟨w1.heap.size, 3, none⟩ = some (.slice (some ⟨bk, off, none⟩) len cap)) from fun u hu => (HSA.out u hu.1).mono fun _ _ h => ⟨h.1, hst _ _ hu h.2⟩)
        have HQ5 := Lib.hid (HQ2.out.keep H25.out HQ2.out.lt)
        obtain ⟨r0, r1, r2, r3⟩ := HRC.out _ H25.out
        have k5 : Below w.heap.size w w5.drew ∧ w1.heap.size < w5.drew.heap.size ∧ w5.drew.cell? ⟨w1.heap.size, 0, none⟩ = some (.bool e) ∧ w5.drew.cell? ⟨w1.heap.size, 1, none⟩ = some (.int .i64 (R : Int)) ∧ w5.drew.cell? ⟨w1.heap.size, 2, none⟩ = some (.int .i64 (L : Int)) ∧ w5.drew.cell? ⟨w1.heap.size, 3, none⟩ = some (.slice (some ⟨bk, off, none⟩) len cap) := ⟨HB5.out.drew, by have h1 := H25.out.size; have h2 := HW2.out; rw [h2] at h1; show w1.heap.size < w5.heap.size; simp at h1; omega, r0, r1, r2, r3⟩
        have HST := Lib.hid (show ∀ u, (Below w.heap.size w u ∧ w1.heap.size < u.heap.size ∧ u.cell? ⟨w1.heap.size, 0, none⟩ = some (.bool e) ∧ u.cell? ⟨w1.heap.size, 1, none⟩ = some (.int .i64 (R : Int)) ∧ u.cell? ⟨w1.heap.size, 2, none⟩ = some (.int .i64 (L : Int)) ∧ u.cell? ⟨w1.heap.size, 3, none⟩ = some (.slice (some ⟨bk, off, none⟩) len cap)) → ∀ a0 a1 a2 a3 a4 a5 a6 a7 a8 a9 a10 a11 : Value, (Below w.heap.size w ((((((((((((u.setCell ⟨w.heap.size, 0, none⟩ a0).setCell ⟨w.heap.size, 1, none⟩ a1).setCell ⟨w.heap.size, 2, none⟩ a2).setCell ⟨w.heap.size, 3, none⟩ a3).setCell ⟨w.heap.size, 4, none⟩ a4).setCell ⟨w.heap.size, 5, none⟩ a5).setCell ⟨w.heap.size, 6, none⟩ a6).setCell ⟨w.heap.size, 7, none⟩ a7).setCell ⟨w.heap.size, 8, none⟩ a8).setCell ⟨w.heap.size, 9, none⟩ a9).setCell ⟨w.heap.size, 10, none⟩ a10).setCell ⟨w.heap.size, 11, none⟩ a11) ∧ w1.heap.size < ((((((((((((u.setCell ⟨w.heap.size, 0, none⟩ a0).setCell ⟨w.heap.size, 1, none⟩ a1).setCell ⟨w.heap.size, 2, none⟩ a2).setCell ⟨w.heap.size, 3, none⟩ a3).setCell ⟨w.heap.size, 4, none⟩ a4).setCell ⟨w.heap.size, 5, none⟩ a5).setCell ⟨w.heap.size, 6, none⟩ a6).setCell ⟨w.heap.size, 7, none⟩ a7).setCell ⟨w.heap.size, 8, none⟩ a8).setCell ⟨w.heap.size, 9, none⟩ a9).setCell ⟨w.heap.size, 10, none⟩ a10).setCell ⟨w.heap.size, 11, none⟩ a11).heap.size ∧ ((((((((((((u.setCell ⟨w.heap.size, 0, none⟩ a0).setCell ⟨w.heap.size, 1, none⟩ a1).setCell ⟨w.heap.size, 2, none⟩ a2).setCell ⟨w.heap.size, 3, none⟩ a3).setCell ⟨w.heap.size, 4, none⟩ a4).setCell ⟨w.heap.size, 5, none⟩ a5).setCell ⟨w.heap.size, 6, none⟩ a6).setCell ⟨w.heap.size, 7, none⟩ a7).setCell ⟨w.heap.size, 8, none⟩ a8).setCell ⟨w.heap.size, 9, none⟩ a9).setCell ⟨w.heap.size, 10, none⟩ a10).setCell ⟨w.heap.size, 11, none⟩ a11).cell? ⟨w1.heap.size, 0, none⟩ = some (.bool e) ∧ ((((((((((((u.setCell ⟨w.heap.size, 0, none⟩ a0).setCell ⟨w.heap.size, 1, none⟩ a1).setCell ⟨w.heap.size, 2, none⟩ a2).setCell ⟨w.heap.size, 3, none⟩ a3).setCell ⟨w.heap.size, 4, none⟩ a4).setCell ⟨w.heap.size, 5, none⟩ a5).setCell ⟨w.heap.size, 6, none⟩ a6).setCell ⟨w.heap.size, 7, none⟩ a7).setCell ⟨w.heap.size, 8, none⟩ a8).setCell ⟨w.heap.size, 9, none⟩ a9).setCell ⟨w.heap.size, 10, none⟩ a10).setCell ⟨w.heap.size, 11, none⟩ a11).cell? ⟨w1.heap.size, 1, none⟩ = some (.int .i64 (R : Int)) ∧ ((((((((((((u.setCell ⟨w.heap.size, 0, none⟩ a0).setCell ⟨w.heap.size, 1, none⟩ a1).setCell ⟨w.heap.size, 2, none⟩ a2).setCell ⟨w.heap.size, 3, none⟩ a3).setCell ⟨w.heap.size, 4, none⟩ a4).setCell ⟨w.heap.size, 5, none⟩ a5).setCell ⟨w.heap.size, 6, none⟩ a6).setCell ⟨w.heap.size, 7, none⟩ a7).setCell ⟨w.heap.size, 8, none⟩ a8).setCell ⟨w.heap.size, 9, none⟩ a9).setCell ⟨w.heap.size, 10, none⟩ a10).setCell ⟨w.heap.size, 11, none⟩ a11).cell? ⟨w1.heap.size, 2, none⟩ = some (.int .i64 (L : Int)) ∧ ((((((((((((u.setCell ⟨w.heap.size, 0, none⟩ a0).setCell ⟨w.heap.size, 1, none⟩ a1).setCell ⟨w.heap.size, 2, none⟩ a2).setCell ⟨w.heap.size, 3, none⟩ a3).setCell ⟨w.heap.size, 4, none⟩ a4).setCell ⟨w.heap.size, 5, none⟩ a5).setCell ⟨w.heap.size, 6, none⟩ a6).setCell ⟨w.heap.size, 7, none⟩ a7).setCell ⟨w.heap.size, 8, none⟩ a8).setCell ⟨w.heap.size, 9, none⟩ a9).setCell ⟨w.heap.size, 10, none⟩ a10).setCell ⟨w.heap.size, 11, none⟩ a11).cell? ⟨w1.heap.size, 3, none⟩ = some (.slice (some ⟨bk, off, none⟩) len cap)) from fun u hu a0 a1 a2 a3 a4 a5 a6 a7 a8 a9 a10 a11 => by
          have hc := fun o : Nat => cell12 (W := u) (B := w.heap.size) (C := w1.heap.size) (by omega) o a0 a1 a2 a3 a4 a5 a6 a7 a8 a9 a10 a11
          have hb := below12 (Nat.le_refl _) hu.1 a0 a1 a2 a3 a4 a5 a6 a7 a8 a9 a10 a11
          refine ⟨hb, ?_, (hc 0).trans hu.2.2.1, (hc 1).trans hu.2.2.2.1, (hc 2).trans hu.2.2.2.2.1, (hc 3).trans hu.2.2.2.2.2⟩
          simp only [setCell_size2]
          exact hu.2.1)
        clear hok hv hq hm hD hd8 hF hst hs1 r0 r1 r2 r3
        go_wp2_with fail
        go_region_held3 (fun u => (Below w.heap.size w u ∧ w1.heap.size < u.heap.size ∧ u.cell? ⟨w1.heap.size, 0, none⟩ = some (.bool e) ∧ u.cell? ⟨w1.heap.size, 1, none⟩ = some (.int .i64 (R : Int)) ∧ u.cell? ⟨w1.heap.size, 2, none⟩ = some (.int .i64 (L : Int)) ∧ u.cell? ⟨w1.heap.size, 3, none⟩ = some (.slice (some ⟨bk, off, none⟩) len cap))) (first | (with_reducible assumption) | (with_reducible exact HST.out _ (by assumption) _ _ _ _ _ _ _ _ _ _ _ _)) (first | (go_at_call 65; refine (HFF.out _ (by assumption)).mono ?_; rintro x w6 ⟨rfl, r6, h6⟩; have B6 := Lib.hid (show Blk w6 w.heap.size 27 (frameC false 0 false 0 [0, 0, 0, 0, 0, 0, 0, 0]) from r6.trans HQ5.out); clear r6) | (go_at_call 63; refine (HSS.out _ (by assumption)).mono ?_; rintro x w7 ⟨rfl, r7, h7⟩; have B7 := Lib.hid (show Blk w7 w.heap.size 27 (frameC false 0 false 0 [0, 0, 0, 0, 0, 0, 0, 0]) from r7.trans B6.out); clear r7; obtain ⟨z0, z1, z2, z3, z4, z5, z6, z7, z8, z9, z10, z11⟩ := (B7.out.at rfl).cells; obtain ⟨f0, f1, f2, f3, f4, f5, f6, f7, f8, f9, f10, f11⟩ := (B7.out.at rfl).frz))
        go_wp2_with fail
        refine bodyPost_ret (v := .tuple #[.agg #[.bool e, .int .u32 (v : Int), .bool q, .int .i64 (m : Int), .int .u8 (x0 : Int), .int .u8 (x1 : Int), .int .u8 (x2 : Int), .int .u8 (x3 : Int), .int .u8 (x4 : Int), .int .u8 (x5 : Int), .int .u8 (x6 : Int), .int .u8 (x7 : Int)], .int .i64 (n : Int), .int .i64 0]) (by simp [results, Tryd.results22, go_sem, World.cell?_setCell_same', z0, z1, z2, z3, z4, z5, z6, z7, z8, z9, z10, z11]) rfl ⟨by rw [HV.out, HOK2.out]; rfl, below12 (Nat.le_refl _) h7.1 _ _ _ _ _ _ _ _ _ _ _ _⟩
theorem frameParse_any (a : Option Addr) (len cap : Nat) (bs : List Nat) (hl : bs.length ≤ 1000) (w : World) (hg0 : 1 < w.heap.size) (hT : Tab w) (hI : Str w.heap.size w (.slice a len cap) bs) : Calls Tryd.prog 22 #[.slice a len cap] w fun x w' => x = .returned (prV (parseB (bitsOf bs))) ∧ Below w.heap.size w w' := by
  by_cases h0 : bs[0]?.getD 0 = 0
  · by_cases h13 : bs.length ≤ 13
    · rw [parse_none bs h0 (sizeB_short bs h13)]
      exact frameParse_few a len cap bs h0 h13 w hI
    · exact frameParse_long a len cap bs h0 (by omega) hl w hg0 hT hI
  · have hn : 0 < bs.length := by
      cases bs
      · exact absurd rfl h0
      · simp
    rw [parse_one bs h0]
    exact frameParse_one a len cap bs hn h0 w hI
end Go.Proofs.YtmfnkfiocnngeaaDoor
