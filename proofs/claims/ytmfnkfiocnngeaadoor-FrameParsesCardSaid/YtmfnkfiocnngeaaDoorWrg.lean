/- The document's own parse of a body, in plain words: what it returns where it is refused. Conditions: not more than a thousand bits. -/
import Derived.Test.YtmfnkfiocnngeaaDoorWre
namespace Go.Proofs.YtmfnkfiocnngeaaDoor
open Go.RowKit Go.Shelf
set_option maxRecDepth 100000 in
set_option maxHeartbeats 4000000 in
theorem ref6Parse_one (a : Option Addr) (len cap : Nat) (bs : List Nat) (hn : 0 < bs.length) (h : bs[0]?.getD 0 ≠ 0) (w : World) (hI : Str w.heap.size w (.slice a len cap) bs) : Calls Tryd.prog 23 #[.slice a len cap] w fun x w' => x = .returned (prV (.error 3)) ∧ Below w.heap.size w w' := by
  have hlen := hI.len
  obtain ⟨wr, hwr⟩ : ∃ wr, wr = w.alloc (.cells #[.bool false, .int .u32 0, .bool false, .int .i64 0, .int .u8 0, .int .u8 0, .int .u8 0, .int .u8 0, .int .u8 0, .int .u8 0, .int .u8 0, .int .u8 0] 27) := ⟨_, rfl⟩
  have HB0 := Lib.hid (show Below w.heap.size w wr by rw [hwr]; exact (Below.refl _ w).alloc (Nat.le_refl _) _)
  have HQ0 := Lib.hid (show Blk wr w.heap.size 27 (frameC false 0 false 0 [0, 0, 0, 0, 0, 0, 0, 0]) by rw [hwr]; exact Blk.new w _ _)
  have HAT := Lib.hid (show Calls Tryd.prog 66 #[.slice a len cap, .int .i64 0] wr fun x w' => x = .returned (.bool true) ∧ Below wr.heap.size wr w' from (ref6at_any a len cap 0 bs wr ((hI.below HB0.out).mono HB0.out.size) hn).mono fun x w' hx => by
    rw [decide_eq_true h] at hx
    exact hx)
  have i1 : (0 : Int) < (len : Int) := by omega
  clear hI h hn hlen
  go_enter Tryd.func23, Tryd.ntmps23
  go_wp2_with fail
  rw [← hwr]
  clear hwr
  refine HAT.out.mono ?_
  rintro x w1 ⟨rfl, hb⟩
  have HB1 := Lib.hid (below_trans' HB0.out hb)
  have hQ := HQ0.out.keep hb HQ0.out.lt
  obtain ⟨z0, z1, z2, z3, z4, z5, z6, z7, z8, z9, z10, z11⟩ := (hQ.at rfl).cells
  obtain ⟨f0, f1, f2, f3, f4, f5, f6, f7, f8, f9, f10, f11⟩ := (hQ.at rfl).frz
  clear hb hQ
  go_wp2_with fail
  exact bodyPost_ret (v := prV (.error 3)) (by simp [results, Tryd.results23, go_sem, World.cell?_setCell_same', z0, z1, z2, z3, z4, z5, z6, z7, z8, z9, z10, z11, prV, frameV, frameC]) rfl ⟨rfl, below12 (Nat.le_refl _) HB1.out _ _ _ _ _ _ _ _ _ _ _ _⟩
/-- The first test of Parse: nothing at all, or a first bit of 0. -/
def fstOk (len : Nat) (a : Option Addr) (cap : Nat) (w : World) : Prop := len = 0 ∨ (0 : Int) < (len : Int) ∧ ∀ u, Below w.heap.size w u → Calls Tryd.prog 66 #[.slice a len cap, .int .i64 0] u fun x w' => x = .returned (.bool false) ∧ Below u.heap.size u w'
theorem fst_ok (a : Option Addr) (len cap : Nat) (bs : List Nat) (h : bs[0]?.getD 0 = 0) (w : World) (hI : Str w.heap.size w (.slice a len cap) bs) : fstOk len a cap w := by
  have hlen := hI.len
  by_cases h0 : len = 0
  · exact .inl h0
  · refine .inr ⟨by omega, fun u hu => (ref6at_any a len cap 0 bs u ((hI.below hu).mono hu.size) (by omega)).mono fun x w' hx => ?_⟩
    rw [decide_eq_false (not_not_intro h)] at hx
    exact hx
set_option maxRecDepth 100000 in
set_option maxHeartbeats 4000000 in
theorem ref6Parse_none (a : Option Addr) (len cap : Nat) (bs : List Nat) (h0 : bs[0]?.getD 0 = 0) (hs : sizeB (bitsOf bs) = none) (w : World) (hI : Str w.heap.size w (.slice a len cap) bs) : Calls Tryd.prog 23 #[.slice a len cap] w fun x w' => x = .returned (prV (.error 2)) ∧ Below w.heap.size w w' := by
  have hlen := hI.len
  obtain ⟨wr, hwr⟩ : ∃ wr, wr = w.alloc (.cells #[.bool false, .int .u32 0, .bool false, .int .i64 0, .int .u8 0, .int .u8 0, .int .u8 0, .int .u8 0, .int .u8 0, .int .u8 0, .int .u8 0, .int .u8 0] 27) := ⟨_, rfl⟩
  have hB0 : Below w.heap.size w wr := by rw [hwr]; exact (Below.refl _ w).alloc (Nat.le_refl _) _
  have HB0 := Lib.hid hB0
  have HQ0 := Lib.hid (show Blk wr w.heap.size 27 (frameC false 0 false 0 [0, 0, 0, 0, 0, 0, 0, 0]) by rw [hwr]; exact Blk.new w _ _)
  have HFS := Lib.hid (fst_ok a len cap bs h0 w hI)
  have HSI := Lib.hid (show ∀ u, Below w.heap.size w u → Calls Tryd.prog 25 #[.slice a len cap] u fun x w' => x = .returned (.tuple #[.int .i64 (0 : Int), .bool false]) ∧ Below u.heap.size u w' from fun u hu => (ref6Size_any a len cap bs u ((hI.below hu).mono hu.size)).mono fun x w' hx => by
    rw [hs] at hx
    exact hx)
  clear hs hlen
  clear hI h0 hB0
  rcases HFS.out with rfl | ⟨i0, hat⟩
  · go_enter Tryd.func23, Tryd.ntmps23
    go_wp2_with fail
    rw [← hwr]
    clear hwr
    obtain ⟨w1, hw1⟩ : ∃ w1, w1 = wr := ⟨_, rfl⟩
    rw [← hw1]
    have HB1 := Lib.hid (show Below w.heap.size w w1 by rw [hw1]; exact HB0.out)
    have HQ1 := Lib.hid (show Blk w1 w.heap.size 27 (frameC false 0 false 0 [0, 0, 0, 0, 0, 0, 0, 0]) by rw [hw1]; exact HQ0.out)
    clear hw1
    refine (HSI.out _ HB1.out).mono ?_
    rintro x w2 ⟨rfl, hb⟩
    have HB2 := Lib.hid (below_trans' HB1.out hb)
    have HQ2 := Lib.hid (HQ1.out.keep hb HQ1.out.lt)
    clear hb
    obtain ⟨z0, z1, z2, z3, z4, z5, z6, z7, z8, z9, z10, z11⟩ := (HQ2.out.at rfl).cells
    obtain ⟨f0, f1, f2, f3, f4, f5, f6, f7, f8, f9, f10, f11⟩ := (HQ2.out.at rfl).frz
    go_wp2_with fail
    refine bodyPost_ret (v := prV (.error 2)) (by simp [results, Tryd.results23, go_sem, World.cell?_setCell_same', z0, z1, z2, z3, z4, z5, z6, z7, z8, z9, z10, z11, prV, frameV, frameC]) rfl ⟨rfl, below12 (Nat.le_refl _) HB2.out _ _ _ _ _ _ _ _ _ _ _ _⟩
  · have HAT := Lib.hid (hat wr HB0.out)
    clear hat
    go_enter Tryd.func23, Tryd.ntmps23
    go_wp2_with fail
    rw [← hwr]
    clear hwr
    refine HAT.out.mono ?_
    rintro x w1 ⟨rfl, hb⟩
    have HB1 := Lib.hid (below_trans' HB0.out hb)
    have HQ1 := Lib.hid (HQ0.out.keep hb HQ0.out.lt)
    clear hb
    go_wp2_with fail
    refine (HSI.out _ HB1.out).mono ?_
    rintro x w2 ⟨rfl, hb⟩
    have HB2 := Lib.hid (below_trans' HB1.out hb)
    have HQ2 := Lib.hid (HQ1.out.keep hb HQ1.out.lt)
    clear hb
    obtain ⟨z0, z1, z2, z3, z4, z5, z6, z7, z8, z9, z10, z11⟩ := (HQ2.out.at rfl).cells
    obtain ⟨f0, f1, f2, f3, f4, f5, f6, f7, f8, f9, f10, f11⟩ := (HQ2.out.at rfl).frz
    go_wp2_with fail
    refine bodyPost_ret (v := prV (.error 2)) (by simp [results, Tryd.results23, go_sem, World.cell?_setCell_same', z0, z1, z2, z3, z4, z5, z6, z7, z8, z9, z10, z11, prV, frameV, frameC]) rfl ⟨rfl, below12 (Nat.le_refl _) HB2.out _ _ _ _ _ _ _ _ _ _ _ _⟩
set_option maxRecDepth 100000 in
set_option maxHeartbeats 4000000 in
theorem ref6Parse_short (a : Option Addr) (len cap : Nat) (bs : List Nat) (h0 : bs[0]?.getD 0 = 0) (n : Nat) (hs : sizeB (bitsOf bs) = some n) (hn : bs.length < n) (w : World) (hI : Str w.heap.size w (.slice a len cap) bs) : Calls Tryd.prog 23 #[.slice a len cap] w fun x w' => x = .returned (prV (.error 2)) ∧ Below w.heap.size w w' := by
  have hlen := hI.len
  obtain ⟨wr, hwr⟩ : ∃ wr, wr = w.alloc (.cells #[.bool false, .int .u32 0, .bool false, .int .i64 0, .int .u8 0, .int .u8 0, .int .u8 0, .int .u8 0, .int .u8 0, .int .u8 0, .int .u8 0, .int .u8 0] 27) := ⟨_, rfl⟩
  have hB0 : Below w.heap.size w wr := by rw [hwr]; exact (Below.refl _ w).alloc (Nat.le_refl _) _
  have HB0 := Lib.hid hB0
  have HQ0 := Lib.hid (show Blk wr w.heap.size 27 (frameC false 0 false 0 [0, 0, 0, 0, 0, 0, 0, 0]) by rw [hwr]; exact Blk.new w _ _)
  have HFS := Lib.hid (fst_ok a len cap bs h0 w hI)
  have HSI := Lib.hid (show ∀ u, Below w.heap.size w u → Calls Tryd.prog 25 #[.slice a len cap] u fun x w' => x = .returned (.tuple #[.int .i64 (n : Int), .bool true]) ∧ Below u.heap.size u w' from fun u hu => (ref6Size_any a len cap bs u ((hI.below hu).mono hu.size)).mono fun x w' hx => by
    rw [hs] at hx
    exact hx)
  have i5 : (len : Int) < (n : Int) := by omega
  clear hs hlen hn
  clear hI h0 hB0
  rcases HFS.out with rfl | ⟨i0, hat⟩
  · go_enter Tryd.func23, Tryd.ntmps23
    go_wp2_with fail
    rw [← hwr]
    clear hwr
    obtain ⟨w1, hw1⟩ : ∃ w1, w1 = wr := ⟨_, rfl⟩
    rw [← hw1]
    have HB1 := Lib.hid (show Below w.heap.size w w1 by rw [hw1]; exact HB0.out)
    have HQ1 := Lib.hid (show Blk w1 w.heap.size 27 (frameC false 0 false 0 [0, 0, 0, 0, 0, 0, 0, 0]) by rw [hw1]; exact HQ0.out)
    clear hw1
    refine (HSI.out _ HB1.out).mono ?_
    rintro x w2 ⟨rfl, hb⟩
    have HB2 := Lib.hid (below_trans' HB1.out hb)
    have HQ2 := Lib.hid (HQ1.out.keep hb HQ1.out.lt)
    clear hb
    obtain ⟨z0, z1, z2, z3, z4, z5, z6, z7, z8, z9, z10, z11⟩ := (HQ2.out.at rfl).cells
    obtain ⟨f0, f1, f2, f3, f4, f5, f6, f7, f8, f9, f10, f11⟩ := (HQ2.out.at rfl).frz
    go_wp2_with fail
    refine bodyPost_ret (v := prV (.error 2)) (by simp [results, Tryd.results23, go_sem, World.cell?_setCell_same', z0, z1, z2, z3, z4, z5, z6, z7, z8, z9, z10, z11, prV, frameV, frameC]) rfl ⟨rfl, below12 (Nat.le_refl _) HB2.out _ _ _ _ _ _ _ _ _ _ _ _⟩
  · have HAT := Lib.hid (hat wr HB0.out)
    clear hat
    go_enter Tryd.func23, Tryd.ntmps23
    go_wp2_with fail
    rw [← hwr]
    clear hwr
    refine HAT.out.mono ?_
    rintro x w1 ⟨rfl, hb⟩
    have HB1 := Lib.hid (below_trans' HB0.out hb)
    have HQ1 := Lib.hid (HQ0.out.keep hb HQ0.out.lt)
    clear hb
    go_wp2_with fail
    refine (HSI.out _ HB1.out).mono ?_
    rintro x w2 ⟨rfl, hb⟩
    have HB2 := Lib.hid (below_trans' HB1.out hb)
    have HQ2 := Lib.hid (HQ1.out.keep hb HQ1.out.lt)
    clear hb
    obtain ⟨z0, z1, z2, z3, z4, z5, z6, z7, z8, z9, z10, z11⟩ := (HQ2.out.at rfl).cells
    obtain ⟨f0, f1, f2, f3, f4, f5, f6, f7, f8, f9, f10, f11⟩ := (HQ2.out.at rfl).frz
    go_wp2_with fail
    refine bodyPost_ret (v := prV (.error 2)) (by simp [results, Tryd.results23, go_sem, World.cell?_setCell_same', z0, z1, z2, z3, z4, z5, z6, z7, z8, z9, z10, z11, prV, frameV, frameC]) rfl ⟨rfl, below12 (Nat.le_refl _) HB2.out _ _ _ _ _ _ _ _ _ _ _ _⟩
set_option maxRecDepth 100000 in
set_option maxHeartbeats 4000000 in
theorem ref6Parse_crc (a : Option Addr) (len cap : Nat) (bs : List Nat) (h0 : bs[0]?.getD 0 = 0) (n : Nat) (hs : sizeB (bitsOf bs) = some n) (hn : n ≤ bs.length) (hc : crcOf (bitsOf (bs.take n)) 0 ≠ 0) (w : World) (hI : Str w.heap.size w (.slice a len cap) bs) : Calls Tryd.prog 23 #[.slice a len cap] w fun x w' => x = .returned (prV (.error 5)) ∧ Below w.heap.size w w' := by
  have hlen := hI.len
  obtain ⟨wr, hwr⟩ : ∃ wr, wr = w.alloc (.cells #[.bool false, .int .u32 0, .bool false, .int .i64 0, .int .u8 0, .int .u8 0, .int .u8 0, .int .u8 0, .int .u8 0, .int .u8 0, .int .u8 0, .int .u8 0] 27) := ⟨_, rfl⟩
  have hB0 : Below w.heap.size w wr := by rw [hwr]; exact (Below.refl _ w).alloc (Nat.le_refl _) _
  have HB0 := Lib.hid hB0
  have HQ0 := Lib.hid (show Blk wr w.heap.size 27 (frameC false 0 false 0 [0, 0, 0, 0, 0, 0, 0, 0]) by rw [hwr]; exact Blk.new w _ _)
  have HFS := Lib.hid (fst_ok a len cap bs h0 w hI)
  have HSI := Lib.hid (show ∀ u, Below w.heap.size w u → Calls Tryd.prog 25 #[.slice a len cap] u fun x w' => x = .returned (.tuple #[.int .i64 (n : Int), .bool true]) ∧ Below u.heap.size u w' from fun u hu => (ref6Size_any a len cap bs u ((hI.below hu).mono hu.size)).mono fun x w' hx => by
    rw [hs] at hx
    exact hx)
  have hlc := hI.lenCap
  have i6 : (n : Int) ≤ (cap : Int) := by omega
  have i7 : (0 : Int) ≤ (n : Int) := by omega
  have i5 : ¬ (len : Int) < (n : Int) := by omega
  have h15 : 34 ≤ n := by
    have h13 : 13 < bs.length := by
      by_cases h : bs.length ≤ 13
      · rw [sizeB_short bs h] at hs; exact absurd hs (by simp)
      · omega
    obtain ⟨e, he⟩ : ∃ e, e = decide (bs[13]?.getD 0 ≠ 0) := ⟨_, rfl⟩
    obtain ⟨R, hR⟩ : ∃ R : Nat, R = if e then 32 else 12 := ⟨_, rfl⟩
    obtain ⟨L, hL⟩ : ∃ L : Nat, L = if e then 35 else 15 := ⟨_, rfl⟩
    have h2 := sizeB_long bs h13 e he R L hR hL
    have h15 : 15 ≤ L := by rw [hL]; split <;> omega
    rw [hs] at h2
    by_cases h4 : L + 4 ≤ bs.length
    · rw [if_pos h4] at h2
      have h3 := Option.some.inj h2
      have h5 : L + 4 ≤ sumN bs R L := by unfold sumN; omega
      omega
    · rw [if_neg h4] at h2; exact absurd h2 (by simp)
  have hst : ∀ u, Below w.heap.size w u → Str u.heap.size u (.slice a n cap) (bs.take n) := fun u hu => ((hI.below hu).mono hu.size).take (by omega)
  have HWH := Lib.hid (show ∀ u, Below w.heap.size w u → Calls Tryd.prog 67 #[.slice a n cap] u fun x w' => x = .returned (.bool false) ∧ Below u.heap.size u w' from fun u hu => (refWhole_any a n cap (bs.take n) u (hst u hu)).mono fun x w' hx => by
    have e := wholeB_eq (bs.take n) (by rw [List.length_take]; omega)
    unfold wholeB at e
    rw [e, decide_eq_false hc] at hx
    exact hx)
  clear hs hlen hn hst hlc hc h15
  clear hI h0 hB0
  rcases HFS.out with rfl | ⟨i0, hat⟩
  · go_enter Tryd.func23, Tryd.ntmps23
    go_wp2_with fail
    rw [← hwr]
    clear hwr
    obtain ⟨w1, hw1⟩ : ∃ w1, w1 = wr := ⟨_, rfl⟩
    rw [← hw1]
    have HB1 := Lib.hid (show Below w.heap.size w w1 by rw [hw1]; exact HB0.out)
    have HQ1 := Lib.hid (show Blk w1 w.heap.size 27 (frameC false 0 false 0 [0, 0, 0, 0, 0, 0, 0, 0]) by rw [hw1]; exact HQ0.out)
    clear hw1
    refine (HSI.out _ HB1.out).mono ?_
    rintro x w2 ⟨rfl, hb⟩
    have HB2 := Lib.hid (below_trans' HB1.out hb)
    have HQ2 := Lib.hid (HQ1.out.keep hb HQ1.out.lt)
    clear hb
    go_wp2_with fail
    refine (HWH.out _ HB2.out).mono ?_
    rintro x w3 ⟨rfl, hb⟩
    have HB3 := Lib.hid (below_trans' HB2.out hb)
    have HQ3 := Lib.hid (HQ2.out.keep hb HQ2.out.lt)
    clear hb
    obtain ⟨z0, z1, z2, z3, z4, z5, z6, z7, z8, z9, z10, z11⟩ := (HQ3.out.at rfl).cells
    obtain ⟨f0, f1, f2, f3, f4, f5, f6, f7, f8, f9, f10, f11⟩ := (HQ3.out.at rfl).frz
    go_wp2_with fail
    refine bodyPost_ret (v := prV (.error 5)) (by simp [results, Tryd.results23, go_sem, World.cell?_setCell_same', z0, z1, z2, z3, z4, z5, z6, z7, z8, z9, z10, z11, prV, frameV, frameC]) rfl ⟨rfl, below12 (Nat.le_refl _) HB3.out _ _ _ _ _ _ _ _ _ _ _ _⟩
  · have HAT := Lib.hid (hat wr HB0.out)
    clear hat
    go_enter Tryd.func23, Tryd.ntmps23
    go_wp2_with fail
    rw [← hwr]
    clear hwr
    refine HAT.out.mono ?_
    rintro x w1 ⟨rfl, hb⟩
    have HB1 := Lib.hid (below_trans' HB0.out hb)
    have HQ1 := Lib.hid (HQ0.out.keep hb HQ0.out.lt)
    clear hb
    go_wp2_with fail
    refine (HSI.out _ HB1.out).mono ?_
    rintro x w2 ⟨rfl, hb⟩
    have HB2 := Lib.hid (below_trans' HB1.out hb)
    have HQ2 := Lib.hid (HQ1.out.keep hb HQ1.out.lt)
    clear hb
    go_wp2_with fail
    refine (HWH.out _ HB2.out).mono ?_
    rintro x w3 ⟨rfl, hb⟩
    have HB3 := Lib.hid (below_trans' HB2.out hb)
    have HQ3 := Lib.hid (HQ2.out.keep hb HQ2.out.lt)
    clear hb
    obtain ⟨z0, z1, z2, z3, z4, z5, z6, z7, z8, z9, z10, z11⟩ := (HQ3.out.at rfl).cells
    obtain ⟨f0, f1, f2, f3, f4, f5, f6, f7, f8, f9, f10, f11⟩ := (HQ3.out.at rfl).frz
    go_wp2_with fail
    refine bodyPost_ret (v := prV (.error 5)) (by simp [results, Tryd.results23, go_sem, World.cell?_setCell_same', z0, z1, z2, z3, z4, z5, z6, z7, z8, z9, z10, z11, prV, frameV, frameC]) rfl ⟨rfl, below12 (Nat.le_refl _) HB3.out _ _ _ _ _ _ _ _ _ _ _ _⟩
end Go.Proofs.YtmfnkfiocnngeaaDoor
