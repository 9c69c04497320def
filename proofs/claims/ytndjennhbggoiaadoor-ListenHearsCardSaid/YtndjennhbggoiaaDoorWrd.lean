/- The code of package wire (Decode): what it returns. Conditions: not more than a thousand bits. -/
import Derived.Test.YtndjennhbggoiaaDoorWrc
namespace Go.Proofs.YtndjennhbggoiaaDoor
open Go.RowKit Go.Shelf
/-- The frame of a parse, as a value. -/
def frOf : Except Nat (Bool × Nat × Bool × Nat × List Nat × Nat) → Value
  | .error _ => frameV false 0 false 0 [0, 0, 0, 0, 0, 0, 0, 0]
  | .ok (e, n, r, len, data, _) => frameV e n r (len : Int) data
/-- What Decode answers, as a value. -/
def dcV (l : List Nat) : Value := .tuple #[frOf (if (decB l).1 = 0 then parseB (decB l).2.2 else .error 0), .int .i64 ((decB l).2.1 : Nat), .int .i64 ((decB l).1 : Nat)]
theorem opn_at : ∀ (l : List Nat) (r : Nat × Nat) (out : List Nat) (i : Nat), (opnB r out i l).2.1 ≤ i + l.length := by
  intro l
  induction l with
  | nil => intro r out i; rw [opnB_nil]; split <;> exact Nat.le_refl _
  | cons b l ih =>
    intro r out i
    rw [opnB_cons]
    split
    · exact Nat.le_add_right _ _
    · split
      · exact Nat.zero_le _
      · cases uStep (some (r, out)) b with
        | none => exact Nat.le_add_right _ _
        | some s =>
          have := ih s.1 s.2 (i + 1)
          simp only [List.length_cons]
          show (opnB s.1 s.2 (i + 1) l).2.1 ≤ _
          omega
theorem size_big {l : List Nat} (h : sizeB l = some l.length) : 34 ≤ l.length := by
  unfold sizeB at h
  by_cases h14 : l.length < 14
  · rw [if_pos h14] at h; exact absurd h (by simp)
  · rw [if_neg h14] at h
    by_cases h2 : l.length < (if l[13]?.getD 0 = 0 then 15 else 35) + 4
    · rw [if_pos h2] at h; exact absurd h (by simp)
    · rw [if_neg h2] at h
      have := Option.some.inj h
      have h3 : 15 ≤ (if l[13]?.getD 0 = 0 then 15 else 35) := by split <;> omega
      omega
theorem dec_bad {l : List Nat} (h : (opnB (0, 0) [] 0 l).1 ≠ 0) : decB l = opnB (0, 0) [] 0 l := by unfold decB; rw [if_neg h]
theorem dec_good {l : List Nat} (h : (opnB (0, 0) [] 0 l).1 = 0) : decB l = ((endB (decide (crcOf (opnB (0, 0) [] 0 l).2.2 0 = 0)) 10 (opnB (0, 0) [] 0 l).2.1 0 (l.drop (opnB (0, 0) [] 0 l).2.1)).1, (endB (decide (crcOf (opnB (0, 0) [] 0 l).2.2 0 = 0)) 10 (opnB (0, 0) [] 0 l).2.1 0 (l.drop (opnB (0, 0) [] 0 l).2.1)).2, (opnB (0, 0) [] 0 l).2.2) := by unfold decB; rw [if_pos h]
/-- Where the ten bits are right, the sum is. -/
theorem end_right : ∀ (k a n : Nat) (l : List Nat), n ≤ 2 → 2 < n + k → (endB false k a n l).1 ≠ 0 := by
  intro k
  induction k with
  | zero => intro a n l h1 h2; omega
  | succ k ih =>
    intro a n l h1 h2
    cases l with
    | nil => rw [endB]; exact (by decide : (2 : Nat) ≠ 0)
    | cons b l =>
      rw [endB]
      split
      · exact (by decide : (3 : Nat) ≠ 0)
      · split
        · exact (by decide : (5 : Nat) ≠ 0)
        · rename_i h3 h4
          exact ih _ _ _ (by have : n ≠ 2 := fun h => h4 ⟨rfl, h⟩; omega) (by omega)
/-- A body that is whole, and whose sum is right, is a frame's. -/
theorem parse_whole {l : List Nat} (hs : sizeB l = some l.length) (h0 : l.head? = some 0) (hc : crcOf l 0 = 0) : ∃ e n r len data, parseB l = .ok (e, n, r, len, data, l.length) ∧ data.length = 8 := by
  have h1 : l[0]?.getD 0 = 0 := by
    cases l
    · simp at h0
    · simp at h0; simp [h0]
  unfold parseB
  rw [if_neg (by rw [h1]; decide), hs]
  simp only
  rw [if_neg (by omega), List.take_of_length_le (Nat.le_refl _), if_pos hc]
  split
  · exact ⟨_, _, _, _, _, rfl, by simp [dataOf]⟩
  · exact ⟨_, _, _, _, _, rfl, by simp [dataOf]⟩
set_option maxRecDepth 100000 in
set_option maxHeartbeats 8000000 in
theorem decode_any (a : Option Addr) (len cap : Nat) (bs : List Nat) (hl : bs.length ≤ 1000) (w : World) (hg0 : 0 < w.heap.size) (hT : Tab w) (hI : Str w.heap.size w (.slice a len cap) bs) : Calls Tryd.prog 33 #[.slice a len cap] w fun x w' => x = .returned (dcV (bitsOf bs)) ∧ Below w.heap.size w w' := by
  obtain ⟨V, hV⟩ : ∃ V, V = dcV (bitsOf bs) := ⟨_, rfl⟩
  rw [← hV]
  have HV := Lib.hid hV
  have HT := Lib.hid hT; have HG0 := Lib.hid hg0; have HI := Lib.hid hI; have HL := Lib.hid hl
  obtain ⟨wr, hwr⟩ : ∃ wr, wr = w.alloc (.cells #[.bool false, .int .u32 0, .bool false, .int .i64 0, .int .u8 0, .int .u8 0, .int .u8 0, .int .u8 0, .int .u8 0, .int .u8 0, .int .u8 0, .int .u8 0] 27) := ⟨_, rfl⟩
  have HB0 := Lib.hid (show Below w.heap.size w wr by rw [hwr]; exact (Below.refl _ w).alloc (Nat.le_refl _) _)
  have HQ0 := Lib.hid (show Blk wr w.heap.size 27 (frameC false 0 false 0 [0, 0, 0, 0, 0, 0, 0, 0]) by rw [hwr]; exact Blk.new w _ _)
  have HOP := Lib.hid (opened_any a len cap bs hl wr ((hI.below HB0.out).mono HB0.out.size))
  obtain ⟨O, hO⟩ : ∃ O, O = opnB (0, 0) [] 0 (bitsOf bs) := ⟨_, rfl⟩
  rw [← hO] at HOP
  have HO := Lib.hid hO
  obtain ⟨c, p, body⟩ := O
  clear hV hO hT hg0 hI hl
  go_enter Tryd.func33, Tryd.ntmps33
  go_wp2_with fail
  rw [← hwr]
  clear hwr
  refine HOP.out.mono ?_
  rintro x w1 ⟨v, raw, rfl, hraw, hrl, how, hb⟩
  obtain ⟨va, vcap, rfl⟩ := how.shape
  have HOW := Lib.hid how.str; have HB1 := Lib.hid (below_trans' HB0.out hb); have HQ1 := Lib.hid (HQ0.out.keep hb HQ0.out.lt); have HRAW := Lib.hid hraw; have HRL := Lib.hid hrl
  clear hraw how hb hrl HOP
  by_cases hc : c = 0
  · subst hc
    obtain ⟨hs1, hs2⟩ := opn_ok (bitsOf bs) (0, 0) [] 0 p body (fun _ => ⟨rfl, rfl⟩) (fun h => absurd rfl h) HO.out.symm
    have hp := opn_at (bitsOf bs) (0, 0) [] 0
    rw [← HO.out, Nat.zero_add, bitsOf_length] at hp
    have hrb := HRAW.out
    simp only at hrb hp
    have hbl : body.length = raw.length := by rw [← hrb, bitsOf_length]
    have h34 := size_big hs1
    obtain ⟨g, hg⟩ : ∃ g, g = decide (crcOf body 0 = 0) := ⟨_, rfl⟩
    obtain ⟨c2, p2, hE⟩ : ∃ c2 p2, endB g 10 p 0 ((bitsOf bs).drop p) = (c2, p2) := ⟨_, _, rfl⟩
    have HD := Lib.hid (show decB (bitsOf bs) = (c2, p2, body) by
      rw [dec_good (by rw [← HO.out]), ← HO.out]
      simp only
      rw [← hg, hE])
    have HW := Lib.hid (show Calls Tryd.prog 64 #[.slice va raw.length vcap] w1 fun x w' => x = .returned (.bool g) ∧ Below w1.heap.size w1 w' from (whole_any va raw.length vcap raw (by have := HL.out; have := HRL.out; omega) w1 (Nat.lt_of_lt_of_le HG0.out HB1.out.size) (HT.out.onB HB1.out HG0.out) HOW.out).mono fun x w' h => by
      rw [wholeB_eq _ (by omega), hrb, ← hg] at h
      exact h)
    have HCL := Lib.hid (show ∀ u, Below w.heap.size w u → Calls Tryd.prog 88 #[.slice a len cap, .int .i64 (p : Int), .bool g] u fun x w' => x = .returned (.tuple #[.int .i64 (p2 : Nat), .int .i64 (c2 : Nat)]) ∧ u = w' from fun u hu => (closed_any a len cap bs p hp HL.out g u ((HI.out.below hu).mono hu.size)).mono fun x w' h => by
      rw [hE] at h
      exact h)
    have HG := Lib.hid hg; have HH := Lib.hid hE; have HS1 := Lib.hid hs1; have HS2 := Lib.hid hs2; have HBL := Lib.hid hbl; have HRB := Lib.hid hrb; have H34 := Lib.hid h34
    clear hs1 hs2 hp hrb hbl hg hE h34
    go_wp2_with fail
    refine HW.out.mono ?_
    rintro x w2 ⟨rfl, hb2⟩
    have HB2 := Lib.hid (below_trans' HB1.out hb2); have HQ2 := Lib.hid (HQ1.out.keep hb2 HQ1.out.lt); have HOW2 := Lib.hid ((HOW.out.below hb2).mono hb2.size)
    clear hb2 HW
    go_wp2_with fail
    refine (HCL.out _ HB2.out).mono ?_
    rintro x w3 ⟨rfl, rfl⟩
    by_cases hc2 : c2 = 0
    · subst hc2
      have hgt : g = true := by
        cases g
        · have := end_right 10 p 0 ((bitsOf bs).drop p) (by omega) (by omega)
          rw [HH.out] at this
          exact absurd rfl this
        · rfl
      have hcrc : crcOf body 0 = 0 := by have := HG.out; rw [hgt] at this; simpa using this.symm
      obtain ⟨e, n, r, m, data, hpar, hd⟩ := parse_whole HS1.out HS2.out hcrc
      have HE := Lib.hid (show V = .tuple #[frameV e n r (m : Int) data, .int .i64 (p2 : Nat), .int .i64 0] by
        rw [HV.out, dcV, HD.out]
        show Value.tuple #[frOf (if (0 : Nat) = 0 then parseB body else .error 0), .int .i64 (p2 : Nat), .int .i64 ((0 : Nat) : Int)] = _
        rw [if_pos rfl, hpar]
        rfl)
      have HPA := Lib.hid (show Calls Tryd.prog 21 #[.slice va raw.length vcap] w2 fun x w' => x = .returned (.tuple #[frameV e n r (m : Int) data, .int .i64 (body.length : Nat), .int .i64 0]) ∧ Below w2.heap.size w2 w' from (frameParse_any va raw.length vcap raw (by have := HL.out; have := HRL.out; omega) w2 (Nat.lt_of_lt_of_le HG0.out HB2.out.size) (HT.out.onB HB2.out HG0.out) HOW2.out).mono fun x w' h => by
        rw [HRB.out, hpar] at h
        exact h)
      obtain ⟨x0, x1, x2, x3, x4, x5, x6, x7, rfl⟩ := eight hd
      simp only [frameV, frameC, List.map] at HPA
      clear hpar hcrc hgt hd
      go_wp2_with fail
      refine HPA.out.mono ?_
      rintro x w3 ⟨rfl, hb3⟩
      have HB3 := Lib.hid (below_trans' HB2.out hb3)
      have hQ : Blk (w3.alloc (.cells #[.bool e, .int .u32 (n : Int), .bool r, .int .i64 (m : Int), .int .u8 (x0 : Int), .int .u8 (x1 : Int), .int .u8 (x2 : Int), .int .u8 (x3 : Int), .int .u8 (x4 : Int), .int .u8 (x5 : Int), .int .u8 (x6 : Int), .int .u8 (x7 : Int)] 27)) w.heap.size 27 (frameC false 0 false 0 [0, 0, 0, 0, 0, 0, 0, 0]) := (HQ2.out.keep hb3 HQ2.out.lt).keep ((Below.refl _ w3).alloc (Nat.le_refl _) _) (by have := hb3.size; have := HQ2.out.lt; omega)
      obtain ⟨z0, z1, z2, z3, z4, z5, z6, z7, z8, z9, z10, z11⟩ := (hQ.at rfl).cells
      obtain ⟨f0, f1, f2, f3, f4, f5, f6, f7, f8, f9, f10, f11⟩ := (hQ.at rfl).frz
      clear hb3 hQ
      go_wp2_with fail
      refine bodyPost_ret (v := .tuple #[.agg #[.bool e, .int .u32 (n : Int), .bool r, .int .i64 (m : Int), .int .u8 (x0 : Int), .int .u8 (x1 : Int), .int .u8 (x2 : Int), .int .u8 (x3 : Int), .int .u8 (x4 : Int), .int .u8 (x5 : Int), .int .u8 (x6 : Int), .int .u8 (x7 : Int)], .int .i64 (p2 : Nat), .int .i64 0]) (by simp [results, Tryd.results33, go_sem, World.cell?_setCell_same', z0, z1, z2, z3, z4, z5, z6, z7, z8, z9, z10, z11]) rfl ⟨by rw [HE.out]; rfl, below12 (Nat.le_refl _) (HB3.out.alloc HB3.out.size _) _ _ _ _ _ _ _ _ _ _ _ _⟩
    · have HE := Lib.hid (show V = .tuple #[frameV false 0 false 0 [0, 0, 0, 0, 0, 0, 0, 0], .int .i64 (p2 : Nat), .int .i64 (c2 : Nat)] by
        rw [HV.out, dcV, HD.out]
        simp only
        rw [if_neg hc2]
        rfl)
      have i1 : ((c2 : Int) != 0) = true := by simp; omega
      obtain ⟨z0, z1, z2, z3, z4, z5, z6, z7, z8, z9, z10, z11⟩ := (HQ2.out.at rfl).cells
      obtain ⟨f0, f1, f2, f3, f4, f5, f6, f7, f8, f9, f10, f11⟩ := (HQ2.out.at rfl).frz
      clear hc2
      go_wp2_with fail
      refine bodyPost_ret (v := .tuple #[frameV false 0 false 0 [0, 0, 0, 0, 0, 0, 0, 0], .int .i64 (p2 : Nat), .int .i64 (c2 : Nat)]) (by simp [results, Tryd.results33, go_sem, World.cell?_setCell_same', z0, z1, z2, z3, z4, z5, z6, z7, z8, z9, z10, z11, frameV, frameC]) rfl ⟨by rw [HE.out], below12 (Nat.le_refl _) HB2.out _ _ _ _ _ _ _ _ _ _ _ _⟩
  · have HE := Lib.hid (show V = .tuple #[frameV false 0 false 0 [0, 0, 0, 0, 0, 0, 0, 0], .int .i64 (p : Nat), .int .i64 (c : Nat)] by
      have h1 := dec_bad (l := bitsOf bs) (by rw [← HO.out]; exact hc)
      rw [HV.out, dcV, h1, ← HO.out, if_neg hc]
      rfl)
    have i1 : ((c : Int) == 0) = false := by rw [beq_eq_false_iff_ne]; omega
    have i2 : ((c : Int) != 0) = true := by simp; omega
    obtain ⟨z0, z1, z2, z3, z4, z5, z6, z7, z8, z9, z10, z11⟩ := (HQ1.out.at rfl).cells
    obtain ⟨f0, f1, f2, f3, f4, f5, f6, f7, f8, f9, f10, f11⟩ := (HQ1.out.at rfl).frz
    clear hc
    go_wp2_with fail
    refine bodyPost_ret (v := .tuple #[frameV false 0 false 0 [0, 0, 0, 0, 0, 0, 0, 0], .int .i64 (p : Nat), .int .i64 (c : Nat)]) (by simp [results, Tryd.results33, go_sem, World.cell?_setCell_same', z0, z1, z2, z3, z4, z5, z6, z7, z8, z9, z10, z11, frameV, frameC]) rfl ⟨by rw [HE.out], below12 (Nat.le_refl _) HB1.out _ _ _ _ _ _ _ _ _ _ _ _⟩
end Go.Proofs.YtndjennhbggoiaaDoor
