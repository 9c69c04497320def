/- The document's own Decode of layer 7: what it returns. Conditions: not more than a thousand bits. -/
import Derived.Test.YtmfnkfiocnngeaaDoorWrd
import Derived.Test.YtmfnkfiocnngeaaDoorWri
import Derived.Test.YtmfnkfiocnngeaaDoorWrh
namespace Go.Proofs.YtmfnkfiocnngeaaDoor
open Go.RowKit Go.Shelf
/-- What Decode has laid: its answer's frame, its run's box, and the body. -/
structure DcS (w W : World) (r : Nat × Nat) (raw : List Nat) (v : Value) : Prop where
  blk : Blk W w.heap.size 27 (frameC false 0 false 0 [0, 0, 0, 0, 0, 0, 0, 0])
  own : Ow (w.heap.size + 2) W v raw
  two : Two W (w.heap.size + 1) (.int .u8 (r.1 : Nat)) (.int .i64 (r.2 : Nat))
  bit : r.1 ≤ 1
  size : w.heap.size + 2 ≤ W.heap.size
  below : Below w.heap.size w W
theorem DcS.on {w W X : World} {r : Nat × Nat} {raw : List Nat} {v : Value} (h : DcS w W r raw v) (hb : Below W.heap.size W X) : DcS w X r raw v :=
  ⟨h.blk.keep hb h.blk.lt, h.own.on hb, h.two.keep hb (by have := h.size; omega), h.bit, by have := h.size; have := hb.size; omega, h.below.trans (hb.mono h.below.size)⟩
theorem bitN_eq_zero {x : Nat} (h : bitN x = 0) : x = 0 := by
  by_cases h0 : x = 0
  · exact h0
  · rw [bitN_pos h0] at h; exact absurd h (by decide)
theorem two_new8r {base X : World} (u : World) (h : Below base.heap.size base u) (hb : Below (u.alloc (.cells #[.int .u8 0, .int .i64 0] 138)).heap.size (u.alloc (.cells #[.int .u8 0, .int .i64 0] 138)) X) : base.heap.size ≤ u.heap.size ∧ u.heap.size < X.heap.size ∧ Two X u.heap.size (.int .u8 0) (.int .i64 0) :=
  ⟨h.size, by have := hb.size; simp at this; omega, (Two.new u _ _ _ rfl).keep hb (by simp)⟩
theorem two_new8rd {base X : World} (u : World) (h : Below base.heap.size base u) (hb : Below (u.alloc (.cells #[.int .u8 0, .int .i64 0] 138)).drew.heap.size (u.alloc (.cells #[.int .u8 0, .int .i64 0] 138)).drew X) : base.heap.size ≤ u.heap.size ∧ u.heap.size < X.heap.size ∧ Two X u.heap.size (.int .u8 0) (.int .i64 0) :=
  two_new8r u h ((Below.refl _ _).drew.trans hb)
set_option maxRecDepth 100000 in
set_option maxHeartbeats 8000000 in
theorem ref7Decode_zero (a : Option Addr) (len cap : Nat) (bs : List Nat) (h0 : bs[0]?.getD 0 = 0) (hl : bs.length ≤ 1000) (w : World) (hI : Str w.heap.size w (.slice a len cap) bs) : Calls Tryd.prog 79 #[.slice a len cap] w fun x w' => x = .returned (dcV (bitsOf bs)) ∧ Below w.heap.size w w' := by
  have hlen := hI.len
  obtain ⟨V, hV⟩ : ∃ V, V = dcV (bitsOf bs) := ⟨_, rfl⟩
  rw [← hV]
  obtain ⟨OPN, hO⟩ : ∃ OPN, OPN = opnB (0, 0) [] 0 (bitsOf bs) := ⟨_, rfl⟩
  have HV := Lib.hid hV; have HO := Lib.hid hO; have HI := Lib.hid hI; have HL := Lib.hid hl; have HLEN := Lib.hid hlen; have HZ0 := Lib.hid h0
  have hlm : len ≤ 1000 := by omega
  obtain ⟨i0, hi, hz0, hz1', hz2⟩ := info_parts info_u8
  clear hV hO hl
  have hfirst : len = 0 ∨ ∃ b off, a = some ⟨b, off, none⟩ ∧ 0 < len ∧ ∀ u, Below w.heap.size w u → u.cell? ⟨b, off, none⟩ = some (.int .u8 0) := by
    by_cases hz : len = 0
    · exact .inl hz
    · obtain ⟨b, off, rfl, hb, hc⟩ := hI.at (k := 0) (by omega)
      refine .inr ⟨b, off, rfl, by omega, fun u hu => ?_⟩
      have := hc u hu
      rw [h0] at this
      simpa using this
  clear hI h0 hlen
  have HW1 := Lib.hid (show Below w.heap.size w (w.alloc (.cells #[.bool false, .int .u32 0, .bool false, .int .i64 0, .int .u8 0, .int .u8 0, .int .u8 0, .int .u8 0, .int .u8 0, .int .u8 0, .int .u8 0, .int .u8 0] 27)) from (Below.refl _ w).alloc (Nat.le_refl _) _)
  have c1 : 0 < len → ∃ b off, a = some ⟨b, off, none⟩ ∧ (w.alloc (.cells #[.bool false, .int .u32 0, .bool false, .int .i64 0, .int .u8 0, .int .u8 0, .int .u8 0, .int .u8 0, .int .u8 0, .int .u8 0, .int .u8 0, .int .u8 0] 27)).cell? ⟨b, off, none⟩ = some (.int .u8 0) := fun hp => by
    rcases hfirst with h | ⟨b, off, rfl, _, h⟩
    · omega
    · exact ⟨b, off, rfl, h _ HW1.out⟩
  have HC1 := Lib.hid c1
  clear c1 hfirst
  go_enter Tryd.func79, Tryd.ntmps79
  go_upto_region 1 with fail
  go_cut [26] (fun s26 wx => s26 = .bool false ∧ wx = w.alloc (.cells #[.bool false, .int .u32 0, .bool false, .int .i64 0, .int .u8 0, .int .u8 0, .int .u8 0, .int .u8 0, .int .u8 0, .int .u8 0, .int .u8 0, .int .u8 0] 27))
  case first =>
    have split : len = 0 ∨ 0 < len := by omega
    rcases split with hz | hp
    · have i1 : ¬ (0 : Int) < (len : Int) := by omega
      clear hz
      go_wp2_with fail
      go_meet
      exact ⟨rfl, rfl⟩
    · obtain ⟨b, off, rfl, hc⟩ := HC1.out hp
      have i1 : (0 : Int) < (len : Int) := by omega
      go_wp2_with fail
      go_meet
      exact ⟨rfl, rfl⟩
  case rest =>
  obtain ⟨rfl, rfl⟩ := hcut
  go_wp2_with fail
  go_loopw [5, 7] (fun v i wr => ∃ (k : Nat) (r : Nat × Nat) (raw : List Nat), k ≤ len ∧ i = .int .i64 k ∧ OPN = opnB r (bitsOf raw) k ((bitsOf bs).drop k) ∧ DcS w wr r raw v ∧ raw.length ≤ k) (fun _ i _ => len - (intOf i).toNat)
  case atStart =>
    refine ⟨0, (0, 0), [], Nat.zero_le _, rfl, HO.out, ⟨?_, Ow.nil _ _, ?_, Nat.zero_le _, by simp, ((Below.refl _ w).alloc (Nat.le_refl _) _).alloc (by simp) _⟩, Nat.le_refl _⟩
    · exact (Blk.new w _ _).keep ((Below.refl _ _).alloc (Nat.le_refl _) _) (by simp)
    · exact Two.new (w.alloc (.cells #[.bool false, .int .u32 0, .bool false, .int .i64 0, .int .u8 0, .int .u8 0, .int .u8 0, .int .u8 0, .int .u8 0, .int .u8 0, .int .u8 0, .int .u8 0] 27)) _ _ _ (by simp)
  case round =>
    obtain ⟨k, r, raw, hk, rfl, hopn, hS, hraw⟩ := hrel
    have HOPN := Lib.hid hopn; have HS := Lib.hid hS
    obtain ⟨va, vcap, rfl⟩ := hS.own.shape
    have HSZ := Lib.hid (fun u (hu : Below wr.heap.size wr u) => ref6Size_any va raw.length vcap raw u ((hS.own.str.below hu).mono hu.size))
    have HDU := Lib.hid (fun u => refDue_any r.1 (r.2 : Int) u)
    unfold runV at HDU
    obtain ⟨q0, q1, q2, q3⟩ := hS.two
    obtain ⟨sz, hsz⟩ : ∃ sz, sz = (sizeB (bitsOf raw)).getD 0 := ⟨_, rfl⟩
    obtain ⟨ok, hok⟩ : ∃ ok, ok = (sizeB (bitsOf raw)).isSome := ⟨_, rfl⟩
    rw [← hsz, ← hok] at HSZ
    obtain ⟨dv, hdv⟩ : ∃ dv, dv = (dueB r.1 (r.2 : Int)).1 := ⟨_, rfl⟩
    obtain ⟨du, hdu⟩ : ∃ du, du = (dueB r.1 (r.2 : Int)).2 := ⟨_, rfl⟩
    rw [← hdv, ← hdu] at HDU
    have hdu2 : du = decide (5 ≤ r.2) := by
      rw [hdu]
      unfold dueB
      by_cases h : (r.2 : Int) < 5
      · rw [if_pos h]; symm; rw [decide_eq_false_iff_not]; omega
      · rw [if_neg h]; symm; rw [decide_eq_true_iff]; omega
    obtain ⟨lt, hlt⟩ : ∃ b, ((raw.length : Int) == (sz : Int)) = b := ⟨_, rfl⟩
    have HF := Lib.hid (show fullB r (bitsOf raw) = (ok && lt && !du) by
      unfold fullB
      rw [bitsOf_length, hdu2, hok, ← hlt, hsz]
      cases hb : sizeB (bitsOf raw) with
      | none => simp
      | some n =>
        have e : ((raw.length : Int) == ((some n).getD 0 : Nat)) = decide (some n = some raw.length) := by
          rw [Bool.eq_iff_iff, beq_iff_eq, decide_eq_true_iff]
          simp only [Option.getD_some, Option.some.injEq]
          omega
        rw [e]
        by_cases h : r.2 < 5
        · rw [decide_eq_true h, decide_eq_false (show ¬ 5 ≤ r.2 by omega)]; simp
        · rw [decide_eq_false h, decide_eq_true (show 5 ≤ r.2 by omega)]; simp)
    clear hopn hS hsz hok hdv hdu hdu2
    go_wp2_with fail
    refine (HDU.out _).mono ?_
    rintro e1 w1 ⟨rfl, hb1⟩
    have HS1 := Lib.hid (HS.out.on hb1)
    have HB01 := Lib.hid hb1
    clear hb1 q0 q1 q2 q3 HDU
    go_wp2_with fail
    refine (HSZ.out _ HB01.out).mono ?_
    rintro e1 w2 ⟨rfl, hb1⟩
    have HS2 := Lib.hid (HS1.out.on hb1)
    clear hb1 HS1 HSZ
    have parts : (ok = false) ∨ (ok = true ∧ lt = false) ∨ (ok = true ∧ lt = true ∧ du = true) ∨ (ok = true ∧ lt = true ∧ du = false) := by cases ok <;> cases lt <;> cases du <;> simp
    go_upto_region 8 with fail
    go_cut [48] (fun s48 wx => s48 = .bool (ok && lt && !du) ∧ wx = w2)
    case first =>
      rcases parts with rfl | ⟨rfl, rfl⟩ | ⟨rfl, rfl, rfl⟩ | ⟨rfl, rfl, rfl⟩
      all_goals go_wp2_with fail
      all_goals go_meet
      all_goals exact ⟨rfl, rfl⟩
    case rest =>
    obtain ⟨rfl, hwc⟩ := hcut
    obtain rfl : w2 = wc := hwc.symm
    obtain ⟨FF, hFF⟩ : ∃ FF, FF = (ok && lt && !du) := ⟨_, rfl⟩
    rw [← hFF] at HF ⊢
    clear hlt hFF parts
    cases FF
    case true =>
      have HE := Lib.hid (show OPN = (0, k, bitsOf raw) by rw [HOPN.out, opnB_full HF.out])
      obtain ⟨hs1, hs2⟩ := opn_ok (bitsOf bs) (0, 0) [] 0 k (bitsOf raw) (fun _ => ⟨rfl, rfl⟩) (fun h => absurd rfl h) (HO.out.symm.trans HE.out)
      obtain ⟨g, hg⟩ : ∃ g, g = decide (crcOf (bitsOf raw) 0 = 0) := ⟨_, rfl⟩
      obtain ⟨E, hE⟩ : ∃ E, E = endB g 10 k 0 ((bitsOf bs).drop k) := ⟨_, rfl⟩
      have HD := Lib.hid (show decB (bitsOf bs) = (E.1, E.2, bitsOf raw) by
        have e := HO.out.symm.trans HE.out
        rw [dec_good (by rw [e]), e]
        simp only
        rw [← hg, ← hE])
      obtain ⟨e, n, q, m, data, ec, hd8, hpar, hec, hfr⟩ : ∃ (e : Bool) (n : Nat) (q : Bool) (m : Nat) (data : List Nat) (ec : Nat), data.length = 8 ∧ prV (parseB (bitsOf raw)) = .tuple #[frameV e n q (m : Int) data, .int .i64 ((if g then raw.length else 0 : Nat) : Int), .int .i64 (ec : Int)] ∧ (ec = 0 ↔ g = true) ∧ (g = true → frOf (parseB (bitsOf raw)) = frameV e n q (m : Int) data) := by
        cases hgg : g
        · have hc : crcOf (bitsOf raw) 0 ≠ 0 := by rw [hgg] at hg; simpa using hg.symm
          have hp : parseB (bitsOf raw) = .error 5 := by
            have h1 : (bitsOf raw)[0]?.getD 0 = 0 := by
              cases hb : bitsOf raw with
              | nil => rfl
              | cons y l => rw [hb] at hs2; simp at hs2; simp [hs2]
            unfold parseB
            rw [if_neg (by rw [h1]; decide), hs1]
            simp only
            rw [if_neg (by omega), List.take_of_length_le (Nat.le_refl _), if_neg hc]
          exact ⟨false, 0, false, 0, [0, 0, 0, 0, 0, 0, 0, 0], 5, rfl, by rw [hp]; rfl, by simp, by simp⟩
        · have hc : crcOf (bitsOf raw) 0 = 0 := by rw [hgg] at hg; simpa using hg.symm
          obtain ⟨e, n, q, m, data, hpar, hd⟩ := parse_whole hs1 hs2 hc
          exact ⟨e, n, q, m, data, 0, hd, by rw [hpar, bitsOf_length]; rfl, by simp, fun _ => by rw [hpar]; rfl⟩
      have HPA := Lib.hid (show Calls Tryd.prog 23 #[.slice va raw.length vcap] w2 fun x w' => x = .returned (.tuple #[frameV e n q (m : Int) data, .int .i64 ((if g then raw.length else 0 : Nat) : Int), .int .i64 (ec : Int)]) ∧ Below w2.heap.size w2 w' from by
        have h := ref6Parse_any va raw.length vcap raw (by have := HL.out; have := HLEN.out; omega) w2 HS2.out.own.str
        rw [hpar] at h
        exact h)
      obtain ⟨x0, x1, x2, x3, x4, x5, x6, x7, rfl⟩ := eight hd8
      simp only [frameV, frameC, List.map] at HPA
      obtain ⟨gz, hgz⟩ : ∃ gz : Nat, gz = (if g then raw.length else 0 : Nat) := ⟨_, rfl⟩
      rw [← hgz] at HPA
      have HEC := Lib.hid hec; have HFR := Lib.hid hfr; have HEE := Lib.hid hE
      clear HOPN hs1 hs2 hg hE hpar hec hfr hd8 hgz
      go_wp2_with fail
      refine HPA.out.mono ?_
      rintro y w3 ⟨rfl, hb3⟩
      have HS3 := Lib.hid (HS2.out.on hb3)
      obtain ⟨W4, hW4⟩ : ∃ W4, W4 = w3.alloc (.cells #[.bool e, .int .u32 (n : Int), .bool q, .int .i64 (m : Int), .int .u8 (x0 : Int), .int .u8 (x1 : Int), .int .u8 (x2 : Int), .int .u8 (x3 : Int), .int .u8 (x4 : Int), .int .u8 (x5 : Int), .int .u8 (x6 : Int), .int .u8 (x7 : Int)] 27) := ⟨_, rfl⟩
      have HS4 := Lib.hid (show DcS w W4 r raw (.slice va raw.length vcap) by rw [hW4]; exact HS3.out.on ((Below.refl _ _).alloc (Nat.le_refl _) _))
      have HF4 := Lib.hid (show Blk W4 w3.heap.size 27 (frameC e n q (m : Int) [x0, x1, x2, x3, x4, x5, x6, x7]) by rw [hW4]; exact Blk.new w3 _ _)
      have HNE := Lib.hid (show w.heap.size < w3.heap.size by have := HS3.out.size; omega)
      clear hb3
      go_upto_region 19 with fail
      rw [← hW4]
      clear hW4
      obtain ⟨D, hD⟩ : ∃ D, D = w3.heap.size := ⟨_, rfl⟩
      rw [← hD] at HF4 HNE ⊢
      clear hD HPA HS3
      go_wp2_with fail
      go_loopw [7, 17] (fun i j wx => ∃ c p : Nat, i = .int .i64 p ∧ j = .int .i64 c ∧ c ≤ 10 ∧ p = k + c ∧ p ≤ len ∧ E = endB g (10 - c) p c ((bitsOf bs).drop p) ∧ wx = W4) (fun _ j _ => 10 - (intOf j).toNat)
      case atStart => exact ⟨0, k, rfl, rfl, by omega, by omega, by omega, HEE.out, rfl⟩
      case round =>
        obtain ⟨c, p, rfl, rfl, hc10, hpk, hpl, hEn, rfl⟩ := hrel
        have HEN := Lib.hid hEn; have HPK := Lib.hid hpk
        clear hEn hpk
        by_cases h10 : c < 10
        · have i5 : (c : Int) < 10 := by omega
          by_cases hend : p = len
          · have i6 : ((p : Int) == (len : Int)) = true := by rw [hend]; simp
            have HVE := Lib.hid (show V = .tuple #[frameV false 0 false 0 [0, 0, 0, 0, 0, 0, 0, 0], .int .i64 (p : Nat), .int .i64 2] by
              have e1 : E = (2, p) := by
                rw [HEN.out, hend, HLEN.out, List.drop_of_length_le (by rw [bitsOf_length]; exact Nat.le_refl _), show 10 - c = (9 - c) + 1 by omega]
                rfl
              rw [HV.out, dcV, HD.out, e1]
              rfl)
            obtain ⟨z0, z1, z2, z3, z4, z5, z6, z7, z8, z9, z10, z11⟩ := (HS4.out.blk.at rfl).cells
            obtain ⟨f0, f1, f2, f3, f4, f5, f6, f7, f8, f9, f10, f11⟩ := (HS4.out.blk.at rfl).frz
            clear hend
            go_wp2_with fail
            exact bodyPost_ret (v := .tuple #[frameV false 0 false 0 [0, 0, 0, 0, 0, 0, 0, 0], .int .i64 (p : Nat), .int .i64 2]) (by simp [results, Tryd.results79, go_sem, World.cell?_setCell_same', z0, z1, z2, z3, z4, z5, z6, z7, z8, z9, z10, z11, frameV, frameC]) rfl ⟨by rw [HVE.out], below12 (Nat.le_refl _) HS4.out.below _ _ _ _ _ _ _ _ _ _ _ _⟩
          · have hlt : p < len := by omega
            have i6 : ((p : Int) == (len : Int)) = false := by rw [beq_eq_false_iff_ne]; omega
            have i2 : (0 : Int) ≤ (p : Int) := by omega
            have i3 : (p : Int) < (len : Int) := by omega
            obtain ⟨bk, off, rfl, hbk, hc⟩ := HI.out.at hlt
            obtain ⟨x, hx⟩ : ∃ x, x = bs[p]?.getD 0 := ⟨_, rfl⟩
            rw [← hx] at hc
            have hcc := hc _ HS4.out.below
            have HST := Lib.hid (show E = if bitN x = 0 ∧ c ≠ 1 then (3, p) else if g = false ∧ c = 2 then (5, p) else endB g (10 - (c + 1)) (p + 1) (c + 1) ((bitsOf bs).drop (p + 1)) by
              rw [HEN.out, drop_bits bs p (by have := HLEN.out; omega), ← hx, show 10 - c = (9 - c) + 1 by omega]
              rw [endB, show 10 - (c + 1) = 9 - c by omega])
            have HHP := Lib.hid (show c + 1 ≤ 10 ∧ p + 1 = k + (c + 1) ∧ p + 1 ≤ len by have := HPK.out; omega)
            have hwp : IntKind.i64.wrap ((p : Int) + 1) = (p : Int) + 1 := by rw [IntKind.wrap_i64]; omega
            have hwc : IntKind.i64.wrap ((c : Int) + 1) = (c : Int) + 1 := by rw [IntKind.wrap_i64]; omega
            clear hc hx hend h10
            have ways : (x = 0 ∧ c ≠ 1) ∨ (¬ (x = 0 ∧ c ≠ 1) ∧ c = 2 ∧ ec ≠ 0) ∨ (¬ (x = 0 ∧ c ≠ 1) ∧ ¬ (c = 2 ∧ ec ≠ 0)) := by omega
            rcases ways with ⟨hx0, hc1⟩ | ⟨hn, hc2, hec⟩ | ⟨hn, hn2⟩
            · have i7 : ((x : Int) == 0) = true := by rw [hx0]; rfl
              have i8 : ((c : Int) != 1) = true := by simp; omega
              have HVE := Lib.hid (show V = .tuple #[frameV false 0 false 0 [0, 0, 0, 0, 0, 0, 0, 0], .int .i64 (p : Nat), .int .i64 3] by
                have e1 : E = (3, p) := by rw [HST.out, if_pos ⟨by rw [hx0]; rfl, hc1⟩]
                rw [HV.out, dcV, HD.out, e1]
                rfl)
              obtain ⟨z0, z1, z2, z3, z4, z5, z6, z7, z8, z9, z10, z11⟩ := (HS4.out.blk.at rfl).cells
              obtain ⟨f0, f1, f2, f3, f4, f5, f6, f7, f8, f9, f10, f11⟩ := (HS4.out.blk.at rfl).frz
              clear hx0 hc1
              go_wp2_with fail
              exact bodyPost_ret (v := .tuple #[frameV false 0 false 0 [0, 0, 0, 0, 0, 0, 0, 0], .int .i64 (p : Nat), .int .i64 3]) (by simp [results, Tryd.results79, go_sem, World.cell?_setCell_same', z0, z1, z2, z3, z4, z5, z6, z7, z8, z9, z10, z11, frameV, frameC]) rfl ⟨by rw [HVE.out], below12 (Nat.le_refl _) HS4.out.below _ _ _ _ _ _ _ _ _ _ _ _⟩
            · have hxn : x ≠ 0 := fun h => hn ⟨h, by omega⟩
              have i7 : ((x : Int) == 0) = false := by rw [beq_eq_false_iff_ne]; omega
              have i8 : ((c : Int) == 2) = true := by rw [hc2]; rfl
              have i9 : ((ec : Int) != 0) = true := by simp; omega
              have HVE := Lib.hid (show V = .tuple #[frameV false 0 false 0 [0, 0, 0, 0, 0, 0, 0, 0], .int .i64 (p : Nat), .int .i64 5] by
                have hg : g = false := by
                  cases g
                  · rfl
                  · exact absurd (HEC.out.2 rfl) hec
                have e1 : E = (5, p) := by rw [HST.out, if_neg (fun h => hxn (bitN_eq_zero h.1)), if_pos ⟨hg, hc2⟩]
                rw [HV.out, dcV, HD.out, e1]
                rfl)
              obtain ⟨z0, z1, z2, z3, z4, z5, z6, z7, z8, z9, z10, z11⟩ := (HS4.out.blk.at rfl).cells
              obtain ⟨f0, f1, f2, f3, f4, f5, f6, f7, f8, f9, f10, f11⟩ := (HS4.out.blk.at rfl).frz
              clear hn hc2 hec hxn
              go_wp2_with fail
              exact bodyPost_ret (v := .tuple #[frameV false 0 false 0 [0, 0, 0, 0, 0, 0, 0, 0], .int .i64 (p : Nat), .int .i64 5]) (by simp [results, Tryd.results79, go_sem, World.cell?_setCell_same', z0, z1, z2, z3, z4, z5, z6, z7, z8, z9, z10, z11, frameV, frameC]) rfl ⟨by rw [HVE.out], below12 (Nat.le_refl _) HS4.out.below _ _ _ _ _ _ _ _ _ _ _ _⟩
            · have HEN2 := Lib.hid (show E = endB g (10 - (c + 1)) (p + 1) (c + 1) ((bitsOf bs).drop (p + 1)) by
                rw [HST.out, if_neg (fun h => hn ⟨bitN_eq_zero h.1, h.2⟩), if_neg (fun h => hn2 ⟨h.2, fun h0 => by have := HEC.out.1 h0; rw [this] at h; exact absurd h.1 (by decide)⟩)])
              have w1 : (((x : Int) == 0) = false) ∨ (((x : Int) == 0) = true ∧ ((c : Int) != 1) = false) := by
                by_cases h : x = 0
                · have : c = 1 := by omega
                  exact .inr ⟨by rw [h]; rfl, by rw [this]; rfl⟩
                · exact .inl (by rw [beq_eq_false_iff_ne]; omega)
              have w2 : (((c : Int) == 2) = false) ∨ (((c : Int) == 2) = true ∧ ((ec : Int) != 0) = false) := by
                by_cases h : c = 2
                · have : ec = 0 := by omega
                  exact .inr ⟨by rw [h]; rfl, by rw [this]; rfl⟩
                · exact .inl (by rw [beq_eq_false_iff_ne]; omega)
              clear hn hn2
              rcases w1 with j1 | ⟨j1, j2⟩ <;> rcases w2 with j3 | ⟨j3, j4⟩
              all_goals
                go_wp2_with fail
                go_roundw
                case rel => exact ⟨c + 1, p + 1, by simp, by simp, HHP.out.1, HHP.out.2.1, HHP.out.2.2, HEN2.out, by first | rfl | trivial⟩
                case measure => have := HHP.out; simp [intOf]; omega
        · obtain rfl : c = 10 := by omega
          have i5 : ¬ ((10 : Nat) : Int) < 10 := by omega
          have HVE := Lib.hid (show V = .tuple #[frameV e n q (m : Int) [x0, x1, x2, x3, x4, x5, x6, x7], .int .i64 (p : Nat), .int .i64 0] by
            have e1 : E = (0, p) := by rw [HEN.out]; rfl
            have hg : g = true := by
              cases hgg : g
              · have h := end_right 10 k 0 ((bitsOf bs).drop k) (by omega) (by omega)
                rw [← hgg, ← HEE.out, e1] at h
                exact absurd rfl h
              · rfl
            rw [HV.out, dcV, HD.out, e1]
            show Value.tuple #[frOf (if (0 : Nat) = 0 then parseB (bitsOf raw) else .error 0), .int .i64 (p : Nat), .int .i64 ((0 : Nat) : Int)] = _
            rw [if_pos rfl, HFR.out hg]
            rfl)
          obtain ⟨y0, y1, y2, y3, y4, y5, y6, y7, y8, y9, y10, y11⟩ := (HF4.out.at rfl).cells
          obtain ⟨z0, z1, z2, z3, z4, z5, z6, z7, z8, z9, z10, z11⟩ := (HS4.out.blk.at rfl).cells
          obtain ⟨f0, f1, f2, f3, f4, f5, f6, f7, f8, f9, f10, f11⟩ := (HS4.out.blk.at rfl).frz
          clear i5
          go_wp2_with fail
          exact bodyPost_ret (v := .tuple #[.agg #[.bool e, .int .u32 (n : Int), .bool q, .int .i64 (m : Int), .int .u8 (x0 : Int), .int .u8 (x1 : Int), .int .u8 (x2 : Int), .int .u8 (x3 : Int), .int .u8 (x4 : Int), .int .u8 (x5 : Int), .int .u8 (x6 : Int), .int .u8 (x7 : Int)], .int .i64 (p : Nat), .int .i64 0]) (by simp [results, Tryd.results79, go_sem, World.cell?_setCell_same', z0, z1, z2, z3, z4, z5, z6, z7, z8, z9, z10, z11]) rfl ⟨by rw [HVE.out]; rfl, below12 (Nat.le_refl _) HS4.out.below _ _ _ _ _ _ _ _ _ _ _ _⟩
    case false =>
    have HNF := Lib.hid HF.out
    by_cases hend : k = len
    · have HE := Lib.hid (show OPN = (2, k, bitsOf raw) by
        rw [HOPN.out, hend, HLEN.out, List.drop_of_length_le (by rw [bitsOf_length]; exact Nat.le_refl _), opnB_nil, HNF.out, if_neg (by decide)])
      have i1 : ((k : Int) == (len : Int)) = true := by rw [hend]; simp
      have HVE := Lib.hid (show V = .tuple #[frameV false 0 false 0 [0, 0, 0, 0, 0, 0, 0, 0], .int .i64 (k : Nat), .int .i64 2] by
        have h1 := dec_bad (l := bitsOf bs) (by rw [← HO.out, HE.out]; exact (by decide : (2 : Nat) ≠ 0))
        rw [HV.out, dcV, h1, ← HO.out, HE.out, if_neg (show ¬ (2 : Nat) = 0 by decide)]
        rfl)
      obtain ⟨z0, z1, z2, z3, z4, z5, z6, z7, z8, z9, z10, z11⟩ := (HS2.out.blk.at rfl).cells
      obtain ⟨f0, f1, f2, f3, f4, f5, f6, f7, f8, f9, f10, f11⟩ := (HS2.out.blk.at rfl).frz
      clear hend
      go_wp2_with fail
      exact bodyPost_ret (v := .tuple #[frameV false 0 false 0 [0, 0, 0, 0, 0, 0, 0, 0], .int .i64 (k : Nat), .int .i64 2]) (by simp [results, Tryd.results79, go_sem, World.cell?_setCell_same', z0, z1, z2, z3, z4, z5, z6, z7, z8, z9, z10, z11, frameV, frameC]) rfl ⟨by rw [HVE.out], below12 (Nat.le_refl _) HS2.out.below _ _ _ _ _ _ _ _ _ _ _ _⟩
    · have hlt : k < len := by omega
      have i1 : ((k : Int) == (len : Int)) = false := by rw [beq_eq_false_iff_ne]; omega
      have i2 : (0 : Int) ≤ (k : Int) := by omega
      have i3 : (k : Int) < (len : Int) := by omega
      obtain ⟨bk, off, rfl, hbk, hc⟩ := HI.out.at hlt
      obtain ⟨x, hx⟩ : ∃ x, x = bs[k]?.getD 0 := ⟨_, rfl⟩
      rw [← hx] at hc
      have HC := Lib.hid hc
      have HST := Lib.hid (show OPN = match uStep (some (r, bitsOf raw)) (bitN x) with
          | none => (4, k, bitsOf raw)
          | some s => opnB s.1 s.2 (k + 1) ((bitsOf bs).drop (k + 1)) by
        rw [HOPN.out, drop_bits bs k (by have := HLEN.out; omega), ← hx, opnB_cons, HNF.out, if_neg (by decide), if_neg (fun h => by
          have e : x = 0 := by rw [hx, h.1]; exact HZ0.out
          rw [e] at h
          exact h.2 rfl)]
        rfl)
      obtain ⟨p1, p2, K, hpk, hnx⟩ : ∃ (p1 : Nat) (p2 : Int) (K : Nat), nextB r.1 (r.2 : Int) (bitN x) = ((p1, p2), K) ∧ ∀ u, Calls Tryd.prog 107 #[.agg #[.int .u8 (r.1 : Nat), .int .i64 (r.2 : Nat)], .int .u8 (x : Nat)] u fun y w' => y = .returned (.tuple #[.agg #[.int .u8 (p1 : Nat), .int .i64 p2], .int .i64 (K : Nat)]) ∧ Below u.heap.size u w' :=
        ⟨(nextB r.1 (r.2 : Int) (bitN x)).1.1, (nextB r.1 (r.2 : Int) (bitN x)).1.2, (nextB r.1 (r.2 : Int) (bitN x)).2, rfl, fun u => refNext_any r.1 (r.2 : Int) x u⟩
      have HPK := Lib.hid hpk
      have HT8 := Lib.hid (show ∀ u, Below w2.heap.size w2 u → (Below w2.heap.size w2 u ∧ u.cell? ⟨w.heap.size + 1, 0, none⟩ = some (.int .u8 (r.1 : Nat)) ∧ u.cell? ⟨w.heap.size + 1, 1, none⟩ = some (.int .i64 (r.2 : Nat)) ∧ u.cell? ⟨bk, off + k, none⟩ = some (.int .u8 (x : Nat))) from fun u hu => by
        have h := (HS2.out.on hu)
        exact ⟨hu, h.two.1, h.two.2.1, HC.out _ h.below⟩)
      have HTA := Lib.hid (show ∀ u o, (Below w2.heap.size w2 u ∧ u.cell? ⟨w.heap.size + 1, 0, none⟩ = some (.int .u8 (r.1 : Nat)) ∧ u.cell? ⟨w.heap.size + 1, 1, none⟩ = some (.int .i64 (r.2 : Nat)) ∧ u.cell? ⟨bk, off + k, none⟩ = some (.int .u8 (x : Nat))) → (Below w2.heap.size w2 (u.alloc o) ∧ (u.alloc o).cell? ⟨w.heap.size + 1, 0, none⟩ = some (.int .u8 (r.1 : Nat)) ∧ (u.alloc o).cell? ⟨w.heap.size + 1, 1, none⟩ = some (.int .i64 (r.2 : Nat)) ∧ (u.alloc o).cell? ⟨bk, off + k, none⟩ = some (.int .u8 (x : Nat))) from fun u o h => HT8.out _ (h.1.alloc h.1.size o))
      have HTD := Lib.hid (fun o => HT8.out _ ((Below.refl w2.heap.size w2).alloc (Nat.le_refl _) o).drew)
      have HN8 := Lib.hid (show ∀ u, (Below w2.heap.size w2 u ∧ u.cell? ⟨w.heap.size + 1, 0, none⟩ = some (.int .u8 (r.1 : Nat)) ∧ u.cell? ⟨w.heap.size + 1, 1, none⟩ = some (.int .i64 (r.2 : Nat)) ∧ u.cell? ⟨bk, off + k, none⟩ = some (.int .u8 (x : Nat))) → Calls Tryd.prog 107 #[.agg #[.int .u8 (r.1 : Nat), .int .i64 (r.2 : Nat)], .int .u8 (x : Nat)] u fun y w' => y = .returned (.tuple #[.agg #[.int .u8 (p1 : Nat), .int .i64 p2], .int .i64 (K : Nat)]) ∧ Below u.heap.size u w' ∧ (Below w2.heap.size w2 w' ∧ w'.cell? ⟨w.heap.size + 1, 0, none⟩ = some (.int .u8 (r.1 : Nat)) ∧ w'.cell? ⟨w.heap.size + 1, 1, none⟩ = some (.int .i64 (r.2 : Nat)) ∧ w'.cell? ⟨bk, off + k, none⟩ = some (.int .u8 (x : Nat))) from fun u hu => (hnx u).mono fun _ _ h => ⟨h.1, h.2, HT8.out _ (hu.1.trans (h.2.mono hu.1.size))⟩)
      have k8 := HT8.out _ (Below.refl w2.heap.size w2).drew
      clear hx hc hend hpk hnx
      go_wp2_with fail
      go_cut [12, 13] (fun s12 s13 wx => ∃ bb, s12 = .pointer (some ⟨bb, 0, none⟩) ∧ s13 = .int .i64 (K : Nat) ∧ w2.heap.size ≤ bb ∧ bb < wx.heap.size ∧ Two wx bb (.int .u8 (p1 : Nat)) (.int .i64 p2) ∧ Below w2.heap.size w2 wx)
      case first =>
        go_region_held3 (fun u => (Below w2.heap.size w2 u ∧ u.cell? ⟨w.heap.size + 1, 0, none⟩ = some (.int .u8 (r.1 : Nat)) ∧ u.cell? ⟨w.heap.size + 1, 1, none⟩ = some (.int .i64 (r.2 : Nat)) ∧ u.cell? ⟨bk, off + k, none⟩ = some (.int .u8 (x : Nat)))) (first | (with_reducible assumption) | (with_reducible exact HTA.out _ _ (by assumption)) | (with_reducible exact HT8.out _ (below_two2 h3.1 hge _ _)) | (exact HTD.out _)) (first | (go_at_call 107; refine (HN8.out _ (by assumption)).mono ?_; rintro y w3 ⟨rfl, hb3, h3⟩; (first | (have FZ := two_new8rd w2 (Below.refl _ _) hb3) | (have FZ := two_new8r w2 (Below.refl _ _) hb3) | skip); (first | (obtain ⟨hge, hlt3, q0, q1, q2, q3⟩ := FZ) | skip)))
        all_goals (go_wp2_with fail; go_meet; first | exact ⟨_, rfl, rfl, Nat.le_refl _, by rw [setCell_size2, setCell_size2]; exact hlt3, Two.put ⟨q0, q1, q2, q3⟩ _ _, below_two2 h3.1 hge _ _⟩ | exact ⟨_, rfl, rfl, h3.1.size, by simp, Two.new w3 _ _ _ rfl, h3.1.alloc h3.1.size _⟩)
      case rest =>
      obtain ⟨W3, hW3⟩ : ∃ W3, W3 = wc := ⟨_, rfl⟩
      rw [← hW3] at hcut ⊢
      clear hW3
      obtain ⟨bb, rfl, rfl, hb1, hb2, T8, hB3⟩ := hcut
      have HS3 := Lib.hid (HS2.out.on hB3)
      have HB3 := Lib.hid hB3
      have HT9 := Lib.hid T8
      have hc3 := HC.out _ HS3.out.below
      obtain ⟨t0, t1, t2, t3⟩ := T8
      obtain ⟨q0, q1, q2, q3⟩ := HS3.out.two
      obtain ⟨vb, hvb⟩ : ∃ vb, vb = bitN x := ⟨_, rfl⟩
      have hv1 : vb ≤ 1 := by rw [hvb]; exact bitN_le _
      have HVB := Lib.hid hvb
      have HR1 := Lib.hid HS3.out.bit
      have hsz3 := HS2.out.size
      have hs3 := HS3.out.size
      have hpk := HPK.out
      rw [← HVB.out] at hpk
      clear hB3 HN8 k8 hvb
      by_cases h5 : 5 ≤ r.2
      · by_cases hvd : vb = 1 - r.1
        · have hn : nextB r.1 (r.2 : Int) vb = ((vb, 1), 1) := by unfold nextB; rw [if_pos (by omega), bitN_self HR1.out, if_pos hvd]
          rw [hn] at hpk
          obtain ⟨⟨e1, e2⟩, e3⟩ : ((vb = p1) ∧ (1 : Int) = p2) ∧ 1 = K := by simpa using hpk
          subst e1 e2 e3
          have HO1 := Lib.hid (show OPN = opnB (vb, 1) (bitsOf raw) (k + 1) ((bitsOf bs).drop (k + 1)) by
            rw [HST.out, ← HVB.out]
            have : uStep (some (r, bitsOf raw)) vb = some ((vb, 1), bitsOf raw) := by
              show (if 5 ≤ r.2 then (if vb = 1 - r.1 then some ((vb, 1), bitsOf raw) else none) else _) = _
              rw [if_pos h5, if_pos hvd]
            rw [this])
          have HHK := Lib.hid (show k + 1 ≤ len ∧ raw.length ≤ k + 1 by omega)
          clear hpk hn h5 hvd HST hsz3 hs3
          have hwk : IntKind.i64.wrap ((k : Int) + 1) = (k : Int) + 1 := by rw [IntKind.wrap_i64]; omega
          go_wp2_with fail
          go_roundw
          case rel => exact ⟨k + 1, (vb, 1), raw, HHK.out.1, by simp, HO1.out, ⟨HS3.out.blk.keep (below_two2 (Below.refl (w.heap.size + 1) W3) (Nat.le_refl _) _ _) (Nat.lt_succ_self _), (HS3.out.own.other (by omega)).other (by omega), HS3.out.two.put _ _, hv1, by rw [setCell_size2, setCell_size2]; exact HS3.out.size, below_two2 HS3.out.below (by omega) _ _⟩, HHK.out.2⟩
          case measure => have := HHK.out; simp [intOf]; omega
        · have hn : nextB r.1 (r.2 : Int) vb = ((r.1, (r.2 : Int)), 2) := by unfold nextB; rw [if_pos (by omega), bitN_self HR1.out, if_neg hvd]
          rw [hn] at hpk
          obtain ⟨⟨e1, e2⟩, e3⟩ : ((r.1 = p1) ∧ (r.2 : Int) = p2) ∧ 2 = K := by simpa using hpk
          subst e1 e2 e3
          have HE := Lib.hid (show OPN = (4, k, bitsOf raw) by
            rw [HST.out, ← HVB.out]
            have : uStep (some (r, bitsOf raw)) vb = none := by
              show (if 5 ≤ r.2 then (if vb = 1 - r.1 then some ((vb, 1), bitsOf raw) else none) else _) = _
              rw [if_pos h5, if_neg hvd]
            rw [this])
          have HVE := Lib.hid (show V = .tuple #[frameV false 0 false 0 [0, 0, 0, 0, 0, 0, 0, 0], .int .i64 (k : Nat), .int .i64 4] by
            have h1 := dec_bad (l := bitsOf bs) (by rw [← HO.out, HE.out]; exact (by decide : (4 : Nat) ≠ 0))
            rw [HV.out, dcV, h1, ← HO.out, HE.out, if_neg (show ¬ (4 : Nat) = 0 by decide)]
            rfl)
          clear hpk hn h5 hvd HST hsz3 hs3
          obtain ⟨z0, z1, z2, z3, z4, z5, z6, z7, z8, z9, z10, z11⟩ := (HS3.out.blk.at rfl).cells
          obtain ⟨f0, f1, f2, f3, f4, f5, f6, f7, f8, f9, f10, f11⟩ := (HS3.out.blk.at rfl).frz
          go_wp2_with fail
          exact bodyPost_ret (v := .tuple #[frameV false 0 false 0 [0, 0, 0, 0, 0, 0, 0, 0], .int .i64 (k : Nat), .int .i64 4]) (by simp [results, Tryd.results79, go_sem, World.cell?_setCell_same', z0, z1, z2, z3, z4, z5, z6, z7, z8, z9, z10, z11, frameV, frameC]) rfl ⟨by rw [HVE.out], below12 (Nat.le_refl _) HS3.out.below _ _ _ _ _ _ _ _ _ _ _ _⟩
      · obtain ⟨m, hm⟩ : ∃ m, m = (nx r vb).2 := ⟨_, rfl⟩
        have hn : nextB r.1 (r.2 : Int) vb = ((vb, (m : Int)), 0) := by rw [nextB_nx r vb (by omega) HR1.out, nx_fst, hm]
        rw [hn] at hpk
        obtain ⟨⟨e1, e2⟩, e3⟩ : ((vb = p1) ∧ (m : Int) = p2) ∧ 0 = K := by simpa using hpk
        subst e1 e2 e3
        have HO1 := Lib.hid (show OPN = opnB (vb, m) (bitsOf (raw ++ [x])) (k + 1) ((bitsOf bs).drop (k + 1)) by
          rw [HST.out, ← HVB.out]
          have : uStep (some (r, bitsOf raw)) vb = some ((vb, m), bitsOf raw ++ [vb]) := by
            show (if 5 ≤ r.2 then (if vb = 1 - r.1 then some ((vb, 1), bitsOf raw) else none) else some (nx r vb, bitsOf raw ++ [vb])) = _
            rw [if_neg h5]
            exact congrArg (fun z => some (z, bitsOf raw ++ [vb])) (Prod.ext (nx_fst r vb) hm.symm)
          rw [this]
          have e : bitsOf (raw ++ [x]) = bitsOf raw ++ [vb] := by rw [HVB.out]; simp [bitsOf]
          rw [e])
        have HHK := Lib.hid (show k + 1 ≤ len ∧ raw.length + 1 ≤ k + 1 by omega)
        have HOW := Lib.hid HS3.out.own.own
        have HTW := Lib.hid (show ∀ u, Below (w.heap.size + 2) W3 u → Two u bb (.int .u8 (vb : Nat)) (.int .i64 (m : Int)) → True from fun _ _ _ => trivial)
        have HNE := Lib.hid (show some bb ≠ (Value.slice va raw.length vcap).ownBlock from fun e => by have := (World.ownsRow.lt HS2.out.own.own bb e.symm).2; omega)
        clear hpk hn h5 hm HST HTA HTD HTW hsz3
        have hwk : IntKind.i64.wrap ((k : Int) + 1) = (k : Int) + 1 := by rw [IntKind.wrap_i64]; omega
        go_wp2_with (at_builtin; refine wpList_append_own _ rfl _ _ 34 rfl (w.heap.size + 2) 5 i0 (.int .u8 0) 1 1 Tryd.underlying34 hi hz0 hz1' hz2 rfl (by decide) _ _ _ rfl (HOW.out.alloc _) ⟨_, 0, none⟩ 1 1 [.int .u8 (x : Int)] rfl rfl one_cell one_flat ?c3 ?c4 ?c5 ?_)
        case c3 => unfold maxLen; omega
        case c4 => omega
        case c5 => simp; omega
        intro v' w4 hown4 hgrow _
        have h34 : Below (w.heap.size + 2) W3 w4 := ((Below.refl _ W3).alloc hs3 _).grown hgrow (by simp; omega) HS3.out.own.ge
        have hblk : w4.heap[bb]? = W3.heap[bb]? := (hgrow.block bb (by simp; omega) HNE.out).trans (((Below.refl _ W3).alloc (Nat.le_refl _) _).block bb hb2)
        have T4 : Two w4 bb (.int .u8 (vb : Nat)) (.int .i64 (m : Int)) := ⟨(World.cell?_of_block hblk).trans HT9.out.1, (World.cell?_of_block hblk).trans HT9.out.2.1, (World.frozen?_of_block hblk).trans HT9.out.2.2.1, (World.frozen?_of_block hblk).trans HT9.out.2.2.2⟩
        have HO4 := Lib.hid (show Ow (w.heap.size + 2) w4 v' (raw ++ [x]) from Ow.snoc hown4)
        have HQ4 := Lib.hid (HS3.out.two.keepAt h34 (by omega))
        have HK4 := Lib.hid (HS3.out.blk.keep h34 (by omega))
        have HB4 := Lib.hid (HS3.out.below.trans (h34.mono (by omega)))
        have HZ4 := Lib.hid (Nat.le_trans hs3 h34.size)
        clear t0 t1 t2 t3 q0 q1 q2 q3 hc3 hown4 hgrow h34 hblk hs3
        obtain ⟨t0, t1, t2, t3⟩ := T4
        obtain ⟨q0, q1, q2, q3⟩ := HQ4.out
        go_wp2_with fail
        go_roundw
        case rel => exact ⟨k + 1, (vb, m), raw ++ [x], HHK.out.1, by simp, HO1.out, ⟨HK4.out.keep (below_two2 (Below.refl (w.heap.size + 1) w4) (Nat.le_refl _) _ _) (Nat.lt_succ_self _), (HO4.out.other (by omega)).other (by omega), HQ4.out.put _ _, hv1, by rw [setCell_size2, setCell_size2]; exact HZ4.out, below_two2 HB4.out (by omega) _ _⟩, by rw [List.length_append]; exact HHK.out.2⟩
        case measure => have := HHK.out; simp [intOf]; omega
theorem ref7Decode_any (a : Option Addr) (len cap : Nat) (bs : List Nat) (hl : bs.length ≤ 1000) (w : World) (hI : Str w.heap.size w (.slice a len cap) bs) : Calls Tryd.prog 79 #[.slice a len cap] w fun x w' => x = .returned (dcV (bitsOf bs)) ∧ Below w.heap.size w w' := by
  by_cases h0 : bs[0]?.getD 0 = 0
  · exact ref7Decode_zero a len cap bs h0 hl w hI
  · exact ref7Decode_one a len cap bs h0 w hI
end Go.Proofs.YtmfnkfiocnngeaaDoor
