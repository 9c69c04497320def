/- The code of package wire (closed, the closure of opened): what it returns. Conditions: not more than a thousand bits. -/
import Derived.Test.YtndjennhbggoiaaDoorWra
import Derived.Test.YtndjennhbggoiaaDoorSfb
namespace Go.Proofs.YtndjennhbggoiaaDoor
open Go.RowKit Go.Shelf
theorem drop_bits (bs : List Nat) (i : Nat) (h : i < bs.length) : (bitsOf bs).drop i = bitN (bs[i]?.getD 0) :: (bitsOf bs).drop (i + 1) := by
  have hl : i < (bitsOf bs).length := by rw [bitsOf_length]; exact h
  rw [List.drop_eq_getElem_cons hl]
  congr 1
  have := bits_get bs i
  rw [List.getElem?_eq_getElem hl] at this
  exact this
theorem closed_any (a : Option Addr) (len cap : Nat) (bs : List Nat) (f : Nat) (hf : f ≤ bs.length) (hl : bs.length ≤ 1000) (right : Bool) (w : World) (hI : Str w.heap.size w (.slice a len cap) bs) : Calls Tryd.prog 88 #[.slice a len cap, .int .i64 (f : Int), .bool right] w fun x w' => x = .returned (.tuple #[.int .i64 ((endB right 10 f 0 ((bitsOf bs).drop f)).2 : Nat), .int .i64 ((endB right 10 f 0 ((bitsOf bs).drop f)).1 : Nat)]) ∧ w = w' := by
  obtain rfl := hI.len
  obtain ⟨E, hE⟩ : ∃ E, E = endB right 10 f 0 ((bitsOf bs).drop f) := ⟨_, rfl⟩
  rw [← hE]
  have HE := Lib.hid hE; have HI := Lib.hid hI
  clear hE hI
  go_enter Tryd.func88, Tryd.ntmps88
  go_wp2_with fail
  go_loopw [10] (fun i wr => ∃ n : Nat, i = .int .i64 n ∧ n ≤ 10 ∧ f + n ≤ bs.length ∧ E = endB right (10 - n) (f + n) n ((bitsOf bs).drop (f + n)) ∧ w = wr) (fun i _ => 10 - (intOf i).toNat)
  case atStart => exact ⟨0, rfl, by omega, by omega, HE.out, rfl⟩
  case round =>
    obtain ⟨n, rfl, hn, hfn, hEn, rfl⟩ := hrel
    have HEN := Lib.hid hEn
    clear hEn
    obtain ⟨p, hp⟩ : ∃ p, p = f + n := ⟨_, rfl⟩
    have e1 : (f : Int) + (n : Int) = (p : Int) := by omega
    have e2 : IntKind.i64.wrap (p : Int) = (p : Int) := by rw [IntKind.wrap_i64]; omega
    have HP := Lib.hid hp
    rw [← hp] at hfn
    clear hp
    by_cases h10 : n < 10
    · have i1 : (n : Int) < 10 := by omega
      by_cases hend : p = bs.length
      · have i2 : ((p : Int) == (bs.length : Int)) = true := by rw [hend]; simp
        have HV := Lib.hid (show E = (2, p) by
          rw [HEN.out, ← HP.out, hend, List.drop_of_length_le (by rw [bitsOf_length]; exact Nat.le_refl _), show 10 - n = (9 - n) + 1 by omega]
          rfl)
        clear hend
        go_wp2_with fail
        exact bodyPost_ret (v := .tuple #[.int .i64 (p : Int), .int .i64 2]) (by simp [results, Tryd.results88, go_sem]) rfl ⟨by rw [HV.out]; rfl, rfl⟩
      · have hlt : p < bs.length := by omega
        have i2 : ((p : Int) == (bs.length : Int)) = false := by rw [beq_eq_false_iff_ne]; omega
        have i3 : (0 : Int) ≤ (p : Int) := by omega
        have i4 : (p : Int) < (bs.length : Int) := by omega
        obtain ⟨bk, off, rfl, hbk, hc⟩ := HI.out.at hlt
        have c := hc _ (Below.refl w.heap.size w)
        obtain ⟨x, hx⟩ : ∃ x, x = bs[p]?.getD 0 := ⟨_, rfl⟩
        rw [← hx] at c
        have hV : E = if bitN x = 0 ∧ n ≠ 1 then (3, p) else if right = false ∧ n = 2 then (5, p) else endB right (10 - (n + 1)) (p + 1) (n + 1) ((bitsOf bs).drop (p + 1)) := by
          rw [HEN.out, ← HP.out, drop_bits bs p hlt, ← hx, show 10 - n = (9 - n) + 1 by omega]
          rw [endB, show 10 - (n + 1) = 9 - n by omega]
        have HV := Lib.hid hV
        clear hV hx hc hend
        by_cases hx0 : x = 0
        · have i5 : ((x : Int) == 0) = true := by rw [hx0]; rfl
          have hb0 : bitN x = 0 := by rw [hx0]; rfl
          by_cases hn1 : n = 1
          · have i6 : ((n : Int) != 1) = false := by rw [hn1]; rfl
            have i7 : ((n : Int) == 2) = false := by rw [hn1]; rfl
            have HV2 := Lib.hid (show E = endB right (10 - (n + 1)) (p + 1) (n + 1) ((bitsOf bs).drop (p + 1)) by
              have := HV.out
              rw [if_neg (fun h => h.2 hn1), if_neg (fun h => by omega)] at this
              exact this)
            have HPP := Lib.hid (show p + 1 = f + (n + 1) by have := HP.out; omega)
            clear hn1 hb0 hx0
            cases right
            all_goals
              go_wp2_with fail
              go_roundw
              case rel => exact ⟨n + 1, by simp, by omega, by have := HPP.out; omega, by rw [HV2.out, HPP.out], by first | rfl | trivial⟩
              case measure => simp [intOf]; omega
          · have i6 : ((n : Int) != 1) = true := by simp; omega
            have HV2 := Lib.hid (show E = (3, p) by
              have := HV.out
              rw [if_pos ⟨hb0, hn1⟩] at this
              exact this)
            clear hn1 hb0 hx0
            go_wp2_with fail
            exact bodyPost_ret (v := .tuple #[.int .i64 (p : Int), .int .i64 3]) (by simp [results, Tryd.results88, go_sem]) rfl ⟨by rw [HV2.out]; rfl, rfl⟩
        · have i5 : ((x : Int) == 0) = false := by rw [beq_eq_false_iff_ne]; omega
          have hb1 : bitN x ≠ 0 := by unfold bitN; rw [if_neg hx0]; decide
          by_cases hn2 : n = 2
          · have i7 : ((n : Int) == 2) = true := by rw [hn2]; rfl
            cases right
            · have HV2 := Lib.hid (show E = (5, p) by
                have := HV.out
                rw [if_neg (fun h => hb1 h.1), if_pos ⟨rfl, hn2⟩] at this
                exact this)
              clear hb1 hx0 hn2
              go_wp2_with fail
              exact bodyPost_ret (v := .tuple #[.int .i64 (p : Int), .int .i64 5]) (by simp [results, Tryd.results88, go_sem]) rfl ⟨by rw [HV2.out]; rfl, rfl⟩
            · have HV2 := Lib.hid (show E = endB true (10 - (n + 1)) (p + 1) (n + 1) ((bitsOf bs).drop (p + 1)) by
                have := HV.out
                rw [if_neg (fun h => hb1 h.1), if_neg (fun h => absurd h.1 (by decide))] at this
                exact this)
              have HPP := Lib.hid (show p + 1 = f + (n + 1) by have := HP.out; omega)
              clear hb1 hx0 hn2
              go_wp2_with fail
              go_roundw
              case rel => exact ⟨n + 1, by simp, by omega, by have := HPP.out; omega, by rw [HV2.out, HPP.out], by first | rfl | trivial⟩
              case measure => simp [intOf]; omega
          · have i7 : ((n : Int) == 2) = false := by rw [beq_eq_false_iff_ne]; omega
            have HV2 := Lib.hid (show E = endB right (10 - (n + 1)) (p + 1) (n + 1) ((bitsOf bs).drop (p + 1)) by
              have := HV.out
              rw [if_neg (fun h => hb1 h.1), if_neg (fun h => hn2 h.2)] at this
              exact this)
            have HPP := Lib.hid (show p + 1 = f + (n + 1) by have := HP.out; omega)
            clear hb1 hx0 hn2
            cases right
            all_goals
              go_wp2_with fail
              go_roundw
              case rel => exact ⟨n + 1, by simp, by omega, by have := HPP.out; omega, by rw [HV2.out, HPP.out], by first | rfl | trivial⟩
              case measure => simp [intOf]; omega
    · obtain rfl : n = 10 := by omega
      have HV2 := Lib.hid (show E = (0, p) by rw [HEN.out, ← HP.out]; rfl)
      have HPP := Lib.hid (show (f : Int) + 10 = (p : Int) by have := HP.out; omega)
      have e3 := HPP.out
      clear e1
      go_wp2_with fail
      exact bodyPost_ret (v := .tuple #[.int .i64 (p : Int), .int .i64 0]) (by simp [results, Tryd.results88, go_sem]) rfl ⟨by rw [HV2.out]; rfl, rfl⟩
theorem full_any (W : World) (Bb Br : Nat) (r : Nat × Nat) (out : List Nat) (a : Option Addr) (len cap : Nat) (hl : out.length ≤ 1000) (hb : W.cell? ⟨Bb, 0, none⟩ = some (.slice a len cap)) (hbB : Bb < W.heap.size) (ht : Two W Br (.int .u8 (r.1 : Nat)) (.int .i64 (r.2 : Nat))) (hrB : Br < W.heap.size) (hI : Str W.heap.size W (.slice a len cap) out) :
    Calls Tryd.prog 131 #[.pointer (some ⟨Bb, 0, none⟩), .pointer (some ⟨Br, 0, none⟩)] W fun x w' => x = .returned (.bool (fullB r (bitsOf out))) ∧ Below W.heap.size W w' := by
  obtain rfl := hI.len
  have HSI := Lib.hid (frameSize_any a out.length cap out hl W hI)
  have HD := Lib.hid (fun u => due_any r.1 (r.2 : Int) u)
  obtain ⟨F, hF⟩ : ∃ F, F = fullB r (bitsOf out) := ⟨_, rfl⟩
  rw [← hF]
  unfold fullB at hF
  rw [bitsOf_length] at hF
  obtain ⟨D, hD⟩ : ∃ D, D = (dueW r.1 (r.2 : Int)).2 := ⟨_, rfl⟩
  obtain ⟨q, hq⟩ : ∃ q, q = (dueW r.1 (r.2 : Int)).1 := ⟨_, rfl⟩
  rw [← hD, ← hq] at HD
  have hD2 : decide (r.2 < 5) = !D := by
    rw [hD]; unfold dueW
    by_cases h5 : r.2 < 5
    · rw [if_pos (by omega)]; simp [h5]
    · rw [if_neg (by omega)]; simp [h5]
  rw [hD2] at hF
  unfold runW at HD
  have HB0 := Lib.hid hb; have HT0 := Lib.hid ht
  clear hD hq hD2 hI ht
  obtain ⟨n, ok, hs1, hs2, hs3⟩ : ∃ (n : Nat) (ok : Bool), n = (sizeB (bitsOf out)).getD 0 ∧ ok = (sizeB (bitsOf out)).isSome ∧ decide (sizeB (bitsOf out) = some out.length) = (ok && decide (n = out.length)) := by
    refine ⟨_, _, rfl, rfl, ?_⟩
    cases sizeB (bitsOf out) <;> simp
  rw [← hs1, ← hs2] at HSI
  rw [hs3] at hF
  clear hs1 hs2 hs3
  have i0 : decide (n = out.length) = ((n : Int) == (out.length : Int)) := by rw [Bool.eq_iff_iff]; simp; omega
  rw [i0] at hF
  obtain ⟨Q, hQ⟩ : ∃ Q, Q = ((n : Int) == (out.length : Int)) := ⟨_, rfl⟩
  rw [← hQ] at hF
  have hQ2 := hQ.symm
  have HF := Lib.hid hF
  clear hF hQ i0
  go_enter Tryd.func131, Tryd.ntmps131
  go_wp2_with fail
  refine HSI.out.mono ?_
  rintro x w1 ⟨rfl, hb1⟩
  have HB1 := Lib.hid hb1
  obtain ⟨t0, t1, t2, t3⟩ := HT0.out.keep hb1 hrB
  have hb' := ((bcell2 hb1).1 Bb 0 hbB).trans HB0.out
  clear hb1 hb
  go_wp2_with fail
  refine (HD.out _).mono ?_
  rintro x w2 ⟨rfl, hb2⟩
  have HB2 := Lib.hid (below_trans' HB1.out hb2)
  have hb'' := ((bcell2 hb2).1 Bb 0 (by have := HB1.out.size; omega)).trans hb'
  clear hb2 t0 t1 t2 t3 hb'
  cases ok
  · go_wp2_with fail
    go_ret
    exact ⟨by rw [HF.out]; rfl, HB2.out⟩
  · cases Q
    · go_wp2_with fail
      go_ret
      exact ⟨by rw [HF.out]; rfl, HB2.out⟩
    · cases D
      · go_wp2_with fail
        go_ret
        exact ⟨by rw [HF.out]; rfl, HB2.out⟩
      · go_wp2_with fail
        go_ret
        exact ⟨by rw [HF.out]; rfl, HB2.out⟩
end Go.Proofs.YtndjennhbggoiaaDoor
