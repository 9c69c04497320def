/- The document's own answers of layer 3 in plain words (Step, Sum, Seal, Whole): what they return. Conditions: strings are strings, and not longer than a thousand. -/
import Derived.Test.YtdnonahpoklbfaaDoorCrm
import Derived.Test.YtdnonahpoklbfaaDoorRfe
import Derived.Laws.BitsAllLaws
namespace Go.Proofs.YtdnonahpoklbfaaDoor
open Go.RowKit Go.Shelf
theorem refStep_any (s x : Nat) (hs : s < 65536) (w : World) : Calls Tryd.prog 12 #[.int .u16 s, .int .u8 x] w fun e w' => e = .returned (.int .u16 (crcStep (s % 32768) (bitN x) : Nat)) ∧ w = w' := by
  obtain ⟨t, ht⟩ : ∃ t, t = s % 32768 := ⟨_, rfl⟩
  have htl : t < 32768 := by omega
  have e1 : (s : Int) % 32768 = (t : Int) := by omega
  obtain ⟨d, hd⟩ : ∃ d, d = t * 2 % 32768 := ⟨_, rfl⟩
  have hdl : d < 32768 := by omega
  have e2 : (t : Int) * 2 % 32768 = (d : Int) := by omega
  have ex : bits .xor .u16 (d : Int) 17817 = ((d ^^^ 17817 : Nat) : Int) := u16_xor_nat d 17817 (by omega) (by omega)
  rw [← ht]
  have hc := crcStep t (bitN x)
  have hdef : crcStep t (bitN x) = d ^^^ (if decide (16384 ≤ t) != (bitN x == 1) then 17817 else 0) := by
    unfold crcStep
    rw [top_is htl, hd]
  rw [hdef]
  clear ht hd hdef hc
  by_cases hx : x = 0
  · subst hx
    rw [bitN_zero]
    by_cases h : 16384 ≤ t
    · have hr : (if decide (16384 ≤ t) != ((0 : Nat) == 1) then 17817 else 0) = 17817 := by simp [h]
      rw [hr]
      have hd : decide (16384 ≤ (t : Int)) = true := by simp; omega
      clear hr h
      go_enter Tryd.func12, Tryd.ntmps12
      go_wp2
      go_ret
      exact ⟨rfl, rfl⟩
    · have hr : (if decide (16384 ≤ t) != ((0 : Nat) == 1) then 17817 else 0) = 0 := by simp [h]
      rw [hr, Nat.xor_zero]
      have hd : decide (16384 ≤ (t : Int)) = false := by simp; omega
      clear hr ex h
      go_enter Tryd.func12, Tryd.ntmps12
      go_wp2
      go_ret
      exact ⟨congrArg (fun z => Ending.returned (.int .u16 z)) e2, rfl⟩
  · rw [bitN_pos hx]
    have hxn : ((x : Int) != 0) = true := by simp; omega
    clear hx
    by_cases h : 16384 ≤ t
    · have hr : (if decide (16384 ≤ t) != ((1 : Nat) == 1) then 17817 else 0) = 0 := by simp [h]
      rw [hr, Nat.xor_zero]
      have hd : decide (16384 ≤ (t : Int)) = true := by simp; omega
      clear hr ex h
      go_enter Tryd.func12, Tryd.ntmps12
      go_wp2
      go_ret
      exact ⟨congrArg (fun z => Ending.returned (.int .u16 z)) e2, rfl⟩
    · have hr : (if decide (16384 ≤ t) != ((1 : Nat) == 1) then 17817 else 0) = 17817 := by simp [h]
      rw [hr]
      have hd : decide (16384 ≤ (t : Int)) = false := by simp; omega
      clear hr h
      go_enter Tryd.func12, Tryd.ntmps12
      go_wp2
      go_ret
      exact ⟨rfl, rfl⟩
theorem crcOf_snoc (l : List Nat) (b s : Nat) : crcOf (l ++ [b]) s = crcStep (crcOf l s) b := by simp [crcOf]
theorem refSum_any (a : Option Addr) (len cap : Nat) (bs : List Nat) (w : World) (hI : Str w.heap.size w (.slice a len cap) bs) :
    Calls Tryd.prog 14 #[.slice a len cap] w fun e w' => e = .returned (.int .u16 (crcOf (bitsOf bs) 0 : Nat)) ∧ w = w' := by
  have hl := hI.len
  have hcm := hI.capLe
  have hcl := hI.lenCap
  have hlm : len ≤ 9223372036854775807 := by omega
  have HI := Lib.hid hI; have HL := Lib.hid hl
  clear hI hl hcm hcl
  go_enter Tryd.func14, Tryd.ntmps14
  go_wp2
  go_loopw [3, 4] (fun s i wr => ∃ (k n : Nat), k ≤ len ∧ i = .int .i64 k ∧ s = .int .u16 n ∧ n = crcOf (bitsTo bs k) 0 ∧ wr = w) (fun _ i _ => len - (intOf i).toNat)
  case atStart => exact ⟨0, 0, Nat.zero_le _, rfl, rfl, rfl, rfl⟩
  case round =>
    obtain ⟨k, n, hk, rfl, rfl, hn, rfl⟩ := hrel
    have hn32 : n < 32768 := by rw [hn]; exact crcOf_lt _ _ (by omega)
    have HN := Lib.hid hn; clear hn
    by_cases hlt : k < len
    · obtain ⟨b, off, rfl, hb, hc⟩ := HI.out.at hlt
      have hc1 := hc wr (Below.refl _ _)
      obtain ⟨x, hx⟩ : ∃ x, x = bs[k]?.getD 0 := ⟨_, rfl⟩
      rw [← hx] at hc1
      have HV := Lib.hid (show bitN x = bitAt bs k by rw [hx]; rfl)
      clear hc hx hb
      obtain ⟨m, hm⟩ : ∃ m, m = crcStep n (bitN x) := ⟨_, rfl⟩
      have hst := refStep_any n x (by omega) wr
      rw [Nat.mod_eq_of_lt hn32, ← hm] at hst
      have HS := Lib.hid hst; have HM := Lib.hid hm
      clear hst hm
      go_wp2_with (go_at_call 12; refine HS.out.mono ?_; rintro e w' ⟨rfl, rfl⟩)
      go_roundw
      case rel => exact ⟨k + 1, m, by omega, by simp, rfl, by rw [bitsTo_succ, crcOf_snoc, HM.out, ← HN.out, HV.out], trivial⟩
      case measure => simp [intOf]; omega
    · obtain rfl : k = len := by omega
      go_wp2
      go_ret
      rw [HN.out, HL.out, bitsTo_all]
      exact ⟨rfl, rfl⟩
theorem Ow.cells {B : Nat} {W : World} {v : Value} {bs : List Nat} (h : Ow B W v bs) (hp : 0 < bs.length) : ∃ g cap, v = .slice (some ⟨g, 0, none⟩) bs.length cap ∧ ∀ (j : Nat) (u : Value), (bs.map (fun n : Nat => Value.int .u8 ((n : Nat) : Int)))[j]? = some u → W.cell? (Addr.add ⟨g, 0, none⟩ j) = some u := by
  obtain ⟨_, h⟩ := h
  rcases h with ⟨_, h0⟩ | ⟨g, cap, cur, rfl, _, hg, hn, hc, _, ht⟩
  · omega
  · refine ⟨g, cap, rfl, fun j u hj => ?_⟩
    have hjl : j < bs.length := by simpa using (List.getElem?_eq_some_iff.1 hj).1
    have e : cur[j]? = some u := by
      have h1 : (cur.toList.take (bs.length * 1))[j]? = cur.toList[j]? := List.getElem?_take_of_lt (by omega)
      rw [ht] at h1
      rw [← Array.getElem?_toList, ← h1, hj]
    have ea : (⟨g, 0, none⟩ : Addr).add j = ⟨g, j, none⟩ := by
      unfold Addr.add
      split
      · rename_i h; rw [h]
      · simp
    rw [ea]
    simp [World.cell?, hg, e]
theorem Ow.on {B : Nat} {W X : World} {v : Value} {bs : List Nat} (h : Ow B W v bs) (hb : Below W.heap.size W X) : Ow B X v bs := by
  obtain ⟨h0, h⟩ := h
  refine ⟨h0, ?_⟩
  rcases h with h | ⟨g, cap, cur, e, hB, hg, hr⟩
  · exact .inl h
  · exact .inr ⟨g, cap, cur, e, hB, (hb.block g (Array.getElem?_eq_some_iff.1 hg).1).trans hg, hr⟩
theorem flat_bytes (bs : List Nat) : ∀ u ∈ bs.map (fun n : Nat => Value.int .u8 ((n : Nat) : Int)), u.oneCell' = true := by
  intro u hu
  obtain ⟨n, _, rfl⟩ := List.mem_map.1 hu
  rfl
theorem refSeal_any (a : Option Addr) (len cap : Nat) (bs : List Nat) (hs : bs.length ≤ 1000) (w : World) (hI : Str w.heap.size w (.slice a len cap) bs) :
    Calls Tryd.prog 19 #[.slice a len cap] w fun e w' => ∃ v, e = .returned v ∧ Ow w.heap.size w' v (bitsOf bs ++ ofB (crcOf (bitsOf bs) 0) 15) ∧ Below w.heap.size w w' := by
  have HC := Lib.hid (refClean_any a len cap bs hs w hI)
  have HI := Lib.hid hI
  clear hI
  have hs32 := crcOf_lt (bitsOf bs) 0 (by omega)
  obtain ⟨i0, hi, hz0, hz1, hz2⟩ := info_parts info_u8
  go_enter Tryd.func19, Tryd.ntmps19
  go_wp2_with (fail)
  refine HC.out.mono ?_
  rintro e w1 ⟨v1, rfl, hown, hbel⟩
  have HO1 := Lib.hid hown; have HB1 := Lib.hid hbel
  have S1 := Lib.hid (HI.out.below hbel |>.mono hbel.size)
  clear hown hbel HC HI
  go_wp2_with (fail)
  refine (refSum_any _ _ _ bs _ S1.out).mono ?_
  rintro e w2 ⟨rfl, rfl⟩
  obtain ⟨s, hsd⟩ : ∃ s, s = crcOf (bitsOf bs) 0 := ⟨_, rfl⟩
  rw [← hsd] at hs32 ⊢
  have HSD := Lib.hid hsd
  clear hsd
  go_wp2_with (fail)
  refine (refOf_yes s 15 (by omega) (by omega) (by omega) _).mono ?_
  rintro e w3 ⟨v3, rfl, hown, hbel⟩
  have HO3 := Lib.hid (HO1.out.on hbel)
  have HB3 := Lib.hid (below_trans' HB1.out hbel)
  obtain ⟨g, cg, rfl, hcells⟩ := hown.cells (by rw [ofB_length]; omega)
  rw [ofB_length]
  have HCE := Lib.hid hcells
  clear hown hbel HO1 HB1 hcells S1
  go_wp2_with (at_builtin; refine wpList_append_own _ rfl _ _ 23 rfl w.heap.size 5 i0 (.int .u8 0) 1 1 Tryd.underlying23 hi hz0 hz1 hz2 rfl (by decide) _ _ _ rfl HO3.out.own ⟨g, 0, none⟩ 15 cg ((ofB s 15).map (fun n : Nat => Value.int .u8 ((n : Nat) : Int))) rfl ?c0 HCE.out (flat_bytes _) ?c3 ?c4 ?c5 ?_)
  case c0 => rw [List.length_map, ofB_length]
  case c3 => rw [bitsOf_length]; unfold maxLen; omega
  case c4 => rw [bitsOf_length]; omega
  case c5 => exact HB3.out.size
  intro v' w4 hown2 hgrow _
  have HO := Lib.hid (show Ow w.heap.size w4 v' (bitsOf bs ++ ofB (crcOf (bitsOf bs) 0) 15) by
    unfold Ow
    rw [List.length_append, List.map_append, ofB_length, ← HSD.out]
    exact hown2)
  have HB := Lib.hid (HB3.out.grown hgrow HB3.out.size HO3.out.ge)
  clear hown2 hgrow HO3 HB3 HCE
  go_wp2
  go_ret
  exact ⟨_, rfl, HO.out, HB.out⟩
theorem Str.drewN {w : World} {v : Value} {bs : List Nat} (h : Str w.heap.size w v bs) (m : Nat) : Str (w.drewN m).heap.size (w.drewN m) v bs :=
  (h.below (below_drewN' (Below.refl _ _) m)).mono (below_drewN' (Below.refl w.heap.size w) m).size
theorem add_off (b off k : Nat) : (⟨b, off, none⟩ : Addr).add k = ⟨b, off + k, none⟩ := by
  unfold Addr.add
  split
  · rename_i h; rw [h]; rfl
  · rfl
theorem Str.drop {n₀ k m cap : Nat} {a : Option Addr} {W : World} {bs : List Nat} (h : Str n₀ W (.slice a (k + m) cap) bs) : Str n₀ W (.slice (Option.map (fun x => x.add k) a) m (cap - k)) (bs.drop k) := by
  have hl := h.len
  have hd : (bs.drop k).length = m := by rw [List.length_drop]; omega
  rcases h with ⟨a', cap', e, h1, e2⟩ | ⟨b, off, cap', e, h1, h2, hb, hc⟩
  · rw [e2] at hl hd
    injection e with _ _ e3
    obtain rfl : m = 0 := by simpa using hd.symm
    exact .inl ⟨_, _, rfl, by omega, by rw [e2]; simp⟩
  · injection e with e1 _ e3
    subst e1 e3
    refine .inr ⟨b, off + k, cap - k, by rw [hd, Option.map_some, add_off], by omega, by omega, hb, fun j hj => ?_⟩
    rw [hd] at hj
    rw [show off + k + j = off + (k + j) by omega, hc (k + j) (by omega), List.getElem?_drop]
theorem refSum_quiet (a : Option Addr) (len cap : Nat) (bs : List Nat) (w : World) (m : Nat) (hI : Str w.heap.size w (.slice a len cap) bs) :
    Calls Tryd.prog 14 #[.slice a len cap] (w.drewN m) fun e w' => e = .returned (.int .u16 (crcOf (bitsOf bs) 0 : Nat)) ∧ ∃ k, w' = w.drewN k :=
  (refSum_any a len cap bs _ (hI.drewN m)).mono fun _ _ h => ⟨h.1, m, h.2.symm⟩
theorem refNumber_quiet (a : Option Addr) (len cap : Nat) (bs : List Nat) (w : World) (m : Nat) (hI : Str w.heap.size w (.slice a len cap) bs) :
    Calls Tryd.prog 30 #[.slice a len cap] (w.drewN m) fun e w' => e = .returned (.int .u64 (numB (bitsOf bs) : Nat)) ∧ ∃ k, w' = w.drewN k :=
  (refNumber_any a len cap bs _ (hI.drewN m)).mono fun _ _ h => ⟨h.1, m, h.2.symm⟩
theorem refWhole_any (a : Option Addr) (len cap : Nat) (bs : List Nat) (w : World) (hI : Str w.heap.size w (.slice a len cap) bs) :
    Calls Tryd.prog 21 #[.slice a len cap] w fun e w' => e = .returned (.bool (decide (15 ≤ bs.length) && decide (crcOf (bitsOf (bs.take (bs.length - 15))) 0 = numB (bitsOf (bs.drop (bs.length - 15)))))) ∧ Below w.heap.size w w' := by
  have hcl := hI.lenCap
  have hcm := hI.capLe
  have hlen := hI.len
  rw [← hlen] at hcl ⊢
  have HL := Lib.hid hlen; have HI := Lib.hid hI
  clear hlen hI
  by_cases hl : len < 15
  · have hr : (decide (15 ≤ len) && decide (crcOf (bitsOf (bs.take (len - 15))) 0 = numB (bitsOf (bs.drop (len - 15))))) = false := by
      rw [decide_eq_false (by omega)]; rfl
    rw [hr]
    clear hr
    go_enter Tryd.func21, Tryd.ntmps21
    go_wp2
    go_ret
    exact ⟨rfl, Below.refl _ _⟩
  · obtain ⟨k, rfl⟩ : ∃ k, len = k + 15 := ⟨len - 15, by omega⟩
    have hkc : k ≤ cap := by omega
    have HT := Lib.hid (HI.out.take (k := k) (by rw [← HL.out]; omega))
    have HD := Lib.hid (HI.out.drop (k := k) (m := 15))
    have hk2 : (k : Int) ≤ (k : Int) + 15 := by omega
    have hne : cap ≠ k := by omega
    clear hl
    go_enter Tryd.func21, Tryd.ntmps21
    go_wp2
    go_quiet (first | exact refSum_quiet _ _ _ _ _ _ HT.out | exact refNumber_quiet _ _ _ _ _ _ HD.out)
    go_wp2
    go_ret
    refine ⟨?_, below_drewN' (Below.refl _ _) _⟩
    have hs := crcOf_lt (bitsOf (bs.take k)) 0 (by omega)
    have hw : IntKind.u64.wrap ((crcOf (bitsOf (bs.take k)) 0 : Nat) : Int) = ((crcOf (bitsOf (bs.take k)) 0 : Nat) : Int) := by rw [IntKind.wrap_u64]; omega
    have hd : (((crcOf (bitsOf (bs.take k)) 0 : Nat) : Int) == ((numB (bitsOf (bs.drop k)) : Nat) : Int)) = decide (crcOf (bitsOf (bs.take k)) 0 = numB (bitsOf (bs.drop k))) := by
      rw [Bool.eq_iff_iff]
      simp [Int.natCast_inj]
    show Ending.returned (.bool (IntKind.u64.wrap ((crcOf (bitsOf (bs.take k)) 0 : Nat) : Int) == ((numB (bitsOf (bs.drop k)) : Nat) : Int))) = _
    rw [hw, hd, Nat.add_sub_cancel, decide_eq_true (show 15 ≤ k + 15 by omega), Bool.true_and]
theorem numB_bits (k : Nat) : ∀ r : List Nat, r.length = k → k ≤ 63 → (∀ x ∈ r, x ≤ 1) → numB r < 2 ^ k ∧ ∀ j, j < k → numB r / 2 ^ (k - 1 - j) % 2 = r[j]?.getD 0 := by
  induction k with
  | zero =>
    intro r h _ _
    obtain rfl := List.length_eq_zero_iff.1 h
    exact ⟨by decide, fun j hj => by cases hj⟩
  | succ k ih =>
    intro r h hk hb
    rcases List.eq_nil_or_concat r with rfl | ⟨l, b, rfl⟩
    · cases h
    · rw [List.concat_eq_append] at h hb ⊢
      have hl : l.length = k := by simpa using h
      obtain ⟨h1, h2⟩ := ih l hl (by omega) (fun x hx => hb x (by simp [hx]))
      have hb1 : b ≤ 1 := hb b (by simp)
      have hp : 2 ^ (k + 1) ≤ 2 ^ 63 := Nat.pow_le_pow_right (by omega) hk
      have hp2 : 2 ^ (k + 1) = 2 * 2 ^ k := by rw [Nat.pow_succ, Nat.mul_comm]
      have e : numB (l ++ [b]) = 2 * numB l + b := by rw [numB_snoc]; omega
      rw [e]
      refine ⟨by omega, fun j hj => ?_⟩
      by_cases c : j = k
      · subst c
        rw [show j + 1 - 1 - j = 0 by omega, List.getElem?_append_right (by omega), hl, Nat.sub_self]
        show (2 * numB l + b) / 1 % 2 = b
        omega
      · rw [List.getElem?_append_left (by omega), ← h2 j (by omega), show k + 1 - 1 - j = (k - 1 - j) + 1 by omega, Nat.pow_succ, Nat.mul_comm (2 ^ (k - 1 - j)) 2, ← Nat.div_div_eq_div_mul, show (2 * numB l + b) / 2 = numB l by omega]
theorem numB_eq {r : List Nat} {s : Nat} (hr : r.length = 15) (hb : ∀ x ∈ r, x ≤ 1) (hs : s < 32768) : s = numB r ↔ r = sumBits s := by
  obtain ⟨h1, h2⟩ := numB_bits 15 r hr (by omega) hb
  have hx : ∀ {n : Nat}, n < 32768 → ∀ j, j < 15 → (sumBits n)[j]?.getD 0 = n / 2 ^ (15 - 1 - j) % 2 := fun _ j hj => by simp [sumBits, hj]
  constructor
  · rintro rfl
    apply List.ext_getElem
    · rw [hr, sumBits_length]
    · intro j h3 _
      have := h2 j (by omega)
      simp [h3] at this
      simp [sumBits, this]
  · intro h
    obtain ⟨h3, h4⟩ := numB_bits 15 (sumBits s) (sumBits_length s) (by omega) (sumBits_le s)
    rw [← h] at h3 h4
    have key : ∀ j, j < 15 → s / 2 ^ (15 - 1 - j) % 2 = numB r / 2 ^ (15 - 1 - j) % 2 := fun j hj => by
      rw [h2 j hj, ← hx hs j hj, ← h]
    apply Nat.eq_of_testBit_eq
    intro i
    by_cases hi : i < 15
    · have := key (14 - i) (by omega)
      rw [show 15 - 1 - (14 - i) = i by omega] at this
      rw [Nat.testBit_eq_decide_div_mod_eq, Nat.testBit_eq_decide_div_mod_eq, this]
    · have hp : 2 ^ 15 ≤ 2 ^ i := Nat.pow_le_pow_right (by omega) (by omega)
      rw [Nat.testBit_lt_two_pow (by omega), Nat.testBit_lt_two_pow (by omega)]
/-- Whether a string has its sum behind. -/
def wholeB (bs : List Nat) : Bool := decide (15 ≤ bs.length) && decide (crcOf (bitsOf (bs.take (bs.length - 15))) 0 = numB (bitsOf (bs.drop (bs.length - 15))))
theorem bitsOf_le (bs : List Nat) : ∀ x ∈ bitsOf bs, x ≤ 1 := by
  intro x hx
  obtain ⟨y, _, rfl⟩ := List.mem_map.1 hx
  exact bitN_le y
theorem wholeB_eq (bs : List Nat) (h : 15 ≤ bs.length) : wholeB bs = decide (crcOf (bitsOf bs) 0 = 0) := by
  unfold wholeB
  rw [decide_eq_true h, Bool.true_and]
  have e : bitsOf bs = bitsOf (bs.take (bs.length - 15)) ++ bitsOf (bs.drop (bs.length - 15)) := by
    unfold bitsOf
    rw [← List.map_append, List.take_append_drop]
  have hr : (bitsOf (bs.drop (bs.length - 15))).length = 15 := by rw [bitsOf_length, List.length_drop]; omega
  rw [e]
  apply decide_eq_decide.2
  rw [whole_iff _ _ hr (bitsOf_le _)]
  exact numB_eq hr (bitsOf_le _) (crcOf_lt _ _ (by omega))
end Go.Proofs.YtdnonahpoklbfaaDoor
