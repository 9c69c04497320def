/- The code of package crc (Sum, Bits, Seal, Whole): what it returns. Conditions: strings are strings, not longer than memory; the divisor's fifteen cells hold what the program lays in them. -/
import Derived.Test.YtdnonahpoklbfaaDoorCra
import Derived.ScopeJumps
import Derived.Deep.DeepCutAuto
import Derived.Deep.RegionWith
namespace Go.Proofs.YtdnonahpoklbfaaDoor
open Go.RowKit Go.Shelf
theorem Tab.onB {n : Nat} {W X : World} (h : Tab W) (hb : Below n W X) (h0 : 0 < n) : Tab X := fun i hi => (hb.cell (p := ⟨0, i, none⟩) h0).trans (h i hi)
set_option maxHeartbeats 400000 in
theorem sum_any (a : Option Addr) (len cap : Nat) (bs : List Nat) (w : World) (h0 : 0 < w.heap.size) (hT : Tab w) (hI : Str w.heap.size w (.slice a len cap) bs) :
    Calls Tryd.prog 13 #[.slice a len cap] w fun e w' => e = .returned (.int .u16 (crcOf (bitsOf bs) 0 : Nat)) ∧ Below w.heap.size w w' := by
  have hl := hI.len
  have hcm := hI.capLe
  have hcl := hI.lenCap
  have hlm : len ≤ 9223372036854775807 := by omega
  have HI := Lib.hid hI; have HL := Lib.hid hl; have HT := Lib.hid hT
  clear hI hl hcm hcl hT
  go_enter Tryd.func13, Tryd.ntmps13
  go_wp2
  refine wp_scope_jumps 0 (fun a' w' => ∃ (k m : Nat) (u5 u6 u7 u8 u9 u10 u11 u12 u13 u14 u15 u16 u17 : Value), a' = { tmps := #[.slice a len cap, undef, .int .u16 0, .int .u16 m, .int .i64 k, u5, u6, u7, u8, u9, u10, u11, u12, u13, u14, u15, u16, u17], defers := [] } ∧ k ≤ len ∧ m = crcOf (bitsTo bs k) 0 ∧ Below w.heap.size w w') (fun a' _ => len - (intOf (a'.tmps.getD 4 undef)).toNat) rfl ?_ ?_
  · go_wp2
    go_step3
    have hB0 := Below.refl w.heap.size w
    by_cases hlt : 0 < len
    · obtain ⟨b, off, rfl, _, hc⟩ := HI.out.at hlt
      have hc1 := hc w hB0
      obtain ⟨x, hx⟩ : ∃ x, x = bs[0]?.getD 0 := ⟨_, rfl⟩
      rw [← hx, Nat.add_zero] at hc1
      have HV := Lib.hid (show bitN x = bitAt bs 0 by rw [hx]; rfl)
      clear hc hx
      have hne : ((0 : Int) == (len : Int)) = false := by simp; omega
      obtain ⟨m', hm'⟩ : ∃ m', m' = crcStep 0 (bitN x) := ⟨_, rfl⟩
      have hst := step_any 0 x (by omega) w h0 HT.out
      rw [Nat.zero_mod, ← hm'] at hst
      have HS := Lib.hid hst; have HM' := Lib.hid hm'
      clear hst hm'
      go_wp2_with (fail)
      refine HS.out.mono ?_
      rintro e w2 ⟨rfl, hb2⟩
      have HB2 := Lib.hid hb2
      clear hb2 hc1
      go_wp2_with (fail)
      go_step3
      exact ⟨rfl, 1, m', _, _, _, _, _, _, _, _, _, _, _, _, _, rfl, by omega, by rw [HM'.out, HV.out]; rfl, HB2.out⟩
    · obtain rfl : len = 0 := by omega
      go_wp2
      simp only [Exit.jump]
      go_ret
      have hbn : bs = [] := List.eq_nil_of_length_eq_zero HL.out.symm
      rw [hbn]
      exact ⟨rfl, hB0⟩
  · rintro a' w1 ⟨k, m, u5, u6, u7, u8, u9, u10, u11, u12, u13, u14, u15, u16, u17, rfl, hk, hm, hb⟩
    have HM := Lib.hid hm; have HB := Lib.hid hb
    clear hm hb
    by_cases hlt : k < len
    · obtain ⟨b, off, rfl, _, hc⟩ := HI.out.at hlt
      have hc1 := hc w1 HB.out
      obtain ⟨x, hx⟩ : ∃ x, x = bs[k]?.getD 0 := ⟨_, rfl⟩
      rw [← hx] at hc1
      have HV := Lib.hid (show bitN x = bitAt bs k by rw [hx]; rfl)
      clear hc hx
      have hne : ((k : Int) == (len : Int)) = false := by simp; omega
      have hm32 : m < 32768 := by rw [HM.out]; exact crcOf_lt _ _ (by omega)
      obtain ⟨m', hm'⟩ : ∃ m', m' = crcStep m (bitN x) := ⟨_, rfl⟩
      have hst := step_any m x (by omega) w1 (Nat.lt_of_lt_of_le h0 HB.out.size) (HT.out.onB HB.out h0)
      rw [Nat.mod_eq_of_lt hm32, ← hm'] at hst
      have HS := Lib.hid hst; have HM' := Lib.hid hm'
      clear hst hm'
      go_wp2_with (fail)
      refine HS.out.mono ?_
      rintro e w2 ⟨rfl, hb2⟩
      have HB2 := Lib.hid (below_trans' HB.out hb2)
      clear hb2 hc1
      go_wp2_with (fail)
      go_step3
      exact ⟨rfl, ⟨k + 1, m', _, _, _, _, _, _, _, _, _, _, _, _, _, rfl, by omega, by rw [bitsTo_succ, crcOf_snoc, HM'.out, ← HM.out, HV.out], HB2.out⟩, by simp [intOf]; omega⟩
    · obtain rfl : k = len := by omega
      have heq : ((k : Int) == (k : Int)) = true := by simp
      go_wp2
      simp only [Exit.jump]
      go_ret
      rw [HM.out, HL.out, bitsTo_all]
      exact ⟨rfl, HB.out⟩

theorem bits_any (s : Nat) (hs : s < 65536) (w : World) : Calls Tryd.prog 16 #[.int .u16 s] w fun e w' => ∃ v, e = .returned v ∧ Made w.heap.size w' v (ofB s 15) ∧ Below w.heap.size w w' := by
  have hw : IntKind.u64.wrap (s : Int) = (s : Int) := by rw [IntKind.wrap_u64]; omega
  go_enter Tryd.func16, Tryd.ntmps16
  go_wp2_with (fail)
  refine (of_yes s 15 (by omega) (by omega) (by omega) _).mono ?_
  rintro e w1 ⟨v, rfl, hm, hb⟩
  have HM := Lib.hid hm; have HB := Lib.hid hb
  clear hm hb
  go_wp2_with (fail)
  go_ret
  exact ⟨_, rfl, HM.out, HB.out⟩
theorem Made.own {B : Nat} {W : World} {v : Value} {bs : List Nat} (h : Made B W v bs) : Ow B W v bs := by
  obtain ⟨b, rfl, hB, hn, c, hc, hcs, hcc⟩ := h
  refine ⟨by simp, .inr ⟨b, bs.length, c, rfl, hB, hc, Nat.le_refl _, by unfold maxLen; omega, by omega, ?_⟩⟩
  apply List.ext_getElem
  · simp; omega
  · intro i h1 h2
    have h3 : i < bs.length := by simpa using h2
    have h4 := hcc i h3
    have h5 : i < c.size := by omega
    rw [Array.getElem?_eq_getElem h5, Option.some.injEq] at h4
    simp [h4, h3]
theorem seal_any (a : Option Addr) (len cap : Nat) (bs : List Nat) (hs : bs.length ≤ 1000) (w : World) (h0 : 0 < w.heap.size) (hT : Tab w) (hI : Str w.heap.size w (.slice a len cap) bs) :
    Calls Tryd.prog 18 #[.slice a len cap] w fun e w' => ∃ v, e = .returned v ∧ Ow w.heap.size w' v (bitsOf bs ++ ofB (crcOf (bitsOf bs) 0) 15) ∧ Below w.heap.size w w' := by
  have HC := Lib.hid (clean_any a len cap bs (by omega) w hI)
  have HI := Lib.hid hI
  have HT := Lib.hid hT
  clear hI hT
  have hs32 := crcOf_lt (bitsOf bs) 0 (by omega)
  obtain ⟨i0, hi, hz0, hz1, hz2⟩ := info_parts info_u8
  go_enter Tryd.func18, Tryd.ntmps18
  go_wp2_with (fail)
  refine HC.out.mono ?_
  rintro e w1 ⟨v1, rfl, hm, hbel⟩
  have HO1 := Lib.hid (Made.own hm); have HB1 := Lib.hid hbel
  have S1 := Lib.hid (HI.out.below hbel |>.mono hbel.size)
  obtain ⟨g1, rfl, _⟩ := hm
  clear hbel HC HI
  go_wp2_with (fail)
  refine (sum_any _ _ _ bs _ (Nat.lt_of_lt_of_le h0 HB1.out.size) (HT.out.onB HB1.out h0) S1.out).mono ?_
  rintro e w2 ⟨rfl, hbel⟩
  have HO2 := Lib.hid (HO1.out.on hbel)
  have HB2 := Lib.hid (below_trans' HB1.out hbel)
  obtain ⟨s, hsd⟩ : ∃ s, s = crcOf (bitsOf bs) 0 := ⟨_, rfl⟩
  rw [← hsd] at hs32 ⊢
  have HSD := Lib.hid hsd
  clear hsd hbel HO1 HB1 S1
  go_wp2_with (fail)
  refine (bits_any s (by omega) _).mono ?_
  rintro e w3 ⟨v3, rfl, hm, hbel⟩
  have HO3 := Lib.hid (HO2.out.on hbel)
  have HB3 := Lib.hid (below_trans' HB2.out hbel)
  obtain ⟨g, cg, rfl, hcells⟩ := (Made.own hm).cells (by rw [ofB_length]; omega)
  rw [ofB_length]
  have HCE := Lib.hid hcells
  clear hm hbel HO2 HB2 hcells
  go_wp2_with (at_builtin; refine wpList_append_own _ rfl _ _ 23 rfl w.heap.size 5 i0 (.int .u8 0) 1 1 Tryd.underlying23 hi hz0 hz1 hz2 rfl (by decide) _ _ _ rfl HO3.out.own ⟨g, 0, none⟩ 15 cg ((ofB s 15).map (fun n : Nat => Value.int .u8 ((n : Nat) : Int))) rfl ?c0 HCE.out (flat_bytes _) ?c3 ?c4 ?c5 ?_)
  case c0 => rw [List.length_map, ofB_length]
  case c3 => rw [bitsOf_length]; unfold maxLen; omega
  case c4 => rw [bitsOf_length]; omega
  case c5 => exact HB3.out.size
  intro v' w4 hown2 hgrow _
  have HO := Lib.hid (show Ow w.heap.size w4 v' (bitsOf bs ++ ofB s 15) by
    unfold Ow
    rw [List.length_append, List.map_append, ofB_length]
    exact hown2)
  have HB := Lib.hid (HB3.out.grown hgrow HB3.out.size HO3.out.ge)
  clear hown2 hgrow HO3 HB3 HCE
  go_wp2
  go_ret
  exact ⟨_, rfl, by rw [← HSD.out]; exact HO.out, HB.out⟩
theorem sameV_bits (r : List Nat) (s : Nat) (hr : r.length = 15) (hs : s < 32768) : sameV r (ofB s 15) = decide (s = numB (bitsOf r)) := by
  unfold sameV
  rw [bitsOf_ofB]
  apply decide_eq_decide.2
  exact (numB_eq (by rw [bitsOf_length]; exact hr) (bitsOf_le _) hs).symm
set_option maxHeartbeats 1000000 in
theorem whole_any (a : Option Addr) (len cap : Nat) (bs : List Nat) (hs : bs.length ≤ 100000) (w : World) (h0 : 0 < w.heap.size) (hT : Tab w) (hI : Str w.heap.size w (.slice a len cap) bs) :
    Calls Tryd.prog 20 #[.slice a len cap] w fun e w' => e = .returned (.bool (wholeB bs)) ∧ Below w.heap.size w w' := by
  have hcl := hI.lenCap
  have hcm := hI.capLe
  have hlen := hI.len
  rw [← hlen] at hcl
  by_cases hl : len < 15
  · have hr : wholeB bs = false := by
      unfold wholeB
      rw [decide_eq_false (by omega)]; rfl
    rw [hr]
    clear hr hlen hI hT
    go_enter Tryd.func20, Tryd.ntmps20
    go_wp2
    go_ret
    exact ⟨rfl, Below.refl _ _⟩
  · obtain ⟨k, rfl⟩ : ∃ k, len = k + 15 := ⟨len - 15, by omega⟩
    have hkc : k ≤ cap := by omega
    have T0 := Lib.hid (hI.take (k := k) (by rw [← hlen]; omega))
    have D0 := Lib.hid (hI.drop (k := k) (m := 15))
    have HL := Lib.hid hlen; have HT := Lib.hid hT
    have hs32 := crcOf_lt (bitsOf (bs.take k)) 0 (by omega)
    have hk2 : (k : Int) ≤ (k : Int) + 15 := by omega
    have hne : cap ≠ k := by omega
    clear hl hI hT hlen
    obtain ⟨s, hsd⟩ : ∃ s, s = crcOf (bitsOf (bs.take k)) 0 := ⟨_, rfl⟩
    have HS := Lib.hid (show ∀ u, Below w.heap.size w u → Calls Tryd.prog 13 #[.slice a k cap] u fun e w' => e = .returned (.int .u16 (s : Nat)) ∧ Below w.heap.size w w' by
      intro u hu
      refine (sum_any _ _ _ (bs.take k) u (Nat.lt_of_lt_of_le h0 hu.size) (HT.out.onB hu h0) (T0.out.below hu |>.mono hu.size)).mono ?_
      rintro e w' ⟨he, hb⟩
      exact ⟨by rw [hsd]; exact he, below_trans' hu hb⟩)
    rw [← hsd] at hs32
    have HBI := Lib.hid (show ∀ u, Below w.heap.size w u → Calls Tryd.prog 16 #[.int .u16 s] u fun e w' => ∃ g cg, e = .returned (.slice (some ⟨g, 0, none⟩) 15 cg) ∧ Str w'.heap.size w' (.slice (some ⟨g, 0, none⟩) 15 cg) (ofB s 15) ∧ Below w.heap.size w w' by
      intro u hu
      refine (bits_any s (by omega) u).mono ?_
      rintro e w' ⟨v, rfl, hm, hb⟩
      have hs := hm.str
      obtain ⟨g, rfl, _⟩ := hm
      rw [ofB_length] at hs ⊢
      exact ⟨g, 15, rfl, hs, below_trans' hu hb⟩)
    have HSA := Lib.hid (show ∀ u3 u g cg, Below w.heap.size w u3 → Str u3.heap.size u3 (.slice (some ⟨g, 0, none⟩) 15 cg) (ofB s 15) → Below u3.heap.size u3 u → Calls Tryd.prog 25 #[.slice (Option.map (fun x => x.add k) a) 15 (cap - k), .slice (some ⟨g, 0, none⟩) 15 cg] u fun e w' => e = .returned (.bool (wholeB bs)) ∧ Below w.heap.size w w' by
      intro u3 u g cg hu3 hs3 hu
      have hwu := below_trans' hu3 hu
      refine (same_any _ _ _ (bs.drop k) _ _ _ (ofB s 15) (by rw [List.length_drop]; omega) u (D0.out.below hwu |>.mono hwu.size) (hs3.on hu)).mono ?_
      rintro e w' ⟨he, hb⟩
      refine ⟨?_, below_trans' hwu hb⟩
      have hd : (bs.drop k).length = 15 := by rw [List.length_drop]; have := HL.out; omega
      rw [he, sameV_bits _ _ hd hs32]
      unfold wholeB
      rw [show bs.length - 15 = k by have := HL.out; omega, ← hsd, decide_eq_true (show 15 ≤ bs.length by have := HL.out; omega), Bool.true_and])
    have HR := Lib.hid (Below.refl w.heap.size w)
    clear T0 D0 HT hsd
    go_enter Tryd.func20, Tryd.ntmps20
    go_wp2
    go_cut [2] (fun s2 wx => s2 = .bool (wholeB bs) ∧ Below w.heap.size w wx)
    case first =>
      go_region_with (first | (go_at_call 13; refine (HS.out _ (by first | exact HR.out | exact HR.out.drew | exact HR.out.drew.drew | exact HR.out.drew.drew.drew | exact HR.out.drew.drew.drew.drew)).mono ?_; rintro e w2 ⟨rfl, hb2⟩) | (go_at_call 16; refine (HBI.out _ (by first | exact hb2 | exact hb2.drew | exact hb2.drew.drew | exact hb2.drew.drew.drew | exact hb2.drew.drew.drew.drew)).mono ?_; rintro e w3 ⟨g, cg, rfl, hs3, hb3⟩) | (go_at_call 25; refine (HSA.out w3 _ g cg hb3 hs3 (by first | exact (Below.refl _ w3) | exact (Below.refl _ w3).drew | exact (Below.refl _ w3).drew.drew | exact (Below.refl _ w3).drew.drew.drew | exact (Below.refl _ w3).drew.drew.drew.drew)).mono ?_; rintro e w4 ⟨rfl, hb4⟩))
      all_goals (go_wp2_with fail; go_meet; exact ⟨rfl, hb4⟩)
    case rest =>
    obtain ⟨rfl, hb⟩ := hcut
    go_wp2_with fail
    go_ret
    exact ⟨rfl, hb⟩
end Go.Proofs.YtdnonahpoklbfaaDoor
