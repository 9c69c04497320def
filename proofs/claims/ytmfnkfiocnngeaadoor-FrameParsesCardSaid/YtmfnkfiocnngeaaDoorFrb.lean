/- The document's own answers of layer 6 in plain words (Size): what it returns. Conditions: strings are strings, of bits. -/
import Derived.Test.YtmfnkfiocnngeaaDoorFra
import Derived.Test.YtmfnkfiocnngeaaDoorBat
namespace Go.Proofs.YtmfnkfiocnngeaaDoor
open Go.RowKit Go.Shelf
theorem bitsOf_zero (bs : List Nat) (i : Nat) : (bitsOf bs)[i]?.getD 0 = 0 ↔ bs[i]?.getD 0 = 0 := by
  by_cases h : i < bs.length
  · have e : (bitsOf bs)[i]?.getD 0 = bitN (bs[i]?.getD 0) := by simp [bitsOf, h]
    rw [e]
    unfold bitN
    split
    · rename_i h0; simp [h0]
    · rename_i h0; simp [h0]
  · rw [List.getElem?_eq_none (by rw [bitsOf_length]; omega), List.getElem?_eq_none (by omega)]
theorem subL_bits (bs : List Nat) (a k : Nat) : subL (bitsOf bs) a k = bitsOf (subL bs a k) := by
  unfold subL bitsOf
  rw [List.map_take, List.map_drop]
theorem sizeB_bits (bs : List Nat) : sizeB (bitsOf bs) = if bs.length < 14 then none
  else if bs.length < (if bs[13]?.getD 0 = 0 then 15 else 35) + 4 then none
  else some ((if bs[13]?.getD 0 = 0 then 15 else 35) + 19 + (if bs[if bs[13]?.getD 0 = 0 then 12 else 32]?.getD 0 = 0 then 8 * min 8 (numP (bitsOf (subL bs (if bs[13]?.getD 0 = 0 then 15 else 35) 4))) else 0)) := by
  unfold sizeB
  rw [bitsOf_length]
  simp only [bitsOf_zero, subL_bits]
set_option maxHeartbeats 2000000 in
theorem ref6Size_any (a : Option Addr) (len cap : Nat) (bs : List Nat) (w : World) (hI : Str w.heap.size w (.slice a len cap) bs) :
    Calls Tryd.prog 25 #[.slice a len cap] w fun x w' => x = .returned (.tuple #[.int .i64 (((sizeB (bitsOf bs)).getD 0 : Nat) : Int), .bool (sizeB (bitsOf bs)).isSome]) ∧ Below w.heap.size w w' := by
  obtain rfl := hI.len
  have hcl := hI.lenCap
  have hcm := hI.capLe
  have HI := Lib.hid hI
  obtain ⟨r, hr⟩ : ∃ r, r = sizeB (bitsOf bs) := ⟨_, rfl⟩
  rw [← hr]
  rw [sizeB_bits] at hr
  by_cases h14 : bs.length < 14
  · rw [if_pos h14] at hr
    have i1 : (bs.length : Int) < 14 := by omega
    have HR := Lib.hid hr
    clear hI hr h14
    go_enter Tryd.func25, Tryd.ntmps25
    go_wp2_with fail
    exact bodyPost_ret (v := .tuple #[.int .i64 0, .bool false]) (by simp [results, Tryd.results25, go_sem]) rfl ⟨by rw [HR.out]; rfl, Below.refl _ _⟩
  rw [if_neg h14] at hr
  have i1 : ¬ ((bs.length : Int) < 14) := by omega
  obtain ⟨bk, off, rfl, _, _⟩ := hI.at (k := 0) (by omega)
  have HA := Lib.hid (ref6at_any (some ⟨bk, off, none⟩) bs.length cap 13 bs w hI (by omega))
  by_cases h13 : bs[13]?.getD 0 = 0
  · rw [if_pos h13, if_pos h13] at hr
    have HA := Lib.hid (show Calls Tryd.prog 66 #[.slice (some ⟨bk, off, none⟩) bs.length cap, .int .i64 13] w fun x w' => x = .returned (.bool false) ∧ Below w.heap.size w w' from HA.out.mono fun _ _ h => ⟨by rw [h.1]; exact congrArg (fun d => Ending.returned (Value.bool d)) (by simp [h13]), h.2⟩)
    by_cases h19 : bs.length < 19
    · rw [if_pos (by omega)] at hr
      have i2 : (bs.length : Int) < 19 := by omega
      have HR := Lib.hid hr
      clear hI hr h14 h13 h19
      go_enter Tryd.func25, Tryd.ntmps25
      go_wp2_with fail
      refine HA.out.mono ?_
      rintro x w1 ⟨rfl, hb⟩
      have HB1 := Lib.hid hb
      clear hb
      go_wp2_with fail
      exact bodyPost_ret (v := .tuple #[.int .i64 0, .bool false]) (by simp [results, Tryd.results25, go_sem]) rfl ⟨by rw [HR.out]; rfl, HB1.out⟩
    rw [if_neg (by omega)] at hr
    have i2 : ¬ ((bs.length : Int) < 19) := by omega
    have hat := ref6at_any (some ⟨bk, off, none⟩) bs.length cap 12 bs
    by_cases hask : bs[12]?.getD 0 = 0
    · rw [if_pos hask] at hr
      have HQ := Lib.hid (show ∀ u, Below w.heap.size w u → Calls Tryd.prog 66 #[.slice (some ⟨bk, off, none⟩) bs.length cap, .int .i64 12] u fun x w' => x = .returned (.bool false) ∧ Below w.heap.size w w' from fun u hu => (hat u ((hI.below hu).mono hu.size) (by omega)).mono fun _ _ h => ⟨by rw [h.1]; exact congrArg (fun d => Ending.returned (Value.bool d)) (by simp [hask]), hu.trans (h.2.mono hu.size)⟩)
      obtain ⟨c, hc⟩ : ∃ c, c = min 8 (numP (bitsOf (subL bs 15 4))) := ⟨_, rfl⟩
      rw [← hc] at hr
      have hc8 : c ≤ 8 := by omega
      have hsub : ∀ u, Below w.heap.size w u → Str u.heap.size u (.slice (some ⟨bk, off + 15, none⟩) 4 (cap - 15)) (subL bs 15 4) := by
        intro u hu
        have h1 : Str u.heap.size u (.slice (some ⟨bk, off, none⟩) (15 + 4) cap) (bs.take (15 + 4)) := ((hI.below hu).mono hu.size).take (by omega)
        have h2 := h1.drop
        rwa [List.drop_take, show 15 + 4 - 15 = 4 from rfl, Option.map_some, add_off] at h2
      have HL := Lib.hid (show ∀ u, Below w.heap.size w u → Calls Tryd.prog 69 #[.slice (some ⟨bk, off + 15, none⟩) 4 (cap - 15)] u fun x w' => x = .returned (.int .i64 (c : Int)) ∧ Below w.heap.size w w' from fun u hu => (ref6length_any _ _ _ _ u (hsub u hu) (subL_length _ _ _ (by omega))).mono fun _ _ h => ⟨by rw [h.1, hc], hu.trans (h.2.mono hu.size)⟩)
      have HR := Lib.hid hr
      have i3 : ((19 : Int) ≤ (cap : Int)) := by omega
      clear hI hr h14 h13 h19 hask hat hsub hc
      go_enter Tryd.func25, Tryd.ntmps25
      go_wp2_with fail
      refine HA.out.mono ?_
      rintro x w1 ⟨rfl, hb⟩
      have HB1 := Lib.hid hb
      clear hb
      go_wp2_with fail
      refine (HQ.out _ HB1.out).mono ?_
      rintro x w2 ⟨rfl, hb⟩
      have HB2 := Lib.hid hb
      clear hb
      go_wp2_with fail
      refine (HL.out _ HB2.out).mono ?_
      rintro x w3 ⟨rfl, hb⟩
      have HB3 := Lib.hid hb
      clear hb
      have e1 : IntKind.i64.wrap (8 * (c : Int)) = 8 * (c : Int) := by rw [IntKind.wrap_i64]; omega
      have e2 : IntKind.i64.wrap (34 + 8 * (c : Int)) = 34 + 8 * (c : Int) := by rw [IntKind.wrap_i64]; omega
      go_wp2_with fail
      exact bodyPost_ret (v := .tuple #[.int .i64 (34 + 8 * (c : Int)), .bool true]) (by simp [results, Tryd.results25, go_sem]) rfl ⟨by rw [HR.out]; rfl, HB3.out⟩
    · rw [if_neg hask] at hr
      have HQ := Lib.hid (show ∀ u, Below w.heap.size w u → Calls Tryd.prog 66 #[.slice (some ⟨bk, off, none⟩) bs.length cap, .int .i64 12] u fun x w' => x = .returned (.bool true) ∧ Below w.heap.size w w' from fun u hu => (hat u ((hI.below hu).mono hu.size) (by omega)).mono fun _ _ h => ⟨by rw [h.1]; exact congrArg (fun d => Ending.returned (Value.bool d)) (by simp [hask]), hu.trans (h.2.mono hu.size)⟩)
      have HR := Lib.hid hr
      clear hI hr h14 h13 h19 hask hat
      go_enter Tryd.func25, Tryd.ntmps25
      go_wp2_with fail
      refine HA.out.mono ?_
      rintro x w1 ⟨rfl, hb⟩
      have HB1 := Lib.hid hb
      clear hb
      go_wp2_with fail
      refine (HQ.out _ HB1.out).mono ?_
      rintro x w2 ⟨rfl, hb⟩
      have HB2 := Lib.hid hb
      clear hb
      go_wp2_with fail
      exact bodyPost_ret (v := .tuple #[.int .i64 34, .bool true]) (by simp [results, Tryd.results25, go_sem]) rfl ⟨by rw [HR.out]; rfl, HB2.out⟩
  · rw [if_neg h13, if_neg h13] at hr
    have HA := Lib.hid (show Calls Tryd.prog 66 #[.slice (some ⟨bk, off, none⟩) bs.length cap, .int .i64 13] w fun x w' => x = .returned (.bool true) ∧ Below w.heap.size w w' from HA.out.mono fun _ _ h => ⟨by rw [h.1]; exact congrArg (fun d => Ending.returned (Value.bool d)) (by simp [h13]), h.2⟩)
    by_cases h19 : bs.length < 39
    · rw [if_pos (by omega)] at hr
      have i2 : (bs.length : Int) < 39 := by omega
      have HR := Lib.hid hr
      clear hI hr h14 h13 h19
      go_enter Tryd.func25, Tryd.ntmps25
      go_wp2_with fail
      refine HA.out.mono ?_
      rintro x w1 ⟨rfl, hb⟩
      have HB1 := Lib.hid hb
      clear hb
      go_wp2_with fail
      exact bodyPost_ret (v := .tuple #[.int .i64 0, .bool false]) (by simp [results, Tryd.results25, go_sem]) rfl ⟨by rw [HR.out]; rfl, HB1.out⟩
    rw [if_neg (by omega)] at hr
    have i2 : ¬ ((bs.length : Int) < 39) := by omega
    have hat := ref6at_any (some ⟨bk, off, none⟩) bs.length cap 32 bs
    by_cases hask : bs[32]?.getD 0 = 0
    · rw [if_pos hask] at hr
      have HQ := Lib.hid (show ∀ u, Below w.heap.size w u → Calls Tryd.prog 66 #[.slice (some ⟨bk, off, none⟩) bs.length cap, .int .i64 32] u fun x w' => x = .returned (.bool false) ∧ Below w.heap.size w w' from fun u hu => (hat u ((hI.below hu).mono hu.size) (by omega)).mono fun _ _ h => ⟨by rw [h.1]; exact congrArg (fun d => Ending.returned (Value.bool d)) (by simp [hask]), hu.trans (h.2.mono hu.size)⟩)
      obtain ⟨c, hc⟩ : ∃ c, c = min 8 (numP (bitsOf (subL bs 35 4))) := ⟨_, rfl⟩
      rw [← hc] at hr
      have hc8 : c ≤ 8 := by omega
      have hsub : ∀ u, Below w.heap.size w u → Str u.heap.size u (.slice (some ⟨bk, off + 35, none⟩) 4 (cap - 35)) (subL bs 35 4) := by
        intro u hu
        have h1 : Str u.heap.size u (.slice (some ⟨bk, off, none⟩) (35 + 4) cap) (bs.take (35 + 4)) := ((hI.below hu).mono hu.size).take (by omega)
        have h2 := h1.drop
        rwa [List.drop_take, show 35 + 4 - 35 = 4 from rfl, Option.map_some, add_off] at h2
      have HL := Lib.hid (show ∀ u, Below w.heap.size w u → Calls Tryd.prog 69 #[.slice (some ⟨bk, off + 35, none⟩) 4 (cap - 35)] u fun x w' => x = .returned (.int .i64 (c : Int)) ∧ Below w.heap.size w w' from fun u hu => (ref6length_any _ _ _ _ u (hsub u hu) (subL_length _ _ _ (by omega))).mono fun _ _ h => ⟨by rw [h.1, hc], hu.trans (h.2.mono hu.size)⟩)
      have HR := Lib.hid hr
      have i3 : ((19 : Int) ≤ (cap : Int)) := by omega
      clear hI hr h14 h13 h19 hask hat hsub hc
      go_enter Tryd.func25, Tryd.ntmps25
      go_wp2_with fail
      refine HA.out.mono ?_
      rintro x w1 ⟨rfl, hb⟩
      have HB1 := Lib.hid hb
      clear hb
      go_wp2_with fail
      refine (HQ.out _ HB1.out).mono ?_
      rintro x w2 ⟨rfl, hb⟩
      have HB2 := Lib.hid hb
      clear hb
      go_wp2_with fail
      refine (HL.out _ HB2.out).mono ?_
      rintro x w3 ⟨rfl, hb⟩
      have HB3 := Lib.hid hb
      clear hb
      have e1 : IntKind.i64.wrap (8 * (c : Int)) = 8 * (c : Int) := by rw [IntKind.wrap_i64]; omega
      have e2 : IntKind.i64.wrap (54 + 8 * (c : Int)) = 54 + 8 * (c : Int) := by rw [IntKind.wrap_i64]; omega
      go_wp2_with fail
      exact bodyPost_ret (v := .tuple #[.int .i64 (54 + 8 * (c : Int)), .bool true]) (by simp [results, Tryd.results25, go_sem]) rfl ⟨by rw [HR.out]; rfl, HB3.out⟩
    · rw [if_neg hask] at hr
      have HQ := Lib.hid (show ∀ u, Below w.heap.size w u → Calls Tryd.prog 66 #[.slice (some ⟨bk, off, none⟩) bs.length cap, .int .i64 32] u fun x w' => x = .returned (.bool true) ∧ Below w.heap.size w w' from fun u hu => (hat u ((hI.below hu).mono hu.size) (by omega)).mono fun _ _ h => ⟨by rw [h.1]; exact congrArg (fun d => Ending.returned (Value.bool d)) (by simp [hask]), hu.trans (h.2.mono hu.size)⟩)
      have HR := Lib.hid hr
      clear hI hr h14 h13 h19 hask hat
      go_enter Tryd.func25, Tryd.ntmps25
      go_wp2_with fail
      refine HA.out.mono ?_
      rintro x w1 ⟨rfl, hb⟩
      have HB1 := Lib.hid hb
      clear hb
      go_wp2_with fail
      refine (HQ.out _ HB1.out).mono ?_
      rintro x w2 ⟨rfl, hb⟩
      have HB2 := Lib.hid hb
      clear hb
      go_wp2_with fail
      exact bodyPost_ret (v := .tuple #[.int .i64 54, .bool true]) (by simp [results, Tryd.results25, go_sem]) rfl ⟨by rw [HR.out]; rfl, HB2.out⟩
end Go.Proofs.YtmfnkfiocnngeaaDoor
