/- The code of package ident (bit, width, Right, Bits, Key, meant, Of): what it returns. Conditions: an identifier's number, and a key, is below 2^32. -/
import Derived.Test.YtodeaddmachcjaaIda
import Derived.Test.YtodeaddmachcjaaIdb
namespace Go.Proofs.Ytodeaddmachcjaa
open Go.RowKit Go.Shelf
theorem made_ow {B : Nat} {W : World} {v : Value} {bs : List Nat} (h : Made B W v bs) : Ow B W v bs := by
  obtain ⟨b, rfl, hB, hn, c, hc, hcs, hcc⟩ := h
  refine ⟨by simp, .inr ⟨b, bs.length, c, rfl, hB, hc, Nat.le_refl _, by unfold maxLen; omega, by omega, ?_⟩⟩
  apply List.ext_getElem
  · simp; omega
  · intro i h1 h2
    have h3 : i < bs.length := by simpa using h2
    have h4 := hcc i h3
    have h5 : i < c.size := by omega
    rw [Array.getElem?_eq_getElem h5, Option.some.injEq] at h4
    simp [h4, h3]
theorem idbit_any (r : Bool) (w : World) : Calls Try.prog 30 #[.bool r] w fun x w' => x = .returned (.int .u8 (askN r : Nat)) ∧ w = w' := by
  cases r
  · go_enter Try.func30, Try.ntmps30
    go_wp2
    go_ret
    exact ⟨rfl, rfl⟩
  · go_enter Try.func30, Try.ntmps30
    go_wp2
    go_ret
    exact ⟨rfl, rfl⟩
theorem width_any (e : Bool) (w : World) : Calls Try.prog 26 #[.bool e] w fun x w' => x = .returned (.int .i64 ((if e then 8 else 3 : Nat) : Int)) ∧ w = w' := by
  cases e
  · go_enter Try.func26, Try.ntmps26
    go_wp2
    go_ret
    exact ⟨rfl, rfl⟩
  · go_enter Try.func26, Try.ntmps26
    go_wp2
    go_ret
    exact ⟨rfl, rfl⟩
theorem right5_any (e : Bool) (n : Nat) (w : World) : Calls Try.prog 13 #[identV e n] w fun x w' => x = .returned (.bool (rightI e n)) ∧ Below w.heap.size w w' := by
  unfold identV
  cases e with
  | false =>
    have hd : decide ((n : Int) < 2048) = rightI false n := by
      have e : rightI false n = decide (n < 2048) := by simp [rightI]
      rw [e, Bool.eq_iff_iff, decide_eq_true_iff, decide_eq_true_iff]
      omega
    obtain ⟨b, hb⟩ : ∃ b, b = rightI false n := ⟨_, rfl⟩
    rw [← hb] at hd ⊢
    clear hb
    go_enter Try.func13, Try.ntmps13
    go_wp2
    go_ret
    exact ⟨rfl, (Below.refl _ _).alloc (Nat.le_refl _) _⟩
  | true =>
    have hd : decide ((n : Int) < 536870912) = rightI true n := by
      have e : rightI true n = decide (n < 536870912) := by simp [rightI]
      rw [e, Bool.eq_iff_iff, decide_eq_true_iff, decide_eq_true_iff]
      omega
    obtain ⟨b, hb⟩ : ∃ b, b = rightI true n := ⟨_, rfl⟩
    rw [← hb] at hd ⊢
    clear hb
    go_enter Try.func13, Try.ntmps13
    go_wp2
    go_ret
    exact ⟨rfl, (Below.refl _ _).alloc (Nat.le_refl _) _⟩
theorem ofB_std (n a : Nat) (ha : a ≤ 1) : ofB ((n * 2 + a) * 2) 13 = ofB n 11 ++ [a, 0] := by
  rw [ofB_succ, ofB_succ, show (n * 2 + a) * 2 / 2 = n * 2 + a by omega, show (n * 2 + a) / 2 = n by omega, show (n * 2 + a) % 2 = a by omega, show (n * 2 + a) * 2 % 2 = 0 by omega, List.append_assoc]
  rfl
set_option maxHeartbeats 2000000 in
theorem idbits_any (e : Bool) (n : Nat) (r : Bool) (hn : n < 4294967296) (w : World) : Calls Try.prog 16 #[identV e n, .bool r] w fun x w' => ∃ v, x = .returned v ∧ Ow w.heap.size w' v (idBits e n r) ∧ Below w.heap.size w w' := by
  have HR := Lib.hid (fun u => right5_any e n u)
  have hu64 : IntKind.u64.wrap (n : Int) = (n : Int) := by rw [IntKind.wrap_u64]; omega
  unfold identV at HR ⊢
  obtain ⟨i0, hi, hz0, hz1', hz2⟩ := info_parts info_u8
  cases hr : rightI e n with
  | false =>
    have hb : idBits e n r = [] := by unfold idBits; rw [hr]; rfl
    rw [hb]
    rw [hr] at HR
    clear hb hr
    go_enter Try.func16, Try.ntmps16
    go_wp2_with (fail)
    refine (HR.out _).mono ?_
    rintro x w1 ⟨rfl, hb⟩
    have HB := Lib.hid (below_trans' ((Below.refl _ w).alloc (Nat.le_refl _) (.cells #[.bool e, .int .u32 (n : Int)] 24)) hb)
    clear hb
    go_wp2_with (fail)
    go_ret
    exact ⟨_, rfl, Ow.nil _ _, HB.out⟩
  | true =>
    rw [hr] at HR
    have HAB := Lib.hid (fun u => idbit_any r u)
    have HAL := Lib.hid (askN_le r)
    obtain ⟨q, hq⟩ : ∃ q, q = askN r := ⟨_, rfl⟩
    rw [← hq] at HAB HAL
    cases e with
    | false =>
      have hb : idBits false n r = ofB n 11 ++ [q, 0] := by
        rw [← ofB_std n q HAL.out, hq]; unfold idBits; rw [if_pos hr]; simp
      rw [hb]
      clear hb hr hq
      go_enter Try.func16, Try.ntmps16
      go_wp2_with (fail)
      refine (HR.out _).mono ?_
      rintro x w1 ⟨rfl, hb⟩
      obtain ⟨p0, p1, _, _⟩ := (Two.new w (.bool false) (.int .u32 (n : Int)) 24 rfl).keep hb (by simp)
      have HB := Lib.hid (below_trans' ((Below.refl _ w).alloc (Nat.le_refl _) (.cells #[.bool false, .int .u32 (n : Int)] 24)) hb)
      clear hb
      go_wp2_with (fail)
      refine (of_yes n 11 (by omega) (by omega) (by omega) _).mono ?_
      rintro x w2 ⟨v, rfl, hm, hb⟩
      have HO := Lib.hid (Ow.low (made_ow hm) HB.out.size)
      have HB2 := Lib.hid (below_trans' HB.out hb)
      clear hm hb HB p0 p1
      go_wp2_with (fail)
      refine (HAB.out _).mono ?_
      rintro x w3 ⟨rfl, rfl⟩
      go_wp2_with (at_builtin; refine wpList_append_own _ rfl _ _ 32 rfl w.heap.size 5 i0 (.int .u8 0) 1 1 Try.underlying32 hi hz0 hz1' hz2 rfl (by decide) _ _ _ rfl (HO.out.own.alloc _) ⟨_, 0, none⟩ 2 2 [.int .u8 (q : Int), .int .u8 0] rfl rfl two_cell two_flat ?c3 ?c4 ?c5 ?_)
      case c3 => rw [ofB_length]; unfold maxLen; omega
      case c4 => rw [ofB_length]; omega
      case c5 => have := HB2.out.size; simp; omega
      intro v' w4 hown hgrow _
      have HO4 := Lib.hid (show Ow w.heap.size w4 v' (ofB n 11 ++ [q, 0]) by
        unfold Ow
        rw [List.length_append, List.map_append]
        exact hown)
      have HB4 := Lib.hid ((HB2.out.alloc HB2.out.size (.cells #[.int .u8 (q : Int), .int .u8 0] 5)).grown hgrow (by have := HB2.out.size; simp; omega) HO.out.ge)
      clear hown hgrow HO HB2
      go_wp2_with (fail)
      go_ret
      exact ⟨_, rfl, HO4.out, HB4.out⟩
    | true =>
      have hn2 : n < 536870912 := by simpa [rightI] using hr
      have hb : idBits true n r = ofB (n / 262144) 11 ++ [1, 1] ++ ofB n 18 ++ [q] := by rw [hq]; unfold idBits; rw [if_pos hr]; simp
      rw [hb]
      have e1 : (n : Int) / 262144 = ((n / 262144 : Nat) : Int) := by omega
      obtain ⟨v1, hv1⟩ : ∃ v1, v1 = n / 262144 := ⟨_, rfl⟩
      rw [← hv1] at e1 ⊢
      have hv : v1 < 18446744073709551616 := by omega
      have e2 : IntKind.u64.wrap (v1 : Int) = (v1 : Int) := by rw [IntKind.wrap_u64]; omega
      clear hb hr hv1 hq
      go_enter Try.func16, Try.ntmps16
      go_wp2_with (fail)
      refine (HR.out _).mono ?_
      rintro x w1 ⟨rfl, hb⟩
      have P1 := (Two.new w (.bool true) (.int .u32 (n : Int)) 24 rfl).keep hb (by simp)
      have HP1 := Lib.hid P1
      obtain ⟨p0, p1, _, _⟩ := P1
      have HB := Lib.hid (below_trans' ((Below.refl _ w).alloc (Nat.le_refl _) (.cells #[.bool true, .int .u32 (n : Int)] 24)) hb)
      have hz1 : w.heap.size + 1 ≤ w1.heap.size := by have := hb.size; simp at this; omega
      clear hb
      go_wp2_with (fail)
      refine (of_yes v1 11 hv (by omega) (by omega) _).mono ?_
      rintro x w2 ⟨v, rfl, hm, hb⟩
      have HO2 := Lib.hid (Ow.low (made_ow hm) hz1)
      have HB2 := Lib.hid (below_trans' HB.out hb)
      have HP2 := Lib.hid (HP1.out.keep hb (by omega))
      have hz2' : w.heap.size + 1 ≤ w2.heap.size := Nat.le_trans hz1 hb.size
      clear hm hb HB HP1 p0 p1 hz1
      go_wp2_with (at_builtin; refine wpList_append_own _ rfl _ _ 32 rfl (w.heap.size + 1) 5 i0 (.int .u8 0) 1 1 Try.underlying32 hi hz0 hz1' hz2 rfl (by decide) _ _ _ rfl (HO2.out.own.alloc _) ⟨_, 0, none⟩ 2 2 [.int .u8 1, .int .u8 1] rfl rfl two_cell two_flat ?c3 ?c4 ?c5 ?_)
      case c3 => rw [ofB_length]; unfold maxLen; omega
      case c4 => rw [ofB_length]; omega
      case c5 => simp; omega
      intro v' w3 hown3 hgrow _
      have HO3 := Lib.hid (show Ow (w.heap.size + 1) w3 v' (ofB v1 11 ++ [1, 1]) by
        unfold Ow
        rw [List.length_append, List.map_append]
        exact hown3)
      have h23 : Below (w.heap.size + 1) w2 w3 := ((Below.refl _ w2).alloc hz2' (.cells #[.int .u8 1, .int .u8 1] 5)).grown hgrow (by simp; omega) HO2.out.ge
      have P3 := HP2.out.keepAt h23 (by omega)
      have HP3 := Lib.hid P3
      obtain ⟨p0, p1, _, _⟩ := P3
      have HB3 := Lib.hid (HB2.out.trans (h23.mono (by omega)))
      have hz3 : w.heap.size + 1 ≤ w3.heap.size := Nat.le_trans hz2' h23.size
      clear hown3 hgrow h23 HO2 HB2 HP2 hz2'
      go_wp2_with (fail)
      refine (of_yes n 18 (by omega) (by omega) (by omega) _).mono ?_
      rintro x w4 ⟨v4, rfl, hm, hb⟩
      obtain ⟨g, cg, rfl, hcells⟩ := (made_ow hm).cells (by rw [ofB_length]; omega)
      rw [ofB_length]
      have HCE := Lib.hid hcells
      have HO4 := Lib.hid (HO3.out.on hb)
      have HB4 := Lib.hid (below_trans' HB3.out hb)
      have hz4 : w.heap.size + 1 ≤ w4.heap.size := Nat.le_trans hz3 hb.size
      clear hm hb HO3 HB3 HP3 hz3 p0 p1 hcells
      have hol4 : (ofB v1 11 ++ [1, 1]).length = 13 := by rw [List.length_append, ofB_length]; rfl
      have HOL4 := Lib.hid hol4
      clear hol4
      go_wp2_with (at_builtin; refine wpList_append_own _ rfl _ _ 32 rfl (w.heap.size + 1) 5 i0 (.int .u8 0) 1 1 Try.underlying32 hi hz0 hz1' hz2 rfl (by decide) _ _ _ rfl HO4.out.own ⟨g, 0, none⟩ 18 cg ((ofB n 18).map (fun n : Nat => Value.int .u8 ((n : Nat) : Int))) rfl ?c0 HCE.out (flat_bytes _) ?c3 ?c4 ?c5 ?_)
      case c0 => rw [List.length_map, ofB_length]
      case c3 => rw [HOL4.out]; unfold maxLen; omega
      case c4 => rw [HOL4.out]; omega
      case c5 => exact hz4
      intro v5 w5 hown5 hgrow _
      have HO5 := Lib.hid (show Ow (w.heap.size + 1) w5 v5 (ofB v1 11 ++ [1, 1] ++ ofB n 18) by
        unfold Ow
        rw [List.length_append, List.map_append, ofB_length]
        exact hown5)
      have HB5 := Lib.hid (HB4.out.grown hgrow (by omega) (fun k e => by have := HO4.out.ge k e; omega))
      have hz5 : w.heap.size + 1 ≤ w5.heap.size := Nat.le_trans hz4 hgrow.size
      clear hown5 hgrow HO4 HB4 HCE hz4
      have hol5 : (ofB v1 11 ++ [1, 1] ++ ofB n 18).length = 31 := by rw [List.length_append, HOL4.out, ofB_length]
      have HOL5 := Lib.hid hol5
      clear hol5
      go_wp2_with (fail)
      refine (HAB.out _).mono ?_
      rintro x w6 ⟨rfl, rfl⟩
      go_wp2_with (at_builtin; refine wpList_append_own _ rfl _ _ 32 rfl (w.heap.size + 1) 5 i0 (.int .u8 0) 1 1 Try.underlying32 hi hz0 hz1' hz2 rfl (by decide) _ _ _ rfl (HO5.out.own.alloc _) ⟨_, 0, none⟩ 1 1 [.int .u8 ((q : Nat) : Int)] rfl rfl one_cell one_flat ?c3 ?c4 ?c5 ?_)
      case c3 => rw [HOL5.out]; unfold maxLen; omega
      case c4 => rw [HOL5.out]; omega
      case c5 => simp; omega
      intro v6 w7 hown6 hgrow _
      have HO6 := Lib.hid (show Ow (w.heap.size + 1) w7 v6 (ofB v1 11 ++ [1, 1] ++ ofB n 18 ++ [q]) from Ow.snoc hown6)
      have HB6 := Lib.hid ((HB5.out.alloc (by omega) (.cells #[.int .u8 ((q : Nat) : Int)] 5)).grown hgrow (by simp; omega) (fun k e => by have := HO5.out.ge k e; omega))
      clear hown6 hgrow HO5 HB5
      go_wp2_with (fail)
      go_ret
      exact ⟨_, rfl, Ow.low HO6.out (Nat.le_succ _), HB6.out⟩
theorem key_shift (e : Bool) (n : Nat) (r : Bool) (h : rightI e n = true) : numB (bitsOf (idBits e n r)) * 2 ^ (32 - (idBits e n r).length) = idKey e n r := by
  have hb := idBits_le e n r
  have hs : bitsOf (idBits e n r) = idBits e n r := by
    unfold bitsOf
    conv => rhs; rw [← List.map_id (idBits e n r)]
    exact List.map_congr_left (fun x hx => bitN_self (hb x hx))
  have hl := idBits_length e n r h
  have hl32 : (idBits e n r).length ≤ 32 := by rw [hl]; split <;> omega
  have hk := idKey_bits e n r h
  rw [numP_append, numP_zeros, List.length_replicate, Nat.add_zero] at hk
  rw [hs, numB_numP _ hb (by omega), hk]
theorem idkey_any (e : Bool) (n : Nat) (r : Bool) (hn : n < 4294967296) (w : World) : Calls Try.prog 18 #[identV e n, .bool r] w fun x w' => x = .returned (.int .u32 (idKey e n r : Nat)) ∧ Below w.heap.size w w' := by
  have HB := Lib.hid (fun u => idbits_any e n r hn u)
  unfold identV at HB ⊢
  cases hr : rightI e n with
  | false =>
    have hb : idBits e n r = [] := by unfold idBits; rw [hr]; rfl
    have hk : idKey e n r = 0 := by unfold idKey; rw [hr]; rfl
    rw [hb] at HB
    rw [hk]
    clear hb hk hr
    go_enter Try.func18, Try.ntmps18
    go_wp2_with (fail)
    refine (HB.out _).mono ?_
    rintro x w1 ⟨v, rfl, ho, hb⟩
    have HBB := Lib.hid (below_trans' ((Below.refl _ w).alloc (Nat.le_refl _) (.cells #[.bool e, .int .u32 (n : Int)] 24)) hb)
    have HS := Lib.hid ho.str
    obtain ⟨a, c, rfl⟩ := ho.shape
    clear hb ho
    go_wp2_with (fail)
    refine (number_any _ _ _ [] (by simp) _ HS.out).mono ?_
    rintro x w2 ⟨rfl, hb⟩
    have HB2 := Lib.hid (below_trans' HBB.out hb)
    rw [show numB (bitsOf []) = 0 from rfl]
    clear hb
    go_wp2_with (fail)
    go_ret
    exact ⟨rfl, HB2.out⟩
  | true =>
    have hkl := idKey_lt e n r
    have hks := key_shift e n r hr
    have hl := idBits_length e n r hr
    rw [hl] at hks
    obtain ⟨k, hk⟩ : ∃ k, k = idKey e n r := ⟨_, rfl⟩
    obtain ⟨L, hL⟩ : ∃ L, L = idBits e n r := ⟨_, rfl⟩
    rw [← hk] at hks hkl ⊢
    rw [← hL] at hks HB hl
    obtain ⟨z, hz⟩ : ∃ z, z = numB (bitsOf L) := ⟨_, rfl⟩
    rw [← hz] at hks
    have HL := Lib.hid hl
    have HZ := Lib.hid hz
    have ew : IntKind.u32.wrap (k : Int) = (k : Int) := by rw [IntKind.wrap_u32]; omega
    cases e with
    | false =>
      have hks' : z * 524288 = k := hks
      have e1 : IntKind.u64.wrap ((z : Int) * 524288) = (k : Int) := by rw [IntKind.wrap_u64]; omega
      clear hk hL hl hr hz hks hks'
      go_enter Try.func18, Try.ntmps18
      go_wp2_with (fail)
      refine (HB.out _).mono ?_
      rintro x w1 ⟨v, rfl, ho, hb⟩
      have HBB := Lib.hid (below_trans' ((Below.refl _ w).alloc (Nat.le_refl _) (.cells #[.bool false, .int .u32 (n : Int)] 24)) hb)
      have HS := Lib.hid ho.str
      obtain ⟨a, c, rfl⟩ := ho.shape
      have hl13 : L.length = 13 := HL.out
      rw [hl13] at HS ⊢
      clear hb ho hl13
      go_wp2_with (fail)
      refine (number_any _ _ _ L (by rw [HL.out]; decide) _ HS.out).mono ?_
      rintro x w2 ⟨he, hb⟩
      rw [← HZ.out] at he
      subst he
      have HB2 := Lib.hid (below_trans' HBB.out hb)
      clear hb
      go_wp2_with (fail)
      go_ret
      exact ⟨rfl, HB2.out⟩
    | true =>
      have hks' : z * 1 = k := hks
      have e0 : z = k := by omega
      have e1 : IntKind.u64.wrap ((z : Int) * 1) = (k : Int) := by rw [IntKind.wrap_u64]; omega
      have e2 : IntKind.u64.wrap (z : Int) = (k : Int) := by rw [IntKind.wrap_u64]; omega
      clear hk hL hl hr hz hks hks'
      have E0 := Lib.hid e0
      clear e0
      go_enter Try.func18, Try.ntmps18
      go_wp2_with (fail)
      refine (HB.out _).mono ?_
      rintro x w1 ⟨v, rfl, ho, hb⟩
      have HBB := Lib.hid (below_trans' ((Below.refl _ w).alloc (Nat.le_refl _) (.cells #[.bool true, .int .u32 (n : Int)] 24)) hb)
      have HS := Lib.hid ho.str
      obtain ⟨a, c, rfl⟩ := ho.shape
      have hl13 : L.length = 32 := HL.out
      rw [hl13] at HS ⊢
      clear hb ho hl13
      go_wp2_with (fail)
      refine (number_any _ _ _ L (by rw [HL.out]; decide) _ HS.out).mono ?_
      rintro x w2 ⟨he, hb⟩
      rw [← HZ.out] at he
      subst he
      have HB2 := Lib.hid (below_trans' HBB.out hb)
      clear hb
      go_wp2_with (fail)
      go_ret
      exact ⟨rfl, HB2.out⟩
end Go.Proofs.Ytodeaddmachcjaa
