/- The document's own answers of layer 5 in plain words (Right, Bits, Key, Wins): what they return. Conditions: an identifier's number is below 2^32. -/
import Derived.Test.YtodeaddmachcjaaIdt
import Derived.Test.YtodeaddmachcjaaRja
import Derived.Laws.BitsAllLaws
namespace Go.Proofs.Ytodeaddmachcjaa
open Go.RowKit Go.Shelf
/-- An identifier, as a value. -/
def identV (e : Bool) (n : Nat) : Value := .agg #[.bool e, .int .u32 (n : Int)]
theorem refRight5_any (e : Bool) (n : Nat) (w : World) : Calls Try.prog 14 #[identV e n] w fun x w' => x = .returned (.bool (rightI e n)) ∧ Below w.heap.size w w' := by
  unfold identV
  cases e with
  | false =>
    have hd : decide ((n : Int) < 2048) = rightI false n := by
      have e : rightI false n = decide (n < 2048) := by simp [rightI]
      rw [e, Bool.eq_iff_iff, decide_eq_true_iff, decide_eq_true_iff]
      omega
    obtain ⟨b, hb⟩ : ∃ b, b = rightI false n := ⟨_, rfl⟩
    rw [← hb] at hd ⊢
    clear hb
    go_enter Try.func14, Try.ntmps14
    go_wp2
    go_ret
    exact ⟨rfl, (Below.refl _ _).alloc (Nat.le_refl _) _⟩
  | true =>
    have hd : decide ((n : Int) < 536870912) = rightI true n := by
      have e : rightI true n = decide (n < 536870912) := by simp [rightI]
      rw [e, Bool.eq_iff_iff, decide_eq_true_iff, decide_eq_true_iff]
      omega
    obtain ⟨b, hb⟩ : ∃ b, b = rightI true n := ⟨_, rfl⟩
    rw [← hb] at hd ⊢
    clear hb
    go_enter Try.func14, Try.ntmps14
    go_wp2
    go_ret
    exact ⟨rfl, (Below.refl _ _).alloc (Nat.le_refl _) _⟩
theorem two_cell {W : World} {T : TypeId} {x y : Value} : ∀ (j : Nat) (u : Value), [x, y][j]? = some u → (W.alloc (.cells #[x, y] T)).cell? (Addr.add ⟨W.heap.size, 0, none⟩ j) = some u := by
  intro j u hj
  rw [show (⟨W.heap.size, 0, none⟩ : Addr).add j = ⟨W.heap.size, 0 + j, none⟩ from add_off _ _ _, Nat.zero_add]
  match j, hj with
  | 0, hj => simp at hj; subst hj; simp
  | 1, hj => simp at hj; subst hj; simp
theorem two_flat {k : IntKind} {n m : Int} : ∀ u ∈ [Value.int k n, Value.int k m], u.oneCell' = true := by
  intro u hu
  rcases List.mem_cons.1 hu with rfl | hu
  · rfl
  · obtain rfl : u = Value.int k m := by simpa using hu
    rfl
theorem Ow.low {A B : Nat} {W : World} {v : Value} {bs : List Nat} (h : Ow B W v bs) (hA : A ≤ B) : Ow A W v bs := by
  obtain ⟨h0, h⟩ := h
  refine ⟨h0, ?_⟩
  rcases h with h | ⟨g, cap, cur, e, hB, hr⟩
  · exact .inl h
  · exact .inr ⟨g, cap, cur, e, Nat.le_trans hA hB, hr⟩
set_option maxHeartbeats 2000000 in
theorem refBits_any (e : Bool) (n : Nat) (r : Bool) (hn : n < 4294967296) (w : World) : Calls Try.prog 17 #[identV e n, .bool r] w fun x w' => ∃ v, x = .returned v ∧ Ow w.heap.size w' v (idBits e n r) ∧ Below w.heap.size w w' := by
  have HR := Lib.hid (fun u => refRight5_any e n u)
  have hu64 : IntKind.u64.wrap (n : Int) = (n : Int) := by rw [IntKind.wrap_u64]; omega
  unfold identV at HR ⊢
  obtain ⟨i0, hi, hz0, hz1', hz2⟩ := info_parts info_u8
  cases hr : rightI e n with
  | false =>
    have hb : idBits e n r = [] := by unfold idBits; rw [hr]; rfl
    rw [hb]
    rw [hr] at HR
    clear hb hr
    go_enter Try.func17, Try.ntmps17
    go_wp2_with (fail)
    refine (HR.out _).mono ?_
    rintro x w1 ⟨rfl, hb⟩
    have HB := Lib.hid (below_trans' ((Below.refl _ w).alloc (Nat.le_refl _) (.cells #[.bool e, .int .u32 (n : Int)] 24)) hb)
    clear hb
    go_wp2_with (fail)
    go_ret
    exact ⟨_, rfl, Ow.nil _ _, HB.out⟩
  | true =>
    rw [hr] at HR
    cases e with
    | false =>
      have hn2 : n < 2048 := by simpa [rightI] using hr
      cases r
      · have hb : idBits false n false = ofB ((n * 2 + 0) * 2) 13 := by unfold idBits; rw [if_pos hr]; simp [askN]
        rw [hb]
        have e1 : IntKind.u64.wrap ((n : Int) * 2) = ((n * 2 : Nat) : Int) := by rw [IntKind.wrap_u64]; omega
        have e2 : IntKind.u64.wrap ((n * 2 : Nat) : Int) = ((n * 2 + 0 : Nat) : Int) := by rw [IntKind.wrap_u64]; omega
        have e3 : IntKind.u64.wrap (((n * 2 + 0 : Nat) : Int) * 2) = (((n * 2 + 0) * 2 : Nat) : Int) := by rw [IntKind.wrap_u64]; omega
        obtain ⟨v1, hv1⟩ : ∃ v1, v1 = n * 2 := ⟨_, rfl⟩
        rw [← hv1] at e1 e2 e3 ⊢
        obtain ⟨v2, hv2⟩ : ∃ v2, v2 = v1 + 0 := ⟨_, rfl⟩
        rw [← hv2] at e2 e3 ⊢
        obtain ⟨v3, hv3⟩ : ∃ v3, v3 = v2 * 2 := ⟨_, rfl⟩
        rw [← hv3] at e3 ⊢
        have hv : v3 < 18446744073709551616 := by omega
        clear hb hr hv1 hv2 hv3
        go_enter Try.func17, Try.ntmps17
        go_wp2_with (fail)
        refine (HR.out _).mono ?_
        rintro x w1 ⟨rfl, hb⟩
        obtain ⟨p0, p1, _, _⟩ := (Two.new w (.bool false) (.int .u32 (n : Int)) 24 rfl).keep hb (by simp)
        have HB := Lib.hid (below_trans' ((Below.refl _ w).alloc (Nat.le_refl _) (.cells #[.bool false, .int .u32 (n : Int)] 24)) hb)
        clear hb
        go_wp2_with (fail)
        refine (refOf_yes v3 13 hv (by omega) (by omega) _).mono ?_
        rintro x w2 ⟨v, rfl, ho, hb⟩
        have HO := Lib.hid (Ow.low ho HB.out.size)
        have HB2 := Lib.hid (below_trans' HB.out hb)
        clear ho hb HB
        go_wp2_with (fail)
        go_ret
        exact ⟨_, rfl, HO.out, HB2.out⟩
      · have hb : idBits false n true = ofB ((n * 2 + 1) * 2) 13 := by unfold idBits; rw [if_pos hr]; simp [askN]
        rw [hb]
        have e1 : IntKind.u64.wrap ((n : Int) * 2) = ((n * 2 : Nat) : Int) := by rw [IntKind.wrap_u64]; omega
        have e2 : IntKind.u64.wrap (((n * 2 : Nat) : Int) + 1) = ((n * 2 + 1 : Nat) : Int) := by rw [IntKind.wrap_u64]; omega
        have e3 : IntKind.u64.wrap (((n * 2 + 1 : Nat) : Int) * 2) = (((n * 2 + 1) * 2 : Nat) : Int) := by rw [IntKind.wrap_u64]; omega
        obtain ⟨v1, hv1⟩ : ∃ v1, v1 = n * 2 := ⟨_, rfl⟩
        rw [← hv1] at e1 e2 e3 ⊢
        obtain ⟨v2, hv2⟩ : ∃ v2, v2 = v1 + 1 := ⟨_, rfl⟩
        rw [← hv2] at e2 e3 ⊢
        obtain ⟨v3, hv3⟩ : ∃ v3, v3 = v2 * 2 := ⟨_, rfl⟩
        rw [← hv3] at e3 ⊢
        have hv : v3 < 18446744073709551616 := by omega
        clear hb hr hv1 hv2 hv3
        go_enter Try.func17, Try.ntmps17
        go_wp2_with (fail)
        refine (HR.out _).mono ?_
        rintro x w1 ⟨rfl, hb⟩
        obtain ⟨p0, p1, _, _⟩ := (Two.new w (.bool false) (.int .u32 (n : Int)) 24 rfl).keep hb (by simp)
        have HB := Lib.hid (below_trans' ((Below.refl _ w).alloc (Nat.le_refl _) (.cells #[.bool false, .int .u32 (n : Int)] 24)) hb)
        clear hb
        go_wp2_with (fail)
        refine (refOf_yes v3 13 hv (by omega) (by omega) _).mono ?_
        rintro x w2 ⟨v, rfl, ho, hb⟩
        have HO := Lib.hid (Ow.low ho HB.out.size)
        have HB2 := Lib.hid (below_trans' HB.out hb)
        clear ho hb HB
        go_wp2_with (fail)
        go_ret
        exact ⟨_, rfl, HO.out, HB2.out⟩
    | true =>
      have hn2 : n < 536870912 := by simpa [rightI] using hr
      cases r
      · have hb : idBits true n false = ofB (n / 262144) 11 ++ [1, 1] ++ ofB n 18 ++ [0] := by unfold idBits; rw [if_pos hr]; simp [askN]
        rw [hb]
        have e1 : (n : Int) / 262144 = ((n / 262144 : Nat) : Int) := by omega
        obtain ⟨v1, hv1⟩ : ∃ v1, v1 = n / 262144 := ⟨_, rfl⟩
        rw [← hv1] at e1 ⊢
        have hv : v1 < 18446744073709551616 := by omega
        have e2 : IntKind.u64.wrap (v1 : Int) = (v1 : Int) := by rw [IntKind.wrap_u64]; omega
        clear hb hr hv1
        go_enter Try.func17, Try.ntmps17
        go_wp2_with (fail)
        refine (HR.out _).mono ?_
        rintro x w1 ⟨rfl, hb⟩
        have P1 := (Two.new w (.bool true) (.int .u32 (n : Int)) 24 rfl).keep hb (by simp)
        have HP1 := Lib.hid P1
        obtain ⟨p0, p1, _, _⟩ := P1
        have HB := Lib.hid (below_trans' ((Below.refl _ w).alloc (Nat.le_refl _) (.cells #[.bool true, .int .u32 (n : Int)] 24)) hb)
        have hz1 : w.heap.size + 1 ≤ w1.heap.size := by have := hb.size; simp at this; omega
        clear hb
        go_wp2_with (fail)
        refine (refOf_yes v1 11 hv (by omega) (by omega) _).mono ?_
        rintro x w2 ⟨v, rfl, ho, hb⟩
        have HO2 := Lib.hid (Ow.low ho hz1)
        have HB2 := Lib.hid (below_trans' HB.out hb)
        have HP2 := Lib.hid (HP1.out.keep hb (by omega))
        have hz2' : w.heap.size + 1 ≤ w2.heap.size := Nat.le_trans hz1 hb.size
        clear ho hb HB HP1 p0 p1 hz1
        go_wp2_with (at_builtin; refine wpList_append_own _ rfl _ _ 32 rfl (w.heap.size + 1) 5 i0 (.int .u8 0) 1 1 Try.underlying32 hi hz0 hz1' hz2 rfl (by decide) _ _ _ rfl (HO2.out.own.alloc _) ⟨_, 0, none⟩ 2 2 [.int .u8 1, .int .u8 1] rfl rfl two_cell two_flat ?c3 ?c4 ?c5 ?_)
        case c3 => rw [ofB_length]; unfold maxLen; omega
        case c4 => rw [ofB_length]; omega
        case c5 => simp; omega
        intro v' w3 hown3 hgrow _
        have HO3 := Lib.hid (show Ow (w.heap.size + 1) w3 v' (ofB v1 11 ++ [1, 1]) by
          unfold Ow
          rw [List.length_append, List.map_append]
          exact hown3)
        have h23 : Below (w.heap.size + 1) w2 w3 := ((Below.refl _ w2).alloc hz2' (.cells #[.int .u8 1, .int .u8 1] 5)).grown hgrow (by simp; omega) HO2.out.ge
        have P3 := HP2.out.keepAt h23 (by omega)
        have HP3 := Lib.hid P3
        obtain ⟨p0, p1, _, _⟩ := P3
        have HB3 := Lib.hid (HB2.out.trans (h23.mono (by omega)))
        have hz3 : w.heap.size + 1 ≤ w3.heap.size := Nat.le_trans hz2' h23.size
        clear hown3 hgrow h23 HO2 HB2 HP2 hz2'
        go_wp2_with (fail)
        refine (refOf_yes n 18 (by omega) (by omega) (by omega) _).mono ?_
        rintro x w4 ⟨v4, rfl, ho, hb⟩
        obtain ⟨g, cg, rfl, hcells⟩ := ho.cells (by rw [ofB_length]; omega)
        rw [ofB_length]
        have HCE := Lib.hid hcells
        have HO4 := Lib.hid (HO3.out.on hb)
        have HB4 := Lib.hid (below_trans' HB3.out hb)
        have hz4 : w.heap.size + 1 ≤ w4.heap.size := Nat.le_trans hz3 hb.size
        clear ho hb HO3 HB3 HP3 hz3 p0 p1 hcells
        have hol4 : (ofB v1 11 ++ [1, 1]).length = 13 := by rw [List.length_append, ofB_length]; rfl
        have HOL4 := Lib.hid hol4
        clear hol4
        go_wp2_with (at_builtin; refine wpList_append_own _ rfl _ _ 32 rfl (w.heap.size + 1) 5 i0 (.int .u8 0) 1 1 Try.underlying32 hi hz0 hz1' hz2 rfl (by decide) _ _ _ rfl HO4.out.own ⟨g, 0, none⟩ 18 cg ((ofB n 18).map (fun n : Nat => Value.int .u8 ((n : Nat) : Int))) rfl ?c0 HCE.out (flat_bytes _) ?c3 ?c4 ?c5 ?_)
        case c0 => rw [List.length_map, ofB_length]
        case c3 => rw [HOL4.out]; unfold maxLen; omega
        case c4 => rw [HOL4.out]; omega
        case c5 => exact hz4
        intro v5 w5 hown5 hgrow _
        have HO5 := Lib.hid (show Ow (w.heap.size + 1) w5 v5 (ofB v1 11 ++ [1, 1] ++ ofB n 18) by
          unfold Ow
          rw [List.length_append, List.map_append, ofB_length]
          exact hown5)
        have HB5 := Lib.hid (HB4.out.grown hgrow (by omega) (fun k e => by have := HO4.out.ge k e; omega))
        have hz5 : w.heap.size + 1 ≤ w5.heap.size := Nat.le_trans hz4 hgrow.size
        clear hown5 hgrow HO4 HB4 HCE hz4
        have hol5 : (ofB v1 11 ++ [1, 1] ++ ofB n 18).length = 31 := by rw [List.length_append, HOL4.out, ofB_length]
        have HOL5 := Lib.hid hol5
        clear hol5
        go_wp2_with (at_builtin; refine wpList_append_own _ rfl _ _ 32 rfl (w.heap.size + 1) 5 i0 (.int .u8 0) 1 1 Try.underlying32 hi hz0 hz1' hz2 rfl (by decide) _ _ _ rfl (HO5.out.own.alloc _) ⟨_, 0, none⟩ 1 1 [.int .u8 ((0 : Nat) : Int)] rfl rfl one_cell one_flat ?c3 ?c4 ?c5 ?_)
        case c3 => rw [HOL5.out]; unfold maxLen; omega
        case c4 => rw [HOL5.out]; omega
        case c5 => simp; omega
        intro v6 w6 hown6 hgrow _
        have HO6 := Lib.hid (show Ow (w.heap.size + 1) w6 v6 (ofB v1 11 ++ [1, 1] ++ ofB n 18 ++ [0]) from Ow.snoc hown6)
        have HB6 := Lib.hid ((HB5.out.alloc (by omega) (.cells #[.int .u8 ((0 : Nat) : Int)] 5)).grown hgrow (by simp; omega) (fun k e => by have := HO5.out.ge k e; omega))
        clear hown6 hgrow HO5 HB5
        go_wp2
        go_ret
        exact ⟨_, rfl, Ow.low HO6.out (Nat.le_succ _), HB6.out⟩
      · have hb : idBits true n true = ofB (n / 262144) 11 ++ [1, 1] ++ ofB n 18 ++ [1] := by unfold idBits; rw [if_pos hr]; simp [askN]
        rw [hb]
        have e1 : (n : Int) / 262144 = ((n / 262144 : Nat) : Int) := by omega
        obtain ⟨v1, hv1⟩ : ∃ v1, v1 = n / 262144 := ⟨_, rfl⟩
        rw [← hv1] at e1 ⊢
        have hv : v1 < 18446744073709551616 := by omega
        have e2 : IntKind.u64.wrap (v1 : Int) = (v1 : Int) := by rw [IntKind.wrap_u64]; omega
        clear hb hr hv1
        go_enter Try.func17, Try.ntmps17
        go_wp2_with (fail)
        refine (HR.out _).mono ?_
        rintro x w1 ⟨rfl, hb⟩
        have P1 := (Two.new w (.bool true) (.int .u32 (n : Int)) 24 rfl).keep hb (by simp)
        have HP1 := Lib.hid P1
        obtain ⟨p0, p1, _, _⟩ := P1
        have HB := Lib.hid (below_trans' ((Below.refl _ w).alloc (Nat.le_refl _) (.cells #[.bool true, .int .u32 (n : Int)] 24)) hb)
        have hz1 : w.heap.size + 1 ≤ w1.heap.size := by have := hb.size; simp at this; omega
        clear hb
        go_wp2_with (fail)
        refine (refOf_yes v1 11 hv (by omega) (by omega) _).mono ?_
        rintro x w2 ⟨v, rfl, ho, hb⟩
        have HO2 := Lib.hid (Ow.low ho hz1)
        have HB2 := Lib.hid (below_trans' HB.out hb)
        have HP2 := Lib.hid (HP1.out.keep hb (by omega))
        have hz2' : w.heap.size + 1 ≤ w2.heap.size := Nat.le_trans hz1 hb.size
        clear ho hb HB HP1 p0 p1 hz1
        go_wp2_with (at_builtin; refine wpList_append_own _ rfl _ _ 32 rfl (w.heap.size + 1) 5 i0 (.int .u8 0) 1 1 Try.underlying32 hi hz0 hz1' hz2 rfl (by decide) _ _ _ rfl (HO2.out.own.alloc _) ⟨_, 0, none⟩ 2 2 [.int .u8 1, .int .u8 1] rfl rfl two_cell two_flat ?c3 ?c4 ?c5 ?_)
        case c3 => rw [ofB_length]; unfold maxLen; omega
        case c4 => rw [ofB_length]; omega
        case c5 => simp; omega
        intro v' w3 hown3 hgrow _
        have HO3 := Lib.hid (show Ow (w.heap.size + 1) w3 v' (ofB v1 11 ++ [1, 1]) by
          unfold Ow
          rw [List.length_append, List.map_append]
          exact hown3)
        have h23 : Below (w.heap.size + 1) w2 w3 := ((Below.refl _ w2).alloc hz2' (.cells #[.int .u8 1, .int .u8 1] 5)).grown hgrow (by simp; omega) HO2.out.ge
        have P3 := HP2.out.keepAt h23 (by omega)
        have HP3 := Lib.hid P3
        obtain ⟨p0, p1, _, _⟩ := P3
        have HB3 := Lib.hid (HB2.out.trans (h23.mono (by omega)))
        have hz3 : w.heap.size + 1 ≤ w3.heap.size := Nat.le_trans hz2' h23.size
        clear hown3 hgrow h23 HO2 HB2 HP2 hz2'
        go_wp2_with (fail)
        refine (refOf_yes n 18 (by omega) (by omega) (by omega) _).mono ?_
        rintro x w4 ⟨v4, rfl, ho, hb⟩
        obtain ⟨g, cg, rfl, hcells⟩ := ho.cells (by rw [ofB_length]; omega)
        rw [ofB_length]
        have HCE := Lib.hid hcells
        have HO4 := Lib.hid (HO3.out.on hb)
        have HB4 := Lib.hid (below_trans' HB3.out hb)
        have hz4 : w.heap.size + 1 ≤ w4.heap.size := Nat.le_trans hz3 hb.size
        clear ho hb HO3 HB3 HP3 hz3 p0 p1 hcells
        have hol4 : (ofB v1 11 ++ [1, 1]).length = 13 := by rw [List.length_append, ofB_length]; rfl
        have HOL4 := Lib.hid hol4
        clear hol4
        go_wp2_with (at_builtin; refine wpList_append_own _ rfl _ _ 32 rfl (w.heap.size + 1) 5 i0 (.int .u8 0) 1 1 Try.underlying32 hi hz0 hz1' hz2 rfl (by decide) _ _ _ rfl HO4.out.own ⟨g, 0, none⟩ 18 cg ((ofB n 18).map (fun n : Nat => Value.int .u8 ((n : Nat) : Int))) rfl ?c0 HCE.out (flat_bytes _) ?c3 ?c4 ?c5 ?_)
        case c0 => rw [List.length_map, ofB_length]
        case c3 => rw [HOL4.out]; unfold maxLen; omega
        case c4 => rw [HOL4.out]; omega
        case c5 => exact hz4
        intro v5 w5 hown5 hgrow _
        have HO5 := Lib.hid (show Ow (w.heap.size + 1) w5 v5 (ofB v1 11 ++ [1, 1] ++ ofB n 18) by
          unfold Ow
          rw [List.length_append, List.map_append, ofB_length]
          exact hown5)
        have HB5 := Lib.hid (HB4.out.grown hgrow (by omega) (fun k e => by have := HO4.out.ge k e; omega))
        have hz5 : w.heap.size + 1 ≤ w5.heap.size := Nat.le_trans hz4 hgrow.size
        clear hown5 hgrow HO4 HB4 HCE hz4
        have hol5 : (ofB v1 11 ++ [1, 1] ++ ofB n 18).length = 31 := by rw [List.length_append, HOL4.out, ofB_length]
        have HOL5 := Lib.hid hol5
        clear hol5
        go_wp2_with (at_builtin; refine wpList_append_own _ rfl _ _ 32 rfl (w.heap.size + 1) 5 i0 (.int .u8 0) 1 1 Try.underlying32 hi hz0 hz1' hz2 rfl (by decide) _ _ _ rfl (HO5.out.own.alloc _) ⟨_, 0, none⟩ 1 1 [.int .u8 ((1 : Nat) : Int)] rfl rfl one_cell one_flat ?c3 ?c4 ?c5 ?_)
        case c3 => rw [HOL5.out]; unfold maxLen; omega
        case c4 => rw [HOL5.out]; omega
        case c5 => simp; omega
        intro v6 w6 hown6 hgrow _
        have HO6 := Lib.hid (show Ow (w.heap.size + 1) w6 v6 (ofB v1 11 ++ [1, 1] ++ ofB n 18 ++ [1]) from Ow.snoc hown6)
        have HB6 := Lib.hid ((HB5.out.alloc (by omega) (.cells #[.int .u8 ((1 : Nat) : Int)] 5)).grown hgrow (by simp; omega) (fun k e => by have := HO5.out.ge k e; omega))
        clear hown6 hgrow HO5 HB5
        go_wp2
        go_ret
        exact ⟨_, rfl, Ow.low HO6.out (Nat.le_succ _), HB6.out⟩
end Go.Proofs.Ytodeaddmachcjaa
