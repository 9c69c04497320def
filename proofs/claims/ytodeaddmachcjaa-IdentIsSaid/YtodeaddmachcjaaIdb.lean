/- The document's own answers of layer 5 in plain words (Key, Of, OfKey, Wins): what they return. Conditions: an identifier's number, and a key, is below 2^32. -/
import Derived.Test.YtodeaddmachcjaaIda
import Derived.Deep.DeepCutAuto
import Derived.Deep.RegionWith
namespace Go.Proofs.Ytodeaddmachcjaa
open Go.RowKit Go.Shelf
theorem key_number (e : Bool) (n : Nat) (r : Bool) (m : Nat) (h : rightI e n = true) (hm : (idBits e n r).length + m = 32) : numB (bitsOf (idBits e n r ++ List.replicate m 0)) = idKey e n r := by
  have hb : ∀ x ∈ idBits e n r ++ List.replicate m 0, x ≤ 1 := by
    intro x hx
    rcases List.mem_append.1 hx with h | h
    · exact idBits_le _ _ _ x h
    · rw [List.eq_of_mem_replicate h]; omega
  have hs : bitsOf (idBits e n r ++ List.replicate m 0) = idBits e n r ++ List.replicate m 0 := by
    unfold bitsOf
    conv => rhs; rw [← List.map_id (idBits e n r ++ List.replicate m 0)]
    exact List.map_congr_left (fun x hx => bitN_self (hb x hx))
  have hl : (idBits e n r ++ List.replicate m 0).length = 32 := by rw [List.length_append, List.length_replicate]; exact hm
  rw [hs, numB_numP _ hb (by omega), ← idKey_bits e n r h, show 32 - (idBits e n r).length = m by omega]
set_option maxHeartbeats 400000 in
theorem refKey_any (e : Bool) (n : Nat) (r : Bool) (hn : n < 4294967296) (w : World) : Calls Try.prog 19 #[identV e n, .bool r] w fun x w' => x = .returned (.int .u32 (idKey e n r : Nat)) ∧ Below w.heap.size w w' := by
  have HB := Lib.hid (fun u => refBits_any e n r hn u)
  obtain ⟨i0, hi, hz0, hz1', hz2⟩ := info_parts info_u8
  unfold identV at HB ⊢
  cases hr : rightI e n with
  | false =>
    have hb : idBits e n r = [] := by unfold idBits; rw [hr]; rfl
    have hk : idKey e n r = 0 := by unfold idKey; rw [hr]; rfl
    rw [hb] at HB
    rw [hk]
    clear hb hk hr
    go_enter Try.func19, Try.ntmps19
    go_wp2_with (fail)
    refine (HB.out _).mono ?_
    rintro x w1 ⟨v, rfl, ho, hb⟩
    have HBB := Lib.hid (below_trans' ((Below.refl _ w).alloc (Nat.le_refl _) (.cells #[.bool e, .int .u32 (n : Int)] 24)) hb)
    obtain ⟨a, c, rfl⟩ := ho.shape
    clear hb ho
    go_wp2_with (fail)
    go_ret
    exact ⟨rfl, HBB.out⟩
  | true =>
    have hl := idBits_length e n r hr
    have hl32 : (idBits e n r).length ≤ 32 := by rw [hl]; split <;> omega
    have hl13 : 13 ≤ (idBits e n r).length := by rw [hl]; split <;> omega
    have HK := Lib.hid (fun m hm => key_number e n r m hr hm)
    have hkl := idKey_lt e n r
    obtain ⟨k, hk⟩ : ∃ k, k = idKey e n r := ⟨_, rfl⟩
    obtain ⟨L, hL⟩ : ∃ L, L = idBits e n r := ⟨_, rfl⟩
    rw [← hk] at HK hkl ⊢
    rw [← hL] at HK HB hl32 hl13
    have ew : IntKind.u32.wrap (k : Int) = (k : Int) := by rw [IntKind.wrap_u32]; omega
    clear hk hL hl hr
    go_enter Try.func19, Try.ntmps19
    go_wp2_with (fail)
    refine (HB.out _).mono ?_
    rintro x w1 ⟨v, rfl, ho, hb⟩
    have hz1 : w.heap.size + 1 ≤ w1.heap.size := by have := hb.size; simp at this; omega
    have HO1 := Lib.hid (Ow.low ho (show w.heap.size ≤ _ by simp))
    have HBB := Lib.hid (below_trans' ((Below.refl _ w).alloc (Nat.le_refl _) (.cells #[.bool e, .int .u32 (n : Int)] 24)) hb)
    obtain ⟨a, c, rfl⟩ := ho.shape
    have hne : ((L.length : Int) == 0) = false := by rw [beq_eq_false_iff_ne]; omega
    clear hb ho HB
    go_wp2_with (fail)
    go_loopw [5] (fun v wr => ∃ (m : Nat) (a : Option Addr) (c : Nat), L.length + m ≤ 32 ∧ v = .slice a (L.length + m) c ∧ Ow w.heap.size wr v (L ++ List.replicate m 0) ∧ Below w.heap.size w wr ∧ w.heap.size ≤ wr.heap.size) (fun v _ => 32 - (match v with | .slice _ n _ => n | _ => 0))
    case atStart => exact ⟨0, a, c, by omega, rfl, by rw [List.replicate_zero, List.append_nil]; exact HO1.out, HBB.out, by omega⟩
    case round =>
      clear HO1 HBB
      obtain ⟨m, a, c, hm, rfl, hown, hnx, hsz⟩ := hrel
      have HO := Lib.hid hown; have HN := Lib.hid hnx
      have HLN := Lib.hid (show (L ++ List.replicate m 0).length = L.length + m by rw [List.length_append, List.length_replicate])
      have hown' := hown.own
      rw [HLN.out] at hown'
      have HOW := Lib.hid hown'
      clear hown hnx hown'
      by_cases hlt : L.length + m < 32
      · go_wp2_with (at_builtin; refine wpList_append_own _ rfl _ _ 32 rfl w.heap.size 5 i0 (.int .u8 0) 1 1 Try.underlying32 hi hz0 hz1' hz2 rfl (by decide) _ _ _ rfl (HOW.out.alloc _) ⟨_, 0, none⟩ 1 1 [.int .u8 ((0 : Nat) : Int)] rfl rfl one_cell one_flat ?c3 ?c4 ?c5 ?_)
        case c3 => unfold maxLen; omega
        case c4 => omega
        case c5 => simp; omega
        intro v' w4 hown4 hgrow _
        have HO4 := Lib.hid (show Ow w.heap.size w4 v' (L ++ List.replicate (m + 1) 0) by
          rw [List.replicate_succ', ← List.append_assoc]
          exact Ow.snoc (bs := L ++ List.replicate m 0) (by rw [HLN.out, List.map_append, List.map_replicate, List.append_assoc]; exact hown4))
        have HB4 := Lib.hid ((HN.out.alloc hsz (.cells #[.int .u8 ((0 : Nat) : Int)] 5)).grown hgrow (by simp; omega) HO.out.ge)
        have hsz4 : w.heap.size ≤ w4.heap.size := Nat.le_trans (by simp; omega) hgrow.size
        obtain ⟨a', c', hv⟩ := HO4.out.shape
        have hlen : (L ++ List.replicate (m + 1) 0).length = L.length + (m + 1) := by rw [List.length_append, List.length_replicate]
        rw [hlen] at hv
        clear hown4 hgrow hlen HOW
        go_wp2_with (fail)
        go_roundw
        case rel => exact ⟨m + 1, a', c', by omega, hv, HO4.out, HB4.out, hsz4⟩
        case measure => rw [hv]; simp; omega
      · have HS := Lib.hid HO.out.str
        have HKK := Lib.hid (HK.out m (by omega))
        clear HOW
        go_wp2_with (fail)
        refine (refNumber_any _ _ _ (L ++ List.replicate m 0) _ HS.out).mono ?_
        rintro x w5 ⟨he, rfl⟩
        rw [HKK.out] at he
        subst he
        go_wp2_with (fail)
        go_ret
        exact ⟨rfl, HN.out⟩
theorem refOf5_std (k : Nat) (hk : k < 4294967296) (h0 : k / 524288 % 2 = 0) (w : World) : Calls Try.prog 25 #[.int .u32 k] w fun x w' => x = .returned (.tuple #[identV false (k / 2097152), .bool (decide (k / 1048576 % 2 = 1)), .bool (decide (k % 524288 = 0))]) ∧ Below w.heap.size w w' := by
  have e1 : bits .and .u32 ((k : Int) / 524288) 1 = 0 := by
    have h := u32_and_nat (k / 524288) 1 (by omega) (by omega)
    rw [Nat.and_one_is_mod, h0] at h
    rw [show ((k : Int) / 524288) = ((k / 524288 : Nat) : Int) by omega]
    exact h
  obtain ⟨t, ht⟩ : ∃ t, t = k / 1048576 % 2 := ⟨_, rfl⟩
  have e2 : bits .and .u32 ((k : Int) / 1048576) 1 = (t : Int) := by
    have h := u32_and_nat (k / 1048576) 1 (by omega) (by omega)
    rw [Nat.and_one_is_mod, ← ht] at h
    rw [show ((k : Int) / 1048576) = ((k / 1048576 : Nat) : Int) by omega]
    exact h
  have e3 : ((t : Int) == 1) = decide (t = 1) := by rw [Bool.eq_iff_iff]; simp; omega
  have e4 : ((k : Int) * 8192 % 4294967296 == 0) = decide (k % 524288 = 0) := by rw [Bool.eq_iff_iff]; simp; omega
  obtain ⟨b, hb⟩ : ∃ b, b = k / 2097152 := ⟨_, rfl⟩
  have e5 : (k : Int) / 2097152 = (b : Int) := by omega
  obtain ⟨ok, hok⟩ : ∃ ok, ok = decide (k % 524288 = 0) := ⟨_, rfl⟩
  obtain ⟨rm, hrm⟩ : ∃ rm, rm = decide (t = 1) := ⟨_, rfl⟩
  rw [← ht, ← hb]
  rw [← hok] at e4 ⊢
  rw [← hrm] at e3 ⊢
  unfold identV
  clear ht hb hok hrm h0
  go_enter Try.func25, Try.ntmps25
  go_wp2_with (fail)
  obtain ⟨r0, r1, _, _⟩ := (Two.new w (.bool false) (.int .u32 (b : Int)) 24 rfl).more (by simp) (.cells #[.bool false, .int .u32 (b : Int)] 24)
  exact bodyPost_ret (v := .tuple #[.agg #[.bool false, .int .u32 (b : Int)], .bool rm, .bool ok]) (by simp [results, Try.results25, go_sem, r0, r1]) rfl ⟨rfl, ((Below.refl _ w).alloc (Nat.le_refl _) _).alloc (by simp) _⟩
theorem or_plus (a b : Nat) (hb : b < 262144) : a * 262144 ||| b = a * 262144 + b := by
  rw [Nat.mul_comm, show (262144 : Nat) = 2 ^ 18 from rfl, ← Nat.two_pow_add_eq_or_of_lt hb]
theorem refOf5_ext (k : Nat) (hk : k < 4294967296) (h0 : k / 524288 % 2 = 1) (w : World) : Calls Try.prog 25 #[.int .u32 k] w fun x w' => x = .returned (.tuple #[identV true (k / 2097152 * 262144 + k / 2 % 262144), .bool (decide (k % 2 = 1)), .bool (decide (k / 1048576 % 2 = 1))]) ∧ Below w.heap.size w w' := by
  have e1 : bits .and .u32 ((k : Int) / 524288) 1 = 1 := by
    have h := u32_and_nat (k / 524288) 1 (by omega) (by omega)
    rw [Nat.and_one_is_mod, h0] at h
    rw [show ((k : Int) / 524288) = ((k / 524288 : Nat) : Int) by omega]
    exact h
  obtain ⟨t, ht⟩ : ∃ t, t = k / 1048576 % 2 := ⟨_, rfl⟩
  have e2 : bits .and .u32 ((k : Int) / 1048576) 1 = (t : Int) := by
    have h := u32_and_nat (k / 1048576) 1 (by omega) (by omega)
    rw [Nat.and_one_is_mod, ← ht] at h
    rw [show ((k : Int) / 1048576) = ((k / 1048576 : Nat) : Int) by omega]
    exact h
  have e3 : ((t : Int) == 1) = decide (t = 1) := by rw [Bool.eq_iff_iff]; simp; omega
  obtain ⟨q, hq⟩ : ∃ q, q = k % 2 := ⟨_, rfl⟩
  have e6 : bits .and .u32 (k : Int) 1 = (q : Int) := by
    have h := u32_and_nat k 1 hk (by omega)
    rw [Nat.and_one_is_mod, ← hq] at h
    exact h
  have e7 : ((q : Int) == 1) = decide (q = 1) := by rw [Bool.eq_iff_iff]; simp; omega
  obtain ⟨b, hb⟩ : ∃ b, b = k / 2097152 := ⟨_, rfl⟩
  have e5 : (k : Int) / 2097152 = (b : Int) := by omega
  obtain ⟨y, hy⟩ : ∃ y, y = k / 2 % 262144 := ⟨_, rfl⟩
  have hy18 : y < 262144 := by omega
  have e8 : bits .and .u32 ((k : Int) / 2) 262143 = (y : Int) := by
    have h := u32_and_nat (k / 2) 262143 (by omega) (by omega)
    rw [show (262143 : Nat) = 2 ^ 18 - 1 from rfl, Nat.and_two_pow_sub_one_eq_mod, show (2 : Nat) ^ 18 = 262144 from rfl, ← hy] at h
    rw [show ((k : Int) / 2) = ((k / 2 : Nat) : Int) by omega]
    exact h
  have hb11 : b < 2048 := by omega
  have e9 : (b : Int) * 262144 % 4294967296 = ((b * 262144 : Nat) : Int) := by omega
  have e9' : IntKind.u32.wrap ((b : Int) * 262144) = ((b * 262144 : Nat) : Int) := by rw [IntKind.wrap_u32]; omega
  have e10 : bits .or .u32 ((b * 262144 : Nat) : Int) (y : Int) = ((b * 262144 + y : Nat) : Int) := by rw [u32_or_nat _ _ (by omega) (by omega), or_plus _ _ hy18]
  obtain ⟨bb, hbb⟩ : ∃ bb, bb = b * 262144 := ⟨_, rfl⟩
  rw [← hbb] at e9 e9' e10
  obtain ⟨n, hn⟩ : ∃ n, n = bb + y := ⟨_, rfl⟩
  rw [← hn] at e10
  obtain ⟨rm, hrm⟩ : ∃ rm, rm = decide (q = 1) := ⟨_, rfl⟩
  obtain ⟨ok, hok⟩ : ∃ ok, ok = decide (t = 1) := ⟨_, rfl⟩
  rw [← ht, ← hq, ← hb, ← hy, ← hbb, ← hn]
  rw [← hok] at e3 ⊢
  rw [← hrm] at e7 ⊢
  unfold identV
  clear ht hb hok hrm h0 hq hy hbb hn
  go_enter Try.func25, Try.ntmps25
  go_wp2_with (fail)
  obtain ⟨r0, r1, _, _⟩ := (Two.new w (.bool true) (.int .u32 (n : Int)) 24 rfl).more (by simp) (.cells #[.bool true, .int .u32 (n : Int)] 24)
  exact bodyPost_ret (v := .tuple #[.agg #[.bool true, .int .u32 (n : Int)], .bool rm, .bool ok]) (by simp [results, Try.results25, go_sem, r0, r1]) rfl ⟨rfl, ((Below.refl _ w).alloc (Nat.le_refl _) _).alloc (by simp) _⟩
/-- What a key is of, as the results. -/
def ofKeyV (k : Nat) : Value := match ofKey k with
  | some (e, n, r) => .tuple #[identV e n, .bool r, .bool true]
  | none => .tuple #[identV false 0, .bool false, .bool false]
theorem refOfKey_any (k : Nat) (hk : k < 4294967296) (w : World) : Calls Try.prog 10 #[.int .u32 k] w fun x w' => x = .returned (ofKeyV k) ∧ Below w.heap.size w w' := by
  have key : ∀ (e : Bool) (n : Nat) (r ok : Bool), (∀ u, Calls Try.prog 25 #[.int .u32 k] u fun x w' => x = .returned (.tuple #[identV e n, .bool r, .bool ok]) ∧ Below u.heap.size u w') →
      Calls Try.prog 10 #[.int .u32 k] w fun x w' => x = .returned (if ok then .tuple #[identV e n, .bool r, .bool true] else .tuple #[identV false 0, .bool false, .bool false]) ∧ Below w.heap.size w w' := by
    intro e n r ok h
    have H := Lib.hid h
    unfold identV at H ⊢
    clear h
    cases ok with
    | false =>
      go_enter Try.func10, Try.ntmps10
      go_wp2_with (fail)
      refine (H.out _).mono ?_
      rintro x w1 ⟨rfl, hb⟩
      have HP := Lib.hid ((Two.new w (.bool false) (.int .u32 0) 24 rfl).keep hb (by simp))
      have hz : w.heap.size + 1 ≤ w1.heap.size := by have := hb.size; simp at this; omega
      have HB := Lib.hid (below_trans' ((Below.refl _ w).alloc (Nat.le_refl _) (.cells #[.bool false, .int .u32 0] 24)) hb)
      have HPA := Lib.hid (HP.out.more (by omega) (.cells #[.bool e, .int .u32 (n : Int)] 24))
      obtain ⟨p0, p1, p2, p3⟩ := HPA.out
      clear hb H
      go_wp2_with (fail)
      obtain ⟨r0, r1, _, _⟩ := HPA.out.put (.bool false) (.int .u32 0)
      exact bodyPost_ret (v := .tuple #[.agg #[.bool false, .int .u32 0], .bool false, .bool false]) (by simp [results, Try.results10, go_sem, r0, r1]) rfl ⟨rfl, below_two2 (HB.out.alloc (by omega) _) (Nat.le_refl _) _ _⟩
    | true =>
      go_enter Try.func10, Try.ntmps10
      go_wp2_with (fail)
      refine (H.out _).mono ?_
      rintro x w1 ⟨rfl, hb⟩
      have HP := Lib.hid ((Two.new w (.bool false) (.int .u32 0) 24 rfl).keep hb (by simp))
      have hz : w.heap.size + 1 ≤ w1.heap.size := by have := hb.size; simp at this; omega
      have HB := Lib.hid (below_trans' ((Below.refl _ w).alloc (Nat.le_refl _) (.cells #[.bool false, .int .u32 0] 24)) hb)
      have HPA := Lib.hid (HP.out.more (by omega) (.cells #[.bool e, .int .u32 (n : Int)] 24))
      obtain ⟨p0, p1, p2, p3⟩ := HPA.out
      clear hb H
      go_wp2_with (fail)
      obtain ⟨r0, r1, _, _⟩ := HPA.out.put (.bool e) (.int .u32 (n : Int))
      exact bodyPost_ret (v := .tuple #[.agg #[.bool e, .int .u32 (n : Int)], .bool r, .bool true]) (by simp [results, Try.results10, go_sem, r0, r1]) rfl ⟨rfl, below_two2 (HB.out.alloc (by omega) _) (Nat.le_refl _) _ _⟩
  by_cases c : k / 524288 % 2 = 0
  · have h := key _ _ _ _ (fun u => refOf5_std k hk c u)
    have e : ofKeyV k = (if decide (k % 524288 = 0) then .tuple #[identV false (k / 2097152), .bool (decide (k / 1048576 % 2 = 1)), .bool true] else .tuple #[identV false 0, .bool false, .bool false]) := by
      unfold ofKeyV ofKey
      rw [if_pos c]
      by_cases c2 : k % 524288 = 0
      · rw [if_pos c2, decide_eq_true c2]; rfl
      · rw [if_neg c2, decide_eq_false c2]; rfl
    rw [e]
    exact h
  · have h := key _ _ _ _ (fun u => refOf5_ext k hk (by omega) u)
    have e : ofKeyV k = (if decide (k / 1048576 % 2 = 1) then .tuple #[identV true (k / 2097152 * 262144 + k / 2 % 262144), .bool (decide (k % 2 = 1)), .bool true] else .tuple #[identV false 0, .bool false, .bool false]) := by
      unfold ofKeyV ofKey
      rw [if_neg c]
      by_cases c2 : k / 1048576 % 2 = 1
      · rw [if_pos c2, decide_eq_true c2]; rfl
      · rw [if_neg c2, decide_eq_false c2]; rfl
    rw [e]
    exact h
set_option maxHeartbeats 16000000 in
theorem refWins_any (e : Bool) (n : Nat) (r : Bool) (f : Bool) (m : Nat) (s : Bool) (hn : n < 4294967296) (hm : m < 4294967296) (w : World) : Calls Try.prog 23 #[identV e n, .bool r, identV f m, .bool s] w fun x w' => x = .returned (.bool (winsI e n r f m s)) ∧ Below w.heap.size w w' := by
  have HA := Lib.hid (fun u => refRight5_any e n u)
  have HC := Lib.hid (fun u => refRight5_any f m u)
  have HK := Lib.hid (fun u => refKey_any e n r hn u)
  have HL := Lib.hid (fun u => refKey_any f m s hm u)
  obtain ⟨k, hk⟩ : ∃ k, k = idKey e n r := ⟨_, rfl⟩
  obtain ⟨l, hl⟩ : ∃ l, l = idKey f m s := ⟨_, rfl⟩
  have hwi : winsI e n r f m s = (rightI e n && rightI f m && decide (k < l)) := by rw [hk, hl]; rfl
  rw [hwi]
  rw [← hk] at HK
  rw [← hl] at HL
  unfold identV at HA HC HK HL ⊢
  clear hwi hk hl
  obtain ⟨ra, hra⟩ : ∃ ra, ra = rightI e n := ⟨_, rfl⟩
  obtain ⟨rb, hrb⟩ : ∃ rb, rb = rightI f m := ⟨_, rfl⟩
  rw [← hra] at HA ⊢
  rw [← hrb] at HC ⊢
  clear hra hrb
  obtain ⟨ba, bb, hab⟩ : ∃ ba bb, ba = ra ∧ bb = rb := ⟨ra, rb, rfl, rfl⟩
  clear hab
  go_enter Try.func23, Try.ntmps23
  go_wp2_with (fail)
  obtain ⟨wr, hwr⟩ : ∃ wr, wr = ((w.alloc (.cells #[.bool e, .int .u32 (n : Int)] 24)).alloc (.cells #[.bool f, .int .u32 (m : Int)] 24)) := ⟨_, rfl⟩
  have T0 : Two wr w.heap.size (.bool e) (.int .u32 (n : Int)) := by rw [hwr]; exact (Two.new w (.bool e) (.int .u32 (n : Int)) 24 rfl).more (by simp) _
  have T1 : Two wr (w.heap.size + 1) (.bool f) (.int .u32 (m : Int)) := by rw [hwr]; exact Two.new _ _ _ _ (by simp)
  have hz : w.heap.size + 2 ≤ wr.heap.size := by rw [hwr]; simp
  have hB : Below w.heap.size w wr := by rw [hwr]; exact ((Below.refl _ w).alloc (Nat.le_refl _) _).alloc (by simp) _
  rw [← hwr]
  have HA := Lib.hid (show ∀ u, Below wr.heap.size wr u → Calls Try.prog 14 #[.agg #[.bool e, .int .u32 (n : Int)]] u fun x w' => x = .returned (.bool ra) ∧ Below wr.heap.size wr w' from fun u hu => (HA.out u).mono fun _ _ h => ⟨h.1, below_trans' hu h.2⟩)
  have HC := Lib.hid (show ∀ u, Below wr.heap.size wr u → Calls Try.prog 14 #[.agg #[.bool f, .int .u32 (m : Int)]] u fun x w' => x = .returned (.bool rb) ∧ Below wr.heap.size wr w' from fun u hu => (HC.out u).mono fun _ _ h => ⟨h.1, below_trans' hu h.2⟩)
  have HK := Lib.hid (show ∀ u, Below wr.heap.size wr u → Calls Try.prog 19 #[.agg #[.bool e, .int .u32 (n : Int)], .bool r] u fun x w' => x = .returned (.int .u32 (k : Int)) ∧ Below wr.heap.size wr w' from fun u hu => (HK.out u).mono fun _ _ h => ⟨h.1, below_trans' hu h.2⟩)
  have HL := Lib.hid (show ∀ u, Below wr.heap.size wr u → Calls Try.prog 19 #[.agg #[.bool f, .int .u32 (m : Int)], .bool s] u fun x w' => x = .returned (.int .u32 (l : Int)) ∧ Below wr.heap.size wr w' from fun u hu => (HL.out u).mono fun _ _ h => ⟨h.1, below_trans' hu h.2⟩)
  have HT0 := Lib.hid T0; have HT1 := Lib.hid T1; have HB := Lib.hid hB; have HR := Lib.hid (Below.refl wr.heap.size wr)
  obtain ⟨p0, p1, p2, p3⟩ := T0
  obtain ⟨q0, q1, q2, q3⟩ := T1
  clear hwr hB
  go_cut [8] (fun s8 wx => s8 = .bool (ra && rb && decide (k < l)) ∧ Below w.heap.size w wx)
  case first =>
    cases ra <;> cases rb
    all_goals first | (go_region_with (first | (go_at_call 19; have gg := hb3; clear gg; refine (HL.out _ (by first | exact hb3 | exact hb3.drew | exact hb3.drew.drew | exact hb3.drew.drew.drew | exact hb3.drew.drew.drew.drew | exact hb3.drew.drew.drew.drew.drew)).mono ?_; rintro x w5 ⟨rfl, hb4⟩; obtain ⟨p0, p1, p2, p3⟩ := HT0.out.keep hb4 (by omega); obtain ⟨q0, q1, q2, q3⟩ := HT1.out.keep hb4 (by omega)) | (go_at_call 19; refine (HK.out _ (by first | exact hb2 | exact hb2.drew | exact hb2.drew.drew | exact hb2.drew.drew.drew | exact hb2.drew.drew.drew.drew | exact hb2.drew.drew.drew.drew.drew)).mono ?_; rintro x w4 ⟨rfl, hb3⟩; obtain ⟨p0, p1, p2, p3⟩ := HT0.out.keep hb3 (by omega); obtain ⟨q0, q1, q2, q3⟩ := HT1.out.keep hb3 (by omega)) | (go_at_call 14; have gg := hb1; clear gg; refine (HC.out _ (by first | exact hb1 | exact hb1.drew | exact hb1.drew.drew | exact hb1.drew.drew.drew | exact hb1.drew.drew.drew.drew | exact hb1.drew.drew.drew.drew.drew)).mono ?_; rintro x w3 ⟨rfl, hb2⟩; obtain ⟨p0, p1, p2, p3⟩ := HT0.out.keep hb2 (by omega); obtain ⟨q0, q1, q2, q3⟩ := HT1.out.keep hb2 (by omega)) | (go_at_call 14; refine (HA.out _ (by first | exact HR.out | exact HR.out.drew | exact HR.out.drew.drew | exact HR.out.drew.drew.drew | exact HR.out.drew.drew.drew.drew | exact HR.out.drew.drew.drew.drew.drew)).mono ?_; rintro x w2 ⟨rfl, hb1⟩; obtain ⟨p0, p1, p2, p3⟩ := HT0.out.keep hb1 (by omega); obtain ⟨q0, q1, q2, q3⟩ := HT1.out.keep hb1 (by omega)))) | fail
    all_goals (go_wp2_with fail; go_meet; first | exact ⟨by simp, HB.out.trans (hb4.mono (by omega))⟩ | exact ⟨rfl, HB.out.trans (hb2.mono (by omega))⟩ | exact ⟨rfl, HB.out.trans (hb1.mono (by omega))⟩)
  case rest =>
  obtain ⟨rfl, hb⟩ := hcut
  have HX := Lib.hid hb
  clear hb p0 p1 p2 p3 q0 q1 q2 q3
  go_wp2_with fail
  go_ret
  exact ⟨rfl, HX.out⟩
end Go.Proofs.Ytodeaddmachcjaa
