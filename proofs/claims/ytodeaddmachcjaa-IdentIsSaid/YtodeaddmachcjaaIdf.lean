/- The code of package ident (meant, Of): what it returns. Conditions: a key is below 2^32. -/
import Derived.Test.YtodeaddmachcjaaIde
namespace Go.Proofs.Ytodeaddmachcjaa
open Go.RowKit Go.Shelf
/-- What a key would stand for, if it is anybody's. -/
def meantI (k : Nat) : Bool × Nat × Bool := if k / 524288 % 2 = 0 then (false, k / 2097152, decide (k / 1048576 % 2 = 1)) else (true, k / 2097152 * 262144 + k / 2 % 262144, decide (k % 2 = 1))
theorem meant_any (k : Nat) (hk : k < 4294967296) (w : World) : Calls Try.prog 24 #[.int .u32 k] w fun x w' => x = .returned (.tuple #[identV (meantI k).1 (meantI k).2.1, .bool (meantI k).2.2]) ∧ Below w.heap.size w w' := by
  by_cases h0 : k / 524288 % 2 = 0
  · have hm : meantI k = (false, k / 2097152, decide (k / 1048576 % 2 = 1)) := if_pos h0
    rw [hm]
    have e1 : bits .and .u32 ((k : Int) / 524288) 1 = 0 := by
      have h := u32_and_nat (k / 524288) 1 (by omega) (by omega)
      rw [Nat.and_one_is_mod, h0] at h
      rw [show ((k : Int) / 524288) = ((k / 524288 : Nat) : Int) by omega]
      exact h
    obtain ⟨t, ht⟩ : ∃ t, t = k / 1048576 % 2 := ⟨_, rfl⟩
    have e2 : bits .and .u32 ((k : Int) / 1048576) 1 = (t : Int) := by
      have h := u32_and_nat (k / 1048576) 1 (by omega) (by omega)
      rw [Nat.and_one_is_mod, ← ht] at h
      rw [show ((k : Int) / 1048576) = ((k / 1048576 : Nat) : Int) by omega]
      exact h
    have e3 : ((t : Int) == 1) = decide (t = 1) := by rw [Bool.eq_iff_iff]; simp; omega
    obtain ⟨b, hb⟩ : ∃ b, b = k / 2097152 := ⟨_, rfl⟩
    have e5 : (k : Int) / 2097152 = (b : Int) := by omega
    obtain ⟨rm, hrm⟩ : ∃ rm, rm = decide (t = 1) := ⟨_, rfl⟩
    rw [← ht, ← hb]
    rw [← hrm] at e3 ⊢
    unfold identV
    clear ht hb hrm h0 hm
    go_enter Try.func24, Try.ntmps24
    go_wp2_with (fail)
    exact bodyPost_ret (v := .tuple #[.agg #[.bool false, .int .u32 (b : Int)], .bool rm]) (by simp [results, Try.results24, go_sem]) rfl ⟨rfl, (Below.refl _ w).alloc (Nat.le_refl _) _⟩
  · have h1 : k / 524288 % 2 = 1 := by omega
    have hm : meantI k = (true, k / 2097152 * 262144 + k / 2 % 262144, decide (k % 2 = 1)) := if_neg h0
    rw [hm]
    have e1 : bits .and .u32 ((k : Int) / 524288) 1 = 1 := by
      have h := u32_and_nat (k / 524288) 1 (by omega) (by omega)
      rw [Nat.and_one_is_mod, h1] at h
      rw [show ((k : Int) / 524288) = ((k / 524288 : Nat) : Int) by omega]
      exact h
    obtain ⟨q, hq⟩ : ∃ q, q = k % 2 := ⟨_, rfl⟩
    have e6 : bits .and .u32 (k : Int) 1 = (q : Int) := by
      have h := u32_and_nat k 1 hk (by omega)
      rw [Nat.and_one_is_mod, ← hq] at h
      exact h
    have e7 : ((q : Int) == 1) = decide (q = 1) := by rw [Bool.eq_iff_iff]; simp; omega
    obtain ⟨b, hb⟩ : ∃ b, b = k / 2097152 := ⟨_, rfl⟩
    have e5 : (k : Int) / 2097152 = (b : Int) := by omega
    obtain ⟨y, hy⟩ : ∃ y, y = k / 2 % 262144 := ⟨_, rfl⟩
    have hy18 : y < 262144 := by omega
    have e8 : bits .and .u32 ((k : Int) / 2) 262143 = (y : Int) := by
      have h := u32_and_nat (k / 2) 262143 (by omega) (by omega)
      rw [show (262143 : Nat) = 2 ^ 18 - 1 from rfl, Nat.and_two_pow_sub_one_eq_mod, show (2 : Nat) ^ 18 = 262144 from rfl, ← hy] at h
      rw [show ((k : Int) / 2) = ((k / 2 : Nat) : Int) by omega]
      exact h
    have hb11 : b < 2048 := by omega
    have e9 : (b : Int) * 262144 % 4294967296 = ((b * 262144 : Nat) : Int) := by omega
    have e9' : IntKind.u32.wrap ((b : Int) * 262144) = ((b * 262144 : Nat) : Int) := by rw [IntKind.wrap_u32]; omega
    have e10 : bits .or .u32 ((b * 262144 : Nat) : Int) (y : Int) = ((b * 262144 + y : Nat) : Int) := by rw [u32_or_nat _ _ (by omega) (by omega), or_plus _ _ hy18]
    obtain ⟨bb, hbb⟩ : ∃ bb, bb = b * 262144 := ⟨_, rfl⟩
    rw [← hbb] at e9 e9' e10
    obtain ⟨n, hn⟩ : ∃ n, n = bb + y := ⟨_, rfl⟩
    rw [← hn] at e10
    obtain ⟨rm, hrm⟩ : ∃ rm, rm = decide (q = 1) := ⟨_, rfl⟩
    rw [← hq, ← hb, ← hy, ← hbb, ← hn]
    rw [← hrm] at e7 ⊢
    unfold identV
    clear hb hrm h0 h1 hq hy hbb hn hm
    go_enter Try.func24, Try.ntmps24
    go_wp2_with (fail)
    exact bodyPost_ret (v := .tuple #[.agg #[.bool true, .int .u32 (n : Int)], .bool rm]) (by simp [results, Try.results24, go_sem]) rfl ⟨rfl, (Below.refl _ w).alloc (Nat.le_refl _) _⟩
theorem meant_lt (k : Nat) (hk : k < 4294967296) : (meantI k).2.1 < 4294967296 := by
  unfold meantI
  split <;> simp <;> omega
theorem ofKeyV_meant (k : Nat) (hk : k < 4294967296) : ofKeyV k = if idKey (meantI k).1 (meantI k).2.1 (meantI k).2.2 = k then .tuple #[identV (meantI k).1 (meantI k).2.1, .bool (meantI k).2.2, .bool true] else .tuple #[identV false 0, .bool false, .bool false] := by
  have one : ∀ a : Nat, a ≤ 1 → askN (decide (a = 1)) = a := askN_of
  unfold ofKeyV ofKey meantI
  by_cases c : k / 524288 % 2 = 0
  · rw [if_pos c, if_pos c]
    simp only
    have hr : rightI false (k / 2097152) = true := by simp [rightI]; omega
    have hk' : idKey false (k / 2097152) (decide (k / 1048576 % 2 = 1)) = k / 2097152 * 2097152 + k / 1048576 % 2 * 1048576 := by
      unfold idKey; rw [if_pos hr, one _ (by omega)]; simp
    rw [hk']
    by_cases c2 : k % 524288 = 0
    · rw [if_pos c2, if_pos (by omega)]
    · rw [if_neg c2, if_neg (by omega)]
  · rw [if_neg c, if_neg c]
    simp only
    have hr : rightI true (k / 2097152 * 262144 + k / 2 % 262144) = true := by simp [rightI]; omega
    have hk' : idKey true (k / 2097152 * 262144 + k / 2 % 262144) (decide (k % 2 = 1)) = k / 2097152 * 2097152 + 1572864 + (k / 2 % 262144) * 2 + k % 2 := by
      unfold idKey; rw [if_pos hr, one _ (by omega)]; simp; omega
    rw [hk']
    by_cases c2 : k / 1048576 % 2 = 1
    · rw [if_pos c2, if_pos (by omega)]
    · rw [if_neg c2, if_neg (by omega)]
theorem of5_any (k : Nat) (hk : k < 4294967296) (w : World) : Calls Try.prog 9 #[.int .u32 k] w fun x w' => x = .returned (ofKeyV k) ∧ Below w.heap.size w w' := by
  have HM := Lib.hid (fun u => meant_any k hk u)
  have hlt := meant_lt k hk
  rw [ofKeyV_meant k hk]
  obtain ⟨⟨e, n, r⟩, hm⟩ : ∃ m, m = meantI k := ⟨_, rfl⟩
  rw [← hm] at HM hlt ⊢
  have HK := Lib.hid (fun u => idkey_any e n r hlt u)
  obtain ⟨q, hq⟩ : ∃ q, q = idKey e n r := ⟨_, rfl⟩
  rw [← hq] at HK
  simp only at HM ⊢
  rw [← hq]
  unfold identV at HM HK ⊢
  clear hm hlt hq
  by_cases c : q = k
  · subst c
    rw [if_pos rfl]
    have hne : ((q : Int) != (q : Int)) = false := by simp
    go_enter Try.func9, Try.ntmps9
    go_wp2_with (fail)
    refine (HM.out _).mono ?_
    rintro x w1 ⟨rfl, hb⟩
    have P1 := (Two.new w (.bool false) (.int .u32 0) 24 rfl).keep hb (by simp)
    have hz1 : w.heap.size + 1 ≤ w1.heap.size := by have := hb.size; simp at this; omega
    have HB := Lib.hid (below_trans' ((Below.refl _ w).alloc (Nat.le_refl _) (.cells #[.bool false, .int .u32 0] 24)) hb)
    have HP1 := Lib.hid P1
    obtain ⟨p0, p1, p2, p3⟩ := P1
    clear hb
    go_wp2_with (fail)
    have HB1 := Lib.hid ((HB.out.setCell (p := ⟨w.heap.size, 0, none⟩) (Nat.le_refl _) (.bool e)).setCell (p := ⟨w.heap.size, 1, none⟩) (Nat.le_refl _) (.int .u32 (n : Int)))
    have P2 := HP1.out.put (.bool e) (.int .u32 (n : Int))
    obtain ⟨w2, hw2⟩ : ∃ w2, w2 = (w1.setCell ⟨w.heap.size, 0, none⟩ (.bool e)).setCell ⟨w.heap.size, 1, none⟩ (.int .u32 (n : Int)) := ⟨_, rfl⟩
    have hz2 : w.heap.size + 1 ≤ w2.heap.size := by rw [hw2]; simp [World.setCell]; omega
    rw [← hw2] at P2 HB1 ⊢
    clear HP1 p0 p1 p2 p3 hw2
    refine (HK.out _).mono ?_
    rintro x w3 ⟨rfl, hb⟩
    have HB3 := Lib.hid (below_trans' HB1.out hb)
    have P3 := P2.keep hb (by omega)
    have HP3 := Lib.hid P3
    obtain ⟨p0, p1, p2, p3⟩ := P3
    clear hb P2
    go_wp2_with (fail)
    obtain ⟨r0, r1, _, _⟩ := HP3.out.put (.bool e) (.int .u32 (n : Int))
    exact bodyPost_ret (v := .tuple #[.agg #[.bool e, .int .u32 (n : Int)], .bool r, .bool true]) (by simp [results, Try.results9, go_sem, r0, r1]) rfl ⟨rfl, below_two2 HB3.out (Nat.le_refl _) _ _⟩
  · rw [if_neg c]
    have hne : ((q : Int) != (k : Int)) = true := by simp; omega
    go_enter Try.func9, Try.ntmps9
    go_wp2_with (fail)
    refine (HM.out _).mono ?_
    rintro x w1 ⟨rfl, hb⟩
    have P1 := (Two.new w (.bool false) (.int .u32 0) 24 rfl).keep hb (by simp)
    have hz1 : w.heap.size + 1 ≤ w1.heap.size := by have := hb.size; simp at this; omega
    have HB := Lib.hid (below_trans' ((Below.refl _ w).alloc (Nat.le_refl _) (.cells #[.bool false, .int .u32 0] 24)) hb)
    have HP1 := Lib.hid P1
    obtain ⟨p0, p1, p2, p3⟩ := P1
    clear hb
    go_wp2_with (fail)
    have HB1 := Lib.hid ((HB.out.setCell (p := ⟨w.heap.size, 0, none⟩) (Nat.le_refl _) (.bool e)).setCell (p := ⟨w.heap.size, 1, none⟩) (Nat.le_refl _) (.int .u32 (n : Int)))
    have P2 := HP1.out.put (.bool e) (.int .u32 (n : Int))
    obtain ⟨w2, hw2⟩ : ∃ w2, w2 = (w1.setCell ⟨w.heap.size, 0, none⟩ (.bool e)).setCell ⟨w.heap.size, 1, none⟩ (.int .u32 (n : Int)) := ⟨_, rfl⟩
    have hz2 : w.heap.size + 1 ≤ w2.heap.size := by rw [hw2]; simp [World.setCell]; omega
    rw [← hw2] at P2 HB1 ⊢
    clear HP1 p0 p1 p2 p3 hw2
    refine (HK.out _).mono ?_
    rintro x w3 ⟨rfl, hb⟩
    have HB3 := Lib.hid (below_trans' HB1.out hb)
    have P3 := P2.keep hb (by omega)
    have HP3 := Lib.hid P3
    obtain ⟨p0, p1, p2, p3⟩ := P3
    clear hb P2
    go_wp2_with (fail)
    obtain ⟨r0, r1, _, _⟩ := HP3.out.put (.bool false) (.int .u32 0)
    exact bodyPost_ret (v := .tuple #[.agg #[.bool false, .int .u32 0], .bool false, .bool false]) (by simp [results, Try.results9, go_sem, r0, r1]) rfl ⟨rfl, below_two2 HB3.out (Nat.le_refl _) _ _⟩
end Go.Proofs.Ytodeaddmachcjaa
