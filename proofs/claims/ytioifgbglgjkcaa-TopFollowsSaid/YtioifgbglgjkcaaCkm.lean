/- Mathematics of clocks: what is told never falls; what Shift and Tune change at their count; slopes. No program in it. Conditions: each theorem says its own. -/
import Derived.Test.YtioifgbglgjkcaaCkl
namespace Go.Proofs.Ytioifgbglgjkcaa
open Go.RowKit
theorem readT_ge (c v r t n : Int) : ¬ readT c v r t n < t := by
  unfold readT; split <;> omega
/-- At the very count from which a clock goes on it has its value. -/
theorem look_here (c v r : Int) (hv : -1152921504606846976 ≤ v ∧ v ≤ 1152921504606846976) : lookB c v r c = true ∧ lookX c v r c = v := by
  have e1 : tickI c c = 0 := by unfold tickI; rw [Int.sub_self]; rfl
  have e2 : growI c r c = 0 := by unfold growI; rw [e1, Int.zero_mul]; rfl
  have e3 : sumI c v r c = v := by unfold sumI; rw [e2, Int.add_zero]; exact cut_yes (by omega)
  have h : lookB c v r c = true := by
    unfold lookB fitsB
    rw [e1, e2, e3, Int.sub_self, Int.zero_mul, Int.add_zero, fit_yes (x := v) (by omega), mayB_yes hv]
    rfl
  exact ⟨h, by unfold lookX; rw [if_pos h, e3]⟩
theorem shE_two (c v r n b : Int) : shE c v r n b = 0 ∨ shE c v r n b = 9 := by unfold shE; split <;> simp
theorem sh_yes {c v r n b : Int} (h : shE c v r n b = 0) : lookB c v r n = true ∧ lookB (shC c v r n b) (shV c v r n b) r n = true ∧ lookX (shC c v r n b) (shV c v r n b) r n = lookX c v r n + b := by
  have h2 := h
  unfold shE at h2
  split at h2
  case isFalse => simp at h2
  case isTrue hh =>
    rw [Bool.and_eq_true, Bool.and_eq_true] at hh
    obtain ⟨h3, h4, h5⟩ := hh
    have e := cut_yes (of_fit h4)
    have h6 := of_decide_eq_true h5
    unfold shC shV
    rw [if_pos h, if_pos h, e] at *
    have h7 := look_here n (lookX c v r n + b) r h6
    exact ⟨h3, h7.1, h7.2⟩
theorem sh_no {c v r n b : Int} (h : shE c v r n b = 9) : shC c v r n b = c ∧ shV c v r n b = v := by
  unfold shC shV; rw [h]; exact ⟨if_neg (by decide), if_neg (by decide)⟩
theorem tu_in {c v r n q : Int} (hq : 1044480 ≤ q ∧ q ≤ 1052672) : (lookB c v r n = true → tuE c v r n q = 0) ∧ (lookB c v r n = false → tuE c v r n q = 9) := by
  constructor <;> intro h <;> unfold tuE <;> rw [if_neg (by omega), h]
  · exact if_pos rfl
  · exact if_neg (by decide)
theorem tu_yes {c v r n q : Int} (h : tuE c v r n q = 0) : lookB (tuC c v r n q) (tuV c v r n q) (tuR c v r n q) n = true ∧ lookX (tuC c v r n q) (tuV c v r n q) (tuR c v r n q) n = lookX c v r n := by
  unfold tuC tuV tuR
  rw [if_pos h, if_pos h, if_pos h]
  exact look_here n _ q (look_in c v r n)
theorem tu_no {c v r n q : Int} (h : tuE c v r n q = 9) : tuC c v r n q = c ∧ tuV c v r n q = v ∧ tuR c v r n q = r := by
  unfold tuC tuV tuR; rw [h]; exact ⟨if_neg (by decide), if_neg (by decide), if_neg (by decide)⟩
theorem mul_box {a r K M : Int} (hK : 0 ≤ K) (ha : -K ≤ a ∧ a ≤ K) (hr : 0 ≤ r ∧ r ≤ M) : -(K * M) ≤ a * r ∧ a * r ≤ K * M := by
  have h1 := Int.mul_le_mul_of_nonneg_right ha.1 hr.1
  have h2 := Int.mul_le_mul_of_nonneg_right ha.2 hr.1
  have h3 := Int.mul_le_mul_of_nonneg_left hr.2 hK
  rw [Int.neg_mul] at h1
  constructor <;> omega
/-- A clock that goes on from nothing. -/
theorem look_from0 (r n : Int) (hn : -1099511627776 ≤ n ∧ n ≤ 1099511627776) (hr : 1044480 ≤ r ∧ r ≤ 1052672) : lookB 0 0 r n = true ∧ lookX 0 0 r n = n * r / 1048576 := by
  have hm := mul_box (by decide) hn (show 0 ≤ r ∧ r ≤ 1052672 by omega)
  have e1 : tickI 0 n = n := by unfold tickI; rw [Int.sub_zero]; exact cut_yes (by omega)
  have e2 : growI 0 r n = n * r / 1048576 := by unfold growI; rw [e1]; exact cut_yes (by omega)
  have e3 : sumI 0 0 r n = n * r / 1048576 := by unfold sumI; rw [e2, Int.zero_add]; exact cut_yes (by omega)
  have h : lookB 0 0 r n = true := by
    unfold lookB fitsB
    rw [e1, e2, e3, Int.sub_zero, Int.zero_add, fit_yes (x := n) (by omega), fit_yes (x := n * r / 1048576) (by omega), mayB_yes (by omega)]
    rfl
  exact ⟨h, by unfold lookX; rw [if_pos h, e3]⟩
theorem slope_in (a b r : Int) (ha : -1099511627776 ≤ a ∧ a ≤ 1099511627776) (hb : -1099511627776 ≤ b ∧ b ≤ 1099511627776) (hr : 1044480 ≤ r ∧ r ≤ 1052672) :
    (b - a) * r / 1048576 ≤ b * r / 1048576 - a * r / 1048576 ∧ b * r / 1048576 - a * r / 1048576 ≤ (b - a) * r / 1048576 + 1 ∧ (-9223372036854775808 ≤ (b - a) * r / 1048576 ∧ (b - a) * r / 1048576 ≤ 9223372036854775807) ∧ (-9223372036854775808 ≤ (b - a) * r / 1048576 + 1 ∧ (b - a) * r / 1048576 + 1 ≤ 9223372036854775807) ∧ (-9223372036854775808 ≤ b * r / 1048576 - a * r / 1048576 ∧ b * r / 1048576 - a * r / 1048576 ≤ 9223372036854775807) := by
  have h1 := mul_box (by decide) ha (show 0 ≤ r ∧ r ≤ 1052672 by omega)
  have h2 := mul_box (by decide) hb (show 0 ≤ r ∧ r ≤ 1052672 by omega)
  rw [Int.sub_mul]
  obtain ⟨A, hA⟩ : ∃ A, A = a * r := ⟨_, rfl⟩
  obtain ⟨B, hB⟩ : ∃ B, B = b * r := ⟨_, rfl⟩
  rw [← hA] at h1 ⊢
  rw [← hB] at h2 ⊢
  clear hA hB
  omega
theorem tmod_in (x m : Int) (hm : 0 < m) : -m < x.tmod m ∧ x.tmod m < m := by
  have h1 := Int.tmod_lt_of_pos x hm
  have h2 := Int.lt_tmod_of_pos x hm
  omega
end Go.Proofs.Ytioifgbglgjkcaa
