/- The code of package frame: Size. Conditions: not more than a thousand bits. -/
import Derived.Test.YtmfnkfiocnngeaaDoorFrb
import Derived.Test.YtmfnkfiocnngeaaDoorFce
namespace Go.Proofs.YtmfnkfiocnngeaaDoor
open Go.RowKit Go.Shelf
theorem sizeB_short (bs : List Nat) (h : bs.length ≤ 13) : sizeB (bitsOf bs) = none := by
  rw [sizeB_bits, if_pos (by omega)]
theorem sizeB_long (bs : List Nat) (h : 13 < bs.length) (e : Bool) (he : e = decide (bs[13]?.getD 0 ≠ 0)) (R L : Nat) (hR : R = if e then 32 else 12) (hL : L = if e then 35 else 15) : sizeB (bitsOf bs) = if L + 4 ≤ bs.length then some (sumN bs R L + 15) else none := by
  rw [sizeB_bits, if_neg (by omega)]
  unfold sumN
  by_cases z : bs[13]?.getD 0 = 0
  · have : e = false := by rw [he]; simp [z]
    subst this
    simp only [Bool.false_eq_true, if_false] at hR hL
    subst hR; subst hL
    rw [if_pos z, if_pos z]
    by_cases q : bs.length < 15 + 4
    · rw [if_pos q, if_neg (show ¬ 15 + 4 ≤ bs.length by omega)]
    · rw [if_neg q, if_pos (show 15 + 4 ≤ bs.length by omega)]
      by_cases y : bs[12]?.getD 0 = 0
      · simp [y]; omega
      · simp [y]
  · have : e = true := by rw [he]; simp [z]
    subst this
    simp only [if_true] at hR hL
    subst hR; subst hL
    rw [if_neg z, if_neg z]
    by_cases q : bs.length < 35 + 4
    · rw [if_pos q, if_neg (show ¬ 35 + 4 ≤ bs.length by omega)]
    · rw [if_neg q, if_pos (show 35 + 4 ≤ bs.length by omega)]
      by_cases y : bs[32]?.getD 0 = 0
      · simp [y]; omega
      · simp [y]
theorem frameSize_any (a : Option Addr) (len cap : Nat) (bs : List Nat) (hl : bs.length ≤ 1000) (w : World) (hI : Str w.heap.size w (.slice a len cap) bs) : Calls Tryd.prog 24 #[.slice a len cap] w fun x w' => x = .returned (.tuple #[.int .i64 (((sizeB (bitsOf bs)).getD 0 : Nat) : Int), .bool (sizeB (bitsOf bs)).isSome]) ∧ Below w.heap.size w w' := by
  by_cases h13 : bs.length ≤ 13
  · rw [sizeB_short bs h13]
    have HO := Lib.hid (show ∀ u, Below w.heap.size w u → Calls Tryd.prog 62 #[.slice a len cap] u fun x w' => x = .returned (.tuple #[rdV false 0 0 (.slice none 0 0), .bool false]) ∧ Below u.heap.size u w' from fun u hu => open_few a len cap bs h13 u ((hI.below hu).mono hu.size))
    clear hI h13 hl
    unfold rdV at HO
    go_enter Tryd.func24, Tryd.ntmps24
    go_wp2_with fail
    refine (HO.out _ (Below.refl _ w)).mono ?_
    rintro x w1 ⟨rfl, hb⟩
    have hsz : w.heap.size ≤ w1.heap.size := hb.size
    have HB := Lib.hid hb
    clear hb
    go_wp2_with fail
    exact bodyPost_ret (v := .tuple #[.int .i64 0, .bool false]) (by simp [results, Tryd.results24, go_sem]) rfl ⟨rfl, HB.out.alloc hsz _⟩
  have h14 : 13 < bs.length := by omega
  obtain ⟨e, he⟩ : ∃ e, e = decide (bs[13]?.getD 0 ≠ 0) := ⟨_, rfl⟩
  obtain ⟨R, hR⟩ : ∃ R, R = if e then 32 else 12 := ⟨_, rfl⟩
  obtain ⟨L, hL⟩ : ∃ L, L = if e then 35 else 15 := ⟨_, rfl⟩
  have hRL : R + 3 = L := by rw [hR, hL]; cases e <;> rfl
  rw [sizeB_long bs h14 e he R L hR hL]
  have HO := Lib.hid (show ∀ u, Below w.heap.size w u → Calls Tryd.prog 62 #[.slice a len cap] u fun x w' => x = .returned (.tuple #[rdV e R L (.slice a len cap), .bool (decide (L + 4 ≤ bs.length))]) ∧ Below u.heap.size u w' from fun u hu => open_any a len cap bs h14 u ((hI.below hu).mono hu.size) e he R L hR hL)
  by_cases hq : L + 4 ≤ bs.length
  · rw [if_pos hq]
    have HZ := Lib.hid (show ∀ u, Below w.heap.size w u → Calls Tryd.prog 63 #[rdV e R L (.slice a len cap)] u fun x w' => x = .returned (.int .i64 ((sumN bs R L + 15 : Nat) : Int)) ∧ Below u.heap.size u w' from fun u hu => rdSize_any e R L a len cap bs (by omega) hq hl u ((hI.below hu).mono hu.size))
    obtain ⟨z, hz⟩ : ∃ z, z = sumN bs R L + 15 := ⟨_, rfl⟩
    rw [← hz] at HZ ⊢
    have HO := Lib.hid (show ∀ u, Below w.heap.size w u → Calls Tryd.prog 62 #[.slice a len cap] u fun x w' => x = .returned (.tuple #[rdV e R L (.slice a len cap), .bool true]) ∧ Below u.heap.size u w' from fun u hu => (HO.out u hu).mono fun _ _ h => ⟨by rw [h.1, decide_eq_true hq], h.2⟩)
    clear hI h13 h14 hl he hR hL hRL hq hz
    unfold rdV at HO HZ
    go_enter Tryd.func24, Tryd.ntmps24
    go_wp2_with fail
    refine (HO.out _ (Below.refl _ w)).mono ?_
    rintro x w1 ⟨rfl, hb⟩
    have hsz : w.heap.size ≤ w1.heap.size := hb.size
    have HB := Lib.hid hb
    clear hb
    go_wp2_with fail
    refine (HZ.out _ ?_).mono ?_
    · exact HB.out.alloc hsz _
    rintro x w2 ⟨rfl, hb2⟩
    have HB2 := Lib.hid (below_trans' (HB.out.alloc hsz _) hb2)
    clear hb2
    go_wp2_with fail
    exact bodyPost_ret (v := .tuple #[.int .i64 (z : Int), .bool true]) (by simp [results, Tryd.results24, go_sem]) rfl ⟨rfl, HB2.out⟩
  · rw [if_neg hq]
    have HO := Lib.hid (show ∀ u, Below w.heap.size w u → Calls Tryd.prog 62 #[.slice a len cap] u fun x w' => x = .returned (.tuple #[rdV e R L (.slice a len cap), .bool false]) ∧ Below u.heap.size u w' from fun u hu => (HO.out u hu).mono fun _ _ h => ⟨by rw [h.1, decide_eq_false hq], h.2⟩)
    clear hI h13 h14 hl he hR hL hRL hq
    unfold rdV at HO
    go_enter Tryd.func24, Tryd.ntmps24
    go_wp2_with fail
    refine (HO.out _ (Below.refl _ w)).mono ?_
    rintro x w1 ⟨rfl, hb⟩
    have hsz : w.heap.size ≤ w1.heap.size := hb.size
    have HB := Lib.hid hb
    clear hb
    go_wp2_with fail
    exact bodyPost_ret (v := .tuple #[.int .i64 0, .bool false]) (by simp [results, Tryd.results24, go_sem]) rfl ⟨rfl, HB.out.alloc hsz _⟩
end Go.Proofs.YtmfnkfiocnngeaaDoor
