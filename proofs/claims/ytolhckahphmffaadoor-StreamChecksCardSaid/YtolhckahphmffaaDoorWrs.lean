/- How many bits a frame has on the wire at most, both sides (wire.Most and the document's own). Conditions: none but the table of the divisor. -/
import Derived.Test.YtolhckahphmffaaDoorFcc
import Derived.Test.YtolhckahphmffaaDoorSfa
namespace Go.Proofs.YtolhckahphmffaaDoor
open Go.RowKit
/-- How long a string of so many bits is at most. -/
def mostN (L : Nat) : Nat := L + (L - 1) / 4
theorem mostW_nat (L : Nat) (h : L ≤ 1000) : mostW (L : Int) = (mostN L : Int) := by
  unfold mostW mostN
  by_cases h0 : L = 0
  · subst h0; rfl
  · rw [if_neg (by omega)]
    omega
/-- How many bits a frame has on the wire at most. -/
def mostF (e : Bool) (len : Int) : Int := if len < 0 ∨ 8 < len then 0 else mostW ((if e then 54 else 34) + 8 * len) + 10
theorem zero_right (e : Bool) (len : Int) (h : 0 ≤ len) (h8 : len ≤ 8) : rightF e 0 false len [0, 0, 0, 0, 0, 0, 0, 0] = 0 := by
  unfold rightF
  rw [if_neg (by cases e <;> decide), if_neg (by omega), if_neg]
  simp
  intro i hi
  obtain rfl | rfl | rfl | rfl | rfl | rfl | rfl | rfl : i = 0 ∨ i = 1 ∨ i = 2 ∨ i = 3 ∨ i = 4 ∨ i = 5 ∨ i = 6 ∨ i = 7 := by omega
  all_goals simp
theorem zero_wrong (e : Bool) (len : Int) (h : len < 0 ∨ 8 < len) : rightF e 0 false len [0, 0, 0, 0, 0, 0, 0, 0] = 2 := by
  unfold rightF
  rw [if_neg (by cases e <;> decide), if_pos h]
theorem most_any7 (e : Bool) (len : Int) (w : World) (h0 : 0 < w.heap.size) (hT : Tab w) : Calls Tryd.prog 47 #[.bool e, .int .i64 len] w fun x w' => x = .returned (.int .i64 (mostF e len)) ∧ Below w.heap.size w w' := by
  by_cases h : len < 0 ∨ 8 < len
  · have hm : mostF e len = 0 := by unfold mostF; rw [if_pos h]
    rw [hm]
    have HBO := Lib.hid (fun u => frameBody_no e 0 false len [0, 0, 0, 0, 0, 0, 0, 0] rfl (by rw [zero_wrong e len h]; decide) u)
    simp only [frameV, frameC, List.map] at HBO
    clear hm h
    go_enter Tryd.func47, Tryd.ntmps47
    go_wp2_with fail
    refine (HBO.out _).mono ?_
    rintro x w1 ⟨rfl, hb⟩
    have HB := Lib.hid hb
    clear hb
    go_wp2_with fail
    go_ret
    exact ⟨rfl, HB.out⟩
  · obtain ⟨m, rfl⟩ : ∃ m : Nat, len = m := ⟨len.toNat, by omega⟩
    have hm : m ≤ 8 := by omega
    have hri : rightI e 0 = true := by cases e <;> rfl
    have hbl := bodyB_length (e := e) (n := 0) (r := false) (len := m) (data := [0, 0, 0, 0, 0, 0, 0, 0]) hri
    obtain ⟨l, hl⟩ : ∃ l : Nat, l = (if e then 54 else 34) + 8 * m := ⟨_, rfl⟩
    have hsl : sizeN e false m = l := by rw [hl]; unfold sizeN; cases e <;> simp <;> omega
    rw [hsl] at hbl
    have HBO := Lib.hid (show Calls Tryd.prog 71 #[frameV e 0 false (m : Int) [0, 0, 0, 0, 0, 0, 0, 0]] w fun x w' => ∃ a cap, x = .returned (.slice a l cap) ∧ Below w.heap.size w w' from (frameBody_yes e 0 (by omega) false m [0, 0, 0, 0, 0, 0, 0, 0] rfl (by decide) (zero_right e m (by omega) (by omega)) w h0 hT).mono fun x w' h => by
      obtain ⟨v, rfl, ho, hb⟩ := h
      obtain ⟨a, cap, rfl⟩ := ho.shape
      rw [hbl]
      exact ⟨a, cap, rfl, hb⟩)
    obtain ⟨k, hk⟩ : ∃ k : Nat, mostW (l : Int) = (k : Int) := ⟨mostN l, mostW_nat l (by rw [hl]; split <;> omega)⟩
    have hk2 : k ≤ 1000 := by
      have := mostW_nat l (by rw [hl]; split <;> omega)
      rw [hk] at this
      have h2 : k = mostN l := by omega
      rw [h2]; unfold mostN; rw [hl]; split <;> omega
    have HM := Lib.hid (show ∀ u, Calls Tryd.prog 72 #[.int .i64 (l : Int)] u fun x w' => x = .returned (.int .i64 (k : Int)) ∧ u = w' from fun u => by rw [← hk]; exact most_any (l : Int) u)
    have hv : mostF e (m : Int) = ((k + 10 : Nat) : Int) := by
      unfold mostF
      rw [if_neg h, show ((if e then 54 else 34) + 8 * (m : Int) : Int) = (l : Int) by rw [hl]; split <;> omega, hk]
      omega
    rw [hv]
    simp only [frameV, frameC, List.map] at HBO
    have hl0 : ((l : Int) == 0) = false := by rw [beq_eq_false_iff_ne, hl]; split <;> omega
    obtain ⟨z, hz⟩ : ∃ z, z = k + 10 := ⟨_, rfl⟩
    have e1 : (k : Int) + 10 = (z : Int) := by omega
    have e2 : IntKind.i64.wrap (z : Int) = (z : Int) := by rw [IntKind.wrap_i64]; omega
    rw [← hz]
    clear hv hz hk hk2 hl hsl hbl h hT h0
    go_enter Tryd.func47, Tryd.ntmps47
    go_wp2_with fail
    refine HBO.out.mono ?_
    rintro x w1 ⟨a, cap, rfl, hb⟩
    have HB := Lib.hid hb
    clear hb
    go_wp2_with fail
    refine (HM.out _).mono ?_
    rintro x w2 ⟨rfl, rfl⟩
    go_wp2_with fail
    go_ret
    exact ⟨rfl, HB.out⟩
theorem refMost7_any (e : Bool) (len : Int) (w : World) : Calls Tryd.prog 48 #[.bool e, .int .i64 len] w fun x w' => x = .returned (.int .i64 (mostF e len)) ∧ w = w' := by
  by_cases h : len < 0 ∨ 8 < len
  · have hm : mostF e len = 0 := by unfold mostF; rw [if_pos h]
    rw [hm]
    clear hm
    rcases h with h | h
    · go_enter Tryd.func48, Tryd.ntmps48
      go_wp2_with fail
      go_ret
      exact ⟨rfl, rfl⟩
    · have h2 : ¬ len < 0 := by omega
      go_enter Tryd.func48, Tryd.ntmps48
      go_wp2_with fail
      go_ret
      exact ⟨rfl, rfl⟩
  · obtain ⟨m, rfl⟩ : ∃ m : Nat, len = m := ⟨len.toNat, by omega⟩
    have hm : m ≤ 8 := by omega
    obtain ⟨l, hl⟩ : ∃ l : Nat, l = (if e then 54 else 34) + 8 * m := ⟨_, rfl⟩
    have hl2 : l ≤ 118 := by rw [hl]; split <;> omega
    have hw := mostW_nat l (by omega)
    obtain ⟨k, hk⟩ : ∃ k, k = mostN l := ⟨_, rfl⟩
    rw [← hk] at hw
    have hk2 : k ≤ 1000 := by rw [hk]; unfold mostN; omega
    have HM := Lib.hid (show ∀ u, Calls Tryd.prog 73 #[.int .i64 (l : Int)] u fun x w' => x = .returned (.int .i64 (k : Int)) ∧ u = w' from fun u => by
      have h := refMost_any (l : Int) u
      rw [show mostB (l : Int) = mostW (l : Int) from rfl, hw] at h
      exact h)
    obtain ⟨z, hz⟩ : ∃ z, z = k + 10 := ⟨_, rfl⟩
    have hv : mostF e (m : Int) = (z : Int) := by
      unfold mostF
      rw [if_neg h, show ((if e then 54 else 34) + 8 * (m : Int) : Int) = (l : Int) by rw [hl]; split <;> omega, hw]
      omega
    rw [hv]
    have n1 : ¬ (m : Int) < 0 := by omega
    have n2 : ¬ (8 : Int) < (m : Int) := by omega
    obtain ⟨p, hp⟩ : ∃ p, p = 8 * m := ⟨_, rfl⟩
    have e1 : (8 : Int) * (m : Int) = (p : Int) := by omega
    have e2 : IntKind.i64.wrap (p : Int) = (p : Int) := by rw [IntKind.wrap_i64]; omega
    have e3 : (k : Int) + 10 = (z : Int) := by omega
    have e4 : IntKind.i64.wrap (z : Int) = (z : Int) := by rw [IntKind.wrap_i64]; omega
    have e5 : IntKind.i64.wrap (l : Int) = (l : Int) := by rw [IntKind.wrap_i64]; omega
    obtain ⟨s, hs⟩ : ∃ s, s = 34 + p := ⟨_, rfl⟩
    have e6 : (34 : Int) + (p : Int) = (s : Int) := by omega
    have e7 : IntKind.i64.wrap (s : Int) = (s : Int) := by rw [IntKind.wrap_i64]; omega
    cases e
    · have hsl : s = l := by rw [hs, hp, hl]; rfl
      rw [hsl] at e6
      clear hv hw hk hl hz hp hs h hsl
      go_enter Tryd.func48, Tryd.ntmps48
      go_wp2_with fail
      refine (HM.out _).mono ?_
      rintro x w1 ⟨rfl, rfl⟩
      go_wp2_with fail
      go_ret
      exact ⟨rfl, rfl⟩
    · have e8 : (54 : Int) + (p : Int) = (l : Int) := by rw [hl, hp]; simp
      clear hv hw hk hl hz hp hs h
      go_enter Tryd.func48, Tryd.ntmps48
      go_wp2_with fail
      refine (HM.out _).mono ?_
      rintro x w1 ⟨rfl, rfl⟩
      go_wp2_with fail
      go_ret
      exact ⟨rfl, rfl⟩
end Go.Proofs.YtolhckahphmffaaDoor
