/- What must be whatever is asked, of package crc (live). Conditions: the divisor's fifteen cells hold what the program lays in them. -/
import Derived.Test.YtdnonahpoklbfaaDoorCrb
import Derived.Test.YtdnonahpoklbfaaDoorSfl
namespace Go.Proofs.YtdnonahpoklbfaaDoor
open Go.RowKit Go.Shelf
set_option maxHeartbeats 1000000 in
theorem live3 (w : World) (h0 : 0 < w.heap.size) (hT : Tab w) : Calls Tryd.prog 10 #[] w fun e w' => e = .returned (.bool true) ∧ Below w.heap.size w w' := by
  have HT := Lib.hid hT
  clear hT
  go_enter Tryd.func10, Tryd.ntmps10
  go_wp2_with (fail)
  have B0 := Lib.hid ((Below.refl w.heap.size w).alloc (Nat.le_refl _) (.cells #[.int .u8 1] 5))
  refine (sum_any _ 1 1 [1] _ (Nat.lt_of_lt_of_le h0 B0.out.size) (HT.out.onB B0.out h0) (str_lit w [1] _ _ (by decide) rfl)).mono ?_
  rintro e w1 ⟨he, hb⟩
  have he' : e = .returned (.int .u16 17817) := by rw [he]; rfl
  subst he'
  have B1 := Lib.hid (below_trans' B0.out hb)
  clear he hb B0
  go_wp2_with (fail)
  refine (sum_any _ 0 0 [] _ (Nat.lt_of_lt_of_le h0 B1.out.size) (HT.out.onB B1.out h0) (str_nil _ _)).mono ?_
  rintro e w2 ⟨he, hb⟩
  have he' : e = .returned (.int .u16 0) := by rw [he]; rfl
  subst he'
  have B2 := Lib.hid (below_trans' B1.out hb)
  clear he hb B1
  have HS := Lib.hid (show Calls Tryd.prog 11 #[.int .u16 0, .int .u8 1] w2 _ from step_any 0 1 (by omega) w2 (Nat.lt_of_lt_of_le h0 B2.out.size) (HT.out.onB B2.out h0))
  go_wp2_with (fail)
  refine HS.out.mono ?_
  rintro e w3 ⟨he, hb⟩
  have he' : e = .returned (.int .u16 17817) := by rw [he]; rfl
  subst he'
  have B3 := Lib.hid (below_trans' B2.out hb)
  clear he hb B2 HS
  have HBI := Lib.hid (fun u => (show Calls Tryd.prog 16 #[.int .u16 7] u _ from bits_any 7 (by omega) u))
  go_wp2_with (fail)
  refine (HBI.out _).mono ?_
  rintro e w4 ⟨v, rfl, ⟨g, hv, _, _, _⟩, hb⟩
  rw [ofB_length] at hv
  subst hv
  have B4 := Lib.hid (below_trans' B3.out hb)
  clear hb B3
  go_wp2_with (fail)
  refine (HBI.out _).mono ?_
  rintro e w5 ⟨v, rfl, ⟨g5, hv, _, _, hrow⟩, hb⟩
  have hc : w5.cell? ⟨g5, 14, none⟩ = some (.int .u8 1) := hrow.cell (i := 14) (by rw [ofB_length]; omega)
  rw [ofB_length] at hv
  subst hv
  have B5 := Lib.hid (below_trans' B4.out hb)
  clear hb B4 HBI hrow
  go_wp2_with (fail)
  have B5A := Lib.hid (B5.out.alloc B5.out.size (.cells #[.int .u8 1, .int .u8 0, .int .u8 1] 5))
  refine (seal_any _ 3 3 [1, 0, 1] (by decide) _ (Nat.lt_of_lt_of_le h0 B5A.out.size) (HT.out.onB B5A.out h0) (str_lit w5 [1, 0, 1] _ _ (by decide) rfl)).mono ?_
  rintro e w6 ⟨v, rfl, ho, hb⟩
  obtain ⟨s, hs⟩ : ∃ s, s = bitsOf [1, 0, 1] ++ ofB (crcOf (bitsOf [1, 0, 1]) 0) 15 := ⟨_, rfl⟩
  have hsw : wholeB s = true := by rw [hs]; decide
  have hsl : s.length ≤ 100000 := by rw [hs]; decide
  rw [← hs] at ho
  obtain ⟨av, cv, rfl⟩ := ho.shape
  have S6 := Lib.hid ho.str
  have B6 := Lib.hid (below_trans' B5A.out hb)
  clear hb ho hs B5 B5A hc
  go_wp2_with (fail)
  refine (whole_any _ _ _ s hsl _ (Nat.lt_of_lt_of_le h0 B6.out.size) (HT.out.onB B6.out h0) S6.out).mono ?_
  rintro e w7 ⟨he, hb⟩
  have he' : e = .returned (.bool true) := by rw [he, hsw]
  subst he'
  have B7 := Lib.hid (below_trans' B6.out hb)
  clear he hb B6 S6
  go_wp2_with (fail)
  refine (whole_any _ 0 0 [] (by decide) _ (Nat.lt_of_lt_of_le h0 B7.out.size) (HT.out.onB B7.out h0) (str_nil _ _)).mono ?_
  rintro e w8 ⟨he, hb⟩
  have he' : e = .returned (.bool false) := by rw [he]; rfl
  subst he'
  have B8 := Lib.hid (below_trans' B7.out hb)
  clear he hb B7
  go_wp2_with (fail)
  go_ret
  exact ⟨rfl, B8.out⟩
end Go.Proofs.YtdnonahpoklbfaaDoor
