/- What must be whatever is asked, of package ident (live). No conditions. -/
import Derived.Test.YtodeaddmachcjaaIdg
import Derived.Test.YtodeaddmachcjaaIdh
import Derived.Test.YtodeaddmachcjaaIdj
namespace Go.Proofs.Ytodeaddmachcjaa
open Go.RowKit Go.Shelf
theorem tx_inj {a b : ByteArray} (h : tx a = tx b) : a = b := by
  have inj : ∀ (l m : List UInt8), l.map UInt8.toNat = m.map UInt8.toNat → l = m := by
    intro l
    induction l with
    | nil => intro m h; cases m with
      | nil => rfl
      | cons y m => cases h
    | cons x l ih =>
      intro m h
      cases m with
      | nil => cases h
      | cons y m =>
        rw [List.map_cons, List.map_cons, List.cons.injEq] at h
        rw [UInt8.toNat_inj.1 h.1, ih m h.2]
  obtain ⟨a⟩ := a
  obtain ⟨b⟩ := b
  have : a.toList = b.toList := inj _ _ h
  rw [Array.toList_inj.1 this]
/-- The four structs that live holds. -/
def Four (B I : Nat) (W : World) : Prop := Two W B (.bool false) (.int .u32 291) ∧ Two W (B + 1) (.bool false) (.int .u32 292) ∧ Two W (B + 1 + 1) (.bool true) (.int .u32 76283904) ∧ Two W I (.bool false) (.int .u32 291) ∧ B + 1 + 1 < W.heap.size ∧ I < W.heap.size
theorem Four.on {B I : Nat} {W X : World} (h : Four B I W) (hb : Below W.heap.size W X) : Four B I X := by
  obtain ⟨a, b, c, d, e, f⟩ := h
  exact ⟨a.keep hb (by omega), b.keep hb (by omega), c.keep hb (by omega), d.keep hb (by omega), Nat.lt_of_lt_of_le e hb.size, Nat.lt_of_lt_of_le f hb.size⟩
set_option maxHeartbeats 2000000 in
theorem live5 (w : World) : Calls Try.prog 8 #[] w fun e w' => e = .returned (.bool true) ∧ Below w.heap.size w w' := by
  go_enter Try.func8, Try.ntmps8
  go_wp2_with (fail)
  refine (show Calls Try.prog 11 #[.string ⟨#[49, 50, 51]⟩] _ fun x w' => x = .returned (.tuple #[.agg #[.bool false, .int .u32 291], .bool true]) ∧ Below _ _ w' from idparse_any ⟨#[49, 50, 51]⟩ _).mono ?_
  rintro x w1 ⟨rfl, hb⟩
  have hz : w.heap.size + 3 ≤ w1.heap.size := by have := hb.size; simp at this; omega
  have B0 := Lib.hid (below_trans' ((((Below.refl _ w).alloc (Nat.le_refl _) (.cells #[.bool false, .int .u32 291] 24)).alloc (by simp) (.cells #[.bool false, .int .u32 292] 24)).alloc (by simp; omega) (.cells #[.bool true, .int .u32 76283904] 24)) hb)
  have T0 := ((Two.new w (.bool false) (.int .u32 291) 24 rfl).more (by simp) (.cells #[.bool false, .int .u32 292] 24) |>.more (by simp; omega) (.cells #[.bool true, .int .u32 76283904] 24)).keep hb (by simp; omega)
  have T1 := ((Two.new (w.alloc (.cells #[.bool false, .int .u32 291] 24)) (.bool false) (.int .u32 292) 24 (B := w.heap.size + 1) (by simp)).more (by simp) (.cells #[.bool true, .int .u32 76283904] 24)).keep hb (by simp)
  have T2 := (Two.new ((w.alloc (.cells #[.bool false, .int .u32 291] 24)).alloc (.cells #[.bool false, .int .u32 292] 24)) (.bool true) (.int .u32 76283904) 24 (B := w.heap.size + 1 + 1) (by simp)).keep hb (by simp)
  have B1 := Lib.hid (B0.out.alloc (by omega) (.cells #[.bool false, .int .u32 291] 24))
  have F1 := Lib.hid (show Four w.heap.size w1.heap.size (w1.alloc (.cells #[.bool false, .int .u32 291] 24)) from ⟨T0.more (by omega) _, T1.more (by omega) _, T2.more (by omega) _, Two.new _ _ _ _ rfl, by simp; omega, by simp⟩)
  obtain ⟨⟨a0, a1, a2, a3⟩, ⟨b0, b1, b2, b3⟩, ⟨c0, c1, c2, c3⟩, ⟨d0, d1, d2, d3⟩, _, _⟩ := F1.out
  clear hb B0 T0 T1 T2
  have HC2 := Lib.hid (show ∀ u, Calls Try.prog 13 #[.agg #[.bool false, .int .u32 291]] u fun x w' => x = .returned (.bool true) ∧ Below u.heap.size u w' from fun u => right5_any false 291 u)
  go_wp2_with (fail)
  refine (HC2.out _).mono ?_
  rintro x w2 ⟨rfl, hb⟩
  have B2 := Lib.hid (below_trans' B1.out hb)
  have F2 := Lib.hid (F1.out.on hb)
  obtain ⟨⟨a0, a1, a2, a3⟩, ⟨b0, b1, b2, b3⟩, ⟨c0, c1, c2, c3⟩, ⟨d0, d1, d2, d3⟩, _, _⟩ := F2.out
  clear hb B1 F1 HC2
  have HC3 := Lib.hid (show ∀ u, Calls Try.prog 13 #[.agg #[.bool false, .int .u32 2048]] u fun x w' => x = .returned (.bool false) ∧ Below u.heap.size u w' from fun u => right5_any false 2048 u)
  go_wp2_with (fail)
  refine (HC3.out _).mono ?_
  rintro x w3 ⟨rfl, hb⟩
  have B3 := Lib.hid (below_trans' B2.out hb)
  have F3 := Lib.hid (F2.out.on hb)
  obtain ⟨⟨a0, a1, a2, a3⟩, ⟨b0, b1, b2, b3⟩, ⟨c0, c1, c2, c3⟩, ⟨d0, d1, d2, d3⟩, _, _⟩ := F3.out
  clear hb B2 F2 HC3
  have HC4 := Lib.hid (show ∀ u, Calls Try.prog 22 #[.agg #[.bool false, .int .u32 291], .bool false, .agg #[.bool false, .int .u32 292], .bool false] u fun x w' => x = .returned (.bool true) ∧ Below u.heap.size u w' from fun u => wins_any false 291 false false 292 false (by omega) (by omega) u)
  go_wp2_with (fail)
  refine (HC4.out _).mono ?_
  rintro x w4 ⟨rfl, hb⟩
  have B4 := Lib.hid (below_trans' B3.out hb)
  have F4 := Lib.hid (F3.out.on hb)
  obtain ⟨⟨a0, a1, a2, a3⟩, ⟨b0, b1, b2, b3⟩, ⟨c0, c1, c2, c3⟩, ⟨d0, d1, d2, d3⟩, _, _⟩ := F4.out
  clear hb B3 F3 HC4
  have HC5 := Lib.hid (show ∀ u, Calls Try.prog 22 #[.agg #[.bool false, .int .u32 291], .bool false, .agg #[.bool false, .int .u32 291], .bool true] u fun x w' => x = .returned (.bool true) ∧ Below u.heap.size u w' from fun u => wins_any false 291 false false 291 true (by omega) (by omega) u)
  go_wp2_with (fail)
  refine (HC5.out _).mono ?_
  rintro x w5 ⟨rfl, hb⟩
  have B5 := Lib.hid (below_trans' B4.out hb)
  have F5 := Lib.hid (F4.out.on hb)
  obtain ⟨⟨a0, a1, a2, a3⟩, ⟨b0, b1, b2, b3⟩, ⟨c0, c1, c2, c3⟩, ⟨d0, d1, d2, d3⟩, _, _⟩ := F5.out
  clear hb B4 F4 HC5
  have HC6 := Lib.hid (show ∀ u, Calls Try.prog 22 #[.agg #[.bool false, .int .u32 291], .bool true, .agg #[.bool true, .int .u32 76283904], .bool false] u fun x w' => x = .returned (.bool true) ∧ Below u.heap.size u w' from fun u => wins_any false 291 true true 76283904 false (by omega) (by omega) u)
  go_wp2_with (fail)
  refine (HC6.out _).mono ?_
  rintro x w6 ⟨rfl, hb⟩
  have B6 := Lib.hid (below_trans' B5.out hb)
  have F6 := Lib.hid (F5.out.on hb)
  obtain ⟨⟨a0, a1, a2, a3⟩, ⟨b0, b1, b2, b3⟩, ⟨c0, c1, c2, c3⟩, ⟨d0, d1, d2, d3⟩, _, _⟩ := F6.out
  clear hb B5 F5 HC6
  have HC7 := Lib.hid (show ∀ u, Calls Try.prog 22 #[.agg #[.bool true, .int .u32 76283904], .bool false, .agg #[.bool false, .int .u32 291], .bool false] u fun x w' => x = .returned (.bool false) ∧ Below u.heap.size u w' from fun u => wins_any true 76283904 false false 291 false (by omega) (by omega) u)
  go_wp2_with (fail)
  refine (HC7.out _).mono ?_
  rintro x w7 ⟨rfl, hb⟩
  have B7 := Lib.hid (below_trans' B6.out hb)
  have F7 := Lib.hid (F6.out.on hb)
  obtain ⟨⟨a0, a1, a2, a3⟩, ⟨b0, b1, b2, b3⟩, ⟨c0, c1, c2, c3⟩, ⟨d0, d1, d2, d3⟩, _, _⟩ := F7.out
  clear hb B6 F6 HC7
  have HC8 := Lib.hid (show ∀ u, Calls Try.prog 16 #[.agg #[.bool false, .int .u32 291], .bool false] u fun x w' => ∃ a c, x = .returned (.slice a 13 c) ∧ Below u.heap.size u w' from fun u => (idbits_any false 291 false (by omega) u).mono (by rintro x w' ⟨v, rfl, ho, hb⟩; obtain ⟨a, c, rfl⟩ := ho.shape; exact ⟨a, c, rfl, hb⟩))
  go_wp2_with (fail)
  refine (HC8.out _).mono ?_
  rintro x w8 ⟨a8, c8, rfl, hb⟩
  have B8 := Lib.hid (below_trans' B7.out hb)
  have F8 := Lib.hid (F7.out.on hb)
  obtain ⟨⟨a0, a1, a2, a3⟩, ⟨b0, b1, b2, b3⟩, ⟨c0, c1, c2, c3⟩, ⟨d0, d1, d2, d3⟩, _, _⟩ := F8.out
  clear hb B7 F7 HC8
  have HC9 := Lib.hid (show ∀ u, Calls Try.prog 16 #[.agg #[.bool true, .int .u32 76283904], .bool true] u fun x w' => ∃ a c, x = .returned (.slice a 32 c) ∧ Below u.heap.size u w' from fun u => (idbits_any true 76283904 true (by omega) u).mono (by rintro x w' ⟨v, rfl, ho, hb⟩; obtain ⟨a, c, rfl⟩ := ho.shape; exact ⟨a, c, rfl, hb⟩))
  go_wp2_with (fail)
  refine (HC9.out _).mono ?_
  rintro x w9 ⟨a9, c9, rfl, hb⟩
  have B9 := Lib.hid (below_trans' B8.out hb)
  have F9 := Lib.hid (F8.out.on hb)
  obtain ⟨⟨a0, a1, a2, a3⟩, ⟨b0, b1, b2, b3⟩, ⟨c0, c1, c2, c3⟩, ⟨d0, d1, d2, d3⟩, _, _⟩ := F9.out
  clear hb B8 F8 HC9
  have HC10 := Lib.hid (show ∀ u, Calls Try.prog 20 #[.agg #[.bool true, .int .u32 76283904]] u fun x w' => x = .returned (.string ⟨#[48, 52, 56, 99, 48, 48, 48, 48]⟩) ∧ Below u.heap.size u w' from fun u => (idtext_any true 76283904 u).mono (by
    rintro x w' ⟨t, rfl, ht, hb⟩
    have e : t = ⟨#[48, 52, 56, 99, 48, 48, 48, 48]⟩ := tx_inj (by rw [ht]; decide)
    exact ⟨by rw [e], hb⟩))
  go_wp2_with (fail)
  refine (HC10.out _).mono ?_
  rintro x w10 ⟨rfl, hb⟩
  have B10 := Lib.hid (below_trans' B9.out hb)
  have F10 := Lib.hid (F9.out.on hb)
  obtain ⟨⟨a0, a1, a2, a3⟩, ⟨b0, b1, b2, b3⟩, ⟨c0, c1, c2, c3⟩, ⟨d0, d1, d2, d3⟩, _, _⟩ := F10.out
  clear hb B9 F9 HC10
  go_wp2_with (fail)
  go_ret
  exact ⟨rfl, B10.out⟩
end Go.Proofs.Ytodeaddmachcjaa
