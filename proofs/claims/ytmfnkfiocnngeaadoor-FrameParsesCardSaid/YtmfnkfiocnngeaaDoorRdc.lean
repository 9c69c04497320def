/- The texts of two frames: 123#0a, and 123?3. No conditions. -/
import Derived.Test.YtmfnkfiocnngeaaDoorRde
import Derived.Test.YtmfnkfiocnngeaaDoorShelf
import Derived.Test.YtmfnkfiocnngeaaDoorFca
import Derived.Test.YtmfnkfiocnngeaaDoorBat
import Derived.Deep.DeepCutAuto
namespace Go.Proofs.YtmfnkfiocnngeaaDoor
open Go.RowKit Go.Shelf
theorem tx_eq {s t : ByteArray} (h : tx s = tx t) : s = t := by
  have inj : ∀ (l m : List UInt8), l.map UInt8.toNat = m.map UInt8.toNat → l = m := by
    intro l
    induction l with
    | nil => intro m h; cases m with
      | nil => rfl
      | cons => cases h
    | cons a l ih => intro m h; cases m with
      | nil => cases h
      | cons b m =>
        simp only [List.map_cons, List.cons.injEq] at h
        rw [UInt8.toNat_inj.1 h.1, ih m h.2]
  have h2 := inj _ _ h
  cases s with | mk a => cases t with | mk b =>
  congr 1
  exact Array.toList_inj.1 h2
theorem idt291 (w : World) : Calls Tryd.prog 58 #[.agg #[.bool false, .int .u32 291]] w fun y w' => y = .returned (.string ⟨#[49, 50, 51]⟩) ∧ Below w.heap.size w w' := by
  refine (idtext_any false 291 w).mono ?_
  rintro y w' ⟨t, rfl, ht, hb⟩
  have : t = ⟨#[49, 50, 51]⟩ := tx_eq (by rw [ht]; decide)
  rw [this]
  exact ⟨rfl, hb⟩
theorem itoa3 (w : World) : Calls Tryd.prog 59 #[.int .i64 3] w fun y w' => y = .returned (.string ⟨#[51]⟩) ∧ w' = w := by
  have h := Tryd.strconv_Itoa_small 3 (by decide) w
  rw [show (Lib.decDigits 3).toArray = #[51] by first | rfl | decide | kernel_rfl] at h
  exact h
set_option maxRecDepth 100000 in
set_option maxHeartbeats 4000000 in
theorem textR (w : World) : Calls Tryd.prog 19 #[.agg #[.bool false, .int .u32 291, .bool true, .int .i64 3, .int .u8 0, .int .u8 0, .int .u8 0, .int .u8 0, .int .u8 0, .int .u8 0, .int .u8 0, .int .u8 0]] w fun y w' => y = .returned (.string ⟨#[49, 50, 51, 63, 51]⟩) ∧ Below w.heap.size w w' := by
  have HR := Lib.hid (fun u => frameRight_any false 291 true 3 [0, 0, 0, 0, 0, 0, 0, 0] rfl u)
  have HC := Lib.hid (FrameAt.new w 27 false 291 true 3 [0, 0, 0, 0, 0, 0, 0, 0] rfl)
  rw [show rightF false 291 true 3 [0, 0, 0, 0, 0, 0, 0, 0] = 0 by decide] at HR
  simp only [frameV, frameC, List.map] at HC HR
  obtain ⟨p0, p1, p2, p3, p4, p5, p6, p7, p8, p9, p10, p11⟩ := HC.out.cells
  go_enter Tryd.func19, Tryd.ntmps19
  go_wp2_with fail
  refine (HR.out _).mono ?_
  rintro y w1 ⟨rfl, hb⟩
  have HF1 := Lib.hid (FrameAt.keep HC.out hb (by simp))
  have HB1 := Lib.hid (below_trans' ((Below.refl _ w).alloc (Nat.le_refl _) _) hb)
  have HS1 := Lib.hid (show w.heap.size < w1.heap.size by have := hb.size; simp at this; omega)
  clear hb p0 p1 p2 p3 p4 p5 p6 p7 p8 p9 p10 p11
  obtain ⟨p0, p1, p2, p3, p4, p5, p6, p7, p8, p9, p10, p11⟩ := HF1.out.cells
  go_upto_region 4 with fail
  obtain ⟨W1, hW1⟩ : ∃ W1, W1 = w1 := ⟨_, rfl⟩
  rw [← hW1] at HF1 HB1 HS1 ⊢
  clear hW1 p0 p1 p2 p3 p4 p5 p6 p7 p8 p9 p10 p11
  have HZ := Lib.hid (show ∀ u, Below W1.heap.size W1 u → (Below W1.heap.size W1 u ∧ u.cell? ⟨w.heap.size, 0, none⟩ = some (.bool false) ∧ u.cell? ⟨w.heap.size, 1, none⟩ = some (.int .u32 291) ∧ u.cell? ⟨w.heap.size, 2, none⟩ = some (.bool true) ∧ u.cell? ⟨w.heap.size, 3, none⟩ = some (.int .i64 3) ∧ u.cell? ⟨w.heap.size, 4, none⟩ = some (.int .u8 0) ∧ u.cell? ⟨w.heap.size, 5, none⟩ = some (.int .u8 0) ∧ u.cell? ⟨w.heap.size, 6, none⟩ = some (.int .u8 0) ∧ u.cell? ⟨w.heap.size, 7, none⟩ = some (.int .u8 0) ∧ u.cell? ⟨w.heap.size, 8, none⟩ = some (.int .u8 0) ∧ u.cell? ⟨w.heap.size, 9, none⟩ = some (.int .u8 0) ∧ u.cell? ⟨w.heap.size, 10, none⟩ = some (.int .u8 0) ∧ u.cell? ⟨w.heap.size, 11, none⟩ = some (.int .u8 0)) from fun u hu => by
    obtain ⟨p0, p1, p2, p3, p4, p5, p6, p7, p8, p9, p10, p11⟩ := (HF1.out.keep hu HS1.out).cells
    exact ⟨hu, p0, p1, p2, p3, p4, p5, p6, p7, p8, p9, p10, p11⟩)
  have HZA := Lib.hid (show ∀ u o, (Below W1.heap.size W1 u ∧ u.cell? ⟨w.heap.size, 0, none⟩ = some (.bool false) ∧ u.cell? ⟨w.heap.size, 1, none⟩ = some (.int .u32 291) ∧ u.cell? ⟨w.heap.size, 2, none⟩ = some (.bool true) ∧ u.cell? ⟨w.heap.size, 3, none⟩ = some (.int .i64 3) ∧ u.cell? ⟨w.heap.size, 4, none⟩ = some (.int .u8 0) ∧ u.cell? ⟨w.heap.size, 5, none⟩ = some (.int .u8 0) ∧ u.cell? ⟨w.heap.size, 6, none⟩ = some (.int .u8 0) ∧ u.cell? ⟨w.heap.size, 7, none⟩ = some (.int .u8 0) ∧ u.cell? ⟨w.heap.size, 8, none⟩ = some (.int .u8 0) ∧ u.cell? ⟨w.heap.size, 9, none⟩ = some (.int .u8 0) ∧ u.cell? ⟨w.heap.size, 10, none⟩ = some (.int .u8 0) ∧ u.cell? ⟨w.heap.size, 11, none⟩ = some (.int .u8 0)) → (Below W1.heap.size W1 (u.alloc o) ∧ (u.alloc o).cell? ⟨w.heap.size, 0, none⟩ = some (.bool false) ∧ (u.alloc o).cell? ⟨w.heap.size, 1, none⟩ = some (.int .u32 291) ∧ (u.alloc o).cell? ⟨w.heap.size, 2, none⟩ = some (.bool true) ∧ (u.alloc o).cell? ⟨w.heap.size, 3, none⟩ = some (.int .i64 3) ∧ (u.alloc o).cell? ⟨w.heap.size, 4, none⟩ = some (.int .u8 0) ∧ (u.alloc o).cell? ⟨w.heap.size, 5, none⟩ = some (.int .u8 0) ∧ (u.alloc o).cell? ⟨w.heap.size, 6, none⟩ = some (.int .u8 0) ∧ (u.alloc o).cell? ⟨w.heap.size, 7, none⟩ = some (.int .u8 0) ∧ (u.alloc o).cell? ⟨w.heap.size, 8, none⟩ = some (.int .u8 0) ∧ (u.alloc o).cell? ⟨w.heap.size, 9, none⟩ = some (.int .u8 0) ∧ (u.alloc o).cell? ⟨w.heap.size, 10, none⟩ = some (.int .u8 0) ∧ (u.alloc o).cell? ⟨w.heap.size, 11, none⟩ = some (.int .u8 0)) from fun u o h => HZ.out _ (h.1.alloc h.1.size o))
  have HZD := Lib.hid (show ∀ u, (Below W1.heap.size W1 u ∧ u.cell? ⟨w.heap.size, 0, none⟩ = some (.bool false) ∧ u.cell? ⟨w.heap.size, 1, none⟩ = some (.int .u32 291) ∧ u.cell? ⟨w.heap.size, 2, none⟩ = some (.bool true) ∧ u.cell? ⟨w.heap.size, 3, none⟩ = some (.int .i64 3) ∧ u.cell? ⟨w.heap.size, 4, none⟩ = some (.int .u8 0) ∧ u.cell? ⟨w.heap.size, 5, none⟩ = some (.int .u8 0) ∧ u.cell? ⟨w.heap.size, 6, none⟩ = some (.int .u8 0) ∧ u.cell? ⟨w.heap.size, 7, none⟩ = some (.int .u8 0) ∧ u.cell? ⟨w.heap.size, 8, none⟩ = some (.int .u8 0) ∧ u.cell? ⟨w.heap.size, 9, none⟩ = some (.int .u8 0) ∧ u.cell? ⟨w.heap.size, 10, none⟩ = some (.int .u8 0) ∧ u.cell? ⟨w.heap.size, 11, none⟩ = some (.int .u8 0)) → (Below W1.heap.size W1 u.drew ∧ u.drew.cell? ⟨w.heap.size, 0, none⟩ = some (.bool false) ∧ u.drew.cell? ⟨w.heap.size, 1, none⟩ = some (.int .u32 291) ∧ u.drew.cell? ⟨w.heap.size, 2, none⟩ = some (.bool true) ∧ u.drew.cell? ⟨w.heap.size, 3, none⟩ = some (.int .i64 3) ∧ u.drew.cell? ⟨w.heap.size, 4, none⟩ = some (.int .u8 0) ∧ u.drew.cell? ⟨w.heap.size, 5, none⟩ = some (.int .u8 0) ∧ u.drew.cell? ⟨w.heap.size, 6, none⟩ = some (.int .u8 0) ∧ u.drew.cell? ⟨w.heap.size, 7, none⟩ = some (.int .u8 0) ∧ u.drew.cell? ⟨w.heap.size, 8, none⟩ = some (.int .u8 0) ∧ u.drew.cell? ⟨w.heap.size, 9, none⟩ = some (.int .u8 0) ∧ u.drew.cell? ⟨w.heap.size, 10, none⟩ = some (.int .u8 0) ∧ u.drew.cell? ⟨w.heap.size, 11, none⟩ = some (.int .u8 0)) from fun u h => HZ.out _ h.1.drew)
  have HZC := Lib.hid (show ∀ u u', (Below W1.heap.size W1 u ∧ u.cell? ⟨w.heap.size, 0, none⟩ = some (.bool false) ∧ u.cell? ⟨w.heap.size, 1, none⟩ = some (.int .u32 291) ∧ u.cell? ⟨w.heap.size, 2, none⟩ = some (.bool true) ∧ u.cell? ⟨w.heap.size, 3, none⟩ = some (.int .i64 3) ∧ u.cell? ⟨w.heap.size, 4, none⟩ = some (.int .u8 0) ∧ u.cell? ⟨w.heap.size, 5, none⟩ = some (.int .u8 0) ∧ u.cell? ⟨w.heap.size, 6, none⟩ = some (.int .u8 0) ∧ u.cell? ⟨w.heap.size, 7, none⟩ = some (.int .u8 0) ∧ u.cell? ⟨w.heap.size, 8, none⟩ = some (.int .u8 0) ∧ u.cell? ⟨w.heap.size, 9, none⟩ = some (.int .u8 0) ∧ u.cell? ⟨w.heap.size, 10, none⟩ = some (.int .u8 0) ∧ u.cell? ⟨w.heap.size, 11, none⟩ = some (.int .u8 0)) → Below u.heap.size u u' → (Below W1.heap.size W1 u' ∧ u'.cell? ⟨w.heap.size, 0, none⟩ = some (.bool false) ∧ u'.cell? ⟨w.heap.size, 1, none⟩ = some (.int .u32 291) ∧ u'.cell? ⟨w.heap.size, 2, none⟩ = some (.bool true) ∧ u'.cell? ⟨w.heap.size, 3, none⟩ = some (.int .i64 3) ∧ u'.cell? ⟨w.heap.size, 4, none⟩ = some (.int .u8 0) ∧ u'.cell? ⟨w.heap.size, 5, none⟩ = some (.int .u8 0) ∧ u'.cell? ⟨w.heap.size, 6, none⟩ = some (.int .u8 0) ∧ u'.cell? ⟨w.heap.size, 7, none⟩ = some (.int .u8 0) ∧ u'.cell? ⟨w.heap.size, 8, none⟩ = some (.int .u8 0) ∧ u'.cell? ⟨w.heap.size, 9, none⟩ = some (.int .u8 0) ∧ u'.cell? ⟨w.heap.size, 10, none⟩ = some (.int .u8 0) ∧ u'.cell? ⟨w.heap.size, 11, none⟩ = some (.int .u8 0)) from fun u u' h hb => HZ.out _ (h.1.trans (hb.mono h.1.size)))
  have K1 := Lib.hid (show ∀ u, (Below W1.heap.size W1 u ∧ u.cell? ⟨w.heap.size, 0, none⟩ = some (.bool false) ∧ u.cell? ⟨w.heap.size, 1, none⟩ = some (.int .u32 291) ∧ u.cell? ⟨w.heap.size, 2, none⟩ = some (.bool true) ∧ u.cell? ⟨w.heap.size, 3, none⟩ = some (.int .i64 3) ∧ u.cell? ⟨w.heap.size, 4, none⟩ = some (.int .u8 0) ∧ u.cell? ⟨w.heap.size, 5, none⟩ = some (.int .u8 0) ∧ u.cell? ⟨w.heap.size, 6, none⟩ = some (.int .u8 0) ∧ u.cell? ⟨w.heap.size, 7, none⟩ = some (.int .u8 0) ∧ u.cell? ⟨w.heap.size, 8, none⟩ = some (.int .u8 0) ∧ u.cell? ⟨w.heap.size, 9, none⟩ = some (.int .u8 0) ∧ u.cell? ⟨w.heap.size, 10, none⟩ = some (.int .u8 0) ∧ u.cell? ⟨w.heap.size, 11, none⟩ = some (.int .u8 0)) → Calls Tryd.prog 58 #[.agg #[.bool false, .int .u32 291]] u fun y w' => y = .returned (.string ⟨#[49, 50, 51]⟩) ∧ (Below W1.heap.size W1 w' ∧ w'.cell? ⟨w.heap.size, 0, none⟩ = some (.bool false) ∧ w'.cell? ⟨w.heap.size, 1, none⟩ = some (.int .u32 291) ∧ w'.cell? ⟨w.heap.size, 2, none⟩ = some (.bool true) ∧ w'.cell? ⟨w.heap.size, 3, none⟩ = some (.int .i64 3) ∧ w'.cell? ⟨w.heap.size, 4, none⟩ = some (.int .u8 0) ∧ w'.cell? ⟨w.heap.size, 5, none⟩ = some (.int .u8 0) ∧ w'.cell? ⟨w.heap.size, 6, none⟩ = some (.int .u8 0) ∧ w'.cell? ⟨w.heap.size, 7, none⟩ = some (.int .u8 0) ∧ w'.cell? ⟨w.heap.size, 8, none⟩ = some (.int .u8 0) ∧ w'.cell? ⟨w.heap.size, 9, none⟩ = some (.int .u8 0) ∧ w'.cell? ⟨w.heap.size, 10, none⟩ = some (.int .u8 0) ∧ w'.cell? ⟨w.heap.size, 11, none⟩ = some (.int .u8 0)) from fun u hu => by
    refine (idt291 u).mono ?_
    rintro _ w' ⟨rfl, hb⟩
    exact ⟨rfl, HZC.out _ _ hu hb⟩)
  have K2 := Lib.hid (show ∀ u, (Below W1.heap.size W1 u ∧ u.cell? ⟨w.heap.size, 0, none⟩ = some (.bool false) ∧ u.cell? ⟨w.heap.size, 1, none⟩ = some (.int .u32 291) ∧ u.cell? ⟨w.heap.size, 2, none⟩ = some (.bool true) ∧ u.cell? ⟨w.heap.size, 3, none⟩ = some (.int .i64 3) ∧ u.cell? ⟨w.heap.size, 4, none⟩ = some (.int .u8 0) ∧ u.cell? ⟨w.heap.size, 5, none⟩ = some (.int .u8 0) ∧ u.cell? ⟨w.heap.size, 6, none⟩ = some (.int .u8 0) ∧ u.cell? ⟨w.heap.size, 7, none⟩ = some (.int .u8 0) ∧ u.cell? ⟨w.heap.size, 8, none⟩ = some (.int .u8 0) ∧ u.cell? ⟨w.heap.size, 9, none⟩ = some (.int .u8 0) ∧ u.cell? ⟨w.heap.size, 10, none⟩ = some (.int .u8 0) ∧ u.cell? ⟨w.heap.size, 11, none⟩ = some (.int .u8 0)) → Calls Tryd.prog 59 #[.int .i64 3] u fun y w' => y = .returned (.string ⟨#[51]⟩) ∧ (Below W1.heap.size W1 w' ∧ w'.cell? ⟨w.heap.size, 0, none⟩ = some (.bool false) ∧ w'.cell? ⟨w.heap.size, 1, none⟩ = some (.int .u32 291) ∧ w'.cell? ⟨w.heap.size, 2, none⟩ = some (.bool true) ∧ w'.cell? ⟨w.heap.size, 3, none⟩ = some (.int .i64 3) ∧ w'.cell? ⟨w.heap.size, 4, none⟩ = some (.int .u8 0) ∧ w'.cell? ⟨w.heap.size, 5, none⟩ = some (.int .u8 0) ∧ w'.cell? ⟨w.heap.size, 6, none⟩ = some (.int .u8 0) ∧ w'.cell? ⟨w.heap.size, 7, none⟩ = some (.int .u8 0) ∧ w'.cell? ⟨w.heap.size, 8, none⟩ = some (.int .u8 0) ∧ w'.cell? ⟨w.heap.size, 9, none⟩ = some (.int .u8 0) ∧ w'.cell? ⟨w.heap.size, 10, none⟩ = some (.int .u8 0) ∧ w'.cell? ⟨w.heap.size, 11, none⟩ = some (.int .u8 0)) from fun u hu => by
    refine (itoa3 u).mono ?_
    rintro _ w' ⟨rfl, rfl⟩
    exact ⟨rfl, hu⟩)
  obtain ⟨_, p0, p1, p2, p3, p4, p5, p6, p7, p8, p9, p10, p11⟩ := HZ.out _ (Below.refl _ _)
  have z1 := HZ.out _ (Below.refl _ _).drew
  go_cut [2] (fun s2 wy => s2 = .string ⟨#[49, 50, 51, 63, 51]⟩ ∧ Below W1.heap.size W1 wy)
  case first =>
    go_region_held3 (fun u => (Below W1.heap.size W1 u ∧ u.cell? ⟨w.heap.size, 0, none⟩ = some (.bool false) ∧ u.cell? ⟨w.heap.size, 1, none⟩ = some (.int .u32 291) ∧ u.cell? ⟨w.heap.size, 2, none⟩ = some (.bool true) ∧ u.cell? ⟨w.heap.size, 3, none⟩ = some (.int .i64 3) ∧ u.cell? ⟨w.heap.size, 4, none⟩ = some (.int .u8 0) ∧ u.cell? ⟨w.heap.size, 5, none⟩ = some (.int .u8 0) ∧ u.cell? ⟨w.heap.size, 6, none⟩ = some (.int .u8 0) ∧ u.cell? ⟨w.heap.size, 7, none⟩ = some (.int .u8 0) ∧ u.cell? ⟨w.heap.size, 8, none⟩ = some (.int .u8 0) ∧ u.cell? ⟨w.heap.size, 9, none⟩ = some (.int .u8 0) ∧ u.cell? ⟨w.heap.size, 10, none⟩ = some (.int .u8 0) ∧ u.cell? ⟨w.heap.size, 11, none⟩ = some (.int .u8 0))) (repeat (first | (with_reducible assumption) | (with_reducible refine HZA.out _ _ ?_) | (with_reducible refine HZD.out _ ?_))) (first | (go_at_call 58; refine (K1.out _ (by repeat (first | (with_reducible assumption) | (with_reducible refine HZA.out _ _ ?_) | (with_reducible refine HZD.out _ ?_)))).mono ?_; rintro y3 v3 ⟨rfl, h3S⟩) | (go_at_call 59; refine (K2.out _ (by repeat (first | (with_reducible assumption) | (with_reducible refine HZA.out _ _ ?_) | (with_reducible refine HZD.out _ ?_)))).mono ?_; rintro y4 v4 ⟨rfl, h4S⟩))
    all_goals (go_wp2_with fail; go_meet)
    all_goals exact ⟨congrArg Value.string (by first | rfl | decide | kernel_rfl), h4S.1⟩
  case rest =>
  obtain ⟨rfl, hbz⟩ := hcut
  go_wp2_with fail
  go_ret
  exact ⟨rfl, HB1.out.trans (hbz.mono HB1.out.size)⟩
set_option maxRecDepth 100000 in
set_option maxHeartbeats 4000000 in
theorem text0 (w : World) : Calls Tryd.prog 19 #[.agg #[.bool false, .int .u32 291, .bool false, .int .i64 1, .int .u8 10, .int .u8 0, .int .u8 0, .int .u8 0, .int .u8 0, .int .u8 0, .int .u8 0, .int .u8 0]] w fun y w' => y = .returned (.string ⟨#[49, 50, 51, 35, 48, 97]⟩) ∧ Below w.heap.size w w' := by
  have HR := Lib.hid (fun u => frameRight_any false 291 false 1 [10, 0, 0, 0, 0, 0, 0, 0] rfl u)
  have HC := Lib.hid (FrameAt.new w 27 false 291 false 1 [10, 0, 0, 0, 0, 0, 0, 0] rfl)
  rw [show rightF false 291 false 1 [10, 0, 0, 0, 0, 0, 0, 0] = 0 by decide] at HR
  simp only [frameV, frameC, List.map] at HC HR
  obtain ⟨p0, p1, p2, p3, p4, p5, p6, p7, p8, p9, p10, p11⟩ := HC.out.cells
  go_enter Tryd.func19, Tryd.ntmps19
  go_wp2_with fail
  refine (HR.out _).mono ?_
  rintro y w1 ⟨rfl, hb⟩
  have HF1 := Lib.hid (FrameAt.keep HC.out hb (by simp))
  have HB1 := Lib.hid (below_trans' ((Below.refl _ w).alloc (Nat.le_refl _) _) hb)
  have HS1 := Lib.hid (show w.heap.size < w1.heap.size by have := hb.size; simp at this; omega)
  clear hb p0 p1 p2 p3 p4 p5 p6 p7 p8 p9 p10 p11
  obtain ⟨p0, p1, p2, p3, p4, p5, p6, p7, p8, p9, p10, p11⟩ := HF1.out.cells
  go_wp2_with fail
  refine (idt291 _).mono ?_
  rintro y w2 ⟨rfl, hb⟩
  have HF2 := Lib.hid (HF1.out.keep hb HS1.out)
  have HB2 := Lib.hid (below_trans' HB1.out hb)
  have HS2 := Lib.hid (show w.heap.size < w2.heap.size by have := hb.size; have := HS1.out; omega)
  clear hb p0 p1 p2 p3 p4 p5 p6 p7 p8 p9 p10 p11
  obtain ⟨p0, p1, p2, p3, p4, p5, p6, p7, p8, p9, p10, p11⟩ := HF2.out.cells
  have hap : (⟨#[49, 50, 51]⟩ ++ ⟨#[35]⟩ : ByteArray) = ⟨#[49, 50, 51, 35]⟩ := by first | rfl | decide | kernel_rfl
  have hcv : ∀ u : World, Sem.run Tryd.prog (convert 9 34 (.string ⟨#[49, 50, 51, 35]⟩)) u = _ := fun u => run_bytes_of_string (P := Tryd.prog) u 9 34 5 ⟨#[49, 50, 51, 35]⟩ (by kernel_rfl) (by kernel_rfl) (by kernel_rfl)
  go_upto_region 6 with fail
  obtain ⟨cp, hcp⟩ : ∃ cp, cp = grownCap w2 4 0 5 := ⟨_, rfl⟩
  rw [← hcp]
  obtain ⟨X, hX⟩ : ∃ X, X = (w2.alloc (.cells (bytesRow ⟨#[49, 50, 51, 35]⟩ cp) 5 ((bytesRow ⟨#[49, 50, 51, 35]⟩ cp).size, (bytesRow ⟨#[49, 50, 51, 35]⟩ cp).size + 1))).drew := ⟨_, rfl⟩
  have hbx : Below w2.heap.size w2 X := by rw [hX]; exact ((Below.refl _ w2).alloc (Nat.le_refl _) _).drew
  obtain ⟨b, hb⟩ : ∃ b, b = w2.heap.size := ⟨_, rfl⟩
  have HOLD := Lib.hid (show ∀ j u, [Value.int .u8 49, .int .u8 50, .int .u8 51, .int .u8 35][j]? = some u → X.cell? ⟨b, j, none⟩ = some u from fun j u hj => by
    rw [hX, hb]
    have h4 := (List.getElem?_eq_some_iff.1 hj).1
    refine (World.cell?_alloc_mark w2 _ _ _ j).trans ?_
    rw [bytesRow_at _ _ j (by simpa using h4), ← hj]
    obtain rfl | rfl | rfl | rfl : j = 0 ∨ j = 1 ∨ j = 2 ∨ j = 3 := by simp at h4; omega
    all_goals rfl)
  have HSP := Lib.hid (show 4 + 2 ≤ cp → ∀ j, j < 2 → (X.cell? ⟨b, 4 + j, none⟩).isSome = true ∧ X.frozen? ⟨b, 4 + j, none⟩ = false from fun hc j hj => by
    have hsz : (bytesRow ⟨#[49, 50, 51, 35]⟩ cp).size = cp := by
      unfold bytesRow
      rw [Array.size_append, Array.size_map, Array.size_replicate]
      show 4 + (cp - 4) = cp
      omega
    rw [hX, hb]
    refine ⟨?_, ?_⟩
    · have h := World.cell?_alloc_mark w2 (bytesRow ⟨#[49, 50, 51, 35]⟩ cp) 5 ((bytesRow ⟨#[49, 50, 51, 35]⟩ cp).size, (bytesRow ⟨#[49, 50, 51, 35]⟩ cp).size + 1) (4 + j)
      show ((w2.alloc _).cell? _).isSome = true
      rw [h, Array.getElem?_eq_getElem (by omega)]
      rfl
    · have h := World.frozen?_alloc_mark w2 (bytesRow ⟨#[49, 50, 51, 35]⟩ cp) 5 (bytesRow ⟨#[49, 50, 51, 35]⟩ cp).size ((bytesRow ⟨#[49, 50, 51, 35]⟩ cp).size + 1) (4 + j)
      show (w2.alloc _).frozen? _ = false
      rw [h, decide_eq_false (by omega)]
      rfl)
  rw [← hX, ← hb]
  have HX := Lib.hid hbx
  have HBS := Lib.hid (show b < X.heap.size by
    rw [hX, hb]
    show w2.heap.size < (w2.heap.push _).size
    rw [Array.size_push]
    omega)
  have HF3 := Lib.hid (HF2.out.keep hbx HS2.out)
  have HBW := Lib.hid hb
  clear hX hcp hbx hb hcv hap p0 p1 p2 p3 p4 p5 p6 p7 p8 p9 p10 p11
  obtain ⟨p0, p1, p2, p3, p4, p5, p6, p7, p8, p9, p10, p11⟩ := HF3.out.cells
  obtain ⟨i0, hi, hz0, hz1, hz2⟩ := info_parts info_u8
  have HALL := Lib.hid (show ∀ u, Below X.heap.size X u → (∀ j v, [Value.int .u8 49, .int .u8 50, .int .u8 51, .int .u8 35][j]? = some v → u.cell? ⟨b, j, none⟩ = some v) ∧ (4 + 2 ≤ cp → ∀ j, j < 2 → (u.cell? ⟨b, 4 + j, none⟩).isSome = true ∧ u.frozen? ⟨b, 4 + j, none⟩ = false) from fun u hu =>
    ⟨fun j v hj => (hu.cell (p := ⟨b, j, none⟩) HBS.out).trans (HOLD.out j v hj), fun hc j hj => by
      rw [hu.cell (p := ⟨b, 4 + j, none⟩) HBS.out, hu.frozen (p := ⟨b, 4 + j, none⟩) HBS.out]
      exact HSP.out hc j hj⟩)
  go_wp2_with fail
  clear p0 p1 p2 p3 p4 p5 p6 p7 p8 p9 p10 p11
  go_loopw [3, 29] (fun tv i wr => (i = .int .i64 0 ∧ tv = .slice (some ⟨b, 0, none⟩) 4 cp ∧ X = wr) ∨ (∃ g c', i = .int .i64 1 ∧ tv = .slice (some ⟨g, 0, none⟩) 6 c' ∧ (∀ j u, [Value.int .u8 49, .int .u8 50, .int .u8 51, .int .u8 35, .int .u8 48, .int .u8 97][j]? = some u → wr.cell? ⟨g, j, none⟩ = some u) ∧ Below w2.heap.size w2 wr)) (fun _ i _ => 1 - (intOf i).toNat)
  case atStart => exact .inl ⟨rfl, rfl, rfl⟩
  case round =>
    rcases hrel with ⟨rfl, rfl, rfl⟩ | ⟨g, c', rfl, rfl, hc, hbw⟩
    · have p4 := HF3.out.cells.2.2.2.2.1
      have hand : bits BinOp.and IntKind.u8 10 15 = 10 := by first | rfl | decide | kernel_rfl
      go_upto_region 9 with fail
      go_region_law (refine step_append_came _ rfl _ _ 34 rfl 5 i0 (.int .u8 0) Tryd.underlying34 hi hz0 hz1 hz2 b 4 cp [.int .u8 49, .int .u8 50, .int .u8 51, .int .u8 35] [.int .u8 48, .int .u8 97] rfl ⟨X.heap.size, 0, none⟩ 2 2 rfl rfl rfl (HALL.out _ (by first | exact (Below.refl _ _).alloc (Nat.le_refl _) _ | exact ((Below.refl _ _).alloc (Nat.le_refl _) _).drew | exact (Below.refl _ _).drew.alloc (Nat.le_refl _) _)).1 (fun j u h => two_cell j u h) two_flat (HALL.out _ (by first | exact (Below.refl _ _).alloc (Nat.le_refl _) _ | exact ((Below.refl _ _).alloc (Nat.le_refl _) _).drew | exact (Below.refl _ _).drew.alloc (Nat.le_refl _) _)).2 (by have := HBS.out; simp; omega) (by omega) ?_; intro g c' w4 hc4 hb4)
      all_goals
        rw [HBW.out] at hb4
        have HB4 := Lib.hid ((HX.out.trans (Below.mono ((by first | exact (Below.refl X.heap.size X).alloc (Nat.le_refl _) _ | exact ((Below.refl X.heap.size X).alloc (Nat.le_refl _) _).drew | exact (Below.refl X.heap.size X).drew.alloc (Nat.le_refl _) _)) HX.out.size)).trans hb4)
        have HC4 := Lib.hid hc4
        clear hc4 hb4
        go_wp2_with fail
        go_roundw
        case rel => exact .inr ⟨g, c', rfl, rfl, HC4.out, HB4.out⟩
        case measure => simp [intOf]
    · have HC6 := Lib.hid hc; have HBB := Lib.hid hbw
      have hcv2 : Sem.run Tryd.prog (convert 34 9 (.slice (some ⟨g, 0, none⟩) 6 c')) wr = .ok (.string ⟨#[49, 50, 51, 35, 48, 97]⟩) wr := run_convert_bytes_back (P := Tryd.prog) wr 34 9 5 ⟨g, 0, none⟩ c' [49, 50, 51, 35, 48, 97] (by kernel_rfl) (by kernel_rfl) (by kernel_rfl) (fun j hj => by
        rw [Addr.add_lit, Nat.zero_add]
        refine HC6.out j _ ?_
        have h6 : j < 6 := hj
        obtain rfl | rfl | rfl | rfl | rfl | rfl : j = 0 ∨ j = 1 ∨ j = 2 ∨ j = 3 ∨ j = 4 ∨ j = 5 := by omega
        all_goals rfl)
      clear hc hbw
      go_wp2_with fail
      go_ret
      exact ⟨rfl, HB2.out.trans (HBB.out.mono HB2.out.size)⟩
end Go.Proofs.YtmfnkfiocnngeaaDoor
