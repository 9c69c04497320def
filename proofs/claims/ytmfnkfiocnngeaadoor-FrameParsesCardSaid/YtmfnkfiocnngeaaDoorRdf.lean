/- The text 123#0a is read as its frame. No conditions. -/
import Derived.Test.YtmfnkfiocnngeaaDoorRdc
namespace Go.Proofs.YtmfnkfiocnngeaaDoor
open Go.RowKit Go.Shelf
theorem idx6 (w : World) : Calls Tryd.prog 41 #[.string ⟨#[49, 50, 51, 35, 48, 97]⟩, .string ⟨#[63, 35]⟩] w fun y w' => y = .returned (.int .i64 3) ∧ Below w.heap.size w w' := by
  refine (Tryd.strings_IndexAny_short ⟨#[49, 50, 51, 35, 48, 97]⟩ ⟨#[63, 35]⟩ w (by decide) (by decide) (fun j b h => ?_)).mono ?_
  · have hlt := (List.getElem?_eq_some_iff.1 h).1
    have h6 : j < 6 := hlt
    obtain rfl | rfl | rfl | rfl | rfl | rfl : j = 0 ∨ j = 1 ∨ j = 2 ∨ j = 3 ∨ j = 4 ∨ j = 5 := by omega
    all_goals
      injection h with h
      rw [← h]
      decide
  · rintro y w' ⟨rfl, pos, rfl⟩
    exact ⟨rfl, (Below.refl _ w).alloc (Nat.le_refl _) _⟩
theorem idp3 (w : World) : Calls Tryd.prog 42 #[.string ⟨#[49, 50, 51]⟩] w fun y w' => y = .returned (.tuple #[.agg #[.bool false, .int .u32 291], .bool true]) ∧ Below w.heap.size w w' := by
  have h := idparse_any ⟨#[49, 50, 51]⟩ w
  rw [show idParse (tx ⟨#[49, 50, 51]⟩) = some (false, 291) by decide] at h
  exact h
set_option maxRecDepth 100000 in
set_option maxHeartbeats 4000000 in
theorem read6 (w : World) : Calls Tryd.prog 12 #[.string ⟨#[49, 50, 51, 35, 48, 97]⟩] w fun y w' => y = .returned (.tuple #[.agg #[.bool false, .int .u32 291, .bool false, .int .i64 1, .int .u8 10, .int .u8 0, .int .u8 0, .int .u8 0, .int .u8 0, .int .u8 0, .int .u8 0, .int .u8 0], .bool true]) ∧ Below w.heap.size w w' := by
  obtain ⟨W0, hW0⟩ : ∃ W0, W0 = w.alloc (.cells #[.bool false, .int .u32 0, .bool false, .int .i64 0, .int .u8 0, .int .u8 0, .int .u8 0, .int .u8 0, .int .u8 0, .int .u8 0, .int .u8 0, .int .u8 0] 27) := ⟨_, rfl⟩
  have HR0 := Lib.hid (show Blk W0 w.heap.size 27 [.bool false, .int .u32 0, .bool false, .int .i64 0, .int .u8 0, .int .u8 0, .int .u8 0, .int .u8 0, .int .u8 0, .int .u8 0, .int .u8 0, .int .u8 0] by rw [hW0]; exact Blk.new w _ _)
  have HB0 := Lib.hid (show Below w.heap.size w W0 by rw [hW0]; exact (Below.refl _ w).alloc (Nat.le_refl _) _)
  go_enter Tryd.func12, Tryd.ntmps12
  go_upto_region 1 with fail
  rw [← hW0]
  clear hW0
  go_wp2_with fail
  refine (idx6 _).mono ?_
  rintro y w1 ⟨rfl, hb⟩
  have HR1 := Lib.hid (HR0.out.keep hb HR0.out.lt); have HB1 := Lib.hid (below_trans' HB0.out hb)
  clear hb
  have hx1 : (⟨#[49, 50, 51, 35, 48, 97]⟩ : ByteArray).extract 0 3 = ⟨#[49, 50, 51]⟩ := by first | rfl | decide | kernel_rfl
  have hx2 : (⟨#[49, 50, 51, 35, 48, 97]⟩ : ByteArray).extract 4 6 = ⟨#[48, 97]⟩ := by first | rfl | decide | kernel_rfl
  have hx3 : (⟨#[49, 50, 51, 35, 48, 97]⟩ : ByteArray).extract 3 4 = ⟨#[35]⟩ := by first | rfl | decide | kernel_rfl
  go_wp2_with fail
  refine (idp3 _).mono ?_
  rintro y w2 ⟨rfl, hb⟩
  have HR2 := Lib.hid (HR1.out.keep hb HR1.out.lt); have HB2 := Lib.hid (below_trans' HB1.out hb)
  clear hb
  go_wp2_with fail
  have HFN := Lib.hid (FrameAt.new (w2.alloc (.cells #[.bool false, .int .u32 291] 24)) 27 false 291 false 0 [0, 0, 0, 0, 0, 0, 0, 0] rfl)
  simp only [frameC, List.map] at HFN
  refine (bytes0a _).mono ?_
  rintro y w3 ⟨rfl, hb⟩
  have HF3 := Lib.hid (FrameAt.keep HFN.out hb (by simp))
  have HB3 := Lib.hid (show Below w.heap.size w w3 from below_trans' ((HB2.out.alloc HB2.out.size _).alloc (by have := HB2.out.size; simp; omega) _) hb)
  have HR3 := Lib.hid (((HR2.out.keep ((Below.refl _ w2).alloc (Nat.le_refl _) _) HR2.out.lt).keep ((Below.refl _ _).alloc (Nat.le_refl _) _) (by simp; have := HR2.out.lt; omega)).keep hb (by simp; have := HR2.out.lt; omega))
  have HLT := Lib.hid (show w.heap.size < w2.heap.size from HR2.out.lt)
  have hbfs : w2.heap.size + 1 < w3.heap.size := by have := hb.size; simp at this; omega
  clear hb
  obtain ⟨BF, hBF⟩ : ∃ BF, BF = w2.heap.size + 1 := ⟨_, rfl⟩
  have hf3 := HF3.out
  rw [World.size_alloc, ← hBF] at hf3
  rw [← hBF] at hbfs
  have HBFS := Lib.hid hbfs
  have HF3 := Lib.hid hf3
  rw [← hBF]
  have HBF := Lib.hid hBF
  clear hf3 hBF hbfs
  obtain ⟨p0, p1, p2, p3, p4, p5, p6, p7, p8, p9, p10, p11⟩ := HF3.out.cells
  obtain ⟨r0, r1, r2, r3, r4, r5, r6, r7, r8, r9, r10, r11⟩ := HF3.out.frz
  have hne : BF ≠ w.heap.size := by have := HBF.out; have := HLT.out; omega
  obtain ⟨X9, hX9⟩ : ∃ X9, X9 = (((((((((w3.setCell ⟨BF, 3, none⟩ (.int .i64 1)).setCell ⟨BF, 4, none⟩ (.int .u8 10)).setCell ⟨BF, 5, none⟩ (.int .u8 0)).setCell ⟨BF, 6, none⟩ (.int .u8 0)).setCell ⟨BF, 7, none⟩ (.int .u8 0)).setCell ⟨BF, 8, none⟩ (.int .u8 0)).setCell ⟨BF, 9, none⟩ (.int .u8 0)).setCell ⟨BF, 10, none⟩ (.int .u8 0)).setCell ⟨BF, 11, none⟩ (.int .u8 0)) := ⟨_, rfl⟩
  have HF9 := Lib.hid (show FrameAt X9 BF false 291 false 1 [10, 0, 0, 0, 0, 0, 0, 0] by rw [hX9]; exact (((((((((HF3.out.setL 1).setD rfl 0 10 (by omega)).setD rfl 1 0 (by omega)).setD rfl 2 0 (by omega)).setD rfl 3 0 (by omega)).setD rfl 4 0 (by omega)).setD rfl 5 0 (by omega)).setD rfl 6 0 (by omega)).setD rfl 7 0 (by omega)))
  have HR9 := Lib.hid (show Blk X9 w.heap.size 27 [.bool false, .int .u32 0, .bool false, .int .i64 0, .int .u8 0, .int .u8 0, .int .u8 0, .int .u8 0, .int .u8 0, .int .u8 0, .int .u8 0, .int .u8 0] by rw [hX9]; exact (((((((((HR3.out.puts hne 3 _).puts hne 4 _).puts hne 5 _).puts hne 6 _).puts hne 7 _).puts hne 8 _).puts hne 9 _).puts hne 10 _).puts hne 11 _))
  have HB9 := Lib.hid (show Below w.heap.size w X9 by rw [hX9]; exact Go.below_setCells (show w.heap.size ≤ BF by have := HBF.out; have := HLT.out; omega) [.int .i64 1, .int .u8 10, .int .u8 0, .int .u8 0, .int .u8 0, .int .u8 0, .int .u8 0, .int .u8 0, .int .u8 0] 3 w3 HB3.out)
  have HS9 := Lib.hid (show BF < X9.heap.size by have h := HF3.out; rw [hX9]; simp only [setCell_size2]; exact HBFS.out)
  go_upto_region 10 with fail
  rw [← hX9]
  clear hX9 hne p0 p1 p2 p3 p4 p5 p6 p7 p8 p9 p10 p11 r0 r1 r2 r3 r4 r5 r6 r7 r8 r9 r10 r11
  obtain ⟨p0, p1, p2, p3, p4, p5, p6, p7, p8, p9, p10, p11⟩ := HF9.out.cells
  go_wp2_with fail
  refine (text0 _).mono ?_
  rintro y w4 ⟨rfl, hb⟩
  have HF4 := Lib.hid (HF9.out.keep hb HS9.out)
  have HR4 := Lib.hid (HR9.out.keep hb HR9.out.lt)
  have HB4 := Lib.hid (below_trans' HB9.out hb)
  clear hb p0 p1 p2 p3 p4 p5 p6 p7 p8 p9 p10 p11
  obtain ⟨p0, p1, p2, p3, p4, p5, p6, p7, p8, p9, p10, p11⟩ := HF4.out.cells
  obtain ⟨z0, z1, z2, z3, z4, z5, z6, z7, z8, z9, z10, z11⟩ := ((show Blk w4 w.heap.size 27 (frameC false 0 false 0 [0, 0, 0, 0, 0, 0, 0, 0]) from HR4.out).at rfl).cells
  obtain ⟨f0, f1, f2, f3, f4, f5, f6, f7, f8, f9, f10, f11⟩ := ((show Blk w4 w.heap.size 27 (frameC false 0 false 0 [0, 0, 0, 0, 0, 0, 0, 0]) from HR4.out).at rfl).frz
  have hcmp : ((⟨#[49, 50, 51, 35, 48, 97]⟩ : ByteArray) != ⟨#[49, 50, 51, 35, 48, 97]⟩) = false := by first | rfl | decide | simp
  go_wp2_with fail
  exact bodyPost_ret (v := .tuple #[.agg #[.bool false, .int .u32 291, .bool false, .int .i64 1, .int .u8 10, .int .u8 0, .int .u8 0, .int .u8 0, .int .u8 0, .int .u8 0, .int .u8 0, .int .u8 0], .bool true]) (by simp [results, Tryd.results12, go_sem, World.cell?_setCell_same', z0, z1, z2, z3, z4, z5, z6, z7, z8, z9, z10, z11]) rfl ⟨rfl, below12 (Nat.le_refl _) HB4.out _ _ _ _ _ _ _ _ _ _ _ _⟩
end Go.Proofs.YtmfnkfiocnngeaaDoor
