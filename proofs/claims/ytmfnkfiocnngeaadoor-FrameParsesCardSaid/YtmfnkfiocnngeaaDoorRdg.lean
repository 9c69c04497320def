/- What must be whatever is asked, of package frame (live of layer 6). Conditions: the divisor's cells hold what the program's own text lays in them. -/
import Derived.Test.YtmfnkfiocnngeaaDoorRdf
import Derived.Test.YtmfnkfiocnngeaaDoorFcj
import Derived.Test.YtmfnkfiocnngeaaDoorWrl
namespace Go.Proofs.YtmfnkfiocnngeaaDoor
open Go.RowKit Go.Shelf
set_option maxRecDepth 100000 in
set_option maxHeartbeats 8000000 in
theorem live6 (w : World) (h0 : 1 < w.heap.size) (hT : Tab w) : Calls Tryd.prog 11 #[] w fun x w' => x = .returned (.bool true) ∧ Below w.heap.size w w' := by
  have hb8 : ∀ x ∈ ([10, 0, 0, 0, 0, 0, 0, 0] : List Nat), x < 256 := by decide
  have hpb := parse_body f0_right rfl hb8 []
  rw [List.append_nil] at hpb
  have hble := bodyB_le false 291 false 1 [10, 0, 0, 0, 0, 0, 0, 0]
  have hbl : (bodyB false 291 false 1 [10, 0, 0, 0, 0, 0, 0, 0]).length = 42 := by decide +kernel
  have hsz := size_body (e := false) (n := 291) (r := false) (len := 1) (data := [10, 0, 0, 0, 0, 0, 0, 0]) (by decide) (by decide) []
  rw [List.append_nil] at hsz
  rw [hbl] at hpb hsz
  have HBO := Lib.hid (fun u (hu : Below w.heap.size w u) => frameBody_yes false 291 (by omega) false 1 [10, 0, 0, 0, 0, 0, 0, 0] rfl hb8 f0_right u (Nat.lt_of_lt_of_le h0 hu.size) (hT.onB hu h0))
  obtain ⟨Bo, hBo⟩ : ∃ Bo, Bo = bodyB false 291 false 1 [10, 0, 0, 0, 0, 0, 0, 0] := ⟨_, rfl⟩
  rw [← hBo] at hpb hsz hble hbl HBO
  have HPA := Lib.hid (show ∀ u a cap, Below w.heap.size w u → Str u.heap.size u (.slice a 42 cap) Bo → Calls Tryd.prog 22 #[.slice a 42 cap] u fun x w' => x = .returned (.tuple #[.agg #[.bool false, .int .u32 291, .bool false, .int .i64 1, .int .u8 10, .int .u8 0, .int .u8 0, .int .u8 0, .int .u8 0, .int .u8 0, .int .u8 0, .int .u8 0], .int .i64 42, .int .i64 0]) ∧ Below u.heap.size u w' from fun u a cap hu hs => by
    have h := frameParse_any a 42 cap Bo (by omega) u (Nat.lt_of_lt_of_le h0 hu.size) (hT.onB hu h0) hs
    rw [bitsOf_self hble, hpb] at h
    exact h)
  have HPN := Lib.hid (show ∀ u, Below w.heap.size w u → Calls Tryd.prog 22 #[.slice none 0 0] u fun x w' => x = .returned (.tuple #[.agg #[.bool false, .int .u32 0, .bool false, .int .i64 0, .int .u8 0, .int .u8 0, .int .u8 0, .int .u8 0, .int .u8 0, .int .u8 0, .int .u8 0, .int .u8 0], .int .i64 0, .int .i64 2]) ∧ Below u.heap.size u w' from fun u hu => by
    have h := frameParse_any none 0 0 [] (by simp) u (Nat.lt_of_lt_of_le h0 hu.size) (hT.onB hu h0) (Ow.nil u.heap.size u).str
    rw [show parseB (bitsOf []) = .error 2 from rfl] at h
    exact h)
  have HSI := Lib.hid (show ∀ u a cap, Str u.heap.size u (.slice a 42 cap) Bo → Calls Tryd.prog 24 #[.slice a 42 cap] u fun x w' => x = .returned (.tuple #[.int .i64 42, .bool true]) ∧ Below u.heap.size u w' from fun u a cap hs => by
    have h := frameSize_any a 42 cap Bo (by omega) u hs
    rw [bitsOf_self hble, hsz] at h
    exact h)
  have HRI := Lib.hid (fun u => frameRight_any false 291 false 1 [10, 0, 0, 0, 0, 0, 0, 0] rfl u)
  rw [show rightF false 291 false 1 [10, 0, 0, 0, 0, 0, 0, 0] = 0 by decide] at HRI
  have HBL := Lib.hid hbl
  have HFA := Lib.hid (FrameAt.new w 27 false 291 false 1 [10, 0, 0, 0, 0, 0, 0, 0] rfl)
  have heq : ∀ u : World, Sem.run Tryd.prog (Op.equalIn 9999 25 (.agg #[.int .u8 10, .int .u8 0, .int .u8 0, .int .u8 0, .int .u8 0, .int .u8 0, .int .u8 0, .int .u8 0]) (.agg #[.int .u8 10, .int .u8 0, .int .u8 0, .int .u8 0, .int .u8 0, .int .u8 0, .int .u8 0, .int .u8 0])) u = .ok true u := fun u => frame_same 9997 10 0 0 0 0 0 0 0 u
  simp only [frameV, frameC, List.map] at HFA HBO HRI
  obtain ⟨p0, p1, p2, p3, p4, p5, p6, p7, p8, p9, p10, p11⟩ := HFA.out.cells
  clear hpb hsz hble hbl hBo h0 hT hb8
  go_enter Tryd.func11, Tryd.ntmps11
  go_wp2_with fail
  refine (HBO.out _ ((Below.refl _ w).alloc (Nat.le_refl _) _)).mono ?_
  rintro y w2 ⟨v, rfl, ho, hb⟩
  obtain ⟨a, cap, rfl⟩ := ho.shape
  rw [HBL.out] at ho ⊢
  have HB2 := Lib.hid (below_trans' ((Below.refl _ w).alloc (Nat.le_refl _) _) hb)
  have HF2 := Lib.hid (FrameAt.keep HFA.out hb (by simp))
  have HS2 := Lib.hid (show w.heap.size < w2.heap.size by have := hb.size; simp at this; omega)
  have HO2 := Lib.hid ho
  clear ho hb p0 p1 p2 p3 p4 p5 p6 p7 p8 p9 p10 p11
  go_wp2_with fail
  refine (HPA.out _ _ _ HB2.out HO2.out.str).mono ?_
  rintro y w3 ⟨rfl, hb⟩
  have HB3 := Lib.hid (below_trans' HB2.out hb); have HF3 := Lib.hid (HF2.out.keep hb HS2.out); have HO3 := Lib.hid (HO2.out.on hb)
  have HS3 := Lib.hid (show w.heap.size < w3.heap.size by have := hb.size; have := HS2.out; omega)
  obtain ⟨W4, hW4⟩ : ∃ W4, W4 = w3.alloc (.cells #[.bool false, .int .u32 291, .bool false, .int .i64 1, .int .u8 10, .int .u8 0, .int .u8 0, .int .u8 0, .int .u8 0, .int .u8 0, .int .u8 0, .int .u8 0] 27) := ⟨_, rfl⟩
  have ha4 : Below w3.heap.size w3 W4 := by rw [hW4]; exact (Below.refl _ _).alloc (Nat.le_refl _) _
  obtain ⟨BG, hBG⟩ : ∃ BG, BG = w3.heap.size := ⟨_, rfl⟩
  have HG4 := Lib.hid (show FrameAt W4 BG false 291 false 1 [10, 0, 0, 0, 0, 0, 0, 0] by rw [hW4, hBG]; exact FrameAt.new w3 27 false 291 false 1 [10, 0, 0, 0, 0, 0, 0, 0] rfl)
  have HB4 := Lib.hid (below_trans' HB3.out ha4); have HF4 := Lib.hid (HF3.out.keep ha4 HS3.out); have HO4 := Lib.hid (HO3.out.on ha4)
  have HS4 := Lib.hid (show w.heap.size < BG ∧ BG < W4.heap.size by rw [hW4, hBG]; simp; exact HS3.out)
  clear hb ha4
  go_upto_region 4 with fail
  rw [← hW4, ← hBG]
  clear hW4 hBG
  go_wp2_with fail
  refine (HSI.out _ _ _ HO4.out.str).mono ?_
  rintro y w5 ⟨rfl, hb⟩
  have HB5 := Lib.hid (below_trans' HB4.out hb); have HF5 := Lib.hid (HF4.out.keep hb (by have := HS4.out; omega)); have HG5 := Lib.hid (HG4.out.keep hb HS4.out.2)
  have HS5 := Lib.hid (show w.heap.size < w5.heap.size ∧ BG < w5.heap.size by have := hb.size; have := HS4.out; omega)
  clear hb
  go_wp2_with fail
  refine (read6 _).mono ?_
  rintro y w6 ⟨rfl, hb⟩
  have HB6 := Lib.hid (below_trans' HB5.out hb); have HF6 := Lib.hid (HF5.out.keep hb HS5.out.1); have HG6 := Lib.hid (HG5.out.keep hb HS5.out.2)
  have HS6 := Lib.hid (show w.heap.size < w6.heap.size ∧ BG < w6.heap.size by have := hb.size; have := HS5.out; omega)
  obtain ⟨W7, hW7⟩ : ∃ W7, W7 = w6.alloc (.cells #[.bool false, .int .u32 291, .bool false, .int .i64 1, .int .u8 10, .int .u8 0, .int .u8 0, .int .u8 0, .int .u8 0, .int .u8 0, .int .u8 0, .int .u8 0] 27) := ⟨_, rfl⟩
  have ha7 : Below w6.heap.size w6 W7 := by rw [hW7]; exact (Below.refl _ _).alloc (Nat.le_refl _) _
  obtain ⟨BX, hBX⟩ : ∃ BX, BX = w6.heap.size := ⟨_, rfl⟩
  have HX7 := Lib.hid (show FrameAt W7 BX false 291 false 1 [10, 0, 0, 0, 0, 0, 0, 0] by rw [hW7, hBX]; exact FrameAt.new w6 27 false 291 false 1 [10, 0, 0, 0, 0, 0, 0, 0] rfl)
  have HB7 := Lib.hid (below_trans' HB6.out ha7); have HF7 := Lib.hid (HF6.out.keep ha7 HS6.out.1); have HG7 := Lib.hid (HG6.out.keep ha7 HS6.out.2)
  have HS7 := Lib.hid (show w.heap.size < W7.heap.size ∧ BG < W7.heap.size ∧ BX < W7.heap.size by rw [hW7, hBX]; simp; have := HS6.out; omega)
  clear hb ha7
  go_upto_region 6 with fail
  rw [← hW7, ← hBX]
  clear hW7 hBX
  go_wp2_with fail
  refine (HPN.out _ HB7.out).mono ?_
  rintro y w8 ⟨rfl, hb⟩
  have HB8 := Lib.hid (below_trans' HB7.out hb); have HF8 := Lib.hid (HF7.out.keep hb HS7.out.1); have HG8 := Lib.hid (HG7.out.keep hb HS7.out.2.1); have HX8 := Lib.hid (HX7.out.keep hb HS7.out.2.2)
  have HS8 := Lib.hid (show w.heap.size < w8.heap.size ∧ BG < w8.heap.size ∧ BX < w8.heap.size by have := hb.size; have := HS7.out; omega)
  clear hb
  obtain ⟨W9, hW9⟩ : ∃ W9, W9 = w8.alloc (.cells #[.bool false, .int .u32 0, .bool false, .int .i64 0, .int .u8 0, .int .u8 0, .int .u8 0, .int .u8 0, .int .u8 0, .int .u8 0, .int .u8 0, .int .u8 0] 27) := ⟨_, rfl⟩
  have hb : Below w8.heap.size w8 W9 := by rw [hW9]; exact (Below.refl _ _).alloc (Nat.le_refl _) _
  have HB9 := Lib.hid (below_trans' HB8.out hb); have HF9 := Lib.hid (HF8.out.keep hb HS8.out.1); have HG9 := Lib.hid (HG8.out.keep hb HS8.out.2.1); have HX9 := Lib.hid (HX8.out.keep hb HS8.out.2.2)
  have HS9 := Lib.hid (show w.heap.size < W9.heap.size ∧ BG < W9.heap.size ∧ BX < W9.heap.size by have := hb.size; have := HS8.out; omega)
  clear hb
  go_upto_region 7 with fail
  rw [← hW9]
  clear hW9
  obtain ⟨p0, p1, p2, p3, p4, p5, p6, p7, p8, p9, p10, p11⟩ := HF9.out.cells
  go_wp2_with fail
  refine (HRI.out _).mono ?_
  rintro y wa ⟨rfl, hb⟩
  have HB10 := Lib.hid (below_trans' HB9.out hb); have HF10 := Lib.hid (HF9.out.keep hb HS9.out.1); have HG10 := Lib.hid (HG9.out.keep hb HS9.out.2.1); have HX10 := Lib.hid (HX9.out.keep hb HS9.out.2.2)
  have HS10 := Lib.hid (show w.heap.size < wa.heap.size ∧ BG < wa.heap.size ∧ BX < wa.heap.size by have := hb.size; have := HS9.out; omega)
  clear hb
  clear p0 p1 p2 p3 p4 p5 p6 p7 p8 p9 p10 p11
  obtain ⟨p0, p1, p2, p3, p4, p5, p6, p7, p8, p9, p10, p11⟩ := HF10.out.cells
  obtain ⟨o0, o1, o2, o3, o4, o5, o6, o7, o8, o9, o10, o11⟩ := HG10.out.cells
  go_wp2_with fail
  refine (text0 _).mono ?_
  rintro y wb ⟨rfl, hb⟩
  have HB11 := Lib.hid (below_trans' HB10.out hb); have HF11 := Lib.hid (HF10.out.keep hb HS10.out.1); have HG11 := Lib.hid (HG10.out.keep hb HS10.out.2.1); have HX11 := Lib.hid (HX10.out.keep hb HS10.out.2.2)
  have HS11 := Lib.hid (show w.heap.size < wb.heap.size ∧ BG < wb.heap.size ∧ BX < wb.heap.size by have := hb.size; have := HS10.out; omega)
  clear hb
  clear p0 p1 p2 p3 p4 p5 p6 p7 p8 p9 p10 p11 o0 o1 o2 o3 o4 o5 o6 o7 o8 o9 o10 o11
  obtain ⟨p0, p1, p2, p3, p4, p5, p6, p7, p8, p9, p10, p11⟩ := HF11.out.cells
  obtain ⟨o0, o1, o2, o3, o4, o5, o6, o7, o8, o9, o10, o11⟩ := HX11.out.cells
  have e6 : ((⟨#[49, 50, 51, 35, 48, 97]⟩ : ByteArray) == ⟨#[49, 50, 51, 35, 48, 97]⟩) = true := by first | rfl | decide | simp
  have e5 : ((⟨#[49, 50, 51, 63, 51]⟩ : ByteArray) == ⟨#[49, 50, 51, 63, 51]⟩) = true := by first | rfl | decide | simp
  go_wp2_with fail
  refine (textR _).mono ?_
  rintro y wc ⟨rfl, hb⟩
  have HB12 := Lib.hid (below_trans' HB11.out hb)
  clear hb
  go_wp2_with fail
  go_ret
  exact ⟨rfl, HB12.out⟩
end Go.Proofs.YtmfnkfiocnngeaaDoor
