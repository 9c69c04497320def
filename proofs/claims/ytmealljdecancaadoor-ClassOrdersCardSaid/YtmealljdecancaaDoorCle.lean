/- live of layer 23. Conditions: the widths' four cells hold what the program lays in them. -/
import Derived.Test.YtmealljdecancaaDoorClt
import Derived.Test.YtmealljdecancaaDoorClc
import Derived.Test.YtmealljdecancaaDoorCld
namespace Go.Proofs.YtmealljdecancaaDoor
open Go.RowKit
theorem blk_at (w : World) (B : Nat) (hB : w.heap.size = B) (T : TypeId) (l : List Value) : Blk (w.alloc (.cells l.toArray T)) B T l := by
  subst hB; exact Blk.new w T l
theorem fld_slot (c s t n : Int) (u : World) : Sem.run Tryd.prog (Instr.field 24 (.agg #[.int .i64 c, .int .i64 s, .int .i64 t, .int .i64 n]) 1) u = .ok (.int .i64 s) u := by kernel_rfl
theorem of_l23 (u : World) (h0 : 0 < u.heap.size) (hT : TabW u) : Calls Tryd.prog 11 #[.agg #[.bool true, .int .u32 135792896]] u fun y w' => y = .returned (.tuple #[.agg #[.int .i64 1, .int .i64 3, .int .i64 9, .int .i64 0], .bool true]) ∧ Below u.heap.size u w' := by
  have h := clof_any true 135792896 (by decide) u h0 hT
  rw [show ofLV true 135792896 = .tuple #[.agg #[.int .i64 1, .int .i64 3, .int .i64 9, .int .i64 0], .bool true] by
    unfold ofLV
    rw [if_pos (by decide +kernel), show meantC 135792896 = 1 by decide +kernel, show meantS 135792896 = 3 by decide +kernel, show meantT 135792896 = 9 by decide +kernel, show meantN 135792896 = 0 by decide +kernel]] at h
  exact h
theorem id_l23 (u : World) (h0 : 0 < u.heap.size) (hT : TabW u) : Calls Tryd.prog 9 #[.agg #[.int .i64 1, .int .i64 3, .int .i64 9, .int .i64 0]] u fun y w' => y = .returned (.tuple #[.agg #[.bool true, .int .u32 135792896], .int .i64 0]) ∧ Below u.heap.size u w' := by
  have h := clid_yes 1 3 9 0 (by decide +kernel) u h0 hT
  rw [show numL 1 3 9 0 = 135792896 by decide +kernel] at h
  exact h
theorem least_l23 (u : World) (g : Nat) (hg : Blk u g 24 [.int .i64 1, .int .i64 4, .int .i64 0, .int .i64 0, .int .i64 1, .int .i64 3, .int .i64 9, .int .i64 0]) : Calls Tryd.prog 16 #[.slice (some ⟨g, 0, none⟩) 2 2] u fun y w' => y = .returned (.tuple #[.int .i64 1, .bool true]) ∧ Below u.heap.size u w' :=
  clleast_any (some ⟨g, 0, none⟩) 2 [⟨1, 4, 0, 0⟩, ⟨1, 3, 9, 0⟩] 2 rfl u (by decide) ⟨2, 2, _, rfl, rfl, Nat.le_refl _, by decide, .inr ⟨g, 0, rfl, hg.lt, fun i v hi => by
    have hlt := (List.getElem?_eq_some_iff.1 hi).1
    have h1 := hg.cellAt (i := i) hlt
    rw [Nat.zero_add, h1]
    rw [← hi, List.getElem?_eq_getElem hlt]
    rfl⟩⟩
set_option maxRecDepth 100000 in
set_option maxHeartbeats 4000000 in
theorem live23 (w : World) (h0 : 0 < w.heap.size) (hT : TabW w) : Calls Tryd.prog 13 #[] w fun y w' => y = .returned (.bool true) ∧ Below w.heap.size w w' := by
  have HT := Lib.hid hT
  clear hT
  have HI := Lib.hid id_l23; have HO := Lib.hid of_l23; have HN := Lib.hid (clid_no 0 0 0 0 (by decide +kernel)); have HL := Lib.hid least_l23
  have HB1' := Lib.hid (clbefore_any 1 3 9 0 1 4 0 0); have HB2' := Lib.hid (clbefore_any 1 4 0 0 1 3 9 0)
  rw [show befL 1 3 9 0 1 4 0 0 = true by decide +kernel] at HB1'
  rw [show befL 1 4 0 0 1 3 9 0 = false by decide +kernel] at HB2'
  have HR := Lib.hid (clright_any 1 3 9 0)
  rw [show rightL 1 3 9 0 = true by decide +kernel] at HR
  have HS1 := Lib.hid (clslotted_any 1 3 9 0 7); have HS2 := Lib.hid (clslotted_any 2 2 0 0 7)
  rw [show slotL 1 3 7 = 7 by decide +kernel] at HS1
  rw [show slotL 2 2 7 = 2 by decide +kernel] at HS2
  have fld1 := fun u => fld_slot 1 7 9 0 u
  have fld2 := fun u => fld_slot 2 2 0 0 u
  go_enter Tryd.func13, Tryd.ntmps13
  go_upto_region 2 with fail
  obtain ⟨W1, hW1⟩ : ∃ W, W = ((w.alloc (.cells #[.int .i64 1, .int .i64 3, .int .i64 9, .int .i64 0] 24)).alloc (.cells #[.int .i64 1, .int .i64 4, .int .i64 0, .int .i64 0] 24)) := ⟨_, rfl⟩
  have hbel_ : Below w.heap.size w W1 := by rw [hW1]; exact (((Below.refl w.heap.size w).alloc (Nat.le_refl w.heap.size) _).alloc (by have := (Nat.le_refl w.heap.size); simp only [World.size_alloc]; omega) _)
  have h_a : Blk W1 w.heap.size 24 [.int .i64 1, .int .i64 3, .int .i64 9, .int .i64 0] := by rw [hW1]; exact (blk_at (w) w.heap.size (by rfl) 24 [.int .i64 1, .int .i64 3, .int .i64 9, .int .i64 0]).keep ((Below.refl (w.heap.size + 1) _).alloc (by simp only [World.size_alloc]; omega) _) (by omega)
  have h_b : Blk W1 (w.heap.size + 1) 24 [.int .i64 1, .int .i64 4, .int .i64 0, .int .i64 0] := by rw [hW1]; exact (blk_at ((w.alloc (.cells #[.int .i64 1, .int .i64 3, .int .i64 9, .int .i64 0] 24))) (w.heap.size + 1) (by simp only [World.size_alloc]) 24 [.int .i64 1, .int .i64 4, .int .i64 0, .int .i64 0]).keep (Below.refl ((w.heap.size + 1) + 1) _) (by omega)
  rw [← hW1]
  have HB1 := Lib.hid hbel_
  have Ha1 := Lib.hid h_a
  have Hb1 := Lib.hid h_b
  clear hbel_ hW1  h_a h_b
  have a_0 : W1.cell? ⟨w.heap.size, 0, none⟩ = some (.int .i64 1) := Ha1.out.cellAt (i := 0) (by simp)
  have a_1 : W1.cell? ⟨w.heap.size, 1, none⟩ = some (.int .i64 3) := Ha1.out.cellAt (i := 1) (by simp)
  have a_2 : W1.cell? ⟨w.heap.size, 2, none⟩ = some (.int .i64 9) := Ha1.out.cellAt (i := 2) (by simp)
  have a_3 : W1.cell? ⟨w.heap.size, 3, none⟩ = some (.int .i64 0) := Ha1.out.cellAt (i := 3) (by simp)
  go_wp2_with fail
  clear a_0 a_1 a_2 a_3
  refine (HI.out _ (Nat.lt_of_lt_of_le h0 HB1.out.size) (HT.out.on HB1.out h0)).mono ?_
  rintro y w2 ⟨rfl, hb⟩
  have HB2 := Lib.hid (below_transG HB1.out hb)
  have Ha2 := Lib.hid (Ha1.out.keep hb Ha1.out.lt)
  have Hb2 := Lib.hid (Hb1.out.keep hb Hb1.out.lt)
  clear hb
  go_upto_region 3 with fail
  obtain ⟨W3, hW3⟩ : ∃ W, W = (w2.alloc (.cells #[.bool true, .int .u32 135792896] 27)) := ⟨_, rfl⟩
  have hbel_ : Below w.heap.size w W3 := by rw [hW3]; exact (HB2.out.alloc HB2.out.size _)
  have h_a : Blk W3 w.heap.size 24 [.int .i64 1, .int .i64 3, .int .i64 9, .int .i64 0] := by rw [hW3]; exact Ha2.out.keep ((Below.refl w2.heap.size w2).alloc (Nat.le_refl _) _) Ha2.out.lt
  have h_b : Blk W3 (w.heap.size + 1) 24 [.int .i64 1, .int .i64 4, .int .i64 0, .int .i64 0] := by rw [hW3]; exact Hb2.out.keep ((Below.refl w2.heap.size w2).alloc (Nat.le_refl _) _) Hb2.out.lt
  have h_i : Blk W3 w2.heap.size 27 [.bool true, .int .u32 135792896] := by rw [hW3]; exact (blk_at (w2) w2.heap.size (by rfl) 27 [.bool true, .int .u32 135792896]).keep (Below.refl (w2.heap.size + 1) _) (by omega)
  rw [← hW3]
  have HB3 := Lib.hid hbel_
  have Ha3 := Lib.hid h_a
  have Hb3 := Lib.hid h_b
  have Hi3 := Lib.hid h_i
  clear hbel_ hW3 h_a h_b h_i
  have i_0 : W3.cell? ⟨w2.heap.size, 0, none⟩ = some (.bool true) := Hi3.out.cellAt (i := 0) (by simp)
  have i_1 : W3.cell? ⟨w2.heap.size, 1, none⟩ = some (.int .u32 135792896) := Hi3.out.cellAt (i := 1) (by simp)
  go_wp2_with fail
  clear i_0 i_1
  refine (HO.out _ (Nat.lt_of_lt_of_le h0 HB3.out.size) (HT.out.on HB3.out h0)).mono ?_
  rintro y w4 ⟨rfl, hb⟩
  have HB4 := Lib.hid (below_transG HB3.out hb)
  have Ha4 := Lib.hid (Ha3.out.keep hb Ha3.out.lt)
  have Hb4 := Lib.hid (Hb3.out.keep hb Hb3.out.lt)
  have Hi4 := Lib.hid (Hi3.out.keep hb Hi3.out.lt)
  clear hb
  go_upto_region 4 with fail
  obtain ⟨W5, hW5⟩ : ∃ W, W = (w4.alloc (.cells #[.int .i64 1, .int .i64 3, .int .i64 9, .int .i64 0] 24)) := ⟨_, rfl⟩
  have hbel_ : Below w.heap.size w W5 := by rw [hW5]; exact (HB4.out.alloc HB4.out.size _)
  have h_a : Blk W5 w.heap.size 24 [.int .i64 1, .int .i64 3, .int .i64 9, .int .i64 0] := by rw [hW5]; exact Ha4.out.keep ((Below.refl w4.heap.size w4).alloc (Nat.le_refl _) _) Ha4.out.lt
  have h_b : Blk W5 (w.heap.size + 1) 24 [.int .i64 1, .int .i64 4, .int .i64 0, .int .i64 0] := by rw [hW5]; exact Hb4.out.keep ((Below.refl w4.heap.size w4).alloc (Nat.le_refl _) _) Hb4.out.lt
  have h_i : Blk W5 w2.heap.size 27 [.bool true, .int .u32 135792896] := by rw [hW5]; exact Hi4.out.keep ((Below.refl w4.heap.size w4).alloc (Nat.le_refl _) _) Hi4.out.lt
  have h_l : Blk W5 w4.heap.size 24 [.int .i64 1, .int .i64 3, .int .i64 9, .int .i64 0] := by rw [hW5]; exact (blk_at (w4) w4.heap.size (by rfl) 24 [.int .i64 1, .int .i64 3, .int .i64 9, .int .i64 0]).keep (Below.refl (w4.heap.size + 1) _) (by omega)
  rw [← hW5]
  have HB5 := Lib.hid hbel_
  have Ha5 := Lib.hid h_a
  have Hb5 := Lib.hid h_b
  have Hi5 := Lib.hid h_i
  have Hl5 := Lib.hid h_l
  clear hbel_ hW5 h_a h_b h_i h_l
  go_wp2_with fail
  refine (HN.out _).mono ?_
  rintro y w6 ⟨rfl, hb⟩
  have HB6 := Lib.hid (below_transG HB5.out hb)
  have Ha6 := Lib.hid (Ha5.out.keep hb Ha5.out.lt)
  have Hb6 := Lib.hid (Hb5.out.keep hb Hb5.out.lt)
  have Hi6 := Lib.hid (Hi5.out.keep hb Hi5.out.lt)
  have Hl6 := Lib.hid (Hl5.out.keep hb Hl5.out.lt)
  clear hb
  go_upto_region 5 with fail
  obtain ⟨W7, hW7⟩ : ∃ W, W = (w6.alloc (.cells #[.bool false, .int .u32 0] 27)) := ⟨_, rfl⟩
  have hbel_ : Below w.heap.size w W7 := by rw [hW7]; exact (HB6.out.alloc HB6.out.size _)
  have h_a : Blk W7 w.heap.size 24 [.int .i64 1, .int .i64 3, .int .i64 9, .int .i64 0] := by rw [hW7]; exact Ha6.out.keep ((Below.refl w6.heap.size w6).alloc (Nat.le_refl _) _) Ha6.out.lt
  have h_b : Blk W7 (w.heap.size + 1) 24 [.int .i64 1, .int .i64 4, .int .i64 0, .int .i64 0] := by rw [hW7]; exact Hb6.out.keep ((Below.refl w6.heap.size w6).alloc (Nat.le_refl _) _) Hb6.out.lt
  have h_i : Blk W7 w2.heap.size 27 [.bool true, .int .u32 135792896] := by rw [hW7]; exact Hi6.out.keep ((Below.refl w6.heap.size w6).alloc (Nat.le_refl _) _) Hi6.out.lt
  have h_l : Blk W7 w4.heap.size 24 [.int .i64 1, .int .i64 3, .int .i64 9, .int .i64 0] := by rw [hW7]; exact Hl6.out.keep ((Below.refl w6.heap.size w6).alloc (Nat.le_refl _) _) Hl6.out.lt
  have h_x : Blk W7 w6.heap.size 27 [.bool false, .int .u32 0] := by rw [hW7]; exact (blk_at (w6) w6.heap.size (by rfl) 27 [.bool false, .int .u32 0]).keep (Below.refl (w6.heap.size + 1) _) (by omega)
  rw [← hW7]
  have HB7 := Lib.hid hbel_
  have Ha7 := Lib.hid h_a
  have Hb7 := Lib.hid h_b
  have Hi7 := Lib.hid h_i
  have Hl7 := Lib.hid h_l
  have Hx7 := Lib.hid h_x
  clear hbel_ hW7 h_a h_b h_i h_l h_x
  have a_0 : W7.cell? ⟨w.heap.size, 0, none⟩ = some (.int .i64 1) := Ha7.out.cellAt (i := 0) (by simp)
  have a_1 : W7.cell? ⟨w.heap.size, 1, none⟩ = some (.int .i64 3) := Ha7.out.cellAt (i := 1) (by simp)
  have a_2 : W7.cell? ⟨w.heap.size, 2, none⟩ = some (.int .i64 9) := Ha7.out.cellAt (i := 2) (by simp)
  have a_3 : W7.cell? ⟨w.heap.size, 3, none⟩ = some (.int .i64 0) := Ha7.out.cellAt (i := 3) (by simp)
  have b_0 : W7.cell? ⟨(w.heap.size + 1), 0, none⟩ = some (.int .i64 1) := Hb7.out.cellAt (i := 0) (by simp)
  have b_1 : W7.cell? ⟨(w.heap.size + 1), 1, none⟩ = some (.int .i64 4) := Hb7.out.cellAt (i := 1) (by simp)
  have b_2 : W7.cell? ⟨(w.heap.size + 1), 2, none⟩ = some (.int .i64 0) := Hb7.out.cellAt (i := 2) (by simp)
  have b_3 : W7.cell? ⟨(w.heap.size + 1), 3, none⟩ = some (.int .i64 0) := Hb7.out.cellAt (i := 3) (by simp)
  go_wp2_with fail
  clear a_0 a_1 a_2 a_3 b_0 b_1 b_2 b_3
  obtain ⟨W8, hW8⟩ : ∃ W, W = (W7.alloc (.cells #[.int .i64 1, .int .i64 4, .int .i64 0, .int .i64 0, .int .i64 1, .int .i64 3, .int .i64 9, .int .i64 0] 24)) := ⟨_, rfl⟩
  have hbel_ : Below w.heap.size w W8 := by rw [hW8]; exact (HB7.out.alloc HB7.out.size _)
  have h_a : Blk W8 w.heap.size 24 [.int .i64 1, .int .i64 3, .int .i64 9, .int .i64 0] := by rw [hW8]; exact Ha7.out.keep ((Below.refl W7.heap.size W7).alloc (Nat.le_refl _) _) Ha7.out.lt
  have h_b : Blk W8 (w.heap.size + 1) 24 [.int .i64 1, .int .i64 4, .int .i64 0, .int .i64 0] := by rw [hW8]; exact Hb7.out.keep ((Below.refl W7.heap.size W7).alloc (Nat.le_refl _) _) Hb7.out.lt
  have h_i : Blk W8 w2.heap.size 27 [.bool true, .int .u32 135792896] := by rw [hW8]; exact Hi7.out.keep ((Below.refl W7.heap.size W7).alloc (Nat.le_refl _) _) Hi7.out.lt
  have h_l : Blk W8 w4.heap.size 24 [.int .i64 1, .int .i64 3, .int .i64 9, .int .i64 0] := by rw [hW8]; exact Hl7.out.keep ((Below.refl W7.heap.size W7).alloc (Nat.le_refl _) _) Hl7.out.lt
  have h_x : Blk W8 w6.heap.size 27 [.bool false, .int .u32 0] := by rw [hW8]; exact Hx7.out.keep ((Below.refl W7.heap.size W7).alloc (Nat.le_refl _) _) Hx7.out.lt
  have h_s : Blk W8 W7.heap.size 24 [.int .i64 1, .int .i64 4, .int .i64 0, .int .i64 0, .int .i64 1, .int .i64 3, .int .i64 9, .int .i64 0] := by rw [hW8]; exact (blk_at (W7) W7.heap.size (by rfl) 24 [.int .i64 1, .int .i64 4, .int .i64 0, .int .i64 0, .int .i64 1, .int .i64 3, .int .i64 9, .int .i64 0]).keep (Below.refl (W7.heap.size + 1) _) (by omega)
  rw [← hW8]
  have HB8 := Lib.hid hbel_
  have Ha8 := Lib.hid h_a
  have Hb8 := Lib.hid h_b
  have Hi8 := Lib.hid h_i
  have Hl8 := Lib.hid h_l
  have Hx8 := Lib.hid h_x
  have Hs8 := Lib.hid h_s
  clear hbel_ hW8 h_a h_b h_i h_l h_x h_s
  refine (HL.out _ _ Hs8.out).mono ?_
  rintro y w9 ⟨rfl, hb⟩
  have HB9 := Lib.hid (below_transG HB8.out hb)
  have Ha9 := Lib.hid (Ha8.out.keep hb Ha8.out.lt)
  have Hb9 := Lib.hid (Hb8.out.keep hb Hb8.out.lt)
  have Hi9 := Lib.hid (Hi8.out.keep hb Hi8.out.lt)
  have Hl9 := Lib.hid (Hl8.out.keep hb Hl8.out.lt)
  have Hx9 := Lib.hid (Hx8.out.keep hb Hx8.out.lt)
  have Hs9 := Lib.hid (Hs8.out.keep hb Hs8.out.lt)
  clear hb
  have a_0 : w9.cell? ⟨w.heap.size, 0, none⟩ = some (.int .i64 1) := Ha9.out.cellAt (i := 0) (by simp)
  have a_1 : w9.cell? ⟨w.heap.size, 1, none⟩ = some (.int .i64 3) := Ha9.out.cellAt (i := 1) (by simp)
  have a_2 : w9.cell? ⟨w.heap.size, 2, none⟩ = some (.int .i64 9) := Ha9.out.cellAt (i := 2) (by simp)
  have a_3 : w9.cell? ⟨w.heap.size, 3, none⟩ = some (.int .i64 0) := Ha9.out.cellAt (i := 3) (by simp)
  have b_0 : w9.cell? ⟨(w.heap.size + 1), 0, none⟩ = some (.int .i64 1) := Hb9.out.cellAt (i := 0) (by simp)
  have b_1 : w9.cell? ⟨(w.heap.size + 1), 1, none⟩ = some (.int .i64 4) := Hb9.out.cellAt (i := 1) (by simp)
  have b_2 : w9.cell? ⟨(w.heap.size + 1), 2, none⟩ = some (.int .i64 0) := Hb9.out.cellAt (i := 2) (by simp)
  have b_3 : w9.cell? ⟨(w.heap.size + 1), 3, none⟩ = some (.int .i64 0) := Hb9.out.cellAt (i := 3) (by simp)
  have i_0 : w9.cell? ⟨w2.heap.size, 0, none⟩ = some (.bool true) := Hi9.out.cellAt (i := 0) (by simp)
  have i_1 : w9.cell? ⟨w2.heap.size, 1, none⟩ = some (.int .u32 135792896) := Hi9.out.cellAt (i := 1) (by simp)
  have l_0 : w9.cell? ⟨w4.heap.size, 0, none⟩ = some (.int .i64 1) := Hl9.out.cellAt (i := 0) (by simp)
  have l_1 : w9.cell? ⟨w4.heap.size, 1, none⟩ = some (.int .i64 3) := Hl9.out.cellAt (i := 1) (by simp)
  have l_2 : w9.cell? ⟨w4.heap.size, 2, none⟩ = some (.int .i64 9) := Hl9.out.cellAt (i := 2) (by simp)
  have l_3 : w9.cell? ⟨w4.heap.size, 3, none⟩ = some (.int .i64 0) := Hl9.out.cellAt (i := 3) (by simp)
  go_wp2_with fail
  clear a_0 a_1 a_2 a_3 b_0 b_1 b_2 b_3 i_0 i_1 l_0 l_1 l_2 l_3
  refine (HB1'.out _).mono ?_
  rintro y w10 ⟨rfl, hb⟩
  have HB10 := Lib.hid (below_transG HB9.out hb)
  have Ha10 := Lib.hid (Ha9.out.keep hb Ha9.out.lt)
  have Hb10 := Lib.hid (Hb9.out.keep hb Hb9.out.lt)
  have Hi10 := Lib.hid (Hi9.out.keep hb Hi9.out.lt)
  have Hl10 := Lib.hid (Hl9.out.keep hb Hl9.out.lt)
  clear hb
  have a_0 : w10.cell? ⟨w.heap.size, 0, none⟩ = some (.int .i64 1) := Ha10.out.cellAt (i := 0) (by simp)
  have a_1 : w10.cell? ⟨w.heap.size, 1, none⟩ = some (.int .i64 3) := Ha10.out.cellAt (i := 1) (by simp)
  have a_2 : w10.cell? ⟨w.heap.size, 2, none⟩ = some (.int .i64 9) := Ha10.out.cellAt (i := 2) (by simp)
  have a_3 : w10.cell? ⟨w.heap.size, 3, none⟩ = some (.int .i64 0) := Ha10.out.cellAt (i := 3) (by simp)
  have b_0 : w10.cell? ⟨(w.heap.size + 1), 0, none⟩ = some (.int .i64 1) := Hb10.out.cellAt (i := 0) (by simp)
  have b_1 : w10.cell? ⟨(w.heap.size + 1), 1, none⟩ = some (.int .i64 4) := Hb10.out.cellAt (i := 1) (by simp)
  have b_2 : w10.cell? ⟨(w.heap.size + 1), 2, none⟩ = some (.int .i64 0) := Hb10.out.cellAt (i := 2) (by simp)
  have b_3 : w10.cell? ⟨(w.heap.size + 1), 3, none⟩ = some (.int .i64 0) := Hb10.out.cellAt (i := 3) (by simp)
  have i_0 : w10.cell? ⟨w2.heap.size, 0, none⟩ = some (.bool true) := Hi10.out.cellAt (i := 0) (by simp)
  have i_1 : w10.cell? ⟨w2.heap.size, 1, none⟩ = some (.int .u32 135792896) := Hi10.out.cellAt (i := 1) (by simp)
  have l_0 : w10.cell? ⟨w4.heap.size, 0, none⟩ = some (.int .i64 1) := Hl10.out.cellAt (i := 0) (by simp)
  have l_1 : w10.cell? ⟨w4.heap.size, 1, none⟩ = some (.int .i64 3) := Hl10.out.cellAt (i := 1) (by simp)
  have l_2 : w10.cell? ⟨w4.heap.size, 2, none⟩ = some (.int .i64 9) := Hl10.out.cellAt (i := 2) (by simp)
  have l_3 : w10.cell? ⟨w4.heap.size, 3, none⟩ = some (.int .i64 0) := Hl10.out.cellAt (i := 3) (by simp)
  go_wp2_with fail
  clear a_0 a_1 a_2 a_3 b_0 b_1 b_2 b_3 i_0 i_1 l_0 l_1 l_2 l_3
  refine (HB2'.out _).mono ?_
  rintro y w11 ⟨rfl, hb⟩
  have HB11 := Lib.hid (below_transG HB10.out hb)
  have Ha11 := Lib.hid (Ha10.out.keep hb Ha10.out.lt)
  have Hb11 := Lib.hid (Hb10.out.keep hb Hb10.out.lt)
  have Hi11 := Lib.hid (Hi10.out.keep hb Hi10.out.lt)
  have Hl11 := Lib.hid (Hl10.out.keep hb Hl10.out.lt)
  clear hb
  have a_0 : w11.cell? ⟨w.heap.size, 0, none⟩ = some (.int .i64 1) := Ha11.out.cellAt (i := 0) (by simp)
  have a_1 : w11.cell? ⟨w.heap.size, 1, none⟩ = some (.int .i64 3) := Ha11.out.cellAt (i := 1) (by simp)
  have a_2 : w11.cell? ⟨w.heap.size, 2, none⟩ = some (.int .i64 9) := Ha11.out.cellAt (i := 2) (by simp)
  have a_3 : w11.cell? ⟨w.heap.size, 3, none⟩ = some (.int .i64 0) := Ha11.out.cellAt (i := 3) (by simp)
  have b_0 : w11.cell? ⟨(w.heap.size + 1), 0, none⟩ = some (.int .i64 1) := Hb11.out.cellAt (i := 0) (by simp)
  have b_1 : w11.cell? ⟨(w.heap.size + 1), 1, none⟩ = some (.int .i64 4) := Hb11.out.cellAt (i := 1) (by simp)
  have b_2 : w11.cell? ⟨(w.heap.size + 1), 2, none⟩ = some (.int .i64 0) := Hb11.out.cellAt (i := 2) (by simp)
  have b_3 : w11.cell? ⟨(w.heap.size + 1), 3, none⟩ = some (.int .i64 0) := Hb11.out.cellAt (i := 3) (by simp)
  have i_0 : w11.cell? ⟨w2.heap.size, 0, none⟩ = some (.bool true) := Hi11.out.cellAt (i := 0) (by simp)
  have i_1 : w11.cell? ⟨w2.heap.size, 1, none⟩ = some (.int .u32 135792896) := Hi11.out.cellAt (i := 1) (by simp)
  have l_0 : w11.cell? ⟨w4.heap.size, 0, none⟩ = some (.int .i64 1) := Hl11.out.cellAt (i := 0) (by simp)
  have l_1 : w11.cell? ⟨w4.heap.size, 1, none⟩ = some (.int .i64 3) := Hl11.out.cellAt (i := 1) (by simp)
  have l_2 : w11.cell? ⟨w4.heap.size, 2, none⟩ = some (.int .i64 9) := Hl11.out.cellAt (i := 2) (by simp)
  have l_3 : w11.cell? ⟨w4.heap.size, 3, none⟩ = some (.int .i64 0) := Hl11.out.cellAt (i := 3) (by simp)
  go_wp2_with fail
  clear a_0 a_1 a_2 a_3 b_0 b_1 b_2 b_3 i_0 i_1 l_0 l_1 l_2 l_3
  refine (HR.out _).mono ?_
  rintro y w12 ⟨rfl, hb⟩
  have HB12 := Lib.hid (below_transG HB11.out hb)
  have Ha12 := Lib.hid (Ha11.out.keep hb Ha11.out.lt)
  have Hb12 := Lib.hid (Hb11.out.keep hb Hb11.out.lt)
  have Hi12 := Lib.hid (Hi11.out.keep hb Hi11.out.lt)
  have Hl12 := Lib.hid (Hl11.out.keep hb Hl11.out.lt)
  clear hb
  have a_0 : w12.cell? ⟨w.heap.size, 0, none⟩ = some (.int .i64 1) := Ha12.out.cellAt (i := 0) (by simp)
  have a_1 : w12.cell? ⟨w.heap.size, 1, none⟩ = some (.int .i64 3) := Ha12.out.cellAt (i := 1) (by simp)
  have a_2 : w12.cell? ⟨w.heap.size, 2, none⟩ = some (.int .i64 9) := Ha12.out.cellAt (i := 2) (by simp)
  have a_3 : w12.cell? ⟨w.heap.size, 3, none⟩ = some (.int .i64 0) := Ha12.out.cellAt (i := 3) (by simp)
  have b_0 : w12.cell? ⟨(w.heap.size + 1), 0, none⟩ = some (.int .i64 1) := Hb12.out.cellAt (i := 0) (by simp)
  have b_1 : w12.cell? ⟨(w.heap.size + 1), 1, none⟩ = some (.int .i64 4) := Hb12.out.cellAt (i := 1) (by simp)
  have b_2 : w12.cell? ⟨(w.heap.size + 1), 2, none⟩ = some (.int .i64 0) := Hb12.out.cellAt (i := 2) (by simp)
  have b_3 : w12.cell? ⟨(w.heap.size + 1), 3, none⟩ = some (.int .i64 0) := Hb12.out.cellAt (i := 3) (by simp)
  have i_0 : w12.cell? ⟨w2.heap.size, 0, none⟩ = some (.bool true) := Hi12.out.cellAt (i := 0) (by simp)
  have i_1 : w12.cell? ⟨w2.heap.size, 1, none⟩ = some (.int .u32 135792896) := Hi12.out.cellAt (i := 1) (by simp)
  have l_0 : w12.cell? ⟨w4.heap.size, 0, none⟩ = some (.int .i64 1) := Hl12.out.cellAt (i := 0) (by simp)
  have l_1 : w12.cell? ⟨w4.heap.size, 1, none⟩ = some (.int .i64 3) := Hl12.out.cellAt (i := 1) (by simp)
  have l_2 : w12.cell? ⟨w4.heap.size, 2, none⟩ = some (.int .i64 9) := Hl12.out.cellAt (i := 2) (by simp)
  have l_3 : w12.cell? ⟨w4.heap.size, 3, none⟩ = some (.int .i64 0) := Hl12.out.cellAt (i := 3) (by simp)
  go_wp2_with fail
  clear a_0 a_1 a_2 a_3 b_0 b_1 b_2 b_3 i_0 i_1 l_0 l_1 l_2 l_3
  refine (HS1.out _).mono ?_
  rintro y w13 ⟨rfl, hb⟩
  have HB13 := Lib.hid (below_transG HB12.out hb)
  have Ha13 := Lib.hid (Ha12.out.keep hb Ha12.out.lt)
  have Hb13 := Lib.hid (Hb12.out.keep hb Hb12.out.lt)
  have Hi13 := Lib.hid (Hi12.out.keep hb Hi12.out.lt)
  have Hl13 := Lib.hid (Hl12.out.keep hb Hl12.out.lt)
  clear hb
  have a_0 : w13.cell? ⟨w.heap.size, 0, none⟩ = some (.int .i64 1) := Ha13.out.cellAt (i := 0) (by simp)
  have a_1 : w13.cell? ⟨w.heap.size, 1, none⟩ = some (.int .i64 3) := Ha13.out.cellAt (i := 1) (by simp)
  have a_2 : w13.cell? ⟨w.heap.size, 2, none⟩ = some (.int .i64 9) := Ha13.out.cellAt (i := 2) (by simp)
  have a_3 : w13.cell? ⟨w.heap.size, 3, none⟩ = some (.int .i64 0) := Ha13.out.cellAt (i := 3) (by simp)
  have b_0 : w13.cell? ⟨(w.heap.size + 1), 0, none⟩ = some (.int .i64 1) := Hb13.out.cellAt (i := 0) (by simp)
  have b_1 : w13.cell? ⟨(w.heap.size + 1), 1, none⟩ = some (.int .i64 4) := Hb13.out.cellAt (i := 1) (by simp)
  have b_2 : w13.cell? ⟨(w.heap.size + 1), 2, none⟩ = some (.int .i64 0) := Hb13.out.cellAt (i := 2) (by simp)
  have b_3 : w13.cell? ⟨(w.heap.size + 1), 3, none⟩ = some (.int .i64 0) := Hb13.out.cellAt (i := 3) (by simp)
  have i_0 : w13.cell? ⟨w2.heap.size, 0, none⟩ = some (.bool true) := Hi13.out.cellAt (i := 0) (by simp)
  have i_1 : w13.cell? ⟨w2.heap.size, 1, none⟩ = some (.int .u32 135792896) := Hi13.out.cellAt (i := 1) (by simp)
  have l_0 : w13.cell? ⟨w4.heap.size, 0, none⟩ = some (.int .i64 1) := Hl13.out.cellAt (i := 0) (by simp)
  have l_1 : w13.cell? ⟨w4.heap.size, 1, none⟩ = some (.int .i64 3) := Hl13.out.cellAt (i := 1) (by simp)
  have l_2 : w13.cell? ⟨w4.heap.size, 2, none⟩ = some (.int .i64 9) := Hl13.out.cellAt (i := 2) (by simp)
  have l_3 : w13.cell? ⟨w4.heap.size, 3, none⟩ = some (.int .i64 0) := Hl13.out.cellAt (i := 3) (by simp)
  go_wp2_with fail
  clear a_0 a_1 a_2 a_3 b_0 b_1 b_2 b_3 i_0 i_1 l_0 l_1 l_2 l_3
  refine (HS2.out _).mono ?_
  rintro y w14 ⟨rfl, hb⟩
  have HB14 := Lib.hid (below_transG HB13.out hb)
  have Ha14 := Lib.hid (Ha13.out.keep hb Ha13.out.lt)
  have Hb14 := Lib.hid (Hb13.out.keep hb Hb13.out.lt)
  have Hi14 := Lib.hid (Hi13.out.keep hb Hi13.out.lt)
  have Hl14 := Lib.hid (Hl13.out.keep hb Hl13.out.lt)
  clear hb
  go_wp2_with fail
  go_ret
  exact ⟨rfl, HB14.out⟩
end Go.Proofs.YtmealljdecancaaDoor
