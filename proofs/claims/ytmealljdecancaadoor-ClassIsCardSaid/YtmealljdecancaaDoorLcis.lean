/- ClassIs (P23.1): whether any label can be, its identifier, and what any identifier says. Conditions: none but the widths, which the card ties. -/
import Derived.Test.YtmealljdecancaaDoorRows
import Derived.Test.YtmealljdecancaaDoorCle
import Derived.Test.YtmealljdecancaaDoorOpn
import Derived.Test.YtmealljdecancaaDoorClt
import Derived.WalkKit
import Derived.ProofKit
import Derived.OpenShut
import Derived.ShutString
import Derived.ChangeOld
import Derived.Below
namespace Go.Proofs.YtmealljdecancaaDoor.classIs
open Go.ChangeShapes Go.WideShapes Go.ChangeAt Go.RowKit
theorem own : ownKnob Tryd.prog.godebug = none := by kernel_rfl
theorem laidOut : laidOutB Tryd.prog = true := by kernel_rfl
set_option maxRecDepth 100000 in
set_option maxHeartbeats 4000000 in
theorem walk (l : Lb) (e : Bool) (N : Nat) (hN : N < 4294967296) (w : World) (h0 : 0 < w.heap.size) (hT : TabW w) : Calls Tryd.prog 3 #[l.v, identV e N] w fun y w' => y = .returned (.bool true) ∧ Below w.heap.size w w' := by
  have HTX := Lib.hid (show ∀ x, Below w.heap.size w x → 0 < x.heap.size ∧ TabW x from fun x hx => ⟨Nat.lt_of_lt_of_le h0 hx.size, hT.on hx h0⟩)
  have HTZ := Lib.hid hT; have H00 := Lib.hid h0
  clear hT h0
  obtain ⟨xb, xn, xe, hx⟩ : ∃ (xb : Bool) (xn xe : Int), idV l.c l.s l.t l.n = .tuple #[.agg #[.bool xb, .int .u32 xn], .int .i64 xe] := by
    unfold idV; split
    · exact ⟨_, _, _, rfl⟩
    · exact ⟨_, _, _, rfl⟩
  obtain ⟨ac, as_, at_, an, ok, ha⟩ : ∃ (ac as_ at_ an : Int) (ok : Bool), ofLV e N = .tuple #[.agg #[.int .i64 ac, .int .i64 as_, .int .i64 at_, .int .i64 an], .bool ok] := by
    unfold ofLV; split
    · exact ⟨_, _, _, _, _, rfl⟩
    · exact ⟨_, _, _, _, _, rfl⟩
  have H1 := Lib.hid (fun u a b => clid_any l.c l.s l.t l.n u a b); have H2 := Lib.hid (fun u => r23id_any l.c l.s l.t l.n u)
  have H3 := Lib.hid (fun u a b => clof_any e N hN u a b); have H4 := Lib.hid (fun u => r23of_any e N hN u)
  have H5 := Lib.hid (fun u => clright_any l.c l.s l.t l.n u); have H6 := Lib.hid (fun u => r23right_any l.c l.s l.t l.n u); have HL := Lib.hid (fun u a b => live23 u a b)
  rw [hx] at H1 H2
  rw [ha] at H3 H4
  obtain ⟨r, hr⟩ : ∃ r, r = rightL l.c l.s l.t l.n := ⟨_, rfl⟩
  rw [← hr] at H5 H6
  clear hx ha hr
  unfold Lb.v identV
  have e1 : (r == r) = true := by simp
  have e2 : (xb == xb) = true := by simp
  have e3 : (xn == xn) = true := by simp
  have e4 : (xe == xe) = true := by simp
  have e5 : (ac == ac) = true := by simp
  have e6 : (as_ == as_) = true := by simp
  have e7 : (at_ == at_) = true := by simp
  have e8 : (an == an) = true := by simp
  have e9 : (ok == ok) = true := by simp
  go_enter Tryd.func3, Tryd.ntmps3
  go_upto_region 1 with fail
  obtain ⟨W1, hW1⟩ : ∃ W, W = ((w.alloc (.cells #[.int .i64 l.c, .int .i64 l.s, .int .i64 l.t, .int .i64 l.n] 24)).alloc (.cells #[.bool e, .int .u32 (N : Int)] 27)) := ⟨_, rfl⟩
  have hbel_ : Below w.heap.size w W1 := by rw [hW1]; exact (((Below.refl w.heap.size w).alloc (Nat.le_refl w.heap.size) _).alloc (by have := (Nat.le_refl w.heap.size); simp only [World.size_alloc]; omega) _)
  have h_l : Blk W1 w.heap.size 24 [.int .i64 l.c, .int .i64 l.s, .int .i64 l.t, .int .i64 l.n] := by rw [hW1]; exact (blk_at (w) w.heap.size (by rfl) 24 [.int .i64 l.c, .int .i64 l.s, .int .i64 l.t, .int .i64 l.n]).keep ((Below.refl (w.heap.size + 1) _).alloc (by simp only [World.size_alloc]; omega) _) (by omega)
  have h_i : Blk W1 (w.heap.size + 1) 27 [.bool e, .int .u32 (N : Int)] := by rw [hW1]; exact (blk_at ((w.alloc (.cells #[.int .i64 l.c, .int .i64 l.s, .int .i64 l.t, .int .i64 l.n] 24))) (w.heap.size + 1) (by simp only [World.size_alloc]) 27 [.bool e, .int .u32 (N : Int)]).keep (Below.refl ((w.heap.size + 1) + 1) _) (by omega)
  rw [← hW1]
  have HB1 := Lib.hid hbel_
  have Hl1 := Lib.hid h_l
  have Hi1 := Lib.hid h_i
  clear hbel_ hW1  h_l h_i
  have l_0 : W1.cell? ⟨w.heap.size, 0, none⟩ = some (.int .i64 l.c) := Hl1.out.cellAt (i := 0) (by simp)
  have l_1 : W1.cell? ⟨w.heap.size, 1, none⟩ = some (.int .i64 l.s) := Hl1.out.cellAt (i := 1) (by simp)
  have l_2 : W1.cell? ⟨w.heap.size, 2, none⟩ = some (.int .i64 l.t) := Hl1.out.cellAt (i := 2) (by simp)
  have l_3 : W1.cell? ⟨w.heap.size, 3, none⟩ = some (.int .i64 l.n) := Hl1.out.cellAt (i := 3) (by simp)
  go_wp2_with fail
  clear l_0 l_1 l_2 l_3
  refine (H1.out _ (HTX.out _ HB1.out).1 (HTX.out _ HB1.out).2).mono ?_
  rintro y w2 ⟨rfl, hb⟩
  have HB2 := Lib.hid (below_transG HB1.out hb)
  have Hl2 := Lib.hid (Hl1.out.keep hb Hl1.out.lt)
  have Hi2 := Lib.hid (Hi1.out.keep hb Hi1.out.lt)
  clear hb
  go_upto_region 2 with fail
  obtain ⟨W3, hW3⟩ : ∃ W, W = (w2.alloc (.cells #[.bool xb, .int .u32 xn] 27)) := ⟨_, rfl⟩
  have hbel_ : Below w.heap.size w W3 := by rw [hW3]; exact (HB2.out.alloc HB2.out.size _)
  have h_l : Blk W3 w.heap.size 24 [.int .i64 l.c, .int .i64 l.s, .int .i64 l.t, .int .i64 l.n] := by rw [hW3]; exact Hl2.out.keep ((Below.refl w2.heap.size w2).alloc (Nat.le_refl _) _) Hl2.out.lt
  have h_i : Blk W3 (w.heap.size + 1) 27 [.bool e, .int .u32 (N : Int)] := by rw [hW3]; exact Hi2.out.keep ((Below.refl w2.heap.size w2).alloc (Nat.le_refl _) _) Hi2.out.lt
  have h_x : Blk W3 w2.heap.size 27 [.bool xb, .int .u32 xn] := by rw [hW3]; exact (blk_at (w2) w2.heap.size (by rfl) 27 [.bool xb, .int .u32 xn]).keep (Below.refl (w2.heap.size + 1) _) (by omega)
  rw [← hW3]
  have HB3 := Lib.hid hbel_
  have Hl3 := Lib.hid h_l
  have Hi3 := Lib.hid h_i
  have Hx3 := Lib.hid h_x
  clear hbel_ hW3 h_l h_i h_x
  have l_0 : W3.cell? ⟨w.heap.size, 0, none⟩ = some (.int .i64 l.c) := Hl3.out.cellAt (i := 0) (by simp)
  have l_1 : W3.cell? ⟨w.heap.size, 1, none⟩ = some (.int .i64 l.s) := Hl3.out.cellAt (i := 1) (by simp)
  have l_2 : W3.cell? ⟨w.heap.size, 2, none⟩ = some (.int .i64 l.t) := Hl3.out.cellAt (i := 2) (by simp)
  have l_3 : W3.cell? ⟨w.heap.size, 3, none⟩ = some (.int .i64 l.n) := Hl3.out.cellAt (i := 3) (by simp)
  go_wp2_with fail
  clear l_0 l_1 l_2 l_3
  refine (H2.out _).mono ?_
  rintro y w4 ⟨rfl, hb⟩
  have HB4 := Lib.hid (below_transG HB3.out hb)
  have Hl4 := Lib.hid (Hl3.out.keep hb Hl3.out.lt)
  have Hi4 := Lib.hid (Hi3.out.keep hb Hi3.out.lt)
  have Hx4 := Lib.hid (Hx3.out.keep hb Hx3.out.lt)
  clear hb
  go_upto_region 3 with fail
  obtain ⟨W5, hW5⟩ : ∃ W, W = (w4.alloc (.cells #[.bool xb, .int .u32 xn] 27)) := ⟨_, rfl⟩
  have hbel_ : Below w.heap.size w W5 := by rw [hW5]; exact (HB4.out.alloc HB4.out.size _)
  have h_l : Blk W5 w.heap.size 24 [.int .i64 l.c, .int .i64 l.s, .int .i64 l.t, .int .i64 l.n] := by rw [hW5]; exact Hl4.out.keep ((Below.refl w4.heap.size w4).alloc (Nat.le_refl _) _) Hl4.out.lt
  have h_i : Blk W5 (w.heap.size + 1) 27 [.bool e, .int .u32 (N : Int)] := by rw [hW5]; exact Hi4.out.keep ((Below.refl w4.heap.size w4).alloc (Nat.le_refl _) _) Hi4.out.lt
  have h_x : Blk W5 w2.heap.size 27 [.bool xb, .int .u32 xn] := by rw [hW5]; exact Hx4.out.keep ((Below.refl w4.heap.size w4).alloc (Nat.le_refl _) _) Hx4.out.lt
  have h_y : Blk W5 w4.heap.size 27 [.bool xb, .int .u32 xn] := by rw [hW5]; exact (blk_at (w4) w4.heap.size (by rfl) 27 [.bool xb, .int .u32 xn]).keep (Below.refl (w4.heap.size + 1) _) (by omega)
  rw [← hW5]
  have HB5 := Lib.hid hbel_
  have Hl5 := Lib.hid h_l
  have Hi5 := Lib.hid h_i
  have Hx5 := Lib.hid h_x
  have Hy5 := Lib.hid h_y
  clear hbel_ hW5 h_l h_i h_x h_y
  have i_0 : W5.cell? ⟨(w.heap.size + 1), 0, none⟩ = some (.bool e) := Hi5.out.cellAt (i := 0) (by simp)
  have i_1 : W5.cell? ⟨(w.heap.size + 1), 1, none⟩ = some (.int .u32 (N : Int)) := Hi5.out.cellAt (i := 1) (by simp)
  go_wp2_with fail
  clear i_0 i_1
  refine (H3.out _ (HTX.out _ HB5.out).1 (HTX.out _ HB5.out).2).mono ?_
  rintro y w6 ⟨rfl, hb⟩
  have HB6 := Lib.hid (below_transG HB5.out hb)
  have Hl6 := Lib.hid (Hl5.out.keep hb Hl5.out.lt)
  have Hi6 := Lib.hid (Hi5.out.keep hb Hi5.out.lt)
  have Hx6 := Lib.hid (Hx5.out.keep hb Hx5.out.lt)
  have Hy6 := Lib.hid (Hy5.out.keep hb Hy5.out.lt)
  clear hb
  go_upto_region 4 with fail
  obtain ⟨W7, hW7⟩ : ∃ W, W = (w6.alloc (.cells #[.int .i64 ac, .int .i64 as_, .int .i64 at_, .int .i64 an] 24)) := ⟨_, rfl⟩
  have hbel_ : Below w.heap.size w W7 := by rw [hW7]; exact (HB6.out.alloc HB6.out.size _)
  have h_l : Blk W7 w.heap.size 24 [.int .i64 l.c, .int .i64 l.s, .int .i64 l.t, .int .i64 l.n] := by rw [hW7]; exact Hl6.out.keep ((Below.refl w6.heap.size w6).alloc (Nat.le_refl _) _) Hl6.out.lt
  have h_i : Blk W7 (w.heap.size + 1) 27 [.bool e, .int .u32 (N : Int)] := by rw [hW7]; exact Hi6.out.keep ((Below.refl w6.heap.size w6).alloc (Nat.le_refl _) _) Hi6.out.lt
  have h_x : Blk W7 w2.heap.size 27 [.bool xb, .int .u32 xn] := by rw [hW7]; exact Hx6.out.keep ((Below.refl w6.heap.size w6).alloc (Nat.le_refl _) _) Hx6.out.lt
  have h_y : Blk W7 w4.heap.size 27 [.bool xb, .int .u32 xn] := by rw [hW7]; exact Hy6.out.keep ((Below.refl w6.heap.size w6).alloc (Nat.le_refl _) _) Hy6.out.lt
  have h_a : Blk W7 w6.heap.size 24 [.int .i64 ac, .int .i64 as_, .int .i64 at_, .int .i64 an] := by rw [hW7]; exact (blk_at (w6) w6.heap.size (by rfl) 24 [.int .i64 ac, .int .i64 as_, .int .i64 at_, .int .i64 an]).keep (Below.refl (w6.heap.size + 1) _) (by omega)
  rw [← hW7]
  have HB7 := Lib.hid hbel_
  have Hl7 := Lib.hid h_l
  have Hi7 := Lib.hid h_i
  have Hx7 := Lib.hid h_x
  have Hy7 := Lib.hid h_y
  have Ha7 := Lib.hid h_a
  clear hbel_ hW7 h_l h_i h_x h_y h_a
  have i_0 : W7.cell? ⟨(w.heap.size + 1), 0, none⟩ = some (.bool e) := Hi7.out.cellAt (i := 0) (by simp)
  have i_1 : W7.cell? ⟨(w.heap.size + 1), 1, none⟩ = some (.int .u32 (N : Int)) := Hi7.out.cellAt (i := 1) (by simp)
  go_wp2_with fail
  clear i_0 i_1
  refine (H4.out _).mono ?_
  rintro y w8 ⟨rfl, hb⟩
  have HB8 := Lib.hid (below_transG HB7.out hb)
  have Hl8 := Lib.hid (Hl7.out.keep hb Hl7.out.lt)
  have Hi8 := Lib.hid (Hi7.out.keep hb Hi7.out.lt)
  have Hx8 := Lib.hid (Hx7.out.keep hb Hx7.out.lt)
  have Hy8 := Lib.hid (Hy7.out.keep hb Hy7.out.lt)
  have Ha8 := Lib.hid (Ha7.out.keep hb Ha7.out.lt)
  clear hb
  go_upto_region 5 with fail
  obtain ⟨W9, hW9⟩ : ∃ W, W = (w8.alloc (.cells #[.int .i64 ac, .int .i64 as_, .int .i64 at_, .int .i64 an] 24)) := ⟨_, rfl⟩
  have hbel_ : Below w.heap.size w W9 := by rw [hW9]; exact (HB8.out.alloc HB8.out.size _)
  have h_l : Blk W9 w.heap.size 24 [.int .i64 l.c, .int .i64 l.s, .int .i64 l.t, .int .i64 l.n] := by rw [hW9]; exact Hl8.out.keep ((Below.refl w8.heap.size w8).alloc (Nat.le_refl _) _) Hl8.out.lt
  have h_i : Blk W9 (w.heap.size + 1) 27 [.bool e, .int .u32 (N : Int)] := by rw [hW9]; exact Hi8.out.keep ((Below.refl w8.heap.size w8).alloc (Nat.le_refl _) _) Hi8.out.lt
  have h_x : Blk W9 w2.heap.size 27 [.bool xb, .int .u32 xn] := by rw [hW9]; exact Hx8.out.keep ((Below.refl w8.heap.size w8).alloc (Nat.le_refl _) _) Hx8.out.lt
  have h_y : Blk W9 w4.heap.size 27 [.bool xb, .int .u32 xn] := by rw [hW9]; exact Hy8.out.keep ((Below.refl w8.heap.size w8).alloc (Nat.le_refl _) _) Hy8.out.lt
  have h_a : Blk W9 w6.heap.size 24 [.int .i64 ac, .int .i64 as_, .int .i64 at_, .int .i64 an] := by rw [hW9]; exact Ha8.out.keep ((Below.refl w8.heap.size w8).alloc (Nat.le_refl _) _) Ha8.out.lt
  have h_b : Blk W9 w8.heap.size 24 [.int .i64 ac, .int .i64 as_, .int .i64 at_, .int .i64 an] := by rw [hW9]; exact (blk_at (w8) w8.heap.size (by rfl) 24 [.int .i64 ac, .int .i64 as_, .int .i64 at_, .int .i64 an]).keep (Below.refl (w8.heap.size + 1) _) (by omega)
  rw [← hW9]
  have HB9 := Lib.hid hbel_
  have Hl9 := Lib.hid h_l
  have Hi9 := Lib.hid h_i
  have Hx9 := Lib.hid h_x
  have Hy9 := Lib.hid h_y
  have Ha9 := Lib.hid h_a
  have Hb9 := Lib.hid h_b
  clear hbel_ hW9 h_l h_i h_x h_y h_a h_b
  have HZ := Lib.hid (show ∀ x, Below W9.heap.size W9 x → Below W9.heap.size W9 x ∧ x.cell? ⟨w.heap.size, 0, none⟩ = some (.int .i64 l.c) ∧ x.cell? ⟨w.heap.size, 1, none⟩ = some (.int .i64 l.s) ∧ x.cell? ⟨w.heap.size, 2, none⟩ = some (.int .i64 l.t) ∧ x.cell? ⟨w.heap.size, 3, none⟩ = some (.int .i64 l.n) ∧ x.cell? ⟨(w.heap.size + 1), 0, none⟩ = some (.bool e) ∧ x.cell? ⟨(w.heap.size + 1), 1, none⟩ = some (.int .u32 (N : Int)) ∧ x.cell? ⟨w2.heap.size, 0, none⟩ = some (.bool xb) ∧ x.cell? ⟨w2.heap.size, 1, none⟩ = some (.int .u32 xn) ∧ x.cell? ⟨w4.heap.size, 0, none⟩ = some (.bool xb) ∧ x.cell? ⟨w4.heap.size, 1, none⟩ = some (.int .u32 xn) ∧ x.cell? ⟨w6.heap.size, 0, none⟩ = some (.int .i64 ac) ∧ x.cell? ⟨w6.heap.size, 1, none⟩ = some (.int .i64 as_) ∧ x.cell? ⟨w6.heap.size, 2, none⟩ = some (.int .i64 at_) ∧ x.cell? ⟨w6.heap.size, 3, none⟩ = some (.int .i64 an) ∧ x.cell? ⟨w8.heap.size, 0, none⟩ = some (.int .i64 ac) ∧ x.cell? ⟨w8.heap.size, 1, none⟩ = some (.int .i64 as_) ∧ x.cell? ⟨w8.heap.size, 2, none⟩ = some (.int .i64 at_) ∧ x.cell? ⟨w8.heap.size, 3, none⟩ = some (.int .i64 an) from fun x hx => ⟨hx, (Hl9.out.keep hx Hl9.out.lt).cellAt (i := 0) (by simp), (Hl9.out.keep hx Hl9.out.lt).cellAt (i := 1) (by simp), (Hl9.out.keep hx Hl9.out.lt).cellAt (i := 2) (by simp), (Hl9.out.keep hx Hl9.out.lt).cellAt (i := 3) (by simp), (Hi9.out.keep hx Hi9.out.lt).cellAt (i := 0) (by simp), (Hi9.out.keep hx Hi9.out.lt).cellAt (i := 1) (by simp), (Hx9.out.keep hx Hx9.out.lt).cellAt (i := 0) (by simp), (Hx9.out.keep hx Hx9.out.lt).cellAt (i := 1) (by simp), (Hy9.out.keep hx Hy9.out.lt).cellAt (i := 0) (by simp), (Hy9.out.keep hx Hy9.out.lt).cellAt (i := 1) (by simp), (Ha9.out.keep hx Ha9.out.lt).cellAt (i := 0) (by simp), (Ha9.out.keep hx Ha9.out.lt).cellAt (i := 1) (by simp), (Ha9.out.keep hx Ha9.out.lt).cellAt (i := 2) (by simp), (Ha9.out.keep hx Ha9.out.lt).cellAt (i := 3) (by simp), (Hb9.out.keep hx Hb9.out.lt).cellAt (i := 0) (by simp), (Hb9.out.keep hx Hb9.out.lt).cellAt (i := 1) (by simp), (Hb9.out.keep hx Hb9.out.lt).cellAt (i := 2) (by simp), (Hb9.out.keep hx Hb9.out.lt).cellAt (i := 3) (by simp)⟩)
  refine wp_region_class (C := fun x => Below W9.heap.size W9 x ∧ x.cell? ⟨w.heap.size, 0, none⟩ = some (.int .i64 l.c) ∧ x.cell? ⟨w.heap.size, 1, none⟩ = some (.int .i64 l.s) ∧ x.cell? ⟨w.heap.size, 2, none⟩ = some (.int .i64 l.t) ∧ x.cell? ⟨w.heap.size, 3, none⟩ = some (.int .i64 l.n) ∧ x.cell? ⟨(w.heap.size + 1), 0, none⟩ = some (.bool e) ∧ x.cell? ⟨(w.heap.size + 1), 1, none⟩ = some (.int .u32 (N : Int)) ∧ x.cell? ⟨w2.heap.size, 0, none⟩ = some (.bool xb) ∧ x.cell? ⟨w2.heap.size, 1, none⟩ = some (.int .u32 xn) ∧ x.cell? ⟨w4.heap.size, 0, none⟩ = some (.bool xb) ∧ x.cell? ⟨w4.heap.size, 1, none⟩ = some (.int .u32 xn) ∧ x.cell? ⟨w6.heap.size, 0, none⟩ = some (.int .i64 ac) ∧ x.cell? ⟨w6.heap.size, 1, none⟩ = some (.int .i64 as_) ∧ x.cell? ⟨w6.heap.size, 2, none⟩ = some (.int .i64 at_) ∧ x.cell? ⟨w6.heap.size, 3, none⟩ = some (.int .i64 an) ∧ x.cell? ⟨w8.heap.size, 0, none⟩ = some (.int .i64 ac) ∧ x.cell? ⟨w8.heap.size, 1, none⟩ = some (.int .i64 as_) ∧ x.cell? ⟨w8.heap.size, 2, none⟩ = some (.int .i64 at_) ∧ x.cell? ⟨w8.heap.size, 3, none⟩ = some (.int .i64 an)) (by kernel_rfl) (by kernel_rfl) (HZ.out _ (Below.refl _ _).drew) ?_
  repeat
    with_reducible refine wpQuiet_step (fun K hK => ?_)
    first
      | (refine quiet_skip (by rfl) ?_; (with_reducible refine hK _ ?_); clear hK K)
      | (refine quiet_want (by rfl) ?_
         apply Exists.intro
         refine ⟨fun x hx => ?_, hK _ ?_⟩
         (obtain ⟨_, hx1, hx2, hx3, hx4, hx5, hx6, hx7, hx8, hx9, hx10, hx11, hx12, hx13, hx14, hx15, hx16, hx17, hx18⟩ := id hx; go_simp; first | done | rfl | (first | (go_at_call 13; exact (HL.out _ (HTX.out _ (below_transG HB9.out hx.1)).1 (HTX.out _ (below_transG HB9.out hx.1)).2).mono fun y w' ⟨h1, h2⟩ => ⟨h1, HZ.out _ (below_transG hx.1 h2)⟩) | (go_at_call 14; exact (H5.out _).mono fun y w' ⟨h1, h2⟩ => ⟨h1, HZ.out _ (below_transG hx.1 h2)⟩) | (go_at_call 15; exact (H6.out _).mono fun y w' ⟨h1, h2⟩ => ⟨h1, HZ.out _ (below_transG hx.1 h2)⟩)))
         clear hK K)
    try simp only [Act.put, List.setIfInBounds_toArray, List.set_cons_zero, List.set_cons_succ]
  with_reducible refine wpQuiet_nil ?_
  intro wq hq
  have HB10 := Lib.hid (below_transG HB9.out hq.1)
  have Hl10 := Lib.hid (Hl9.out.keep hq.1 Hl9.out.lt)
  have Hi10 := Lib.hid (Hi9.out.keep hq.1 Hi9.out.lt)
  have Hx10 := Lib.hid (Hx9.out.keep hq.1 Hx9.out.lt)
  have Hy10 := Lib.hid (Hy9.out.keep hq.1 Hy9.out.lt)
  have Ha10 := Lib.hid (Ha9.out.keep hq.1 Ha9.out.lt)
  have Hb10 := Lib.hid (Hb9.out.keep hq.1 Hb9.out.lt)
  obtain ⟨W10, hW10⟩ : ∃ W, W = wq := ⟨_, rfl⟩
  rw [← hW10]
  rw [← hW10] at HB10
  rw [← hW10] at Hl10
  rw [← hW10] at Hi10
  rw [← hW10] at Hx10
  rw [← hW10] at Hy10
  rw [← hW10] at Ha10
  rw [← hW10] at Hb10
  clear hq HZ hW10
  go_wp2_with fail
  go_ret
  exact ⟨rfl, HB10.out⟩
theorem door_met (os : Os) (args : Array Value) : laidMetH Tryd.prog laidD ((World.doorLaid Tryd.prog 400 os).forCall (fun _ _ => 0) ⟨#[], args, []⟩).memory :=
  laidMetH_of_parts3 (fuel := 8) (laidMet_of_run' 8 (by kernel_rfl) (by kernel_rfl)) (by kernel_rfl) (by kernel_rfl)
set_option maxRecDepth 100000 in
theorem lifted (os : Os) (started : os.Started) (H : Type) (enc : TypeId × Value → H) :
    ReturnsInHanded {} Tryd.checked os 3 .any (fun w args => (Rows.classIsSpec.pre enc Tryd.prog Tryd.f3 [] false w args ∧ laidMetH Tryd.prog laidD w) ∧ sizedMet enc Tryd.prog Tryd.f3 (OpenSpec.ofChange Rows.classIsSpec) false w args)
      (Rows.classIsSpec.post enc Tryd.prog Tryd.f3 false true false false) := by
  refine returnsInHanded_of_change_and (C := Tryd.checked) (X := fun w _ => laidMetH Tryd.prog laidD w) (fun _ _ _ hh h => h.of_heap hh) own started (by kernel_rfl) Tryd.func3
    (ChangeSpec.witness_shaped (enc := enc) (C := Tryd.checked) (os := os) (X := fun w _ => laidMetH Tryd.prog laidD w) false (World.doorLaid Tryd.prog 400 os) #[.agg #[.int .i64 0, .int .i64 0, .int .i64 0, .int .i64 0], .agg #[.bool false, .int .u32 0]] 8 rfl (World.shaped_of_RefB (by kernel_rfl) (by kernel_rfl)) (by kernel_rfl) (by kernel_rfl) (by kernel_rfl) (door_met os _)) ?_
  intro W base args ds gs before hval0 hW _ _ hL _
  have hval : ∀ (j : Nat) t v, Tryd.f3.params[j]? = some t → args[j]? = some v → Value.okWide Tryd.prog W .any base t v := hval0
  have hW' := hW
  obtain ⟨p, q, hA0, hV, rfl, hfz, hnd⟩ := hW
  have hA : DataW.TrodAll enc Tryd.prog W 0 (fun _ => true) true Tryd.f3.params.toList args.toList ds p := hA0
  rw [Tryd.params3] at hA hval
  obtain ⟨v0, vs0, d0, ds0, p0, q0, hargs, rfl, rfl, h0, r0⟩ := trodAll_cons hA
  obtain ⟨v1, vs1, d1, ds1, p1, q1, rfl, rfl, rfl, h1, r1⟩ := trodAll_cons r0
  obtain ⟨rfl, rfl, rfl⟩ := trodAll_nil r1
  obtain rfl : args = #[v0, v1] := by cases args; simp_all
  obtain ⟨rfl, rfl⟩ := trodVars_none hV
  have k0 := h0
  have lt0 : ∀ x ∈ p0, x.block < W.heap.size := by obtain ⟨m, hm⟩ := k0; exact DataW.trod_lt m _ _ _ hm
  obtain ⟨l0, rfl⟩ := open_label (hval 0 24 v0 rfl rfl) h0
  have k1 := h1
  have lt1 : ∀ x ∈ p1, x.block < W.heap.size := by obtain ⟨m, hm⟩ := k1; exact DataW.trod_lt m _ _ _ hm
  obtain ⟨e1, n1, rfl, w1⟩ := open_ident (hval 1 27 v1 rfl rfl) h1
  clear hA0 hval0
  obtain ⟨hTab, hsz0⟩ := tab_of_wid hL
  refine (walk l0 e1 n1 w1 W hsz0 hTab).mono fun e W' ⟨he, bel⟩ => ?_
  subst he
  exact ⟨_, rfl, _, _, _, [], _, [], hW', trodAll_mk1 (shut_bool Tryd.underlying4 _), (trodAll_cons_mk (Below.trod laidOut (by kernel_rfl) (of_decide_eq_true (by kernel_rfl)) k0 bel lt0) (trodAll_cons_mk (Below.trod laidOut (by kernel_rfl) (of_decide_eq_true (by kernel_rfl)) k1 bel lt1) trodAll_mk0)), rfl, bel.frame _, fun h => by cases h⟩
theorem over : Rows.classIsRow.holds Tryd.pinned (OpenSpec.ofChange Rows.classIsSpec) :=
  OpenClaim.holds_of_wide 3 Tryd.f3 rfl rfl rfl rfl rfl rfl rfl ⟨rfl, rfl, rfl, rfl, rfl⟩ rfl rfl rfl rfl rfl (by kernel_rfl) Tryd.func3 (by kernel_rfl)
    (of_decide_eq_true (by kernel_rfl)) (by unfold Func.isWrapper; first | (rw [if_pos (by decide +kernel)]; kernel_rfl) | (rw [if_neg (by decide +kernel)]; exact ⟨rfl, rfl⟩))
    (fun os started H enc _ => lifted os started H enc)
/-- The statement: the row, and what it lists tied to the program's text. -/
theorem proved : Rows.ClassIsCardSaid :=
  Claim7.holds_tied_plain_at .later [] [.data] true _ false
    over (fun _ h => by cases h) (by kernel_rfl) (fun _ h => by cases h) classIs_row_tie rfl ⟨rfl, rfl⟩ (by kernel_rfl) rfl
    (fun f fn hf hfn => by
      obtain rfl : f = 3 := Option.some.inj ((show Tryd.prog.funcNamed "bellbuoy/bellbuoylaw23.ClassIs" = some 3 by kernel_rfl).symm.trans hf) |>.symm
      obtain rfl : fn = Tryd.f3 := (Option.some.inj (Tryd.func3.symm.trans hfn)).symm
      exact ⟨by kernel_rfl, fun j t ht => by
        rw [Tryd.params3] at ht
        have hm : t ∈ [24, 27] := by simpa using Array.mem_of_getElem? ht
        have hall : ([24, 27].all fun u => !Tryd.prog.wantsStandIn u) = true := by kernel_rfl
        exact (show Tryd.prog.wantsStandIn t = false by simpa using List.all_eq_true.1 hall t hm)⟩)
    (by kernel_rfl)
end Go.Proofs.YtmealljdecancaaDoor.classIs
