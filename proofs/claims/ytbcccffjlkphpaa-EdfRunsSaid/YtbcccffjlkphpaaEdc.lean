/- Package edf, and the document's own answers of layer 27: which of two jobs is ahead. Conditions: the numbers are of 64 bits. -/
import Derived.Test.YtbcccffjlkphpaaEdb
namespace Go.Proofs.Ytbcccffjlkphpaa
open Go.RowKit Go.Shelf Go.Sort
attribute [local go_sem] Oper.semAt_some
/-- Which of two jobs is ahead. -/
def aheadJ (x y : Jb) (len : Int) : Bool := (inB len 1 1073741824 && (rightJ x && rightJ y)) && decide (ordV x y len < 0)
theorem cmpI_cases (a b : Int) : (a < b ∧ Lib.compareInt a b = -1) ∨ (b < a ∧ Lib.compareInt a b = 1) ∨ (a = b ∧ Lib.compareInt a b = 0) := by
  unfold Lib.compareInt
  by_cases h : a < b
  · exact .inl ⟨h, by simp [h]⟩
  · by_cases h2 : b < a
    · exact .inr (.inl ⟨h2, by simp [h, h2]⟩)
    · exact .inr (.inr ⟨by omega, by simp [h, h2]⟩)
theorem epoch_div {d len : Int} (hd : 0 ≤ d ∧ d ≤ 2251799813685248) (hl : 1 ≤ len ∧ len ≤ 1073741824) : epochX d len = len * (d / len) := by
  unfold epochX
  rw [if_pos (qmay_one_of (by omega) (by omega))]
  have := Int.mul_ediv_add_emod d len
  omega
/-- A job's order, by the number of its slot. -/
def ltJ (len : Int) (x y : Jb) : Prop := x.d / len < y.d / len ∨ (x.d / len = y.d / len ∧ (x.s < y.s ∨ (x.s = y.s ∧ x.r < y.r)))
theorem ord_lt {x y : Jb} {len : Int} (hx : rightJ x = true) (hy : rightJ y = true) (hl : 1 ≤ len ∧ len ≤ 1073741824) : ordV x y len < 0 ↔ ltJ len x y := by
  have h1 := rightJ_d hx
  have h2 := rightJ_d hy
  unfold ordV ltJ or3I
  rw [epoch_div (by omega) hl, epoch_div (by omega) hl]
  have hm1 : len * (x.d / len) < len * (y.d / len) ↔ x.d / len < y.d / len := Int.mul_lt_mul_left (by omega)
  have hm2 : len * (y.d / len) < len * (x.d / len) ↔ y.d / len < x.d / len := Int.mul_lt_mul_left (by omega)
  obtain ⟨p, hp⟩ : ∃ p, p = x.d / len := ⟨_, rfl⟩
  obtain ⟨q, hq⟩ : ∃ p, p = y.d / len := ⟨_, rfl⟩
  rw [← hp, ← hq] at hm1 hm2 ⊢
  clear hp hq
  rcases cmpI_cases (len * p) (len * q) with ⟨e1, e⟩ | ⟨e1, e⟩ | ⟨e1, e⟩ <;> rw [e]
  · have := hm1.1 e1
    simp; omega
  · have := hm2.1 e1
    simp; omega
  · have hpq : p = q := by
      rcases Int.lt_trichotomy p q with h | h | h
      · exact absurd (hm1.2 h) (by omega)
      · exact h
      · exact absurd (hm2.2 h) (by omega)
    rcases cmpI_cases x.s y.s with ⟨f1, f⟩ | ⟨f1, f⟩ | ⟨f1, f⟩ <;> rw [f]
    · simp; omega
    · simp; omega
    · rcases cmpI_cases x.r y.r with ⟨g1, g⟩ | ⟨g1, g⟩ | ⟨g1, g⟩ <;> rw [g]
      · simp; omega
      · simp; omega
      · simp; omega
theorem may_two (x y : Jb) (len : Int) : mayJ len [x, y] = if inB len 1 1073741824 = false then 1 else if (rightJ x && rightJ y) = true then 0 else 10 := by
  unfold mayJ
  simp
set_option maxHeartbeats 4000000 in
theorem ahead_any (x y : Jb) (len : Int) (w : World) : Calls Try.prog 16 #[x.v, y.v, .int .i64 len] w fun e w' => e = .returned (.bool (aheadJ x y len)) ∧ Below w.heap.size w w' := by
  obtain ⟨W0, hW0⟩ : ∃ W, W = (w.alloc (.cells #[.int .i64 x.s, .int .i64 x.r, .int .i64 x.d, .int .i64 x.c] 42)).alloc (.cells #[.int .i64 y.s, .int .i64 y.r, .int .i64 y.d, .int .i64 y.c] 42) := ⟨_, rfl⟩
  have hx : Blk W0 w.heap.size 42 x.C := by rw [hW0]; exact (Blk.new w 42 x.C).keep ((Below.refl _ _).alloc (Nat.le_refl _) _) (by simp)
  have hy : Blk W0 (w.heap.size + 1) 42 y.C := by
    rw [hW0]
    have := Blk.new (w.alloc (.cells #[.int .i64 x.s, .int .i64 x.r, .int .i64 x.d, .int .i64 x.c] 42)) 42 y.C
    rw [World.size_alloc] at this
    exact this
  have HW0 := Lib.hid (show Below w.heap.size w W0 by rw [hW0]; exact ((Below.refl w.heap.size w).alloc (Nat.le_refl _) _).alloc (by simp) _)
  have HX := Lib.hid hx; have HY := Lib.hid hy
  obtain ⟨W2, hW2⟩ : ∃ W, W = W0.alloc (.cells #[.int .i64 x.s, .int .i64 x.r, .int .i64 x.d, .int .i64 x.c, .int .i64 y.s, .int .i64 y.r, .int .i64 y.d, .int .i64 y.c] 42) := ⟨_, rfl⟩
  have hz : Blk W2 W0.heap.size 42 (x.C ++ y.C) := by rw [hW2]; exact Blk.new W0 42 (x.C ++ y.C)
  have hb2 : Below W0.heap.size W0 W2 := by rw [hW2]; exact (Below.refl _ _).alloc (Nat.le_refl _) _
  have HB2 := Lib.hid (HW0.out.trans (hb2.mono HW0.out.size))
  have HX2 := Lib.hid (hx.keep hb2 hx.lt); have HY2 := Lib.hid (hy.keep hb2 hy.lt)
  have HM := Lib.hid (may_any len (some ⟨W0.heap.size, 0, none⟩) 2 2 [x, y] W2 (.inr ⟨W0.heap.size, 0, 2, rfl, hz.lt, fun j hj i u hu => by
    have hi : i < 4 := by have := (List.getElem?_eq_some_iff.1 hu).1; rwa [Jb.C_len] at this
    rw [Nat.zero_add]
    have hlt : j * 4 + i < (x.C ++ y.C).length := by simp [Jb.C_len]; simp at hj; omega
    rw [hz.cellAt hlt]
    match j, hj with
    | 0, _ =>
      rw [List.getElem_append_left (by rw [Jb.C_len]; omega)]
      rw [← hu]; simp [List.getElem?_eq_getElem (show i < x.C.length by rw [Jb.C_len]; exact hi)]
    | 1, _ =>
      rw [List.getElem_append_right (by rw [Jb.C_len]; omega)]
      rw [← hu]; simp [Jb.C_len, List.getElem?_eq_getElem (show i < y.C.length by rw [Jb.C_len]; exact hi)]⟩))
  have HO := Lib.hid (fun u => order_any x y len u)
  rw [may_two] at HM
  unfold aheadJ Jb.v
  unfold Jb.v at HO
  have hc : ∀ j (hj : j < 4), W0.cell? ⟨w.heap.size, j, none⟩ = some (x.C[j]) ∧ W0.cell? ⟨w.heap.size + 1, j, none⟩ = some (y.C[j]) := fun j hj => ⟨hx.cellAt (i := j) hj, hy.cellAt (i := j) hj⟩
  have a0 : W0.cell? ⟨w.heap.size, 0, none⟩ = some (.int .i64 x.s) := (hc 0 (by omega)).1
  have b0 : W0.cell? ⟨w.heap.size + 1, 0, none⟩ = some (.int .i64 y.s) := (hc 0 (by omega)).2
  have a1 : W0.cell? ⟨w.heap.size, 1, none⟩ = some (.int .i64 x.r) := (hc 1 (by omega)).1
  have b1 : W0.cell? ⟨w.heap.size + 1, 1, none⟩ = some (.int .i64 y.r) := (hc 1 (by omega)).2
  have a2 : W0.cell? ⟨w.heap.size, 2, none⟩ = some (.int .i64 x.d) := (hc 2 (by omega)).1
  have b2 : W0.cell? ⟨w.heap.size + 1, 2, none⟩ = some (.int .i64 y.d) := (hc 2 (by omega)).2
  have a3 : W0.cell? ⟨w.heap.size, 3, none⟩ = some (.int .i64 x.c) := (hc 3 (by omega)).1
  have b3 : W0.cell? ⟨w.heap.size + 1, 3, none⟩ = some (.int .i64 y.c) := (hc 3 (by omega)).2
  clear hx hy hz hb2 hc
  by_cases hm : inB len 1 1073741824 = true ∧ (rightJ x && rightJ y) = true
  · rw [hm.1, hm.2] at HM ⊢
    rw [if_neg (by decide), if_pos rfl] at HM
    obtain ⟨o, ho⟩ : ∃ o, o = ordV x y len := ⟨_, rfl⟩
    rw [← ho] at HO ⊢
    rw [Bool.true_and, Bool.true_and]
    clear hm ho
    go_enter Try.func16, Try.ntmps16
    go_upto_region 1 with fail
    rw [← hW0]
    clear hW0
    go_wp2_with fail
    rw [← hW2]
    clear hW2 a0 a1 a2 a3 b0 b1 b2 b3
    refine HM.out.mono ?_
    rintro y_ w3 ⟨rfl, hb⟩
    have HB3 := Lib.hid (below_transE HB2.out hb HB2.out.size)
    have hx3 := HX2.out.keep hb HX2.out.lt; have hy3 := HY2.out.keep hb HY2.out.lt
    have a0 : w3.cell? ⟨w.heap.size, 0, none⟩ = some (.int .i64 x.s) := hx3.cellAt (i := 0) (by simp [Jb.C])
    have b0 : w3.cell? ⟨w.heap.size + 1, 0, none⟩ = some (.int .i64 y.s) := hy3.cellAt (i := 0) (by simp [Jb.C])
    have a1 : w3.cell? ⟨w.heap.size, 1, none⟩ = some (.int .i64 x.r) := hx3.cellAt (i := 1) (by simp [Jb.C])
    have b1 : w3.cell? ⟨w.heap.size + 1, 1, none⟩ = some (.int .i64 y.r) := hy3.cellAt (i := 1) (by simp [Jb.C])
    have a2 : w3.cell? ⟨w.heap.size, 2, none⟩ = some (.int .i64 x.d) := hx3.cellAt (i := 2) (by simp [Jb.C])
    have b2 : w3.cell? ⟨w.heap.size + 1, 2, none⟩ = some (.int .i64 y.d) := hy3.cellAt (i := 2) (by simp [Jb.C])
    have a3 : w3.cell? ⟨w.heap.size, 3, none⟩ = some (.int .i64 x.c) := hx3.cellAt (i := 3) (by simp [Jb.C])
    have b3 : w3.cell? ⟨w.heap.size + 1, 3, none⟩ = some (.int .i64 y.c) := hy3.cellAt (i := 3) (by simp [Jb.C])
    clear hb hx3 hy3
    go_wp2_with fail
    refine (HO.out _).mono ?_
    rintro y_ w4 ⟨rfl, hb⟩
    have HB4 := Lib.hid (below_transE HB3.out hb HB3.out.size)
    clear hb a0 a1 a2 a3 b0 b1 b2 b3
    go_wp2_with fail
    go_ret
    exact ⟨rfl, by first | exact HB4.out | exact HB4.out.drew⟩
  · obtain ⟨e, he⟩ : ∃ e : Int, e = if inB len 1 1073741824 = false then 1 else if (rightJ x && rightJ y) = true then 0 else 10 := ⟨_, rfl⟩
    rw [← he] at HM
    have hne : e ≠ 0 := by
      rw [he]
      split
      · omega
      · split
        · exact absurd ⟨by simp_all, by assumption⟩ hm
        · omega
    have hk : (e == 0) = false := beq_eq_false_iff_ne.2 hne
    rw [show (inB len 1 1073741824 && (rightJ x && rightJ y)) = false by
      cases h1 : inB len 1 1073741824
      · rfl
      · cases h2 : (rightJ x && rightJ y)
        · rfl
        · exact absurd ⟨h1, h2⟩ hm, Bool.false_and]
    clear hm he hne
    go_enter Try.func16, Try.ntmps16
    go_upto_region 1 with fail
    rw [← hW0]
    clear hW0
    go_wp2_with fail
    rw [← hW2]
    clear hW2 a0 a1 a2 a3 b0 b1 b2 b3
    refine HM.out.mono ?_
    rintro y_ w3 ⟨rfl, hb⟩
    have HB3 := Lib.hid (below_transE HB2.out hb HB2.out.size)
    clear hb
    go_wp2_with fail
    go_ret
    exact ⟨rfl, by first | exact HB3.out | exact HB3.out.drew⟩
end Go.Proofs.Ytbcccffjlkphpaa
