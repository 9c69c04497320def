/- Who sends, in memory: what is next, its bit, whether it asks, and what is heard. No conditions. -/
import Derived.Test.YtmfnkfiocnngeaaDoorSpa
namespace Go.Proofs.YtmfnkfiocnngeaaDoor
open Go.RowKit Go.Shelf
/-- A bit on the wire, and what it is: it asks, it was put between, the slot, the last. -/
structure PB where
  b : Nat
  a : Bool
  e : Bool
  s : Bool
  l : Bool
def PB.cells (p : PB) : List Value := [.int .u8 (p.b : Int), .bool p.a, .bool p.e, .bool p.s, .bool p.l]
def flatP (L : List PB) : List Value := (L.map PB.cells).flatten
theorem flatP_length (L : List PB) : (flatP L).length = 5 * L.length := by
  induction L with
  | nil => rfl
  | cons p L ih => show (p.cells ++ flatP L).length = _; rw [List.length_append, ih]; show 5 + _ = _; simp; omega
theorem flatP_at : ∀ (L : List PB) (k : Nat) (p : PB), L[k]? = some p → ∀ i, i < 5 → (flatP L)[5 * k + i]? = p.cells[i]? := by
  intro L
  induction L with
  | nil => intro k p h; simp at h
  | cons q L ih =>
    intro k p h i hi
    show (q.cells ++ flatP L)[5 * k + i]? = _
    cases k with
    | zero =>
      have e : q = p := by simpa using h
      rw [List.getElem?_append_left (by show 5 * 0 + i < 5; omega), e]
      simp
    | succ k =>
      rw [List.getElem?_append_right (by show 5 ≤ _; omega), show 5 * (k + 1) + i - q.cells.length = 5 * k + i by show 5 * (k + 1) + i - 5 = _; omega]
      exact ih k p (by simpa using h) i hi
theorem Blk.part {W : World} {D : Nat} {T : TypeId} {L : List PB} (h : Blk W D T (flatP L)) {k : Nat} {b : Nat} {a e s l : Bool} (hp : L[k]? = some ⟨b, a, e, s, l⟩) :
    W.cell? ⟨D, 5 * k, none⟩ = some (.int .u8 (b : Int)) ∧ W.cell? ⟨D, 5 * k + 1, none⟩ = some (.bool a) ∧ W.cell? ⟨D, 5 * k + 2, none⟩ = some (.bool e) ∧ W.cell? ⟨D, 5 * k + 3, none⟩ = some (.bool s) ∧ W.cell? ⟨D, 5 * k + 4, none⟩ = some (.bool l) := by
  have hk : k < L.length := (List.getElem?_eq_some_iff.1 hp).1
  have key : ∀ i (hi : i < 5), W.cell? ⟨D, 5 * k + i, none⟩ = (PB.cells ⟨b, a, e, s, l⟩)[i]? := fun i hi => by
    have hb : 5 * k + i < (flatP L).length := by rw [flatP_length]; omega
    rw [h.cellAt hb, ← List.getElem?_eq_getElem hb, flatP_at L k _ hp i hi]
  exact ⟨key 0 (by omega), key 1 (by omega), key 2 (by omega), key 3 (by omega), key 4 (by omega)⟩
theorem below5 {n B : Nat} {base W : World} (hB : n ≤ B) (h : Below n base W) (v0 v1 v2 v3 v4 : Value) : Below n base (((((W.setCell ⟨B, 0, none⟩ v0).setCell ⟨B, 1, none⟩ v1).setCell ⟨B, 2, none⟩ v2).setCell ⟨B, 3, none⟩ v3).setCell ⟨B, 4, none⟩ v4) :=
  Go.below_setCells hB [v0, v1, v2, v3, v4] 0 W h
/-- A speaker at the block B, whose parts are at D: k were heard. -/
structure SPA (W : World) (B D : Nat) (fr : List Value) (L : List PB) (k : Nat) (on : Bool) : Prop where
  blk : Blk W B 99 (fr ++ [if on then .slice (some ⟨D, 5 * k, none⟩) (L.length - k) (L.length - k) else .slice none 0 0, .int .i64 (k : Int)])
  parts : Blk W D 104 (flatP L)
  fr12 : fr.length = 12
  ne : B ≠ D
theorem SPA.keep {W X : World} {B D : Nat} {fr : List Value} {L : List PB} {k : Nat} {on : Bool} (h : SPA W B D fr L k on) (hb : Below W.heap.size W X) : SPA X B D fr L k on :=
  ⟨h.blk.keep hb h.blk.lt, h.parts.keep hb h.parts.lt, h.fr12, h.ne⟩
theorem SPA.c12 {W : World} {B D : Nat} {fr : List Value} {L : List PB} {k : Nat} {on : Bool} (h : SPA W B D fr L k on) : W.cell? ⟨B, 12, none⟩ = some (if on then .slice (some ⟨D, 5 * k, none⟩) (L.length - k) (L.length - k) else .slice none 0 0) ∧ W.frozen? ⟨B, 12, none⟩ = false ∧ W.cell? ⟨B, 13, none⟩ = some (.int .i64 (k : Int)) ∧ W.frozen? ⟨B, 13, none⟩ = false := by
  have e := h.blk
  obtain ⟨y0, y1, y2, y3, y4, y5, y6, y7, y8, y9, y10, y11, rfl⟩ := twelve h.fr12
  exact ⟨e.cellAt (i := 12) (by simp), e.frozenAt 12, e.cellAt (i := 13) (by simp), e.frozenAt 13⟩
set_option maxRecDepth 100000 in
set_option maxHeartbeats 4000000 in
theorem pnext_on (B D : Nat) (fr : List Value) (L : List PB) (k : Nat) (b : Nat) (a e s l : Bool) (hp : L[k]? = some ⟨b, a, e, s, l⟩) (w : World) (hS : SPA w B D fr L k true) : Calls Tryd.prog 76 #[.pointer (some ⟨B, 0, none⟩)] w fun y w' => y = .returned (.tuple #[.agg #[.int .u8 (b : Int), .bool a, .bool e, .bool s, .bool l], .bool true]) ∧ Below w.heap.size w w' := by
  have hk : k < L.length := (List.getElem?_eq_some_iff.1 hp).1
  obtain ⟨W1, hW1⟩ : ∃ W1, W1 = w.alloc (.cells #[.int .u8 0, .bool false, .bool false, .bool false, .bool false] 104) := ⟨_, rfl⟩
  have hb : Below w.heap.size w W1 := by rw [hW1]; exact (Below.refl _ w).alloc (Nat.le_refl _) _
  have HB := Lib.hid hb
  obtain ⟨c12, g12, _, _⟩ := (hS.keep hb).c12
  obtain ⟨q0, q1, q2, q3, q4⟩ := (hS.keep hb).parts.part hp
  rw [if_pos rfl] at c12
  have hz : Blk W1 w.heap.size 104 [.int .u8 0, .bool false, .bool false, .bool false, .bool false] := by rw [hW1]; exact Blk.new w _ _
  have z0 := hz.cellAt (i := 0) (by simp); have z1 := hz.cellAt (i := 1) (by simp); have z2 := hz.cellAt (i := 2) (by simp); have z3 := hz.cellAt (i := 3) (by simp); have z4 := hz.cellAt (i := 4) (by simp)
  have f0 := hz.frozenAt 0; have f1 := hz.frozenAt 1; have f2 := hz.frozenAt 2; have f3 := hz.frozenAt 3; have f4 := hz.frozenAt 4
  obtain ⟨m, hm⟩ : ∃ m, m = L.length - k := ⟨_, rfl⟩
  rw [← hm] at c12
  have hm0 : 0 < m := by omega
  have i1 : ((m : Int) == 0) = false := by rw [beq_eq_false_iff_ne]; omega
  have i2 : (0 : Int) < (m : Int) := by omega
  have HSB := Lib.hid (show w.heap.size ≠ B ∧ w.heap.size ≠ D from ⟨by have := hS.blk.lt; omega, by have := hS.parts.lt; omega⟩)
  clear hb hz hm hk hp hS hm0
  go_enter Tryd.func76, Tryd.ntmps76
  go_upto_region 1 with fail
  rw [← hW1]
  clear hW1
  go_wp2_with fail
  exact bodyPost_ret (v := .tuple #[.agg #[.int .u8 (b : Int), .bool a, .bool e, .bool s, .bool l], .bool true]) (by simp [results, Tryd.results76, go_sem, World.cell?_setCell_same', z0, z1, z2, z3, z4]) rfl ⟨rfl, below5 (Nat.le_refl _) HB.out _ _ _ _ _⟩
set_option maxRecDepth 100000 in
set_option maxHeartbeats 4000000 in
theorem pnext_off (B D : Nat) (fr : List Value) (L : List PB) (k : Nat) (w : World) (hS : SPA w B D fr L k false) : Calls Tryd.prog 76 #[.pointer (some ⟨B, 0, none⟩)] w fun y w' => y = .returned (.tuple #[.agg #[.int .u8 1, .bool false, .bool false, .bool false, .bool false], .bool false]) ∧ Below w.heap.size w w' := by
  obtain ⟨W1, hW1⟩ : ∃ W1, W1 = w.alloc (.cells #[.int .u8 0, .bool false, .bool false, .bool false, .bool false] 104) := ⟨_, rfl⟩
  have hb : Below w.heap.size w W1 := by rw [hW1]; exact (Below.refl _ w).alloc (Nat.le_refl _) _
  have HB := Lib.hid hb
  obtain ⟨c12, g12, _, _⟩ := (hS.keep hb).c12
  rw [if_neg (by decide)] at c12
  have hz : Blk W1 w.heap.size 104 [.int .u8 0, .bool false, .bool false, .bool false, .bool false] := by rw [hW1]; exact Blk.new w _ _
  have z0 := hz.cellAt (i := 0) (by simp); have z1 := hz.cellAt (i := 1) (by simp); have z2 := hz.cellAt (i := 2) (by simp); have z3 := hz.cellAt (i := 3) (by simp); have z4 := hz.cellAt (i := 4) (by simp)
  have f0 := hz.frozenAt 0; have f1 := hz.frozenAt 1; have f2 := hz.frozenAt 2; have f3 := hz.frozenAt 3; have f4 := hz.frozenAt 4
  clear hb hz hS
  go_enter Tryd.func76, Tryd.ntmps76
  go_upto_region 1 with fail
  rw [← hW1]
  clear hW1
  go_wp2_with fail
  exact bodyPost_ret (v := .tuple #[.agg #[.int .u8 1, .bool false, .bool false, .bool false, .bool false], .bool false]) (by simp [results, Tryd.results76, go_sem, World.cell?_setCell_same', z0, z1, z2, z3, z4]) rfl ⟨rfl, below5 (Nat.le_refl _) HB.out _ _ _ _ _⟩
set_option maxRecDepth 100000 in
set_option maxHeartbeats 4000000 in
theorem pnext_nil (w : World) : Calls Tryd.prog 76 #[.pointer none] w fun y w' => y = .returned (.tuple #[.agg #[.int .u8 1, .bool false, .bool false, .bool false, .bool false], .bool false]) ∧ Below w.heap.size w w' := by
  obtain ⟨W1, hW1⟩ : ∃ W1, W1 = w.alloc (.cells #[.int .u8 0, .bool false, .bool false, .bool false, .bool false] 104) := ⟨_, rfl⟩
  have hb : Below w.heap.size w W1 := by rw [hW1]; exact (Below.refl _ w).alloc (Nat.le_refl _) _
  have HB := Lib.hid hb
  have hz : Blk W1 w.heap.size 104 [.int .u8 0, .bool false, .bool false, .bool false, .bool false] := by rw [hW1]; exact Blk.new w _ _
  have z0 := hz.cellAt (i := 0) (by simp); have z1 := hz.cellAt (i := 1) (by simp); have z2 := hz.cellAt (i := 2) (by simp); have z3 := hz.cellAt (i := 3) (by simp); have z4 := hz.cellAt (i := 4) (by simp)
  have f0 := hz.frozenAt 0; have f1 := hz.frozenAt 1; have f2 := hz.frozenAt 2; have f3 := hz.frozenAt 3; have f4 := hz.frozenAt 4
  clear hb hz
  go_enter Tryd.func76, Tryd.ntmps76
  go_upto_region 1 with fail
  rw [← hW1]
  clear hW1
  go_wp2_with fail
  exact bodyPost_ret (v := .tuple #[.agg #[.int .u8 1, .bool false, .bool false, .bool false, .bool false], .bool false]) (by simp [results, Tryd.results76, go_sem, World.cell?_setCell_same', z0, z1, z2, z3, z4]) rfl ⟨rfl, below5 (Nat.le_refl _) HB.out _ _ _ _ _⟩
/-- What is next, whatever it is: a bit and what it is, and whether there is one. -/
theorem pbit_of (q : Option Addr) (b : Nat) (a e s l ok : Bool) (w : World) (hN : Calls Tryd.prog 76 #[.pointer q] w fun y w' => y = .returned (.tuple #[.agg #[.int .u8 (b : Int), .bool a, .bool e, .bool s, .bool l], .bool ok]) ∧ Below w.heap.size w w') : Calls Tryd.prog 32 #[.pointer q] w fun y w' => y = .returned (.int .u8 (b : Int)) ∧ Below w.heap.size w w' := by
  have HN := Lib.hid hN
  clear hN
  go_enter Tryd.func32, Tryd.ntmps32
  go_wp2_with fail
  refine HN.out.mono ?_
  rintro y w1 ⟨rfl, hb⟩
  have HB := Lib.hid hb
  clear hb HN
  go_wp2_with fail
  go_ret
  exact ⟨rfl, HB.out.alloc HB.out.size _⟩
theorem pask_of (q : Option Addr) (b : Nat) (a e s l ok : Bool) (w : World) (hN : Calls Tryd.prog 76 #[.pointer q] w fun y w' => y = .returned (.tuple #[.agg #[.int .u8 (b : Int), .bool a, .bool e, .bool s, .bool l], .bool ok]) ∧ Below w.heap.size w w') : Calls Tryd.prog 74 #[.pointer q] w fun y w' => y = .returned (.bool a) ∧ Below w.heap.size w w' := by
  have HN := Lib.hid hN
  clear hN
  go_enter Tryd.func74, Tryd.ntmps74
  go_wp2_with fail
  refine HN.out.mono ?_
  rintro y w1 ⟨rfl, hb⟩
  have HB := Lib.hid hb
  clear hb HN
  go_wp2_with fail
  go_ret
  exact ⟨rfl, HB.out.alloc HB.out.size _⟩
theorem psent_any (B D : Nat) (fr : List Value) (L : List PB) (k : Nat) (on : Bool) (w : World) (hS : SPA w B D fr L k on) : Calls Tryd.prog 35 #[.pointer (some ⟨B, 0, none⟩)] w fun y w' => y = .returned (.int .i64 (k : Int)) ∧ w = w' := by
  obtain ⟨_, _, c13, g13⟩ := hS.c12
  clear hS
  go_enter Tryd.func35, Tryd.ntmps35
  go_wp2_with fail
  go_ret
  exact ⟨rfl, rfl⟩
/-- What is heard where nothing is left, or there is no speaker: fine, and nothing is changed. -/
theorem phd_over (q : Option Addr) (b : Nat) (a e s l : Bool) (x : Nat) (w : World) (hN : Calls Tryd.prog 76 #[.pointer q] w fun y w' => y = .returned (.tuple #[.agg #[.int .u8 (b : Int), .bool a, .bool e, .bool s, .bool l], .bool false]) ∧ Below w.heap.size w w') : Calls Tryd.prog 33 #[.pointer q, .int .u8 (x : Int)] w fun y w' => y = .returned (.int .i64 0) ∧ Below w.heap.size w w' := by
  have HN := Lib.hid hN
  clear hN
  go_enter Tryd.func33, Tryd.ntmps33
  go_wp2_with fail
  refine HN.out.mono ?_
  rintro y w1 ⟨rfl, hb⟩
  have HB := Lib.hid hb
  clear hb HN
  go_wp2_with fail
  go_ret
  exact ⟨rfl, HB.out.alloc HB.out.size _⟩
end Go.Proofs.YtmfnkfiocnngeaaDoor
