/- The document's own listener in memory; where it is, whether what it heard is good, and what it heard. Conditions: not more than a thousand bits. -/
import Derived.Test.YtmfnkfiocnngeaaDoorLra
namespace Go.Proofs.YtmfnkfiocnngeaaDoor
open Go.RowKit Go.Shelf
theorem splB_le : ∀ (l : List Nat) (r : Nat × Nat) (out : List Nat) (i : Nat), (splB r out i l).2.1 ≤ i + l.length := by
  intro l
  induction l with
  | nil => intro r out i; exact Nat.le_refl _
  | cons x l ih =>
    intro r out i
    show (if fullB r out = true then _ else _ : List Nat × Nat × Bool).2.1 ≤ _
    split
    · exact Nat.le_add_right _ _
    · cases uStep (some (r, out)) x with
      | none => have := ih r out (i + 1); simp at this ⊢; omega
      | some s => have := ih s.1 s.2 (i + 1); simp at this ⊢; omega
/-- What a listener of the document's holds. -/
structure RS where
  bs : List Nat
  en : Bool
  ok : Bool
  fr : List Value
def rlL (v : Value) (en ok : Bool) (fr : List Value) : List Value := v :: .bool en :: .bool ok :: fr
structure RA (W : World) (B : Nat) (s : RS) (v : Value) : Prop where
  blk : Blk W B 102 (rlL v s.en s.ok s.fr)
  own : Ow (B + 1) W v s.bs
  frf : FrF s.fr
theorem RA.lt {W : World} {B : Nat} {s : RS} {v : Value} (h : RA W B s v) : B < W.heap.size := h.blk.lt
theorem RA.on {W X : World} {B : Nat} {s : RS} {v : Value} (h : RA W B s v) (hb : Below W.heap.size W X) : RA X B s v := ⟨h.blk.keep hb h.lt, h.own.on hb, h.frf⟩
def RS0 : RS := ⟨[], false, false, frameC false 0 false 0 [0, 0, 0, 0, 0, 0, 0, 0]⟩
def RS.sp (s : RS) : List Nat × Nat × Bool := splB (0, 0) [] 0 (bitsOf s.bs)
def RS.place (s : RS) : Nat := if s.en = true then 5 else if s.sp.2.2 = true then (if s.bs.length = s.sp.2.1 then 1 else if s.bs.length = s.sp.2.1 + 1 then 2 else if s.bs.length = s.sp.2.1 + 2 then 3 else 4) else 0
def RS.good (s : RS) : Bool := !s.en && (s.sp.2.2 && okP (parseB s.sp.1))
theorem rnew_any (w : World) : Calls Tryd.prog 31 #[] w fun y w' => y = .returned (.pointer (some ⟨w.heap.size, 0, none⟩)) ∧ RA w' w.heap.size RS0 (.slice none 0 0) ∧ w' = w.alloc (.cells #[.slice none 0 0, .bool false, .bool false, .bool false, .int .u32 0, .bool false, .int .i64 0, .int .u8 0, .int .u8 0, .int .u8 0, .int .u8 0, .int .u8 0, .int .u8 0, .int .u8 0, .int .u8 0] 102) := by
  go_enter Tryd.func31, Tryd.ntmps31
  go_wp2_with fail
  go_ret
  exact ⟨rfl, ⟨Blk.new w 102 [.slice none 0 0, .bool false, .bool false, .bool false, .int .u32 0, .bool false, .int .i64 0, .int .u8 0, .int .u8 0, .int .u8 0, .int .u8 0, .int .u8 0, .int .u8 0, .int .u8 0, .int .u8 0], Ow.nil _ _, ⟨false, 0, false, 0, 0, 0, 0, 0, 0, 0, 0, 0, rfl⟩⟩, rfl⟩
set_option maxRecDepth 100000 in
set_option maxHeartbeats 4000000 in
theorem rframe_any (B : Nat) (s : RS) (v : Value) (w : World) (hA : RA w B s v) : Calls Tryd.prog 36 #[.pointer (some ⟨B, 0, none⟩)] w fun y w' => y = .returned (.tuple #[.agg (if s.ok then s.fr else frameC false 0 false 0 [0, 0, 0, 0, 0, 0, 0, 0]).toArray, .bool s.ok]) ∧ Below w.heap.size w w' := by
  obtain ⟨bs, en, ok, fr⟩ := s
  obtain ⟨hblk, hown, hfr⟩ := hA
  simp only at hblk hown hfr
  obtain ⟨a, cap, rfl⟩ := hown.shape
  obtain ⟨e, n, q, m, x0, x1, x2, x3, x4, x5, x6, x7, rfl⟩ := hfr
  obtain ⟨wr, hwr⟩ : ∃ wr, wr = w.alloc (.cells #[.bool false, .int .u32 0, .bool false, .int .i64 0, .int .u8 0, .int .u8 0, .int .u8 0, .int .u8 0, .int .u8 0, .int .u8 0, .int .u8 0, .int .u8 0] 27) := ⟨_, rfl⟩
  have HR := Lib.hid (show Blk wr w.heap.size 27 (frameC false 0 false 0 [0, 0, 0, 0, 0, 0, 0, 0]) by rw [hwr]; exact Blk.new w _ _)
  have hB1 : Blk wr B 102 (rlL (.slice a bs.length cap) en ok (frameC e n q (m : Int) [x0, x1, x2, x3, x4, x5, x6, x7])) := by rw [hwr]; exact hblk.keep ((Below.refl _ w).alloc (Nat.le_refl _) _) hblk.lt
  have HW := Lib.hid (show Below w.heap.size w wr by rw [hwr]; exact (Below.refl _ w).alloc (Nat.le_refl _) _)
  have c2 : wr.cell? ⟨B, 2, none⟩ = some (.bool ok) := hB1.cellAt (i := 2) (by simp [rlL, frameC])
  have g2 : wr.frozen? ⟨B, 2, none⟩ = false := hB1.frozenAt 2
  have c3 : wr.cell? ⟨B, 3, none⟩ = some (.bool e) := hB1.cellAt (i := 3) (by simp [rlL, frameC])
  have g3 : wr.frozen? ⟨B, 3, none⟩ = false := hB1.frozenAt 3
  have c4 : wr.cell? ⟨B, 4, none⟩ = some (.int .u32 (n : Int)) := hB1.cellAt (i := 4) (by simp [rlL, frameC])
  have g4 : wr.frozen? ⟨B, 4, none⟩ = false := hB1.frozenAt 4
  have c5 : wr.cell? ⟨B, 5, none⟩ = some (.bool q) := hB1.cellAt (i := 5) (by simp [rlL, frameC])
  have g5 : wr.frozen? ⟨B, 5, none⟩ = false := hB1.frozenAt 5
  have c6 : wr.cell? ⟨B, 6, none⟩ = some (.int .i64 (m : Int)) := hB1.cellAt (i := 6) (by simp [rlL, frameC])
  have g6 : wr.frozen? ⟨B, 6, none⟩ = false := hB1.frozenAt 6
  have c7 : wr.cell? ⟨B, 7, none⟩ = some (.int .u8 (x0 : Int)) := hB1.cellAt (i := 7) (by simp [rlL, frameC])
  have g7 : wr.frozen? ⟨B, 7, none⟩ = false := hB1.frozenAt 7
  have c8 : wr.cell? ⟨B, 8, none⟩ = some (.int .u8 (x1 : Int)) := hB1.cellAt (i := 8) (by simp [rlL, frameC])
  have g8 : wr.frozen? ⟨B, 8, none⟩ = false := hB1.frozenAt 8
  have c9 : wr.cell? ⟨B, 9, none⟩ = some (.int .u8 (x2 : Int)) := hB1.cellAt (i := 9) (by simp [rlL, frameC])
  have g9 : wr.frozen? ⟨B, 9, none⟩ = false := hB1.frozenAt 9
  have c10 : wr.cell? ⟨B, 10, none⟩ = some (.int .u8 (x3 : Int)) := hB1.cellAt (i := 10) (by simp [rlL, frameC])
  have g10 : wr.frozen? ⟨B, 10, none⟩ = false := hB1.frozenAt 10
  have c11 : wr.cell? ⟨B, 11, none⟩ = some (.int .u8 (x4 : Int)) := hB1.cellAt (i := 11) (by simp [rlL, frameC])
  have g11 : wr.frozen? ⟨B, 11, none⟩ = false := hB1.frozenAt 11
  have c12 : wr.cell? ⟨B, 12, none⟩ = some (.int .u8 (x5 : Int)) := hB1.cellAt (i := 12) (by simp [rlL, frameC])
  have g12 : wr.frozen? ⟨B, 12, none⟩ = false := hB1.frozenAt 12
  have c13 : wr.cell? ⟨B, 13, none⟩ = some (.int .u8 (x6 : Int)) := hB1.cellAt (i := 13) (by simp [rlL, frameC])
  have g13 : wr.frozen? ⟨B, 13, none⟩ = false := hB1.frozenAt 13
  have c14 : wr.cell? ⟨B, 14, none⟩ = some (.int .u8 (x7 : Int)) := hB1.cellAt (i := 14) (by simp [rlL, frameC])
  have g14 : wr.frozen? ⟨B, 14, none⟩ = false := hB1.frozenAt 14
  obtain ⟨z0, z1, z2, z3, z4, z5, z6, z7, z8, z9, z10, z11⟩ := (HR.out.at rfl).cells
  obtain ⟨f0, f1, f2, f3, f4, f5, f6, f7, f8, f9, f10, f11⟩ := (HR.out.at rfl).frz
  clear hblk hown hB1
  go_enter Tryd.func36, Tryd.ntmps36
  go_upto_region 1 with fail
  rw [← hwr]
  clear hwr
  cases ok
  · go_wp2_with fail
    exact bodyPost_ret (v := .tuple #[frameV false 0 false 0 [0, 0, 0, 0, 0, 0, 0, 0], .bool false]) (by simp [results, Tryd.results36, go_sem, World.cell?_setCell_same', z0, z1, z2, z3, z4, z5, z6, z7, z8, z9, z10, z11, frameV, frameC]) rfl ⟨rfl, below12 (Nat.le_refl _) HW.out _ _ _ _ _ _ _ _ _ _ _ _⟩
  · go_wp2_with fail
    exact bodyPost_ret (v := .tuple #[frameV e n q (m : Int) [x0, x1, x2, x3, x4, x5, x6, x7], .bool true]) (by simp [results, Tryd.results36, go_sem, World.cell?_setCell_same', z0, z1, z2, z3, z4, z5, z6, z7, z8, z9, z10, z11, frameV, frameC]) rfl ⟨rfl, below12 (Nat.le_refl _) HW.out _ _ _ _ _ _ _ _ _ _ _ _⟩
end Go.Proofs.YtmfnkfiocnngeaaDoor
