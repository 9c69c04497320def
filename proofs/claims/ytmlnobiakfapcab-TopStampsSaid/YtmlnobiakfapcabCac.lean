/- Package ctrl: what is read of what was got. Conditions: each theorem says its own. -/
import Derived.Test.YtmlnobiakfapcabCab
namespace Go.Proofs.Ytmlnobiakfapcab
open Go.RowKit
set_option maxRecDepth 100000 in
set_option maxHeartbeats 4000000 in
theorem cread_some (K B I : Nat) (fv v fr : Value) (s : CD) (e : Bool) (n : Int) (q : Bool) (l x0 x1 x2 x3 x4 x5 x6 x7 f tt : Int) (Q : List SD) (hQ : s.Q = ⟨e, n, q, l, x0, x1, x2, x3, x4, x5, x6, x7, f, tt⟩ :: Q) (w : World) (h : CA w K B I fv v fr s) :
    Calls Try.prog 13 #[.pointer (some ⟨K, 0, none⟩)] w fun y w' => y = .returned (.tuple #[.agg #[.bool e, .int .u32 n, .bool q, .int .i64 l, .int .u8 x0, .int .u8 x1, .int .u8 x2, .int .u8 x3, .int .u8 x4, .int .u8 x5, .int .u8 x6, .int .u8 x7, .int .i64 f, .int .i64 tt], .bool true]) ∧ ∃ v', CA w' K B I fv v' fr { s with Q := Q } ∧ Fx (footC K B I fv v fr) w w' ∧ (∀ g, footC K B I fv v' fr g → footC K B I fv v fr g ∨ w.heap.size ≤ g) := by
  obtain ⟨W0, hW0⟩ : ∃ W0, W0 = w.alloc (.cells #[.bool false, .int .u32 0, .bool false, .int .i64 0, .int .u8 0, .int .u8 0, .int .u8 0, .int .u8 0, .int .u8 0, .int .u8 0, .int .u8 0, .int .u8 0, .int .i64 0, .int .i64 0] 48) := ⟨_, rfl⟩
  obtain ⟨D, hD⟩ : ∃ D, D = w.heap.size := ⟨_, rfl⟩
  have hb0 : Below w.heap.size w W0 := by rw [hW0]; exact (Below.refl _ w).alloc (Nat.le_refl _) _
  have hS0 := (show Blk W0 D 48 [.bool false, .int .u32 0, .bool false, .int .i64 0, .int .u8 0, .int .u8 0, .int .u8 0, .int .u8 0, .int .u8 0, .int .u8 0, .int .u8 0, .int .u8 0, .int .i64 0, .int .i64 0] by rw [hW0, hD]; exact Blk.new w _ [.bool false, .int .u32 0, .bool false, .int .i64 0, .int .u8 0, .int .u8 0, .int .u8 0, .int .u8 0, .int .u8 0, .int .u8 0, .int .u8 0, .int .u8 0, .int .i64 0, .int .i64 0])
  have HC0 := Lib.hid (h.on hb0)
  have HS0 := Lib.hid hS0
  have HB0 := Lib.hid hb0
  have HDF := Lib.hid (show ¬ footC K B I fv v fr D from fun hf => by have := h.lt hf; omega)
  have HD := Lib.hid hD
  have hq1 := h.q1
  have hr1 := h.r1
  rw [hQ] at hq1
  have HQ := Lib.hid hQ
  have hpop := pop_some I s.rm s.F fv ⟨e, n, q, l, x0, x1, x2, x3, x4, x5, x6, x7, f, tt⟩ Q v s.o (by simp at hq1; omega) W0 (by rw [← hQ]; exact (h.on hb0).inb)
  unfold SD.V at hpop
  simp only at hpop
  have HP := Lib.hid hpop
  have HQL := Lib.hid (show Q.length ≤ s.rm by simp at hq1; omega)
  have HFR := Lib.hid (frames_any K B I fv v fr s W0 (h.on hb0))
  clear h hb0 hS0 hq1 hr1 hQ hpop
  go_enter Try.func13, Try.ntmps13
  go_upto_region 1 with fail
  rw [← hW0, ← hD]
  clear hW0 hD
  go_wp2_with fail
  refine HFR.out.mono ?_
  rintro y w1 ⟨rfl, rfl⟩
  go_wp2_with fail
  refine HP.out.mono ?_
  rintro y w6 ⟨v', rfl, hI, hk, hn⟩
  obtain ⟨g1, g2, g3⟩ := HC0.out.inbox hI hk hn HQL.out
  have hS6 := HS0.out.on (g2.block D HS0.out.lt HDF.out)
  have HC6 := Lib.hid g1
  have HF6 := Lib.hid ((Fx.of_below (φ := footC K B I fv v fr) HB0.out).trans g2 (fun k hk => .inl hk))
  have HG6 := Lib.hid g3
  have HS6 := Lib.hid hS6
  have d0 : w6.cell? ⟨D, 0, none⟩ = some (.bool false) := hS6.cellAt (i := 0) (by simp)
  have f0 : w6.frozen? ⟨D, 0, none⟩ = false := hS6.frozenAt 0
  have d1 : w6.cell? ⟨D, 1, none⟩ = some (.int .u32 0) := hS6.cellAt (i := 1) (by simp)
  have f1 : w6.frozen? ⟨D, 1, none⟩ = false := hS6.frozenAt 1
  have d2 : w6.cell? ⟨D, 2, none⟩ = some (.bool false) := hS6.cellAt (i := 2) (by simp)
  have f2 : w6.frozen? ⟨D, 2, none⟩ = false := hS6.frozenAt 2
  have d3 : w6.cell? ⟨D, 3, none⟩ = some (.int .i64 0) := hS6.cellAt (i := 3) (by simp)
  have f3 : w6.frozen? ⟨D, 3, none⟩ = false := hS6.frozenAt 3
  have d4 : w6.cell? ⟨D, 4, none⟩ = some (.int .u8 0) := hS6.cellAt (i := 4) (by simp)
  have f4 : w6.frozen? ⟨D, 4, none⟩ = false := hS6.frozenAt 4
  have d5 : w6.cell? ⟨D, 5, none⟩ = some (.int .u8 0) := hS6.cellAt (i := 5) (by simp)
  have f5 : w6.frozen? ⟨D, 5, none⟩ = false := hS6.frozenAt 5
  have d6 : w6.cell? ⟨D, 6, none⟩ = some (.int .u8 0) := hS6.cellAt (i := 6) (by simp)
  have f6 : w6.frozen? ⟨D, 6, none⟩ = false := hS6.frozenAt 6
  have d7 : w6.cell? ⟨D, 7, none⟩ = some (.int .u8 0) := hS6.cellAt (i := 7) (by simp)
  have f7 : w6.frozen? ⟨D, 7, none⟩ = false := hS6.frozenAt 7
  have d8 : w6.cell? ⟨D, 8, none⟩ = some (.int .u8 0) := hS6.cellAt (i := 8) (by simp)
  have f8 : w6.frozen? ⟨D, 8, none⟩ = false := hS6.frozenAt 8
  have d9 : w6.cell? ⟨D, 9, none⟩ = some (.int .u8 0) := hS6.cellAt (i := 9) (by simp)
  have f9 : w6.frozen? ⟨D, 9, none⟩ = false := hS6.frozenAt 9
  have d10 : w6.cell? ⟨D, 10, none⟩ = some (.int .u8 0) := hS6.cellAt (i := 10) (by simp)
  have f10 : w6.frozen? ⟨D, 10, none⟩ = false := hS6.frozenAt 10
  have d11 : w6.cell? ⟨D, 11, none⟩ = some (.int .u8 0) := hS6.cellAt (i := 11) (by simp)
  have f11 : w6.frozen? ⟨D, 11, none⟩ = false := hS6.frozenAt 11
  have d12 : w6.cell? ⟨D, 12, none⟩ = some (.int .i64 0) := hS6.cellAt (i := 12) (by simp)
  have f12 : w6.frozen? ⟨D, 12, none⟩ = false := hS6.frozenAt 12
  have d13 : w6.cell? ⟨D, 13, none⟩ = some (.int .i64 0) := hS6.cellAt (i := 13) (by simp)
  have f13 : w6.frozen? ⟨D, 13, none⟩ = false := hS6.frozenAt 13
  clear g1 g2 g3 hI hk hn hS6 HP HFR
  go_wp2_with fail
  refine bodyPost_ret (v := .tuple #[.agg #[.bool e, .int .u32 n, .bool q, .int .i64 l, .int .u8 x0, .int .u8 x1, .int .u8 x2, .int .u8 x3, .int .u8 x4, .int .u8 x5, .int .u8 x6, .int .u8 x7, .int .i64 f, .int .i64 tt], .bool true]) (by simp [results, Try.results13, go_sem, World.cell?_setCell_same', d0, d1, d2, d3, d4, d5, d6, d7, d8, d9, d10, d11, d12, d13]) rfl ?_
  obtain ⟨X, hX⟩ : ∃ X, X = ((((((((((((((w6.setCell ⟨D, 0, none⟩ (.bool e)).setCell ⟨D, 1, none⟩ (.int .u32 n)).setCell ⟨D, 2, none⟩ (.bool q)).setCell ⟨D, 3, none⟩ (.int .i64 l)).setCell ⟨D, 4, none⟩ (.int .u8 x0)).setCell ⟨D, 5, none⟩ (.int .u8 x1)).setCell ⟨D, 6, none⟩ (.int .u8 x2)).setCell ⟨D, 7, none⟩ (.int .u8 x3)).setCell ⟨D, 8, none⟩ (.int .u8 x4)).setCell ⟨D, 9, none⟩ (.int .u8 x5)).setCell ⟨D, 10, none⟩ (.int .u8 x6)).setCell ⟨D, 11, none⟩ (.int .u8 x7)).setCell ⟨D, 12, none⟩ (.int .i64 f)).setCell ⟨D, 13, none⟩ (.int .i64 tt)) := ⟨_, rfl⟩
  rw [← hX]
  have hsz : X.heap.size = w6.heap.size := by rw [hX]; simp only [setCell_sizeG]
  have hbk : ∀ g, g ≠ D → X.heap[g]? = w6.heap[g]? := fun g hg => by
    rw [hX, Below.heap_setCell _ ⟨D, 13, none⟩ _ g hg, Below.heap_setCell _ ⟨D, 12, none⟩ _ g hg, Below.heap_setCell _ ⟨D, 11, none⟩ _ g hg, Below.heap_setCell _ ⟨D, 10, none⟩ _ g hg, Below.heap_setCell _ ⟨D, 9, none⟩ _ g hg, Below.heap_setCell _ ⟨D, 8, none⟩ _ g hg, Below.heap_setCell _ ⟨D, 7, none⟩ _ g hg, Below.heap_setCell _ ⟨D, 6, none⟩ _ g hg, Below.heap_setCell _ ⟨D, 5, none⟩ _ g hg, Below.heap_setCell _ ⟨D, 4, none⟩ _ g hg, Below.heap_setCell _ ⟨D, 3, none⟩ _ g hg, Below.heap_setCell _ ⟨D, 2, none⟩ _ g hg, Below.heap_setCell _ ⟨D, 1, none⟩ _ g hg, Below.heap_setCell _ ⟨D, 0, none⟩ _ g hg]
  have hpr : Below D w6 X := by rw [hX]; exact below14 (Nat.le_refl D) (Below.refl D w6) (.bool e) (.int .u32 n) (.bool q) (.int .i64 l) (.int .u8 x0) (.int .u8 x1) (.int .u8 x2) (.int .u8 x3) (.int .u8 x4) (.int .u8 x5) (.int .u8 x6) (.int .u8 x7) (.int .i64 f) (.int .i64 tt)
  refine ⟨rfl, v', HC6.out.moved (by omega) (fun g hg => hbk g (fun e => ?_)), ⟨hpr.os.trans HF6.out.os, hpr.tape.trans HF6.out.tape, hpr.output.trans HF6.out.output, by rw [hsz]; exact HF6.out.size, fun g hg hf => (hbk g (by have := HD.out; omega)).trans (HF6.out.block g hg hf)⟩, fun g hg => ?_⟩
  · subst e
    rcases HG6.out _ hg with e | e
    · exact HDF.out e
    · have := HS0.out.lt; omega
  · rcases HG6.out _ hg with e | e
    · exact .inl e
    · have := HB0.out.size; exact .inr (by omega)
end Go.Proofs.Ytmlnobiakfapcab
