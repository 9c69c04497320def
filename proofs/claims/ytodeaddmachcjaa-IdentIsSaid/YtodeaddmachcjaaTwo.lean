/- Two cells of a block: what they hold, behind whatever happens elsewhere. No program in it. No conditions. -/
import Derived.Test.YtodeaddmachcjaaStl
namespace Go.Proofs.Ytodeaddmachcjaa
open Go.RowKit
theorem bcell2 {w w1 : World} (hb : Below w.heap.size w w1) : (∀ b o : Nat, b < w.heap.size → w1.cell? ⟨b, o, none⟩ = w.cell? ⟨b, o, none⟩) ∧ (∀ b o : Nat, b < w.heap.size → w1.frozen? ⟨b, o, none⟩ = w.frozen? ⟨b, o, none⟩) :=
  ⟨fun b _ h => World.cell?_of_block (hb.block b h), fun b _ h => World.frozen?_of_block (hb.block b h)⟩
def Two (w : World) (B : Nat) (x y : Value) : Prop := w.cell? ⟨B, 0, none⟩ = some x ∧ w.cell? ⟨B, 1, none⟩ = some y ∧ w.frozen? ⟨B, 0, none⟩ = false ∧ w.frozen? ⟨B, 1, none⟩ = false
theorem Two.keep {w w1 : World} {B : Nat} {x y : Value} (h : Two w B x y) (hb : Below w.heap.size w w1) (hB : B < w.heap.size) : Two w1 B x y := by
  obtain ⟨hc, hf⟩ := bcell2 hb
  obtain ⟨a, b, c, d⟩ := h
  exact ⟨(hc B 0 hB).trans a, (hc B 1 hB).trans b, (hf B 0 hB).trans c, (hf B 1 hB).trans d⟩
theorem Two.put {w : World} {B : Nat} {x y : Value} (h : Two w B x y) (u v : Value) : Two ((w.setCell ⟨B, 0, none⟩ u).setCell ⟨B, 1, none⟩ v) B u v := by
  obtain ⟨a, b, c, d⟩ := h
  refine ⟨(World.cell?_setCell_other _ _ _ _ (by simp)).trans (World.cell?_setCell_same _ _ _ a), World.cell?_setCell_same _ _ _ ((World.cell?_setCell_other _ _ _ _ (by simp)).trans b), ?_, ?_⟩
  · rw [World.frozen?_setCell, World.frozen?_setCell]; exact c
  · rw [World.frozen?_setCell, World.frozen?_setCell]; exact d
theorem Two.other {w : World} {B C : Nat} {x y : Value} (h : Two w B x y) (hne : B ≠ C) (u v : Value) : Two ((w.setCell ⟨C, 0, none⟩ u).setCell ⟨C, 1, none⟩ v) B x y := by
  obtain ⟨a, b, c, d⟩ := h
  have n : ∀ o p, (⟨C, o, none⟩ : Addr) ≠ ⟨B, p, none⟩ := fun o p e => hne (by simpa using (congrArg Addr.block e).symm)
  refine ⟨(World.cell?_setCell_other _ _ _ _ (n _ _)).trans ((World.cell?_setCell_other _ _ _ _ (n _ _)).trans a), (World.cell?_setCell_other _ _ _ _ (n _ _)).trans ((World.cell?_setCell_other _ _ _ _ (n _ _)).trans b), ?_, ?_⟩
  · rw [World.frozen?_setCell, World.frozen?_setCell]; exact c
  · rw [World.frozen?_setCell, World.frozen?_setCell]; exact d
theorem Two.new (w : World) (x y : Value) (T : TypeId) {B : Nat} (h : B = w.heap.size) : Two (w.alloc (.cells #[x, y] T)) B x y := by subst h; exact ⟨by simp, by simp, by simp, by simp⟩
theorem Two.more {w : World} {B : Nat} {x y : Value} (h : Two w B x y) (hB : B < w.heap.size) (o : Obj) : Two (w.alloc o) B x y :=
  h.keep ((Below.refl _ _).alloc (Nat.le_refl _) _) hB
theorem below_two2 {B : Nat} {a w : World} (h : Below B a w) {C : Nat} (hC : B ≤ C) (u v : Value) : Below B a ((w.setCell ⟨C, 0, none⟩ u).setCell ⟨C, 1, none⟩ v) := (h.setCell (p := ⟨C, 0, none⟩) hC u).setCell (p := ⟨C, 1, none⟩) hC v
theorem setCell_size2 (w : World) (a : Addr) (v : Value) : (w.setCell a v).heap.size = w.heap.size := by simp [World.setCell]
theorem Two.low {w : World} {B : Nat} {x y : Value} (h : Two w B x y) (v : Value) : Two (w.setCell ⟨B, 1, none⟩ v) B x v := by
  obtain ⟨a, b, c, d⟩ := h
  exact ⟨(World.cell?_setCell_other _ _ _ _ (by simp)).trans a, World.cell?_setCell_same _ _ _ b, by rw [World.frozen?_setCell]; exact c, by rw [World.frozen?_setCell]; exact d⟩
theorem Two.lowOther {w : World} {B C : Nat} {x y : Value} (h : Two w B x y) (hne : B ≠ C) (v : Value) : Two (w.setCell ⟨C, 1, none⟩ v) B x y := by
  obtain ⟨a, b, c, d⟩ := h
  have n : ∀ o p, (⟨C, o, none⟩ : Addr) ≠ ⟨B, p, none⟩ := fun o p e => hne (by simpa using (congrArg Addr.block e).symm)
  exact ⟨(World.cell?_setCell_other _ _ _ _ (n _ _)).trans a, (World.cell?_setCell_other _ _ _ _ (n _ _)).trans b, by rw [World.frozen?_setCell]; exact c, by rw [World.frozen?_setCell]; exact d⟩
theorem Two.high {w : World} {B : Nat} {x y : Value} (h : Two w B x y) (v : Value) : Two (w.setCell ⟨B, 0, none⟩ v) B v y := by
  obtain ⟨a, b, c, d⟩ := h
  exact ⟨World.cell?_setCell_same _ _ _ a, (World.cell?_setCell_other _ _ _ _ (by simp)).trans b, by rw [World.frozen?_setCell]; exact c, by rw [World.frozen?_setCell]; exact d⟩
theorem Two.highOther {w : World} {B C : Nat} {x y : Value} (h : Two w B x y) (hne : B ≠ C) (v : Value) : Two (w.setCell ⟨C, 0, none⟩ v) B x y := by
  obtain ⟨a, b, c, d⟩ := h
  have n : ∀ o p, (⟨C, o, none⟩ : Addr) ≠ ⟨B, p, none⟩ := fun o p e => hne (by simpa using (congrArg Addr.block e).symm)
  exact ⟨(World.cell?_setCell_other _ _ _ _ (n _ _)).trans a, (World.cell?_setCell_other _ _ _ _ (n _ _)).trans b, by rw [World.frozen?_setCell]; exact c, by rw [World.frozen?_setCell]; exact d⟩
end Go.Proofs.Ytodeaddmachcjaa
