/- What Run of package strand returns: how many alike bits stand one behind the other at most. Conditions: as for places. -/
import Derived.Test.YtodeaddmachcjaaStc
namespace Go.Proofs.Ytodeaddmachcjaa
open Go.RowKit Go.Shelf
attribute [local go_sem] Oper.semAt_some
/-- The greatest run, the run now, the last bit: behind one more bit. -/
def runStep (s : Nat × Nat × Nat) (v : Nat) : Nat × Nat × Nat := (max s.1 ((if v = s.2.2 then s.2.1 else 0) + 1), (if v = s.2.2 then s.2.1 else 0) + 1, v)
def runF (l : List Nat) : Nat × Nat × Nat := l.foldl runStep (0, 0, 0)
theorem runF_snoc (l : List Nat) (v : Nat) : runF (l ++ [v]) = (max (runF l).1 ((if v = (runF l).2.2 then (runF l).2.1 else 0) + 1), (if v = (runF l).2.2 then (runF l).2.1 else 0) + 1, v) := by
  unfold runF
  rw [List.foldl_append]; rfl
theorem runF_le : ∀ (k : Nat) (l : List Nat), l.length = k → (runF l).1 ≤ k ∧ (runF l).2.1 ≤ k
  | 0, l, h => by
    obtain rfl : l = [] := List.length_eq_zero_iff.1 h
    exact ⟨Nat.le_refl _, Nat.le_refl _⟩
  | k + 1, l, h => by
    rcases List.eq_nil_or_concat l with rfl | ⟨l', v, rfl⟩
    · cases h
    · rw [List.concat_eq_append] at h ⊢
      obtain ⟨h1, h2⟩ := runF_le k l' (by simpa using h)
      rw [runF_snoc]
      constructor
      · show max _ _ ≤ _; split <;> omega
      · show _ + 1 ≤ _; split <;> omega
theorem run_close {w W0 W : World} {b0 b1 b2 : Nat} {x0 x1 x2 : Value} (hk : KeepsOthers W0 W) (hbb : Below w.heap.size W0 W) (hB : Below w.heap.size w W) (n0 : w.heap.size ≤ b0) (n1 : w.heap.size ≤ b1) (n2 : w.heap.size ≤ b2) (e01 : b0 ≠ b1) (e02 : b0 ≠ b2) (e12 : b1 ≠ b2)
    (c0 : W.cell? ⟨b0, 0, none⟩ = some x0) (c1 : W.cell? ⟨b1, 0, none⟩ = some x1) (c2 : W.cell? ⟨b2, 0, none⟩ = some x2) (f0 : W.frozen? ⟨b0, 0, none⟩ = false) (f1 : W.frozen? ⟨b1, 0, none⟩ = false) (f2 : W.frozen? ⟨b2, 0, none⟩ = false) (M C V : Value) :
    KeepsOthers W0 (((W.setCell ⟨b2, 0, none⟩ V).setCell ⟨b1, 0, none⟩ C).setCell ⟨b0, 0, none⟩ M) ∧ Below w.heap.size W0 (((W.setCell ⟨b2, 0, none⟩ V).setCell ⟨b1, 0, none⟩ C).setCell ⟨b0, 0, none⟩ M) ∧
    (((((W.setCell ⟨b2, 0, none⟩ V).setCell ⟨b1, 0, none⟩ C).setCell ⟨b0, 0, none⟩ M).cell? ⟨b0, 0, none⟩ = some M ∧ (((W.setCell ⟨b2, 0, none⟩ V).setCell ⟨b1, 0, none⟩ C).setCell ⟨b0, 0, none⟩ M).frozen? ⟨b0, 0, none⟩ = false) ∧
    ((((W.setCell ⟨b2, 0, none⟩ V).setCell ⟨b1, 0, none⟩ C).setCell ⟨b0, 0, none⟩ M).cell? ⟨b1, 0, none⟩ = some C ∧ (((W.setCell ⟨b2, 0, none⟩ V).setCell ⟨b1, 0, none⟩ C).setCell ⟨b0, 0, none⟩ M).frozen? ⟨b1, 0, none⟩ = false) ∧
    ((((W.setCell ⟨b2, 0, none⟩ V).setCell ⟨b1, 0, none⟩ C).setCell ⟨b0, 0, none⟩ M).cell? ⟨b2, 0, none⟩ = some V ∧ (((W.setCell ⟨b2, 0, none⟩ V).setCell ⟨b1, 0, none⟩ C).setCell ⟨b0, 0, none⟩ M).frozen? ⟨b2, 0, none⟩ = false)) ∧
    Below w.heap.size w (((W.setCell ⟨b2, 0, none⟩ V).setCell ⟨b1, 0, none⟩ C).setCell ⟨b0, 0, none⟩ M) := by
  have ne : ∀ {p q : Nat}, p ≠ q → (⟨p, 0, none⟩ : Addr) ≠ ⟨q, 0, none⟩ := fun h e => h (by simpa using congrArg Addr.block e)
  refine ⟨((hk.trans (KeepsOthers.setCell _ _ _)).trans (KeepsOthers.setCell _ _ _)).trans (KeepsOthers.setCell _ _ _),
    ((hbb.setCell (p := ⟨b2, 0, none⟩) n2 _).setCell (p := ⟨b1, 0, none⟩) n1 _).setCell (p := ⟨b0, 0, none⟩) n0 _, ⟨⟨?_, ?_⟩, ⟨?_, ?_⟩, ⟨?_, ?_⟩⟩,
    ((hB.setCell (p := ⟨b2, 0, none⟩) n2 _).setCell (p := ⟨b1, 0, none⟩) n1 _).setCell (p := ⟨b0, 0, none⟩) n0 _⟩
  · exact World.cell?_setCell_same _ _ _ ((World.cell?_setCell_other _ _ _ _ (ne e01.symm)).trans ((World.cell?_setCell_other _ _ _ _ (ne e02.symm)).trans c0))
  · rw [World.frozen?_setCell, World.frozen?_setCell, World.frozen?_setCell]; exact f0
  · exact (World.cell?_setCell_other _ _ _ _ (ne e01)).trans (World.cell?_setCell_same _ _ _ ((World.cell?_setCell_other _ _ _ _ (ne e12.symm)).trans c1))
  · rw [World.frozen?_setCell, World.frozen?_setCell, World.frozen?_setCell]; exact f1
  · exact (World.cell?_setCell_other _ _ _ _ (ne e02)).trans ((World.cell?_setCell_other _ _ _ _ (ne e12)).trans (World.cell?_setCell_same _ _ _ c2))
  · rw [World.frozen?_setCell, World.frozen?_setCell, World.frozen?_setCell]; exact f2
end Go.Proofs.Ytodeaddmachcjaa
