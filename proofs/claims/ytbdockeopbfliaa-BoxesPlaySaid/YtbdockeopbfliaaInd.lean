/- The code of package inbox: what is laid in, what is taken out. Conditions: not more than a thousand frames wait. -/
import Derived.Test.YtbdockeopbfliaaInc
namespace Go.Proofs.Ytbdockeopbfliaa
open Go.RowKit

theorem IA.put {W W4 : World} {T : TypeId} {B room : Nat} {F : List Fl} {fv : Value} {Q Q' : List SD} {v v' : Value} {o : Bool} (h : IA W T B room F fv Q v o) (hs : W.heap.size ≤ W4.heap.size)
    (hb : ∀ k, k < W.heap.size → v.ownBlock ≠ some k → W4.heap[k]? = W.heap[k]?) (hr : Rw W4 14 v' (stC Q')) (hn : Nx W v v') :
    IA (W4.setCell ⟨B, 2, none⟩ v') T B room F fv Q' v' o := by
  have hlt := h.lt
  obtain ⟨h1, ⟨n', cap', a', rfl, f1, f2, f3, f4⟩, h3, h4, h5⟩ := h
  have hB : W4.heap[B]? = W.heap[B]? := hb B hlt h5
  have hk : ∀ k, k ≠ B → (W4.setCell ⟨B, 2, none⟩ v').heap[k]? = W4.heap[k]? := fun k hk => Below.heap_setCell W4 ⟨B, 2, none⟩ _ k hk
  have hsz := setCell_sizeG W4 ⟨B, 2, none⟩ v'
  have hown : v'.ownBlock ≠ some B := fun e => by
    rcases hn B e with g | g
    · exact h5 g
    · omega
  refine ⟨(h1.on hB).put1 (i := 2) (by simp) _, ⟨n', cap', a', rfl, f1, f2, f3, ?_⟩, fun g hg => ⟨by rw [hsz]; have := (h3 g hg).1; omega, (h3 g hg).2.1, fun e => ?_⟩, hr.on (by rw [hsz]; exact Nat.le_refl _) (fun g hg => hk g (fun e => hown (by rw [← e]; exact hg))), hown⟩
  · rcases f4 with f4 | ⟨g, off, rfl, hg, hc⟩
    · exact .inl f4
    · refine .inr ⟨g, off, rfl, by rw [hsz]; omega, fun j u hj => ?_⟩
      rw [World.cell?_of_block (hk g (h3 g rfl).2.1), World.cell?_of_block (hb g hg (h3 g rfl).2.2)]
      exact hc j u hj
  · rcases hn g e with g' | g'
    · exact (h3 g hg).2.2 g'
    · have := (h3 g hg).1; omega
theorem stC_snoc (Q : List SD) (s : SD) : stC (Q ++ [s]) = stC Q ++ s.C := by unfold stC; rw [List.flatMap_append]; simp
theorem Nx.of {w : World} {a : Option Addr} {n cap g off m c : Nat} (h : (Value.slice a n cap).ownBlock = some g ∨ g = w.heap.size) : Nx w (.slice a n cap) (.slice (some ⟨g, off, none⟩) m c) := fun k e => by
  have e : g = k := Option.some.inj e
  subst e
  rcases h with h | h
  · exact .inl h
  · exact .inr (by omega)

end Go.Proofs.Ytbdockeopbfliaa
