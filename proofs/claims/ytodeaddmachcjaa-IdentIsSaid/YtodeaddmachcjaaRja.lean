/- The document's own Unstuff in plain words: what it returns. Conditions: a string is a string, and not longer than a thousand. -/
import Derived.Test.YtodeaddmachcjaaRia
namespace Go.Proofs.Ytodeaddmachcjaa
open Go.RowKit Go.Shelf
theorem uFold_fst (k : Nat) : ∀ (l : List Nat) (s : (Nat × Nat) × List Nat), l.length = k → (∀ x ∈ l, x ≤ 1) → uFold l = some s → s.1.1 ≤ 1 ∧ s.2.length ≤ l.length := by
  induction k with
  | zero =>
    intro l s h _ hs
    obtain rfl := List.length_eq_zero_iff.1 h
    cases hs
    exact ⟨Nat.zero_le _, Nat.le_refl _⟩
  | succ k ih =>
    intro l s h hb hs
    rcases List.eq_nil_or_concat l with rfl | ⟨l', b, rfl⟩
    · cases h
    · rw [List.concat_eq_append] at h hb hs ⊢
      have hb1 : b ≤ 1 := hb b (by simp)
      rw [uFold_snoc] at hs
      cases h' : uFold l' with
      | none => rw [h'] at hs; cases hs
      | some p =>
        obtain ⟨h1, h2⟩ := ih l' p (by simpa using h) (fun x hx => hb x (by simp [hx])) h'
        rw [h'] at hs
        obtain ⟨r, out⟩ := p
        change (if 5 ≤ r.2 then (if b = 1 - r.1 then some ((b, 1), out) else none) else some (nx r b, out ++ [b])) = some s at hs
        change out.length ≤ l'.length at h2
        split at hs
        · split at hs
          · cases hs
            exact ⟨hb1, by show out.length ≤ _; simp; omega⟩
          · cases hs
        · cases hs
          exact ⟨by show (nx r b).1 ≤ 1; rw [nx_fst]; exact hb1, by show (out ++ [b]).length ≤ _; simp; omega⟩
theorem Ow.otherNe {B c o : Nat} {W : World} {v x : Value} {bs : List Nat} (h : Ow B W v bs) (hc : v.ownBlock ≠ some c) : Ow B (W.setCell ⟨c, o, none⟩ x) v bs := by
  obtain ⟨h0, h⟩ := h
  refine ⟨h0, ?_⟩
  rcases h with h | ⟨g, cap, cur, e, hB, hg, hr⟩
  · exact .inl h
  · have hne : g ≠ c := fun e' => hc (by rw [e, ← e']; rfl)
    exact .inr ⟨g, cap, cur, e, hB, (heap_setCell_other _ _ _ _ hne).trans hg, hr⟩
theorem after_alloc {wr w2 : World} {x y : Value} {T : TypeId} (hb : Below (wr.alloc (.cells #[x, y] T)).drew.heap.size (wr.alloc (.cells #[x, y] T)).drew w2) : Below wr.heap.size wr w2 ∧ wr.heap.size + 1 ≤ w2.heap.size ∧ Two w2 wr.heap.size x y := by
  have hz : (wr.alloc (.cells #[x, y] T)).drew.heap.size = wr.heap.size + 1 := by show (wr.alloc _).heap.size = _; simp
  rw [hz] at hb
  have h8 : Two (wr.alloc (.cells #[x, y] T)).drew wr.heap.size x y := Two.new wr x y T rfl
  exact ⟨((Below.refl _ wr).alloc (Nat.le_refl _) _).drew.trans (hb.mono (Nat.le_succ _)), by have := hb.size; omega, h8.keepAt hb (Nat.lt_succ_self _)⟩
theorem after_drew {wr w2 : World} (hb : Below wr.drew.heap.size wr.drew w2) : Below wr.heap.size wr w2 := (Below.refl _ wr).drew.trans hb
end Go.Proofs.Ytodeaddmachcjaa
