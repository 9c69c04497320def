/- The document's own Stuff in plain words: what it returns. Conditions: a string is a string, and not longer than a thousand. -/
import Derived.Test.YtodeaddmachcjaaRha
import Derived.Deep.DeepCutAuto
import Derived.Deep.RegionWith
namespace Go.Proofs.Ytodeaddmachcjaa
open Go.RowKit Go.Shelf
theorem nextB_nx (r : Nat × Nat) (v : Nat) (h : r.2 ≤ 4) (h1 : r.1 ≤ 1) : nextB r.1 (r.2 : Int) v = (((nx r v).1, ((nx r v).2 : Int)), 0) := by
  have hb : bitN r.1 = r.1 := by
    obtain e | e : r.1 = 0 ∨ r.1 = 1 := by omega
    · rw [e]; rfl
    · rw [e]; rfl
  unfold nextB nx
  rw [if_neg (by omega), hb]
  by_cases c : 0 < r.2 ∧ r.1 = v
  · rw [if_pos c, if_pos ⟨by omega, c.2⟩]
    rfl
  · rw [if_neg c, if_neg (fun e => c ⟨by omega, e.2⟩)]
    rfl
theorem sFold_fst (l : List Nat) (hb : ∀ x ∈ l, x ≤ 1) : (sFold l).1.1 ≤ 1 := by
  rcases List.eq_nil_or_concat l with rfl | ⟨l', b, rfl⟩
  · exact Nat.zero_le _
  · rw [List.concat_eq_append, sFold_snoc]
    have h := hb b (by simp)
    unfold sStep
    split
    · show 1 - b ≤ 1; omega
    · show (nx _ _).1 ≤ 1; rw [nx_fst]; exact h
theorem one_cell_at {W : World} {T : TypeId} {x : Value} {B : Nat} (h : B = W.heap.size) : ∀ (j : Nat) (u : Value), [x][j]? = some u → (W.alloc (.cells #[x] T)).cell? (Addr.add ⟨B, 0, none⟩ j) = some u := by
  subst h
  exact one_cell
theorem Ow.other {B c o : Nat} {W : World} {v x : Value} {bs : List Nat} (h : Ow B W v bs) (hc : c < B) : Ow B (W.setCell ⟨c, o, none⟩ x) v bs := by
  obtain ⟨h0, h⟩ := h
  refine ⟨h0, ?_⟩
  rcases h with h | ⟨g, cap, cur, e, hB, hg, hr⟩
  · exact .inl h
  · exact .inr ⟨g, cap, cur, e, hB, (heap_setCell_other _ _ _ _ (by show g ≠ c; omega)).trans hg, hr⟩
theorem Two.keepAt {w w1 : World} {n B : Nat} {x y : Value} (h : Two w B x y) (hb : Below n w w1) (hB : B < n) : Two w1 B x y := by
  obtain ⟨a, b, c, d⟩ := h
  exact ⟨(hb.cell (p := ⟨B, 0, none⟩) hB).trans a, (hb.cell (p := ⟨B, 1, none⟩) hB).trans b, (hb.frozen (p := ⟨B, 0, none⟩) hB).trans c, (hb.frozen (p := ⟨B, 1, none⟩) hB).trans d⟩
theorem bitN_self {v : Nat} (h : v ≤ 1) : bitN v = v := by
  obtain e | e : v = 0 ∨ v = 1 := by omega
  · rw [e]; rfl
  · rw [e]; rfl
theorem bitsTo_le (bs : List Nat) (k : Nat) : ∀ x ∈ bitsTo bs k, x ≤ 1 := by
  intro x hx
  obtain ⟨j, _, rfl⟩ := List.mem_map.1 hx
  exact bitAt_le _ _
end Go.Proofs.Ytodeaddmachcjaa
