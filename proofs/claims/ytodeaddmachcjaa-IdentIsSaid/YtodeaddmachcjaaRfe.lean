/- A slice of strings that came in, or that the call builds by append: what it holds. Conditions: none. -/
import Derived.Test.YtodeaddmachcjaaRfd
import Derived.Deep.Matrix
namespace Go.Proofs.Ytodeaddmachcjaa
open Go.RowKit Go.Shelf
theorem isRow_of {w : World} {A : Option Addr} {L C : Nat} {Z : List Int} (h1 : L ≤ C) (h2 : C ≤ maxLen) (h3 : Z.length = C) (h4 : ∀ n ∈ Z, (Lit.int .u8 n).wf = true) (h5 : A = none → C = 0) (h6 : ∀ a', A = some a' → ∀ c, c < C → w.cell? (a'.add c) = some (.int .u8 (Z.getD c 0))) : IsRow w A L C Z := by
  cases A with
  | none =>
    obtain rfl : C = 0 := h5 rfl
    exact .inl ⟨rfl, by omega, rfl, List.length_eq_zero_iff.1 h3⟩
  | some a => exact .inr ⟨a, rfl, h1, h2, h3, fun i hi => h6 a rfl i (by omega), h4⟩
theorem rows_strs {w : World} {x : Addr} {len cap : Nat} {A : Nat → Option Addr} {L C : Nat → Nat} {Z : Nat → List Int} (hl : len ≤ cap) (hm : cap ≤ maxLen) (h : ∀ r, r < cap → w.cell? (x.add r) = some (.slice (A r) (L r) (C r)) ∧ IsRow w (A r) (L r) (C r) (Z r)) :
    ∃ M, Strs w.heap.size w (.slice (some x) len cap) M := by
  have hm' : cap ≤ 9223372036854775807 := by unfold maxLen at hm; exact hm
  by_cases h0 : len = 0
  · subst h0
    exact ⟨[], .inl ⟨some x, cap, rfl, hm', rfl⟩⟩
  · obtain ⟨b, off, spot⟩ := x
    have hc0 := (h 0 (by omega)).1
    have hspot : spot = none := by simpa [Addr.add] using World.cell?_spot hc0
    subst hspot
    have each : ∀ r, r < cap → ∃ bs : List Nat, Str w.heap.size w (.slice (A r) (L r) (C r)) bs := fun r hr => by
      obtain ⟨bs, _, hs⟩ := isRow_str (h r hr).2
      exact ⟨bs, hs⟩
    obtain ⟨y, hy⟩ := Deep.choose_lt each
    have hlen : ((List.range len).map fun r => (Value.slice (A r) (L r) (C r), y r)).length = len := by simp
    refine ⟨(List.range len).map fun r => (.slice (A r) (L r) (C r), y r), .inr ⟨b, off, cap, by rw [hlen], by omega, hm', by have := cell_lt hc0; simpa [Addr.add] using this, fun j p hj => ?_, fun p hp => ?_⟩⟩
    · have hjl : j < len := by
        have := (List.getElem?_eq_some_iff.1 hj).1
        simpa using this
      have e := (h j (by omega)).1
      have ea : (⟨b, off, none⟩ : Addr).add j = ⟨b, off + j, none⟩ := by
        unfold Addr.add
        split
        · rename_i h; rw [h]; rfl
        · rfl
      rw [ea] at e
      simp [hjl] at hj
      rw [e, ← hj]
    · obtain ⟨r, hr, rfl⟩ := List.mem_map.1 hp
      have hr' : r < cap := by have := List.mem_range.1 hr; omega
      exact ⟨hy r hr', A r, C r, by show Value.slice (A r) (L r) (C r) = .slice (A r) (y r).length (C r); rw [(hy r hr').len]⟩
/-- The slice value v, nil or the call's own, holds strings that were there. -/
def OwS (w : World) (W : World) (v : Value) (M : List (Value × List Nat)) : Prop :=
  W.ownsRow w.heap.size 32 1 v M.length (M.map (·.1)) ∧ ∀ p ∈ M, p.2.length ≤ 500 ∧ Str w.heap.size w p.1 p.2 ∧ ∃ a cap, p.1 = .slice a p.2.length cap
theorem OwS.nil (w W : World) : OwS w W (.slice none 0 0) [] := ⟨World.ownsRow_nil _ _ _ _, fun p hp => by cases hp⟩
theorem OwS.snoc {w W : World} {v : Value} {M : List (Value × List Nat)} {a : Option Addr} {len cap : Nat} {bs : List Nat} (h : W.ownsRow w.heap.size 32 1 v (M.length + 1) (M.map (·.1) ++ [.slice a len cap])) (hM : ∀ p ∈ M, p.2.length ≤ 500 ∧ Str w.heap.size w p.1 p.2 ∧ ∃ a cap, p.1 = .slice a p.2.length cap) (hb : bs.length ≤ 500) (hs : Str w.heap.size w (.slice a len cap) bs) :
    OwS w W v (M ++ [(.slice a len cap, bs)]) := by
  refine ⟨by rw [List.length_append, List.map_append]; exact h, fun p hp => ?_⟩
  rcases List.mem_append.1 hp with hp | hp
  · exact hM p hp
  · obtain rfl : p = (.slice a len cap, bs) := by simpa using hp
    exact ⟨hb, hs, a, cap, by show Value.slice a len cap = .slice a bs.length cap; rw [hs.len]⟩
theorem OwS.shape {w W : World} {v : Value} {M : List (Value × List Nat)} (h : OwS w W v M) : ∃ a cap, v = .slice a M.length cap := by
  rcases h.1.2 with ⟨rfl, h0⟩ | ⟨g, cap, cur, rfl, _⟩
  · exact ⟨none, 0, by rw [h0]⟩
  · exact ⟨_, cap, rfl⟩
theorem OwS.strs {w W : World} {v : Value} {M : List (Value × List Nat)} (h : OwS w W v M) (hb : Below w.heap.size w W) : Strs W.heap.size W v M := by
  obtain ⟨⟨hl, h⟩, hs⟩ := h
  rcases h with ⟨rfl, h0⟩ | ⟨g, cap, cur, rfl, _, hg, hn, hc, _, ht⟩
  · exact .inl ⟨none, 0, rfl, by omega, List.eq_nil_of_length_eq_zero h0⟩
  · refine .inr ⟨g, 0, cap, rfl, hn, by unfold maxLen at hc; omega, (Array.getElem?_eq_some_iff.1 hg).1, fun j p hj => ?_, fun p hp => ⟨((hs p hp).2.1.below hb).mono hb.size, (hs p hp).2.2⟩⟩
    have hjl : j < M.length := (List.getElem?_eq_some_iff.1 hj).1
    have e : cur[j]? = some p.1 := by
      have h1 : (cur.toList.take (M.length * 1))[j]? = cur.toList[j]? := List.getElem?_take_of_lt (by omega)
      rw [ht] at h1
      rw [← Array.getElem?_toList, ← h1, List.getElem?_map, hj]; rfl
    simp [World.cell?, hg, e]
theorem info_sl : (Try.prog.info? 32).map (fun i => (i.zero, i.size, i.bytes)) = some (some (.slice none 0 0), 1, 24) := by kernel_rfl
theorem slice_flat {a : Option Addr} {n m : Nat} : ∀ u ∈ [Value.slice a n m], u.oneCell' = true := by
  intro u hu; simp at hu; subst hu; rfl
end Go.Proofs.Ytodeaddmachcjaa
