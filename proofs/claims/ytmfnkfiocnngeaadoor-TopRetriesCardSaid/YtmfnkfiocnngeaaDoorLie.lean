/- What a listener makes of bits, one by one, and what the same bits are as a whole. No program in it. No conditions. -/
import Derived.Test.YtmfnkfiocnngeaaDoorLic
namespace Go.Proofs.YtmfnkfiocnngeaaDoor
open Go.RowKit Go.Shelf
def LS.run (s : LS) (l : List Nat) : LS := l.foldl (fun s x => (s.hear x).1) s
theorem LS.run_snoc (s : LS) (l : List Nat) (x : Nat) : s.run (l ++ [x]) = ((s.run l).hear x).1 := by unfold LS.run; rw [List.foldl_append]; rfl
theorem LS.run_cons (s : LS) (l : List Nat) (x : Nat) : s.run (x :: l) = ((s.hear x).1).run l := rfl
theorem LS.run_take (s : LS) (l : List Nat) (j : Nat) (h : j < l.length) : s.run (l.take (j + 1)) = ((s.run (l.take j)).hear (l[j]?.getD 0)).1 := by
  rw [← LS.run_snoc]
  congr 1
  rw [List.take_add_one, List.getElem?_eq_getElem h]
  rfl
/-- The frame's cells have the form of a frame. -/
def FrF (l : List Value) : Prop := ∃ (e : Bool) (n : Nat) (q : Bool) (m : Nat) (x0 x1 x2 x3 x4 x5 x6 x7 : Nat), l = frameC e n q (m : Int) [x0, x1, x2, x3, x4, x5, x6, x7]
/-- What holds of a listener that has heard at most k bits. -/
structure LS.Ok (k : Nat) (s : LS) : Prop where
  p : s.p ≤ 5
  r : s.r.1 ≤ 1
  raw : s.raw.length ≤ k
  en : s.en ≤ k
  h : s.h ≤ k
  fr : FrF s.fr
theorem LS0_ok : LS.Ok 0 LS0 := ⟨Nat.zero_le _, Nat.zero_le _, Nat.le_refl _, Nat.le_refl _, Nat.le_refl _, ⟨false, 0, false, 0, 0, 0, 0, 0, 0, 0, 0, 0, rfl⟩⟩
theorem frC_form (l : List Nat) : FrF (frC (parseB l)) := by
  obtain ⟨e, n, q, m, x0, x1, x2, x3, x4, x5, x6, x7, _, _, _, h, _⟩ := pr_form l
  exact ⟨e, n, q, m, x0, x1, x2, x3, x4, x5, x6, x7, h⟩
theorem LS.step_ok {k : Nat} {s : LS} (h : s.Ok k) {r' : Nat × Nat} {raw' : List Nat} (h1 : r'.1 ≤ 1) (h2 : raw'.length ≤ k + 1) : (s.step r' raw').Ok (k + 1) := by
  have e1 := h.p; have e2 := h.en; have e3 := h.h
  unfold LS.step
  split
  · exact ⟨by show 1 ≤ 5; omega, h1, h2, by show s.en ≤ _; omega, by show s.h ≤ _; omega, frC_form _⟩
  · exact ⟨e1, h1, h2, by show s.en ≤ _; omega, by show s.h ≤ _; omega, h.fr⟩
theorem LS.Ok.more {k : Nat} {s : LS} (h : s.Ok k) : s.Ok (k + 1) := ⟨h.p, h.r, by have := h.raw; omega, by have := h.en; omega, by have := h.h; omega, h.fr⟩
theorem LS.step_h (s : LS) (r' : Nat × Nat) (raw' : List Nat) : (s.step r' raw').h = s.h := by unfold LS.step; split <;> rfl
/-- A bit keeps it, but for the count of bits, which is one more. -/
theorem LS.take_ok {k : Nat} {s : LS} (h : s.Ok k) (hp : s.p ≤ 4) (x : Nat) : (s.take x).1.p ≤ 5 ∧ (s.take x).1.r.1 ≤ 1 ∧ (s.take x).1.raw.length ≤ k + 1 ∧ (s.take x).1.en ≤ k + 1 ∧ (s.take x).1.h = s.h ∧ FrF (s.take x).1.fr := by
  have e1 := h.p; have e2 := h.r; have e3 := h.raw; have e4 := h.en; have e5 := h.fr
  unfold LS.take
  split
  · unfold LS.body
    split
    · exact ⟨e1, e2, by show s.raw.length ≤ _; omega, by show s.en ≤ _; omega, rfl, e5⟩
    · split
      · split
        · have g := LS.step_ok h (r' := (bitN x, 1)) (raw' := s.raw) (bitN_le _) (by omega)
          exact ⟨g.p, g.r, g.raw, g.en, LS.step_h _ _ _, g.fr⟩
        · exact ⟨e1, e2, by show s.raw.length ≤ _; omega, by show s.en ≤ _; omega, rfl, e5⟩
      · have g := LS.step_ok h (r' := nx s.r (bitN x)) (raw' := s.raw ++ [x]) (by rw [nx_fst]; exact bitN_le _) (by simp; omega)
        exact ⟨g.p, g.r, g.raw, g.en, LS.step_h _ _ _, g.fr⟩
  · split
    · unfold LS.last
      split
      · exact ⟨e1, e2, by show s.raw.length ≤ _; omega, by show s.en + 1 ≤ _; omega, rfl, e5⟩
      · split
        · exact ⟨e1, e2, by show s.raw.length ≤ _; omega, by show s.en + 1 ≤ _; omega, rfl, e5⟩
        · split
          · exact ⟨e1, e2, by show s.raw.length ≤ _; omega, by show s.en + 1 ≤ _; omega, rfl, e5⟩
          · exact ⟨e1, e2, by show s.raw.length ≤ _; omega, by show s.en + 1 ≤ _; omega, rfl, e5⟩
    · split
      · exact ⟨e1, e2, by show s.raw.length ≤ _; omega, by show s.en ≤ _; omega, rfl, e5⟩
      · split
        · exact ⟨e1, e2, by show s.raw.length ≤ _; omega, by show s.en ≤ _; omega, rfl, e5⟩
        · exact ⟨by show s.p + 1 ≤ 5; omega, e2, by show s.raw.length ≤ _; omega, by show s.en ≤ _; omega, rfl, e5⟩
theorem LS.hear_ok {k : Nat} {s : LS} (h : s.Ok k) (x : Nat) : ((s.hear x).1).Ok (k + 1) := by
  unfold LS.hear
  split
  · exact h.more
  · rename_i h5
    have ht : s.tick.Ok (k + 1) := ⟨h.p, h.r, by have := h.raw; show s.raw.length ≤ _; omega, by have := h.en; show s.en ≤ _; omega, by have := h.h; show s.h + 1 ≤ _; omega, h.fr⟩
    have ht0 : (⟨s.p, s.h, s.r, s.raw, s.fr, s.g, s.en, s.vl⟩ : LS).Ok k := h
    -- the tick's other parts are those of s
    have e := LS.take_ok (k := k) (s := s) h (by have := h.p; omega) x
    have hh : ∀ s' : LS, s'.p = s.p → s'.r = s.r → s'.raw = s.raw → s'.fr = s.fr → s'.g = s.g → s'.en = s.en → s'.vl = s.vl → s'.h = s.h + 1 → (s'.take x).1.p = (s.take x).1.p ∧ (s'.take x).1.r = (s.take x).1.r ∧ (s'.take x).1.raw = (s.take x).1.raw ∧ (s'.take x).1.en = (s.take x).1.en ∧ (s'.take x).1.fr = (s.take x).1.fr ∧ (s'.take x).1.h = s.h + 1 := by
      rintro ⟨p, h', r, raw, fr, g, en, vl⟩ rfl rfl rfl rfl rfl rfl rfl rfl
      unfold LS.take LS.body LS.last LS.step
      simp only
      (repeat' split) <;> exact ⟨rfl, rfl, rfl, rfl, rfl, rfl⟩
    obtain ⟨f1, f2, f3, f4, f5, f6⟩ := hh s.tick rfl rfl rfl rfl rfl rfl rfl rfl
    obtain ⟨g1, g2, g3, g4, _, g6⟩ := e
    have hk := h.h
    split
    · exact ⟨by rw [f1]; exact g1, by rw [f2]; exact g2, by rw [f3]; exact g3, by rw [f4]; exact g4, by rw [f6]; omega, by rw [f5]; exact g6⟩
    · exact ⟨Nat.le_refl 5, by show (s.tick.take x).1.r.1 ≤ 1; rw [f2]; exact g2, by show (s.tick.take x).1.raw.length ≤ _; rw [f3]; exact g3, by show (s.tick.take x).1.en ≤ _; rw [f4]; exact g4, by show (s.tick.take x).1.h ≤ _; rw [f6]; omega, by show FrF (s.tick.take x).1.fr; rw [f5]; exact g6⟩
theorem LS.run_ok (s : LS) (k : Nat) (h : s.Ok k) (l : List Nat) : (s.run l).Ok (k + l.length) := by
  induction l generalizing s k with
  | nil => exact h
  | cons x l ih =>
    rw [LS.run_cons, List.length_cons, show k + (l.length + 1) = k + 1 + l.length by omega]
    exact ih _ _ (LS.hear_ok h x)
end Go.Proofs.YtmfnkfiocnngeaaDoor
