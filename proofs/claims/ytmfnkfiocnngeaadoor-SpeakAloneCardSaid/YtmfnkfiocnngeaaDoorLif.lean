/- The body of a frame, heard bit by bit, and as a whole; and what comes behind it. No program in it. No conditions. -/
import Derived.Test.YtmfnkfiocnngeaaDoorLie
namespace Go.Proofs.YtmfnkfiocnngeaaDoor
open Go.RowKit Go.Shelf
/-- A listener within the body, that has heard k bits. -/
structure B0 (k : Nat) (s : LS) : Prop where
  p : s.p = 0
  h : s.h = k
  g : s.g = false
  en : s.en = 0
  vl : s.vl = false
  full : fullB s.r (bitsOf s.raw) = false
  nil : k = 0 ↔ s.raw = []
  r0 : k = 0 → s.r = (0, 0)
/-- A listener that has just heard a body. -/
structure E1 (k : Nat) (body : List Nat) (s : LS) : Prop where
  p : s.p = 1
  h : s.h = k
  fr : s.fr = frC (parseB body)
  g : s.g = okP (parseB body)
  en : s.en = 0
  vl : s.vl = false
  raw : bitsOf s.raw = body
theorem LS0_b0 : B0 0 LS0 := ⟨rfl, rfl, rfl, rfl, rfl, rfl, by simp [LS0], fun _ => rfl⟩
theorem bitsOf_snoc (raw : List Nat) (x : Nat) : bitsOf (raw ++ [x]) = bitsOf raw ++ [bitN x] := by simp [bitsOf]
theorem bitsOf_cons (x : Nat) (l : List Nat) : bitsOf (x :: l) = bitN x :: bitsOf l := by simp [bitsOf]
theorem hear_zero {s : LS} (h : s.p = 0) (x : Nat) : s.hear x = if (s.tick.body x).2 = 0 ∨ (s.tick.body x).2 = 4 then s.tick.body x else ((s.tick.body x).1.off, (s.tick.body x).2) := by
  have e : s.tick.take x = s.tick.body x := by
    unfold LS.take
    rw [if_pos (show s.tick.p = 0 from h)]
  unfold LS.hear
  rw [if_neg (by omega), e]
theorem step_new {s : LS} {k : Nat} (hb : B0 k s) (r' : Nat × Nat) (raw' : List Nat) (hn : raw' ≠ []) : (fullB r' (bitsOf raw') = true ∧ E1 (k + 1) (bitsOf raw') (s.tick.step r' raw')) ∨ (fullB r' (bitsOf raw') = false ∧ B0 (k + 1) (s.tick.step r' raw') ∧ (s.tick.step r' raw').r = r' ∧ (s.tick.step r' raw').raw = raw') := by
  unfold LS.step
  by_cases h : fullB r' (bitsOf raw') = true
  · rw [if_pos h]
    refine .inl ⟨h, rfl, ?_, rfl, rfl, hb.en, hb.vl, rfl⟩
    show s.h + 1 = k + 1
    rw [hb.h]
  · rw [if_neg h]
    have h' : fullB r' (bitsOf raw') = false := by simpa using h
    refine .inr ⟨h', ⟨hb.p, ?_, hb.g, hb.en, hb.vl, h', by simp [hn], fun h => absurd h (Nat.succ_ne_zero k)⟩, rfl, rfl⟩
    show s.h + 1 = k + 1
    rw [hb.h]
theorem hear_b0 {s : LS} {k : Nat} (hb : B0 k s) (x : Nat) (L : List Nat) :
    (k = 0 ∧ bitN x ≠ 0 ∧ opnB s.r (bitsOf s.raw) k (bitN x :: L) = (3, 0, bitsOf s.raw) ∧ (s.hear x).2 = 2 ∧ (s.hear x).1.p = 5 ∧ (s.hear x).1.vl = false) ∨
    (opnB s.r (bitsOf s.raw) k (bitN x :: L) = (4, k, bitsOf s.raw) ∧ (s.hear x).2 = 1 ∧ (s.hear x).1.p = 5 ∧ (s.hear x).1.vl = false) ∨
    ((s.hear x).2 = 0 ∧ ((∃ body, opnB s.r (bitsOf s.raw) k (bitN x :: L) = (0, k + 1, body) ∧ E1 (k + 1) body (s.hear x).1) ∨ (B0 (k + 1) (s.hear x).1 ∧ opnB s.r (bitsOf s.raw) k (bitN x :: L) = opnB (s.hear x).1.r (bitsOf (s.hear x).1.raw) (k + 1) L))) := by
  have hx0 : bitN x ≠ 0 ↔ x ≠ 0 := by
    unfold bitN; split <;> simp_all
  rw [hear_zero hb.p]
  by_cases hz : s.raw = [] ∧ x ≠ 0
  · have e : s.tick.body x = (s.tick, 2) := by unfold LS.body; rw [if_pos (show s.tick.raw = [] ∧ x ≠ 0 from hz)]
    have hk : k = 0 := hb.nil.2 hz.1
    refine .inl ⟨hk, hx0.2 hz.2, ?_, ?_, ?_, ?_⟩
    · rw [opnB_cons, hb.full, if_neg (by decide), if_pos ⟨hk, hx0.2 hz.2⟩]
    · rw [e]; rfl
    · rw [e]; rfl
    · rw [e]; exact hb.vl
  · have hop : opnB s.r (bitsOf s.raw) k (bitN x :: L) = match uStep (some (s.r, bitsOf s.raw)) (bitN x) with
        | none => (4, k, bitsOf s.raw)
        | some t => opnB t.1 t.2 (k + 1) L := by
      rw [opnB_cons, hb.full, if_neg (by decide), if_neg (fun h => hz ⟨hb.nil.1 h.1, hx0.1 h.2⟩)]
      rfl
    refine .inr ?_
    by_cases h5 : 5 ≤ s.r.2
    · have hne : s.raw ≠ [] := fun h => by
        have := hb.r0 (hb.nil.2 h)
        rw [this] at h5
        exact absurd h5 (by decide)
      by_cases hv : bitN x = 1 - s.r.1
      · have e : s.tick.body x = (s.tick.step (bitN x, 1) s.raw, 0) := by
          unfold LS.body
          rw [if_neg (show ¬ (s.tick.raw = [] ∧ x ≠ 0) from hz), if_pos (show 5 ≤ s.tick.r.2 from h5), if_pos (show bitN x = 1 - s.tick.r.1 from hv)]
          rfl
        have hu : uStep (some (s.r, bitsOf s.raw)) (bitN x) = some ((bitN x, 1), bitsOf s.raw) := by
          show (if 5 ≤ s.r.2 then (if bitN x = 1 - s.r.1 then some ((bitN x, 1), bitsOf s.raw) else none) else _) = _
          rw [if_pos h5, if_pos hv]
        rw [hu] at hop
        have h2 : (if (s.tick.body x).2 = 0 ∨ (s.tick.body x).2 = 4 then s.tick.body x else ((s.tick.body x).1.off, (s.tick.body x).2)) = (s.tick.step (bitN x, 1) s.raw, 0) := by rw [e]; rfl
        rw [h2]
        refine .inr ⟨rfl, ?_⟩
        rcases step_new hb (bitN x, 1) s.raw hne with ⟨hf, hE⟩ | ⟨hf, hB, h3, h4⟩
        · exact .inl ⟨_, by rw [hop]; exact opnB_full hf _ _, hE⟩
        · refine .inr ⟨hB, ?_⟩
          rw [hop]
          simp only [h3, h4]
      · have e : s.tick.body x = (s.tick, 1) := by
          unfold LS.body
          rw [if_neg (show ¬ (s.tick.raw = [] ∧ x ≠ 0) from hz), if_pos (show 5 ≤ s.tick.r.2 from h5), if_neg (show ¬ bitN x = 1 - s.tick.r.1 from hv)]
        have hu : uStep (some (s.r, bitsOf s.raw)) (bitN x) = none := by
          show (if 5 ≤ s.r.2 then (if bitN x = 1 - s.r.1 then some ((bitN x, 1), bitsOf s.raw) else none) else _) = _
          rw [if_pos h5, if_neg hv]
        rw [hu] at hop
        exact .inl ⟨hop, by rw [e]; rfl, by rw [e]; rfl, by rw [e]; exact hb.vl⟩
    · have e : s.tick.body x = (s.tick.step (nx s.r (bitN x)) (s.raw ++ [x]), 0) := by
        unfold LS.body
        rw [if_neg (show ¬ (s.tick.raw = [] ∧ x ≠ 0) from hz), if_neg (show ¬ 5 ≤ s.tick.r.2 from h5)]
        rfl
      have hu : uStep (some (s.r, bitsOf s.raw)) (bitN x) = some (nx s.r (bitN x), bitsOf (s.raw ++ [x])) := by
        show (if 5 ≤ s.r.2 then _ else some (nx s.r (bitN x), bitsOf s.raw ++ [bitN x])) = _
        rw [if_neg h5, bitsOf_snoc]
      rw [hu] at hop
      have h2 : (if (s.tick.body x).2 = 0 ∨ (s.tick.body x).2 = 4 then s.tick.body x else ((s.tick.body x).1.off, (s.tick.body x).2)) = (s.tick.step (nx s.r (bitN x)) (s.raw ++ [x]), 0) := by rw [e]; rfl
      rw [h2]
      refine .inr ⟨rfl, ?_⟩
      rcases step_new hb (nx s.r (bitN x)) (s.raw ++ [x]) (by simp) with ⟨hf, hE⟩ | ⟨hf, hB, h3, h4⟩
      · exact .inl ⟨_, by rw [hop]; exact opnB_full hf _ _, hE⟩
      · refine .inr ⟨hB, ?_⟩
        rw [hop]
        simp only [h3, h4]
/-- What is heard of a body, bit by bit. -/
theorem phase : ∀ (l : List Nat) (s : LS) (k : Nat), B0 k s → ∃ m, m ≤ l.length ∧ (∀ j, j < m → ((s.run (l.take j)).hear (l[j]?.getD 0)).2 = 0 ∧ B0 (k + j) (s.run (l.take j))) ∧
    ((∃ body, opnB s.r (bitsOf s.raw) k (bitsOf l) = (0, k + m, body) ∧ 0 < m ∧ E1 (k + m) body (s.run (l.take m))) ∨
     (∃ body, opnB s.r (bitsOf s.raw) k (bitsOf l) = (2, k + m, body) ∧ m = l.length ∧ B0 (k + m) (s.run (l.take m))) ∨
     (∃ body, opnB s.r (bitsOf s.raw) k (bitsOf l) = (3, 0, body) ∧ k + m = 0 ∧ m < l.length ∧ ((s.run (l.take m)).hear (l[m]?.getD 0)).2 = 2 ∧ ((s.run (l.take m)).hear (l[m]?.getD 0)).1.p = 5 ∧ ((s.run (l.take m)).hear (l[m]?.getD 0)).1.vl = false) ∨
     (∃ body, opnB s.r (bitsOf s.raw) k (bitsOf l) = (4, k + m, body) ∧ m < l.length ∧ ((s.run (l.take m)).hear (l[m]?.getD 0)).2 = 1 ∧ ((s.run (l.take m)).hear (l[m]?.getD 0)).1.p = 5 ∧ ((s.run (l.take m)).hear (l[m]?.getD 0)).1.vl = false)) := by
  intro l
  induction l with
  | nil =>
    intro s k hb
    refine ⟨0, Nat.le_refl _, fun j hj => by omega, .inr (.inl ⟨bitsOf s.raw, ?_, rfl, hb⟩)⟩
    rw [show bitsOf [] = [] from rfl, opnB_nil, hb.full, if_neg (by decide)]
    rfl
  | cons x l ih =>
    intro s k hb
    rw [bitsOf_cons]
    have g0 : (x :: l)[0]?.getD 0 = x := rfl
    rcases hear_b0 hb x (bitsOf l) with ⟨h1, h2, h3, h4, h5, h6⟩ | ⟨h3, h4, h5, h6⟩ | ⟨h4, ⟨body, h5, h6⟩ | ⟨h5, h6⟩⟩
    · exact ⟨0, Nat.zero_le _, fun j hj => by omega, .inr (.inr (.inl ⟨_, h3, by omega, by simp, h4, h5, h6⟩))⟩
    · exact ⟨0, Nat.zero_le _, fun j hj => by omega, .inr (.inr (.inr ⟨_, h3, by simp, h4, h5, h6⟩))⟩
    · refine ⟨1, by simp, fun j hj => ?_, .inl ⟨body, h5, by omega, h6⟩⟩
      obtain rfl : j = 0 := by omega
      exact ⟨h4, hb⟩
    · obtain ⟨m, hm, hall, hres⟩ := ih _ _ h5
      have sh : ∀ j, s.run ((x :: l).take (j + 1)) = ((s.hear x).1).run (l.take j) := fun j => by rw [List.take_succ_cons, LS.run_cons]
      have gj : ∀ j, (x :: l)[j + 1]?.getD 0 = l[j]?.getD 0 := fun j => by simp
      refine ⟨m + 1, by simpa using hm, fun j hj => ?_, ?_⟩
      · cases j with
        | zero => exact ⟨h4, hb⟩
        | succ j =>
          have := hall j (by omega)
          rw [sh, gj, show k + (j + 1) = k + 1 + j by omega]
          exact this
      · rw [h6, sh, gj, show k + (m + 1) = k + 1 + m by omega]
        rcases hres with ⟨body, a, b, c⟩ | ⟨body, a, b, c⟩ | ⟨body, a, b, c⟩ | ⟨body, a, b, c⟩
        · exact .inl ⟨body, a, by omega, c⟩
        · exact .inr (.inl ⟨body, a, by simp [b], c⟩)
        · omega
        · exact .inr (.inr (.inr ⟨body, a, by simpa using b, c⟩))
/-- A listener that has heard n of the ten bits behind a body. -/
def eN (s : LS) (n : Nat) : LS := ⟨if n = 0 then 1 else if n = 1 then 2 else if n = 2 then 3 else 4, s.h + n, s.r, s.raw, s.fr, s.g, n - 3, decide (n = 9)⟩
theorem eN_zero {k : Nat} {body : List Nat} {s : LS} (h : E1 k body s) : eN s 0 = s := by
  obtain ⟨p, h', r, raw, fr, g, en, vl⟩ := s
  have h1 := h.p; have h2 := h.en; have h3 := h.vl
  simp only at h1 h2 h3
  subst h1 h2 h3
  rfl
/-- Each of the ten bits. -/
theorem end_bit (s : LS) (n : Nat) (hn : n ≤ 9) (x : Nat) :
    (x = 0 ∧ n ≠ 1 → ((eN s n).hear x).2 = (if n = 9 then 6 else 2) ∧ ((eN s n).hear x).1.p = 5 ∧ ((eN s n).hear x).1.vl = decide (n = 9)) ∧
    (¬ (x = 0 ∧ n ≠ 1) → s.g = false ∧ n = 2 → ((eN s n).hear x).2 = 3 ∧ ((eN s n).hear x).1.p = 5 ∧ ((eN s n).hear x).1.vl = false) ∧
    (¬ (x = 0 ∧ n ≠ 1) → ¬ (s.g = false ∧ n = 2) → (n < 9 → (eN s n).hear x = (eN s (n + 1), if n = 8 then 4 else 0)) ∧ (n = 9 → ((eN s n).hear x).2 = 5 ∧ ((eN s n).hear x).1.p = 5 ∧ ((eN s n).hear x).1.vl = true ∧ ((eN s n).hear x).1.fr = s.fr ∧ ((eN s n).hear x).1.h = s.h + 10)) := by
  have hc : n = 0 ∨ n = 1 ∨ n = 2 ∨ n = 3 ∨ n = 4 ∨ n = 5 ∨ n = 6 ∨ n = 7 ∨ n = 8 ∨ n = 9 := by omega
  rcases hc with rfl | rfl | rfl | rfl | rfl | rfl | rfl | rfl | rfl | rfl
  all_goals by_cases hx : x = 0
  all_goals cases hg : s.g
  all_goals simp [eN, LS.hear, LS.tick, LS.take, LS.last, LS.off, hx, hg]
end Go.Proofs.YtmfnkfiocnngeaaDoor
