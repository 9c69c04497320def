/- Package accord: Apply by cases; what both tell never falls. Conditions: each theorem says its own. -/
import Derived.Test.YtbjelggbnmfblaaAcm
namespace Go.Proofs.Ytbjelggbnmfblaa
open Go.RowKit
theorem ap_out (s : PD) (pn pa : Value) (q x b : Int) (hx : -9223372036854775808 ≤ x ∧ x ≤ 9223372036854775807) (B : Nat) (w : World) (h : PA w B s pn pa) (hn : s.no = some (x, b)) (hr : ¬ (1048576 - s.tu ≤ q ∧ q ≤ 1048576 + s.tu)) : Calls Try.prog 48 #[.pointer (some ⟨B, 0, none⟩), .int .i64 q] w fun y w' => y = .returned (.int .i64 1) ∧ Below w.heap.size w w' :=
  (pr_apply_some s pn pa q x b hx B w h hn).mono fun y w' h2 => by rw [if_neg hr] at h2; exact h2
theorem ap_yes (s : PD) (pn pa : Value) (q x b : Int) (hx : -9223372036854775808 ≤ x ∧ x ≤ 9223372036854775807) (B : Nat) (w : World) (h : PA w B s pn pa) (hn : s.no = some (x, b)) (hr : 1048576 - s.tu ≤ q ∧ q ≤ 1048576 + s.tu) (hg : goE s.c2 s.v2 s.r2 s.sc q x = 0) : Calls Try.prog 48 #[.pointer (some ⟨B, 0, none⟩), .int .i64 q] w fun y w' => y = .returned (.int .i64 0) ∧ PA w' B { s.went q x with ap := some (x, b) } (.pointer none) pn ∧ Kp B (.slice none 0 0) w w' :=
  (pr_apply_some s pn pa q x b hx B w h hn).mono fun y w' h2 => by rw [if_pos hr] at h2; obtain ⟨h3, h4, h5⟩ := h2; rw [hg] at h3; rw [if_pos hg] at h4; exact ⟨h3, h4, h5⟩
theorem ap_no (s : PD) (pn pa : Value) (q x b : Int) (hx : -9223372036854775808 ≤ x ∧ x ≤ 9223372036854775807) (B : Nat) (w : World) (h : PA w B s pn pa) (hn : s.no = some (x, b)) (hr : 1048576 - s.tu ≤ q ∧ q ≤ 1048576 + s.tu) (hg : ¬ goE s.c2 s.v2 s.r2 s.sc q x = 0) : Calls Try.prog 48 #[.pointer (some ⟨B, 0, none⟩), .int .i64 q] w fun y w' => y = .returned (.int .i64 (goE s.c2 s.v2 s.r2 s.sc q x)) ∧ PA w' B (s.went q x) (.pointer none) pa ∧ Kp B (.slice none 0 0) w w' :=
  (pr_apply_some s pn pa q x b hx B w h hn).mono fun y w' h2 => by rw [if_pos hr] at h2; obtain ⟨h3, h4, h5⟩ := h2; rw [if_neg hg] at h4; exact ⟨h3, h4, h5⟩
/-- What is noted is a number that can be. -/
def PD.noB (s : PD) : Prop := ∀ x b, s.no = some (x, b) → -9223372036854775808 ≤ x ∧ x ≤ 9223372036854775807
theorem PD.noB_less {s : PD} : ({ s with no := some (s.less, s.bi) } : PD).noB := fun x b e => by
  have e1 : s.less = x := by cases e; rfl
  have h1 := look_in s.c s.v s.r s.mc
  have h2 := look_in s.c2 s.v2 s.r2 s.sc
  rw [← e1]; unfold PD.less; omega
theorem PD.noB_none {s : PD} (h : s.no = none) : s.noB := fun x b e => by rw [h] at e; cases e
theorem readT_le (c v r t n : Int) : t ≤ readT c v r t n := by
  unfold readT
  split
  case isTrue h => exact Int.le_of_lt h.2
  case isFalse => exact Int.le_refl _
theorem stepped_ge (s : PD) (m x : Int) : s.t ≤ (s.stepped m x).t ∧ s.t2 ≤ (s.stepped m x).t2 := ⟨readT_le _ _ _ _ _, readT_le _ _ _ _ _⟩
/-- A pair in a law: younger than a world. -/
structure PQ (w u : World) (B : Nat) (s : PD) (pn pa : Value) : Prop where
  a : PA u B s pn pa
  below : Below w.heap.size w u
  la : w.heap.size ≤ B
theorem PQ.on {w u x : World} {B : Nat} {s : PD} {pn pa : Value} (h : PQ w u B s pn pa) (hb : Below u.heap.size u x) : PQ w x B s pn pa := ⟨h.a.on hb, below_transG h.below hb, h.la⟩
theorem PQ.step {w u x : World} {B : Nat} {s s' : PD} {pn pa pn' pa' : Value} (h : PQ w u B s pn pa) (ha : PA x B s' pn' pa') (hk : Kp B (.slice none 0 0) u x) : PQ w x B s' pn' pa' := ⟨ha, h.below.trans (hk.belowN h.la h.below.size (fun k e => by cases e)), h.la⟩
end Go.Proofs.Ytbjelggbnmfblaa
