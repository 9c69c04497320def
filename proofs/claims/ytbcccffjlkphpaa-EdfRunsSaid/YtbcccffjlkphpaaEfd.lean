/- SameInts of two slices of alike numbers. Conditions: none. -/
import Derived.Test.YtbcccffjlkphpaaEdu
namespace Go.Proofs.Ytbcccffjlkphpaa
open Go.RowKit Go.Shelf
set_option linter.unusedSimpArgs false
set_option linter.unusedVariables false
attribute [local go_sem] Oper.semAt_some
def Ints (W : World) (a : Option Addr) (h : List Int) : Prop := ∀ j (hj : j < h.length), ∃ g off, a = some ⟨g, off, none⟩ ∧ g < W.heap.size ∧ W.cell? ⟨g, off + j, none⟩ = some (.int .i64 h[j])
theorem Ints.on {W X : World} {a : Option Addr} {h : List Int} (hi : Ints W a h) (hb : Below W.heap.size W X) : Ints X a h := fun j hj => by
  obtain ⟨g, off, h1, h2, h3⟩ := hi j hj
  exact ⟨g, off, h1, Nat.lt_of_lt_of_le h2 hb.size, (hb.cell (p := ⟨g, off + j, none⟩) h2).trans h3⟩
theorem Ints.nil (W : World) (a : Option Addr) : Ints W a [] := fun _ hj => absurd hj (by simp)
theorem Ints.ofNums {W : World} {a : Option Addr} {n c : Nat} {Z : List Int} (h : Nums W (.slice a n c) Z) : n = Z.length ∧ Ints W a Z := by
  obtain ⟨a', c', e, hk⟩ := h
  injection e with e1 e2 e3
  subst e1
  refine ⟨e2, fun j hj => ?_⟩
  obtain ⟨g, h1, h2, h3⟩ := hk j hj
  exact ⟨g, 0, h1, h2, by rw [Nat.zero_add]; exact h3⟩
set_option maxRecDepth 100000 in
set_option maxHeartbeats 4000000 in
theorem same_ints (L : List Int) (hl : L.length ≤ 1000) (a a' : Option Addr) (cap cap' : Nat) (w : World) (h1 : Ints w a L) (h2 : Ints w a' L) : Calls Try.prog 15 #[.slice a L.length cap, .slice a' L.length cap'] w fun y w' => y = .returned (.bool true) ∧ Below w.heap.size w w' := by
  have H1 := Lib.hid h1; have H2 := Lib.hid h2
  obtain ⟨len, hlen⟩ : ∃ len, len = L.length := ⟨_, rfl⟩
  rw [← hlen] at hl ⊢
  have HL := Lib.hid hlen
  clear h1 h2 hlen
  have d0 : ((len : Int) == (len : Int)) = true := by simp
  go_enter Try.func15, Try.ntmps15
  go_wp2_with fail
  go_loopw [5] (fun s5 wr => ∃ i : Nat, s5 = .int .i64 (i : Int) ∧ i ≤ len ∧ Below w.heap.size w wr) (fun s5 _ => len - (intOf s5).toNat)
  case atStart => exact ⟨0, rfl, by omega, Below.refl _ _⟩
  case round =>
    obtain ⟨i, rfl, hi, hb⟩ := hrel
    have HB := Lib.hid hb
    clear hb
    by_cases hlt : i < len
    · have i1 : (i : Int) < (len : Int) := by omega
      have i2 : (0 : Int) ≤ (i : Int) := by omega
      have i3 : (i : Int) ≤ 1000 := by omega
      obtain ⟨g, off, rfl, hg, hc⟩ := H1.out i (by rw [← HL.out]; exact hlt)
      obtain ⟨g', off', rfl, hg', hc'⟩ := H2.out i (by rw [← HL.out]; exact hlt)
      obtain ⟨X, hX⟩ : ∃ X, X = L[i]'(by rw [← HL.out]; exact hlt) := ⟨_, rfl⟩
      rw [← hX] at hc hc'
      have HZ := Lib.hid (show ∀ u, Below w.heap.size w u → Below w.heap.size w u ∧ u.cell? ⟨g, off + i, none⟩ = some (.int .i64 X) ∧ u.cell? ⟨g', off' + i, none⟩ = some (.int .i64 X) from fun u hu => ⟨hu, (hu.cell (p := ⟨g, off + i, none⟩) hg).trans hc, (hu.cell (p := ⟨g', off' + i, none⟩) hg').trans hc'⟩)
      have e1 : (X == X) = true := by simp
      clear hX hc hc' hg hg'
      go_upto_region 6 with fail
      refine wp_region_class (C := fun u => Below w.heap.size w u ∧ u.cell? ⟨g, off + i, none⟩ = some (.int .i64 X) ∧ u.cell? ⟨g', off' + i, none⟩ = some (.int .i64 X)) (by kernel_rfl) (by kernel_rfl) (HZ.out _ HB.out.drew) ?_
      repeat
        with_reducible refine wpQuiet_step (fun K hK => ?_)
        first
          | (refine quiet_skip (by rfl) ?_; (with_reducible refine hK _ ?_); clear hK K)
          | (refine quiet_want (by rfl) ?_
             apply Exists.intro
             refine ⟨fun x hx => ?_, hK _ ?_⟩
             (obtain ⟨_, hx1, hx2⟩ := id hx; go_simp; first | done | rfl | (fail))
             clear hK K)
        try simp only [Act.put, List.setIfInBounds_toArray, List.set_cons_zero, List.set_cons_succ]
      with_reducible refine wpQuiet_nil ?_
      intro wq hq
      have HQ := Lib.hid hq.1
      clear hq HZ
      go_wp2_with fail
      go_roundw
      case rel => exact ⟨i + 1, by simp, by omega, HQ.out⟩
      case measure => simp [intOf]; omega
    · obtain rfl : i = len := by omega
      go_wp2_with fail
      go_ret
      exact ⟨rfl, HB.out⟩
end Go.Proofs.Ytbcccffjlkphpaa
