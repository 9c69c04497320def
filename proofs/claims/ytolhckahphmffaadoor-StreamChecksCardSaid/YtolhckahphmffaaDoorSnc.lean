/- Package stream: Ranked, of any slice of streams. Conditions: there are at most a million. -/
import Derived.Test.YtolhckahphmffaaDoorSnb
namespace Go.Proofs.YtolhckahphmffaaDoor
open Go.RowKit Go.Shelf Go.Sort
attribute [local go_sem] Oper.semAt_some
set_option maxRecDepth 100000 in
theorem clone_emp (a : Option Addr) (cap : Nat) (w : World) : Calls Tryd.prog 49 #[.slice a 0 cap] w fun y w' => ∃ v, y = .returned v ∧ w'.ownsRow w.heap.size 30 7 v 0 [] ∧ Below w.heap.size w w' := by
  cases a with
  | none =>
    refine (Tryd.slices_Clone_nil 0 cap w).mono ?_
    rintro y w' ⟨rfl, rfl⟩
    exact ⟨_, rfl, ⟨rfl, .inl ⟨rfl, rfl⟩⟩, Below.refl _ _⟩
  | some p =>
    obtain ⟨i0, hi, hz0, hz1, hz2⟩ := info_parts info_stream
    have hown : (w.alloc (.cells #[] 30)).ownsRow w.heap.size 30 7 (.slice (some ⟨w.heap.size, 0, none⟩) 0 0) 0 [] := ⟨rfl, .inr ⟨w.heap.size, 0, #[], rfl, Nat.le_refl _, Blk.new w 30 [], Nat.le_refl _, by simp, rfl, rfl⟩⟩
    have HR := Lib.hid hown
    have HM := Lib.hid (show w.heap.size ≤ (w.alloc (.cells #[] 30)).heap.size by simp only [World.size_alloc]; omega)
    have HB := Lib.hid ((Below.refl w.heap.size w).alloc (Nat.le_refl _) (.cells #[] 30))
    have HX1 := Lib.hid (show ∀ (j : Nat) (u : Value), ([] : List Value)[j]? = some u → (w.alloc (.cells #[] 30)).cell? (p.add j) = some u from fun j u h => by simp at h)
    have HX2 := Lib.hid (show ∀ u ∈ ([] : List Value), u.oneCell' = true from fun u h => by cases h)
    clear hown
    have he : Sem.run Tryd.prog (binOp .eql 22 (.slice (some p) 0 cap) (.slice none 0 0)) w = .ok (.bool false) w := Lib.run_eql_slice_nil w 22 30 (some p) 0 cap 0 0 Tryd.underlying22
    go_enter Tryd.func49, Tryd.ntmps49
    go_wp2_with (at_builtin; refine wpList_append_own _ rfl _ _ 22 rfl w.heap.size 30 i0 (.agg #[.int .i64 0, .int .i64 0, .int .i64 0, .int .i64 0, .int .i64 0, .int .i64 0, .int .i64 0]) 7 56 Tryd.underlying22 hi hz0 hz1 hz2 rfl (by decide) _ 0 [] rfl HR.out p 0 cap [] rfl rfl HX1.out HX2.out (by decide) (by decide) HM.out ?_)
    intro v' w3 hown2 hgrow _
    have HB3 := Lib.hid (HB.out.grown hgrow HM.out (fun j e => by cases e; exact Nat.le_refl _))
    have HR3 := Lib.hid hown2
    clear hown2 hgrow
    go_wp2
    go_ret
    exact ⟨_, rfl, HR3.out, HB3.out⟩
theorem own_emp {W W' : World} {base : Nat} {v : Value} {row : Option Nat} (h : W.ownsRow base 30 7 v 0 []) (hg : W.grownBy W' row) (hr : ∀ r, row = some r → ∃ o : Obj, W.heap[r]? = some o ∧ o.isCells = false) : W'.ownsRow base 30 7 v 0 [] := by
  refine ⟨h.1, ?_⟩
  rcases h.2 with h1 | ⟨g, cap, cur, h1, h2, h3, h4⟩
  · exact .inl h1
  · exact .inr ⟨g, cap, cur, h1, h2, heap_own h3 hg hr, h4⟩
theorem own_empb {W W' : World} {base : Nat} {v : Value} (h : W.ownsRow base 30 7 v 0 []) (hb : Below W.heap.size W W') : W'.ownsRow base 30 7 v 0 [] := by
  refine ⟨h.1, ?_⟩
  rcases h.2 with h1 | ⟨g, cap, cur, h1, h2, h3, h4⟩
  · exact .inl h1
  · exact .inr ⟨g, cap, cur, h1, h2, (hb.block g (Array.getElem?_eq_some_iff.1 h3).1).trans h3, h4⟩
theorem own_sl {W : World} {base : Nat} {v : Value} (h : W.ownsRow base 30 7 v 0 []) : ∃ a c, v = .slice a 0 c := by
  rcases h.2 with ⟨h1, _⟩ | ⟨g, cap, cur, h1, _⟩
  · exact ⟨_, _, h1⟩
  · exact ⟨_, _, h1⟩
set_option maxRecDepth 100000 in
set_option maxHeartbeats 4000000 in
theorem sranked_nil_in (n : Nat) (hn : 3 ≤ n) (a : Option Addr) (cap : Nat) (w : World) :
    CallsIn Fence.wide n Tryd.prog 23 #[.slice a 0 cap] w fun y W' => ∃ v, y = .returned v ∧ W'.ownsRow w.heap.size 30 7 v 0 [] ∧ Below w.heap.size w W' := by
  have h1 : 1 ≤ n := by omega
  refine callsIn_of_wp_marks Tryd.func23 rfl trivial ?_ rfl
  simp only [Tryd.ntmps23, List.size_toArray, List.length_cons, List.length_nil, Nat.reduceAdd, Nat.reduceSub, Array.replicate_succ, Array.replicate_zero, List.push_toArray, List.append_toArray, List.nil_append, List.cons_append]
  gi_wp2_with (fail)
  refine ⟨trivial, ?_⟩
  refine (callsIn_wide.2 (clone_emp a cap w)).mono ?_
  rintro y w1 ⟨v1, rfl, ho1, hb1⟩
  obtain ⟨a1, c1, rfl⟩ := own_sl ho1
  have HB1 := Lib.hid hb1; have HO1 := Lib.hid ho1
  clear hb1 ho1
  gi_wp2_with (fail)
  obtain ⟨B3, hB3⟩ : ∃ B, B = w1.heap.size := ⟨_, rfl⟩
  obtain ⟨W2, hW2⟩ : ∃ W, W = w1.alloc (.cells #[.slice a1 0 c1] 22) := ⟨_, rfl⟩
  have h3 : Boxed W2 B3 22 (.slice a1 0 c1) := by rw [hW2, hB3]; exact Boxed.new _ _ _
  have hw2 : Below w1.heap.size w1 W2 := by rw [hW2]; exact (Below.refl _ w1).alloc (Nat.le_refl _) _
  have HB2 := Lib.hid (below_transG HB1.out hw2); have H3 := Lib.hid h3; have HO2 := Lib.hid (own_empb HO1.out hw2)
  rw [← hW2, ← hB3]
  clear hW2 hB3 h3 hw2 HB1 HO1
  refine ⟨trivial, ?_⟩
  refine (callsIn_wide.2 (clone_emp a cap W2)).mono ?_
  rintro y w3 ⟨v2, rfl, ho2, hb2⟩
  obtain ⟨a2, c2, rfl⟩ := own_sl ho2
  clear ho2
  have HO3 := Lib.hid (own_empb HO2.out hb2)
  have HB3 := Lib.hid (below_transG HB2.out hb2)
  have H33 := Lib.hid (boxed_below H3.out hb2 H3.out.lt)
  clear hb2 H3 HO2
  gi_wp2_with (fail)
  refine ⟨trivial, ?_⟩
  refine (callsIn_wide.2 (df_none a2 0 c2 [] (by simp) (fun x hx => by cases hx) w3 (.inl ⟨_, _, rfl, rfl⟩))).mono ?_
  rintro y w4 ⟨rfl, hb4⟩
  have HB4 := Lib.hid (below_transG HB3.out hb4)
  have H34 := Lib.hid (boxed_below H33.out hb4 H33.out.lt)
  have HO4 := Lib.hid (own_empb HO3.out hb4)
  clear hb4 H33 HO3
  gi_wp2_with (fail)
  obtain ⟨B4, hB4⟩ : ∃ B, B = w4.heap.size := ⟨_, rfl⟩
  obtain ⟨W5, hW5⟩ : ∃ W, W = w4.alloc (.cells #[.slice a2 0 c2] 22) := ⟨_, rfl⟩
  have h4 : Boxed W5 B4 22 (.slice a2 0 c2) := by rw [hW5, hB4]; exact Boxed.new _ _ _
  have hw5 : Below w4.heap.size w4 W5 := by rw [hW5]; exact (Below.refl _ w4).alloc (Nat.le_refl _) _
  have HB5 := Lib.hid (below_transG HB4.out hw5)
  have H35 := Lib.hid (boxed_below H34.out hw5 H34.out.lt); have H45 := Lib.hid h4; have HO5 := Lib.hid (own_empb HO4.out hw5)
  rw [← hW5, ← hB4]
  clear hW5 hB4 h4 hw5 H34 HO4
  refine ⟨trivial, ?_⟩
  refine (callsIn_wide.2 (Tryd.slices_SortFunc_none (α := Sm) a2 c2 _ W5)).mono ?_
  rintro y w6 ⟨rfl, rfl⟩
  gi_wp2_with (fail)
  refine ⟨trivial, ?_⟩
  refine (placed_in (n - 1) _ _ _ _).mono ?_
  rintro e w' ⟨rfl, rfl⟩
  obtain ⟨B7, hB7⟩ : ∃ B, B = w6.heap.size := ⟨_, rfl⟩
  obtain ⟨W7, hW7⟩ : ∃ W, W = w6.alloc (.cells #[.slice a 0 cap] 22) := ⟨_, rfl⟩
  have h7 : Boxed W7 B7 22 (.slice a 0 cap) := by rw [hW7, hB7]; exact Boxed.new _ _ _
  have hw7 : Below w6.heap.size w6 W7 := by rw [hW7]; exact (Below.refl _ w6).alloc (Nat.le_refl _) _
  have HB7 := Lib.hid (below_transG HB5.out hw7)
  have H37 := Lib.hid (boxed_below H35.out hw7 H35.out.lt); have HO7 := Lib.hid (own_empb HO5.out hw7)
  rw [← hW7, ← hB7]
  have hle7 : w.heap.size ≤ W7.heap.size := HB7.out.size
  clear hW7 hB7 hw7 H35 HO5 H45
  gi_wp2_with (fail)
  refine wpIn_rangeFunc_ownH rfl h1 (gf := 69) (lb := #[.pointer (some ⟨B7, 0, none⟩)]) rfl trivial (enters_of Tryd.func69 (by kernel_rfl) rfl)
    (placed_stops (n - 1) (by omega) B7 w.heap.size _ [] (by simp) W7 h7.lt hle7 h7.cell (.inl ⟨_, _, rfl, rfl⟩)) belowK_t (belowK_b hle7) (Below.refl _ _) (fun _ => rfl)
    (fun _ W => (Boxed W B3 22 (.slice a1 0 c1) ∧ W.ownsRow w.heap.size 30 7 (.slice a1 0 c1) 0 []) ∧ Below w.heap.size w W)
    (fun _ _ _ => False)
    (OwnFrom.and (Own.from (fun s A B row hs hg hr => ⟨boxed_own hs.1 hg hr, own_emp hs.2 hg hr⟩) _) (ownFrom_below (Nat.le_refl _) hle7))
    (fun _ _ _ _ _ hs _ _ => hs)
    ⟨⟨H37.out, HO7.out⟩, HB7.out⟩
    (fun _ _ _ => False)
    (fun x _ => x.elim0) ?assign ?body ?done ?stop
  case assign =>
    intro l pre x W K hI hK
    exact x.elim0
  case body =>
    intro l pre x
    exact x.elim0
  case done =>
    rintro D2 ys W hD hys ⟨⟨b3, hro⟩, hB⟩ hK
    have q3 := b3.cell
    have HB := Lib.hid hB; have HRO := Lib.hid hro
    clear hB b3 hro h7
    gi_wp2
    refine ⟨by simp, .inl ⟨_, _, rfl, run_takeDeferred hK, ?_⟩⟩
    refine ⟨_, results_tmp rfl _ _ _, _, rfl, ownsRow_putObj HRO.out _ hK rfl, HB.out.trans (belowK_b (w := w) (Nat.le_refl _) W D2 _ _ (by omega) hK rfl rfl)⟩
  case stop =>
    rintro D2 c pre W _ _ h _
    exact h.elim
/-- Ranked, of whatever slice of streams. -/
theorem sranked3_any (a : Option Addr) (ln cap : Nat) (L : List Sm) (hreach : L.length ≤ 1000000) (w : World) (hI : Sts w.heap.size w (.slice a ln cap) L) :
    Calls Tryd.prog 23 #[.slice a ln cap] w fun y W' => ∃ v, y = .returned v ∧ W'.ownsRow w.heap.size 30 7 v L.length ((L.map (rkD L)).flatMap Sm.C) ∧ Below w.heap.size w W' := by
  rcases hI with ⟨a', c', e, rfl⟩ | ⟨g, off, _, e, hg, hc⟩
  · injection e with e1 e2 e3
    subst e1 e2 e3
    exact callsIn_wide.1 (sranked_nil_in 3 (by omega) _ _ w)
  · injection e with e1 e2 e3
    subst e1 e2 e3
    refine (sranked2_any g off _ L hreach w hg hc).mono ?_
    rintro y W' ⟨v, rfl, h1, _, h2⟩
    exact ⟨v, rfl, h1, h2⟩
end Go.Proofs.YtolhckahphmffaaDoor
