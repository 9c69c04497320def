/- Package edf: the jobs that wait, in the memory: a heap, and those that are to come; what a call of its methods changes; Len and Less. Conditions: each theorem says its own. -/
import Derived.Test.YtbcccffjlkphpaaEdh
namespace Go.Proofs.Ytbcccffjlkphpaa
open Go.RowKit Go.Shelf Go.Sort
attribute [local go_sem] Oper.semAt_some
/-- What a call may change: the block B, and rows of placed jobs that were made at b1 or later. -/
def Ch (b1 B : Nat) (W W' : World) : Prop := W'.os = W.os ∧ W'.tape = W.tape ∧ W'.output = W.output ∧ W.heap.size ≤ W'.heap.size ∧ ∀ k, k < W.heap.size → k ≠ B → (k < b1 ∨ ∀ c f, W.heap[k]? ≠ some (.cells c 64 f)) → W'.heap[k]? = W.heap[k]?
theorem Ch.refl (b1 B : Nat) (W : World) : Ch b1 B W W := ⟨rfl, rfl, rfl, Nat.le_refl _, fun _ _ _ _ => rfl⟩
theorem Ch.trans {b1 B : Nat} {X Y Z : World} (h : Ch b1 B X Y) (g : Ch b1 B Y Z) : Ch b1 B X Z :=
  ⟨g.1.trans h.1, g.2.1.trans h.2.1, g.2.2.1.trans h.2.2.1, Nat.le_trans h.2.2.2.1 g.2.2.2.1, fun k hk hB hc => by
    have e := h.2.2.2.2 k hk hB hc
    exact (g.2.2.2.2 k (Nat.lt_of_lt_of_le hk h.2.2.2.1) hB (hc.imp id (fun hc c f => by rw [e]; exact hc c f))).trans e⟩
theorem Ch.of_below {b1 B : Nat} {X Y : World} (h : Below X.heap.size X Y) : Ch b1 B X Y := ⟨h.os, h.tape, h.output, h.size, fun k hk _ _ => h.block k hk⟩
theorem Ch.below {b1 B n : Nat} {X Y : World} (h : Ch b1 B X Y) (hB : n ≤ B) (h1 : n ≤ b1) (hn : n ≤ X.heap.size) : Below n X Y := ⟨h.1, h.2.1, h.2.2.1, h.2.2.2.1, fun k hk => h.2.2.2.2 k (by omega) (by omega) (.inl (by omega))⟩
theorem Ch.setB (b1 B : Nat) (W : World) (o : Nat) (v : Value) : Ch b1 B W (W.setCell ⟨B, o, none⟩ v) := ⟨rfl, rfl, rfl, by simp, fun k _ hB _ => Below.heap_setCell W ⟨B, o, none⟩ v k hB⟩
theorem Ch.setRow {b1 B g : Nat} {W : World} {l : List Value} (hg : b1 ≤ g) (hl : Blk W g 64 l) (o : Nat) (v : Value) : Ch b1 B W (W.setCell ⟨g, o, none⟩ v) := ⟨rfl, rfl, rfl, by simp, fun k _ _ hc => Below.heap_setCell W ⟨g, o, none⟩ v k (fun e => by
  have e' : k = g := e
  rcases hc with hc | hc
  · omega
  · exact hc _ _ (by rw [e']; exact hl))⟩
theorem Ch.grown {b1 B : Nat} {X Y : World} {row : Option Nat} (h : X.grownBy Y row) (hr : ∀ g, row = some g → b1 ≤ g ∧ ∃ l, Blk X g 64 l) : Ch b1 B X Y := ⟨h.os, h.tape, h.output, h.size, fun k hk _ hc => h.block k hk (fun e => by
  obtain ⟨h1, l, h2⟩ := hr k e.symm
  rcases hc with hc | hc
  · omega
  · exact hc _ _ h2)⟩
theorem Ch.keep {b1 B g : Nat} {X Y : World} {T : TypeId} {l : List Value} (h : Ch b1 B X Y) (hl : Blk X g T l) (hT : T ≠ 64 ∨ g < b1) (hg : g ≠ B) : Blk Y g T l :=
  (h.2.2.2.2 g hl.lt hg (hT.elim (fun hT => .inr (fun c f e => by unfold Blk at hl; rw [hl] at e; injection e with e; injection e with _ e _; exact hT e)) .inl)).trans hl
/-- Those that are to come. -/
def CO (W : World) (b1 : Nat) (v : Value) (C : List PJ) : Prop := (∃ a c, v = .slice a 0 c ∧ C = []) ∨ ∃ G off cap, v = .slice (some ⟨G, off, none⟩) C.length cap ∧ C.length ≤ cap ∧ G < b1 ∧ (∃ l, Blk W G 64 l) ∧ ∀ j (hj : j < C.length) i u, (C[j].C)[i]? = some u → W.cell? ⟨G, off + j * 5 + i, none⟩ = some u
theorem CO.keep {b1 B : Nat} {X Y : World} {v : Value} {C : List PJ} (hc : CO X b1 v C) (h : Ch b1 B X Y) (hB : ∀ l, ¬ Blk X B 64 l) : CO Y b1 v C := by
  rcases hc with hc | ⟨G, off, cap, e, h0, h1, ⟨l, h2⟩, h3⟩
  · exact .inl hc
  · have hGB : G ≠ B := fun e => hB l (by rw [← e]; exact h2)
    have e1 := h.2.2.2.2 G h2.lt hGB (.inl h1)
    exact .inr ⟨G, off, cap, e, h0, h1, ⟨l, e1.trans h2⟩, fun j hj i u hu => (World.cell?_of_block (a := ⟨G, off + j * 5 + i, none⟩) e1).trans (h3 j hj i u hu)⟩
/-- Jobs that wait: a heap, and those that are to come. -/
structure PW (W : World) (b1 B : Nat) (len : Int) (H C : List PJ) (vH vC : Value) : Prop where
  blk : Blk W B 86 [vH, .int .i64 len, vC]
  lt : B < b1
  sz : b1 ≤ W.heap.size
  row : W.ownsRow b1 64 5 vH H.length (H.flatMap PJ.C)
  co : CO W b1 vC C
theorem flatP_len (H : List PJ) : (H.flatMap PJ.C).length = H.length * 5 := by
  induction H with
  | nil => rfl
  | cons x H ih => rw [List.flatMap_cons, List.length_append, ih, PJ.C_len, List.length_cons]; omega
theorem flatP_at (H : List PJ) (j i : Nat) (hj : j < H.length) (hi : i < 5) : (H.flatMap PJ.C)[j * 5 + i]? = (H[j].C)[i]? := by
  induction H generalizing j with
  | nil => simp at hj
  | cons x H ih =>
    rw [List.flatMap_cons]
    match j, hj with
    | 0, _ =>
      rw [Nat.zero_mul, Nat.zero_add, List.getElem?_append_left (by rw [PJ.C_len]; exact hi)]
      rfl
    | j + 1, hj =>
      rw [List.getElem?_append_right (by rw [PJ.C_len]; omega), PJ.C_len, show (j + 1) * 5 + i - 5 = j * 5 + i by omega]
      exact ih j (by simpa using hj)
/-- The heap's row, where it holds something. -/
theorem PW.at {W : World} {b1 B : Nat} {len : Int} {H C : List PJ} {vH vC : Value} (h : PW W b1 B len H C vH vC) (h0 : 0 < H.length) : ∃ g cap l, vH = .slice (some ⟨g, 0, none⟩) H.length cap ∧ b1 ≤ g ∧ Blk W g 64 l ∧ H.length ≤ cap ∧ cap ≤ maxLen ∧ l.length = cap * 5 ∧ l.take (H.length * 5) = H.flatMap PJ.C := by
  rcases h.row.2 with ⟨_, e⟩ | ⟨g, cap, cur, e, hb, hg, h1, h2, h3, h4⟩
  · omega
  · exact ⟨g, cap, cur.toList, e, hb, hg, h1, h2, by simpa using h3, h4⟩
theorem row_cells {W : World} {g n : Nat} {l : List Value} {H : List PJ} (h : Blk W g 64 l) (ht : l.take (n * 5) = H.flatMap PJ.C) (hn : H.length = n) : ∀ j (hj : j < H.length) i u, (H[j].C)[i]? = some u → W.cell? ⟨g, j * 5 + i, none⟩ = some u := fun j hj i u hu => by
  have hi : i < 5 := by have := (List.getElem?_eq_some_iff.1 hu).1; rwa [PJ.C_len] at this
  have h1 := flatP_at H j i hj hi
  rw [← ht, hu, List.getElem?_take_of_lt (by omega)] at h1
  have h2 := (List.getElem?_eq_some_iff.1 h1).1
  rw [h.cellAt (i := j * 5 + i) h2]
  rw [← h1, List.getElem?_eq_getElem h2]
theorem own_stay {W W' : World} {b1 n : Nat} {v : Value} {xs : List Value} (h : W.ownsRow b1 64 5 v n xs) (hb : Below W.heap.size W W') : W'.ownsRow b1 64 5 v n xs := by
  refine ⟨h.1, ?_⟩
  rcases h.2 with h1 | ⟨g, cap, cur, h1, h2, h3, h4⟩
  · exact .inl h1
  · exact .inr ⟨g, cap, cur, h1, h2, (hb.block g (Array.getElem?_eq_some_iff.1 h3).1).trans h3, h4⟩
theorem blk_ne {W : World} {B C : Nat} {T T' : TypeId} {l l' : List Value} (h : Blk W B T l) (h' : Blk W C T' l') (hT : T ≠ T') : B ≠ C := fun e => by
  subst e
  unfold Blk at h h'
  rw [h] at h'
  injection h' with e
  injection e with _ e _
  exact hT e
theorem PW.on {W W' : World} {b1 B : Nat} {len : Int} {H C : List PJ} {vH vC : Value} (h : PW W b1 B len H C vH vC) (hb : Below W.heap.size W W') : PW W' b1 B len H C vH vC :=
  ⟨h.blk.keep hb h.blk.lt, h.lt, Nat.le_trans h.sz hb.size, own_stay h.row hb, h.co.keep (B := B) (Ch.of_below hb) (fun _ hl => absurd rfl (blk_ne h.blk hl (by decide)))⟩
theorem two_blks (W : World) (T : TypeId) (l1 l2 : List Value) : Blk ((W.alloc (.cells l1.toArray T)).alloc (.cells l2.toArray T)).drew W.heap.size T l1 ∧ Blk ((W.alloc (.cells l1.toArray T)).alloc (.cells l2.toArray T)).drew (W.heap.size + 1) T l2 ∧ Below W.heap.size W ((W.alloc (.cells l1.toArray T)).alloc (.cells l2.toArray T)).drew := by
  refine ⟨(Blk.new W T l1).keep (n := W.heap.size + 1) ((Below.refl (W.heap.size + 1) (W.alloc (.cells l1.toArray T))).alloc (by simp) _).drew (Nat.lt_succ_self _), ?_, ((((Below.refl W.heap.size W).alloc (Nat.le_refl _) _).alloc (by simp) _)).drew⟩
  have := Blk.new (W.alloc (.cells l1.toArray T)) T l2
  rw [World.size_alloc] at this
  exact this
theorem plen_any {W : World} {b1 B : Nat} {len : Int} {H C : List PJ} {vH vC : Value} (h : PW W b1 B len H C vH vC) : Calls Try.prog 43 #[.pointer (some ⟨B, 0, none⟩)] W fun e w' => e = .returned (.int .i64 (H.length : Int)) ∧ w' = W := by
  obtain ⟨a, c, e⟩ : ∃ a c, vH = .slice a H.length c := by
    rcases h.row.2 with ⟨e, e2⟩ | ⟨g, cap, cur, e, _⟩
    · exact ⟨_, _, by rw [e2]; exact e⟩
    · exact ⟨_, _, e⟩
  have b0 : W.cell? ⟨B, 0, none⟩ = some (.slice a H.length c) := by rw [← e]; exact h.blk.cellAt (i := 0) (by simp)
  clear h e
  go_enter Try.func43, Try.ntmps43
  go_wp2_with fail
  go_ret
  exact ⟨rfl, rfl⟩
set_option maxRecDepth 100000 in
set_option maxHeartbeats 8000000 in
theorem pless_any {W : World} {b1 B : Nat} {len : Int} {H C : List PJ} {vH vC : Value} (h : PW W b1 B len H C vH vC) (i j : Nat) (hi : i < H.length) (hj : j < H.length) : Calls Try.prog 115 #[.pointer (some ⟨B, 0, none⟩), .int .i64 (i : Int), .int .i64 (j : Int)] W fun e w' => e = .returned (.bool (decide (klt len H[i]! H[j]!))) ∧ Below W.heap.size W w' := by
  obtain ⟨g, cap, l, e, hg, hl, h1, h2, h3, h4⟩ := h.at (by omega)
  obtain ⟨x, hx⟩ : ∃ x, x = H[i]! := ⟨_, rfl⟩
  obtain ⟨y, hy⟩ : ∃ x, x = H[j]! := ⟨_, rfl⟩
  have hcx := row_cells hl h4 rfl i hi
  have hcy := row_cells hl h4 rfl j hj
  rw [← bang hi, ← hx] at hcx
  rw [← bang hj, ← hy] at hcy
  rw [← hx, ← hy]
  obtain ⟨N, hN⟩ : ∃ N, N = H.length := ⟨_, rfl⟩
  rw [← hN] at e hi hj
  have hb0 := h.blk.cellAt (i := 0) (by simp)
  have hb1 := h.blk.cellAt (i := 1) (by simp)
  simp only [List.getElem_cons_zero, List.getElem_cons_succ] at hb0 hb1
  rw [e] at hb0
  have hBl := h.blk.lt
  have hgl := hl.lt
  have hi2 : (i : Int) < (N : Int) := by omega
  have hj2 : (j : Int) < (N : Int) := by omega
  have hi3 : (0 : Int) ≤ (i : Int) := by omega
  have hj3 : (0 : Int) ≤ (j : Int) := by omega
  have HZ := Lib.hid (show ∀ u, Below W.heap.size W u → (Below W.heap.size W u ∧ u.cell? ⟨B, 0, none⟩ = some (.slice (some ⟨g, 0, none⟩) N cap) ∧ u.cell? ⟨g, i * 5, none⟩ = some (.int .i64 x.j.s) ∧ u.cell? ⟨g, i * 5 + 1, none⟩ = some (.int .i64 x.j.r) ∧ u.cell? ⟨g, i * 5 + 2, none⟩ = some (.int .i64 x.j.d) ∧ u.cell? ⟨g, i * 5 + 3, none⟩ = some (.int .i64 x.j.c) ∧ u.cell? ⟨g, i * 5 + 4, none⟩ = some (.int .i64 (x.k : Int)) ∧ u.cell? ⟨g, j * 5, none⟩ = some (.int .i64 y.j.s) ∧ u.cell? ⟨g, j * 5 + 1, none⟩ = some (.int .i64 y.j.r) ∧ u.cell? ⟨g, j * 5 + 2, none⟩ = some (.int .i64 y.j.d) ∧ u.cell? ⟨g, j * 5 + 3, none⟩ = some (.int .i64 y.j.c) ∧ u.cell? ⟨g, j * 5 + 4, none⟩ = some (.int .i64 (y.k : Int))) from fun u hu => ⟨hu, (hu.cell (p := ⟨B, 0, none⟩) hBl).trans hb0, (hu.cell (p := ⟨g, i * 5, none⟩) hgl).trans (hcx 0 _ rfl), (hu.cell (p := ⟨g, i * 5 + 1, none⟩) hgl).trans (hcx 1 _ rfl), (hu.cell (p := ⟨g, i * 5 + 2, none⟩) hgl).trans (hcx 2 _ rfl), (hu.cell (p := ⟨g, i * 5 + 3, none⟩) hgl).trans (hcx 3 _ rfl), (hu.cell (p := ⟨g, i * 5 + 4, none⟩) hgl).trans (hcx 4 _ rfl), (hu.cell (p := ⟨g, j * 5, none⟩) hgl).trans (hcy 0 _ rfl), (hu.cell (p := ⟨g, j * 5 + 1, none⟩) hgl).trans (hcy 1 _ rfl), (hu.cell (p := ⟨g, j * 5 + 2, none⟩) hgl).trans (hcy 2 _ rfl), (hu.cell (p := ⟨g, j * 5 + 3, none⟩) hgl).trans (hcy 3 _ rfl), (hu.cell (p := ⟨g, j * 5 + 4, none⟩) hgl).trans (hcy 4 _ rfl)⟩)
  have HZA := Lib.hid (show ∀ (u : World) (o : Obj), (Below W.heap.size W u ∧ u.cell? ⟨B, 0, none⟩ = some (.slice (some ⟨g, 0, none⟩) N cap) ∧ u.cell? ⟨g, i * 5, none⟩ = some (.int .i64 x.j.s) ∧ u.cell? ⟨g, i * 5 + 1, none⟩ = some (.int .i64 x.j.r) ∧ u.cell? ⟨g, i * 5 + 2, none⟩ = some (.int .i64 x.j.d) ∧ u.cell? ⟨g, i * 5 + 3, none⟩ = some (.int .i64 x.j.c) ∧ u.cell? ⟨g, i * 5 + 4, none⟩ = some (.int .i64 (x.k : Int)) ∧ u.cell? ⟨g, j * 5, none⟩ = some (.int .i64 y.j.s) ∧ u.cell? ⟨g, j * 5 + 1, none⟩ = some (.int .i64 y.j.r) ∧ u.cell? ⟨g, j * 5 + 2, none⟩ = some (.int .i64 y.j.d) ∧ u.cell? ⟨g, j * 5 + 3, none⟩ = some (.int .i64 y.j.c) ∧ u.cell? ⟨g, j * 5 + 4, none⟩ = some (.int .i64 (y.k : Int))) → (Below W.heap.size W (u.alloc o) ∧ (u.alloc o).cell? ⟨B, 0, none⟩ = some (.slice (some ⟨g, 0, none⟩) N cap) ∧ (u.alloc o).cell? ⟨g, i * 5, none⟩ = some (.int .i64 x.j.s) ∧ (u.alloc o).cell? ⟨g, i * 5 + 1, none⟩ = some (.int .i64 x.j.r) ∧ (u.alloc o).cell? ⟨g, i * 5 + 2, none⟩ = some (.int .i64 x.j.d) ∧ (u.alloc o).cell? ⟨g, i * 5 + 3, none⟩ = some (.int .i64 x.j.c) ∧ (u.alloc o).cell? ⟨g, i * 5 + 4, none⟩ = some (.int .i64 (x.k : Int)) ∧ (u.alloc o).cell? ⟨g, j * 5, none⟩ = some (.int .i64 y.j.s) ∧ (u.alloc o).cell? ⟨g, j * 5 + 1, none⟩ = some (.int .i64 y.j.r) ∧ (u.alloc o).cell? ⟨g, j * 5 + 2, none⟩ = some (.int .i64 y.j.d) ∧ (u.alloc o).cell? ⟨g, j * 5 + 3, none⟩ = some (.int .i64 y.j.c) ∧ (u.alloc o).cell? ⟨g, j * 5 + 4, none⟩ = some (.int .i64 (y.k : Int))) from fun u o h => HZ.out _ (h.1.alloc h.1.size o))
  have HZD := Lib.hid (show ∀ u : World, (Below W.heap.size W u ∧ u.cell? ⟨B, 0, none⟩ = some (.slice (some ⟨g, 0, none⟩) N cap) ∧ u.cell? ⟨g, i * 5, none⟩ = some (.int .i64 x.j.s) ∧ u.cell? ⟨g, i * 5 + 1, none⟩ = some (.int .i64 x.j.r) ∧ u.cell? ⟨g, i * 5 + 2, none⟩ = some (.int .i64 x.j.d) ∧ u.cell? ⟨g, i * 5 + 3, none⟩ = some (.int .i64 x.j.c) ∧ u.cell? ⟨g, i * 5 + 4, none⟩ = some (.int .i64 (x.k : Int)) ∧ u.cell? ⟨g, j * 5, none⟩ = some (.int .i64 y.j.s) ∧ u.cell? ⟨g, j * 5 + 1, none⟩ = some (.int .i64 y.j.r) ∧ u.cell? ⟨g, j * 5 + 2, none⟩ = some (.int .i64 y.j.d) ∧ u.cell? ⟨g, j * 5 + 3, none⟩ = some (.int .i64 y.j.c) ∧ u.cell? ⟨g, j * 5 + 4, none⟩ = some (.int .i64 (y.k : Int))) → (Below W.heap.size W u.drew ∧ u.drew.cell? ⟨B, 0, none⟩ = some (.slice (some ⟨g, 0, none⟩) N cap) ∧ u.drew.cell? ⟨g, i * 5, none⟩ = some (.int .i64 x.j.s) ∧ u.drew.cell? ⟨g, i * 5 + 1, none⟩ = some (.int .i64 x.j.r) ∧ u.drew.cell? ⟨g, i * 5 + 2, none⟩ = some (.int .i64 x.j.d) ∧ u.drew.cell? ⟨g, i * 5 + 3, none⟩ = some (.int .i64 x.j.c) ∧ u.drew.cell? ⟨g, i * 5 + 4, none⟩ = some (.int .i64 (x.k : Int)) ∧ u.drew.cell? ⟨g, j * 5, none⟩ = some (.int .i64 y.j.s) ∧ u.drew.cell? ⟨g, j * 5 + 1, none⟩ = some (.int .i64 y.j.r) ∧ u.drew.cell? ⟨g, j * 5 + 2, none⟩ = some (.int .i64 y.j.d) ∧ u.drew.cell? ⟨g, j * 5 + 3, none⟩ = some (.int .i64 y.j.c) ∧ u.drew.cell? ⟨g, j * 5 + 4, none⟩ = some (.int .i64 (y.k : Int))) from fun u h => HZ.out _ h.1.drew)
  have HZS := Lib.hid (show ∀ (u : World) (A o : Nat) (v : Value), W.heap.size ≤ A → (Below W.heap.size W u ∧ u.cell? ⟨B, 0, none⟩ = some (.slice (some ⟨g, 0, none⟩) N cap) ∧ u.cell? ⟨g, i * 5, none⟩ = some (.int .i64 x.j.s) ∧ u.cell? ⟨g, i * 5 + 1, none⟩ = some (.int .i64 x.j.r) ∧ u.cell? ⟨g, i * 5 + 2, none⟩ = some (.int .i64 x.j.d) ∧ u.cell? ⟨g, i * 5 + 3, none⟩ = some (.int .i64 x.j.c) ∧ u.cell? ⟨g, i * 5 + 4, none⟩ = some (.int .i64 (x.k : Int)) ∧ u.cell? ⟨g, j * 5, none⟩ = some (.int .i64 y.j.s) ∧ u.cell? ⟨g, j * 5 + 1, none⟩ = some (.int .i64 y.j.r) ∧ u.cell? ⟨g, j * 5 + 2, none⟩ = some (.int .i64 y.j.d) ∧ u.cell? ⟨g, j * 5 + 3, none⟩ = some (.int .i64 y.j.c) ∧ u.cell? ⟨g, j * 5 + 4, none⟩ = some (.int .i64 (y.k : Int))) → (Below W.heap.size W (u.setCell ⟨A, o, none⟩ v) ∧ (u.setCell ⟨A, o, none⟩ v).cell? ⟨B, 0, none⟩ = some (.slice (some ⟨g, 0, none⟩) N cap) ∧ (u.setCell ⟨A, o, none⟩ v).cell? ⟨g, i * 5, none⟩ = some (.int .i64 x.j.s) ∧ (u.setCell ⟨A, o, none⟩ v).cell? ⟨g, i * 5 + 1, none⟩ = some (.int .i64 x.j.r) ∧ (u.setCell ⟨A, o, none⟩ v).cell? ⟨g, i * 5 + 2, none⟩ = some (.int .i64 x.j.d) ∧ (u.setCell ⟨A, o, none⟩ v).cell? ⟨g, i * 5 + 3, none⟩ = some (.int .i64 x.j.c) ∧ (u.setCell ⟨A, o, none⟩ v).cell? ⟨g, i * 5 + 4, none⟩ = some (.int .i64 (x.k : Int)) ∧ (u.setCell ⟨A, o, none⟩ v).cell? ⟨g, j * 5, none⟩ = some (.int .i64 y.j.s) ∧ (u.setCell ⟨A, o, none⟩ v).cell? ⟨g, j * 5 + 1, none⟩ = some (.int .i64 y.j.r) ∧ (u.setCell ⟨A, o, none⟩ v).cell? ⟨g, j * 5 + 2, none⟩ = some (.int .i64 y.j.d) ∧ (u.setCell ⟨A, o, none⟩ v).cell? ⟨g, j * 5 + 3, none⟩ = some (.int .i64 y.j.c) ∧ (u.setCell ⟨A, o, none⟩ v).cell? ⟨g, j * 5 + 4, none⟩ = some (.int .i64 (y.k : Int))) from fun u A o v hA h => HZ.out _ (h.1.setCell (p := ⟨A, o, none⟩) hA v))
  have HL := Lib.hid (show ∀ u, Below W.heap.size W u → u.cell? ⟨B, 1, none⟩ = some (.int .i64 len) from fun u hu => (hu.cell (p := ⟨B, 1, none⟩) hBl).trans hb1)
  have HBL := Lib.hid hBl
  clear h hl h4 hcx hcy hb0 hb1 hx hy hN e h1 h2 h3 hBl hgl
  go_enter Try.func115, Try.ntmps115
  go_upto_region 1 with fail
  go_cut [7, 8] (fun s7 s8 wx => ∃ P Q, s7 = .pointer (some ⟨P, 0, none⟩) ∧ s8 = .pointer (some ⟨Q, 0, none⟩) ∧ Blk wx P 64 x.C ∧ Blk wx Q 64 y.C ∧ Below W.heap.size W wx)
  case first =>
    have z0 := HZ.out _ (Below.refl _ _)
    have z1 := HZ.out _ (Below.refl _ _).drew
    go_region_held3 (fun u => (Below W.heap.size W u ∧ u.cell? ⟨B, 0, none⟩ = some (.slice (some ⟨g, 0, none⟩) N cap) ∧ u.cell? ⟨g, i * 5, none⟩ = some (.int .i64 x.j.s) ∧ u.cell? ⟨g, i * 5 + 1, none⟩ = some (.int .i64 x.j.r) ∧ u.cell? ⟨g, i * 5 + 2, none⟩ = some (.int .i64 x.j.d) ∧ u.cell? ⟨g, i * 5 + 3, none⟩ = some (.int .i64 x.j.c) ∧ u.cell? ⟨g, i * 5 + 4, none⟩ = some (.int .i64 (x.k : Int)) ∧ u.cell? ⟨g, j * 5, none⟩ = some (.int .i64 y.j.s) ∧ u.cell? ⟨g, j * 5 + 1, none⟩ = some (.int .i64 y.j.r) ∧ u.cell? ⟨g, j * 5 + 2, none⟩ = some (.int .i64 y.j.d) ∧ u.cell? ⟨g, j * 5 + 3, none⟩ = some (.int .i64 y.j.c) ∧ u.cell? ⟨g, j * 5 + 4, none⟩ = some (.int .i64 (y.k : Int)))) (repeat (first | (with_reducible assumption) | (with_reducible refine HZA.out _ _ ?_) | (with_reducible refine HZD.out _ ?_) | (with_reducible refine HZS.out _ _ _ _ (by first | (simp only [World.size_alloc]; omega) | omega | simp) ?_))) (fail)
    all_goals
      go_wp2_with fail
      go_meet
      first
        | exact ⟨_, _, rfl, rfl, (two_blks W 64 x.C y.C).1, (two_blks W 64 x.C y.C).2.1, (two_blks W 64 x.C y.C).2.2⟩
        | exact ⟨_, _, rfl, rfl, (two_blks W 64 y.C x.C).2.1, (two_blks W 64 y.C x.C).1, (two_blks W 64 y.C x.C).2.2⟩
  case rest =>
    obtain ⟨P, Q, rfl, rfl, hP, hQ, hB⟩ := hcut
    obtain ⟨w5, hw5⟩ : ∃ u, u = wc := ⟨_, rfl⟩
    rw [← hw5] at hP hQ hB ⊢
    have HB5 := Lib.hid hB
    have hl5 := HL.out w5 hB
    have HZ2 := Lib.hid (show ∀ u, Below w5.heap.size w5 u → (Below w5.heap.size w5 u ∧ u.cell? ⟨B, 1, none⟩ = some (.int .i64 len) ∧ u.cell? ⟨P, 0, none⟩ = some (.int .i64 x.j.s) ∧ u.cell? ⟨P, 1, none⟩ = some (.int .i64 x.j.r) ∧ u.cell? ⟨P, 2, none⟩ = some (.int .i64 x.j.d) ∧ u.cell? ⟨P, 3, none⟩ = some (.int .i64 x.j.c) ∧ u.cell? ⟨P, 4, none⟩ = some (.int .i64 (x.k : Int)) ∧ u.cell? ⟨Q, 0, none⟩ = some (.int .i64 y.j.s) ∧ u.cell? ⟨Q, 1, none⟩ = some (.int .i64 y.j.r) ∧ u.cell? ⟨Q, 2, none⟩ = some (.int .i64 y.j.d) ∧ u.cell? ⟨Q, 3, none⟩ = some (.int .i64 y.j.c) ∧ u.cell? ⟨Q, 4, none⟩ = some (.int .i64 (y.k : Int))) from fun u hu => ⟨hu, (hu.cell (p := ⟨B, 1, none⟩) (Nat.lt_of_lt_of_le HBL.out hB.size)).trans hl5, (hP.keep hu hP.lt).cellAt (i := 0) (by simp [PJ.C]), (hP.keep hu hP.lt).cellAt (i := 1) (by simp [PJ.C]), (hP.keep hu hP.lt).cellAt (i := 2) (by simp [PJ.C]), (hP.keep hu hP.lt).cellAt (i := 3) (by simp [PJ.C]), (hP.keep hu hP.lt).cellAt (i := 4) (by simp [PJ.C]), (hQ.keep hu hQ.lt).cellAt (i := 0) (by simp [PJ.C]), (hQ.keep hu hQ.lt).cellAt (i := 1) (by simp [PJ.C]), (hQ.keep hu hQ.lt).cellAt (i := 2) (by simp [PJ.C]), (hQ.keep hu hQ.lt).cellAt (i := 3) (by simp [PJ.C]), (hQ.keep hu hQ.lt).cellAt (i := 4) (by simp [PJ.C])⟩)
    have HZA2 := Lib.hid (show ∀ (u : World) (o : Obj), (Below w5.heap.size w5 u ∧ u.cell? ⟨B, 1, none⟩ = some (.int .i64 len) ∧ u.cell? ⟨P, 0, none⟩ = some (.int .i64 x.j.s) ∧ u.cell? ⟨P, 1, none⟩ = some (.int .i64 x.j.r) ∧ u.cell? ⟨P, 2, none⟩ = some (.int .i64 x.j.d) ∧ u.cell? ⟨P, 3, none⟩ = some (.int .i64 x.j.c) ∧ u.cell? ⟨P, 4, none⟩ = some (.int .i64 (x.k : Int)) ∧ u.cell? ⟨Q, 0, none⟩ = some (.int .i64 y.j.s) ∧ u.cell? ⟨Q, 1, none⟩ = some (.int .i64 y.j.r) ∧ u.cell? ⟨Q, 2, none⟩ = some (.int .i64 y.j.d) ∧ u.cell? ⟨Q, 3, none⟩ = some (.int .i64 y.j.c) ∧ u.cell? ⟨Q, 4, none⟩ = some (.int .i64 (y.k : Int))) → (Below w5.heap.size w5 (u.alloc o) ∧ (u.alloc o).cell? ⟨B, 1, none⟩ = some (.int .i64 len) ∧ (u.alloc o).cell? ⟨P, 0, none⟩ = some (.int .i64 x.j.s) ∧ (u.alloc o).cell? ⟨P, 1, none⟩ = some (.int .i64 x.j.r) ∧ (u.alloc o).cell? ⟨P, 2, none⟩ = some (.int .i64 x.j.d) ∧ (u.alloc o).cell? ⟨P, 3, none⟩ = some (.int .i64 x.j.c) ∧ (u.alloc o).cell? ⟨P, 4, none⟩ = some (.int .i64 (x.k : Int)) ∧ (u.alloc o).cell? ⟨Q, 0, none⟩ = some (.int .i64 y.j.s) ∧ (u.alloc o).cell? ⟨Q, 1, none⟩ = some (.int .i64 y.j.r) ∧ (u.alloc o).cell? ⟨Q, 2, none⟩ = some (.int .i64 y.j.d) ∧ (u.alloc o).cell? ⟨Q, 3, none⟩ = some (.int .i64 y.j.c) ∧ (u.alloc o).cell? ⟨Q, 4, none⟩ = some (.int .i64 (y.k : Int))) from fun u o h => HZ2.out _ (h.1.alloc h.1.size o))
    have HZD2 := Lib.hid (show ∀ u : World, (Below w5.heap.size w5 u ∧ u.cell? ⟨B, 1, none⟩ = some (.int .i64 len) ∧ u.cell? ⟨P, 0, none⟩ = some (.int .i64 x.j.s) ∧ u.cell? ⟨P, 1, none⟩ = some (.int .i64 x.j.r) ∧ u.cell? ⟨P, 2, none⟩ = some (.int .i64 x.j.d) ∧ u.cell? ⟨P, 3, none⟩ = some (.int .i64 x.j.c) ∧ u.cell? ⟨P, 4, none⟩ = some (.int .i64 (x.k : Int)) ∧ u.cell? ⟨Q, 0, none⟩ = some (.int .i64 y.j.s) ∧ u.cell? ⟨Q, 1, none⟩ = some (.int .i64 y.j.r) ∧ u.cell? ⟨Q, 2, none⟩ = some (.int .i64 y.j.d) ∧ u.cell? ⟨Q, 3, none⟩ = some (.int .i64 y.j.c) ∧ u.cell? ⟨Q, 4, none⟩ = some (.int .i64 (y.k : Int))) → (Below w5.heap.size w5 u.drew ∧ u.drew.cell? ⟨B, 1, none⟩ = some (.int .i64 len) ∧ u.drew.cell? ⟨P, 0, none⟩ = some (.int .i64 x.j.s) ∧ u.drew.cell? ⟨P, 1, none⟩ = some (.int .i64 x.j.r) ∧ u.drew.cell? ⟨P, 2, none⟩ = some (.int .i64 x.j.d) ∧ u.drew.cell? ⟨P, 3, none⟩ = some (.int .i64 x.j.c) ∧ u.drew.cell? ⟨P, 4, none⟩ = some (.int .i64 (x.k : Int)) ∧ u.drew.cell? ⟨Q, 0, none⟩ = some (.int .i64 y.j.s) ∧ u.drew.cell? ⟨Q, 1, none⟩ = some (.int .i64 y.j.r) ∧ u.drew.cell? ⟨Q, 2, none⟩ = some (.int .i64 y.j.d) ∧ u.drew.cell? ⟨Q, 3, none⟩ = some (.int .i64 y.j.c) ∧ u.drew.cell? ⟨Q, 4, none⟩ = some (.int .i64 (y.k : Int))) from fun u h => HZ2.out _ h.1.drew)
    have K1 := Lib.hid (show ∀ a0 a1 a2 a3 c0 c1 c2 c3 u, (Below w5.heap.size w5 u ∧ u.cell? ⟨B, 1, none⟩ = some (.int .i64 len) ∧ u.cell? ⟨P, 0, none⟩ = some (.int .i64 x.j.s) ∧ u.cell? ⟨P, 1, none⟩ = some (.int .i64 x.j.r) ∧ u.cell? ⟨P, 2, none⟩ = some (.int .i64 x.j.d) ∧ u.cell? ⟨P, 3, none⟩ = some (.int .i64 x.j.c) ∧ u.cell? ⟨P, 4, none⟩ = some (.int .i64 (x.k : Int)) ∧ u.cell? ⟨Q, 0, none⟩ = some (.int .i64 y.j.s) ∧ u.cell? ⟨Q, 1, none⟩ = some (.int .i64 y.j.r) ∧ u.cell? ⟨Q, 2, none⟩ = some (.int .i64 y.j.d) ∧ u.cell? ⟨Q, 3, none⟩ = some (.int .i64 y.j.c) ∧ u.cell? ⟨Q, 4, none⟩ = some (.int .i64 (y.k : Int))) → Calls Try.prog 31 #[.agg #[.int .i64 a0, .int .i64 a1, .int .i64 a2, .int .i64 a3], .agg #[.int .i64 c0, .int .i64 c1, .int .i64 c2, .int .i64 c3], .int .i64 len] u fun e w' => e = .returned (.int .i64 (ordV ⟨a0, a1, a2, a3⟩ ⟨c0, c1, c2, c3⟩ len)) ∧ (Below w5.heap.size w5 w' ∧ w'.cell? ⟨B, 1, none⟩ = some (.int .i64 len) ∧ w'.cell? ⟨P, 0, none⟩ = some (.int .i64 x.j.s) ∧ w'.cell? ⟨P, 1, none⟩ = some (.int .i64 x.j.r) ∧ w'.cell? ⟨P, 2, none⟩ = some (.int .i64 x.j.d) ∧ w'.cell? ⟨P, 3, none⟩ = some (.int .i64 x.j.c) ∧ w'.cell? ⟨P, 4, none⟩ = some (.int .i64 (x.k : Int)) ∧ w'.cell? ⟨Q, 0, none⟩ = some (.int .i64 y.j.s) ∧ w'.cell? ⟨Q, 1, none⟩ = some (.int .i64 y.j.r) ∧ w'.cell? ⟨Q, 2, none⟩ = some (.int .i64 y.j.d) ∧ w'.cell? ⟨Q, 3, none⟩ = some (.int .i64 y.j.c) ∧ w'.cell? ⟨Q, 4, none⟩ = some (.int .i64 (y.k : Int))) from fun a0 a1 a2 a3 c0 c1 c2 c3 u h => (order_any ⟨a0, a1, a2, a3⟩ ⟨c0, c1, c2, c3⟩ len u).mono fun e w' ⟨h1, h2⟩ => ⟨h1, HZ2.out _ (h.1.trans (h2.mono h.1.size))⟩)
    have HC2 := Lib.hid (fun p q u => Try.cmp_Compare_int p q u)
    have HO := Lib.hid (fun a b u => or_any a b u.heap.size (u.alloc (.cells #[.int .i64 a, .int .i64 b] 3)) (Blk.new u 3 [.int .i64 a, .int .i64 b]))
    clear HZ HZA HZD HZS HL hP hQ hB hl5 hw5
    have z0 := HZ2.out _ (Below.refl _ _)
    have z1 := HZ2.out _ (Below.refl _ _).drew
    go_upto_region 2 with fail
    go_region_held3 (fun u => (Below w5.heap.size w5 u ∧ u.cell? ⟨B, 1, none⟩ = some (.int .i64 len) ∧ u.cell? ⟨P, 0, none⟩ = some (.int .i64 x.j.s) ∧ u.cell? ⟨P, 1, none⟩ = some (.int .i64 x.j.r) ∧ u.cell? ⟨P, 2, none⟩ = some (.int .i64 x.j.d) ∧ u.cell? ⟨P, 3, none⟩ = some (.int .i64 x.j.c) ∧ u.cell? ⟨P, 4, none⟩ = some (.int .i64 (x.k : Int)) ∧ u.cell? ⟨Q, 0, none⟩ = some (.int .i64 y.j.s) ∧ u.cell? ⟨Q, 1, none⟩ = some (.int .i64 y.j.r) ∧ u.cell? ⟨Q, 2, none⟩ = some (.int .i64 y.j.d) ∧ u.cell? ⟨Q, 3, none⟩ = some (.int .i64 y.j.c) ∧ u.cell? ⟨Q, 4, none⟩ = some (.int .i64 (y.k : Int)))) (repeat (first | (with_reducible assumption) | (with_reducible refine HZA2.out _ _ ?_) | (with_reducible refine HZD2.out _ ?_))) (first | (go_at_call 31; with_reducible refine Calls.mono (K1.out _ _ _ _ _ _ _ _ _ (by repeat (first | (with_reducible assumption) | (with_reducible refine HZA2.out _ _ ?_) | (with_reducible refine HZD2.out _ ?_)))) ?_; rintro y1 v1 ⟨rfl, h1S⟩) | (go_at_call 50; with_reducible refine Calls.mono (HC2.out _ _ _) ?_; rintro y4 v4 ⟨rfl, rfl⟩) | (go_at_call 48; with_reducible refine Calls.mono (HO.out _ _ _) ?_; rintro y5 v5 ⟨rfl, rfl⟩))
    all_goals
      go_wp2_with fail
      go_ret
      refine ⟨?_, ?_⟩
      · show Ending.returned (.bool (decide (orI (ordV x.j y.j len) (Lib.compareInt (x.k : Int) (y.k : Int)) < 0))) = _
        rw [decide_eq_decide.2 (ord_k len x y)]
      · exact HB5.out.trans (Below.mono (And.left (by assumption)) HB5.out.size)
end Go.Proofs.Ytbcccffjlkphpaa
