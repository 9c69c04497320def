/- Package edf: the heap's Swap, Push and Pop. Conditions: each theorem says its own. -/
import Derived.Test.YtbcccffjlkphpaaEdi
import Derived.Deep.MidRow
import Derived.StillTailTactics
import Derived.Deep.Upon
namespace Go.Proofs.Ytbcccffjlkphpaa
open Go.RowKit Go.Shelf Go.Sort
set_option linter.unusedSimpArgs false
set_option linter.unusedVariables false
attribute [local go_sem] Oper.semAt_some
/-- A list with a part put in. -/
def putL (l : List Value) (o : Nat) (vs : List Value) : List Value := l.take o ++ vs ++ l.drop (o + vs.length)
theorem putL_len {l : List Value} {o : Nat} {vs : List Value} (h : o + vs.length ≤ l.length) : (putL l o vs).length = l.length := by
  unfold putL; simp; omega
theorem Blk.sets {g : Nat} {T : TypeId} : ∀ (vs : List Value) (o : Nat) (a : World) (l : List Value), Blk a g T l → o + vs.length ≤ l.length → Blk (a.setCells g o vs) g T (putL l o vs)
  | [], o, a, l, h, ho => by
    have e : putL l o [] = l := by unfold putL; simp
    rw [e]; exact h
  | v :: vs, o, a, l, h, ho => by
    have ho1 : o < l.length := by simp at ho; omega
    have h1 := Blk.sets vs (o + 1) _ _ (h.put1 ho1 v) (by rw [List.length_set]; simp at ho; omega)
    have e : putL (l.set o v) (o + 1) vs = putL l o (v :: vs) := by
      unfold putL
      rw [List.drop_set_of_lt (by omega), List.length_cons, show o + 1 + vs.length = o + (vs.length + 1) by omega]
      congr 1
      rw [List.take_succ_eq_append_getElem (by simpa using ho1)]
      simp [List.take_set_of_le]
    rw [e] at h1
    exact h1
theorem Ch.sets {b1 B g : Nat} (hg : b1 ≤ g) : ∀ (vs : List Value) (o : Nat) (W : World) (l : List Value), Blk W g 64 l → o + vs.length ≤ l.length → Ch b1 B W (W.setCells g o vs)
  | [], _, W, _, _, _ => Ch.refl b1 B W
  | v :: vs, o, W, l, h, ho => by
    have ho1 : o < l.length := by simp at ho; omega
    exact (Ch.setRow hg h o v).trans (Ch.sets hg vs (o + 1) _ _ (h.put1 ho1 v) (by rw [List.length_set]; simp at ho; omega))
theorem putL_get {l vs : List Value} {o t : Nat} (h : o + vs.length ≤ l.length) : (putL l o vs)[t]? = if o ≤ t ∧ t < o + vs.length then vs[t - o]? else l[t]? := by
  unfold putL
  by_cases h1 : t < o
  · rw [if_neg (by omega), List.append_assoc, List.getElem?_append_left (by simp; omega), List.getElem?_take_of_lt h1]
  · by_cases h2 : t < o + vs.length
    · rw [if_pos (by omega), List.getElem?_append_left (by simp; omega), List.getElem?_append_right (by simp; omega)]
      congr 1
      simp; omega
    · rw [if_neg (by omega), List.getElem?_append_right (by simp; omega), List.getElem?_drop]
      congr 1
      simp; omega
theorem putP {H : List PJ} {l : List Value} {i : Nat} (hi : i < H.length) (hl : H.length * 5 ≤ l.length) (ht : l.take (H.length * 5) = H.flatMap PJ.C) (y : PJ) : (putL l (i * 5) y.C).take (H.length * 5) = (H.set i y).flatMap PJ.C := by
  apply List.ext_getElem?
  intro t
  by_cases htl : t < H.length * 5
  · have h1 : t / 5 < H.length := by omega
    have h1' : t / 5 < (H.set i y).length := by simpa using h1
    have h2 := flatP_at H (t / 5) (t % 5) h1 (Nat.mod_lt _ (by omega))
    have h3 := flatP_at (H.set i y) (t / 5) (t % 5) h1' (Nat.mod_lt _ (by omega))
    rw [show t / 5 * 5 + t % 5 = t by omega] at h2 h3
    rw [h3, List.getElem?_take_of_lt htl, putL_get (by rw [PJ.C_len]; omega), PJ.C_len]
    by_cases e : i = t / 5
    · rw [if_pos (by omega)]
      simp only [← e, List.getElem_set_self]
      congr 1; omega
    · rw [if_neg (by omega), List.getElem_set_ne e, ← h2, ← ht, List.getElem?_take_of_lt htl]
  · rw [List.getElem?_eq_none (by simp; omega), List.getElem?_eq_none (by rw [flatP_len, List.length_set]; omega)]
theorem Blk.setsO {W : World} {B g : Nat} {T : TypeId} {l : List Value} (h : Blk W B T l) (hne : B ≠ g) (o : Nat) (vs : List Value) : Blk (W.setCells g o vs) B T l := (World.heap_setCells_other W g o vs h.lt hne).trans h
theorem PJ.all (x : PJ) : x.C.toArray.all (·.oneCell') = true := by simp [PJ.C, Value.oneCell']
theorem there_of {W : World} {g o n : Nat} {T : TypeId} {l : List Value} (h : Blk W g T l) (ho : o + n ≤ l.length) : W.there g o n := fun j hj => by
  rw [h.cellAt (i := o + j) (by omega)]
  exact ⟨rfl, h.frozenAt _⟩
set_option maxRecDepth 100000 in
set_option maxHeartbeats 8000000 in
theorem pswap_any {W : World} {b1 B : Nat} {len : Int} {H C : List PJ} {vH vC : Value} (h : PW W b1 B len H C vH vC) (i j : Nat) (hi : i < H.length) (hj : j < H.length) : Calls Try.prog 118 #[.pointer (some ⟨B, 0, none⟩), .int .i64 (i : Int), .int .i64 (j : Int)] W fun e w' => e = .returned (.tuple #[]) ∧ PW w' b1 B len (swp H i j) C vH vC ∧ Ch b1 B W w' := by
  have h0 := h.on (Below.refl W.heap.size W).drew
  have hch0 : Ch b1 B W W.drew := Ch.of_below (Below.refl W.heap.size W).drew
  obtain ⟨g, cap, l, e, hg, hl, h1, h2, h3, h4⟩ := h0.at (by omega)
  obtain ⟨x, hx⟩ : ∃ x, x = H[i]! := ⟨_, rfl⟩
  obtain ⟨y, hy⟩ : ∃ x, x = H[j]! := ⟨_, rfl⟩
  obtain ⟨wd, hwd⟩ : ∃ u, u = W.drew := ⟨_, rfl⟩
  rw [← hwd] at h0 hch0 hl
  have hcx := row_cells hl h4 rfl i hi
  have hcy := row_cells hl h4 rfl j hj
  rw [← bang hi, ← hx] at hcx
  rw [← bang hj, ← hy] at hcy
  have hb0 := h0.blk.cellAt (i := 0) (by simp)
  simp only [List.getElem_cons_zero] at hb0
  rw [e] at hb0
  have hll : H.length * 5 ≤ l.length := by omega
  have hl1 := Blk.sets y.C (i * 5) wd l hl (by rw [PJ.C_len]; omega)
  have hl2 := Blk.sets x.C (j * 5) _ _ hl1 (by rw [PJ.C_len, putL_len (by rw [PJ.C_len]; omega)]; omega)
  have hT1 := there_of hl (o := i * 5) (n := 5) (by omega)
  have hT2 := there_of hl1 (o := j * 5) (n := 5) (by rw [putL_len (by rw [PJ.C_len]; omega)]; omega)
  have hc1 := Ch.sets (B := B) hg y.C (i * 5) wd l hl (by rw [PJ.C_len]; omega)
  have hc2 := Ch.sets (B := B) hg x.C (j * 5) _ _ hl1 (by rw [PJ.C_len, putL_len (by rw [PJ.C_len]; omega)]; omega)
  have ht2 : (putL (putL l (i * 5) y.C) (j * 5) x.C).take (H.length * 5) = (swp H i j).flatMap PJ.C := by
    have k1 := putP hi hll h4 y
    have k2 := putP (H := H.set i y) (i := j) (l := putL l (i * 5) y.C) (by simpa using hj) (by rw [List.length_set, putL_len (by rw [PJ.C_len]; omega)]; exact hll) (by rw [List.length_set]; exact k1) x
    rw [List.length_set] at k2
    rw [k2]
    unfold swp
    rw [← hx, ← hy]
  have hch := hch0.trans (hc1.trans hc2)
  have hBg : B ≠ g := by have := h0.lt; omega
  have HFIN := Lib.hid (show PW ((wd.setCells g (i * 5) y.C).setCells g (j * 5) x.C) b1 B len (swp H i j) C vH vC from
    ⟨(h0.blk.setsO hBg _ _).setsO hBg _ _, h0.lt, Nat.le_trans h0.sz (hc1.trans hc2).2.2.2.1, ⟨by rw [flatP_len], .inr ⟨g, cap, (putL (putL l (i * 5) y.C) (j * 5) x.C).toArray, by rw [swp_len]; exact e, hg, hl2, by rw [swp_len]; exact h1, h2, by simp [putL_len (l := putL l (i * 5) y.C) (o := j * 5) (vs := x.C) (by rw [PJ.C_len, putL_len (by rw [PJ.C_len]; omega)]; omega), putL_len (l := l) (o := i * 5) (vs := y.C) (by rw [PJ.C_len]; omega), h3], by rw [swp_len]; simpa using ht2⟩⟩, h0.co.keep (hc1.trans hc2) (fun _ hl' => absurd rfl (blk_ne h0.blk hl' (by decide)))⟩)
  have HCH := Lib.hid hch
  have HT1 := Lib.hid hT1; have HT2 := Lib.hid hT2
  have HS0' := hb0
  have HS1' : (wd.setCells g (i * 5) y.C).cell? ⟨B, 0, none⟩ = some (.slice (some ⟨g, 0, none⟩) H.length cap) := by
    have := (h0.blk.setsO hBg (i * 5) y.C).cellAt (i := 0) (by simp)
    simp only [List.getElem_cons_zero] at this
    rw [this, e]
  have HS2' : ((wd.setCells g (i * 5) y.C).setCells g (j * 5) x.C).cell? ⟨B, 0, none⟩ = some (.slice (some ⟨g, 0, none⟩) H.length cap) := by
    have := ((h0.blk.setsO hBg (i * 5) y.C).setsO hBg (j * 5) x.C).cellAt (i := 0) (by simp)
    simp only [List.getElem_cons_zero] at this
    rw [this, e]
  obtain ⟨N, hN⟩ : ∃ N, N = H.length := ⟨_, rfl⟩
  rw [← hN] at hb0 hi hj HS0' HS1' HS2'
  have HS0 := Lib.hid (And.intro trivial HS0'); have HS1 := Lib.hid (And.intro trivial HS1'); have HS2 := Lib.hid (And.intro trivial HS2')
  clear HS0' HS1' HS2'
  have hi2 : (i : Int) < (N : Int) := by omega
  have hj2 : (j : Int) < (N : Int) := by omega
  have hi3 : (0 : Int) ≤ (i : Int) := by omega
  have hj3 : (0 : Int) ≤ (j : Int) := by omega
  have HPX := Lib.hid (show wd.cell? ⟨g, i * 5, none⟩ = some (.int .i64 x.j.s) ∧ wd.cell? ⟨g, i * 5 + 1, none⟩ = some (.int .i64 x.j.r) ∧ wd.cell? ⟨g, i * 5 + 2, none⟩ = some (.int .i64 x.j.d) ∧ wd.cell? ⟨g, i * 5 + 3, none⟩ = some (.int .i64 x.j.c) ∧ wd.cell? ⟨g, i * 5 + 4, none⟩ = some (.int .i64 (x.k : Int)) from ⟨hcx 0 _ rfl, hcx 1 _ rfl, hcx 2 _ rfl, hcx 3 _ rfl, hcx 4 _ rfl⟩)
  have HRY := Lib.hid (show wd.cell? ⟨g, j * 5, none⟩ = some (.int .i64 y.j.s) ∧ wd.cell? ⟨g, j * 5 + 1, none⟩ = some (.int .i64 y.j.r) ∧ wd.cell? ⟨g, j * 5 + 2, none⟩ = some (.int .i64 y.j.d) ∧ wd.cell? ⟨g, j * 5 + 3, none⟩ = some (.int .i64 y.j.c) ∧ wd.cell? ⟨g, j * 5 + 4, none⟩ = some (.int .i64 (y.k : Int)) from ⟨hcy 0 _ rfl, hcy 1 _ rfl, hcy 2 _ rfl, hcy 3 _ rfl, hcy 4 _ rfl⟩)
  clear h h0 hch0 hl hcx hcy hl1 hl2 hT1 hT2 hc1 hc2 ht2 hch hx hy hN e h1 h2 h3 h4 hll hBg
  go_enter Try.func118, Try.ntmps118
  refine wp_region_held_drew (S := fun u => True ∧ u.cell? ⟨B, 0, none⟩ = some (.slice (some ⟨g, 0, none⟩) N cap)) (by kernel_rfl) (by rw [← hwd]; exact HS0.out) (fun hHeld => ?_)
  rw [← hwd]
  rw [← hwd] at hHeld
  clear hwd
  refine wpAnyH_take (i := 0) (oi := _) (v := ?_) rfl (by kernel_rfl) (by kernel_rfl) (by kernel_rfl) (fun _ _ _ h => h) (Or.inl ⟨by rfl, ?_⟩) (by assumption) ?_
  rotate_left
  · intro x hSx
    try dsimp only at hSx
    obtain ⟨_, hSx0⟩ := hSx
    go_simp
    first | done | with_reducible rfl
  try simp only [Act.put, List.setIfInBounds_toArray, List.set_cons_zero, List.set_cons_succ]
  refine wpAnyH_take (i := 1) (oi := _) (v := ?_) rfl (by kernel_rfl) (by kernel_rfl) (by kernel_rfl) (fun _ _ _ h => h) (Or.inl ⟨by rfl, ?_⟩) (by assumption) ?_
  rotate_left
  · intro x hSx
    try dsimp only at hSx
    obtain ⟨_, hSx0⟩ := hSx
    go_simp
    first | done | with_reducible rfl
  try simp only [Act.put, List.setIfInBounds_toArray, List.set_cons_zero, List.set_cons_succ]
  refine wpAnyH_take (i := 2) (oi := _) (v := ?_) rfl (by kernel_rfl) (by kernel_rfl) (by kernel_rfl) (fun _ _ _ h => h) (Or.inl ⟨by rfl, ?_⟩) (by assumption) ?_
  rotate_left
  · intro x hSx
    try dsimp only at hSx
    obtain ⟨_, hSx0⟩ := hSx
    go_simp
    first | done | with_reducible rfl
  try simp only [Act.put, List.setIfInBounds_toArray, List.set_cons_zero, List.set_cons_succ]
  refine wpAnyH_take (i := 3) (oi := _) (v := ?_) rfl (by kernel_rfl) (by kernel_rfl) (by kernel_rfl) (fun _ _ _ h => h) (Or.inl ⟨by rfl, ?_⟩) (by assumption) ?_
  rotate_left
  · intro x hSx
    try dsimp only at hSx
    obtain ⟨_, hSx0⟩ := hSx
    go_simp
    first | done | with_reducible rfl
  try simp only [Act.put, List.setIfInBounds_toArray, List.set_cons_zero, List.set_cons_succ]
  refine wpAnyH_take (i := 4) (oi := _) (v := ?_) rfl (by kernel_rfl) (by kernel_rfl) (by kernel_rfl) (fun _ _ _ h => h) (Or.inl ⟨by rfl, ?_⟩) (by assumption) ?_
  rotate_left
  · intro x hSx
    try dsimp only at hSx
    obtain ⟨_, hSx0⟩ := hSx
    go_simp
    first | done | with_reducible rfl
  try simp only [Act.put, List.setIfInBounds_toArray, List.set_cons_zero, List.set_cons_succ]
  refine wpAnyH_take (i := 5) (oi := _) (v := ?_) rfl (by kernel_rfl) (by kernel_rfl) (by kernel_rfl) (fun _ _ _ h => h) (Or.inl ⟨by rfl, ?_⟩) (by assumption) ?_
  rotate_left
  · intro x hSx
    try dsimp only at hSx
    obtain ⟨_, hSx0⟩ := hSx
    go_simp
    first | done | with_reducible rfl
  try simp only [Act.put, List.setIfInBounds_toArray, List.set_cons_zero, List.set_cons_succ]
  refine wpAnyH_take (i := 6) (oi := _) (v := ?_) rfl (by kernel_rfl) (by kernel_rfl) (by kernel_rfl) (fun _ _ _ h => h) (Or.inl ⟨by rfl, ?_⟩) (by assumption) ?_
  rotate_left
  · intro x hSx
    try dsimp only at hSx
    obtain ⟨_, hSx0⟩ := hSx
    go_simp
    first | done | with_reducible rfl
  try simp only [Act.put, List.setIfInBounds_toArray, List.set_cons_zero, List.set_cons_succ]
  refine wpAnyH_take (i := 7) (oi := _) (v := ?_) rfl (by kernel_rfl) (by kernel_rfl) (by kernel_rfl) (fun _ _ _ h => h) (Or.inl ⟨by rfl, ?_⟩) (by assumption) ?_
  rotate_left
  · intro x hSx
    try dsimp only at hSx
    obtain ⟨_, hSx0⟩ := hSx
    go_simp
    first | done | with_reducible rfl
  try simp only [Act.put, List.setIfInBounds_toArray, List.set_cons_zero, List.set_cons_succ]
  refine wpAnyH_take (i := 8) (oi := _) (v := ?_) rfl (by kernel_rfl) (by kernel_rfl) (by kernel_rfl) (fun _ _ _ h => h) (Or.inl ⟨by rfl, ?_⟩) (by assumption) ?_
  rotate_left
  · intro x hSx
    try dsimp only at hSx
    obtain ⟨_, hSx0⟩ := hSx
    go_simp
    first | done | with_reducible rfl
  try simp only [Act.put, List.setIfInBounds_toArray, List.set_cons_zero, List.set_cons_succ]
  refine wpAnyH_take (i := 9) (oi := _) (v := ?_) rfl (by kernel_rfl) (by kernel_rfl) (by kernel_rfl) (fun _ _ _ h => h) (Or.inl ⟨by rfl, ?_⟩) (by assumption) ?_
  rotate_left
  · intro x hSx
    try dsimp only at hSx
    obtain ⟨_, hSx0⟩ := hSx
    go_simp
    first | done | with_reducible rfl
  try simp only [Act.put, List.setIfInBounds_toArray, List.set_cons_zero, List.set_cons_succ]
  refine wpAnyH_take (i := 10) (oi := _) (v := ?_) rfl (by kernel_rfl) (by kernel_rfl) (by kernel_rfl) (fun _ _ _ h => h) (Or.inl ⟨by rfl, ?_⟩) (by assumption) ?_
  rotate_left
  · intro x hSx
    try dsimp only at hSx
    obtain ⟨_, hSx0⟩ := hSx
    go_simp
    first | done | with_reducible rfl
  try simp only [Act.put, List.setIfInBounds_toArray, List.set_cons_zero, List.set_cons_succ]
  refine wpAnyH_take (i := 11) (oi := _) (v := ?_) rfl (by kernel_rfl) (by kernel_rfl) (by kernel_rfl) (fun _ _ _ h => h) (Or.inl ⟨by rfl, ?_⟩) (by assumption) ?_
  rotate_left
  · intro x hSx
    try dsimp only at hSx
    obtain ⟨_, hSx0⟩ := hSx
    go_simp
    first | done | with_reducible rfl
  try simp only [Act.put, List.setIfInBounds_toArray, List.set_cons_zero, List.set_cons_succ]
  refine wpAnyH_take (i := 12) (oi := _) (v := ?_) rfl (by kernel_rfl) (by kernel_rfl) (by kernel_rfl) (fun _ _ _ h => h) (Or.inl ⟨by rfl, ?_⟩) (by assumption) ?_
  rotate_left
  · intro x hSx
    try dsimp only at hSx
    obtain ⟨_, hSx0⟩ := hSx
    go_simp
    first | done | with_reducible rfl
  try simp only [Act.put, List.setIfInBounds_toArray, List.set_cons_zero, List.set_cons_succ]
  refine wpAnyH_take (i := 13) (oi := _) (v := ?_) rfl (by kernel_rfl) (by kernel_rfl) (by kernel_rfl) (fun _ _ _ h => h) (Or.inl ⟨by rfl, ?_⟩) (by assumption) ?_
  rotate_left
  · intro x hSx
    try dsimp only at hSx
    obtain ⟨_, hSx0⟩ := hSx
    go_simp
    first | done | with_reducible rfl
  try simp only [Act.put, List.setIfInBounds_toArray, List.set_cons_zero, List.set_cons_succ]
  refine wpAnyH_take (i := 14) (oi := _) (v := ?_) rfl (by kernel_rfl) (by kernel_rfl) (by kernel_rfl) (fun _ _ _ h => h) (Or.inl ⟨by rfl, ?_⟩) (by assumption) ?_
  rotate_left
  · intro x hSx
    try dsimp only at hSx
    obtain ⟨_, hSx0⟩ := hSx
    go_simp
    first | done | with_reducible rfl
  try simp only [Act.put, List.setIfInBounds_toArray, List.set_cons_zero, List.set_cons_succ]
  refine wpAnyH_take (i := 15) (oi := _) (v := ?_) rfl (by kernel_rfl) (by kernel_rfl) (by kernel_rfl) (fun _ _ _ h => h) (Or.inl ⟨by rfl, ?_⟩) (by assumption) ?_
  rotate_left
  · intro x hSx
    try dsimp only at hSx
    obtain ⟨_, hSx0⟩ := hSx
    go_simp
    first | done | with_reducible rfl
  try simp only [Act.put, List.setIfInBounds_toArray, List.set_cons_zero, List.set_cons_succ]
  refine wpAnyH_take (i := 17) (oi := _) (v := ?_) rfl (by kernel_rfl) (by kernel_rfl) (by kernel_rfl) (fun _ _ _ h => h) (Or.inl ⟨by rfl, ?_⟩) (by assumption) ?_
  rotate_left
  · intro x hSx
    try dsimp only at hSx
    obtain ⟨_, hSx0⟩ := hSx
    go_simp
    first | done | with_reducible rfl
  try simp only [Act.put, List.setIfInBounds_toArray, List.set_cons_zero, List.set_cons_succ]
  refine wpAnyH_take (i := 18) (oi := _) (v := ?_) rfl (by kernel_rfl) (by kernel_rfl) (by kernel_rfl) (fun _ _ _ h => h) (Or.inl ⟨by rfl, ?_⟩) (by assumption) ?_
  rotate_left
  · intro x hSx
    try dsimp only at hSx
    obtain ⟨_, hSx0⟩ := hSx
    go_simp
    first | done | with_reducible rfl
  try simp only [Act.put, List.setIfInBounds_toArray, List.set_cons_zero, List.set_cons_succ]
  refine wpAnyH_take (i := 19) (oi := _) (v := ?_) rfl (by kernel_rfl) (by kernel_rfl) (by kernel_rfl) (fun _ _ _ h => h) (Or.inl ⟨by rfl, ?_⟩) (by assumption) ?_
  rotate_left
  · intro x hSx
    try dsimp only at hSx
    obtain ⟨_, hSx0⟩ := hSx
    go_simp
    first | done | with_reducible rfl
  try simp only [Act.put, List.setIfInBounds_toArray, List.set_cons_zero, List.set_cons_succ]
  refine wpAnyH_take (i := 20) (oi := _) (v := ?_) rfl (by kernel_rfl) (by kernel_rfl) (by kernel_rfl) (fun _ _ _ h => h) (Or.inl ⟨by rfl, ?_⟩) (by assumption) ?_
  rotate_left
  · intro x hSx
    try dsimp only at hSx
    obtain ⟨_, hSx0⟩ := hSx
    go_simp
    first | done | with_reducible rfl
  try simp only [Act.put, List.setIfInBounds_toArray, List.set_cons_zero, List.set_cons_succ]
  refine wpAnyH_take (i := 21) (oi := _) (v := ?_) rfl (by kernel_rfl) (by kernel_rfl) (by kernel_rfl) (fun _ _ _ h => h) (Or.inl ⟨by rfl, ?_⟩) (by assumption) ?_
  rotate_left
  · intro x hSx
    try dsimp only at hSx
    obtain ⟨_, hSx0⟩ := hSx
    go_simp
    first | done | with_reducible rfl
  try simp only [Act.put, List.setIfInBounds_toArray, List.set_cons_zero, List.set_cons_succ]
  refine wpAnyH_take (i := 22) (oi := _) (v := ?_) rfl (by kernel_rfl) (by kernel_rfl) (by kernel_rfl) (fun _ _ _ h => h) (Or.inl ⟨by rfl, ?_⟩) (by assumption) ?_
  rotate_left
  · intro x hSx
    try dsimp only at hSx
    obtain ⟨_, hSx0⟩ := hSx
    go_simp
    first | done | with_reducible rfl
  try simp only [Act.put, List.setIfInBounds_toArray, List.set_cons_zero, List.set_cons_succ]
  refine wpAnyH_ready (rs := [16, 23]) (by kernel_rfl) (by simp) ?_
  clear hHeld
  refine AllReadyH.cons (o := ?oo) ?h1 ?h2 ?h3
  case h1 => rfl
  case h2 =>
    intro K hK
    have q0 := HRY.out.1
    have q1 := HRY.out.2.1
    have q2 := HRY.out.2.2.1
    have q3 := HRY.out.2.2.2.1
    have q4 := HRY.out.2.2.2.2
    go_simp
    refine hK.out _ _ HS0.out (fun hHeld => ?_)
    clear hK K hHeld q0 q1 q2 q3 q4
    try simp only [Act.put, List.setIfInBounds_toArray, List.set_cons_zero, List.set_cons_succ]
    refine wpAnyH_ready (rs := [23]) (by kernel_rfl) (by simp) ?_
    refine AllReadyH.cons (o := ?oo2) ?u2 ?x2 ?v2
    case u2 => rfl
    case v2 => exact AllReadyH.nil
    intro K hK
    have q0 := HPX.out.1
    have q1 := HPX.out.2.1
    have q2 := HPX.out.2.2.1
    have q3 := HPX.out.2.2.2.1
    have q4 := HPX.out.2.2.2.2
    go_simp
    refine hK.out _ _ HS0.out (fun hHeld => ?_)
    clear hK K hHeld q0 q1 q2 q3 q4
    try simp only [Act.put, List.setIfInBounds_toArray, List.set_cons_zero, List.set_cons_succ]
    have hHeld := HS0.out
    refine wpAnyH_take (i := 24) (oi := _) (v := ?_) rfl (by kernel_rfl) (by kernel_rfl) (by kernel_rfl) (fun _ _ _ h => h) (Or.inl ⟨by rfl, ?_⟩) (by assumption) ?_
    rotate_left
    · intro x hSx
      try dsimp only at hSx
      obtain ⟨_, hSx0⟩ := hSx
      go_simp
      first | done | with_reducible rfl
    try simp only [Act.put, List.setIfInBounds_toArray, List.set_cons_zero, List.set_cons_succ]
    refine wpAnyH_ready (rs := [25]) (by kernel_rfl) (by simp) ?_
    refine AllReadyH.cons (o := ?oo3) ?u3 ?x3 ?v3
    case u3 => rfl
    case v3 => exact AllReadyH.nil
    intro K hK
    rw [if_pos (by rfl)]
    refine wp_store_mid 64 _ _ rfl g (i * 5) y.C.toArray rfl rfl HT1.out (by kernel_rfl) (PJ.all y) ?_
    refine hK.out _ _ HS1.out (fun hHeld => ?_)
    clear hK K hHeld
    try simp only [Act.put, List.setIfInBounds_toArray, List.set_cons_zero, List.set_cons_succ]
    refine wpAnyH_take (i := 26) (oi := _) (v := ?_) rfl (by kernel_rfl) (by kernel_rfl) (by kernel_rfl) (fun _ _ _ h => h) (Or.inl ⟨by rfl, ?_⟩) (by exact HS1.out) ?_
    rotate_left
    · intro x hSx
      try dsimp only at hSx
      obtain ⟨_, hSx0⟩ := hSx
      go_simp
      first | done | with_reducible rfl
    try simp only [Act.put, List.setIfInBounds_toArray, List.set_cons_zero, List.set_cons_succ]
    refine wpAnyH_ready (rs := [27]) (by kernel_rfl) (by simp) ?_
    refine AllReadyH.cons (o := ?oo4) ?u4 ?x4 ?v4
    case u4 => rfl
    case v4 => exact AllReadyH.nil
    intro K hK
    rw [if_pos (by rfl)]
    refine wp_store_mid 64 _ _ rfl g (j * 5) x.C.toArray rfl rfl HT2.out (by kernel_rfl) (PJ.all x) ?_
    refine hK.out _ _ HS2.out (fun hHeld => ?_)
    clear hK K hHeld
    try simp only [Act.put, List.setIfInBounds_toArray, List.set_cons_zero, List.set_cons_succ]
    refine ⟨by kernel_rfl, ?_⟩
    go_end0
    exact ⟨rfl, HFIN.out, HCH.out⟩
  case h3 =>
    refine AllReadyH.cons (o := ?oo5) ?u5 ?x5 ?v5
    case u5 => rfl
    case v5 => exact AllReadyH.nil
    intro K hK
    have q0 := HPX.out.1
    have q1 := HPX.out.2.1
    have q2 := HPX.out.2.2.1
    have q3 := HPX.out.2.2.2.1
    have q4 := HPX.out.2.2.2.2
    go_simp
    refine hK.out _ _ HS0.out (fun hHeld => ?_)
    clear hK K hHeld q0 q1 q2 q3 q4
    try simp only [Act.put, List.setIfInBounds_toArray, List.set_cons_zero, List.set_cons_succ]
    refine wpAnyH_ready (rs := [16]) (by kernel_rfl) (by simp) ?_
    refine AllReadyH.cons (o := ?oo6) ?u6 ?x6 ?v6
    case u6 => rfl
    case v6 => exact AllReadyH.nil
    intro K hK
    have q0 := HRY.out.1
    have q1 := HRY.out.2.1
    have q2 := HRY.out.2.2.1
    have q3 := HRY.out.2.2.2.1
    have q4 := HRY.out.2.2.2.2
    go_simp
    refine hK.out _ _ HS0.out (fun hHeld => ?_)
    clear hK K hHeld q0 q1 q2 q3 q4
    try simp only [Act.put, List.setIfInBounds_toArray, List.set_cons_zero, List.set_cons_succ]
    have hHeld := HS0.out
    refine wpAnyH_take (i := 24) (oi := _) (v := ?_) rfl (by kernel_rfl) (by kernel_rfl) (by kernel_rfl) (fun _ _ _ h => h) (Or.inl ⟨by rfl, ?_⟩) (by assumption) ?_
    rotate_left
    · intro x hSx
      try dsimp only at hSx
      obtain ⟨_, hSx0⟩ := hSx
      go_simp
      first | done | with_reducible rfl
    try simp only [Act.put, List.setIfInBounds_toArray, List.set_cons_zero, List.set_cons_succ]
    refine wpAnyH_ready (rs := [25]) (by kernel_rfl) (by simp) ?_
    refine AllReadyH.cons (o := ?oo7) ?u7 ?x7 ?v7
    case u7 => rfl
    case v7 => exact AllReadyH.nil
    intro K hK
    rw [if_pos (by rfl)]
    refine wp_store_mid 64 _ _ rfl g (i * 5) y.C.toArray rfl rfl HT1.out (by kernel_rfl) (PJ.all y) ?_
    refine hK.out _ _ HS1.out (fun hHeld => ?_)
    clear hK K hHeld
    try simp only [Act.put, List.setIfInBounds_toArray, List.set_cons_zero, List.set_cons_succ]
    refine wpAnyH_take (i := 26) (oi := _) (v := ?_) rfl (by kernel_rfl) (by kernel_rfl) (by kernel_rfl) (fun _ _ _ h => h) (Or.inl ⟨by rfl, ?_⟩) (by exact HS1.out) ?_
    rotate_left
    · intro x hSx
      try dsimp only at hSx
      obtain ⟨_, hSx0⟩ := hSx
      go_simp
      first | done | with_reducible rfl
    try simp only [Act.put, List.setIfInBounds_toArray, List.set_cons_zero, List.set_cons_succ]
    refine wpAnyH_ready (rs := [27]) (by kernel_rfl) (by simp) ?_
    refine AllReadyH.cons (o := ?oo8) ?u8 ?x8 ?v8
    case u8 => rfl
    case v8 => exact AllReadyH.nil
    intro K hK
    rw [if_pos (by rfl)]
    refine wp_store_mid 64 _ _ rfl g (j * 5) x.C.toArray rfl rfl HT2.out (by kernel_rfl) (PJ.all x) ?_
    refine hK.out _ _ HS2.out (fun hHeld => ?_)
    clear hK K hHeld
    try simp only [Act.put, List.setIfInBounds_toArray, List.set_cons_zero, List.set_cons_succ]
    refine ⟨by kernel_rfl, ?_⟩
    go_end0
    exact ⟨rfl, HFIN.out, HCH.out⟩
end Go.Proofs.Ytbcccffjlkphpaa
