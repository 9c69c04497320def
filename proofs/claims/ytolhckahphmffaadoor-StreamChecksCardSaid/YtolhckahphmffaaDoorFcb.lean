/- A frame that can be, out of any one, as a statement makes it (Frame of the statements of layer 11): what it returns. Conditions: eight bytes of data. -/
import Derived.Test.YtolhckahphmffaaDoorFca
namespace Go.Proofs.YtolhckahphmffaaDoor
open Go.RowKit Go.Shelf
section
variable {W : World} {B : Nat} {e : Bool} {n : Nat} {r : Bool} {len : Int} {data : List Nat}
theorem addr_ne {B C o p : Nat} (h : B ≠ C ∨ o ≠ p) : (⟨B, o, none⟩ : Addr) ≠ ⟨C, p, none⟩ := fun e => by
  injection e with e1 e2
  rcases h with h | h
  · exact h e1
  · exact h e2
theorem FrameAt.setN (h : FrameAt W B e n r len data) (n' : Nat) : FrameAt (W.setCell ⟨B, 1, none⟩ (.int .u32 (n' : Int))) B e n' r len data :=
  ⟨(World.cell?_setCell_other _ _ _ _ (addr_ne (.inr (by omega)))).trans h.c0, World.cell?_setCell_same _ _ _ h.c1, (World.cell?_setCell_other _ _ _ _ (addr_ne (.inr (by omega)))).trans h.c2, (World.cell?_setCell_other _ _ _ _ (addr_ne (.inr (by omega)))).trans h.c3, fun i hi => (World.cell?_setCell_other _ _ _ _ (addr_ne (.inr (by omega)))).trans (h.cd i hi), fun i hi => by rw [World.frozen?_setCell]; exact h.fz i hi⟩
theorem FrameAt.setL (h : FrameAt W B e n r len data) (len' : Int) : FrameAt (W.setCell ⟨B, 3, none⟩ (.int .i64 len')) B e n r len' data :=
  ⟨(World.cell?_setCell_other _ _ _ _ (addr_ne (.inr (by omega)))).trans h.c0, (World.cell?_setCell_other _ _ _ _ (addr_ne (.inr (by omega)))).trans h.c1, (World.cell?_setCell_other _ _ _ _ (addr_ne (.inr (by omega)))).trans h.c2, World.cell?_setCell_same _ _ _ h.c3, fun i hi => (World.cell?_setCell_other _ _ _ _ (addr_ne (.inr (by omega)))).trans (h.cd i hi), fun i hi => by rw [World.frozen?_setCell]; exact h.fz i hi⟩
theorem FrameAt.setD (h : FrameAt W B e n r len data) (hd : data.length = 8) (i x : Nat) (hi : i < 8) : FrameAt (W.setCell ⟨B, 4 + i, none⟩ (.int .u8 (x : Int))) B e n r len (data.set i x) := by
  refine ⟨(World.cell?_setCell_other _ _ _ _ (addr_ne (.inr (by omega)))).trans h.c0, (World.cell?_setCell_other _ _ _ _ (addr_ne (.inr (by omega)))).trans h.c1, (World.cell?_setCell_other _ _ _ _ (addr_ne (.inr (by omega)))).trans h.c2, (World.cell?_setCell_other _ _ _ _ (addr_ne (.inr (by omega)))).trans h.c3, fun j hj => ?_, fun j hj => by rw [World.frozen?_setCell]; exact h.fz j hj⟩
  by_cases hij : i = j
  · subst hij
    rw [World.cell?_setCell_same _ _ _ (h.cd i hi)]
    simp [hd, hi]
  · rw [World.cell?_setCell_other _ _ _ _ (addr_ne (.inr (by omega))), h.cd j hj, List.getElem?_set_ne hij]
theorem FrameAt.other (h : FrameAt W B e n r len data) {C o : Nat} (hne : C ≠ B) (v : Value) : FrameAt (W.setCell ⟨C, o, none⟩ v) B e n r len data :=
  ⟨(World.cell?_setCell_other _ _ _ _ (addr_ne (.inl hne))).trans h.c0, (World.cell?_setCell_other _ _ _ _ (addr_ne (.inl hne))).trans h.c1, (World.cell?_setCell_other _ _ _ _ (addr_ne (.inl hne))).trans h.c2, (World.cell?_setCell_other _ _ _ _ (addr_ne (.inl hne))).trans h.c3, fun i hi => (World.cell?_setCell_other _ _ _ _ (addr_ne (.inl hne))).trans (h.cd i hi), fun i hi => by rw [World.frozen?_setCell]; exact h.fz i hi⟩
theorem FrameAt.more (h : FrameAt W B e n r len data) (hB : B < W.heap.size) (o : Obj) : FrameAt (W.alloc o) B e n r len data := h.keep ((Below.refl _ _).alloc (Nat.le_refl _) _) hB
theorem FrameAt.keepAt {n₀ : Nat} {X : World} (h : FrameAt W B e n r len data) (hb : Below n₀ W X) (hB : B < n₀) : FrameAt X B e n r len data := by
  have hc : ∀ o : Nat, X.cell? ⟨B, o, none⟩ = W.cell? ⟨B, o, none⟩ := fun o => hb.cell (p := ⟨B, o, none⟩) hB
  have hf : ∀ o : Nat, X.frozen? ⟨B, o, none⟩ = W.frozen? ⟨B, o, none⟩ := fun o => World.frozen?_of_block (hb.block B hB)
  exact ⟨(hc 0).trans h.c0, (hc 1).trans h.c1, (hc 2).trans h.c2, (hc 3).trans h.c3, fun i hi => (hc _).trans (h.cd i hi), fun i hi => (hf _).trans (h.fz i hi)⟩
end
/-- A whole frame is laid where one lies. -/
theorem FrameAt.put {W : World} {C : Nat} {e0 : Bool} {n0 : Nat} {r0 : Bool} {l0 : Int} {x0 : List Nat} (h : FrameAt W C e0 n0 r0 l0 x0) (e : Bool) (n : Nat) (r : Bool) (len : Int) (d0 d1 d2 d3 d4 d5 d6 d7 : Nat) :
    FrameAt ((((((((((((W.setCell ⟨C, 0, none⟩ (.bool e)).setCell ⟨C, 1, none⟩ (.int .u32 (n : Int))).setCell ⟨C, 2, none⟩ (.bool r)).setCell ⟨C, 3, none⟩ (.int .i64 len)).setCell ⟨C, 4, none⟩ (.int .u8 (d0 : Int))).setCell ⟨C, 5, none⟩ (.int .u8 (d1 : Int))).setCell ⟨C, 6, none⟩ (.int .u8 (d2 : Int))).setCell ⟨C, 7, none⟩ (.int .u8 (d3 : Int))).setCell ⟨C, 8, none⟩ (.int .u8 (d4 : Int))).setCell ⟨C, 9, none⟩ (.int .u8 (d5 : Int))).setCell ⟨C, 10, none⟩ (.int .u8 (d6 : Int))).setCell ⟨C, 11, none⟩ (.int .u8 (d7 : Int))) C e n r len [d0, d1, d2, d3, d4, d5, d6, d7] := by
  have hc : ∀ o, o < 12 → (W.cell? ⟨C, o, none⟩).isSome = true := fun o ho => by
    by_cases h4 : o < 4
    · obtain rfl | rfl | rfl | rfl : o = 0 ∨ o = 1 ∨ o = 2 ∨ o = 3 := by omega
      · rw [h.c0]; rfl
      · rw [h.c1]; rfl
      · rw [h.c2]; rfl
      · rw [h.c3]; rfl
    · obtain ⟨i, rfl⟩ : ∃ i, o = 4 + i := ⟨o - 4, by omega⟩
      rw [h.cd i (by omega)]; rfl
  show FrameAt (W.setCells C 0 [.bool e, .int .u32 (n : Int), .bool r, .int .i64 len, .int .u8 (d0 : Int), .int .u8 (d1 : Int), .int .u8 (d2 : Int), .int .u8 (d3 : Int), .int .u8 (d4 : Int), .int .u8 (d5 : Int), .int .u8 (d6 : Int), .int .u8 (d7 : Int)]) C e n r len [d0, d1, d2, d3, d4, d5, d6, d7]
  have hin := World.cell?_setCells_in C [.bool e, .int .u32 (n : Int), .bool r, .int .i64 len, .int .u8 (d0 : Int), .int .u8 (d1 : Int), .int .u8 (d2 : Int), .int .u8 (d3 : Int), .int .u8 (d4 : Int), .int .u8 (d5 : Int), .int .u8 (d6 : Int), .int .u8 (d7 : Int)] 0 W (fun j hj => by rw [Nat.zero_add]; exact hc j (by simpa using hj))
  refine ⟨hin 0 (by simp), hin 1 (by simp), hin 2 (by simp), hin 3 (by simp), fun i hi => ?_, fun i hi => by rw [World.frozen?_setCells]; exact h.fz i hi⟩
  obtain rfl | rfl | rfl | rfl | rfl | rfl | rfl | rfl : i = 0 ∨ i = 1 ∨ i = 2 ∨ i = 3 ∨ i = 4 ∨ i = 5 ∨ i = 6 ∨ i = 7 := by omega
  · exact hin 4 (by simp)
  · exact hin 5 (by simp)
  · exact hin 6 (by simp)
  · exact hin 7 (by simp)
  · exact hin 8 (by simp)
  · exact hin 9 (by simp)
  · exact hin 10 (by simp)
  · exact hin 11 (by simp)
def trimD (data : List Nat) (r : Bool) (m j : Nat) : List Nat := (List.range 8).map fun i => if i < j ∧ (r = true ∨ m ≤ i) then 0 else data[i]?.getD 0
theorem trimD_length (data : List Nat) (r : Bool) (m j : Nat) : (trimD data r m j).length = 8 := by simp [trimD]
theorem trimD_get (data : List Nat) (r : Bool) (m j : Nat) {i : Nat} (hi : i < 8) : (trimD data r m j)[i]?.getD 0 = if i < j ∧ (r = true ∨ m ≤ i) then 0 else data[i]?.getD 0 := by simp [trimD, hi]
theorem trimD_zero (data : List Nat) (r : Bool) (m : Nat) (hd : data.length = 8) : trimD data r m 0 = data := by
  apply List.ext_getElem
  · rw [trimD_length, hd]
  · intro i h1 h2
    simp [trimD, show i < data.length from h2]
theorem trimD_set (data : List Nat) (r : Bool) (m j : Nat) (h : r = true ∨ m ≤ j) : (trimD data r m j).set j 0 = trimD data r m (j + 1) := by
  apply List.ext_getElem
  · simp [trimD]
  · intro i h1 h2
    have hi : i < 8 := by simpa [trimD] using h2
    rw [List.getElem_set]
    by_cases hij : j = i
    · subst hij
      rw [if_pos rfl]
      simp [trimD, h]
    · rw [if_neg hij]
      simp only [trimD, List.getElem_map, List.getElem_range]
      by_cases h3 : i < j
      · simp [h3, show i < j + 1 by omega]
      · rw [if_neg (by omega), if_neg (by omega)]
theorem trimD_skip (data : List Nat) (r : Bool) (m j : Nat) (h : ¬ (r = true ∨ m ≤ j)) : trimD data r m j = trimD data r m (j + 1) := by
  apply List.ext_getElem
  · simp [trimD]
  · intro i h1 h2
    simp only [trimD, List.getElem_map, List.getElem_range]
    by_cases hij : i = j
    · subst hij
      rw [if_neg (by omega), if_neg (fun hh => h hh.2)]
    · by_cases h3 : i < j
      · simp [h3, show i < j + 1 by omega]
      · rw [if_neg (by omega), if_neg (by omega)]
/-- The number and the length of a frame that is made to be one that can be. -/
def cutN (e : Bool) (n : Nat) : Nat := if e then n % 536870912 else n % 2048
def cutL (len : Int) : Nat := (if len < 0 then 0 else len.toNat) % 9
theorem cut_right (e : Bool) (n : Nat) : rightI e (cutN e n) = true := by
  cases e
  · simp [rightI, cutN]; omega
  · simp [rightI, cutN]; omega
theorem cut_can (e : Bool) (n : Nat) (r : Bool) (len : Int) (data : List Nat) : rightF e (cutN e n) r (cutL len : Int) (trimD data r (cutL len) 8) = 0 :=
  rightF_ok (cut_right e n) (by unfold cutL; omega) (fun i hi h => by
    rw [trimD_get _ _ _ _ hi, if_pos ⟨hi, by rcases h with h | h <;> simp [h]⟩])
theorem FrameAt.frz {W : World} {B : Nat} {e : Bool} {n : Nat} {r : Bool} {len : Int} {data : List Nat} (h : FrameAt W B e n r len data) : W.frozen? ⟨B, 0, none⟩ = false ∧ W.frozen? ⟨B, 1, none⟩ = false ∧ W.frozen? ⟨B, 2, none⟩ = false ∧ W.frozen? ⟨B, 3, none⟩ = false ∧ W.frozen? ⟨B, 4, none⟩ = false ∧ W.frozen? ⟨B, 5, none⟩ = false ∧ W.frozen? ⟨B, 6, none⟩ = false ∧ W.frozen? ⟨B, 7, none⟩ = false ∧ W.frozen? ⟨B, 8, none⟩ = false ∧ W.frozen? ⟨B, 9, none⟩ = false ∧ W.frozen? ⟨B, 10, none⟩ = false ∧ W.frozen? ⟨B, 11, none⟩ = false :=
  ⟨h.fz 0 (by omega), h.fz 1 (by omega), h.fz 2 (by omega), h.fz 3 (by omega), h.fz 4 (by omega), h.fz 5 (by omega), h.fz 6 (by omega), h.fz 7 (by omega), h.fz 8 (by omega), h.fz 9 (by omega), h.fz 10 (by omega), h.fz 11 (by omega)⟩
end Go.Proofs.YtolhckahphmffaaDoor
