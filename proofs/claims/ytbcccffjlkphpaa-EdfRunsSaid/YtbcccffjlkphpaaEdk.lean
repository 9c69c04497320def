/- Package edf: the heap's Push and Pop, of its own. Conditions: each theorem says its own. -/
import Derived.Test.YtbcccffjlkphpaaEdj
namespace Go.Proofs.Ytbcccffjlkphpaa
open Go.RowKit Go.Shelf Go.Sort
set_option linter.unusedSimpArgs false
set_option linter.unusedVariables false
attribute [local go_sem] Oper.semAt_some
theorem info_placed : (Try.prog.info? 64).map (fun i => (i.zero, i.size, i.bytes)) = some (some (.agg #[.int .i64 0, .int .i64 0, .int .i64 0, .int .i64 0, .int .i64 0]), 5, 40) := by kernel_rfl
theorem assert_placed (v : Value) (t : TypeId) (w : World) : Sem.run Try.prog (Instr.typeAssert (.iface 64 v) t 64 true) w = .ok (.tuple #[v, .bool true]) w := by
  simp [Instr.typeAssert, run_underlying Try.underlying64]
/-- A row that an append has grown changes rows of placed jobs alone. -/
theorem Ch.append {b1 B n : Nat} {X Y : World} {v : Value} {xs : List Value} (h : X.grownBy Y v.ownBlock) (ho : X.ownsRow b1 64 5 v n xs) : Ch b1 B X Y := by
  refine Ch.grown h (fun g e => ?_)
  rcases ho.2 with ⟨e1, _⟩ | ⟨g', cap, cur, e1, hb, hg, _⟩
  · rw [e1] at e; cases e
  · rw [e1] at e
    have e2 : g' = g := by simpa [Value.ownBlock] using e
    subst e2
    exact ⟨hb, cur.toList, hg⟩
theorem own_slice {W : World} {b1 n : Nat} {v : Value} {xs : List Value} (h : W.ownsRow b1 64 5 v n xs) : ∃ a c, v = .slice a n c := by
  rcases h.2 with ⟨e, e2⟩ | ⟨g, cap, cur, e, _⟩
  · exact ⟨_, _, by rw [e2]; exact e⟩
  · exact ⟨_, _, e⟩
theorem own_setB {W : World} {b1 B n : Nat} {v : Value} {xs : List Value} (h : W.ownsRow b1 64 5 v n xs) (hB : B < b1) (o : Nat) (u : Value) : (W.setCell ⟨B, o, none⟩ u).ownsRow b1 64 5 v n xs := by
  refine ⟨h.1, ?_⟩
  rcases h.2 with h1 | ⟨g, cap, cur, h1, h2, h3, h4⟩
  · exact .inl h1
  · exact .inr ⟨g, cap, cur, h1, h2, (Below.heap_setCell W ⟨B, o, none⟩ u g (show g ≠ B by omega)).trans h3, h4⟩
set_option maxRecDepth 100000 in
set_option maxHeartbeats 8000000 in
theorem ppush_any {W : World} {b1 B : Nat} {len : Int} {H C : List PJ} {vH vC : Value} (h : PW W b1 B len H C vH vC) (hn : H.length < 100000) (x : PJ) : Calls Try.prog 117 #[.pointer (some ⟨B, 0, none⟩), .iface 64 x.v] W fun e w' => e = .returned (.tuple #[]) ∧ ∃ vH', PW w' b1 B len (H ++ [x]) C vH' vC ∧ Ch b1 B W w' := by
  obtain ⟨i0, hi, hz0, hz1, hz2⟩ := info_parts info_placed
  obtain ⟨P, hP⟩ : ∃ P, P = W.heap.size := ⟨_, rfl⟩
  obtain ⟨w1, hw1⟩ : ∃ u, u = W.alloc (.cells #[.int .i64 x.j.s, .int .i64 x.j.r, .int .i64 x.j.d, .int .i64 x.j.c, .int .i64 (x.k : Int)] 64) := ⟨_, rfl⟩
  have hx1 : Blk w1 P 64 x.C := by rw [hw1, hP]; exact Blk.new W 64 x.C
  have hb1 : Below W.heap.size W w1 := by rw [hw1]; exact (Below.refl _ _).alloc (Nat.le_refl _) _
  have HW1 := Lib.hid (h.on hb1); have HX := Lib.hid hx1; have HC1 := Lib.hid (Ch.of_below (b1 := b1) (B := B) hb1)
  have hta := assert_placed x.v 20 W
  unfold PJ.v at hta ⊢
  have HWD := Lib.hid ((h.on hb1).on (Below.refl _ _).drew)
  have HCD := Lib.hid ((Ch.of_below (b1 := b1) (B := B) hb1).trans (Ch.of_below (Below.refl _ _).drew))
  have HXD := Lib.hid (hx1.keep (Below.refl _ _).drew hx1.lt)
  have HLT := Lib.hid (show B < b1 from h.lt)
  have HPG := Lib.hid (show ∀ g, vH.ownBlock = some g → b1 ≤ g ∧ g < P from fun g e => by
    rw [hP]
    rcases h.row.2 with ⟨e1, _⟩ | ⟨g', cap, cur, e1, hb, hg, _⟩
    · rw [e1] at e; cases e
    · rw [e1] at e
      have e2 : g' = g := by simpa [Value.ownBlock] using e
      subst e2
      exact ⟨hb, (Array.getElem?_eq_some_iff.1 hg).1⟩)
  obtain ⟨wd, hwd⟩ : ∃ u, u = w1.drew := ⟨_, rfl⟩
  rw [← hwd] at HWD HCD HXD
  have HPS := Lib.hid (show ∀ u, Below wd.heap.size wd u → (True ∧ u.cell? ⟨P, 0, none⟩ = some (.int .i64 x.j.s) ∧ u.cell? ⟨P, 1, none⟩ = some (.int .i64 x.j.r) ∧ u.cell? ⟨P, 2, none⟩ = some (.int .i64 x.j.d) ∧ u.cell? ⟨P, 3, none⟩ = some (.int .i64 x.j.c) ∧ u.cell? ⟨P, 4, none⟩ = some (.int .i64 (x.k : Int))) from fun u hu => ⟨trivial, (HXD.out.keep hu HXD.out.lt).cellAt (i := 0) (by simp [PJ.C]), (HXD.out.keep hu HXD.out.lt).cellAt (i := 1) (by simp [PJ.C]), (HXD.out.keep hu HXD.out.lt).cellAt (i := 2) (by simp [PJ.C]), (HXD.out.keep hu HXD.out.lt).cellAt (i := 3) (by simp [PJ.C]), (HXD.out.keep hu HXD.out.lt).cellAt (i := 4) (by simp [PJ.C])⟩)
  have hb0 := HWD.out.blk.cellAt (i := 0) (by simp)
  simp only [List.getElem_cons_zero] at hb0
  have HB0 := Lib.hid hb0
  have hal : Below wd.heap.size wd (wd.alloc (.cells #[.int .i64 x.j.s, .int .i64 x.j.r, .int .i64 x.j.d, .int .i64 x.j.c, .int .i64 (x.k : Int)] 64)) := (Below.refl _ wd).alloc (Nat.le_refl _) _
  have h6 := HWD.out.on hal
  have HR6 := Lib.hid h6.row; have HB6 := Lib.hid h6.blk; have HCO6 := Lib.hid h6.co; have HSZ6 := Lib.hid h6.sz; have HSZ0 := Lib.hid (show b1 ≤ W.heap.size from h.sz)
  have HP6 := Lib.hid (HXD.out.keep hal HXD.out.lt)
  have HC6 := Lib.hid (HCD.out.trans (Ch.of_below hal))
  have hb06 := h6.blk.cellAt (i := 0) (by simp)
  simp only [List.getElem_cons_zero] at hb06
  have HB06 := Lib.hid hb06
  have HLP := Lib.hid (show B < P by have := h.lt; have := h.sz; omega)
  have HNB := Lib.hid (show some B ≠ vH.ownBlock from fun e => by have := (HPG.out B e.symm).1; have := h.lt; omega)
  have HNP := Lib.hid (show some P ≠ vH.ownBlock from fun e => by have := (HPG.out P e.symm).2; omega)
  have HNW := Lib.hid (show ∀ (j : Nat) (u : Value), (x.C)[j]? = some u → (wd.alloc (.cells #[.int .i64 x.j.s, .int .i64 x.j.r, .int .i64 x.j.d, .int .i64 x.j.c, .int .i64 (x.k : Int)] 64)).cell? ((⟨wd.heap.size, 0, none⟩ : Addr).add j) = some u from fun j u hj => by
    have hlt := (List.getElem?_eq_some_iff.1 hj).1
    have h1 := (Blk.new wd 64 x.C).cellAt (i := j) hlt
    have h2 := (List.getElem?_eq_some_iff.1 hj).2
    rw [h2] at h1
    have e : ((⟨wd.heap.size, 0, none⟩ : Addr).add j) = ⟨wd.heap.size, j, none⟩ := by cases j <;> simp [Addr.add]
    rw [e]
    exact h1)
  have HOC := Lib.hid (show ∀ u ∈ x.C, u.oneCell' = true by simp [PJ.C, Value.oneCell'])
  clear hal h6 hb06
  have hHN : H.length < 100000 := hn
  go_enter Try.func117, Try.ntmps117
  go_upto_region 2 with fail
  rw [← hP, ← hw1]
  clear hta hw1
  refine wp_region_held_drew (S := fun u => (True ∧ u.cell? ⟨P, 0, none⟩ = some (.int .i64 x.j.s) ∧ u.cell? ⟨P, 1, none⟩ = some (.int .i64 x.j.r) ∧ u.cell? ⟨P, 2, none⟩ = some (.int .i64 x.j.d) ∧ u.cell? ⟨P, 3, none⟩ = some (.int .i64 x.j.c) ∧ u.cell? ⟨P, 4, none⟩ = some (.int .i64 (x.k : Int)))) (by kernel_rfl) (by rw [← hwd]; exact HPS.out wd (Below.refl _ _)) (fun hHeld => ?_)
  rw [← hwd]
  rw [← hwd] at hHeld
  clear hwd hx1 hb1 h hP hb0
  refine wpAnyH_take (i := 0) (oi := _) (v := ?_) rfl (by kernel_rfl) (by kernel_rfl) (by kernel_rfl) (fun _ _ _ h => h) (Or.inl ⟨by rfl, ?_⟩) (by assumption) ?_
  rotate_left
  · intro x hSx
    try dsimp only at hSx
    obtain ⟨_, hSx0, hSx1, hSx2, hSx3, hSx4⟩ := hSx
    go_simp
    first | done | with_reducible rfl
  try simp only [Act.put, List.setIfInBounds_toArray, List.set_cons_zero, List.set_cons_succ]
  refine wpAnyH_take (i := 1) (oi := _) (v := ?_) rfl (by kernel_rfl) (by kernel_rfl) (by kernel_rfl) (fun _ _ _ h => h) (Or.inl ⟨by rfl, ?_⟩) (by assumption) ?_
  rotate_left
  · intro x hSx
    try dsimp only at hSx
    obtain ⟨_, hSx0, hSx1, hSx2, hSx3, hSx4⟩ := hSx
    go_simp
    first | done | with_reducible rfl
  try simp only [Act.put, List.setIfInBounds_toArray, List.set_cons_zero, List.set_cons_succ]
  refine wpAnyH_take (i := 2) (oi := _) (v := ?_) rfl (by kernel_rfl) (by kernel_rfl) (by kernel_rfl) (fun _ _ _ h => h) (Or.inl ⟨by rfl, ?_⟩) (by assumption) ?_
  rotate_left
  · intro x hSx
    try dsimp only at hSx
    obtain ⟨_, hSx0, hSx1, hSx2, hSx3, hSx4⟩ := hSx
    go_simp
    first | done | with_reducible rfl
  try simp only [Act.put, List.setIfInBounds_toArray, List.set_cons_zero, List.set_cons_succ]
  refine wpAnyH_take (i := 3) (oi := _) (v := ?_) rfl (by kernel_rfl) (by kernel_rfl) (by kernel_rfl) (fun _ _ _ h => h) (Or.inl ⟨by rfl, ?_⟩) (by assumption) ?_
  rotate_left
  · intro x hSx
    try dsimp only at hSx
    obtain ⟨_, hSx0, hSx1, hSx2, hSx3, hSx4⟩ := hSx
    go_simp
    first | done | with_reducible rfl
  try simp only [Act.put, List.setIfInBounds_toArray, List.set_cons_zero, List.set_cons_succ]
  refine wpAnyH_take (i := 5) (oi := _) (v := ?_) rfl (by kernel_rfl) (by kernel_rfl) (by kernel_rfl) (fun _ _ _ h => h) (Or.inl ⟨by rfl, ?_⟩) (by assumption) ?_
  rotate_left
  · intro x hSx
    try dsimp only at hSx
    obtain ⟨_, hSx0, hSx1, hSx2, hSx3, hSx4⟩ := hSx
    go_simp
    first | done | with_reducible rfl
  try simp only [Act.put, List.setIfInBounds_toArray, List.set_cons_zero, List.set_cons_succ]
  refine wpAnyH_ready (rs := [4, 6]) (by kernel_rfl) (by simp) ?_
  clear hHeld
  refine AllReadyH.cons (o := ?o1) ?a1 ?b1 ?c1
  case a1 => rfl
  case b1 =>
    intro K hK
    have q0 := HB0.out
    go_simp
    refine hK.out _ _ (HPS.out wd (Below.refl _ _)) (fun hHeld => ?_)
    clear hK K q0
    try simp only [Act.put, List.setIfInBounds_toArray, List.set_cons_zero, List.set_cons_succ]
    refine wpAnyH_ready (rs := [6]) (by kernel_rfl) (by simp) ?_
    refine AllReadyH.cons (o := ?o2) ?a2 ?b2 ?c2
    case a2 => rfl
    case c2 => exact AllReadyH.nil
    intro K hK
    go_simp
    refine hK.out _ _ (HPS.out _ ((Below.refl _ wd).alloc (Nat.le_refl _) _)) (fun hHeld => ?_)
    clear hK K
    try simp only [Act.put, List.setIfInBounds_toArray, List.set_cons_zero, List.set_cons_succ]
    refine wpAnyH_ready (rs := [7]) (by kernel_rfl) (by simp) ?_
    refine AllReadyH.cons (o := ?o3) ?a3 ?b3 ?c3
    case a3 => rfl
    case c3 => exact AllReadyH.nil
    intro K hK
    rw [if_pos (by rfl)]
    refine wp_append_own _ _ _ 82 rfl b1 64 i0 (.agg #[.int .i64 0, .int .i64 0, .int .i64 0, .int .i64 0, .int .i64 0]) 5 40 Try.underlying82 hi hz0 hz1 hz2 rfl (by decide) vH H.length (H.flatMap PJ.C) rfl HR6.out ⟨wd.heap.size, 0, none⟩ 1 1 x.C rfl rfl HNW.out HOC.out (by unfold maxLen; omega) (by omega) HSZ6.out ?_
    intro v' w4 hown4 hgrow4 _
    have hB4 : Blk w4 B 86 [vH, .int .i64 len, vC] := (hgrow4.block B HB6.out.lt HNB.out).trans HB6.out
    have hP4 : Blk w4 P 64 x.C := (hgrow4.block P HP6.out.lt HNP.out).trans HP6.out
    have HB4 := Lib.hid hB4; have HP4 := Lib.hid hP4; have HO4 := Lib.hid hown4; have HG4 := Lib.hid (Ch.append (B := B) hgrow4 HR6.out)
    have hS4 : (True ∧ w4.cell? ⟨P, 0, none⟩ = some (.int .i64 x.j.s) ∧ w4.cell? ⟨P, 1, none⟩ = some (.int .i64 x.j.r) ∧ w4.cell? ⟨P, 2, none⟩ = some (.int .i64 x.j.d) ∧ w4.cell? ⟨P, 3, none⟩ = some (.int .i64 x.j.c) ∧ w4.cell? ⟨P, 4, none⟩ = some (.int .i64 (x.k : Int))) := ⟨trivial, hP4.cellAt (i := 0) (by simp [PJ.C]), hP4.cellAt (i := 1) (by simp [PJ.C]), hP4.cellAt (i := 2) (by simp [PJ.C]), hP4.cellAt (i := 3) (by simp [PJ.C]), hP4.cellAt (i := 4) (by simp [PJ.C])⟩
    clear hHeld hB4 hP4 hown4 hgrow4
    refine hK.out _ _ hS4 (fun hHeld => ?_)
    clear hK K hS4
    try simp only [Act.put, List.setIfInBounds_toArray, List.set_cons_zero, List.set_cons_succ]
    refine wpAnyH_take (i := 8) (oi := _) (v := ?_) rfl (by kernel_rfl) (by kernel_rfl) (by kernel_rfl) (fun _ _ _ h => h) (Or.inl ⟨by rfl, ?_⟩) (by assumption) ?_
    rotate_left
    · intro x hSx
      try dsimp only at hSx
      obtain ⟨_, hSx0, hSx1, hSx2, hSx3, hSx4⟩ := hSx
      go_simp
      first | done | with_reducible rfl
    try simp only [Act.put, List.setIfInBounds_toArray, List.set_cons_zero, List.set_cons_succ]
    refine wpAnyH_take (i := 9) (oi := _) (v := ?_) rfl (by kernel_rfl) (by kernel_rfl) (by kernel_rfl) (fun _ _ _ h => h) (Or.inl ⟨by rfl, ?_⟩) (by assumption) ?_
    rotate_left
    · intro x hSx
      try dsimp only at hSx
      obtain ⟨_, hSx0, hSx1, hSx2, hSx3, hSx4⟩ := hSx
      go_simp
      first | done | with_reducible rfl
    try simp only [Act.put, List.setIfInBounds_toArray, List.set_cons_zero, List.set_cons_succ]
    refine wpAnyH_ready (rs := [10]) (by kernel_rfl) (by simp) ?_
    refine AllReadyH.cons (o := ?o4) ?a4 ?b4 ?c4
    case a4 => rfl
    case c4 => exact AllReadyH.nil
    intro K hK
    have q0 : w4.cell? ⟨B, 0, none⟩ = some vH := HB4.out.cellAt (i := 0) (by simp)
    have f0 : w4.frozen? ⟨B, 0, none⟩ = false := HB4.out.frozenAt 0
    have HPB := Lib.hid (show B ≠ P by have := HLP.out; omega)
    obtain ⟨av, cv, hav⟩ : ∃ a c, v' = .slice a (H.length + 1) c := own_slice HO4.out
    have HAV := Lib.hid hav
    rw [hav]
    clear hav
    go_simp
    refine hK.out _ _ ⟨trivial, (HP4.out.puts HPB.out 0 _).cellAt (i := 0) (by simp [PJ.C]), (HP4.out.puts HPB.out 0 _).cellAt (i := 1) (by simp [PJ.C]), (HP4.out.puts HPB.out 0 _).cellAt (i := 2) (by simp [PJ.C]), (HP4.out.puts HPB.out 0 _).cellAt (i := 3) (by simp [PJ.C]), (HP4.out.puts HPB.out 0 _).cellAt (i := 4) (by simp [PJ.C])⟩ (fun hHeld => ?_)
    clear hK K q0 f0 hHeld
    try simp only [Act.put, List.setIfInBounds_toArray, List.set_cons_zero, List.set_cons_succ]
    refine ⟨by kernel_rfl, ?_⟩
    go_end0
    rw [← HAV.out]
    have hset := Ch.setB b1 B w4 0 v'
    have hch := HC6.out.trans (HG4.out.trans hset)
    refine ⟨rfl, v', ⟨HB4.out.put1 (i := 0) (by simp) v', HLT.out, Nat.le_trans HSZ0.out hch.2.2.2.1, by rw [List.flatMap_append, List.flatMap_singleton, List.length_append]; exact own_setB HO4.out HLT.out 0 v', (HCO6.out.keep (HG4.out.trans hset) (fun _ hl => absurd rfl (blk_ne HB6.out hl (by decide))))⟩, hch⟩
  case c1 =>
    refine AllReadyH.cons (o := ?o5) ?a5 ?b5 ?c5
    case a5 => rfl
    case c5 => exact AllReadyH.nil
    intro K hK
    go_simp
    refine hK.out _ _ (HPS.out _ ((Below.refl _ wd).alloc (Nat.le_refl _) _)) (fun hHeld => ?_)
    clear hK K
    try simp only [Act.put, List.setIfInBounds_toArray, List.set_cons_zero, List.set_cons_succ]
    refine wpAnyH_ready (rs := [4]) (by kernel_rfl) (by simp) ?_
    refine AllReadyH.cons (o := ?o6) ?a6 ?b6 ?c6
    case a6 => rfl
    case c6 => exact AllReadyH.nil
    intro K hK
    have q0 := HB06.out
    go_simp
    refine hK.out _ _ hHeld (fun hHeld => ?_)
    clear hK K q0
    try simp only [Act.put, List.setIfInBounds_toArray, List.set_cons_zero, List.set_cons_succ]
    refine wpAnyH_ready (rs := [7]) (by kernel_rfl) (by simp) ?_
    refine AllReadyH.cons (o := ?o7) ?a7 ?b7 ?c7
    case a7 => rfl
    case c7 => exact AllReadyH.nil
    intro K hK
    rw [if_pos (by rfl)]
    refine wp_append_own _ _ _ 82 rfl b1 64 i0 (.agg #[.int .i64 0, .int .i64 0, .int .i64 0, .int .i64 0, .int .i64 0]) 5 40 Try.underlying82 hi hz0 hz1 hz2 rfl (by decide) vH H.length (H.flatMap PJ.C) rfl HR6.out ⟨wd.heap.size, 0, none⟩ 1 1 x.C rfl rfl HNW.out HOC.out (by unfold maxLen; omega) (by omega) HSZ6.out ?_
    intro v' w4 hown4 hgrow4 _
    have hB4 : Blk w4 B 86 [vH, .int .i64 len, vC] := (hgrow4.block B HB6.out.lt HNB.out).trans HB6.out
    have hP4 : Blk w4 P 64 x.C := (hgrow4.block P HP6.out.lt HNP.out).trans HP6.out
    have HB4 := Lib.hid hB4; have HP4 := Lib.hid hP4; have HO4 := Lib.hid hown4; have HG4 := Lib.hid (Ch.append (B := B) hgrow4 HR6.out)
    have hS4 : (True ∧ w4.cell? ⟨P, 0, none⟩ = some (.int .i64 x.j.s) ∧ w4.cell? ⟨P, 1, none⟩ = some (.int .i64 x.j.r) ∧ w4.cell? ⟨P, 2, none⟩ = some (.int .i64 x.j.d) ∧ w4.cell? ⟨P, 3, none⟩ = some (.int .i64 x.j.c) ∧ w4.cell? ⟨P, 4, none⟩ = some (.int .i64 (x.k : Int))) := ⟨trivial, hP4.cellAt (i := 0) (by simp [PJ.C]), hP4.cellAt (i := 1) (by simp [PJ.C]), hP4.cellAt (i := 2) (by simp [PJ.C]), hP4.cellAt (i := 3) (by simp [PJ.C]), hP4.cellAt (i := 4) (by simp [PJ.C])⟩
    clear hHeld hB4 hP4 hown4 hgrow4
    refine hK.out _ _ hS4 (fun hHeld => ?_)
    clear hK K hS4
    try simp only [Act.put, List.setIfInBounds_toArray, List.set_cons_zero, List.set_cons_succ]
    refine wpAnyH_take (i := 8) (oi := _) (v := ?_) rfl (by kernel_rfl) (by kernel_rfl) (by kernel_rfl) (fun _ _ _ h => h) (Or.inl ⟨by rfl, ?_⟩) (by assumption) ?_
    rotate_left
    · intro x hSx
      try dsimp only at hSx
      obtain ⟨_, hSx0, hSx1, hSx2, hSx3, hSx4⟩ := hSx
      go_simp
      first | done | with_reducible rfl
    try simp only [Act.put, List.setIfInBounds_toArray, List.set_cons_zero, List.set_cons_succ]
    refine wpAnyH_take (i := 9) (oi := _) (v := ?_) rfl (by kernel_rfl) (by kernel_rfl) (by kernel_rfl) (fun _ _ _ h => h) (Or.inl ⟨by rfl, ?_⟩) (by assumption) ?_
    rotate_left
    · intro x hSx
      try dsimp only at hSx
      obtain ⟨_, hSx0, hSx1, hSx2, hSx3, hSx4⟩ := hSx
      go_simp
      first | done | with_reducible rfl
    try simp only [Act.put, List.setIfInBounds_toArray, List.set_cons_zero, List.set_cons_succ]
    refine wpAnyH_ready (rs := [10]) (by kernel_rfl) (by simp) ?_
    refine AllReadyH.cons (o := ?o8) ?a8 ?b8 ?c8
    case a8 => rfl
    case c8 => exact AllReadyH.nil
    intro K hK
    have q0 : w4.cell? ⟨B, 0, none⟩ = some vH := HB4.out.cellAt (i := 0) (by simp)
    have f0 : w4.frozen? ⟨B, 0, none⟩ = false := HB4.out.frozenAt 0
    have HPB := Lib.hid (show B ≠ P by have := HLP.out; omega)
    obtain ⟨av, cv, hav⟩ : ∃ a c, v' = .slice a (H.length + 1) c := own_slice HO4.out
    have HAV := Lib.hid hav
    rw [hav]
    clear hav
    go_simp
    refine hK.out _ _ ⟨trivial, (HP4.out.puts HPB.out 0 _).cellAt (i := 0) (by simp [PJ.C]), (HP4.out.puts HPB.out 0 _).cellAt (i := 1) (by simp [PJ.C]), (HP4.out.puts HPB.out 0 _).cellAt (i := 2) (by simp [PJ.C]), (HP4.out.puts HPB.out 0 _).cellAt (i := 3) (by simp [PJ.C]), (HP4.out.puts HPB.out 0 _).cellAt (i := 4) (by simp [PJ.C])⟩ (fun hHeld => ?_)
    clear hK K q0 f0 hHeld
    try simp only [Act.put, List.setIfInBounds_toArray, List.set_cons_zero, List.set_cons_succ]
    refine ⟨by kernel_rfl, ?_⟩
    go_end0
    rw [← HAV.out]
    have hset := Ch.setB b1 B w4 0 v'
    have hch := HC6.out.trans (HG4.out.trans hset)
    refine ⟨rfl, v', ⟨HB4.out.put1 (i := 0) (by simp) v', HLT.out, Nat.le_trans HSZ0.out hch.2.2.2.1, by rw [List.flatMap_append, List.flatMap_singleton, List.length_append]; exact own_setB HO4.out HLT.out 0 v', (HCO6.out.keep (HG4.out.trans hset) (fun _ hl => absurd rfl (blk_ne HB6.out hl (by decide))))⟩, hch⟩
end Go.Proofs.Ytbcccffjlkphpaa
