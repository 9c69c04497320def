/- What the text 0a tells as bytes. No conditions. -/
import Derived.Test.YtmfnkfiocnngeaaDoorRda
import Derived.Test.YtmfnkfiocnngeaaDoorLia
namespace Go.Proofs.YtmfnkfiocnngeaaDoor
open Go.RowKit Go.Shelf
theorem below8 {n B : Nat} {base W : World} (hB : n ≤ B) (h : Below n base W) (v0 v1 v2 v3 v4 v5 v6 v7 : Value) : Below n base ((((((((W.setCell ⟨B, 0, none⟩ v0).setCell ⟨B, 1, none⟩ v1).setCell ⟨B, 2, none⟩ v2).setCell ⟨B, 3, none⟩ v3).setCell ⟨B, 4, none⟩ v4).setCell ⟨B, 5, none⟩ v5).setCell ⟨B, 6, none⟩ v6).setCell ⟨B, 7, none⟩ v7) :=
  Go.below_setCells hB [v0, v1, v2, v3, v4, v5, v6, v7] 0 W h
theorem drewB {W : World} {B : Nat} {T : TypeId} {l : List Value} (h : Blk W B T l) : Blk W.drew B T l := h
theorem put8 {W : World} {B : Nat} {T : TypeId} {l0 l1 l2 l3 l4 l5 l6 l7 : Value} (h : Blk W B T [l0, l1, l2, l3, l4, l5, l6, l7]) (v0 v1 v2 v3 v4 v5 v6 v7 : Value) : Blk ((((((((W.setCell ⟨B, 0, none⟩ v0).setCell ⟨B, 1, none⟩ v1).setCell ⟨B, 2, none⟩ v2).setCell ⟨B, 3, none⟩ v3).setCell ⟨B, 4, none⟩ v4).setCell ⟨B, 5, none⟩ v5).setCell ⟨B, 6, none⟩ v6).setCell ⟨B, 7, none⟩ v7) B T [v0, v1, v2, v3, v4, v5, v6, v7] :=
  (((((((h.put1 (i := 0) (by simp) v0).put1 (i := 1) (by simp) v1).put1 (i := 2) (by simp) v2).put1 (i := 3) (by simp) v3).put1 (i := 4) (by simp) v4).put1 (i := 5) (by simp) v5).put1 (i := 6) (by simp) v6).put1 (i := 7) (by simp) v7
set_option maxRecDepth 100000 in
set_option maxHeartbeats 4000000 in
theorem bytes0a (w : World) : Calls Tryd.prog 44 #[.string ⟨#[48, 97]⟩] w fun y w' => y = .returned (.tuple #[.int .i64 1, .agg #[.int .u8 10, .int .u8 0, .int .u8 0, .int .u8 0, .int .u8 0, .int .u8 0, .int .u8 0, .int .u8 0]]) ∧ Below w.heap.size w w' := by
  obtain ⟨X, hX⟩ : ∃ X, X = (w.alloc (.cells #[.int .u8 0, .int .u8 0, .int .u8 0, .int .u8 0, .int .u8 0, .int .u8 0, .int .u8 0, .int .u8 0] 25)).alloc (.cells #[.int .u8 0, .int .u8 0, .int .u8 0, .int .u8 0, .int .u8 0, .int .u8 0, .int .u8 0, .int .u8 0] 25) := ⟨_, rfl⟩
  have HB0 := Lib.hid (show Blk X w.heap.size 25 [.int .u8 0, .int .u8 0, .int .u8 0, .int .u8 0, .int .u8 0, .int .u8 0, .int .u8 0, .int .u8 0] by rw [hX]; exact (Blk.new w 25 [.int .u8 0, .int .u8 0, .int .u8 0, .int .u8 0, .int .u8 0, .int .u8 0, .int .u8 0, .int .u8 0]).keep ((Below.refl _ _).alloc (Nat.le_refl _) _) (by simp))
  have HB1 := Lib.hid (show Blk X (w.heap.size + 1) 25 [.int .u8 0, .int .u8 0, .int .u8 0, .int .u8 0, .int .u8 0, .int .u8 0, .int .u8 0, .int .u8 0] by
    have h := Blk.new (w.alloc (.cells #[.int .u8 0, .int .u8 0, .int .u8 0, .int .u8 0, .int .u8 0, .int .u8 0, .int .u8 0, .int .u8 0] 25)) 25 [.int .u8 0, .int .u8 0, .int .u8 0, .int .u8 0, .int .u8 0, .int .u8 0, .int .u8 0, .int .u8 0]
    rw [World.size_alloc] at h
    rw [hX]
    exact h)
  have HX := Lib.hid (show Below w.heap.size w X by rw [hX]; exact ((Below.refl _ w).alloc (Nat.le_refl _) _).alloc (by simp) _)
  go_enter Tryd.func44, Tryd.ntmps44
  go_wp2_with fail
  rw [← hX]
  clear hX
  go_loopw [12] (fun i wr => ∃ j : Nat, j ≤ 1 ∧ i = .int .i64 (j : Int) ∧ Blk wr w.heap.size 25 [.int .u8 0, .int .u8 0, .int .u8 0, .int .u8 0, .int .u8 0, .int .u8 0, .int .u8 0, .int .u8 0] ∧ Blk wr (w.heap.size + 1) 25 (if j = 1 then [.int .u8 10, .int .u8 0, .int .u8 0, .int .u8 0, .int .u8 0, .int .u8 0, .int .u8 0, .int .u8 0] else [.int .u8 0, .int .u8 0, .int .u8 0, .int .u8 0, .int .u8 0, .int .u8 0, .int .u8 0, .int .u8 0]) ∧ Below w.heap.size w wr) (fun i _ => 1 - (intOf i).toNat)
  case atStart => exact ⟨0, by omega, rfl, HB0.out, HB1.out, HX.out⟩
  case round =>
    obtain ⟨j, hj, rfl, h0, h1, hb⟩ := hrel
    have H0 := Lib.hid h0; have HB := Lib.hid hb
    obtain rfl | rfl : j = 0 ∨ j = 1 := by omega
    · rw [if_neg (by decide)] at h1
      have H1 := Lib.hid h1
      clear h0 h1 hb hj
      go_wp2_with fail
      refine (worth0a _).mono ?_
      rintro y w2 ⟨rfl, hb⟩
      have H0 := Lib.hid (H0.out.keep hb H0.out.lt)
      have h1 := H1.out.keep hb H1.out.lt
      have H1 := Lib.hid h1
      have HB := Lib.hid (below_trans' HB.out hb)
      have c0 := h1.cellAt (i := 0) (by simp)
      have f0 := h1.frozenAt 0
      clear hb h1
      go_wp2_with fail
      go_roundw
      case rel => exact ⟨1, by omega, rfl, H0.out.puts (by omega) 0 _, by rw [if_pos rfl]; exact H1.out.put1 (i := 0) (by simp) _, HB.out.setCell (p := ⟨w.heap.size + 1, 0, none⟩) (by show w.heap.size ≤ w.heap.size + 1; omega) _⟩
      case measure => simp [intOf]
    · rw [if_pos rfl] at h1
      have c0 := h1.cellAt (i := 0) (by simp); have c1 := h1.cellAt (i := 1) (by simp); have c2 := h1.cellAt (i := 2) (by simp); have c3 := h1.cellAt (i := 3) (by simp); have c4 := h1.cellAt (i := 4) (by simp); have c5 := h1.cellAt (i := 5) (by simp); have c6 := h1.cellAt (i := 6) (by simp); have c7 := h1.cellAt (i := 7) (by simp)
      have z0 := h0.cellAt (i := 0) (by simp); have z1 := h0.cellAt (i := 1) (by simp); have z2 := h0.cellAt (i := 2) (by simp); have z3 := h0.cellAt (i := 3) (by simp); have z4 := h0.cellAt (i := 4) (by simp); have z5 := h0.cellAt (i := 5) (by simp); have z6 := h0.cellAt (i := 6) (by simp); have z7 := h0.cellAt (i := 7) (by simp)
      have f0 := h0.frozenAt 0; have f1 := h0.frozenAt 1; have f2 := h0.frozenAt 2; have f3 := h0.frozenAt 3; have f4 := h0.frozenAt 4; have f5 := h0.frozenAt 5; have f6 := h0.frozenAt 6; have f7 := h0.frozenAt 7
      simp only [List.getElem_cons_zero, List.getElem_cons_succ] at c0 z0 c1 z1 c2 z2 c3 z3 c4 z4 c5 z5 c6 z6 c7 z7
      clear h0 h1 hb hj
      go_upto_region 8 with fail
      go_cut [2] (fun s2 wx => s2 = .int .i64 1 ∧ Blk wx w.heap.size 25 [.int .u8 10, .int .u8 0, .int .u8 0, .int .u8 0, .int .u8 0, .int .u8 0, .int .u8 0, .int .u8 0] ∧ Below w.heap.size w wx)
      case first =>
        go_region_with (fail)
        all_goals (go_wp2_with fail; all_goals go_meet)
        all_goals exact ⟨rfl, drewB (put8 H0.out _ _ _ _ _ _ _ _), (below8 (Nat.le_refl _) HB.out _ _ _ _ _ _ _ _).drew⟩
      case rest =>
      obtain ⟨rfl, h0, hb⟩ := hcut
      have z0 := h0.cellAt (i := 0) (by simp); have z1 := h0.cellAt (i := 1) (by simp); have z2 := h0.cellAt (i := 2) (by simp); have z3 := h0.cellAt (i := 3) (by simp); have z4 := h0.cellAt (i := 4) (by simp); have z5 := h0.cellAt (i := 5) (by simp); have z6 := h0.cellAt (i := 6) (by simp); have z7 := h0.cellAt (i := 7) (by simp)
      simp only [List.getElem_cons_zero, List.getElem_cons_succ] at z0 z1 z2 z3 z4 z5 z6 z7
      go_wp2_with fail
      exact bodyPost_ret (v := .tuple #[.int .i64 1, .agg #[.int .u8 10, .int .u8 0, .int .u8 0, .int .u8 0, .int .u8 0, .int .u8 0, .int .u8 0, .int .u8 0]]) (by simp [results, Tryd.results44, go_sem, z0, z1, z2, z3, z4, z5, z6, z7]) rfl ⟨rfl, hb⟩
end Go.Proofs.YtmfnkfiocnngeaaDoor
