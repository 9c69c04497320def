/- Package edf: jobs of which none came. Conditions: there are at most so many. -/
import Derived.Test.YtbcccffjlkphpaaEdp
namespace Go.Proofs.Ytbcccffjlkphpaa
open Go.RowKit Go.Shelf Go.Sort
set_option linter.unusedSimpArgs false
set_option linter.unusedVariables false
attribute [local go_sem] Oper.semAt_some
/-- All jobs, with their places. -/
def allP (L : List Jb) : List PJ := (List.range L.length).map (plc L)
theorem allP_len (L : List Jb) : (allP L).length = L.length := by unfold allP; simp
theorem allP_take {L : List Jb} {k : Nat} (hk : k < L.length) : (allP L).take (k + 1) = (allP L).take k ++ [plc L k] := by
  rw [List.take_succ_eq_append_getElem (by rw [allP_len]; exact hk)]
  congr 2
  unfold allP
  simp
set_option maxRecDepth 100000 in
set_option maxHeartbeats 8000000 in
theorem wait_any (a : Option Addr) (ln cap : Nat) (L : List Jb) (len : Int) (hreach : L.length ≤ 1000) (W : World) (hI : Jbs W.heap.size W (.slice a ln cap) L) :
    Calls Try.prog 25 #[.slice a ln cap, .int .i64 len] W fun e w' => ∃ B, e = .returned (.pointer (some ⟨B, 0, none⟩)) ∧ ∃ (C : List PJ) (vC : Value), C.Perm (allP L) ∧ (∀ i j (hi : i < C.length) (hj : j < C.length), i < j → C[i].j.r ≤ C[j].j.r) ∧ W.heap.size ≤ B ∧ PW w' w'.heap.size B len [] C (.slice none 0 0) vC ∧ Below W.heap.size W w' := by
  obtain ⟨i0, hi, hz0, hz1, hz2⟩ := info_parts info_placed
  obtain rfl := hI.len
  obtain ⟨B, hB⟩ : ∃ B, B = W.heap.size := ⟨_, rfl⟩
  obtain ⟨w1, hw1⟩ : ∃ u, u = W.alloc (.cells #[.slice none 0 0, .int .i64 len, .slice none 0 0] 86) := ⟨_, rfl⟩
  have hb1 : Below W.heap.size W w1 := by rw [hw1]; exact (Below.refl _ _).alloc (Nat.le_refl _) _
  have hB1 : Blk w1 B 86 [.slice none 0 0, .int .i64 len, .slice none 0 0] := by rw [hw1, hB]; exact Blk.new W 86 [.slice none 0 0, .int .i64 len, .slice none 0 0]
  have HI := Lib.hid (show ∀ u, Below W.heap.size W u → Jbs u.heap.size u (.slice a L.length cap) L from fun u hu => hI.on hu)
  have HB1 := Lib.hid hb1; have HBL1 := Lib.hid hB1
  have HLB := Lib.hid (show W.heap.size ≤ B by omega)
  obtain ⟨N, hN⟩ : ∃ N, N = L.length := ⟨_, rfl⟩
  rw [← hN] at HI ⊢
  have HN := Lib.hid hN
  have hN1 : N ≤ 1000 := by omega
  clear hI hb1 hB1 hreach hN
  go_enter Try.func25, Try.ntmps25
  go_wp2_with fail
  rw [← hw1, ← hB]
  clear hw1 hB
  go_loopw [14] (fun s14 wr => ∃ (k : Nat) (v : Value), s14 = .int .i64 (k : Int) ∧ k ≤ N ∧ Blk wr B 86 [.slice none 0 0, .int .i64 len, v] ∧ wr.ownsRow (B + 1) 64 5 v k (((allP L).take k).flatMap PJ.C) ∧ Below W.heap.size W wr) (fun s14 _ => N - (intOf s14).toNat)
  case atStart => exact ⟨0, .slice none 0 0, rfl, by omega, by first | exact HBL1.out | exact HBL1.out, ⟨by simp, .inl ⟨rfl, rfl⟩⟩, by first | exact HB1.out | exact HB1.out.drew⟩
  case round =>
    obtain ⟨k, v, rfl, hk, hBk, hown, hBel⟩ := hrel
    have HBK := Lib.hid hBk; have HOW := Lib.hid hown; have HBE := Lib.hid hBel
    have i3 : (0 : Int) ≤ (k : Int) := by omega
    clear hBk hown hBel
    by_cases hlt : k < N
    · have i1 : (k : Int) < (N : Int) := by omega
      have hkL : k < L.length := by have := HN.out; omega
      obtain ⟨g, off, rfl, hg, hc⟩ := Jbs.spot (HI.out wr HBE.out) (show 0 < L.length by omega)
      obtain ⟨x, hx⟩ : ∃ x, x = L[k] := ⟨_, rfl⟩
      have hcx := hc k hkL
      rw [← hx] at hcx
      have q0 : wr.cell? ⟨g, off + k * 4, none⟩ = some (.int .i64 x.s) := hcx 0 _ rfl
      have q1 : wr.cell? ⟨g, off + k * 4 + 1, none⟩ = some (.int .i64 x.r) := hcx 1 _ rfl
      have q2 : wr.cell? ⟨g, off + k * 4 + 2, none⟩ = some (.int .i64 x.d) := hcx 2 _ rfl
      have q3 : wr.cell? ⟨g, off + k * 4 + 3, none⟩ = some (.int .i64 x.c) := hcx 3 _ rfl
      have HTK := Lib.hid (allP_take hkL)
      have HPL := Lib.hid (show plc L k = ⟨x, k⟩ by unfold plc; rw [hx, List.getD_eq_getElem?_getD, List.getElem?_eq_getElem hkL]; rfl)
      obtain ⟨J, hJ⟩ : ∃ J, J = wr.heap.size := ⟨_, rfl⟩
      obtain ⟨wj, hwj⟩ : ∃ u, u = wr.alloc (.cells #[.int .i64 x.s, .int .i64 x.r, .int .i64 x.d, .int .i64 x.c] 42) := ⟨_, rfl⟩
      have hbj : Below wr.heap.size wr wj := by rw [hwj]; exact (Below.refl _ _).alloc (Nat.le_refl _) _
      have hJB : Blk wj J 42 x.C := by rw [hwj, hJ]; exact Blk.new wr 42 x.C
      obtain ⟨wd, hwd⟩ : ∃ u, u = wj.drew := ⟨_, rfl⟩
      have hbd : Below wr.heap.size wr wd := by rw [hwd]; exact hbj.drew
      have hJD : Blk wd J 42 x.C := by rw [hwd]; exact hJB.keep (Below.refl _ _).drew hJB.lt
      have hal : Below wd.heap.size wd (wd.alloc (.cells #[.int .i64 x.s, .int .i64 x.r, .int .i64 x.d, .int .i64 x.c, .int .i64 (k : Int)] 64)) := (Below.refl _ wd).alloc (Nat.le_refl _) _
      have hb6 : Below wr.heap.size wr (wd.alloc (.cells #[.int .i64 x.s, .int .i64 x.r, .int .i64 x.d, .int .i64 x.c, .int .i64 (k : Int)] 64)) := hbd.trans (hal.mono hbd.size)
      have HB6 := Lib.hid (HBK.out.keep hb6 HBK.out.lt); have HJ6 := Lib.hid (hJD.keep hal hJD.lt); have HR6 := Lib.hid (own_stay HOW.out hb6)
      have HBL6 := Lib.hid (HBE.out.trans (hb6.mono HBE.out.size))
      have HSZ6 := Lib.hid (show B + 1 ≤ (wd.alloc (.cells #[.int .i64 x.s, .int .i64 x.r, .int .i64 x.d, .int .i64 x.c, .int .i64 (k : Int)] 64)).heap.size from HB6.out.lt)
      have HVB := Lib.hid (show ∀ g, v.ownBlock = some g → B + 1 ≤ g ∧ g < J from fun g e => by
        rw [hJ]
        rcases HOW.out.2 with ⟨e1, _⟩ | ⟨g', cap, cur, e1, hb, hg, _⟩
        · rw [e1] at e; cases e
        · rw [e1] at e
          have e2 : g' = g := by simpa [Value.ownBlock] using e
          subst e2
          exact ⟨hb, (Array.getElem?_eq_some_iff.1 hg).1⟩)
      have HNB := Lib.hid (show some B ≠ v.ownBlock from fun e => by have := (HVB.out B e.symm).1; omega)
      have HNJ := Lib.hid (show some J ≠ v.ownBlock from fun e => by have := (HVB.out J e.symm).2; omega)
      have HJB := Lib.hid (show B ≠ J by have := HBK.out.lt; omega)
      have HPS := Lib.hid (show ∀ u, Below wd.heap.size wd u → (True ∧ u.cell? ⟨J, 0, none⟩ = some (.int .i64 x.s) ∧ u.cell? ⟨J, 1, none⟩ = some (.int .i64 x.r) ∧ u.cell? ⟨J, 2, none⟩ = some (.int .i64 x.d) ∧ u.cell? ⟨J, 3, none⟩ = some (.int .i64 x.c)) from fun u hu => ⟨trivial, (hJD.keep hu hJD.lt).cellAt (i := 0) (by simp [Jb.C]), (hJD.keep hu hJD.lt).cellAt (i := 1) (by simp [Jb.C]), (hJD.keep hu hJD.lt).cellAt (i := 2) (by simp [Jb.C]), (hJD.keep hu hJD.lt).cellAt (i := 3) (by simp [Jb.C])⟩)
      have hd2 : wd.cell? ⟨B, 2, none⟩ = some v := (HBK.out.keep hbd HBK.out.lt).cellAt (i := 2) (by simp)
      have he2 : (wd.alloc (.cells #[.int .i64 x.s, .int .i64 x.r, .int .i64 x.d, .int .i64 x.c, .int .i64 (k : Int)] 64)).cell? ⟨B, 2, none⟩ = some v := HB6.out.cellAt (i := 2) (by simp)
      have HD2 := Lib.hid hd2; have HE2 := Lib.hid he2
      have HNW := Lib.hid (show ∀ (j : Nat) (u : Value), ((plc L k).C)[j]? = some u → (wd.alloc (.cells #[.int .i64 x.s, .int .i64 x.r, .int .i64 x.d, .int .i64 x.c, .int .i64 (k : Int)] 64)).cell? ((⟨wd.heap.size, 0, none⟩ : Addr).add j) = some u from fun j u hj => by
        rw [HPL.out] at hj
        have hlt := (List.getElem?_eq_some_iff.1 hj).1
        have h1 := (Blk.new wd 64 (PJ.C ⟨x, k⟩)).cellAt (i := j) hlt
        have h2 := (List.getElem?_eq_some_iff.1 hj).2
        rw [h2] at h1
        have e : ((⟨wd.heap.size, 0, none⟩ : Addr).add j) = ⟨wd.heap.size, j, none⟩ := by cases j <;> simp [Addr.add]
        rw [e]
        exact h1)
      have HOC := Lib.hid (show ∀ u ∈ (plc L k).C, u.oneCell' = true by simp [PJ.C, Value.oneCell'])
      clear hc hcx hx hg hkL hbj hJB hbd hJD hal hb6 hd2 he2
      go_upto_region 5 with fail
      rw [← hwj, ← hJ]
      clear q0 q1 q2 q3 hwj hJ
      refine wp_region_held_drew (S := fun u => (True ∧ u.cell? ⟨J, 0, none⟩ = some (.int .i64 x.s) ∧ u.cell? ⟨J, 1, none⟩ = some (.int .i64 x.r) ∧ u.cell? ⟨J, 2, none⟩ = some (.int .i64 x.d) ∧ u.cell? ⟨J, 3, none⟩ = some (.int .i64 x.c))) (by kernel_rfl) (by rw [← hwd]; exact HPS.out wd (Below.refl _ _)) (fun hHeld => ?_)
      rw [← hwd]
      rw [← hwd] at hHeld
      clear hwd
      refine wpAnyH_take (i := 0) (oi := _) (v := ?_) rfl (by kernel_rfl) (by kernel_rfl) (by kernel_rfl) (fun _ _ _ h => h) (Or.inl ⟨by rfl, ?_⟩) (by assumption) ?_
      rotate_left
      · intro x hSx
        try dsimp only at hSx
        obtain ⟨_, hSx0, hSx1, hSx2, hSx3⟩ := hSx
        go_simp
        first | done | with_reducible rfl
      try simp only [Act.put, List.setIfInBounds_toArray, List.set_cons_zero, List.set_cons_succ]
      refine wpAnyH_take (i := 1) (oi := _) (v := ?_) rfl (by kernel_rfl) (by kernel_rfl) (by kernel_rfl) (fun _ _ _ h => h) (Or.inl ⟨by rfl, ?_⟩) (by assumption) ?_
      rotate_left
      · intro x hSx
        try dsimp only at hSx
        obtain ⟨_, hSx0, hSx1, hSx2, hSx3⟩ := hSx
        go_simp
        first | done | with_reducible rfl
      try simp only [Act.put, List.setIfInBounds_toArray, List.set_cons_zero, List.set_cons_succ]
      refine wpAnyH_take (i := 2) (oi := _) (v := ?_) rfl (by kernel_rfl) (by kernel_rfl) (by kernel_rfl) (fun _ _ _ h => h) (Or.inl ⟨by rfl, ?_⟩) (by assumption) ?_
      rotate_left
      · intro x hSx
        try dsimp only at hSx
        obtain ⟨_, hSx0, hSx1, hSx2, hSx3⟩ := hSx
        go_simp
        first | done | with_reducible rfl
      try simp only [Act.put, List.setIfInBounds_toArray, List.set_cons_zero, List.set_cons_succ]
      refine wpAnyH_take (i := 3) (oi := _) (v := ?_) rfl (by kernel_rfl) (by kernel_rfl) (by kernel_rfl) (fun _ _ _ h => h) (Or.inl ⟨by rfl, ?_⟩) (by assumption) ?_
      rotate_left
      · intro x hSx
        try dsimp only at hSx
        obtain ⟨_, hSx0, hSx1, hSx2, hSx3⟩ := hSx
        go_simp
        first | done | with_reducible rfl
      try simp only [Act.put, List.setIfInBounds_toArray, List.set_cons_zero, List.set_cons_succ]
      refine wpAnyH_take (i := 5) (oi := _) (v := ?_) rfl (by kernel_rfl) (by kernel_rfl) (by kernel_rfl) (fun _ _ _ h => h) (Or.inl ⟨by rfl, ?_⟩) (by assumption) ?_
      rotate_left
      · intro x hSx
        try dsimp only at hSx
        obtain ⟨_, hSx0, hSx1, hSx2, hSx3⟩ := hSx
        go_simp
        first | done | with_reducible rfl
      try simp only [Act.put, List.setIfInBounds_toArray, List.set_cons_zero, List.set_cons_succ]
      refine wpAnyH_take (i := 6) (oi := _) (v := ?_) rfl (by kernel_rfl) (by kernel_rfl) (by kernel_rfl) (fun _ _ _ h => h) (Or.inl ⟨by rfl, ?_⟩) (by assumption) ?_
      rotate_left
      · intro x hSx
        try dsimp only at hSx
        obtain ⟨_, hSx0, hSx1, hSx2, hSx3⟩ := hSx
        go_simp
        first | done | with_reducible rfl
      try simp only [Act.put, List.setIfInBounds_toArray, List.set_cons_zero, List.set_cons_succ]
      refine wpAnyH_take (i := 7) (oi := _) (v := ?_) rfl (by kernel_rfl) (by kernel_rfl) (by kernel_rfl) (fun _ _ _ h => h) (Or.inl ⟨by rfl, ?_⟩) (by assumption) ?_
      rotate_left
      · intro x hSx
        try dsimp only at hSx
        obtain ⟨_, hSx0, hSx1, hSx2, hSx3⟩ := hSx
        go_simp
        first | done | with_reducible rfl
      try simp only [Act.put, List.setIfInBounds_toArray, List.set_cons_zero, List.set_cons_succ]
      refine wpAnyH_ready (rs := [4, 8]) (by kernel_rfl) (by simp) ?_
      clear hHeld
      refine AllReadyH.cons (o := ?o1) ?a1 ?b1 ?c1
      case a1 => rfl
      case b1 =>
        intro K hK
        have q0 := HD2.out
        go_simp
        refine hK.out _ _ (HPS.out wd (Below.refl _ _)) (fun hHeld => ?_)
        clear hK K q0
        try simp only [Act.put, List.setIfInBounds_toArray, List.set_cons_zero, List.set_cons_succ]
        refine wpAnyH_ready (rs := [8]) (by kernel_rfl) (by simp) ?_
        refine AllReadyH.cons (o := ?o2) ?a2 ?b2 ?c2
        case a2 => rfl
        case c2 => exact AllReadyH.nil
        intro K hK
        go_simp
        refine hK.out _ _ (HPS.out _ ((Below.refl _ wd).alloc (Nat.le_refl _) _)) (fun hHeld => ?_)
        clear hK K
        try simp only [Act.put, List.setIfInBounds_toArray, List.set_cons_zero, List.set_cons_succ]
        refine wpAnyH_ready (rs := [9]) (by kernel_rfl) (by simp) ?_
        refine AllReadyH.cons (o := ?o3) ?a3 ?b3 ?c3
        case a3 => rfl
        case c3 => exact AllReadyH.nil
        intro K hK
        rw [if_pos (by rfl)]
        refine wp_append_own _ _ _ 82 rfl (B + 1) 64 i0 (.agg #[.int .i64 0, .int .i64 0, .int .i64 0, .int .i64 0, .int .i64 0]) 5 40 Try.underlying82 hi hz0 hz1 hz2 rfl (by decide) v k ((allP L).take k |>.flatMap PJ.C) rfl HR6.out ⟨wd.heap.size, 0, none⟩ 1 1 (plc L k).C rfl rfl HNW.out HOC.out (by unfold maxLen; omega) (by omega) HSZ6.out ?_
        intro v' w4 hown4 hgrow4 _
        have hB4 : Blk w4 B 86 [.slice none 0 0, .int .i64 len, v] := (hgrow4.block B HB6.out.lt HNB.out).trans HB6.out
        have hJ4 : Blk w4 J 42 x.C := (hgrow4.block J HJ6.out.lt HNJ.out).trans HJ6.out
        have HB4 := Lib.hid hB4; have HJ4 := Lib.hid hJ4; have HO4 := Lib.hid hown4
        have HG4 := Lib.hid (HBL6.out.grown hgrow4 (by have := HSZ6.out; have := HLB.out; omega) (fun g e => by have := HVB.out g e; have := HLB.out; omega))
        have hS4 : (True ∧ w4.cell? ⟨J, 0, none⟩ = some (.int .i64 x.s) ∧ w4.cell? ⟨J, 1, none⟩ = some (.int .i64 x.r) ∧ w4.cell? ⟨J, 2, none⟩ = some (.int .i64 x.d) ∧ w4.cell? ⟨J, 3, none⟩ = some (.int .i64 x.c)) := ⟨trivial, hJ4.cellAt (i := 0) (by simp [Jb.C]), hJ4.cellAt (i := 1) (by simp [Jb.C]), hJ4.cellAt (i := 2) (by simp [Jb.C]), hJ4.cellAt (i := 3) (by simp [Jb.C])⟩
        clear hHeld hB4 hJ4 hown4 hgrow4
        refine hK.out _ _ hS4 (fun hHeld => ?_)
        clear hK K hS4
        try simp only [Act.put, List.setIfInBounds_toArray, List.set_cons_zero, List.set_cons_succ]
        refine wpAnyH_take (i := 10) (oi := _) (v := ?_) rfl (by kernel_rfl) (by kernel_rfl) (by kernel_rfl) (fun _ _ _ h => h) (Or.inl ⟨by rfl, ?_⟩) (by assumption) ?_
        rotate_left
        · intro x hSx
          try dsimp only at hSx
          obtain ⟨_, hSx0, hSx1, hSx2, hSx3⟩ := hSx
          go_simp
          first | done | with_reducible rfl
        try simp only [Act.put, List.setIfInBounds_toArray, List.set_cons_zero, List.set_cons_succ]
        refine wpAnyH_take (i := 11) (oi := _) (v := ?_) rfl (by kernel_rfl) (by kernel_rfl) (by kernel_rfl) (fun _ _ _ h => h) (Or.inl ⟨by rfl, ?_⟩) (by assumption) ?_
        rotate_left
        · intro x hSx
          try dsimp only at hSx
          obtain ⟨_, hSx0, hSx1, hSx2, hSx3⟩ := hSx
          go_simp
          first | done | with_reducible rfl
        try simp only [Act.put, List.setIfInBounds_toArray, List.set_cons_zero, List.set_cons_succ]
        refine wpAnyH_ready (rs := [12]) (by kernel_rfl) (by simp) ?_
        refine AllReadyH.cons (o := ?o4) ?a4 ?b4 ?c4
        case a4 => rfl
        case c4 => exact AllReadyH.nil
        intro K hK
        have q0 : w4.cell? ⟨B, 2, none⟩ = some v := HB4.out.cellAt (i := 2) (by simp)
        have f0 : w4.frozen? ⟨B, 2, none⟩ = false := HB4.out.frozenAt 2
        obtain ⟨av, cv, hav⟩ : ∃ a c, v' = .slice a (k + 1) c := own_slice HO4.out
        have HAV := Lib.hid hav
        rw [hav]
        clear hav
        go_simp
        refine hK.out _ _ ⟨trivial, (HJ4.out.puts HJB.out 2 _).cellAt (i := 0) (by simp [Jb.C]), (HJ4.out.puts HJB.out 2 _).cellAt (i := 1) (by simp [Jb.C]), (HJ4.out.puts HJB.out 2 _).cellAt (i := 2) (by simp [Jb.C]), (HJ4.out.puts HJB.out 2 _).cellAt (i := 3) (by simp [Jb.C])⟩ (fun hHeld => ?_)
        clear hK K q0 f0 hHeld
        try simp only [Act.put, List.setIfInBounds_toArray, List.set_cons_zero, List.set_cons_succ]
        refine ⟨by kernel_rfl, ?_⟩
        rw [← HAV.out]
        have HBF := Lib.hid (HB4.out.put1 (i := 2) (by simp) v')
        have HOF := Lib.hid (own_setB HO4.out (Nat.lt_succ_self B) 2 v')
        have HGF := Lib.hid (HG4.out.setCell (p := ⟨B, 2, none⟩) HLB.out v')
        go_wp2_with fail
        go_roundw
        case rel => exact ⟨k + 1, v', by simp, by omega, HBF.out, by rw [HTK.out, List.flatMap_append, List.flatMap_singleton]; exact HOF.out, HGF.out⟩
        case measure => simp [intOf]; omega
      case c1 =>
        refine AllReadyH.cons (o := ?o5) ?a5 ?b5 ?c5
        case a5 => rfl
        case c5 => exact AllReadyH.nil
        intro K hK
        go_simp
        refine hK.out _ _ (HPS.out _ ((Below.refl _ wd).alloc (Nat.le_refl _) _)) (fun hHeld => ?_)
        clear hK K
        try simp only [Act.put, List.setIfInBounds_toArray, List.set_cons_zero, List.set_cons_succ]
        refine wpAnyH_ready (rs := [4]) (by kernel_rfl) (by simp) ?_
        refine AllReadyH.cons (o := ?o6) ?a6 ?b6 ?c6
        case a6 => rfl
        case c6 => exact AllReadyH.nil
        intro K hK
        have q0 := HE2.out
        go_simp
        refine hK.out _ _ hHeld (fun hHeld => ?_)
        clear hK K q0
        try simp only [Act.put, List.setIfInBounds_toArray, List.set_cons_zero, List.set_cons_succ]
        refine wpAnyH_ready (rs := [9]) (by kernel_rfl) (by simp) ?_
        refine AllReadyH.cons (o := ?o7) ?a7 ?b7 ?c7
        case a7 => rfl
        case c7 => exact AllReadyH.nil
        intro K hK
        rw [if_pos (by rfl)]
        refine wp_append_own _ _ _ 82 rfl (B + 1) 64 i0 (.agg #[.int .i64 0, .int .i64 0, .int .i64 0, .int .i64 0, .int .i64 0]) 5 40 Try.underlying82 hi hz0 hz1 hz2 rfl (by decide) v k ((allP L).take k |>.flatMap PJ.C) rfl HR6.out ⟨wd.heap.size, 0, none⟩ 1 1 (plc L k).C rfl rfl HNW.out HOC.out (by unfold maxLen; omega) (by omega) HSZ6.out ?_
        intro v' w4 hown4 hgrow4 _
        have hB4 : Blk w4 B 86 [.slice none 0 0, .int .i64 len, v] := (hgrow4.block B HB6.out.lt HNB.out).trans HB6.out
        have hJ4 : Blk w4 J 42 x.C := (hgrow4.block J HJ6.out.lt HNJ.out).trans HJ6.out
        have HB4 := Lib.hid hB4; have HJ4 := Lib.hid hJ4; have HO4 := Lib.hid hown4
        have HG4 := Lib.hid (HBL6.out.grown hgrow4 (by have := HSZ6.out; have := HLB.out; omega) (fun g e => by have := HVB.out g e; have := HLB.out; omega))
        have hS4 : (True ∧ w4.cell? ⟨J, 0, none⟩ = some (.int .i64 x.s) ∧ w4.cell? ⟨J, 1, none⟩ = some (.int .i64 x.r) ∧ w4.cell? ⟨J, 2, none⟩ = some (.int .i64 x.d) ∧ w4.cell? ⟨J, 3, none⟩ = some (.int .i64 x.c)) := ⟨trivial, hJ4.cellAt (i := 0) (by simp [Jb.C]), hJ4.cellAt (i := 1) (by simp [Jb.C]), hJ4.cellAt (i := 2) (by simp [Jb.C]), hJ4.cellAt (i := 3) (by simp [Jb.C])⟩
        clear hHeld hB4 hJ4 hown4 hgrow4
        refine hK.out _ _ hS4 (fun hHeld => ?_)
        clear hK K hS4
        try simp only [Act.put, List.setIfInBounds_toArray, List.set_cons_zero, List.set_cons_succ]
        refine wpAnyH_take (i := 10) (oi := _) (v := ?_) rfl (by kernel_rfl) (by kernel_rfl) (by kernel_rfl) (fun _ _ _ h => h) (Or.inl ⟨by rfl, ?_⟩) (by assumption) ?_
        rotate_left
        · intro x hSx
          try dsimp only at hSx
          obtain ⟨_, hSx0, hSx1, hSx2, hSx3⟩ := hSx
          go_simp
          first | done | with_reducible rfl
        try simp only [Act.put, List.setIfInBounds_toArray, List.set_cons_zero, List.set_cons_succ]
        refine wpAnyH_take (i := 11) (oi := _) (v := ?_) rfl (by kernel_rfl) (by kernel_rfl) (by kernel_rfl) (fun _ _ _ h => h) (Or.inl ⟨by rfl, ?_⟩) (by assumption) ?_
        rotate_left
        · intro x hSx
          try dsimp only at hSx
          obtain ⟨_, hSx0, hSx1, hSx2, hSx3⟩ := hSx
          go_simp
          first | done | with_reducible rfl
        try simp only [Act.put, List.setIfInBounds_toArray, List.set_cons_zero, List.set_cons_succ]
        refine wpAnyH_ready (rs := [12]) (by kernel_rfl) (by simp) ?_
        refine AllReadyH.cons (o := ?o8) ?a8 ?b8 ?c8
        case a8 => rfl
        case c8 => exact AllReadyH.nil
        intro K hK
        have q0 : w4.cell? ⟨B, 2, none⟩ = some v := HB4.out.cellAt (i := 2) (by simp)
        have f0 : w4.frozen? ⟨B, 2, none⟩ = false := HB4.out.frozenAt 2
        obtain ⟨av, cv, hav⟩ : ∃ a c, v' = .slice a (k + 1) c := own_slice HO4.out
        have HAV := Lib.hid hav
        rw [hav]
        clear hav
        go_simp
        refine hK.out _ _ ⟨trivial, (HJ4.out.puts HJB.out 2 _).cellAt (i := 0) (by simp [Jb.C]), (HJ4.out.puts HJB.out 2 _).cellAt (i := 1) (by simp [Jb.C]), (HJ4.out.puts HJB.out 2 _).cellAt (i := 2) (by simp [Jb.C]), (HJ4.out.puts HJB.out 2 _).cellAt (i := 3) (by simp [Jb.C])⟩ (fun hHeld => ?_)
        clear hK K q0 f0 hHeld
        try simp only [Act.put, List.setIfInBounds_toArray, List.set_cons_zero, List.set_cons_succ]
        refine ⟨by kernel_rfl, ?_⟩
        rw [← HAV.out]
        have HBF := Lib.hid (HB4.out.put1 (i := 2) (by simp) v')
        have HOF := Lib.hid (own_setB HO4.out (Nat.lt_succ_self B) 2 v')
        have HGF := Lib.hid (HG4.out.setCell (p := ⟨B, 2, none⟩) HLB.out v')
        go_wp2_with fail
        go_roundw
        case rel => exact ⟨k + 1, v', by simp, by omega, HBF.out, by rw [HTK.out, List.flatMap_append, List.flatMap_singleton]; exact HOF.out, HGF.out⟩
        case measure => simp [intOf]; omega
    · have i1 : ¬ (k : Int) < (N : Int) := by omega
      obtain rfl : k = N := by omega
      have c2 : wr.cell? ⟨B, 2, none⟩ = some v := HBK.out.cellAt (i := 2) (by simp)
      have HALL := Lib.hid (show (allP L).take k = allP L by rw [List.take_of_length_le (by rw [allP_len]; have := HN.out; omega)])
      rw [HALL.out] at HOW
      rcases HOW.out.2 with ⟨rfl, hk0⟩ | ⟨g, cp, cur, rfl, hgb, hgc, hkc, hcm, hcs, hct⟩
      · have hal0 : allP L = [] := by have := HN.out; exact List.eq_nil_of_length_eq_zero (by rw [allP_len]; omega)
        go_wp2_with fail
        refine (Try.slices_SortFunc_none (α := PJ) none 0 _ wr).mono ?_
        rintro y w2 ⟨rfl, rfl⟩
        go_wp2_with fail
        go_ret
        refine ⟨B, rfl, [], .slice none 0 0, by rw [hal0], fun i j hi => by simp at hi, HLB.out, ⟨HBK.out, HBK.out.lt, Nat.le_refl _, ⟨rfl, .inl ⟨rfl, rfl⟩⟩, .inl ⟨_, _, rfl, rfl⟩⟩, HBE.out⟩
      · have hgB : Blk wr g 64 cur.toList := hgc
        have hcells := row_cells hgB hct (by rw [allP_len]; exact HN.out.symm)
        have HSRT := Lib.hid (rsort2_any g cp (allP L) cur.toList (by rw [allP_len]; have := HN.out; omega) wr hgB hcells)
        rw [allP_len, ← HN.out] at HSRT
        have HGB := Lib.hid hgB; have HGG := Lib.hid hgb; have HKC := Lib.hid hkc
        clear hgB hcells hgc hct hgb
        go_wp2_with fail
        refine HSRT.out.mono ?_
        rintro y w2 ⟨rfl, D, hD1, hD2, hD3, hD4, l5, hD5⟩
        have HD1 := Lib.hid hD1; have HD2 := Lib.hid hD2; have HD3 := Lib.hid hD3; have HD4 := Lib.hid hD4; have HD5 := Lib.hid hD5
        clear hD1 hD2 hD3 hD4 hD5
        go_wp2_with fail
        go_ret
        have hBg : B ≠ g := by have := HGG.out; omega
        have hDL : D.length = k := by rw [HD1.out.length_eq, allP_len]; exact HN.out.symm
        have hB2 : Blk w2 B 86 [.slice none 0 0, .int .i64 len, .slice (some ⟨g, 0, none⟩) k cp] := (HD4.out.block B HBK.out.lt (fun e => by cases e; exact hBg rfl)).trans HBK.out
        have hbel : Below W.heap.size W w2 := HBE.out.grown HD4.out HBE.out.size (fun r e => by cases e; have := HGG.out; have := HLB.out; omega)
        refine ⟨B, rfl, D, .slice (some ⟨g, 0, none⟩) k cp, HD1.out, fun i j hi hj hij => ?_, HLB.out, ⟨hB2, hB2.lt, Nat.le_refl _, ⟨rfl, .inl ⟨rfl, rfl⟩⟩, .inr ⟨g, 0, cp, by rw [hDL], by rw [hDL]; exact HKC.out, HD5.out.lt, ⟨l5, HD5.out⟩, fun j hj i u hu => by rw [Nat.zero_add]; exact HD3.out j hj i u hu⟩⟩, hbel⟩
        have h2 := HD2.out i j hi hj hij
        have h3 : ¬ cfR D[j] D[i] < 0 := by omega
        rw [cfR_lt] at h3
        omega
end Go.Proofs.Ytbcccffjlkphpaa
