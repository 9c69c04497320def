/- Package edf: Late. Conditions: the numbers are of 64 bits. -/
import Derived.Test.YtbcccffjlkphpaaEdt
namespace Go.Proofs.Ytbcccffjlkphpaa
open Go.RowKit Go.Shelf Go.Sort
set_option linter.unusedSimpArgs false
set_option linter.unusedVariables false
attribute [local go_sem] Oper.semAt_some
/-- The places of those that are late, in the order in which they were sent. -/
def lateL (L : List Jb) (S : List Sn) : List Int := (S.filter (fun s => decide ((L.getD s.j jb0).d < s.e))).map (fun s => (s.j : Int))
theorem lateL_take (L : List Jb) {S : List Sn} {k : Nat} (hk : k < S.length) : lateL L (S.take (k + 1)) = lateL L (S.take k) ++ if (L.getD S[k].j jb0).d < S[k].e then [(S[k].j : Int)] else [] := by
  unfold lateL
  rw [List.take_succ_eq_append_getElem hk, List.filter_append, List.map_append]
  congr 1
  by_cases h : (L.getD S[k].j jb0).d < S[k].e
  · rw [if_pos h, List.filter_cons_of_pos (by simpa using h)]; rfl
  · rw [if_neg h, List.filter_cons_of_neg (by simpa using h)]; rfl
theorem lateL_len (L : List Jb) (S : List Sn) : (lateL L S).length ≤ S.length := by
  unfold lateL; rw [List.length_map]; exact List.length_filter_le _ _
/-- A row of numbers. -/
def Nums (W : World) (v : Value) (Z : List Int) : Prop := ∃ a c, v = .slice a Z.length c ∧ ∀ k (hk : k < Z.length), ∃ g, a = some ⟨g, 0, none⟩ ∧ g < W.heap.size ∧ W.cell? ⟨g, k, none⟩ = some (.int .i64 Z[k])
def sortI (Z : List Int) : List Int := Z.mergeSort fun x y => decide (x ≤ y)
theorem sortI_len (Z : List Int) : (sortI Z).length = Z.length := by unfold sortI; simp
/-- What Late answers. -/
def LateP (L : List Jb) (len : Int) (W : World) (e : Ending) (w' : World) : Prop := ((mayJ len L ≠ 0 ∧ e = .returned (.tuple #[.slice none 0 0, .int .i64 (mayJ len L)])) ∨ (mayJ len L = 0 ∧ ∃ S v, e = .returned (.tuple #[v, .int .i64 0]) ∧ Tr L len S ∧ S.length = L.length ∧ Nums w' v (sortI (lateL L S)))) ∧ Below W.heap.size W w'
theorem info_int : (Try.prog.info? 3).map (fun i => (i.zero, i.size, i.bytes)) = some (some (.int .i64 0), 1, 8) := by kernel_rfl
theorem own_keepA {W W' : World} {b1 n size : Nat} {e : TypeId} {v : Value} {xs : List Value} (h : W.ownsRow b1 e size v n xs) (hb : Below W.heap.size W W') : W'.ownsRow b1 e size v n xs := by
  refine ⟨h.1, ?_⟩
  rcases h.2 with h1 | ⟨g, cap, cur, h1, h2, h3, h4⟩
  · exact .inl h1
  · exact .inr ⟨g, cap, cur, h1, h2, (hb.block g (Array.getElem?_eq_some_iff.1 h3).1).trans h3, h4⟩
set_option maxRecDepth 100000 in
set_option maxHeartbeats 8000000 in
theorem jlate_any (a : Option Addr) (ln cap : Nat) (L : List Jb) (len : Int) (W : World) (hI : Jbs W.heap.size W (.slice a ln cap) L) : Calls Try.prog 11 #[.slice a ln cap, .int .i64 len] W (LateP L len W) := by
  have HR := Lib.hid (jrun_any a ln cap L len W hI)
  obtain ⟨i0, hi, hz0, hz1, hz2⟩ := info_parts info_int
  obtain rfl := hI.len
  have HI := Lib.hid (show ∀ u, Below W.heap.size W u → Jbs u.heap.size u (.slice a L.length cap) L from fun u hu => hI.on hu)
  obtain ⟨NL, hNL⟩ : ∃ N, N = L.length := ⟨_, rfl⟩
  rw [← hNL] at HI HR ⊢
  have HNL := Lib.hid hNL
  clear hI hNL
  go_enter Try.func11, Try.ntmps11
  go_wp2_with fail
  refine HR.out.mono ?_
  rintro y w1 ⟨⟨hm, rfl⟩ | ⟨hm, S, v, rfl, htr, hsl, hown⟩, hb⟩
  · obtain ⟨m, hmm⟩ : ∃ m, m = mayJ len L := ⟨_, rfl⟩
    have HMM := Lib.hid hmm; have HNE := Lib.hid hm; have HB1 := Lib.hid hb
    rw [← hmm]
    clear hm hmm hb
    go_wp2_with fail
    refine wp_loop_rounds 1 ?_
    rw [rounds_succ]
    go_wp2_with fail
    refine (Try.slices_Sort_int_none none 0 _).mono ?_
    rintro y w2 ⟨rfl, rfl⟩
    go_wp2_with fail
    go_ret2
    exact ⟨.inl ⟨HNE.out, by rw [← HMM.out]; rfl⟩, by first | exact HB1.out | exact HB1.out.drew⟩
  · obtain ⟨av, cv, rfl, hcell⟩ := sent_at hown
    have HTR := Lib.hid htr; have HSL := Lib.hid hsl; have HMZ := Lib.hid hm; have HB1 := Lib.hid hb; have HCL := Lib.hid hcell
    obtain ⟨N, hN⟩ : ∃ N, N = S.length := ⟨_, rfl⟩
    rw [← hN]
    have HN := Lib.hid hN
    have hNb : N ≤ 256 := by have := (may_0 hm).2.1; omega
    have hNN : N = NL := by have := HNL.out; omega
    subst hNN
    have HJN := Lib.hid (show ∀ k (hk : k < S.length), S[k].j < L.length from fun k hk => (HTR.out k hk).1.hb)
    clear htr hsl hm hb hcell hown hN
    dsimp only
    go_wp2_with fail
    go_loopw [8, 19] (fun s8 s19 wr => ∃ k : Nat, s19 = .int .i64 (k : Int) ∧ k ≤ N ∧ wr.ownsRow w1.heap.size 3 1 s8 (lateL L (S.take k)).length ((lateL L (S.take k)).map (Value.int .i64)) ∧ Below W.heap.size W wr ∧ Below w1.heap.size w1 wr) (fun _ s19 _ => N - (intOf s19).toNat)
    case atStart => exact ⟨0, rfl, by omega, ⟨rfl, .inl ⟨rfl, rfl⟩⟩, by first | exact HB1.out | exact HB1.out.drew, by first | exact Below.refl _ _ | exact (Below.refl _ _).drew⟩
    case round =>
      obtain ⟨k, rfl, hk, hown, hB, hB2⟩ := hrel
      have HOW := Lib.hid hown; have HB := Lib.hid hB; have HB2 := Lib.hid hB2
      have i3 : (0 : Int) ≤ (k : Int) := by omega
      clear hown hB hB2
      by_cases hlt : k < N
      · have j1 : (k : Int) < (N : Int) := by omega
        have hkS : k < S.length := by have := HN.out; omega
        obtain ⟨g, rfl, hg, hc⟩ := HCL.out k hkS
        obtain ⟨y, hy⟩ : ∃ x, x = S[k] := ⟨_, rfl⟩
        have hyj := HJN.out k hkS
        have HTK := Lib.hid (lateL_take L hkS)
        rw [← hy] at hc hyj HTK
        have hcw := fun i u (hu : (y.C)[i]? = some u) => (HB2.out.cell (p := ⟨g, k * 3 + i, none⟩) hg).trans (hc i u hu)
        have q0 : wr.cell? ⟨g, k * 3, none⟩ = some (.int .i64 (y.j : Int)) := hcw 0 _ rfl
        have q1 : wr.cell? ⟨g, k * 3 + 1, none⟩ = some (.int .i64 y.a) := hcw 1 _ rfl
        have q2 : wr.cell? ⟨g, k * 3 + 2, none⟩ = some (.int .i64 y.e) := hcw 2 _ rfl
        obtain ⟨gl, off, rfl, hgl, hcl⟩ := Jbs.spot (HI.out wr HB.out) (show 0 < L.length by omega)
        obtain ⟨dd, hdd⟩ : ∃ d, d = (L.getD y.j jb0).d := ⟨_, rfl⟩
        have hdc := hcl y.j hyj 2 (.int .i64 dd) (by rw [hdd, List.getD_eq_getElem?_getD, List.getElem?_eq_getElem hyj]; rfl)
        rw [← hdd] at HTK
        have jy : (y.j : Int) < (N : Int) := by have := HN.out; have := HSL.out; omega
        have jy0 : (0 : Int) ≤ (y.j : Int) := by omega
        obtain ⟨J, hJ⟩ : ∃ J, J = wr.heap.size := ⟨_, rfl⟩
        obtain ⟨wj, hwj⟩ : ∃ u, u = wr.alloc (.cells #[.int .i64 (y.j : Int), .int .i64 y.a, .int .i64 y.e] 38) := ⟨_, rfl⟩
        have hbj : Below wr.heap.size wr wj := by rw [hwj]; exact (Below.refl _ _).alloc (Nat.le_refl _) _
        have hJB : Blk wj J 38 y.C := by rw [hwj, hJ]; exact Blk.new wr 38 y.C
        have HZ := Lib.hid (show ∀ x, Below wj.heap.size wj x → Below wj.heap.size wj x ∧ x.cell? ⟨J, 0, none⟩ = some (.int .i64 (y.j : Int)) ∧ x.cell? ⟨J, 2, none⟩ = some (.int .i64 y.e) ∧ x.cell? ⟨gl, off + y.j * 4 + 2, none⟩ = some (.int .i64 dd) from fun x hx => ⟨hx, (hJB.keep hx hJB.lt).cellAt (i := 0) (by simp [Sn.C]), (hJB.keep hx hJB.lt).cellAt (i := 2) (by simp [Sn.C]), ((hbj.trans (hx.mono hbj.size)).cell (p := ⟨gl, off + y.j * 4 + 2, none⟩) hgl).trans hdc⟩)
        have HBJ := Lib.hid hbj; have HJB := Lib.hid hJB
        clear hc hcw hy hg hkS hcl hdc hgl hdd hyj hbj hJB
        by_cases hlate : dd < y.e
        · rw [if_pos hlate] at HTK
          go_upto_region 6 with fail
          rw [← hwj, ← hJ]
          clear hwj hJ q0 q1 q2
          refine wp_region_class (C := fun x => Below wj.heap.size wj x ∧ x.cell? ⟨J, 0, none⟩ = some (.int .i64 (y.j : Int)) ∧ x.cell? ⟨J, 2, none⟩ = some (.int .i64 y.e) ∧ x.cell? ⟨gl, off + y.j * 4 + 2, none⟩ = some (.int .i64 dd)) (by kernel_rfl) (by kernel_rfl) (HZ.out _ (Below.refl _ _).drew) ?_
          repeat
            with_reducible refine wpQuiet_step (fun K hK => ?_)
            first
              | (refine quiet_skip (by rfl) ?_; (with_reducible refine hK _ ?_); clear hK K)
              | (refine quiet_want (by rfl) ?_
                 apply Exists.intro
                 refine ⟨fun x hx => ?_, hK _ ?_⟩
                 (obtain ⟨_, hx1, hx2, hx3⟩ := id hx; go_simp; first | done | rfl | (fail))
                 clear hK K)
            try simp only [Act.put, List.setIfInBounds_toArray, List.set_cons_zero, List.set_cons_succ]
          with_reducible refine wpQuiet_nil ?_
          intro wq hq
          have HB7 := Lib.hid (hq.1)
          obtain ⟨W7, hW7⟩ : ∃ W7, W7 = wq := ⟨_, rfl⟩
          rw [← hW7]; rw [← hW7] at HB7
          clear hq HZ hW7
          have HBr := Lib.hid (HBJ.out.trans (HB7.out.mono HBJ.out.size))
          have p0 : W7.cell? ⟨J, 0, none⟩ = some (.int .i64 (y.j : Int)) := (HJB.out.keep HB7.out HJB.out.lt).cellAt (i := 0) (by simp [Sn.C])
          have hown7 : (W7.alloc (.cells #[.int .i64 (y.j : Int)] 3)).ownsRow w1.heap.size 3 1 _ (lateL L (S.take k)).length ((lateL L (S.take k)).map (Value.int .i64)) := own_keepA HOW.out (HBr.out.trans (((Below.refl _ W7).alloc (Nat.le_refl _) _).mono HBr.out.size))
          have HOW7 := Lib.hid hown7
          have HNWJ := Lib.hid (show ∀ (j : Nat) (u : Value), ([Value.int .i64 (y.j : Int)])[j]? = some u → (W7.alloc (.cells #[.int .i64 (y.j : Int)] 3)).cell? ((⟨W7.heap.size, 0, none⟩ : Addr).add j) = some u from fun j u hj => by
            have hlt := (List.getElem?_eq_some_iff.1 hj).1
            have h1 := (Blk.new W7 3 [.int .i64 (y.j : Int)]).cellAt (i := j) hlt
            have h2 := (List.getElem?_eq_some_iff.1 hj).2
            rw [h2] at h1
            have e : ((⟨W7.heap.size, 0, none⟩ : Addr).add j) = ⟨W7.heap.size, j, none⟩ := by cases j <;> simp [Addr.add]
            rw [e]
            exact h1)
          have HLL := Lib.hid (show (lateL L (S.take k)).length ≤ 256 by have h1 := lateL_len L (S.take k); rw [List.length_take] at h1; omega)
          have HSZ7 := Lib.hid (show w1.heap.size ≤ (W7.alloc (.cells #[.int .i64 (y.j : Int)] 3)).heap.size by have h1 := HB2.out.size; have h2 := HBr.out.size; simp only [World.size_alloc]; omega)
          clear hown7 hlate
          go_wp2_with (at_builtin; refine wpList_append_own _ rfl _ _ 31 rfl w1.heap.size 3 i0 (.int .i64 0) 1 8 Try.underlying31 hi hz0 hz1 hz2 rfl (by decide) _ _ _ rfl HOW7.out ⟨W7.heap.size, 0, none⟩ 1 1 [.int .i64 (y.j : Int)] rfl rfl HNWJ.out (by intro u hu; simp at hu; rw [hu]; rfl) (by have := HLL.out; unfold maxLen; omega) (by have := HLL.out; omega) HSZ7.out ?_)
          intro v' w8 hown8 hgrow8 _
          have HO8 := Lib.hid hown8
          have hal7 : Below wr.heap.size wr (W7.alloc (.cells #[.int .i64 (y.j : Int)] 3)) := HBr.out.trans (((Below.refl _ W7).alloc (Nat.le_refl _) _).mono HBr.out.size)
          have hrow : ∀ r, Value.ownBlock _ = some r → w1.heap.size ≤ r := fun r e => (World.ownsRow.lt HOW7.out r e).1
          have HB8 := Lib.hid ((HB.out.trans (hal7.mono HB.out.size)).grown hgrow8 (Nat.le_trans HB.out.size hal7.size) (fun r e => Nat.le_trans HB1.out.size (hrow r e)))
          have HB28 := Lib.hid ((HB2.out.trans (hal7.mono HB2.out.size)).grown hgrow8 (Nat.le_trans HB2.out.size hal7.size) hrow)
          clear hown8 hgrow8 hal7 hrow
          go_wp2_with fail
          go_roundw
          case rel => exact ⟨k + 1, by simp, by omega, by rw [HTK.out, List.map_append, List.length_append]; exact HO8.out, HB8.out, HB28.out⟩
          case measure => simp [intOf]; omega
        · rw [if_neg hlate, List.append_nil] at HTK
          go_upto_region 6 with fail
          rw [← hwj, ← hJ]
          clear hwj hJ q0 q1 q2
          refine wp_region_class (C := fun x => Below wj.heap.size wj x ∧ x.cell? ⟨J, 0, none⟩ = some (.int .i64 (y.j : Int)) ∧ x.cell? ⟨J, 2, none⟩ = some (.int .i64 y.e) ∧ x.cell? ⟨gl, off + y.j * 4 + 2, none⟩ = some (.int .i64 dd)) (by kernel_rfl) (by kernel_rfl) (HZ.out _ (Below.refl _ _).drew) ?_
          repeat
            with_reducible refine wpQuiet_step (fun K hK => ?_)
            first
              | (refine quiet_skip (by rfl) ?_; (with_reducible refine hK _ ?_); clear hK K)
              | (refine quiet_want (by rfl) ?_
                 apply Exists.intro
                 refine ⟨fun x hx => ?_, hK _ ?_⟩
                 (obtain ⟨_, hx1, hx2, hx3⟩ := id hx; go_simp; first | done | rfl | (fail))
                 clear hK K)
            try simp only [Act.put, List.setIfInBounds_toArray, List.set_cons_zero, List.set_cons_succ]
          with_reducible refine wpQuiet_nil ?_
          intro wq hq
          have HB7 := Lib.hid (hq.1)
          obtain ⟨W7, hW7⟩ : ∃ W7, W7 = wq := ⟨_, rfl⟩
          rw [← hW7]; rw [← hW7] at HB7
          clear hq HZ hW7
          have HBr := Lib.hid (HBJ.out.trans (HB7.out.mono HBJ.out.size))
          have HO7 := Lib.hid (own_keepA HOW.out HBr.out)
          have HB9 := Lib.hid (HB.out.trans (HBr.out.mono HB.out.size)); have HB29 := Lib.hid (HB2.out.trans (HBr.out.mono HB2.out.size))
          go_wp2_with fail
          go_roundw
          case rel => exact ⟨k + 1, by simp, by omega, by rw [HTK.out]; exact HO7.out, HB9.out, HB29.out⟩
          case measure => simp [intOf]; omega
      · have j1 : ¬ (k : Int) < (N : Int) := by omega
        have hall : S.take k = S := List.take_of_length_le (by have := HN.out; omega)
        rw [hall] at HOW
        obtain ⟨Z, hZ⟩ : ∃ Z, Z = lateL L S := ⟨_, rfl⟩
        have HZZ := Lib.hid hZ
        have HZL := Lib.hid (show Z.length ≤ 256 by have h1 := lateL_len L S; rw [hZ]; have := HN.out; omega)
        rw [← hZ] at HOW
        clear hZ hall
        rcases HOW.out.2 with ⟨rfl, h0⟩ | ⟨g, cp, cur, rfl, hgb, hgc, hkc, hcm, hcs, hct⟩
        · have HZ0 := Lib.hid h0
          clear h0
          go_wp2_with fail
          refine (Try.slices_Sort_int_none none 0 wr).mono ?_
          rintro y w2 ⟨rfl, rfl⟩
          go_wp2_with fail
          go_ret2
          refine ⟨.inr ⟨HMZ.out, S, _, rfl, HTR.out, HSL.out, ?_⟩, by first | exact HB.out | exact HB.out.drew⟩
          have hl : (sortI (lateL L S)).length = 0 := by rw [sortI_len, ← HZZ.out]; exact HZ0.out
          exact ⟨none, 0, by rw [hl]; rfl, fun i hi => by omega⟩
        · have hgB : Blk wr g 3 cur.toList := hgc
          have hH : Holds (Value.int .i64) wr g 0 Z.toArray := fun j hj => by
            have hj' : j < Z.length := by simpa using hj
            rw [Nat.mul_one] at hct
            have h1 : (cur.toList.take Z.length)[j]? = some (.int .i64 Z[j]) := by rw [hct, List.getElem?_map, List.getElem?_eq_getElem hj']; rfl
            rw [List.getElem?_take_of_lt hj'] at h1
            have h2 := (List.getElem?_eq_some_iff.1 h1).1
            rw [Nat.zero_add, hgB.cellAt (i := j) h2, ← (show Z.toArray[j]! = Z[j] by rw [getElem!_pos Z.toArray j (by simpa using hj')]; simp) ] at *
            refine ⟨?_, hgB.frozenAt j⟩
            rw [← h1, List.getElem?_eq_getElem h2]
          have HSRT := Lib.hid (Try.slices_Sort_int g 0 cp Z wr hH hgB.lt (by have := HZL.out; omega))
          have HHH := Lib.hid hH; have HGB := Lib.hid hgB; have HGG := Lib.hid hgb
          clear hgB hH hgc hct hgb hcs hcm hkc
          obtain ⟨zl, hzl⟩ : ∃ n, n = Z.length := ⟨_, rfl⟩
          have HZN := Lib.hid hzl
          rw [← hzl] at HSRT ⊢
          clear hzl
          go_wp2_with fail
          refine HSRT.out.mono ?_
          rintro y w2 ⟨rfl, n, os, hw⟩
          have hbp : Below W.heap.size W w2 := HB.out.grown (row := some g) ⟨by rw [hw]; rfl, by rw [hw]; rfl, by rw [hw]; rfl, by rw [hw]; simp [grow, putRow, mapBlock, Sort.ahead], fun r hr hne => by
            rw [hw, heap_grow_old _ _ (by simpa [putRow, mapBlock, Sort.ahead] using hr)]
            have : g ≠ r := fun e => hne (by rw [e])
            simp [putRow, mapBlock, Sort.ahead, Array.getElem?_modify, this]⟩ HB.out.size (fun r e => by cases e; exact Nat.le_trans HB1.out.size HGG.out)
          have hsz : (sortI Z).toArray.size = Z.toArray.size := by simp [sortI]
          have hHs : Holds (Value.int .i64) w2 g 0 (sortI Z).toArray := by
            rw [hw]
            refine holds_grow _ _ _ _ _ _ (by simpa [putRow, mapBlock, Sort.ahead] using HGB.out.lt) ?_
            exact holds_putRow _ _ _ _ _ _ (holds_ahead _ _ _ _ _ _ HHH.out) hsz
          have hg2 : g < w2.heap.size := by rw [hw]; have := HGB.out.lt; simp [grow, putRow, mapBlock, Sort.ahead]; omega
          have HBP := Lib.hid hbp; have HHS := Lib.hid hHs; have HG2 := Lib.hid hg2
          clear hbp hHs hg2 hw
          go_wp2_with fail
          go_ret2
          refine ⟨.inr ⟨HMZ.out, S, _, rfl, HTR.out, HSL.out, ?_⟩, by first | exact HBP.out | exact HBP.out.drew⟩
          have hl : (sortI (lateL L S)).length = zl := by rw [sortI_len, ← HZZ.out, HZN.out]
          refine ⟨some ⟨g, 0, none⟩, cp, by rw [hl]; rfl, fun i hi => ⟨g, rfl, HG2.out, ?_⟩⟩
          have hi2 : i < (sortI Z).toArray.size := by rw [HZZ.out]; simpa using hi
          have := (HHS.out i hi2).1
          rw [Nat.zero_add, getElem!_pos _ i hi2] at this
          rw [this]
          congr 2
          simp [HZZ.out]
end Go.Proofs.Ytbcccffjlkphpaa
