/- The document's own Late of layer 27. Conditions: none. -/
import Derived.Test.YtbcccffjlkphpaaEfb
import Derived.Test.YtbcccffjlkphpaaEdu
namespace Go.Proofs.Ytbcccffjlkphpaa
open Go.RowKit Go.Shelf
set_option linter.unusedSimpArgs false
set_option linter.unusedVariables false
attribute [local go_sem] Oper.semAt_some
/-- Is the m-th job late? -/
def lateA (L : List Jb) (S : List Sn) (m : Nat) : Bool := S.any (fun s => (s.j == m) && decide ((L.getD m jb0).d < s.e))
def lateB (L : List Jb) (S : List Sn) (n : Nat) : List Value := (List.range n).map fun m => .bool (lateA L S m)
theorem lateB_len (L : List Jb) (S : List Sn) (n : Nat) : (lateB L S n).length = n := by unfold lateB; simp
theorem lateB_get {L : List Jb} {S : List Sn} {n m : Nat} (h : m < (lateB L S n).length) : (lateB L S n)[m] = .bool (lateA L S m) := by
  have h2 : m < n := by rw [lateB_len] at h; exact h
  have e : (lateB L S n)[m]? = some (.bool (lateA L S m)) := by
    unfold lateB
    rw [List.getElem?_map, List.getElem?_range h2]
    rfl
  rw [List.getElem?_eq_getElem h] at e
  exact Option.some.inj e
theorem lateB_nil (L : List Jb) (n : Nat) : lateB L [] n = bitD n [] := by
  unfold lateB bitD
  congr 1
theorem lateA_snoc (L : List Jb) (S : List Sn) (x : Sn) (m : Nat) : lateA L (S ++ [x]) m = (lateA L S m || ((x.j == m) && decide ((L.getD m jb0).d < x.e))) := by
  unfold lateA
  rw [List.any_append]
  simp
theorem lateA_none {L : List Jb} {S : List Sn} {m : Nat} (h : m ∉ S.map Sn.j) : lateA L S m = false := by
  unfold lateA
  rw [List.any_eq_false]
  intro s hs he
  simp only [Bool.and_eq_true, beq_iff_eq] at he
  exact h (List.mem_map.2 ⟨s, hs, he.1⟩)
theorem lateB_set {L : List Jb} {S : List Sn} {n : Nat} {x : Sn} (h : x.j ∉ S.map Sn.j) : (lateB L S n).set x.j (.bool (decide ((L.getD x.j jb0).d < x.e))) = lateB L (S ++ [x]) n := by
  apply List.ext_getElem
  · simp [lateB_len]
  intro i h1 h2
  rw [List.getElem_set, lateB_get, lateB_get, lateA_snoc]
  by_cases e : x.j = i
  · subst e
    rw [if_pos rfl, lateA_none h]
    simp
  · rw [if_neg e]
    congr 1
    have : (x.j == i) = false := by simpa using e
    rw [this]
    simp
/-- The late ones below k, rising. -/
def lateUp (L : List Jb) (S : List Sn) (k : Nat) : List Int := ((List.range k).filter (fun m => lateA L S m)).map (fun (m : Nat) => (m : Int))
theorem lateUp_succ (L : List Jb) (S : List Sn) (k : Nat) : lateUp L S (k + 1) = lateUp L S k ++ if lateA L S k = true then [(k : Int)] else [] := by
  unfold lateUp
  rw [List.range_succ, List.filter_append, List.map_append]
  congr 1
  by_cases h : lateA L S k = true
  · rw [if_pos h, List.filter_cons_of_pos h]; rfl
  · rw [if_neg h, List.filter_cons_of_neg h]; rfl
theorem lateUp_len (L : List Jb) (S : List Sn) (k : Nat) : (lateUp L S k).length ≤ k := by
  unfold lateUp
  rw [List.length_map]
  have h := List.length_filter_le (fun m => lateA L S m) (List.range k)
  rw [List.length_range] at h
  exact h
theorem Tr.nodup {L : List Jb} {len : Int} {S : List Sn} (h : Tr L len S) : ∀ k, k ≤ S.length → ((S.take k).map Sn.j).Nodup
  | 0, _ => by simp
  | k + 1, hk => by
    have ih := h.nodup k (by omega)
    rw [List.take_succ_eq_append_getElem (by omega), List.map_append, List.nodup_append]
    refine ⟨ih, by simp, ?_⟩
    intro a ha b hb
    simp only [List.map_cons, List.map_nil, List.mem_singleton] at hb
    subst hb
    intro e
    exact (h k (by omega)).1.nd (by rw [← e]; exact ha)
theorem filter_map_j (L : List Jb) (S0 : List Sn) : ∀ S : List Sn, (∀ s ∈ S, lateA L S0 s.j = decide ((L.getD s.j jb0).d < s.e)) → (S.filter (fun s => decide ((L.getD s.j jb0).d < s.e))).map Sn.j = (S.map Sn.j).filter (fun m => lateA L S0 m)
  | [], _ => rfl
  | x :: S, h => by
    have hx := h x (by simp)
    have ih := filter_map_j L S0 S (fun s hs => h s (List.mem_cons_of_mem _ hs))
    rw [List.map_cons, List.filter_cons, List.filter_cons]
    by_cases e : (L.getD x.j jb0).d < x.e
    · rw [if_pos (by simpa using e), if_pos (by rw [hx]; simpa using e), List.map_cons, ih]
    · rw [if_neg (by simpa using e), if_neg (by rw [hx]; simpa using e), ih]
theorem lateA_of {L : List Jb} {S : List Sn} (hn : (S.map Sn.j).Nodup) : ∀ s ∈ S, lateA L S s.j = decide ((L.getD s.j jb0).d < s.e) := by
  intro s hs
  induction S with
  | nil => cases hs
  | cons x S ih =>
    rw [List.map_cons, List.nodup_cons] at hn
    have hu : lateA L (x :: S) s.j = (((x.j == s.j) && decide ((L.getD s.j jb0).d < x.e)) || lateA L S s.j) := by unfold lateA; rw [List.any_cons]
    rw [hu]
    rcases List.mem_cons.1 hs with e | hs2
    · subst e
      rw [lateA_none hn.1]
      simp
    · have hne : ¬ x.j = s.j := fun e => hn.1 (by rw [e]; exact List.mem_map_of_mem hs2)
      have : (x.j == s.j) = false := by simpa using hne
      rw [this, ih hn.2 hs2]
      simp
theorem sort_unique : ∀ (A B : List Int), A.Perm B → A.Pairwise (· ≤ ·) → B.Pairwise (· ≤ ·) → A = B
  | [], B, hp, _, _ => (List.nil_perm.1 hp).symm ▸ rfl
  | a :: A, B, hp, ha, hb => by
    cases B with
    | nil => exact absurd hp.length_eq (by simp)
    | cons b B =>
      have e : a = b := by
        have h1 : a ∈ b :: B := hp.mem_iff.1 (by simp)
        have h2 : b ∈ a :: A := hp.mem_iff.2 (by simp)
        rw [List.pairwise_cons] at ha hb
        rcases List.mem_cons.1 h1 with e | h1
        · exact e
        · rcases List.mem_cons.1 h2 with e | h2
          · exact e.symm
          · have := ha.1 b h2; have := hb.1 a h1; omega
      subst e
      rw [sort_unique A B hp.cons_inv (List.pairwise_cons.1 ha).2 (List.pairwise_cons.1 hb).2]
theorem sorted_late {L : List Jb} {len : Int} {S : List Sn} (h : Tr L len S) (hl : S.length = L.length) : sortI (lateL L S) = lateUp L S L.length := by
  have hnd : (S.map Sn.j).Nodup := by have := h.nodup S.length (Nat.le_refl _); rwa [List.take_length] at this
  have hb : ∀ x ∈ S.map Sn.j, x < L.length := fun x hx => by
    obtain ⟨s, hs, e⟩ := List.mem_map.1 hx
    obtain ⟨i, hi, e2⟩ := List.getElem_of_mem hs
    have := (h i hi).1.hb
    rw [e2, e] at this
    exact this
  have hperm : (S.map Sn.j).Perm (List.range L.length) := by
    refine (List.perm_ext_iff_of_nodup hnd List.nodup_range).2 (fun x => ⟨fun hx => List.mem_range.2 (hb x hx), fun hx => ?_⟩)
    apply Classical.byContradiction
    intro hc
    have h1 := nodup_le (x :: S.map Sn.j) (List.range L.length) (List.nodup_cons.2 ⟨hc, hnd⟩) (fun y hy => by
      rcases List.mem_cons.1 hy with e | hy
      · rw [e]; exact hx
      · exact List.mem_range.2 (hb y hy))
    rw [List.length_range, List.length_cons, List.length_map] at h1
    omega
  refine sort_unique _ _ ?_ ?_ ?_
  · refine (List.mergeSort_perm _ _).trans ?_
    unfold lateL lateUp
    have e : (S.filter (fun s => decide ((L.getD s.j jb0).d < s.e))).map (fun s => (s.j : Int)) = ((S.filter (fun s => decide ((L.getD s.j jb0).d < s.e))).map Sn.j).map (fun (m : Nat) => (m : Int)) := by
      rw [List.map_map]; rfl
    rw [e, filter_map_j L S S (lateA_of hnd)]
    exact (hperm.filter _).map _
  · unfold sortI
    have := List.pairwise_mergeSort (le := fun (x y : Int) => decide (x ≤ y)) (fun a b c h1 h2 => by simp at *; omega) (fun a b => by simp; omega) (lateL L S)
    exact this.imp (fun h => by simpa using h)
  · unfold lateUp
    rw [List.pairwise_map]
    refine List.Pairwise.filter _ ?_
    exact List.pairwise_lt_range.imp (fun h => by omega)
theorem nums_of_own {W : World} {b : Nat} {v : Value} {Z : List Int} (h : W.ownsRow b 3 1 v Z.length (Z.map (Value.int .i64))) : Nums W v Z := by
  rcases h.2 with ⟨e, e2⟩ | ⟨g, cap, cur, e, h2, h3, h4, h5, h6, h7⟩
  · exact ⟨none, 0, by rw [e2]; exact e, fun k hk => by omega⟩
  · have hb : Blk W g 3 cur.toList := h3
    refine ⟨_, _, e, fun k hk => ⟨g, rfl, hb.lt, ?_⟩⟩
    have h1 : (Z.map (Value.int .i64))[k]? = some (.int .i64 Z[k]) := by rw [List.getElem?_map, List.getElem?_eq_getElem hk]; rfl
    rw [← h7, List.getElem?_take_of_lt (by omega)] at h1
    have h9 := (List.getElem?_eq_some_iff.1 h1).1
    rw [hb.cellAt (i := k) h9, ← h1, List.getElem?_eq_getElem h9]
set_option maxRecDepth 2000000 in
set_option maxHeartbeats 16000000 in
theorem rlate_any (a : Option Addr) (ln cap : Nat) (L : List Jb) (len : Int) (W : World) (hI : Jbs W.heap.size W (.slice a ln cap) L) : Calls Try.prog 12 #[.slice a ln cap, .int .i64 len] W (LateP L len W) := by
  have HR := Lib.hid (rrun_any a ln cap L len W hI)
  obtain ⟨i0, hi, hz0, hz1, hz2⟩ := info_parts info_int
  obtain rfl := hI.len
  have HCC := Lib.hid (show 0 < L.length → ∃ g off, a = some ⟨g, off, none⟩ ∧ g < W.heap.size ∧ ∀ u, Below W.heap.size W u → ∀ m (hm : m < L.length) i v, (L[m].C)[i]? = some v → u.cell? ⟨g, off + m * 4 + i, none⟩ = some v from fun h0 => by
    obtain ⟨g, off, e, hg, hc⟩ := hI.spot h0
    exact ⟨g, off, e, hg, fun u hb m hm i v hv => (hb.cell (p := ⟨g, off + m * 4 + i, none⟩) hg).trans (hc m hm i v hv)⟩)
  obtain ⟨NL, hNL⟩ : ∃ N, N = L.length := ⟨_, rfl⟩
  rw [← hNL] at HR ⊢
  have HNL := Lib.hid hNL
  clear hI hNL
  go_enter Try.func12, Try.ntmps12
  go_wp2_with fail
  refine HR.out.mono ?_
  rintro y w1 ⟨⟨hm, rfl⟩ | ⟨hm, S, v, rfl, htr, hsl, hown⟩, hb⟩
  · have hk2 : (mayJ len L != 0) = true := bne_iff_ne.2 hm
    obtain ⟨m, hmm⟩ : ∃ m, m = mayJ len L := ⟨_, rfl⟩
    have HMM := Lib.hid hmm; have HNE := Lib.hid hm; have HB1 := Lib.hid hb
    rw [← hmm] at hk2 ⊢
    clear hm hmm hb
    go_wp2_with fail
    go_ret2
    exact ⟨.inl ⟨HNE.out, by rw [← HMM.out]; rfl⟩, by first | exact HB1.out | exact HB1.out.drew⟩
  · obtain ⟨av, cv, rfl, hcell⟩ := rsent_at hown
    have HTR := Lib.hid htr; have HSL := Lib.hid hsl; have HMZ := Lib.hid hm; have HB1 := Lib.hid hb; have HCE := Lib.hid hcell
    have hNb : NL ≤ 256 := by have := (may_0 hm).2.1; have := HNL.out; omega
    have e1 : S.length = NL := by have := HNL.out; omega
    have HNS := Lib.hid e1
    rw [e1]
    have hmk := make_bools NL (by omega)
    clear htr hsl hm hb hcell hown e1
    dsimp only
    go_wp2_with fail
    obtain ⟨w3, hw3⟩ : ∃ u, u = w1.alloc (.cells (bitD NL []).toArray 4) := ⟨_, rfl⟩
    have HK3 := Lib.hid (show Below W.heap.size W w3 by rw [hw3]; exact HB1.out.alloc HB1.out.size _)
    have HJ3 := Lib.hid (show Below w1.heap.size w1 w3 by rw [hw3]; exact (Below.refl _ _).alloc (Nat.le_refl _) _)
    have HG3 := Lib.hid (show Blk w3 w1.heap.size 4 (lateB L [] NL) by rw [hw3, lateB_nil]; exact Blk.new _ _ _)
    rw [← hw3]
    clear hw3 hmk
    obtain ⟨G, hG⟩ : ∃ G, G = w1.heap.size := ⟨_, rfl⟩
    have HGE := Lib.hid hG
    rw [← hG]
    rw [← hG] at HG3
    clear hG
    go_loopw [9] (fun i wr => ∃ k : Nat, i = .int .i64 (k : Int) ∧ k ≤ NL ∧ Blk wr G 4 (lateB L (S.take k) NL) ∧ Below W.heap.size W wr ∧ Below w1.heap.size w1 wr) (fun i _ => NL - (intOf i).toNat)
    case atStart => exact ⟨0, rfl, by omega, HG3.out, by first | exact HK3.out | exact HK3.out.drew, by first | exact HJ3.out | exact HJ3.out.drew⟩
    case round =>
      obtain ⟨k, rfl, hk, hgr, hbr, hbr1⟩ := hrel
      have HBR := Lib.hid hbr; have HGR := Lib.hid hgr; have HBR1 := Lib.hid hbr1
      clear hbr hgr hbr1
      have i3 : (0 : Int) ≤ (k : Int) := by omega
      have x3 : wrap64 ((k : Int) + 1) = (k : Int) + 1 := by unfold wrap64; omega
      by_cases hlt : k < NL
      · have i1 : (k : Int) < (NL : Int) := by omega
        have hkS : k < S.length := by have := HNS.out; omega
        obtain ⟨x, hx⟩ : ∃ x, x = S[k] := ⟨_, rfl⟩
        obtain ⟨g, rfl, hg, hcx⟩ := HCE.out k hkS
        rw [← hx] at hcx
        have hnx := (HTR.out k hkS).1
        rw [← hx] at hnx
        have hxb := hnx.hb
        obtain ⟨g1, off1, rfl, hg1, hcj⟩ := HCC.out (by omega)
        obtain ⟨p, hp⟩ : ∃ p, p = L.getD x.j jb0 := ⟨_, rfl⟩
        have hpe : L[x.j] = p := by rw [hp, List.getD_eq_getElem?_getD, List.getElem?_eq_getElem hxb, Option.getD_some]
        have hdp : (L[x.j].C)[2]? = some (.int .i64 p.d) := by rw [hpe]; rfl
        have HDS := Lib.hid (show (lateB L (S.take k) NL).set x.j (.bool (decide (p.d < x.e))) = lateB L (S.take (k + 1)) NL by rw [List.take_succ_eq_append_getElem hkS, ← hx, hp]; exact lateB_set hnx.nd)
        have n2 : (x.j : Int) < (NL : Int) := by have := HNL.out; omega
        have n7 : (0 : Int) ≤ (x.j : Int) := by omega
        have HXB := Lib.hid (show x.j < NL by have := HNL.out; omega)
        have HSW := Lib.hid (show ∀ u, Below wr.heap.size wr u → (True ∧ u.cell? ⟨g, k * 3, none⟩ = some (.int .i64 (x.j : Int)) ∧ u.cell? ⟨g, k * 3 + 2, none⟩ = some (.int .i64 x.e) ∧ u.cell? ⟨g1, off1 + x.j * 4 + 2, none⟩ = some (.int .i64 p.d)) from fun u hu => ⟨trivial, ((HBR1.out.trans (hu.mono HBR1.out.size)).cell (p := ⟨g, k * 3, none⟩) hg).trans (hcx 0 _ rfl), ((HBR1.out.trans (hu.mono HBR1.out.size)).cell (p := ⟨g, k * 3 + 2, none⟩) hg).trans (hcx 2 _ rfl), hcj u (HBR.out.trans (hu.mono HBR.out.size)) x.j hxb 2 _ hdp⟩)
        have HSX := Lib.hid (show ∀ u, Below w1.heap.size w1 u → Below W.heap.size W u → (True ∧ u.cell? ⟨g, k * 3, none⟩ = some (.int .i64 (x.j : Int)) ∧ u.cell? ⟨g, k * 3 + 2, none⟩ = some (.int .i64 x.e) ∧ u.cell? ⟨g1, off1 + x.j * 4 + 2, none⟩ = some (.int .i64 p.d)) from fun u hu hv => ⟨trivial, (hu.cell (p := ⟨g, k * 3, none⟩) hg).trans (hcx 0 _ rfl), (hu.cell (p := ⟨g, k * 3 + 2, none⟩) hg).trans (hcx 2 _ rfl), hcj u hv x.j hxb 2 _ hdp⟩)
        clear hcx hcj hxb hx hp hpe hdp hg hg1 hnx hkS
        have HGD := Lib.hid (HGR.out.keep (Below.refl wr.heap.size wr).drew HGR.out.lt)
        obtain ⟨WS, hWS⟩ : ∃ u, u = (wr.setCell ⟨G, x.j, none⟩ (.bool (decide (p.d < x.e)))).drew := ⟨_, rfl⟩
        have HGS := Lib.hid (show Blk WS G 4 (lateB L (S.take (k + 1)) NL) by
          rw [hWS, ← HDS.out]
          have h1 := HGR.out.put1 (i := x.j) (by rw [lateB_len]; exact HXB.out) (.bool (decide (p.d < x.e)))
          exact h1.keep (Below.refl _ _).drew h1.lt)
        have HB1S := Lib.hid (show Below w1.heap.size w1 WS by rw [hWS]; exact (HBR1.out.setCell (p := ⟨G, x.j, none⟩) (Nat.le_of_eq HGE.out.symm) _).drew)
        have HBWS := Lib.hid (show Below W.heap.size W WS by rw [hWS]; exact (HBR.out.setCell (p := ⟨G, x.j, none⟩) (Nat.le_trans HB1.out.size (Nat.le_of_eq HGE.out.symm)) _).drew)
        have HWS := Lib.hid hWS
        clear hWS
        go_upto_region 8 with fail
        refine wp_region_held_drew (S := fun u => True ∧ u.cell? ⟨g, k * 3, none⟩ = some (.int .i64 (x.j : Int)) ∧ u.cell? ⟨g, k * 3 + 2, none⟩ = some (.int .i64 x.e) ∧ u.cell? ⟨g1, off1 + x.j * 4 + 2, none⟩ = some (.int .i64 p.d)) (by kernel_rfl) (HSW.out _ (Below.refl _ _).drew) (fun hHeld => ?_)
        refine wpAnyH_take (i := 0) (oi := _) (v := ?_) rfl (by kernel_rfl) (by kernel_rfl) (by kernel_rfl) (fun _ _ _ h => h) (Or.inl ⟨by rfl, ?_⟩) (by assumption) ?_
        rotate_left
        · intro x hSx
          try dsimp only at hSx
          obtain ⟨_, hSx0, hSx1, hSx2⟩ := hSx
          go_simp
          first | done | with_reducible rfl
        try simp only [Act.put, List.setIfInBounds_toArray, List.set_cons_zero, List.set_cons_succ]
        refine wpAnyH_take (i := 1) (oi := _) (v := ?_) rfl (by kernel_rfl) (by kernel_rfl) (by kernel_rfl) (fun _ _ _ h => h) (Or.inl ⟨by rfl, ?_⟩) (by assumption) ?_
        rotate_left
        · intro x hSx
          try dsimp only at hSx
          obtain ⟨_, hSx0, hSx1, hSx2⟩ := hSx
          go_simp
          first | done | with_reducible rfl
        try simp only [Act.put, List.setIfInBounds_toArray, List.set_cons_zero, List.set_cons_succ]
        refine wpAnyH_take (i := 2) (oi := _) (v := ?_) rfl (by kernel_rfl) (by kernel_rfl) (by kernel_rfl) (fun _ _ _ h => h) (Or.inl ⟨by rfl, ?_⟩) (by assumption) ?_
        rotate_left
        · intro x hSx
          try dsimp only at hSx
          obtain ⟨_, hSx0, hSx1, hSx2⟩ := hSx
          go_simp
          first | done | with_reducible rfl
        try simp only [Act.put, List.setIfInBounds_toArray, List.set_cons_zero, List.set_cons_succ]
        refine wpAnyH_take (i := 3) (oi := _) (v := ?_) rfl (by kernel_rfl) (by kernel_rfl) (by kernel_rfl) (fun _ _ _ h => h) (Or.inl ⟨by rfl, ?_⟩) (by assumption) ?_
        rotate_left
        · intro x hSx
          try dsimp only at hSx
          obtain ⟨_, hSx0, hSx1, hSx2⟩ := hSx
          go_simp
          first | done | with_reducible rfl
        try simp only [Act.put, List.setIfInBounds_toArray, List.set_cons_zero, List.set_cons_succ]
        refine wpAnyH_take (i := 4) (oi := _) (v := ?_) rfl (by kernel_rfl) (by kernel_rfl) (by kernel_rfl) (fun _ _ _ h => h) (Or.inl ⟨by rfl, ?_⟩) (by assumption) ?_
        rotate_left
        · intro x hSx
          try dsimp only at hSx
          obtain ⟨_, hSx0, hSx1, hSx2⟩ := hSx
          go_simp
          first | done | with_reducible rfl
        try simp only [Act.put, List.setIfInBounds_toArray, List.set_cons_zero, List.set_cons_succ]
        refine wpAnyH_take (i := 5) (oi := _) (v := ?_) rfl (by kernel_rfl) (by kernel_rfl) (by kernel_rfl) (fun _ _ _ h => h) (Or.inl ⟨by rfl, ?_⟩) (by assumption) ?_
        rotate_left
        · intro x hSx
          try dsimp only at hSx
          obtain ⟨_, hSx0, hSx1, hSx2⟩ := hSx
          go_simp
          first | done | with_reducible rfl
        try simp only [Act.put, List.setIfInBounds_toArray, List.set_cons_zero, List.set_cons_succ]
        refine wpAnyH_take (i := 6) (oi := _) (v := ?_) rfl (by kernel_rfl) (by kernel_rfl) (by kernel_rfl) (fun _ _ _ h => h) (Or.inl ⟨by rfl, ?_⟩) (by assumption) ?_
        rotate_left
        · intro x hSx
          try dsimp only at hSx
          obtain ⟨_, hSx0, hSx1, hSx2⟩ := hSx
          go_simp
          first | done | with_reducible rfl
        try simp only [Act.put, List.setIfInBounds_toArray, List.set_cons_zero, List.set_cons_succ]
        refine wpAnyH_take (i := 7) (oi := _) (v := ?_) rfl (by kernel_rfl) (by kernel_rfl) (by kernel_rfl) (fun _ _ _ h => h) (Or.inl ⟨by rfl, ?_⟩) (by assumption) ?_
        rotate_left
        · intro x hSx
          try dsimp only at hSx
          obtain ⟨_, hSx0, hSx1, hSx2⟩ := hSx
          go_simp
          first | done | with_reducible rfl
        try simp only [Act.put, List.setIfInBounds_toArray, List.set_cons_zero, List.set_cons_succ]
        refine wpAnyH_take (i := 8) (oi := _) (v := ?_) rfl (by kernel_rfl) (by kernel_rfl) (by kernel_rfl) (fun _ _ _ h => h) (Or.inl ⟨by rfl, ?_⟩) (by assumption) ?_
        rotate_left
        · intro x hSx
          try dsimp only at hSx
          obtain ⟨_, hSx0, hSx1, hSx2⟩ := hSx
          go_simp
          first | done | with_reducible rfl
        try simp only [Act.put, List.setIfInBounds_toArray, List.set_cons_zero, List.set_cons_succ]
        refine wpAnyH_take (i := 9) (oi := _) (v := ?_) rfl (by kernel_rfl) (by kernel_rfl) (by kernel_rfl) (fun _ _ _ h => h) (Or.inl ⟨by rfl, ?_⟩) (by assumption) ?_
        rotate_left
        · intro x hSx
          try dsimp only at hSx
          obtain ⟨_, hSx0, hSx1, hSx2⟩ := hSx
          go_simp
          first | done | with_reducible rfl
        try simp only [Act.put, List.setIfInBounds_toArray, List.set_cons_zero, List.set_cons_succ]
        refine wpAnyH_take (i := 10) (oi := _) (v := ?_) rfl (by kernel_rfl) (by kernel_rfl) (by kernel_rfl) (fun _ _ _ h => h) (Or.inl ⟨by rfl, ?_⟩) (by assumption) ?_
        rotate_left
        · intro x hSx
          try dsimp only at hSx
          obtain ⟨_, hSx0, hSx1, hSx2⟩ := hSx
          go_simp
          first | done | with_reducible rfl
        try simp only [Act.put, List.setIfInBounds_toArray, List.set_cons_zero, List.set_cons_succ]
        refine wpAnyH_take (i := 11) (oi := _) (v := ?_) rfl (by kernel_rfl) (by kernel_rfl) (by kernel_rfl) (fun _ _ _ h => h) (Or.inl ⟨by rfl, ?_⟩) (by assumption) ?_
        rotate_left
        · intro x hSx
          try dsimp only at hSx
          obtain ⟨_, hSx0, hSx1, hSx2⟩ := hSx
          go_simp
          first | done | with_reducible rfl
        try simp only [Act.put, List.setIfInBounds_toArray, List.set_cons_zero, List.set_cons_succ]
        refine wpAnyH_take (i := 12) (oi := _) (v := ?_) rfl (by kernel_rfl) (by kernel_rfl) (by kernel_rfl) (fun _ _ _ h => h) (Or.inl ⟨by rfl, ?_⟩) (by assumption) ?_
        rotate_left
        · intro x hSx
          try dsimp only at hSx
          obtain ⟨_, hSx0, hSx1, hSx2⟩ := hSx
          go_simp
          first | done | with_reducible rfl
        try simp only [Act.put, List.setIfInBounds_toArray, List.set_cons_zero, List.set_cons_succ]
        refine wpAnyH_take (i := 13) (oi := _) (v := ?_) rfl (by kernel_rfl) (by kernel_rfl) (by kernel_rfl) (fun _ _ _ h => h) (Or.inl ⟨by rfl, ?_⟩) (by assumption) ?_
        rotate_left
        · intro x hSx
          try dsimp only at hSx
          obtain ⟨_, hSx0, hSx1, hSx2⟩ := hSx
          go_simp
          first | done | with_reducible rfl
        try simp only [Act.put, List.setIfInBounds_toArray, List.set_cons_zero, List.set_cons_succ]
        refine wpAnyH_take (i := 14) (oi := _) (v := ?_) rfl (by kernel_rfl) (by kernel_rfl) (by kernel_rfl) (fun _ _ _ h => h) (Or.inl ⟨by rfl, ?_⟩) (by assumption) ?_
        rotate_left
        · intro x hSx
          try dsimp only at hSx
          obtain ⟨_, hSx0, hSx1, hSx2⟩ := hSx
          go_simp
          first | done | with_reducible rfl
        try simp only [Act.put, List.setIfInBounds_toArray, List.set_cons_zero, List.set_cons_succ]
        refine wpAnyH_take (i := 15) (oi := _) (v := ?_) rfl (by kernel_rfl) (by kernel_rfl) (by kernel_rfl) (fun _ _ _ h => h) (Or.inl ⟨by rfl, ?_⟩) (by assumption) ?_
        rotate_left
        · intro x hSx
          try dsimp only at hSx
          obtain ⟨_, hSx0, hSx1, hSx2⟩ := hSx
          go_simp
          first | done | with_reducible rfl
        try simp only [Act.put, List.setIfInBounds_toArray, List.set_cons_zero, List.set_cons_succ]
        refine wpAnyH_take (i := 16) (oi := _) (v := ?_) rfl (by kernel_rfl) (by kernel_rfl) (by kernel_rfl) (fun _ _ _ h => h) (Or.inl ⟨by rfl, ?_⟩) (by assumption) ?_
        rotate_left
        · intro x hSx
          try dsimp only at hSx
          obtain ⟨_, hSx0, hSx1, hSx2⟩ := hSx
          go_simp
          first | done | with_reducible rfl
        try simp only [Act.put, List.setIfInBounds_toArray, List.set_cons_zero, List.set_cons_succ]
        refine wpAnyH_take (i := 17) (oi := _) (v := ?_) rfl (by kernel_rfl) (by kernel_rfl) (by kernel_rfl) (fun _ _ _ h => h) (Or.inl ⟨by rfl, ?_⟩) (by assumption) ?_
        rotate_left
        · intro x hSx
          try dsimp only at hSx
          obtain ⟨_, hSx0, hSx1, hSx2⟩ := hSx
          go_simp
          first | done | with_reducible rfl
        try simp only [Act.put, List.setIfInBounds_toArray, List.set_cons_zero, List.set_cons_succ]
        refine wpAnyH_take (i := 18) (oi := _) (v := ?_) rfl (by kernel_rfl) (by kernel_rfl) (by kernel_rfl) (fun _ _ _ h => h) (Or.inl ⟨by rfl, ?_⟩) (by assumption) ?_
        rotate_left
        · intro x hSx
          try dsimp only at hSx
          obtain ⟨_, hSx0, hSx1, hSx2⟩ := hSx
          go_simp
          first | done | with_reducible rfl
        try simp only [Act.put, List.setIfInBounds_toArray, List.set_cons_zero, List.set_cons_succ]
        refine wpAnyH_take (i := 19) (oi := _) (v := ?_) rfl (by kernel_rfl) (by kernel_rfl) (by kernel_rfl) (fun _ _ _ h => h) (Or.inl ⟨by rfl, ?_⟩) (by assumption) ?_
        rotate_left
        · intro x hSx
          try dsimp only at hSx
          obtain ⟨_, hSx0, hSx1, hSx2⟩ := hSx
          go_simp
          first | done | with_reducible rfl
        try simp only [Act.put, List.setIfInBounds_toArray, List.set_cons_zero, List.set_cons_succ]
        refine wpAnyH_take (i := 20) (oi := _) (v := ?_) rfl (by kernel_rfl) (by kernel_rfl) (by kernel_rfl) (fun _ _ _ h => h) (Or.inl ⟨by rfl, ?_⟩) (by assumption) ?_
        rotate_left
        · intro x hSx
          try dsimp only at hSx
          obtain ⟨_, hSx0, hSx1, hSx2⟩ := hSx
          go_simp
          first | done | with_reducible rfl
        try simp only [Act.put, List.setIfInBounds_toArray, List.set_cons_zero, List.set_cons_succ]
        refine wpAnyH_take (i := 21) (oi := _) (v := ?_) rfl (by kernel_rfl) (by kernel_rfl) (by kernel_rfl) (fun _ _ _ h => h) (Or.inl ⟨by rfl, ?_⟩) (by assumption) ?_
        rotate_left
        · intro x hSx
          try dsimp only at hSx
          obtain ⟨_, hSx0, hSx1, hSx2⟩ := hSx
          go_simp
          first | done | with_reducible rfl
        try simp only [Act.put, List.setIfInBounds_toArray, List.set_cons_zero, List.set_cons_succ]
        refine wpAnyH_ready (rs := [22]) (by kernel_rfl) (by simp) ?_
        refine AllReadyH.cons (o := _) rfl (fun K hK => ?_) AllReadyH.nil
        have qf : wr.drew.frozen? ⟨G, x.j, none⟩ = false := HGD.out.frozenAt x.j
        have qc : wr.drew.cell? ⟨G, x.j, none⟩ = some (.bool (lateA L (S.take k) x.j)) := by
          have hq_ := HGD.out.cellAt (i := x.j) (by rw [lateB_len]; exact HXB.out)
          rw [lateB_get] at hq_
          exact hq_
        go_simp
        rw [← HWS.out]
        refine hK.out _ _ (HSX.out _ HB1S.out HBWS.out) (fun hHeld => ?_)
        clear hK K hHeld qf qc
        try simp only [Act.put, List.setIfInBounds_toArray, List.set_cons_zero, List.set_cons_succ]
        refine ⟨by kernel_rfl, ?_⟩
        go_wp2_with fail
        go_roundw
        case rel => exact ⟨k + 1, by simp, by omega, HGS.out, HBWS.out, HB1S.out⟩
        case measure => simp [intOf]; omega
      · have i1 : ¬ (k : Int) < (NL : Int) := by omega
        have hkN : S.take k = S := List.take_of_length_le (by have := HNS.out; omega)
        rw [hkN] at HGR
        clear hkN
        go_wp2_with fail
        obtain ⟨wo, hwo⟩ : ∃ u, u = wr := ⟨_, rfl⟩
        rw [← hwo] at HGR HBR HBR1
        rw [← hwo]
        clear hwo
        have HLO := Lib.hid (show W.heap.size ≤ wo.heap.size from HBR.out.size)
        have HNS2 := Lib.hid (sorted_late HTR.out HSL.out)
        go_loopw [10, 11] (fun s10 s11 wx => ∃ k : Nat, s11 = .int .i64 (k : Int) ∧ k ≤ NL ∧ wx.ownsRow wo.heap.size 3 1 s10 (lateUp L S k).length ((lateUp L S k).map (Value.int .i64)) ∧ Below wo.heap.size wo wx) (fun _ s11 _ => NL - (intOf s11).toNat)
        case atStart => exact ⟨0, rfl, by omega, ⟨rfl, .inl ⟨rfl, rfl⟩⟩, by first | exact Below.refl _ _ | exact (Below.refl _ _).drew⟩
        case round =>
          obtain ⟨m, rfl, hm, hown, hB⟩ := hrel
          have HOW := Lib.hid hown; have HB := Lib.hid hB
          have HBK := Lib.hid (HGR.out.keep hB HGR.out.lt)
          have j0 : (0 : Int) ≤ (m : Int) := by omega
          have j4 : wrap64 ((m : Int) + 1) = (m : Int) + 1 := by unfold wrap64; omega
          have HLL := Lib.hid (show (lateUp L S m).length ≤ 256 by have h1 := lateUp_len L S m; omega)
          have HUP := Lib.hid (lateUp_succ L S m)
          clear hown hB
          by_cases hlt2 : m < NL
          · have j1 : (m : Int) < (NL : Int) := by omega
            have hdb := HBK.out.cellAt (i := m) (by rw [lateB_len]; exact hlt2)
            rw [lateB_get] at hdb
            by_cases hla : lateA L S m = true
            · rw [hla] at hdb HUP
              rw [if_pos rfl] at HUP
              have HOA := Lib.hid (show (wr.alloc (.cells #[.int .i64 (m : Int)] 3)).ownsRow wo.heap.size 3 1 _ (lateUp L S m).length ((lateUp L S m).map (Value.int .i64)) from HOW.out.alloc _)
              have HNWJ := Lib.hid (show ∀ (j : Nat) (u : Value), ([Value.int .i64 (m : Int)])[j]? = some u → (wr.alloc (.cells #[.int .i64 (m : Int)] 3)).cell? ((⟨wr.heap.size, 0, none⟩ : Addr).add j) = some u from fun j u hj => by
                have hlt := (List.getElem?_eq_some_iff.1 hj).1
                have h1 := (Blk.new wr 3 [.int .i64 (m : Int)]).cellAt (i := j) hlt
                have h2 := (List.getElem?_eq_some_iff.1 hj).2
                rw [h2] at h1
                have e : ((⟨wr.heap.size, 0, none⟩ : Addr).add j) = ⟨wr.heap.size, j, none⟩ := by cases j <;> simp [Addr.add]
                rw [e]
                exact h1)
              have HSZ := Lib.hid (show wo.heap.size ≤ (wr.alloc (.cells #[.int .i64 (m : Int)] 3)).heap.size by have h1 := HB.out.size; simp only [World.size_alloc]; omega)
              have HBA := Lib.hid (HB.out.alloc HB.out.size (.cells #[.int .i64 (m : Int)] 3))
              clear hla
              go_wp2_with (at_builtin; refine wpList_append_own _ rfl _ _ 31 rfl wo.heap.size 3 i0 (.int .i64 0) 1 8 Try.underlying31 hi hz0 hz1 hz2 rfl (by decide) _ _ _ rfl HOA.out ⟨wr.heap.size, 0, none⟩ 1 1 [.int .i64 (m : Int)] rfl rfl HNWJ.out (by intro u hu; simp at hu; rw [hu]; rfl) (by have := HLL.out; unfold maxLen; omega) (by have := HLL.out; omega) HSZ.out ?_)
              intro v' w8 hown8 hgrow8 _
              have HO8 := Lib.hid hown8
              have hrow : ∀ r, Value.ownBlock _ = some r → wo.heap.size ≤ r := fun r e => (World.ownsRow.lt HOA.out r e).1
              have HB8 := Lib.hid (HBA.out.grown hgrow8 HSZ.out hrow)
              clear hown8 hgrow8 hrow
              go_wp2_with fail
              go_roundw
              case rel => exact ⟨m + 1, by simp, by omega, by rw [HUP.out, List.map_append, List.length_append]; exact HO8.out, HB8.out⟩
              case measure => simp [intOf]; omega
            · have hla : lateA L S m = false := by simpa using hla
              rw [hla] at hdb HUP
              rw [if_neg (by decide), List.append_nil] at HUP
              clear hla
              go_wp2_with fail
              go_roundw
              case rel => exact ⟨m + 1, by simp, by omega, by rw [HUP.out]; exact HOW.out, by first | exact HB.out | exact HB.out.drew⟩
              case measure => simp [intOf]; omega
          · have j1 : ¬ (m : Int) < (NL : Int) := by omega
            have hmN : m = L.length := by have := HNL.out; omega
            rw [hmN, ← HNS2.out] at HOW
            have HNU := Lib.hid (nums_of_own HOW.out)
            have HBF := Lib.hid (HBR.out.trans (HB.out.mono HBR.out.size))
            clear hmN
            go_wp2_with fail
            go_ret2
            exact ⟨.inr ⟨HMZ.out, S, _, rfl, HTR.out, HSL.out, by first | exact HNU.out | exact HNU.out⟩, by first | exact HBF.out | exact HBF.out.drew⟩

end Go.Proofs.Ytbcccffjlkphpaa
