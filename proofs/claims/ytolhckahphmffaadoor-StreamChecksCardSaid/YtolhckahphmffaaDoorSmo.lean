/- Package stream: Ranked, of streams of DmClass alone. Conditions: there is one at least, and there are at most a million. -/
import Derived.Test.YtolhckahphmffaaDoorSmn
namespace Go.Proofs.YtolhckahphmffaaDoor
open Go.RowKit Go.Shelf
attribute [local go_sem] Oper.semAt_some
theorem cells_obj {w : World} {b o : Nat} {v : Value} (h : w.cell? ⟨b, o, none⟩ = some v) : ∃ cs t fr, w.heap[b]? = some (.cells cs t fr) := by
  unfold World.cell? at h
  simp only at h
  split at h
  · exact ⟨_, _, _, by assumption⟩
  · simp at h
theorem cell_heap {A B : World} {b o : Nat} (h : B.heap[b]? = A.heap[b]?) : B.cell? ⟨b, o, none⟩ = A.cell? ⟨b, o, none⟩ := by
  unfold World.cell?
  simp only [h]
theorem boxed_farO {W : World} {B C : Nat} {t : TypeId} {v : Value} (h : Boxed W B t v) (hne : C ≠ B) (o : Nat) (u : Value) : Boxed (W.setCell ⟨C, o, none⟩ u) B t v := Blk.puts (l := [v]) h hne o u
theorem heap_own {W W' : World} {row : Option Nat} {B : Nat} {c : Array Value} {t : TypeId} {fr : Nat × Nat} (h : W.heap[B]? = some (.cells c t fr)) (hg : W.grownBy W' row) (hr : ∀ r, row = some r → ∃ o : Obj, W.heap[r]? = some o ∧ o.isCells = false) : W'.heap[B]? = some (.cells c t fr) :=
  (hg.block B (Array.getElem?_eq_some_iff.1 h).1 (fun e => by obtain ⟨o, ho, hc⟩ := hr B e.symm; rw [h] at ho; cases ho; cases hc)).trans h
set_option maxRecDepth 100000 in
set_option maxHeartbeats 8000000 in
theorem sranked_in (n : Nat) (hn : 3 ≤ n) (b off cap : Nat) (L : List Sm) (hL0 : 0 < L.length) (hreach : L.length ≤ 1000000) (hd : ∀ x ∈ L, x.c = 2) (w : World) (hb : b < w.heap.size) (hc : ∀ j (hj : j < L.length) i u, (L[j].C)[i]? = some u → w.cell? ⟨b, off + j * 7 + i, none⟩ = some u) :
    CallsIn Fence.wide n Tryd.prog 23 #[.slice (some ⟨b, off, none⟩) L.length cap] w fun y W' => ∃ v, y = .returned v ∧ W'.ownsRow w.heap.size 30 7 v L.length ((rkAll L).flatMap Sm.C) ∧ Below w.heap.size w W' := by
  have h1 : 1 ≤ n := by omega
  have HCW := Lib.hid (show ∀ u, Below w.heap.size w u → ∀ j (hj : j < L.length) i v, (L[j].C)[i]? = some v → u.cell? ⟨b, off + j * 7 + i, none⟩ = some v from fun u hu j hj i v hv => (hu.cell (p := ⟨b, off + j * 7 + i, none⟩) hb).trans (hc j hj i v hv))
  have HI := Lib.hid (show Sts w.heap.size w (.slice (some ⟨b, off, none⟩) L.length cap) L from .inr ⟨b, off, cap, rfl, hb, hc⟩)
  have HDM := Lib.hid hd; have HR := Lib.hid hreach; have HL0 := Lib.hid hL0
  clear hc hd
  refine callsIn_of_wp_marks Tryd.func23 rfl trivial ?_ rfl
  simp only [Tryd.ntmps23, List.size_toArray, List.length_cons, List.length_nil, Nat.reduceAdd, Nat.reduceSub, Array.replicate_succ, Array.replicate_zero, List.push_toArray, List.append_toArray, List.nil_append, List.cons_append]
  gi_wp2_with (fail)
  refine ⟨trivial, ?_⟩
  refine (callsIn_wide.2 (clone_any b off L.length cap L rfl hreach w (HCW.out w (Below.refl _ _)))).mono ?_
  rintro y w1 ⟨v1, rfl, hr1, _, hb1⟩
  obtain ⟨G1, cp1, l1, rfl, hG1, hk1, h11, h12, h13, h14⟩ := own_pos hr1 hL0
  have HK1 := Lib.hid hk1; have HB1 := Lib.hid hb1; have H11 := Lib.hid h11; have H12 := Lib.hid h12; have H13 := Lib.hid h13; have H14 := Lib.hid h14; have HG1 := Lib.hid hG1
  clear hr1 hk1 hb1 h11 h12 h13 h14 hG1
  gi_wp2_with (fail)
  obtain ⟨B3, hB3⟩ : ∃ B, B = w1.heap.size := ⟨_, rfl⟩
  obtain ⟨W2, hW2⟩ : ∃ W, W = w1.alloc (.cells #[.slice (some ⟨G1, 0, none⟩) L.length cp1] 22) := ⟨_, rfl⟩
  have h3 : Boxed W2 B3 22 (.slice (some ⟨G1, 0, none⟩) L.length cp1) := by rw [hW2, hB3]; exact Boxed.new _ _ _
  have hw2 : Below w1.heap.size w1 W2 := by rw [hW2]; exact (Below.refl _ w1).alloc (Nat.le_refl _) _
  have HB2 := Lib.hid (below_transG HB1.out hw2)
  have HK2 := Lib.hid (HK1.out.keep hw2 HK1.out.lt); have H3 := Lib.hid h3
  have HBB3 := Lib.hid (show w.heap.size ≤ B3 by rw [hB3]; exact HB1.out.size)
  rw [← hW2, ← hB3]
  clear hW2 hB3 h3 hw2 HK1
  refine ⟨trivial, ?_⟩
  refine (callsIn_wide.2 (clone_any b off L.length cap L rfl hreach W2 (HCW.out W2 HB2.out))).mono ?_
  rintro y w3 ⟨v2, rfl, hr2, _, hb2⟩
  obtain ⟨G2, cp2, l2, rfl, hG2, hk2, h21, h22, h23, h24⟩ := own_pos hr2 hL0
  have HB3 := Lib.hid (below_transG HB2.out hb2)
  have HK3 := Lib.hid (HK2.out.keep hb2 HK2.out.lt); have H33 := Lib.hid (boxed_below H3.out hb2 H3.out.lt)
  have HG12 := Lib.hid (show G1 ≠ G2 by have := HK2.out.lt; omega)
  have HG2W := Lib.hid (show w.heap.size ≤ G2 from Nat.le_trans HB2.out.size hG2)
  have HQ3 := Lib.hid hk2; have H24 := Lib.hid h24
  clear hr2 hb2 hG2 hk2 h21 h22 h23 h24 HK2 H3
  gi_wp2_with (fail)
  refine ⟨trivial, ?_⟩
  refine (callsIn_wide.2 (df_none (some ⟨G2, 0, none⟩) L.length cp2 L hreach HDM.out w3 (.inr ⟨G2, 0, cp2, rfl, HQ3.out.lt, fun j hj i u hu => by rw [Nat.zero_add]; exact blk_cells HQ3.out H24.out rfl j hj i u hu⟩))).mono ?_
  rintro y w4 ⟨rfl, hb4⟩
  have HB4 := Lib.hid (below_transG HB3.out hb4)
  have HK4 := Lib.hid (HK3.out.keep hb4 HK3.out.lt); have H34 := Lib.hid (boxed_below H33.out hb4 H33.out.lt); have HQ4 := Lib.hid (HQ3.out.keep hb4 HQ3.out.lt)
  clear hb4 HK3 H33 HQ3
  gi_wp2_with (fail)
  obtain ⟨B4, hB4⟩ : ∃ B, B = w4.heap.size := ⟨_, rfl⟩
  obtain ⟨W5, hW5⟩ : ∃ W, W = w4.alloc (.cells #[.slice (some ⟨G2, 0, none⟩) L.length cp2] 22) := ⟨_, rfl⟩
  have h4 : Boxed W5 B4 22 (.slice (some ⟨G2, 0, none⟩) L.length cp2) := by rw [hW5, hB4]; exact Boxed.new _ _ _
  have hw5 : Below w4.heap.size w4 W5 := by rw [hW5]; exact (Below.refl _ w4).alloc (Nat.le_refl _) _
  have HB5 := Lib.hid (below_transG HB4.out hw5)
  have HK5 := Lib.hid (HK4.out.keep hw5 HK4.out.lt); have H35 := Lib.hid (boxed_below H34.out hw5 H34.out.lt); have HQ5 := Lib.hid (HQ4.out.keep hw5 HQ4.out.lt); have H45 := Lib.hid h4
  rw [← hW5, ← hB4]
  clear hW5 hB4 h4 hw5 HK4 H34 HQ4
  refine ⟨trivial, ?_⟩
  refine (callsIn_wide.2 (ssort_any G2 cp2 L hreach W5 HQ5.out.lt (fun j hj i u hu => blk_cells HQ5.out H24.out rfl j hj i u hu) (fun p _ => HQ5.out.frozenAt p))).mono ?_
  rintro y w6 ⟨rfl, D, hD1, hD2, hD3, hD4⟩
  have HDL := Lib.hid hD1.length_eq
  obtain ⟨c2, t2, f2, hO2⟩ := cells_obj (hD3 0 (by rw [hD1.length_eq]; exact hL0) 0 _ rfl)
  have HP := Lib.hid hD1; have HS := Lib.hid hD2; have HDC := Lib.hid hD3
  have HB6 := Lib.hid (HB5.out.grown hD4 HB5.out.size (fun k e => by cases e; exact HG2W.out))
  have hK6 : Blk w6 G1 30 l1 := (hD4.block G1 HK5.out.lt (fun e => HG12.out (by cases e; rfl))).trans HK5.out
  have h36 := H35.out.kept hD4 (fun e => by cases e; exact absurd rfl (blk_neT H35.out HQ5.out (by decide)))
  have h46 := H45.out.kept hD4 (fun e => by cases e; exact absurd rfl (blk_neT H45.out HQ5.out (by decide)))
  have HK6 := Lib.hid hK6; have H36 := Lib.hid h36; have H46 := Lib.hid h46; have HO6 := Lib.hid hO2
  clear hD1 hD2 hD3 hD4 hK6 h36 h46 hO2 HK5 H35 H45 HQ5
  gi_wp2_with (fail)
  refine ⟨trivial, ?_⟩
  refine (placed_in (n - 1) _ _ _ _).mono ?_
  rintro e w' ⟨rfl, rfl⟩
  obtain ⟨B7, hB7⟩ : ∃ B, B = w6.heap.size := ⟨_, rfl⟩
  obtain ⟨W7, hW7⟩ : ∃ W, W = w6.alloc (.cells #[.slice (some ⟨b, off, none⟩) L.length cap] 22) := ⟨_, rfl⟩
  have h7 : Boxed W7 B7 22 (.slice (some ⟨b, off, none⟩) L.length cap) := by rw [hW7, hB7]; exact Boxed.new _ _ _
  have hw7 : Below w6.heap.size w6 W7 := by rw [hW7]; exact (Below.refl _ w6).alloc (Nat.le_refl _) _
  have HB7 := Lib.hid (below_transG HB6.out hw7)
  have HK7 := Lib.hid (HK6.out.keep hw7 HK6.out.lt); have H37 := Lib.hid (boxed_below H36.out hw7 H36.out.lt); have H47 := Lib.hid (boxed_below H46.out hw7 H46.out.lt)
  have HO7 := Lib.hid ((hw7.block G2 (Array.getElem?_eq_some_iff.1 HO6.out).1).trans HO6.out)
  have HDC7 := Lib.hid (show ∀ u : World, u.heap[G2]? = some (.cells c2 t2 f2) → ∀ j (hj : j < D.length) i v, (D[j].C)[i]? = some v → u.cell? ⟨G2, j * 7 + i, none⟩ = some v from fun u hu j hj i v hv => (cell_heap (hu.trans HO6.out.symm)).trans (HDC.out j hj i v hv))
  rw [← hW7, ← hB7]
  have hle7 : w.heap.size ≤ W7.heap.size := HB7.out.size
  clear hW7 hB7 hw7 HK6 H36 H46 HO6 HDC
  gi_wp2_with (fail)
  refine wpIn_rangeFunc_ownH rfl h1 (gf := 69) (lb := #[.pointer (some ⟨B7, 0, none⟩)]) rfl trivial (enters_of Tryd.func69 (by kernel_rfl) rfl)
    (placed_stops (n - 1) (by omega) B7 w.heap.size _ L (by omega) W7 h7.lt hle7 h7.cell (HI.out.below HB7.out)) belowK_t (belowK_b hle7) (Below.refl _ _) (fun _ => rfl)
    (fun pre W => (Boxed W B3 22 (.slice (some ⟨G1, 0, none⟩) L.length cp1) ∧ Boxed W B4 22 (.slice (some ⟨G2, 0, none⟩) L.length cp2) ∧ (∃ l, Blk W G1 30 l ∧ l.length = cp1 * 7 ∧ l.take (L.length * 7) = (rkl L pre).flatMap Sm.C) ∧ W.heap[G2]? = some (.cells c2 t2 f2)) ∧ Below w.heap.size w W)
    (fun _ _ _ => False)
    (OwnFrom.and (Own.from (fun s A B row hs hg hr => ⟨boxed_own hs.1 hg hr, boxed_own hs.2.1 hg hr, by obtain ⟨l, e1, e2⟩ := hs.2.2.1; exact ⟨l, blk_own e1 hg hr, e2⟩, heap_own hs.2.2.2 hg hr⟩) _) (ownFrom_below (Nat.le_refl _) hle7))
    (fun _ _ _ _ _ hs _ _ => hs)
    ⟨⟨H37.out, H47.out, ⟨l1, HK7.out, H13.out, H14.out⟩, HO7.out⟩, HB7.out⟩
    (fun x a' W => ∃ Bs, w.heap.size ≤ Bs ∧ a' = { tmps := #[.slice (some ⟨b, off, none⟩) L.length cap, undef, .slice none 0 0, .pointer (some ⟨B3, 0, none⟩), .pointer (some ⟨B4, 0, none⟩), .int .i64 (x.1 : Nat), .pointer (some ⟨Bs, 0, none⟩), undef, undef, .slice (some ⟨b, off, none⟩) L.length cap, .slice (some ⟨G1, 0, none⟩) L.length cp1, .slice (some ⟨b, off, none⟩) L.length cap, .slice (some ⟨G2, 0, none⟩) L.length cp2, .slice (some ⟨G2, 0, none⟩) L.length cp2, .slice (some ⟨G2, 0, none⟩) L.length cp2, .tuple #[], .slice (some ⟨b, off, none⟩) L.length cap, .func (.func 69) #[] #[.pointer (some ⟨B7, 0, none⟩)], .int .i64 (x.1 : Nat), (L[x.1]'x.2).v, undef, undef, undef, undef, undef, undef, undef, undef, undef, undef, undef, undef, undef, undef, undef, undef], defers := [] } ∧ Blk W Bs 30 (L[x.1]'x.2).C)
    (fun x a' => Own.from (fun s A B row hs hg hr => by obtain ⟨B, e1, e2, e3⟩ := hs; exact ⟨B, e1, e2, blk_own e3 hg hr⟩) _) ?assign ?body ?done ?stop
  case assign =>
    intro l pre x W K hI hK
    unfold Sm.v at hK ⊢
    have HIP := Lib.hid hI; have HKP := Lib.hid hK
    clear hI hK h7
    gi_wp2
    obtain ⟨⟨e1, e2, ⟨l0, e3, e4⟩, e5⟩, e6⟩ := HIP.out
    have hba := (Below.refl W.heap.size W).alloc (Nat.le_refl _) (.cells (L[x.1]'x.2).C.toArray 30)
    refine HKP.out _ _ ((KeepsOthers.alloc _ _).from _) ((Below.refl _ W).alloc e6.size _) ⟨⟨e1.alloc _, e2.alloc _, ⟨l0, e3.keep hba e3.lt, e4⟩, (hba.block G2 (Array.getElem?_eq_some_iff.1 e5).1).trans e5⟩, e6.alloc e6.size _⟩ ⟨W.heap.size, e6.size, rfl, Blk.new W 30 (L[x.1]'x.2).C⟩
  case body =>
    rintro l pre x a' W _ _ ⟨⟨b3, b4, ⟨l0, hl0, hll, hlt⟩, hO⟩, hB⟩ ⟨Bs, hBs, rfl, hBk⟩ _
    have hdm := HDM.out _ (List.getElem_mem x.2)
    obtain ⟨y, hy⟩ : ∃ y, y = (L[x.1]'x.2) := ⟨_, rfl⟩
    rw [← hy] at hBk hdm ⊢
    have HY := Lib.hid hy
    have hxl : x.1 < L.length := x.2
    have i2 : ((x.1 : Nat) : Int) < (L.length : Int) := by omega
    have i3 : (0 : Int) ≤ ((x.1 : Nat) : Int) := by omega
    have p0 : W.cell? ⟨Bs, 0, none⟩ = some (.int .i64 y.i) := hBk.cellAt (i := 0) (by simp [Sm.C])
    have p1 : W.cell? ⟨Bs, 1, none⟩ = some (.int .i64 y.n) := hBk.cellAt (i := 1) (by simp [Sm.C])
    have p2 : W.cell? ⟨Bs, 2, none⟩ = some (.int .i64 y.c) := hBk.cellAt (i := 2) (by simp [Sm.C])
    have p3 : W.cell? ⟨Bs, 3, none⟩ = some (.int .i64 y.p) := hBk.cellAt (i := 3) (by simp [Sm.C])
    have p4 : W.cell? ⟨Bs, 4, none⟩ = some (.int .i64 y.d) := hBk.cellAt (i := 4) (by simp [Sm.C])
    have p5 : W.cell? ⟨Bs, 5, none⟩ = some (.int .i64 y.s) := hBk.cellAt (i := 5) (by simp [Sm.C])
    have p6 : W.cell? ⟨Bs, 6, none⟩ = some (.int .i64 y.b) := hBk.cellAt (i := 6) (by simp [Sm.C])
    have q3 := b3.cell; have q4 := b4.cell
    have k0 : (y.c == 2) = true := by rw [hdm]; rfl
    have HB := Lib.hid hB; have HB3_ := Lib.hid b3; have HB4_ := Lib.hid b4; have HL := Lib.hid hl0; have HLL := Lib.hid hll; have HLT := Lib.hid hlt; have HO := Lib.hid hO
    have HBS := Lib.hid (bsearch_any (some ⟨G2, 0, none⟩) L.length cp2 D y (by rw [HDL.out]; exact hreach) W (.inr ⟨G2, 0, cp2, by rw [HDL.out], (Array.getElem?_eq_some_iff.1 hO).1, fun j hj i u hu => by rw [Nat.zero_add]; exact HDC7.out W hO j hj i u hu⟩) (mono_of (fun i j hi hj h => Int.not_lt.mpr (HS.out i j hi hj h))))
    unfold Sm.v at HBS ⊢
    clear hB b3 b4 hl0 hll hlt hO hBk hy hdm hBs h7
    gi_wp2_with (fail)
    refine ⟨trivial, (fun h => by cases h), ?_⟩
    refine (CallsIn.inRound l (callsIn_wide.2 HBS.out)).mono ?_
    rintro y2 w2 ⟨k, ⟨bb, rfl⟩, hk, hlo, hhi, hb2⟩
    have hrk : k = rankN L y := rank_of HP.out hk hlo (fun j hj h => Int.not_lt.mpr (hhi j hj h))
    have HB2 := Lib.hid hb2
    have b32 := boxed_below HB3_.out hb2 HB3_.out.lt
    have b42 := boxed_below HB4_.out hb2 HB4_.out.lt
    have hL2 := HL.out.keep hb2 HL.out.lt
    have hO2 := (hb2.block G2 (Array.getElem?_eq_some_iff.1 HO.out).1).trans HO.out
    have hidx : x.1 * 7 + 5 < l0.length := by have h8 := HLL.out; have h9 := H11.out; omega
    obtain ⟨z, hz⟩ : ∃ z, z = l0[x.1 * 7 + 5] := ⟨_, rfl⟩
    have q5 : w2.cell? ⟨G1, x.1 * 7 + 5, none⟩ = some z := by rw [hz]; exact hL2.cellAt (i := x.1 * 7 + 5) hidx
    have f5 : w2.frozen? ⟨G1, x.1 * 7 + 5, none⟩ = false := hL2.frozenAt (x.1 * 7 + 5)
    have q32 := b32.cell
    have HX3 := Lib.hid b32; have HX4 := Lib.hid b42; have HL2 := Lib.hid hL2; have HO2 := Lib.hid hO2; have HIX := Lib.hid hidx
    have HFIN := Lib.hid (show ∀ r : Int, r = rkI L y → (l0.set (x.1 * 7 + 5) (.int .i64 r)).take (L.length * 7) = (rkl L (pre ++ [x])).flatMap Sm.C from fun r hr => by
      rw [List.take_set, HLT.out, flat_put _ _ (by rw [rkl_len]; exact x.2), rkl_snoc, hr, HY.out])
    clear hb2 b32 b42 hL2 hO2 hidx hz hk hlo hhi q3 q4 p0 p1 p2 p3 p4 p5 p6
    have HRR := Lib.hid (show min (k : Int) 255 = rkI L y by unfold rkI; rw [← hrk]; split <;> omega)
    clear hrk
    gi_wp2
    exact ⟨((keeps_below HB2.out).trans (KeepsOthers.setCell _ _ _)).from _, (HB2.out.mono HB.out.size).trans ((Below.refl w.heap.size w2).setCell (p := ⟨G1, x.1 * 7 + 5, none⟩) HG1.out _), ⟨boxed_farO HX3.out (blk_neT HL2.out HX3.out (by decide)) _ _, boxed_farO HX4.out (blk_neT HL2.out HX4.out (by decide)) _ _, ⟨_, HL2.out.put1 HIX.out _, by rw [List.length_set]; exact HLL.out, HFIN.out _ HRR.out⟩, (Below.heap_setCell _ _ _ G2 (fun e => HG12.out (by first | exact e | exact e.symm))).trans HO2.out⟩, (below_transG HB.out HB2.out).setCell (p := ⟨G1, x.1 * 7 + 5, none⟩) HG1.out _⟩
  case done =>
    rintro D2 ys W hD hys ⟨⟨b3, b4, ⟨l0, hl0, hll, hlt⟩, hO⟩, hB⟩ hK
    rw [rkl_all hys] at hlt
    have q3 := b3.cell
    have HB := Lib.hid hB; have HL := Lib.hid hl0; have HLL := Lib.hid hll; have HLT := Lib.hid hlt
    clear hB b3 b4 hl0 hll hlt hO h7
    gi_wp2
    refine ⟨by simp, .inl ⟨_, _, rfl, run_takeDeferred hK, ?_⟩⟩
    have hro : W.ownsRow w.heap.size 30 7 (.slice (some ⟨G1, 0, none⟩) L.length cp1) L.length ((rkAll L).flatMap Sm.C) := ⟨by rw [flat_len 7 Sm.C Sm.C_len]; unfold rkAll; rw [List.length_map], .inr ⟨G1, cp1, l0.toArray, rfl, HG1.out, HL.out, H11.out, H12.out, by simpa using HLL.out, by simpa using HLT.out⟩⟩
    refine ⟨_, results_tmp rfl _ _ _, _, rfl, ownsRow_putObj hro _ hK rfl, HB.out.trans (belowK_b (w := w) (Nat.le_refl _) W D2 _ _ (by omega) hK rfl rfl)⟩
  case stop =>
    rintro D2 c pre W _ _ h _
    exact h.elim
theorem sranked_any (b off cap : Nat) (L : List Sm) (hL0 : 0 < L.length) (hreach : L.length ≤ 1000000) (hd : ∀ x ∈ L, x.c = 2) (w : World) (hb : b < w.heap.size) (hc : ∀ j (hj : j < L.length) i u, (L[j].C)[i]? = some u → w.cell? ⟨b, off + j * 7 + i, none⟩ = some u) :
    Calls Tryd.prog 23 #[.slice (some ⟨b, off, none⟩) L.length cap] w fun y W' => ∃ v, y = .returned v ∧ W'.ownsRow w.heap.size 30 7 v L.length ((rkAll L).flatMap Sm.C) ∧ Below w.heap.size w W' :=
  callsIn_wide.1 (sranked_in 3 (by omega) b off cap L hL0 hreach hd w hb hc)
end Go.Proofs.YtolhckahphmffaaDoor
