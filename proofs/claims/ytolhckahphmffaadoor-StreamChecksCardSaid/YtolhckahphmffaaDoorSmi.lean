/- Package stream: the streams of a node. Conditions: there are at most a million of them. -/
import Derived.Test.YtolhckahphmffaaDoorSmh
namespace Go.Proofs.YtolhckahphmffaaDoor
open Go.RowKit Go.Shelf
attribute [local go_sem] Oper.semAt_some
theorem info_stream : (Tryd.prog.info? 30).map (fun i => (i.zero, i.size, i.bytes)) = some (some (.agg #[.int .i64 0, .int .i64 0, .int .i64 0, .int .i64 0, .int .i64 0, .int .i64 0, .int .i64 0]), 7, 56) := by kernel_rfl
def Hold_ (p : Prop) : Prop := p
theorem hold_ {p : Prop} (h : Hold_ p) : p := h
/-- Those of a node. -/
def ofL (L : List Sm) (nd : Int) : List Sm := L.filter (fun x => x.n == nd)
theorem came_all {L : List Sm} {ys : List (Fin L.length)} (h : Came ys L.length) : ys.map (fun x => L[x.1]'x.2) = L := by
  have hl := h.length
  apply List.ext_getElem
  · simp [hl]
  · intro j h1 h2
    rw [List.getElem_map]
    have hj : j < ys.length := by simpa using h1
    have e : (ys[j]).1 = j := by
      have h3 : (ys.map Fin.val)[j]'(by simpa using hj) = (List.range L.length)[j]'(by simpa using h2) := by
        unfold Came at h
        simp only [h]
      simpa using h3
    simp only [e]
def ofP (L : List Sm) (nd : Int) (pre : List (Fin L.length)) : List Sm := ofL (pre.map (fun x => L[x.1]'x.2)) nd
theorem ofP_yes {L : List Sm} {nd : Int} {pre : List (Fin L.length)} {x : Fin L.length} (h : (L[x.1]'x.2).n = nd) : ofP L nd (pre ++ [x]) = ofP L nd pre ++ [L[x.1]'x.2] := by
  unfold ofP ofL
  rw [List.map_append, List.filter_append, List.map_singleton]
  congr 1
  simp [List.filter, h]
theorem ofP_no {L : List Sm} {nd : Int} {pre : List (Fin L.length)} {x : Fin L.length} (h : (L[x.1]'x.2).n ≠ nd) : ofP L nd (pre ++ [x]) = ofP L nd pre := by
  unfold ofP ofL
  rw [List.map_append, List.filter_append, List.map_singleton, show List.filter (fun x : Sm => x.n == nd) [L[x.1]'x.2] = [] by rw [List.filter_cons_of_neg (by simpa using h)]; rfl, List.append_nil]
theorem ofP_len (L : List Sm) (nd : Int) (pre : List (Fin L.length)) : (ofP L nd pre).length ≤ pre.length := by
  unfold ofP ofL
  exact Nat.le_trans (List.length_filter_le _ _) (by simp)
theorem ofP_all {L : List Sm} {nd : Int} {ys : List (Fin L.length)} (h : Came ys L.length) : ofP L nd ys = ofL L nd := by
  unfold ofP; rw [came_all h]
set_option maxRecDepth 100000 in
set_option maxHeartbeats 4000000 in
theorem sof_in (n : Nat) (hn : 3 ≤ n) (a : Option Addr) (len cap : Nat) (L : List Sm) (nd : Int) (hreach : L.length ≤ 1000000) (w : World) (hI : Sts w.heap.size w (.slice a len cap) L) :
    CallsIn Fence.wide n Tryd.prog 21 #[.slice a len cap, .int .i64 nd] w fun e W' => ∃ v, e = .returned v ∧ W'.ownsRow w.heap.size 30 7 v (ofL L nd).length ((ofL L nd).flatMap Sm.C) ∧ Below w.heap.size w W' := by
  have h1 : 1 ≤ n := by omega
  obtain ⟨i0, hi, hz0, hz1, hz2⟩ := info_parts info_stream
  have HI := Lib.hid hI
  clear hI
  refine callsIn_of_wp_marks Tryd.func21 rfl trivial ?_ rfl
  simp only [Tryd.ntmps21, List.size_toArray, List.length_cons, List.length_nil, Nat.reduceAdd, Nat.reduceSub, Array.replicate_succ, Array.replicate_zero, List.push_toArray, List.append_toArray, List.nil_append, List.cons_append]
  gi_wp2_with (refine ⟨trivial, ?_⟩; gi_at_call 41; refine (placed_in (n - 1) _ _ _ _).mono ?_; rintro e w' ⟨rfl, rfl⟩)
  have b0 := Boxed.new w 3 (.int .i64 nd)
  have b1 := Boxed.new (w.alloc (.cells #[.int .i64 nd] 3)) 22 (.slice none 0 0)
  have b2 := Boxed.new ((w.alloc (.cells #[.int .i64 nd] 3)).alloc (.cells #[.slice none 0 0] 22)) 22 (.slice a len cap)
  simp only [World.size_alloc] at b1 b2
  have hB0 : Below w.heap.size w (((w.alloc (.cells #[.int .i64 nd] 3)).alloc (.cells #[.slice none 0 0] 22)).alloc (.cells #[.slice a len cap] 22)) := (((Below.refl _ w).alloc (Nat.le_refl _) _).alloc (by simp) _).alloc (by simp only [World.size_alloc]; omega) _
  refine wpIn_rangeFunc_ownH rfl h1 (gf := 69) (lb := #[.pointer (some ⟨w.heap.size + 1 + 1, 0, none⟩)]) rfl trivial (enters_of Tryd.func69 (by kernel_rfl) rfl)
    (placed_stops (n - 1) (by omega) (w.heap.size + 1 + 1) w.heap.size _ L (by omega) _ (by simp) (by simp; omega) b2.cell (HI.out.below hB0)) belowK_t (belowK_b (by simp; omega)) (Below.refl _ _) (fun _ => rfl)
    (fun pre W => ((∃ v, Boxed W (w.heap.size + 1) 22 v ∧ W.ownsRow w.heap.size 30 7 v (ofP L nd pre).length ((ofP L nd pre).flatMap Sm.C) ∧ True) ∧ Boxed W w.heap.size 3 (.int .i64 nd)) ∧ Below w.heap.size w W)
    (fun _ _ _ => False)
    (OwnFrom.and (OwnFrom.and (Own.from (holdsRow_own w.heap.size (w.heap.size + 1) 22 30 7 (fun pre => (ofP L nd pre).length) (fun pre => (ofP L nd pre).flatMap Sm.C) (fun _ _ => True)) _) (Own.from (fun s A B row hs hg hr => boxed_own hs hg hr) _)) (ownFrom_below (Nat.le_refl _) (by simp; omega)))
    (fun _ _ _ _ _ hs _ _ => hs)
    ⟨⟨⟨_, b1.alloc _, ⟨rfl, .inl ⟨rfl, rfl⟩⟩, trivial⟩, (b0.alloc _).alloc _⟩, hB0⟩
    (fun x a' W => ∃ B, w.heap.size ≤ B ∧ a' = { tmps := #[.slice a len cap, .int .i64 nd, undef, .pointer (some ⟨w.heap.size, 0, none⟩), .slice none 0 0, .pointer (some ⟨w.heap.size + 1, 0, none⟩), undef, .pointer (some ⟨B, 0, none⟩), .slice a len cap, .func (.func 69) #[] #[.pointer (some ⟨w.heap.size + 1 + 1, 0, none⟩)], .int .i64 (x.1 : Nat), (L[x.1]'x.2).v, undef, undef, undef, undef, undef, undef, undef, undef, undef], defers := [] } ∧ Blk W B 30 (L[x.1]'x.2).C)
    (fun x a' => Own.from (fun s A B row hs hg hr => by obtain ⟨B, e1, e2, e3⟩ := hs; exact ⟨B, e1, e2, blk_own e3 hg hr⟩) _) ?assign ?body ?done ?stop
  case assign =>
    intro l pre x W K hI hK
    unfold Sm.v at hK ⊢
    have HIP := Lib.hid hI; have HKP := Lib.hid hK
    clear hI hK
    gi_wp2
    obtain ⟨⟨⟨v, e1, e2, _⟩, e3⟩, e4⟩ := HIP.out
    refine HKP.out _ _ ((KeepsOthers.alloc _ _).from _) ((Below.refl _ W).alloc e4.size _) ⟨⟨⟨v, e1.alloc _, e2.alloc _, trivial⟩, e3.alloc _⟩, e4.alloc e4.size _⟩ ⟨W.heap.size, e4.size, rfl, Blk.new W 30 (L[x.1]'x.2).C⟩
  case body =>
    rintro l pre x a' W _ _ ⟨⟨⟨v, b1, hrow, _⟩, b0⟩, hB⟩ ⟨B, hBB, rfl, hBk⟩ hlen
    obtain ⟨y, hy⟩ : ∃ y, y = (L[x.1]'x.2) := ⟨_, rfl⟩
    rw [← hy] at hBk ⊢
    have p0 : W.cell? ⟨B, 0, none⟩ = some (.int .i64 y.i) := hBk.cellAt (i := 0) (by simp [Sm.C])
    have p1 : W.cell? ⟨B, 1, none⟩ = some (.int .i64 y.n) := hBk.cellAt (i := 1) (by simp [Sm.C])
    have p2 : W.cell? ⟨B, 2, none⟩ = some (.int .i64 y.c) := hBk.cellAt (i := 2) (by simp [Sm.C])
    have p3 : W.cell? ⟨B, 3, none⟩ = some (.int .i64 y.p) := hBk.cellAt (i := 3) (by simp [Sm.C])
    have p4 : W.cell? ⟨B, 4, none⟩ = some (.int .i64 y.d) := hBk.cellAt (i := 4) (by simp [Sm.C])
    have p5 : W.cell? ⟨B, 5, none⟩ = some (.int .i64 y.s) := hBk.cellAt (i := 5) (by simp [Sm.C])
    have p6 : W.cell? ⟨B, 6, none⟩ = some (.int .i64 y.b) := hBk.cellAt (i := 6) (by simp [Sm.C])
    have c0 := b0.cell
    have c1 := b1.cell
    have f1 := b1.frozen
    have HB := Lib.hid hB; have HC1 := Lib.hid b1; have HC0 := Lib.hid b0; have HROW := Lib.hid hrow; have HY := Lib.hid hy; have HLN := Lib.hid (Nat.lt_of_le_of_lt (ofP_len L nd pre) hlen)
    unfold Sm.v
    clear hB b0 b1 hrow hBk hlen hy
    by_cases he : y.n = nd
    · have HE := Lib.hid (show (L[x.1]'x.2).n = nd by rw [← HY.out]; exact he)
      have k0 : (y.n == nd) = true := by rw [he]; simp
      clear he
      have HN := Lib.hid (show ∀ (j : Nat) (u : Value), (y.C)[j]? = some u → (W.alloc (.cells #[.int .i64 y.i, .int .i64 y.n, .int .i64 y.c, .int .i64 y.p, .int .i64 y.d, .int .i64 y.s, .int .i64 y.b] 30)).cell? ((⟨W.heap.size, 0, none⟩ : Addr).add j) = some u from fun j u hj => by
        have hlt := (List.getElem?_eq_some_iff.1 hj).1
        have h1 := (Blk.new W 30 y.C).cellAt (i := j) hlt
        have h2 := (List.getElem?_eq_some_iff.1 hj).2
        rw [h2] at h1
        have e : ((⟨W.heap.size, 0, none⟩ : Addr).add j) = ⟨W.heap.size, j, none⟩ := by cases j <;> simp [Addr.add]
        rw [e]
        exact h1)
      have HO := Lib.hid (show ∀ u ∈ y.C, u.oneCell' = true by simp [Value.oneCell', Sm.C])
      have HM1 := Lib.hid (show (ofP L nd pre).length + 1 ≤ maxLen by have := HLN.out; unfold maxLen; omega)
      have HM2 := Lib.hid (show ((ofP L nd pre).length + 1) * 56 ≤ 140737488355328 by have := HLN.out; omega)
      have HM3 := Lib.hid (show w.heap.size ≤ (W.alloc (.cells #[.int .i64 y.i, .int .i64 y.n, .int .i64 y.c, .int .i64 y.p, .int .i64 y.d, .int .i64 y.s, .int .i64 y.b] 30)).heap.size by have := HB.out.size; simp only [World.size_alloc]; omega)
      gi_wp2_with (gi_at_builtin; refine hold_ ?_)
      unfold Hold_
      refine wpListIn_append_own _ rfl _ _ 22 rfl w.heap.size 30 i0 (.agg #[.int .i64 0, .int .i64 0, .int .i64 0, .int .i64 0, .int .i64 0, .int .i64 0, .int .i64 0]) 7 56 Tryd.underlying22 hi hz0 hz1 hz2 rfl (by decide) v _ _ rfl (HROW.out.alloc _) ⟨W.heap.size, 0, none⟩ 1 1 y.C rfl rfl HN.out HO.out HM1.out HM2.out HM3.out ?_
      intro v' w3 hown' hg3 hnil3
      obtain ⟨g, cp, rfl⟩ := ownsRow_succ hown'
      obtain ⟨hv1, hset, hrow4, hkeep, hbel⟩ := Boxed.appended HC1.out (by decide) HROW.out HB.out.size (Nat.le_succ _) hown' hg3
      have h00 := boxed_far ((HC0.out.alloc _).kept hg3 (HC0.out.not_row (by decide) HROW.out)) (show w.heap.size + 1 ≠ w.heap.size by omega) (.slice (some ⟨g, 0, none⟩) ((ofP L nd pre).length + 1) cp)
      have c3 := hv1.cell
      have f3 := hv1.frozen
      have HS := Lib.hid hset; have HR4 := Lib.hid hrow4; have HK4 := Lib.hid hkeep; have HB4 := Lib.hid hbel; have H00 := Lib.hid h00
      clear hv1 hset hrow4 hkeep hbel h00 hown' hg3 hnil3 c1 f1
      gi_wp2
      exact ⟨HK4.out.from _, HB4.out, ⟨⟨_, HS.out, by rw [ofP_yes HE.out, List.length_append, List.flatMap_append, List.flatMap_singleton, ← HY.out]; exact HR4.out, trivial⟩, H00.out⟩, HB.out.trans HB4.out⟩
    · have HE := Lib.hid (show (L[x.1]'x.2).n ≠ nd by rw [← HY.out]; exact he)
      have k0 : (y.n == nd) = false := by rw [beq_eq_false_iff_ne]; exact he
      clear he
      gi_wp2
      exact ⟨KeepsFrom.refl _ _, Below.refl _ _, ⟨⟨v, HC1.out, by rw [ofP_no HE.out]; exact HROW.out, trivial⟩, HC0.out⟩, HB.out⟩
  case done =>
    rintro D ys W hD hys ⟨⟨⟨v, b1, hrow, _⟩, b0⟩, hB⟩ hK
    rw [ofP_all hys] at hrow
    have c1 := b1.cell
    have HB := Lib.hid hB; have HROW := Lib.hid hrow
    clear hB b1 b0 hrow
    gi_wp2
    refine ⟨by simp, .inl ⟨_, _, rfl, run_takeDeferred hK, ?_⟩⟩
    refine ⟨_, results_tmp rfl _ _ _, _, rfl, ownsRow_putObj HROW.out _ hK rfl, HB.out.trans (belowK_b (w := w) (Nat.le_refl _) W D _ _ (by simp at hD; omega) hK rfl rfl)⟩
  case stop =>
    rintro D c pre W _ _ h _
    exact h.elim
theorem sof_any (a : Option Addr) (len cap : Nat) (L : List Sm) (nd : Int) (hreach : L.length ≤ 1000000) (w : World) (hI : Sts w.heap.size w (.slice a len cap) L) :
    Calls Tryd.prog 21 #[.slice a len cap, .int .i64 nd] w fun e W' => ∃ v, e = .returned v ∧ W'.ownsRow w.heap.size 30 7 v (ofL L nd).length ((ofL L nd).flatMap Sm.C) ∧ Below w.heap.size w W' :=
  callsIn_wide.1 (sof_in 3 (by omega) a len cap L nd hreach w hI)
end Go.Proofs.YtolhckahphmffaaDoor
