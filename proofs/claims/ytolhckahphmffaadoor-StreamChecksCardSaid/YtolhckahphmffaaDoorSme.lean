/- Package stream, and the document's own answers of layer 25: where a stream is. Conditions: there are at most so many as memory holds. -/
import Derived.Test.YtolhckahphmffaaDoorSmd
namespace Go.Proofs.YtolhckahphmffaaDoor
open Go.RowKit Go.Shelf
attribute [local go_sem] Oper.semAt_some
/-- The place of the first one of that Id. -/
def findN (L : List Sm) (id : Int) : Option Nat := L.findIdx? (fun x => x.i == id)
def findI (L : List Sm) (id : Int) : Int := match findN L id with | some k => (k : Int) | none => -1
theorem findI_some {L : List Sm} {id : Int} {k : Nat} (hk : k < L.length) (h : L[k].i = id) (hn : ∀ j (hj : j < L.length), j < k → L[j].i ≠ id) : findI L id = (k : Int) := by
  have h1 : findN L id = some k := by
    unfold findN
    rw [List.findIdx?_eq_some_iff_getElem]
    refine ⟨hk, by simpa using h, fun j hj => ?_⟩
    have := hn j (by omega) hj
    simpa using this
  unfold findI
  rw [h1]
theorem findI_none {L : List Sm} {id : Int} (hn : ∀ j (hj : j < L.length), L[j].i ≠ id) : findI L id = -1 := by
  have h1 : findN L id = none := by
    unfold findN
    rw [List.findIdx?_eq_none_iff]
    intro x hx
    obtain ⟨j, hj, rfl⟩ := List.getElem_of_mem hx
    have := hn j hj
    simpa using this
  unfold findI
  rw [h1]
theorem findI_in (L : List Sm) (id : Int) : -1 ≤ findI L id ∧ findI L id < L.length := by
  unfold findI
  cases h : findN L id with
  | none => simp only; omega
  | some k =>
    have := (List.findIdx?_eq_some_iff_getElem.1 h).1
    simp only; omega
theorem came_last {n : Nat} {pre : List (Fin n)} {x : Fin n} {k : Nat} (h : Came (pre ++ [x]) k) : x.1 = pre.length ∧ Came pre pre.length := by
  have hl := h.length
  rw [List.length_append, List.length_singleton] at hl
  unfold Came at h ⊢
  rw [← hl, List.range_succ, List.map_append, List.map_singleton] at h
  have h2 := List.append_inj' h rfl
  exact ⟨by have := h2.2; simpa using this, h2.1⟩
theorem came_mem {n : Nat} {pre : List (Fin n)} {k : Nat} (h : Came pre k) {j : Nat} (hj : j < k) : ∃ x ∈ pre, x.1 = j := by
  have : j ∈ pre.map Fin.val := by unfold Came at h; rw [h]; simpa using hj
  obtain ⟨x, hx, e⟩ := List.mem_map.1 this
  exact ⟨x, hx, e⟩
theorem find_stop {L : List Sm} {id : Int} {pre : List (Fin L.length)} {x : Fin L.length} {k : Nat} (h : Came (pre ++ [x]) k) (hn : ∀ y ∈ pre, (L[y.1]'y.2).i ≠ id) (hx : (L[x.1]'x.2).i = id) : findI L id = (x.1 : Int) := by
  obtain ⟨e, hc⟩ := came_last h
  refine findI_some x.2 hx (fun j hj hjk => ?_)
  obtain ⟨y, hy, e2⟩ := came_mem hc (j := j) (by omega)
  subst e2
  exact hn y hy
theorem boxed_own {W W' : World} {row : Option Nat} {B : Nat} {t : TypeId} {v : Value} (h : Boxed W B t v) (hg : W.grownBy W' row) (hr : ∀ r, row = some r → ∃ o : Obj, W.heap[r]? = some o ∧ o.isCells = false) : Boxed W' B t v :=
  h.kept hg (fun e => by obtain ⟨o, ho, hc⟩ := hr B e.symm; rw [show W.heap[B]? = _ from h] at ho; cases ho; cases hc)
theorem blk_own {W W' : World} {row : Option Nat} {B : Nat} {t : TypeId} {l : List Value} (h : Blk W B t l) (hg : W.grownBy W' row) (hr : ∀ r, row = some r → ∃ o : Obj, W.heap[r]? = some o ∧ o.isCells = false) : Blk W' B t l :=
  (hg.block B h.lt (fun e => by obtain ⟨o, ho, hc⟩ := hr B e.symm; rw [show W.heap[B]? = _ from h] at ho; cases ho; cases hc)).trans h
theorem find_done {L : List Sm} {id : Int} {pre : List (Fin L.length)} (h : Came pre L.length) (hn : ∀ y ∈ pre, (L[y.1]'y.2).i ≠ id) : findI L id = -1 := by
  refine findI_none (fun j hj => ?_)
  obtain ⟨y, hy, e2⟩ := came_mem h (j := j) hj
  subst e2
  exact hn y hy
set_option maxRecDepth 100000 in
set_option maxHeartbeats 4000000 in
theorem sfind_in (n : Nat) (hn : 3 ≤ n) (a : Option Addr) (len cap : Nat) (L : List Sm) (id : Int) (hreach : L.length ≤ 4611686018427387904) (w : World) (hI : Sts w.heap.size w (.slice a len cap) L) :
    CallsIn Fence.wide n Tryd.prog 18 #[.slice a len cap, .int .i64 id] w fun e W' => e = .returned (.int .i64 (findI L id)) ∧ Below w.heap.size w W' := by
  have h1 : 1 ≤ n := by omega
  refine callsIn_of_wp_marks Tryd.func18 rfl trivial ?_ rfl
  simp only [Tryd.ntmps18, List.size_toArray, List.length_cons, List.length_nil, Nat.reduceAdd, Nat.reduceSub, Array.replicate_succ, Array.replicate_zero, List.push_toArray, List.append_toArray, List.nil_append, List.cons_append]
  gi_wp2_with (refine ⟨trivial, ?_⟩; gi_at_call 41; refine (placed_in (n - 1) _ _ _ _).mono ?_; rintro e w' ⟨rfl, rfl⟩)
  have b0 := Boxed.new w 3 (.int .i64 id)
  have b1 := Boxed.new (w.alloc (.cells #[.int .i64 id] 3)) 3 (.int .i64 0)
  have b2 := Boxed.new ((w.alloc (.cells #[.int .i64 id] 3)).alloc (.cells #[.int .i64 0] 3)) 22 (.slice a len cap)
  simp only [World.size_alloc] at b1 b2
  have hB0 : Below w.heap.size w (((w.alloc (.cells #[.int .i64 id] 3)).alloc (.cells #[.int .i64 0] 3)).alloc (.cells #[.slice a len cap] 22)) := (((Below.refl _ w).alloc (Nat.le_refl _) _).alloc (by simp) _).alloc (by simp only [World.size_alloc]; omega) _
  refine wpIn_rangeFunc_ownH rfl h1 (gf := 69) (lb := #[.pointer (some ⟨w.heap.size + 1 + 1, 0, none⟩)]) rfl trivial (enters_of Tryd.func69 (by kernel_rfl) rfl)
    (placed_stops (n - 1) (by omega) (w.heap.size + 1 + 1) w.heap.size _ L hreach _ (by simp) (by simp; omega) b2.cell (hI.below hB0)) belowK_t (belowK_b (by simp; omega)) (Below.refl _ _) (fun _ => rfl)
    (fun pre W => ((∀ y ∈ pre, (L[y.1]'y.2).i ≠ id) ∧ Boxed W w.heap.size 3 (.int .i64 id) ∧ Boxed W (w.heap.size + 1) 3 (.int .i64 0)) ∧ Below w.heap.size w W)
    (fun c pre W => (c = .ret ∧ ∃ p0 x, pre = p0 ++ [x] ∧ (∀ y ∈ p0, (L[y.1]'y.2).i ≠ id) ∧ (L[x.1]'x.2).i = id ∧ Boxed W (w.heap.size + 1) 3 (.int .i64 (x.1 : Nat))) ∧ Below w.heap.size w W)
    (OwnFrom.and (Own.from (fun s A B row hs hg hr => ⟨hs.1, boxed_own hs.2.1 hg hr, boxed_own hs.2.2 hg hr⟩) _) (ownFrom_below (Nat.le_refl _) (by simp; omega)))
    (fun c => OwnFrom.and (Own.from (fun s A B row hs hg hr => ⟨hs.1, by obtain ⟨p0, x, e1, e2, e3, e4⟩ := hs.2; exact ⟨p0, x, e1, e2, e3, boxed_own e4 hg hr⟩⟩) _) (ownFrom_below (Nat.le_refl _) (by simp; omega)))
    ⟨⟨(fun x hx => by cases hx), (b0.alloc _).alloc _, b1.alloc _⟩, hB0⟩
    (fun x a' W => ∃ B, w.heap.size ≤ B ∧ a' = { tmps := #[.slice a len cap, .int .i64 id, undef, .pointer (some ⟨w.heap.size, 0, none⟩), .pointer (some ⟨w.heap.size + 1, 0, none⟩), .int .i64 (x.1 : Nat), .pointer (some ⟨B, 0, none⟩), .slice a len cap, .func (.func 69) #[] #[.pointer (some ⟨w.heap.size + 1 + 1, 0, none⟩)], .int .i64 (x.1 : Nat), (L[x.1]'x.2).v, undef, undef, undef, undef, undef], defers := [] } ∧ Blk W B 30 (L[x.1]'x.2).C)
    (fun x a' => Own.from (fun s A B row hs hg hr => by obtain ⟨B, e1, e2, e3⟩ := hs; exact ⟨B, e1, e2, blk_own e3 hg hr⟩) _) ?assign ?body ?done ?stop
  case assign =>
    intro l pre x W K hI hK
    unfold Sm.v at hK ⊢
    gi_wp2
    refine hK _ _ ((KeepsOthers.alloc _ _).from _) ((Below.refl _ W).alloc hI.2.size _) ⟨⟨hI.1.1, hI.1.2.1.alloc _, hI.1.2.2.alloc _⟩, hI.2.alloc hI.2.size _⟩ ⟨W.heap.size, hI.2.size, rfl, Blk.new W 30 (L[x.1]'x.2).C⟩
  case body =>
    rintro l pre x a' W _ _ ⟨⟨hno, c0, c1⟩, hB⟩ ⟨B, hBB, rfl, hBk⟩ _
    have p0 := hBk.cellAt (i := 0) (by simp [Sm.C])
    obtain ⟨y, hy⟩ : ∃ y, y = (L[x.1]'x.2).i := ⟨_, rfl⟩
    have q0 : W.cell? ⟨B, 0, none⟩ = some (.int .i64 y) := by rw [hy]; exact p0
    clear p0
    have c00 := c0.cell
    have c11 := c1.cell
    have f11 := c1.frozen
    have HNO := Lib.hid hno; have HB := Lib.hid hB; have HC1 := Lib.hid c1; have HC0 := Lib.hid c0
    obtain ⟨xv, hxv⟩ : ∃ v, v = (L[x.1]'x.2).v := ⟨_, rfl⟩
    rw [← hxv]
    clear hno hB hBk c0 c1 hxv
    by_cases he : y = id
    · have HE := Lib.hid (show (L[x.1]'x.2).i = id from hy.symm.trans he)
      subst he
      clear hy
      gi_wp2
      exact ⟨(KeepsOthers.setCell _ _ _).from _, ⟨rfl, pre, x, rfl, HNO.out, HE.out, HC1.out.set _⟩, HB.out.setCell (p := ⟨w.heap.size + 1, 0, none⟩) (Nat.le_succ _) _⟩
    · have HE := Lib.hid (show (L[x.1]'x.2).i ≠ id from fun e => he (hy.trans e))
      have k0 : (y == id) = false := by rw [beq_eq_false_iff_ne]; exact he
      clear hy he
      gi_wp2
      exact ⟨KeepsFrom.refl _ _, Below.refl _ _, ⟨fun z hz => (List.mem_append.1 hz).elim (HNO.out z) (fun e => by have e2 : z = x := (by simpa using e); subst e2; exact HE.out), HC0.out, HC1.out⟩, HB.out⟩
  case done =>
    rintro D ys W hD hys ⟨⟨hno, c0, c1⟩, hB⟩ hK
    have hres := find_done hys hno
    have HRES := Lib.hid hres; have HB := Lib.hid hB; have HC1 := Lib.hid c1
    have c11 := c1.cell
    have f11 := c1.frozen
    clear hres hno hB c0 c1
    gi_wp2
    have hK' := (KeepsOthers.setCell W ⟨w.heap.size + 1, 0, none⟩ (.int .i64 (-1))).same D _ hK rfl
    refine ⟨by simp, .inl ⟨_, _, rfl, run_takeDeferred hK', ?_⟩⟩
    have hc5 := (boxed_own (HC1.out.set (.int .i64 (-1))) (grownBy_putObj' _ D (.deferred none)) (fun r e => by cases e; exact ⟨_, hK', rfl⟩)).cell
    refine ⟨.int .i64 (-1), ?_, by rw [HRES.out], (HB.out.setCell (p := ⟨w.heap.size + 1, 0, none⟩) (Nat.le_succ _) _).trans (belowK_b (w := w) (Nat.le_refl _) _ D _ _ (by simp at hD; omega) hK' rfl rfl)⟩
    simp [results, Tryd.f18, go_sem, hc5]
  case stop =>
    rintro D c pre W hD ⟨k, hk, hcame⟩ ⟨⟨rfl, p0, x, rfl, hno, hx, c1⟩, hB⟩ hK
    have HRES := Lib.hid (find_stop hcame hno hx); have HB := Lib.hid hB; have HC1 := Lib.hid c1
    clear hcame hno hx hB c1 hk
    gi_wp2
    refine ⟨by simp, .inl ⟨_, _, rfl, run_takeDeferred hK, ?_⟩⟩
    have hc5 := (boxed_own HC1.out (grownBy_putObj' _ D (.deferred none)) (fun r e => by cases e; exact ⟨_, hK, rfl⟩)).cell
    refine ⟨.int .i64 (x.1 : Nat), ?_, by rw [HRES.out], HB.out.trans (belowK_b (w := w) (Nat.le_refl _) _ D _ _ (by simp at hD; omega) hK rfl rfl)⟩
    simp [results, Tryd.f18, go_sem, hc5]
theorem sfind_any (a : Option Addr) (len cap : Nat) (L : List Sm) (id : Int) (hreach : L.length ≤ 4611686018427387904) (w : World) (hI : Sts w.heap.size w (.slice a len cap) L) :
    Calls Tryd.prog 18 #[.slice a len cap, .int .i64 id] w fun e W' => e = .returned (.int .i64 (findI L id)) ∧ Below w.heap.size w W' :=
  callsIn_wide.1 (sfind_in 3 (by omega) a len cap L id hreach w hI)
set_option maxRecDepth 100000 in
set_option maxHeartbeats 4000000 in
theorem rsfind_any (a : Option Addr) (len cap : Nat) (L : List Sm) (id : Int) (hreach : L.length ≤ 4611686018427387904) (w : World) (hI : Sts w.heap.size w (.slice a len cap) L) :
    Calls Tryd.prog 19 #[.slice a len cap, .int .i64 id] w fun e W' => e = .returned (.int .i64 (findI L id)) ∧ Below w.heap.size w W' := by
  obtain rfl := hI.len
  have HI := Lib.hid hI
  obtain ⟨V, hV⟩ : ∃ V, V = findI L id := ⟨_, rfl⟩
  rw [← hV]
  have HV := Lib.hid hV
  clear hV hI
  go_enter Tryd.func19, Tryd.ntmps19
  go_wp2_with fail
  go_loopw [5] (fun i wr => ∃ k : Nat, i = .int .i64 (k : Int) ∧ k ≤ L.length ∧ (∀ j (hj : j < L.length), j < k → L[j].i ≠ id) ∧ Below w.heap.size w wr) (fun i _ => L.length - (intOf i).toNat)
  case atStart => exact ⟨0, rfl, by omega, fun j hj h => by omega, by first | exact Below.refl _ _ | exact (Below.refl _ _).drew⟩
  case round =>
    obtain ⟨k, rfl, hk, hno, hB⟩ := hrel
    have HB := Lib.hid hB; have HNO := Lib.hid hno
    clear hno hB
    by_cases hlt : k < L.length
    · have i1 : (k : Int) < (L.length : Int) := by omega
      have i2 : (0 : Int) ≤ (k : Int) := by omega
      obtain ⟨g, off, rfl, hc⟩ : ∃ g off, a = some ⟨g, off, none⟩ ∧ wr.cell? ⟨g, off + k * 7, none⟩ = some (.int .i64 L[k].i) := by
        rcases HI.out with ⟨_, _, _, e⟩ | ⟨g, off, _, e, hg, hc⟩
        · rw [e] at hlt; cases hlt
        · injection e with e1 _ _
          exact ⟨g, off, e1, (HB.out.cell (p := ⟨g, off + k * 7, none⟩) hg).trans (hc k hlt 0 _ rfl)⟩
      obtain ⟨y, hy⟩ : ∃ y, y = L[k].i := ⟨_, rfl⟩
      rw [← hy] at hc
      by_cases he : y = id
      · have HF := Lib.hid (show V = (k : Int) by rw [HV.out]; exact findI_some hlt (hy.symm.trans he) HNO.out)
        subst he
        clear hy
        go_wp2_with fail
        go_ret
        exact ⟨by rw [HF.out]; rfl, by first | exact HB.out | exact HB.out.drew⟩
      · have HE := Lib.hid (show L[k].i ≠ id from fun e => he (hy.trans e))
        have k0 : (y == id) = false := by rw [beq_eq_false_iff_ne]; exact he
        clear hy he
        go_wp2_with fail
        go_roundw
        case rel => exact ⟨k + 1, by simp, by omega, fun j hj h => by
          by_cases hjk : j < k
          · exact HNO.out j hj hjk
          · obtain rfl : j = k := by omega
            exact HE.out, by first | exact HB.out | exact HB.out.drew⟩
        case measure => simp [intOf]; omega
    · have i1 : ¬ (k : Int) < (L.length : Int) := by omega
      have HF := Lib.hid (show V = -1 by rw [HV.out]; exact findI_none (fun j hj => HNO.out j hj (by omega)))
      go_wp2_with fail
      go_ret
      exact ⟨by rw [HF.out]; rfl, by first | exact HB.out | exact HB.out.drew⟩
end Go.Proofs.YtolhckahphmffaaDoor
