/- What Run of package strand returns: how many alike bits stand one behind the other at most. Conditions: as for places. -/
import Derived.Test.YtdnonahpoklbfaaStc
namespace Go.Proofs.Ytdnonahpoklbfaa
open Go.RowKit Go.Shelf
attribute [local go_sem] Oper.semAt_some
/-- The greatest run, the run now, the last bit: behind one more bit. -/
def runStep (s : Nat × Nat × Nat) (v : Nat) : Nat × Nat × Nat := (max s.1 ((if v = s.2.2 then s.2.1 else 0) + 1), (if v = s.2.2 then s.2.1 else 0) + 1, v)
def runF (l : List Nat) : Nat × Nat × Nat := l.foldl runStep (0, 0, 0)
theorem runF_snoc (l : List Nat) (v : Nat) : runF (l ++ [v]) = (max (runF l).1 ((if v = (runF l).2.2 then (runF l).2.1 else 0) + 1), (if v = (runF l).2.2 then (runF l).2.1 else 0) + 1, v) := by
  unfold runF
  rw [List.foldl_append]; rfl
theorem runF_le : ∀ (k : Nat) (l : List Nat), l.length = k → (runF l).1 ≤ k ∧ (runF l).2.1 ≤ k
  | 0, l, h => by
    obtain rfl : l = [] := List.length_eq_zero_iff.1 h
    exact ⟨Nat.le_refl _, Nat.le_refl _⟩
  | k + 1, l, h => by
    rcases List.eq_nil_or_concat l with rfl | ⟨l', v, rfl⟩
    · cases h
    · rw [List.concat_eq_append] at h ⊢
      obtain ⟨h1, h2⟩ := runF_le k l' (by simpa using h)
      rw [runF_snoc]
      constructor
      · show max _ _ ≤ _; split <;> omega
      · show _ + 1 ≤ _; split <;> omega
theorem run_close {w W0 W : World} {b0 b1 b2 : Nat} {x0 x1 x2 : Value} (hk : KeepsOthers W0 W) (hbb : Below w.heap.size W0 W) (hB : Below w.heap.size w W) (n0 : w.heap.size ≤ b0) (n1 : w.heap.size ≤ b1) (n2 : w.heap.size ≤ b2) (e01 : b0 ≠ b1) (e02 : b0 ≠ b2) (e12 : b1 ≠ b2)
    (c0 : W.cell? ⟨b0, 0, none⟩ = some x0) (c1 : W.cell? ⟨b1, 0, none⟩ = some x1) (c2 : W.cell? ⟨b2, 0, none⟩ = some x2) (f0 : W.frozen? ⟨b0, 0, none⟩ = false) (f1 : W.frozen? ⟨b1, 0, none⟩ = false) (f2 : W.frozen? ⟨b2, 0, none⟩ = false) (M C V : Value) :
    KeepsOthers W0 (((W.setCell ⟨b2, 0, none⟩ V).setCell ⟨b1, 0, none⟩ C).setCell ⟨b0, 0, none⟩ M) ∧ Below w.heap.size W0 (((W.setCell ⟨b2, 0, none⟩ V).setCell ⟨b1, 0, none⟩ C).setCell ⟨b0, 0, none⟩ M) ∧
    (((((W.setCell ⟨b2, 0, none⟩ V).setCell ⟨b1, 0, none⟩ C).setCell ⟨b0, 0, none⟩ M).cell? ⟨b0, 0, none⟩ = some M ∧ (((W.setCell ⟨b2, 0, none⟩ V).setCell ⟨b1, 0, none⟩ C).setCell ⟨b0, 0, none⟩ M).frozen? ⟨b0, 0, none⟩ = false) ∧
    ((((W.setCell ⟨b2, 0, none⟩ V).setCell ⟨b1, 0, none⟩ C).setCell ⟨b0, 0, none⟩ M).cell? ⟨b1, 0, none⟩ = some C ∧ (((W.setCell ⟨b2, 0, none⟩ V).setCell ⟨b1, 0, none⟩ C).setCell ⟨b0, 0, none⟩ M).frozen? ⟨b1, 0, none⟩ = false) ∧
    ((((W.setCell ⟨b2, 0, none⟩ V).setCell ⟨b1, 0, none⟩ C).setCell ⟨b0, 0, none⟩ M).cell? ⟨b2, 0, none⟩ = some V ∧ (((W.setCell ⟨b2, 0, none⟩ V).setCell ⟨b1, 0, none⟩ C).setCell ⟨b0, 0, none⟩ M).frozen? ⟨b2, 0, none⟩ = false)) ∧
    Below w.heap.size w (((W.setCell ⟨b2, 0, none⟩ V).setCell ⟨b1, 0, none⟩ C).setCell ⟨b0, 0, none⟩ M) := by
  have ne : ∀ {p q : Nat}, p ≠ q → (⟨p, 0, none⟩ : Addr) ≠ ⟨q, 0, none⟩ := fun h e => h (by simpa using congrArg Addr.block e)
  refine ⟨((hk.trans (KeepsOthers.setCell _ _ _)).trans (KeepsOthers.setCell _ _ _)).trans (KeepsOthers.setCell _ _ _),
    ((hbb.setCell (p := ⟨b2, 0, none⟩) n2 _).setCell (p := ⟨b1, 0, none⟩) n1 _).setCell (p := ⟨b0, 0, none⟩) n0 _, ⟨⟨?_, ?_⟩, ⟨?_, ?_⟩, ⟨?_, ?_⟩⟩,
    ((hB.setCell (p := ⟨b2, 0, none⟩) n2 _).setCell (p := ⟨b1, 0, none⟩) n1 _).setCell (p := ⟨b0, 0, none⟩) n0 _⟩
  · exact World.cell?_setCell_same _ _ _ ((World.cell?_setCell_other _ _ _ _ (ne e01.symm)).trans ((World.cell?_setCell_other _ _ _ _ (ne e02.symm)).trans c0))
  · rw [World.frozen?_setCell, World.frozen?_setCell, World.frozen?_setCell]; exact f0
  · exact (World.cell?_setCell_other _ _ _ _ (ne e01)).trans (World.cell?_setCell_same _ _ _ ((World.cell?_setCell_other _ _ _ _ (ne e12.symm)).trans c1))
  · rw [World.frozen?_setCell, World.frozen?_setCell, World.frozen?_setCell]; exact f1
  · exact (World.cell?_setCell_other _ _ _ _ (ne e02)).trans ((World.cell?_setCell_other _ _ _ _ (ne e12)).trans (World.cell?_setCell_same _ _ _ c2))
  · rw [World.frozen?_setCell, World.frozen?_setCell, World.frozen?_setCell]; exact f2
set_option maxRecDepth 100000 in
set_option maxHeartbeats 2000000 in
theorem runs_fenced (n : Nat) (hn : 3 ≤ n) (a : Option Addr) (len cap : Nat) (bs : List Nat) (hreach : bs.length ≤ 281474976710656) (w : World) (hI : Str w.heap.size w (.slice a len cap) bs) :
    CallsIn Fence.wide n Try.prog 35 #[.slice a len cap] w fun e W' => e = .returned (.int .i64 ((runF (bitsOf bs)).1 : Nat)) ∧ Below w.heap.size w W' := by
  have h1 : 1 ≤ n := by omega
  obtain rfl := hI.len
  have HI := Lib.hid hI; clear hI
  refine callsIn_of_wp_marks Try.func35 rfl trivial ?_ rfl
  simp only [Try.ntmps35, List.size_toArray, List.length_cons, List.length_nil, Nat.reduceAdd, Nat.reduceSub, Array.replicate_succ, Array.replicate_zero, List.push_toArray, List.append_toArray, List.nil_append, List.cons_append]
  gi_wp2_with (refine ⟨trivial, ?_⟩; gi_at_call 47; refine (places_in (n - 1) _ _ _ _).mono ?_; rintro e w' ⟨rfl, rfl⟩)
  have b0 := Boxed.new w 3 (.int .i64 0)
  have b1 := Boxed.new (w.alloc (.cells #[.int .i64 0] 3)) 3 (.int .i64 0)
  have b2 := Boxed.new ((w.alloc (.cells #[.int .i64 0] 3)).alloc (.cells #[.int .i64 0] 3)) 5 (.int .u8 0)
  have bN := Boxed.new (((w.alloc (.cells #[.int .i64 0] 3)).alloc (.cells #[.int .i64 0] 3)).alloc (.cells #[.int .u8 0] 5)) 36 (.slice a bs.length cap)
  simp only [World.size_alloc] at b1 b2 bN
  have hB0 : Below w.heap.size w ((((w.alloc (.cells #[.int .i64 0] 3)).alloc (.cells #[.int .i64 0] 3)).alloc (.cells #[.int .u8 0] 5)).alloc (.cells #[.slice a bs.length cap] 36)) := ((((Below.refl _ w).alloc (Nat.le_refl _) _).alloc (by simp) _).alloc (by simp only [World.size_alloc]; omega) _).alloc (by simp only [World.size_alloc]; omega) _
  refine wpIn_rangeFunc_ownG rfl h1 (gf := 50) (lb := #[.pointer (some ⟨w.heap.size + 1 + 1 + 1, 0, none⟩)]) rfl trivial (enters_of Try.func50 (by kernel_rfl) rfl)
    (places_stops (n - 1) (by omega) (w.heap.size + 1 + 1 + 1) w.heap.size _ bs (by omega) _ (by simp) (by simp; omega) bN.cell (HI.out.below hB0)) belowK_t (belowK_b (by simp; omega)) (Below.refl _ _) (fun _ => rfl)
    (fun pre W => ((W.cell? ⟨w.heap.size, 0, none⟩ = some (.int .i64 ((runF (pre.map (fun x => bitAt bs x.1))).1 : Nat)) ∧ W.frozen? ⟨w.heap.size, 0, none⟩ = false) ∧ (W.cell? ⟨w.heap.size + 1, 0, none⟩ = some (.int .i64 ((runF (pre.map (fun x => bitAt bs x.1))).2.1 : Nat)) ∧ W.frozen? ⟨w.heap.size + 1, 0, none⟩ = false) ∧ (W.cell? ⟨w.heap.size + 1 + 1, 0, none⟩ = some (.int .u8 ((runF (pre.map (fun x => bitAt bs x.1))).2.2 : Nat)) ∧ W.frozen? ⟨w.heap.size + 1 + 1, 0, none⟩ = false)) ∧ Below w.heap.size w W)
    (fun _ _ _ => False)
    (OwnFrom.and (Own.from (fun s A B row hs hg hr => ⟨⟨cell_kept hs.1.1 hg hr, (frozen_kept hs.1.1 hg hr).trans hs.1.2⟩, ⟨cell_kept hs.2.1.1 hg hr, (frozen_kept hs.2.1.1 hg hr).trans hs.2.1.2⟩, ⟨cell_kept hs.2.2.1 hg hr, (frozen_kept hs.2.2.1 hg hr).trans hs.2.2.2⟩⟩) _) (ownFrom_below (Nat.le_refl _) (by simp; omega)))
    (fun _ _ _ _ _ hs _ _ => hs)
    ⟨⟨⟨(((b0.alloc _).alloc _).alloc _).cell, (((b0.alloc _).alloc _).alloc _).frozen⟩, ⟨((b1.alloc _).alloc _).cell, ((b1.alloc _).alloc _).frozen⟩, (b2.alloc _).cell, (b2.alloc _).frozen⟩, hB0⟩
    (fun x => { tmps := #[.slice a bs.length cap, undef, .int .i64 0, .pointer (some ⟨w.heap.size, 0, none⟩), .pointer (some ⟨w.heap.size + 1, 0, none⟩), .pointer (some ⟨w.heap.size + 1 + 1, 0, none⟩), undef, .int .u8 (bitAt bs x.1 : Nat), .slice a bs.length cap, .func (.func 50) #[] #[.pointer (some ⟨w.heap.size + 1 + 1 + 1, 0, none⟩)], .int .i64 (x.1 : Nat), .int .u8 (bitAt bs x.1 : Nat), undef, undef, undef, undef, undef, undef, undef, undef, undef, undef], defers := [] }) ?assign ?body ?done ?stop
  case assign =>
    intro l x W K hK
    gi_wp2
    exact hK
  case body =>
    rintro l pre ⟨k, hk⟩ W ⟨⟨⟨hc0, hf0⟩, ⟨hc1, hf1⟩, hc2, hf2⟩, hB⟩ hlen
    dsimp only
    obtain ⟨v, hv⟩ : ∃ v, v = bitAt bs k := ⟨_, rfl⟩
    rw [← hv]
    have hst := runF_snoc (pre.map (fun x => bitAt bs x.1)) v
    have hbd := runF_le _ (pre.map (fun x => bitAt bs x.1)) (List.length_map _)
    obtain ⟨m, hm⟩ : ∃ m, m = (runF (pre.map (fun x => bitAt bs x.1))).1 := ⟨_, rfl⟩
    obtain ⟨c, hcc⟩ : ∃ c, c = (runF (pre.map (fun x => bitAt bs x.1))).2.1 := ⟨_, rfl⟩
    obtain ⟨z, hz⟩ : ∃ z, z = (runF (pre.map (fun x => bitAt bs x.1))).2.2 := ⟨_, rfl⟩
    rw [← hm] at hc0 hst hbd
    rw [← hcc] at hc1 hst hbd
    rw [← hz] at hc2 hst
    have hfin : runF ((pre ++ [(⟨k, hk⟩ : Fin bs.length)]).map (fun x => bitAt bs x.1)) = (max m ((if v = z then c else 0) + 1), (if v = z then c else 0) + 1, v) := by
      rw [List.map_append, List.map_cons, List.map_nil, ← hst, hv]
    have HF := Lib.hid hfin; have HB := Lib.hid hB
    have hc62 : c ≤ 281474976710656 := by omega
    clear hst hfin hm hcc hz hv hB hbd hlen
    by_cases hvz : v = z
    · subst hvz
      rw [if_pos rfl] at HF
      gi_wp2
      all_goals
        obtain ⟨r1, r2, ⟨⟨r3, r4⟩, ⟨r5, r6⟩, r7, r8⟩, r9⟩ := run_close (KeepsOthers.refl W) (Below.refl w.heap.size W) HB.out (Nat.le_refl _) (Nat.le_succ _) (by omega : w.heap.size ≤ w.heap.size + 1 + 1) (by omega) (by omega) (by omega) hc0 hc1 hc2 hf0 hf1 hf2 (.int .i64 (max (m : Int) ((c : Int) + 1))) (.int .i64 ((c : Int) + 1)) (.int .u8 (v : Int))
        first
          | (rw [show max (m : Int) ((c : Int) + 1) = (m : Int) by omega] at r1 r2 r3 r4 r5 r6 r7 r8 r9
             exact ⟨r1.from _, r2, ⟨⟨by rw [HF.out]; exact r3.trans (congrArg some (congrArg (Value.int .i64) (by dsimp only; omega))), r4⟩, ⟨by rw [HF.out]; exact r5, r6⟩, by rw [HF.out]; exact r7, r8⟩, r9⟩)
          | (rw [show max (m : Int) ((c : Int) + 1) = (c : Int) + 1 by omega] at r1 r2 r3 r4 r5 r6 r7 r8 r9
             exact ⟨r1.from _, r2, ⟨⟨by rw [HF.out]; exact r3.trans (congrArg some (congrArg (Value.int .i64) (by dsimp only; omega))), r4⟩, ⟨by rw [HF.out]; exact r5, r6⟩, by rw [HF.out]; exact r7, r8⟩, r9⟩)
    · rw [if_neg hvz] at HF
      have hne : ((v : Int) != (z : Int)) = true := by simp; omega
      clear hvz
      gi_wp2
      all_goals
        obtain ⟨r1, r2, ⟨⟨r3, r4⟩, ⟨r5, r6⟩, r7, r8⟩, r9⟩ := run_close (W := W.setCell ⟨w.heap.size + 1, 0, none⟩ (.int .i64 0)) (KeepsOthers.setCell W ⟨w.heap.size + 1, 0, none⟩ (.int .i64 0)) ((Below.refl w.heap.size W).setCell (p := ⟨w.heap.size + 1, 0, none⟩) (Nat.le_succ _) (.int .i64 0)) (HB.out.setCell (p := ⟨w.heap.size + 1, 0, none⟩) (Nat.le_succ _) (.int .i64 0)) (Nat.le_refl _) (Nat.le_succ _) (by omega : w.heap.size ≤ w.heap.size + 1 + 1) (by omega) (by omega) (by omega)
          ((World.cell?_setCell_other _ _ _ _ (by simp)).trans hc0) (World.cell?_setCell_same _ _ _ hc1) ((World.cell?_setCell_other _ _ _ _ (by simp)).trans hc2) (by rw [World.frozen?_setCell]; exact hf0) (by rw [World.frozen?_setCell]; exact hf1) (by rw [World.frozen?_setCell]; exact hf2) (.int .i64 (max (m : Int) 1)) (.int .i64 1) (.int .u8 (v : Int))
        first
          | (rw [show max (m : Int) 1 = (m : Int) by omega] at r1 r2 r3 r4 r5 r6 r7 r8 r9
             exact ⟨r1.from _, r2, ⟨⟨by rw [HF.out]; exact r3.trans (congrArg some (congrArg (Value.int .i64) (by dsimp only; omega))), r4⟩, ⟨by rw [HF.out]; exact r5, r6⟩, by rw [HF.out]; exact r7, r8⟩, r9⟩)
          | (rw [show max (m : Int) 1 = (1 : Int) by omega] at r1 r2 r3 r4 r5 r6 r7 r8 r9
             exact ⟨r1.from _, r2, ⟨⟨by rw [HF.out]; exact r3.trans (congrArg some (congrArg (Value.int .i64) (by dsimp only; omega))), r4⟩, ⟨by rw [HF.out]; exact r5, r6⟩, by rw [HF.out]; exact r7, r8⟩, r9⟩)
  case done =>
    rintro D ys W hD hys ⟨⟨⟨hc, hf⟩, _, _⟩, hB⟩ hK
    rw [came_bits hys, range_bits] at hc
    gi_wp2
    refine ⟨by simp, .inl ⟨_, _, rfl, run_takeDeferred hK, ?_⟩⟩
    exact ⟨_, results_tmp rfl _ _ _, rfl, hB.trans (belowK_b (w := w) (Nat.le_refl _) W D _ _ (by simp at hD; omega) hK rfl rfl)⟩
  case stop =>
    rintro D c pre W _ _ h _
    exact h.elim
theorem run_any (a : Option Addr) (len cap : Nat) (bs : List Nat) (hreach : bs.length ≤ 281474976710656) (w : World) (hI : Str w.heap.size w (.slice a len cap) bs) :
    Calls Try.prog 35 #[.slice a len cap] w fun e W' => e = .returned (.int .i64 ((runF (bitsOf bs)).1 : Nat)) ∧ Below w.heap.size w W' :=
  callsIn_wide.1 (runs_fenced 3 (by omega) a len cap bs hreach w hI)
end Go.Proofs.Ytdnonahpoklbfaa
