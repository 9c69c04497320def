/- The document's own answers of layer 25: streams with their ranks. Conditions: there are at most a million of them. -/
import Derived.Test.YtolhckahphmffaaDoorSmu
import Derived.Test.YtolhckahphmffaaDoorSmn
namespace Go.Proofs.YtolhckahphmffaaDoor
open Go.RowKit Go.Shelf
attribute [local go_sem] Oper.semAt_some
/-- Is y sent ahead of s? -/
def aheadB (s y : Sm) : Bool := decide (y.c = 2) && (decide (y.d < s.d) || (decide (y.d = s.d) && decide (y.i < s.i)))
def cntT (L : List Sm) (s : Sm) (k : Nat) : Nat := ((L.take k).filter (aheadB s)).length
theorem cntT_yes {L : List Sm} {s : Sm} {k : Nat} (h : k < L.length) (he : aheadB s (L[k]) = true) : cntT L s (k + 1) = cntT L s k + 1 := by
  unfold cntT
  rw [← List.take_append_getElem h, List.filter_append, List.length_append]
  simp [List.filter, he]
theorem cntT_no {L : List Sm} {s : Sm} {k : Nat} (h : k < L.length) (he : aheadB s (L[k]) = false) : cntT L s (k + 1) = cntT L s k := by
  unfold cntT
  rw [← List.take_append_getElem h, List.filter_append, List.length_append]
  simp [List.filter, he]
theorem cntT_le (L : List Sm) (s : Sm) (k : Nat) : cntT L s k ≤ k := by
  unfold cntT
  exact Nat.le_trans (List.length_filter_le _ _) (by rw [List.length_take]; omega)
/-- A stream with its rank, as the document counts it. -/
def rkD (L : List Sm) (s : Sm) : Sm := if s.c = 2 then putS s (min (cntT L s L.length : Int) 255) else s
def rkT (L : List Sm) (k : Nat) : List Sm := (L.take k).map (rkD L)
theorem rkT_succ {L : List Sm} {k : Nat} (h : k < L.length) : rkT L (k + 1) = rkT L k ++ [rkD L (L[k])] := by
  unfold rkT
  rw [← List.take_append_getElem h, List.map_append, List.map_singleton]
theorem rkT_len {L : List Sm} {k : Nat} (h : k ≤ L.length) : (rkT L k).length = k := by
  unfold rkT
  rw [List.length_map, List.length_take]; omega
set_option maxRecDepth 100000 in
set_option maxHeartbeats 8000000 in
theorem rsranked_any (a : Option Addr) (len cap : Nat) (L : List Sm) (hreach : L.length ≤ 1000000) (w : World) (hI : Sts w.heap.size w (.slice a len cap) L) :
    Calls Tryd.prog 24 #[.slice a len cap] w fun e W' => ∃ v, e = .returned v ∧ W'.ownsRow w.heap.size 30 7 v L.length ((L.map (rkD L)).flatMap Sm.C) ∧ Below w.heap.size w W' := by
  obtain rfl := hI.len
  have HI := Lib.hid hI
  clear hI
  obtain ⟨i0, hi, hz0, hz1, hz2⟩ := info_parts info_stream
  go_enter Tryd.func24, Tryd.ntmps24
  go_wp2_with fail
  go_loopw [3, 4] (fun v i wr => ∃ k : Nat, i = .int .i64 (k : Int) ∧ k ≤ L.length ∧ wr.ownsRow w.heap.size 30 7 v k ((rkT L k).flatMap Sm.C) ∧ Below w.heap.size w wr) (fun _ i _ => L.length - (intOf i).toNat)
  case atStart => exact ⟨0, rfl, by omega, ⟨rfl, .inl ⟨rfl, rfl⟩⟩, by first | exact Below.refl _ _ | exact (Below.refl _ _).drew⟩
  case round =>
    obtain ⟨k, rfl, hk, hrow, hB⟩ := hrel
    have HB := Lib.hid hB; have HROW := Lib.hid hrow
    clear hB hrow
    have i3 : (0 : Int) ≤ (k : Int) := by omega
    by_cases hlt : k < L.length
    · have i1 : (k : Int) < (L.length : Int) := by omega
      obtain ⟨g, off, rfl, hc⟩ : ∃ g off, a = some ⟨g, off, none⟩ ∧ ∀ u, Below w.heap.size w u → ∀ J (hJ : J < L.length) i v, (L[J].C)[i]? = some v → u.cell? ⟨g, off + J * 7 + i, none⟩ = some v := by
        rcases HI.out with ⟨_, _, _, e⟩ | ⟨g, off, _, e, hg, hc⟩
        · rw [e] at hlt; cases hlt
        · injection e with e1 _ _
          exact ⟨g, off, e1, fun u hu J hJ i v hv => (hu.cell (p := ⟨g, off + J * 7 + i, none⟩) hg).trans (hc J hJ i v hv)⟩
      have HC := Lib.hid hc
      obtain ⟨z, hz⟩ : ∃ y, y = L[k] := ⟨_, rfl⟩
      have HKL := Lib.hid hlt
      have HF := Lib.hid (show rkT L (k + 1) = rkT L k ++ [rkD L z] by rw [rkT_succ hlt, hz])
      have hc2 : ∀ i v, (z.C)[i]? = some v → wr.cell? ⟨g, off + k * 7 + i, none⟩ = some v := fun i v hv => hc wr HB.out k hlt i v (by rw [← hz]; exact hv)
      have p0 : wr.cell? ⟨g, off + k * 7, none⟩ = some (.int .i64 z.i) := hc2 0 _ rfl
      have p1 : wr.cell? ⟨g, off + k * 7 + 1, none⟩ = some (.int .i64 z.n) := hc2 1 _ rfl
      have p2 : wr.cell? ⟨g, off + k * 7 + 2, none⟩ = some (.int .i64 z.c) := hc2 2 _ rfl
      have p3 : wr.cell? ⟨g, off + k * 7 + 3, none⟩ = some (.int .i64 z.p) := hc2 3 _ rfl
      have p4 : wr.cell? ⟨g, off + k * 7 + 4, none⟩ = some (.int .i64 z.d) := hc2 4 _ rfl
      have p5 : wr.cell? ⟨g, off + k * 7 + 5, none⟩ = some (.int .i64 z.s) := hc2 5 _ rfl
      have p6 : wr.cell? ⟨g, off + k * 7 + 6, none⟩ = some (.int .i64 z.b) := hc2 6 _ rfl
      clear hc hc2 hz hlt
      go_upto_region 6 with fail
      clear p0 p1 p2 p3 p4 p5 p6
      obtain ⟨W1, hW1⟩ : ∃ W1, W1 = wr.alloc (.cells #[.int .i64 z.i, .int .i64 z.n, .int .i64 z.c, .int .i64 z.p, .int .i64 z.d, .int .i64 z.s, .int .i64 z.b] 30) := ⟨_, rfl⟩
      rw [← hW1]
      have hbw : Below wr.heap.size wr W1 := by rw [hW1]; exact (Below.refl _ _).alloc (Nat.le_refl _) _
      have hbk : Blk W1 wr.heap.size 30 [.int .i64 z.i, .int .i64 z.n, .int .i64 z.c, .int .i64 z.p, .int .i64 z.d, .int .i64 z.s, .int .i64 z.b] := by rw [hW1]; exact Blk.new wr 30 [.int .i64 z.i, .int .i64 z.n, .int .i64 z.c, .int .i64 z.p, .int .i64 z.d, .int .i64 z.s, .int .i64 z.b]
      have HR1 := Lib.hid (own_keep hbw (Nat.le_refl _) HROW.out)
      have hne := fun q (h : Value.ownBlock _ = some q) => Nat.ne_of_lt (World.ownsRow.lt HROW.out q h).2
      have hge := HB.out.size
      have HB1 := Lib.hid (HB.out.trans (hbw.mono HB.out.size))
      obtain ⟨B, hBq⟩ : ∃ B, B = wr.heap.size := ⟨_, rfl⟩
      rw [← hBq] at hbk hne hge
      have HNE := Lib.hid hne; have HGE := Lib.hid hge; have HS := Lib.hid hbk
      rw [← hBq]
      clear hW1 hbw hbk hne hge hBq HROW
      have HM1 := Lib.hid (show k + 1 ≤ maxLen by unfold maxLen; omega)
      have HM2 := Lib.hid (show (k + 1) * 56 ≤ 140737488355328 by omega)
      have s0 : W1.cell? ⟨B, 0, none⟩ = some (.int .i64 z.i) := HS.out.cellAt (i := 0) (by simp)
      have s1 : W1.cell? ⟨B, 1, none⟩ = some (.int .i64 z.n) := HS.out.cellAt (i := 1) (by simp)
      have s2 : W1.cell? ⟨B, 2, none⟩ = some (.int .i64 z.c) := HS.out.cellAt (i := 2) (by simp)
      have s3 : W1.cell? ⟨B, 3, none⟩ = some (.int .i64 z.p) := HS.out.cellAt (i := 3) (by simp)
      have s4 : W1.cell? ⟨B, 4, none⟩ = some (.int .i64 z.d) := HS.out.cellAt (i := 4) (by simp)
      have s5 : W1.cell? ⟨B, 5, none⟩ = some (.int .i64 z.s) := HS.out.cellAt (i := 5) (by simp)
      have s6 : W1.cell? ⟨B, 6, none⟩ = some (.int .i64 z.b) := HS.out.cellAt (i := 6) (by simp)
      by_cases hc : z.c = 2
      · have kc : (z.c == 2) = true := by rw [hc]; simp
        have HRK := Lib.hid (show rkD L z = putS z (min (cntT L z L.length : Int) 255) from if_pos hc)
        clear hc
        go_wp2_with fail
        clear s0 s1 s2 s3 s4 s5 s6
        go_loopw [6, 7] (fun n j wr => ∃ J : Nat, j = .int .i64 (J : Int) ∧ J ≤ L.length ∧ n = .int .i64 (cntT L z J : Int) ∧ Below W1.heap.size W1 wr) (fun _ j _ => L.length - (intOf j).toNat)
        case atStart => exact ⟨0, rfl, by omega, rfl, by first | exact Below.refl _ _ | exact (Below.refl _ _).drew⟩
        case round =>
          obtain ⟨J, rfl, hJ, rfl, hB⟩ := hrel
          have HBi := Lib.hid hB
          clear hB
          have i5 : (0 : Int) ≤ (J : Int) := by omega
          have HCL := Lib.hid (cntT_le L z J)
          obtain ⟨n, hn⟩ : ∃ n, n = cntT L z J := ⟨_, rfl⟩
          rw [← hn]
          have HNQ := Lib.hid hn
          rw [← hn] at HCL
          clear hn
          have i6 : (0 : Int) ≤ (n : Int) := by omega
          have i7 : (n : Int) ≤ 1000000 := by have := HCL.out; omega
          by_cases hJl : J < L.length
          · have i4 : (J : Int) < (L.length : Int) := by omega
            obtain ⟨y, hy⟩ : ∃ y, y = L[J] := ⟨_, rfl⟩
            have HY := Lib.hid hy
            have HZ := Lib.hid (show ∀ x, Below wr.heap.size wr x → Below wr.heap.size wr x ∧ x.cell? ⟨g, off + J * 7 + 2, none⟩ = some (.int .i64 y.c) ∧ x.cell? ⟨g, off + J * 7 + 4, none⟩ = some (.int .i64 y.d) ∧ x.cell? ⟨g, off + J * 7, none⟩ = some (.int .i64 y.i) ∧ x.cell? ⟨B, 4, none⟩ = some (.int .i64 z.d) ∧ x.cell? ⟨B, 0, none⟩ = some (.int .i64 z.i) from fun x hx => by
              have h1 : Below W1.heap.size W1 x := HBi.out.trans (hx.mono HBi.out.size)
              have h2 : Below w.heap.size w x := HB1.out.trans (h1.mono HB1.out.size)
              have h3 : Blk x B 30 [.int .i64 z.i, .int .i64 z.n, .int .i64 z.c, .int .i64 z.p, .int .i64 z.d, .int .i64 z.s, .int .i64 z.b] := HS.out.keep h1 HS.out.lt
              exact ⟨hx, HC.out x h2 J hJl 2 _ (by rw [← hy]; rfl), HC.out x h2 J hJl 4 _ (by rw [← hy]; rfl), HC.out x h2 J hJl 0 _ (by rw [← hy]; rfl), h3.cellAt (i := 4) (by simp), h3.cellAt (i := 0) (by simp)⟩)
            have HJL := Lib.hid hJl
            clear hy
            have cs : (y.c ≠ 2) ∨ (y.c = 2 ∧ y.d < z.d) ∨ (y.c = 2 ∧ z.d < y.d) ∨ (y.c = 2 ∧ y.d = z.d ∧ y.i < z.i) ∨ (y.c = 2 ∧ y.d = z.d ∧ ¬ y.i < z.i) := by omega
            rcases cs with h1 | ⟨h1, h2⟩ | ⟨h1, h2⟩ | ⟨h1, h2, h3⟩ | ⟨h1, h2, h3⟩
            · have HA := Lib.hid (show cntT L z (J + 1) = n by rw [cntT_no HJL.out (by rw [← HY.out]; unfold aheadB; first | (simp; omega) | simp), ← HNQ.out])
              have k0 : (y.c == 2) = false := by rw [beq_eq_false_iff_ne]; exact h1
              clear h1
              go_upto_region 11 with fail
              refine wp_region_class (C := fun x => Below wr.heap.size wr x ∧ x.cell? ⟨g, off + J * 7 + 2, none⟩ = some (.int .i64 y.c) ∧ x.cell? ⟨g, off + J * 7 + 4, none⟩ = some (.int .i64 y.d) ∧ x.cell? ⟨g, off + J * 7, none⟩ = some (.int .i64 y.i) ∧ x.cell? ⟨B, 4, none⟩ = some (.int .i64 z.d) ∧ x.cell? ⟨B, 0, none⟩ = some (.int .i64 z.i)) (by kernel_rfl) (by kernel_rfl) (HZ.out _ (Below.refl _ _).drew) ?_
              repeat
                with_reducible refine wpQuiet_step (fun K hK => ?_)
                first
                  | (refine quiet_skip (by rfl) ?_; (with_reducible refine hK _ ?_); clear hK K)
                  | (refine quiet_want (by rfl) ?_
                     apply Exists.intro
                     refine ⟨fun x hx => ?_, hK _ ?_⟩
                     (obtain ⟨_, hx1, hx2, hx3, hx4, hx5⟩ := id hx; go_simp; first | done | rfl | (fail))
                     clear hK K)
                try simp only [Act.put, List.setIfInBounds_toArray, List.set_cons_zero, List.set_cons_succ]
              with_reducible refine wpQuiet_nil ?_
              intro wq hq
              have HB7 := Lib.hid (HBi.out.trans (hq.1.mono HBi.out.size))
              obtain ⟨W7, hW7⟩ : ∃ W7, W7 = wq := ⟨_, rfl⟩
              rw [← hW7]; rw [← hW7] at HB7
              clear hq HZ hW7
              go_wp2_with fail
              go_roundw
              case rel => exact ⟨J + 1, by simp, by omega, by rw [HA.out], by first | exact HB7.out | exact HB7.out.drew⟩
              case measure =>
                have hms : L.length - (J + 1) < L.length - J := by omega
                have hmt : L.length - (intOf (.int .i64 ((J : Int) + 1))).toNat < L.length - (intOf (.int .i64 (J : Int))).toNat := hms
                exact hmt
            · have HA := Lib.hid (show cntT L z (J + 1) = n + 1 by rw [cntT_yes HJL.out (by rw [← HY.out]; unfold aheadB; first | (simp; omega) | simp), ← HNQ.out])
              have k0 : (y.c == 2) = true := by rw [h1]; simp
              have k1 : decide (y.d < z.d) = true := decide_eq_true h2
              clear h1 h2
              go_upto_region 11 with fail
              refine wp_region_class (C := fun x => Below wr.heap.size wr x ∧ x.cell? ⟨g, off + J * 7 + 2, none⟩ = some (.int .i64 y.c) ∧ x.cell? ⟨g, off + J * 7 + 4, none⟩ = some (.int .i64 y.d) ∧ x.cell? ⟨g, off + J * 7, none⟩ = some (.int .i64 y.i) ∧ x.cell? ⟨B, 4, none⟩ = some (.int .i64 z.d) ∧ x.cell? ⟨B, 0, none⟩ = some (.int .i64 z.i)) (by kernel_rfl) (by kernel_rfl) (HZ.out _ (Below.refl _ _).drew) ?_
              repeat
                with_reducible refine wpQuiet_step (fun K hK => ?_)
                first
                  | (refine quiet_skip (by rfl) ?_; (with_reducible refine hK _ ?_); clear hK K)
                  | (refine quiet_want (by rfl) ?_
                     apply Exists.intro
                     refine ⟨fun x hx => ?_, hK _ ?_⟩
                     (obtain ⟨_, hx1, hx2, hx3, hx4, hx5⟩ := id hx; go_simp; first | done | rfl | (fail))
                     clear hK K)
                try simp only [Act.put, List.setIfInBounds_toArray, List.set_cons_zero, List.set_cons_succ]
              with_reducible refine wpQuiet_nil ?_
              intro wq hq
              have HB7 := Lib.hid (HBi.out.trans (hq.1.mono HBi.out.size))
              obtain ⟨W7, hW7⟩ : ∃ W7, W7 = wq := ⟨_, rfl⟩
              rw [← hW7]; rw [← hW7] at HB7
              clear hq HZ hW7
              go_wp2_with fail
              go_roundw
              case rel => exact ⟨J + 1, by simp, by omega, by rw [HA.out]; simp, by first | exact HB7.out | exact HB7.out.drew⟩
              case measure =>
                have hms : L.length - (J + 1) < L.length - J := by omega
                have hmt : L.length - (intOf (.int .i64 ((J : Int) + 1))).toNat < L.length - (intOf (.int .i64 (J : Int))).toNat := hms
                exact hmt
            · have HA := Lib.hid (show cntT L z (J + 1) = n by rw [cntT_no HJL.out (by rw [← HY.out]; unfold aheadB; first | (simp; omega) | simp), ← HNQ.out])
              have k0 : (y.c == 2) = true := by rw [h1]; simp
              have k1 : decide (y.d < z.d) = false := decide_eq_false (by omega)
              have k2 : (y.d == z.d) = false := by rw [beq_eq_false_iff_ne]; omega
              clear h1 h2
              go_upto_region 11 with fail
              refine wp_region_class (C := fun x => Below wr.heap.size wr x ∧ x.cell? ⟨g, off + J * 7 + 2, none⟩ = some (.int .i64 y.c) ∧ x.cell? ⟨g, off + J * 7 + 4, none⟩ = some (.int .i64 y.d) ∧ x.cell? ⟨g, off + J * 7, none⟩ = some (.int .i64 y.i) ∧ x.cell? ⟨B, 4, none⟩ = some (.int .i64 z.d) ∧ x.cell? ⟨B, 0, none⟩ = some (.int .i64 z.i)) (by kernel_rfl) (by kernel_rfl) (HZ.out _ (Below.refl _ _).drew) ?_
              repeat
                with_reducible refine wpQuiet_step (fun K hK => ?_)
                first
                  | (refine quiet_skip (by rfl) ?_; (with_reducible refine hK _ ?_); clear hK K)
                  | (refine quiet_want (by rfl) ?_
                     apply Exists.intro
                     refine ⟨fun x hx => ?_, hK _ ?_⟩
                     (obtain ⟨_, hx1, hx2, hx3, hx4, hx5⟩ := id hx; go_simp; first | done | rfl | (fail))
                     clear hK K)
                try simp only [Act.put, List.setIfInBounds_toArray, List.set_cons_zero, List.set_cons_succ]
              with_reducible refine wpQuiet_nil ?_
              intro wq hq
              have HB7 := Lib.hid (HBi.out.trans (hq.1.mono HBi.out.size))
              obtain ⟨W7, hW7⟩ : ∃ W7, W7 = wq := ⟨_, rfl⟩
              rw [← hW7]; rw [← hW7] at HB7
              clear hq HZ hW7
              go_wp2_with fail
              go_roundw
              case rel => exact ⟨J + 1, by simp, by omega, by rw [HA.out], by first | exact HB7.out | exact HB7.out.drew⟩
              case measure =>
                have hms : L.length - (J + 1) < L.length - J := by omega
                have hmt : L.length - (intOf (.int .i64 ((J : Int) + 1))).toNat < L.length - (intOf (.int .i64 (J : Int))).toNat := hms
                exact hmt
            · have HA := Lib.hid (show cntT L z (J + 1) = n + 1 by rw [cntT_yes HJL.out (by rw [← HY.out]; unfold aheadB; first | (simp; omega) | simp), ← HNQ.out])
              have k0 : (y.c == 2) = true := by rw [h1]; simp
              have k1 : decide (y.d < z.d) = false := decide_eq_false (by omega)
              have k2 : (y.d == z.d) = true := by rw [h2]; simp
              have k3 : decide (y.i < z.i) = true := decide_eq_true h3
              clear h1 h2 h3
              go_upto_region 11 with fail
              refine wp_region_class (C := fun x => Below wr.heap.size wr x ∧ x.cell? ⟨g, off + J * 7 + 2, none⟩ = some (.int .i64 y.c) ∧ x.cell? ⟨g, off + J * 7 + 4, none⟩ = some (.int .i64 y.d) ∧ x.cell? ⟨g, off + J * 7, none⟩ = some (.int .i64 y.i) ∧ x.cell? ⟨B, 4, none⟩ = some (.int .i64 z.d) ∧ x.cell? ⟨B, 0, none⟩ = some (.int .i64 z.i)) (by kernel_rfl) (by kernel_rfl) (HZ.out _ (Below.refl _ _).drew) ?_
              repeat
                with_reducible refine wpQuiet_step (fun K hK => ?_)
                first
                  | (refine quiet_skip (by rfl) ?_; (with_reducible refine hK _ ?_); clear hK K)
                  | (refine quiet_want (by rfl) ?_
                     apply Exists.intro
                     refine ⟨fun x hx => ?_, hK _ ?_⟩
                     (obtain ⟨_, hx1, hx2, hx3, hx4, hx5⟩ := id hx; go_simp; first | done | rfl | (fail))
                     clear hK K)
                try simp only [Act.put, List.setIfInBounds_toArray, List.set_cons_zero, List.set_cons_succ]
              with_reducible refine wpQuiet_nil ?_
              intro wq hq
              have HB7 := Lib.hid (HBi.out.trans (hq.1.mono HBi.out.size))
              obtain ⟨W7, hW7⟩ : ∃ W7, W7 = wq := ⟨_, rfl⟩
              rw [← hW7]; rw [← hW7] at HB7
              clear hq HZ hW7
              go_wp2_with fail
              go_roundw
              case rel => exact ⟨J + 1, by simp, by omega, by rw [HA.out]; simp, by first | exact HB7.out | exact HB7.out.drew⟩
              case measure =>
                have hms : L.length - (J + 1) < L.length - J := by omega
                have hmt : L.length - (intOf (.int .i64 ((J : Int) + 1))).toNat < L.length - (intOf (.int .i64 (J : Int))).toNat := hms
                exact hmt
            · have HA := Lib.hid (show cntT L z (J + 1) = n by rw [cntT_no HJL.out (by rw [← HY.out]; unfold aheadB; first | (simp; omega) | simp), ← HNQ.out])
              have k0 : (y.c == 2) = true := by rw [h1]; simp
              have k1 : decide (y.d < z.d) = false := decide_eq_false (by omega)
              have k2 : (y.d == z.d) = true := by rw [h2]; simp
              have k3 : decide (y.i < z.i) = false := decide_eq_false h3
              clear h1 h2 h3
              go_upto_region 11 with fail
              refine wp_region_class (C := fun x => Below wr.heap.size wr x ∧ x.cell? ⟨g, off + J * 7 + 2, none⟩ = some (.int .i64 y.c) ∧ x.cell? ⟨g, off + J * 7 + 4, none⟩ = some (.int .i64 y.d) ∧ x.cell? ⟨g, off + J * 7, none⟩ = some (.int .i64 y.i) ∧ x.cell? ⟨B, 4, none⟩ = some (.int .i64 z.d) ∧ x.cell? ⟨B, 0, none⟩ = some (.int .i64 z.i)) (by kernel_rfl) (by kernel_rfl) (HZ.out _ (Below.refl _ _).drew) ?_
              repeat
                with_reducible refine wpQuiet_step (fun K hK => ?_)
                first
                  | (refine quiet_skip (by rfl) ?_; (with_reducible refine hK _ ?_); clear hK K)
                  | (refine quiet_want (by rfl) ?_
                     apply Exists.intro
                     refine ⟨fun x hx => ?_, hK _ ?_⟩
                     (obtain ⟨_, hx1, hx2, hx3, hx4, hx5⟩ := id hx; go_simp; first | done | rfl | (fail))
                     clear hK K)
                try simp only [Act.put, List.setIfInBounds_toArray, List.set_cons_zero, List.set_cons_succ]
              with_reducible refine wpQuiet_nil ?_
              intro wq hq
              have HB7 := Lib.hid (HBi.out.trans (hq.1.mono HBi.out.size))
              obtain ⟨W7, hW7⟩ : ∃ W7, W7 = wq := ⟨_, rfl⟩
              rw [← hW7]; rw [← hW7] at HB7
              clear hq HZ hW7
              go_wp2_with fail
              go_roundw
              case rel => exact ⟨J + 1, by simp, by omega, by rw [HA.out], by first | exact HB7.out | exact HB7.out.drew⟩
              case measure =>
                have hms : L.length - (J + 1) < L.length - J := by omega
                have hmt : L.length - (intOf (.int .i64 ((J : Int) + 1))).toNat < L.length - (intOf (.int .i64 (J : Int))).toNat := hms
                exact hmt
          · have i4 : ¬ (J : Int) < (L.length : Int) := by omega
            have HNF := Lib.hid (show n = cntT L z L.length by rw [HNQ.out, show J = L.length by omega])
            have HSi := Lib.hid (HS.out.keep HBi.out HS.out.lt)
            have HRi := Lib.hid (own_keep HBi.out (Nat.le_refl _) HR1.out)
            have HB4 := Lib.hid (HB1.out.trans (HBi.out.mono HB1.out.size))
            have s0 : wr.cell? ⟨B, 0, none⟩ = some (.int .i64 z.i) := HSi.out.cellAt (i := 0) (by simp)
            have s1 : wr.cell? ⟨B, 1, none⟩ = some (.int .i64 z.n) := HSi.out.cellAt (i := 1) (by simp)
            have s2 : wr.cell? ⟨B, 2, none⟩ = some (.int .i64 z.c) := HSi.out.cellAt (i := 2) (by simp)
            have s3 : wr.cell? ⟨B, 3, none⟩ = some (.int .i64 z.p) := HSi.out.cellAt (i := 3) (by simp)
            have s4 : wr.cell? ⟨B, 4, none⟩ = some (.int .i64 z.d) := HSi.out.cellAt (i := 4) (by simp)
            have s5 : wr.cell? ⟨B, 5, none⟩ = some (.int .i64 z.s) := HSi.out.cellAt (i := 5) (by simp)
            have s6 : wr.cell? ⟨B, 6, none⟩ = some (.int .i64 z.b) := HSi.out.cellAt (i := 6) (by simp)
            have f5 : wr.frozen? ⟨B, 5, none⟩ = false := HSi.out.frozenAt 5
            go_upto_region 14 with fail
            obtain ⟨r, hr⟩ : ∃ r, r = min (n : Int) 255 := ⟨_, rfl⟩
            rw [← hr]
            have HRK2 := Lib.hid (show rkD L z = putS z r by rw [HRK.out, ← HNF.out, hr])
            clear hr
            obtain ⟨W8, hW8⟩ : ∃ W8, W8 = wr.setCell ⟨B, 5, none⟩ (.int .i64 r) := ⟨_, rfl⟩
            rw [← hW8]
            have hb8 : Blk W8 B 30 [.int .i64 z.i, .int .i64 z.n, .int .i64 z.c, .int .i64 z.p, .int .i64 z.d, .int .i64 r, .int .i64 z.b] := by rw [hW8]; exact HSi.out.put1 (i := 5) (by simp) _
            have hr8 := ownsRow_setCell_other HRi.out (a := ⟨B, 5, none⟩) (fun e => HNE.out _ e rfl) (.int .i64 r)
            rw [← hW8] at hr8
            have HR8 := Lib.hid hr8; have HS8 := Lib.hid hb8
            have HB8 := Lib.hid (show Below w.heap.size w W8 by rw [hW8]; exact HB4.out.setCell (p := ⟨B, 5, none⟩) HGE.out _)
            clear s0 s1 s2 s3 s4 s5 s6 f5 hW8 hb8 hr8
            have s0 : W8.cell? ⟨B, 0, none⟩ = some (.int .i64 z.i) := HS8.out.cellAt (i := 0) (by simp)
            have s1 : W8.cell? ⟨B, 1, none⟩ = some (.int .i64 z.n) := HS8.out.cellAt (i := 1) (by simp)
            have s2 : W8.cell? ⟨B, 2, none⟩ = some (.int .i64 z.c) := HS8.out.cellAt (i := 2) (by simp)
            have s3 : W8.cell? ⟨B, 3, none⟩ = some (.int .i64 z.p) := HS8.out.cellAt (i := 3) (by simp)
            have s4 : W8.cell? ⟨B, 4, none⟩ = some (.int .i64 z.d) := HS8.out.cellAt (i := 4) (by simp)
            have s5 : W8.cell? ⟨B, 5, none⟩ = some (.int .i64 r) := HS8.out.cellAt (i := 5) (by simp)
            have s6 : W8.cell? ⟨B, 6, none⟩ = some (.int .i64 z.b) := HS8.out.cellAt (i := 6) (by simp)
            have HN := Lib.hid (show ∀ (j : Nat) (u : Value), (Sm.C (putS z r))[j]? = some u → (W8.alloc (.cells #[.int .i64 z.i, .int .i64 z.n, .int .i64 z.c, .int .i64 z.p, .int .i64 z.d, .int .i64 r, .int .i64 z.b] 30)).cell? ((⟨W8.heap.size, 0, none⟩ : Addr).add j) = some u from fun j u hj => by
              have hlt := (List.getElem?_eq_some_iff.1 hj).1
              have h1 := (Blk.new W8 30 (Sm.C (putS z r))).cellAt (i := j) hlt
              have h2 := (List.getElem?_eq_some_iff.1 hj).2
              rw [h2] at h1
              have e : ((⟨W8.heap.size, 0, none⟩ : Addr).add j) = ⟨W8.heap.size, j, none⟩ := by cases j <;> simp [Addr.add]
              rw [e]
              exact h1)
            have HO := Lib.hid (show ∀ u ∈ Sm.C (putS z r), u.oneCell' = true by simp [Value.oneCell', Sm.C, putS])
            have HM3 := Lib.hid (show w.heap.size ≤ (W8.alloc (.cells #[.int .i64 z.i, .int .i64 z.n, .int .i64 z.c, .int .i64 z.p, .int .i64 z.d, .int .i64 r, .int .i64 z.b] 30)).heap.size by have := HB8.out.size; simp only [World.size_alloc]; omega)
            go_wp2_with (at_builtin; refine wpList_append_own _ rfl _ _ 22 rfl w.heap.size 30 i0 (.agg #[.int .i64 0, .int .i64 0, .int .i64 0, .int .i64 0, .int .i64 0, .int .i64 0, .int .i64 0]) 7 56 Tryd.underlying22 hi hz0 hz1 hz2 rfl (by decide) _ _ _ rfl (HR8.out.alloc _) ⟨W8.heap.size, 0, none⟩ 1 1 (Sm.C (putS z r)) rfl rfl HN.out HO.out HM1.out HM2.out HM3.out ?_)
            intro v' w3 hown2 hgrow _
            have HB3 := Lib.hid ((HB8.out.alloc HB8.out.size _).grown hgrow HM3.out (fun j e => (World.ownsRow.lt HR8.out j e).1))
            have HR3 := Lib.hid hown2
            clear hown2 hgrow
            go_wp2
            go_roundw
            case rel => exact ⟨k + 1, by simp, by have := HKL.out; omega, by rw [HF.out, List.flatMap_append, List.flatMap_singleton, HRK2.out]; exact HR3.out, HB3.out⟩
            case measure => have := HKL.out; simp [intOf]; omega
      · have kc : (z.c == 2) = false := by rw [beq_eq_false_iff_ne]; exact hc
        have HRK := Lib.hid (show rkD L z = z from if_neg hc)
        clear hc
        have HN := Lib.hid (show ∀ (j : Nat) (u : Value), (Sm.C z)[j]? = some u → (W1.alloc (.cells #[.int .i64 z.i, .int .i64 z.n, .int .i64 z.c, .int .i64 z.p, .int .i64 z.d, .int .i64 z.s, .int .i64 z.b] 30)).cell? ((⟨W1.heap.size, 0, none⟩ : Addr).add j) = some u from fun j u hj => by
          have hlt := (List.getElem?_eq_some_iff.1 hj).1
          have h1 := (Blk.new W1 30 (Sm.C z)).cellAt (i := j) hlt
          have h2 := (List.getElem?_eq_some_iff.1 hj).2
          rw [h2] at h1
          have e : ((⟨W1.heap.size, 0, none⟩ : Addr).add j) = ⟨W1.heap.size, j, none⟩ := by cases j <;> simp [Addr.add]
          rw [e]
          exact h1)
        have HO := Lib.hid (show ∀ u ∈ Sm.C z, u.oneCell' = true by simp [Value.oneCell', Sm.C])
        have HM3 := Lib.hid (show w.heap.size ≤ (W1.alloc (.cells #[.int .i64 z.i, .int .i64 z.n, .int .i64 z.c, .int .i64 z.p, .int .i64 z.d, .int .i64 z.s, .int .i64 z.b] 30)).heap.size by have := HB1.out.size; simp only [World.size_alloc]; omega)
        go_wp2_with (at_builtin; refine wpList_append_own _ rfl _ _ 22 rfl w.heap.size 30 i0 (.agg #[.int .i64 0, .int .i64 0, .int .i64 0, .int .i64 0, .int .i64 0, .int .i64 0, .int .i64 0]) 7 56 Tryd.underlying22 hi hz0 hz1 hz2 rfl (by decide) _ _ _ rfl (HR1.out.alloc _) ⟨W1.heap.size, 0, none⟩ 1 1 (Sm.C z) rfl rfl HN.out HO.out HM1.out HM2.out HM3.out ?_)
        intro v' w3 hown2 hgrow _
        have HB3 := Lib.hid ((HB1.out.alloc HB1.out.size _).grown hgrow HM3.out (fun j e => (World.ownsRow.lt HR1.out j e).1))
        have HR3 := Lib.hid hown2
        clear hown2 hgrow
        go_wp2
        go_roundw
        case rel => exact ⟨k + 1, by simp, by have := HKL.out; omega, by rw [HF.out, List.flatMap_append, List.flatMap_singleton, HRK.out]; exact HR3.out, HB3.out⟩
        case measure => have := HKL.out; simp [intOf]; omega
    · have i1 : ¬ (k : Int) < (L.length : Int) := by omega
      have HF := Lib.hid (show rkT L k = L.map (rkD L) by unfold rkT; rw [show k = L.length by omega, List.take_length])
      have HK := Lib.hid (show k = L.length by omega)
      go_wp2_with fail
      go_ret
      exact ⟨_, rfl, by rw [← HF.out, ← HK.out]; exact HROW.out, by first | exact HB.out | exact HB.out.drew⟩
end Go.Proofs.YtolhckahphmffaaDoor
