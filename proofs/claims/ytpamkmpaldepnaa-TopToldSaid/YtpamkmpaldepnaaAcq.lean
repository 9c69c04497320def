/- Layer 19's own: ticks that a bit may have. Conditions: the config is a small one. -/
import Derived.Test.YtpamkmpaldepnaaAcp
import Derived.Test.YtpamkmpaldepnaaQui
namespace Go.Proofs.Ytpamkmpaldepnaa
open Go.RowKit
def wiX (n d a : Int) : Int := n - d + posI a % (2 * d + 1)
theorem wi_in (n d a : Int) (h : 0 ≤ d) : n - d ≤ wiX n d a ∧ wiX n d a ≤ n + d := by
  unfold wiX
  have h1 := Int.emod_nonneg (posI a) (b := 2 * d + 1) (by omega)
  have h2 := Int.emod_lt_of_pos (posI a) (b := 2 * d + 1) (by omega)
  omega
set_option maxRecDepth 100000 in
set_option maxHeartbeats 4000000 in
theorem lw_within (n d u : Int) (hn : 2 ≤ n ∧ n ≤ 5001) (hd : 0 ≤ d ∧ d < n) (a : Int) (w : World) : Calls Try.prog 30 #[.agg #[.int .i64 n, .int .i64 d, .int .i64 u], .int .i64 a] w fun y w' => y = .returned (.int .i64 (wiX n d a)) ∧ Below w.heap.size w w' := by
  have hw := wi_in n d a hd.1
  obtain ⟨d2, hd2⟩ : ∃ z, z = 2 * d := ⟨_, rfl⟩
  obtain ⟨d3, hd3⟩ : ∃ z, z = d2 + 1 := ⟨_, rfl⟩
  obtain ⟨m, hm⟩ : ∃ z, z = n - d := ⟨_, rfl⟩
  obtain ⟨r, hr⟩ : ∃ z, z = posI a % d3 := ⟨_, rfl⟩
  obtain ⟨X, hX⟩ : ∃ z, z = wiX n d a := ⟨_, rfl⟩
  have hX2 : X = m + r := by rw [hX, hm, hr, hd3, hd2]; rfl
  rw [← hX] at hw ⊢
  have HNZ := Lib.hid (show ¬ IntKind.i64.wrap (IntKind.i64.wrap (2 * d) + 1) = 0 by rw [IntKind.wrap_i64, IntKind.wrap_i64]; omega)
  have HBX := Lib.hid ((Below.refl _ w).alloc (Nat.le_refl _) (.cells #[.int .i64 n, .int .i64 d, .int .i64 u] 25))
  by_cases n1 : a < 0
  · have q1 : posI a = 0 := if_pos n1
    have w1 : IntKind.i64.wrap (2 * d) = 2 * d := by rw [IntKind.wrap_i64]; omega
    have w2 : IntKind.i64.wrap (2 * d + 1) = d3 := by rw [IntKind.wrap_i64]; omega
    have w3 : IntKind.i64.wrap (n - d) = m := by rw [IntKind.wrap_i64]; omega
    have k4 : r = 0 := by rw [hr, q1]; exact Int.zero_emod _
    have HX := Lib.hid (show IntKind.i64.wrap (IntKind.i64.wrap (n - d)) = X by
      rw [w3, IntKind.wrap_i64]; omega)
    clear w1 w2 w3 k4
    clear q1 hw hd2 hd3 hm hr hX hX2 hn hd
    go_enter Try.func30, Try.ntmps30
    go_upto_region 3 with fail
    obtain ⟨W0, hW0⟩ : ∃ W0, W0 = w.alloc (.cells #[.int .i64 n, .int .i64 d, .int .i64 u] 25) := ⟨_, rfl⟩
    have HB0 := Lib.hid (show Below w.heap.size w W0 by rw [hW0]; exact HBX.out)
    have HZ := Lib.hid (show ∀ x, Below W0.heap.size W0 x → Below W0.heap.size W0 x ∧ x.cell? ⟨w.heap.size, 0, none⟩ = some (.int .i64 n) ∧ x.cell? ⟨w.heap.size, 1, none⟩ = some (.int .i64 d) from fun x hx => by
      have hb : Blk W0 w.heap.size 25 [.int .i64 n, .int .i64 d, .int .i64 u] := by rw [hW0]; exact Blk.new w 25 _
      exact ⟨hx, (hb.keep hx hb.lt).cellAt (i := 0) (by simp), (hb.keep hx hb.lt).cellAt (i := 1) (by simp)⟩)
    rw [← hW0]
    clear hW0
    refine wp_region_class (C := fun x => Below W0.heap.size W0 x ∧ x.cell? ⟨w.heap.size, 0, none⟩ = some (.int .i64 n) ∧ x.cell? ⟨w.heap.size, 1, none⟩ = some (.int .i64 d)) (by kernel_rfl) (by kernel_rfl) (HZ.out _ (Below.refl _ _).drew) ?_
    repeat
      with_reducible refine wpQuiet_step (fun K hK => ?_)
      first
        | (refine quiet_skip (by rfl) ?_; (with_reducible refine hK _ ?_); clear hK K)
        | (refine quiet_want (by rfl) ?_
           apply Exists.intro
           refine ⟨fun x hx => ?_, hK _ ?_⟩
           (obtain ⟨_, hx1, hx2⟩ := id hx; go_simp; first | done | rfl | ((rw [if_neg HNZ.out]; exact ⟨rfl, rfl⟩)))
           clear hK K)
      try simp only [Act.put, List.setIfInBounds_toArray, List.set_cons_zero, List.set_cons_succ]
    with_reducible refine wpQuiet_nil ?_
    intro wq hq
    have HB2 := Lib.hid (below_transG HB0.out hq.1)
    clear hq HZ
    go_wp2_with fail
    go_ret
    exact ⟨by first | rfl | (rw [← HX.out]; rfl), HB2.out⟩
  · have q1 : posI a = a := if_neg n1
    have w1 : IntKind.i64.wrap (2 * d) = 2 * d := by rw [IntKind.wrap_i64]; omega
    have w2 : IntKind.i64.wrap (2 * d + 1) = d3 := by rw [IntKind.wrap_i64]; omega
    have w3 : IntKind.i64.wrap (n - d) = m := by rw [IntKind.wrap_i64]; omega
    have k4 : a.tmod d3 = r := by rw [Int.tmod_eq_emod_of_nonneg (by omega), hr, q1]
    have HX := Lib.hid (show IntKind.i64.wrap (IntKind.i64.wrap (n - d) + a.tmod (IntKind.i64.wrap (IntKind.i64.wrap (2 * d) + 1))) = X by
      rw [w1, w2, w3, k4, IntKind.wrap_i64]; omega)
    clear w1 w2 w3 k4
    clear q1 hw hd2 hd3 hm hr hX hX2 hn hd
    go_enter Try.func30, Try.ntmps30
    go_upto_region 3 with fail
    obtain ⟨W0, hW0⟩ : ∃ W0, W0 = w.alloc (.cells #[.int .i64 n, .int .i64 d, .int .i64 u] 25) := ⟨_, rfl⟩
    have HB0 := Lib.hid (show Below w.heap.size w W0 by rw [hW0]; exact HBX.out)
    have HZ := Lib.hid (show ∀ x, Below W0.heap.size W0 x → Below W0.heap.size W0 x ∧ x.cell? ⟨w.heap.size, 0, none⟩ = some (.int .i64 n) ∧ x.cell? ⟨w.heap.size, 1, none⟩ = some (.int .i64 d) from fun x hx => by
      have hb : Blk W0 w.heap.size 25 [.int .i64 n, .int .i64 d, .int .i64 u] := by rw [hW0]; exact Blk.new w 25 _
      exact ⟨hx, (hb.keep hx hb.lt).cellAt (i := 0) (by simp), (hb.keep hx hb.lt).cellAt (i := 1) (by simp)⟩)
    rw [← hW0]
    clear hW0
    refine wp_region_class (C := fun x => Below W0.heap.size W0 x ∧ x.cell? ⟨w.heap.size, 0, none⟩ = some (.int .i64 n) ∧ x.cell? ⟨w.heap.size, 1, none⟩ = some (.int .i64 d)) (by kernel_rfl) (by kernel_rfl) (HZ.out _ (Below.refl _ _).drew) ?_
    repeat
      with_reducible refine wpQuiet_step (fun K hK => ?_)
      first
        | (refine quiet_skip (by rfl) ?_; (with_reducible refine hK _ ?_); clear hK K)
        | (refine quiet_want (by rfl) ?_
           apply Exists.intro
           refine ⟨fun x hx => ?_, hK _ ?_⟩
           (obtain ⟨_, hx1, hx2⟩ := id hx; go_simp; first | done | rfl | ((rw [if_neg HNZ.out]; exact ⟨rfl, rfl⟩)))
           clear hK K)
      try simp only [Act.put, List.setIfInBounds_toArray, List.set_cons_zero, List.set_cons_succ]
    with_reducible refine wpQuiet_nil ?_
    intro wq hq
    have HB2 := Lib.hid (below_transG HB0.out hq.1)
    clear hq HZ
    go_wp2_with fail
    go_ret
    exact ⟨by first | rfl | (rw [← HX.out]; rfl), HB2.out⟩
/-- A pair in a law, with its config's cells. -/
structure PH (w u : World) (C B : Nat) (N D T : Int) (s : PD) (pn pa : Value) : Prop where
  q : PQ w u B s pn pa
  c : Blk u C 25 [.int .i64 N, .int .i64 D, .int .i64 T]
  ne : C ≠ B
theorem PH.on {w u x : World} {C B : Nat} {N D T : Int} {s : PD} {pn pa : Value} (h : PH w u C B N D T s pn pa) (hb : Below u.heap.size u x) : PH w x C B N D T s pn pa := ⟨h.q.on hb, h.c.keep hb h.c.lt, h.ne⟩
theorem PH.step {w u x : World} {C B : Nat} {N D T : Int} {s s' : PD} {pn pa pn' pa' : Value} (h : PH w u C B N D T s pn pa) (ha : PA x B s' pn' pa') (hk : Kp B (.slice none 0 0) u x) : PH w x C B N D T s' pn' pa' := ⟨h.q.step ha hk, h.c.on (hk.block C h.c.lt h.ne (fun e => by cases e)), h.ne⟩
theorem blk_kp {u x : World} {K B : Nat} {T : TypeId} {l : List Value} (h : Blk u K T l) (ne : K ≠ B) (hk : Kp B (.slice none 0 0) u x) : Blk x K T l := h.on (hk.block K h.lt ne (fun e => by cases e))
theorem HI.gapR {sl T most : Int} {s : PD} (h : HI sl T most s) (hb : s.bi ≤ 2400) : 0 ≤ s.gap ∧ s.gap ≤ 2400 := by
  have hbi := h.bi
  unfold PD.gap
  cases e : s.ap with
  | none => simp
  | some p =>
    obtain ⟨x, b⟩ := p
    have := h.ai x b e
    show 0 ≤ s.bi - b ∧ s.bi - b ≤ 2400
    omega
theorem gapS {s : PD} (m x : Int) (h : 0 ≤ s.gap ∧ s.gap ≤ 2400) : 0 ≤ (s.stepped m x).gap ∧ (s.stepped m x).gap ≤ 2401 := by
  unfold PD.gap at h ⊢
  show 0 ≤ (match s.ap with | none => 0 | some (_, b) => s.bi + 1 - b) ∧ (match s.ap with | none => 0 | some (_, b) => s.bi + 1 - b) ≤ 2401
  cases e : s.ap with
  | none => simp
  | some p =>
    rw [e] at h
    simp only at h ⊢
    omega
end Go.Proofs.Ytpamkmpaldepnaa
