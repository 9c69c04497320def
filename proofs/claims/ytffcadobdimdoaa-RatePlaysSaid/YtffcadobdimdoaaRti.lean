/- The document's own estimator of layer 18: Add. Conditions: what it holds can be, and the sample is of numbers of 64 bits. -/
import Derived.Test.YtffcadobdimdoaaRth
namespace Go.Proofs.Ytffcadobdimdoaa
open Go.RowKit
theorem info_zpartsR {P : Program} {T : TypeId} {a b c : Nat} (h : (P.info? T).map (fun i => (i.zero.map (·.cells.size), i.size, i.bytes)) = some (some a, b, c)) : ∃ i z, P.info? T = some i ∧ i.zero = some z ∧ z.cells.size = a ∧ i.size = b ∧ i.bytes = c := by
  cases hi : P.info? T with
  | none => rw [hi] at h; cases h
  | some i =>
    rw [hi] at h
    simp only [Option.map_some, Option.some.injEq, Prod.mk.injEq] at h
    obtain ⟨h1, h2, h3⟩ := h
    cases hz : i.zero with
    | none => rw [hz] at h1; cases h1
    | some z =>
      rw [hz] at h1
      exact ⟨i, z, rfl, hz, by simpa using h1, h2, h3⟩
theorem info_i64 : (Try.prog.info? 2).map (fun i => (i.zero.map (·.cells.size), i.size, i.bytes)) = some (some 1, 1, 8) := by kernel_rfl
theorem keepL_no {m : Nat} {L : List Int} {x : Int} (h : ¬ m < L.length + 1) : keepL m L x = L ++ [x] := if_neg h
theorem keepL_yes {m : Nat} {L : List Int} {x : Int} (h : m < L.length + 1) : keepL m L x = (L ++ [x]).drop 1 := if_pos h
theorem Rw.drewR {W : World} {k : Nat} {v : Value} {L : List Value} (h : Rw W k v L) : Rw W.drew k v L := h
theorem Rw.puts {W : World} {k C : Nat} {v : Value} {L : List Value} (h : Rw W k v L) (hne : v.ownBlock ≠ some C) (o : Nat) (x : Value) : Rw (W.setCell ⟨C, o, none⟩ x) k v L :=
  h.on (Nat.le_of_eq (setCell_sizeG _ _ _).symm) (fun g hg => Below.heap_setCell W ⟨C, o, none⟩ x g (fun e => hne (by rw [hg]; exact congrArg some e)))
set_option maxRecDepth 100000 in
set_option maxHeartbeats 8000000 in
theorem radd_any (a b : Int) (ha : -9223372036854775808 ≤ a ∧ a ≤ 9223372036854775807) (hb : -9223372036854775808 ≤ b ∧ b ≤ 9223372036854775807) (e : ES) (v : Value) (B : Nat) (w : World) (hE : EdA w B e v) : Calls Try.prog 22 #[.pointer (some ⟨B, 0, none⟩), .agg #[.int .i64 a, .int .i64 b]] w fun y w' => y = .returned (.bool (e.addB a b)) ∧ ∃ v', EdA w' B (e.add a b) v' ∧ Kp B v w w' ∧ Nx w v v' := by
  obtain ⟨m, n, s, t, h, R, L, x⟩ := e
  have HE := Lib.hid hE
  have HA := Lib.hid (And.intro ha hb)
  have HOF := Lib.hid (fun u => rof_any t h a b m hE.ok.t0 hE.ok.h0 ha hb u)
  have HLT := Lib.hid hE.blk.lt
  clear hE ha hb
  obtain ⟨w1, hw1⟩ : ∃ w1, w1 = w.alloc (.cells #[.int .i64 a, .int .i64 b] 27) := ⟨_, rfl⟩
  have HE1 := Lib.hid (show EdA w1 B ⟨m, n, s, t, h, R, L, x⟩ v from hw1 ▸ HE.out.on ((Below.refl _ w).alloc (Nat.le_refl _) _))
  have HS1 := Lib.hid (show Blk w1 w.heap.size 27 [.int .i64 a, .int .i64 b] from hw1 ▸ Blk.new w 27 [.int .i64 a, .int .i64 b])
  have HB1 := Lib.hid (show Below w.heap.size w w1 from hw1 ▸ (Below.refl _ w).alloc (Nat.le_refl _) _)
  obtain ⟨X, hX⟩ : ∃ X, X = rofX t h a b m := ⟨_, rfl⟩
  obtain ⟨Y, hY⟩ : ∃ Y, Y = rofB t h a b m := ⟨_, rfl⟩
  rw [← hX, ← hY] at HOF
  have HXY := Lib.hid (And.intro hX hY)
  clear hX hY
  have q2 : w1.cell? ⟨B, 2, none⟩ = some (.bool s) := HE1.out.blk.cellAt (i := 2) (by simp)
  have q3 : w1.cell? ⟨B, 3, none⟩ = some (.int .i64 t) := HE1.out.blk.cellAt (i := 3) (by simp)
  have q4 : w1.cell? ⟨B, 4, none⟩ = some (.int .i64 h) := HE1.out.blk.cellAt (i := 4) (by simp)
  have f2 : w1.frozen? ⟨B, 2, none⟩ = false := HE1.out.blk.frozenAt 2
  have f3 : w1.frozen? ⟨B, 3, none⟩ = false := HE1.out.blk.frozenAt 3
  have f4 : w1.frozen? ⟨B, 4, none⟩ = false := HE1.out.blk.frozenAt 4
  have c0 : w1.cell? ⟨w.heap.size, 0, none⟩ = some (.int .i64 a) := HS1.out.cellAt (i := 0) (by simp)
  have c1 : w1.cell? ⟨w.heap.size, 1, none⟩ = some (.int .i64 b) := HS1.out.cellAt (i := 1) (by simp)
  cases s
  case false =>
    go_enter Try.func22, Try.ntmps22
    go_upto_region 1 with fail
    rw [← hw1]
    clear hw1
    go_wp2_with fail
    go_ret
    refine ⟨rfl, v, ⟨((HE1.out.blk.put1 (i := 2) (by simp) (.bool true)).put1 (i := 3) (by simp) (.int .i64 a)).put1 (i := 4) (by simp) (.int .i64 b), ?_, HE.out.own, ES.hear_ok HE.out.ok HA.out.1 HA.out.2⟩, (((Kp.of_below HB1.out).set 2 _).set 3 _).set 4 _, Nx.refl _ _⟩
    exact ((HE1.out.row.puts HE.out.own 2 _).puts HE.out.own 3 _).puts HE.out.own 4 _
  case true =>
    clear q2 q3 q4 f2 f3 f4 c0 c1
    have HZ := Lib.hid (show ∀ x, Below w1.heap.size w1 x → Below w1.heap.size w1 x ∧ x.cell? ⟨w.heap.size, 0, none⟩ = some (.int .i64 a) ∧ x.cell? ⟨w.heap.size, 1, none⟩ = some (.int .i64 b) ∧ x.cell? ⟨B, 0, none⟩ = some (.int .i64 m) ∧ x.cell? ⟨B, 3, none⟩ = some (.int .i64 t) ∧ x.cell? ⟨B, 4, none⟩ = some (.int .i64 h) from fun x hx => ⟨hx, (HS1.out.keep hx HS1.out.lt).cellAt (i := 0) (by simp), (HS1.out.keep hx HS1.out.lt).cellAt (i := 1) (by simp), (HE1.out.on hx).blk.cellAt (i := 0) (by simp), (HE1.out.on hx).blk.cellAt (i := 3) (by simp), (HE1.out.on hx).blk.cellAt (i := 4) (by simp)⟩)
    have q2 : w1.cell? ⟨B, 2, none⟩ = some (.bool true) := HE1.out.blk.cellAt (i := 2) (by simp)
    go_enter Try.func22, Try.ntmps22
    go_upto_region 1 with fail
    rw [← hw1]
    clear hw1
    go_upto_region 5 with fail
    refine wp_region_class (C := fun x => Below w1.heap.size w1 x ∧ x.cell? ⟨w.heap.size, 0, none⟩ = some (.int .i64 a) ∧ x.cell? ⟨w.heap.size, 1, none⟩ = some (.int .i64 b) ∧ x.cell? ⟨B, 0, none⟩ = some (.int .i64 m) ∧ x.cell? ⟨B, 3, none⟩ = some (.int .i64 t) ∧ x.cell? ⟨B, 4, none⟩ = some (.int .i64 h)) (by kernel_rfl) (by kernel_rfl) (HZ.out _ (Below.refl _ _).drew) ?_
    repeat
      with_reducible refine wpQuiet_step (fun K hK => ?_)
      first
        | (refine quiet_skip (by rfl) ?_; (with_reducible refine hK _ ?_); clear hK K)
        | (refine quiet_want (by rfl) ?_
           apply Exists.intro
           refine ⟨fun x hx => ?_, hK _ ?_⟩
           (obtain ⟨_, hx1, hx2, hx3, hx4, hx5⟩ := id hx; go_simp; first | done | rfl | ((go_at_call 14; exact (HOF.out _).mono fun y w' ⟨h1, h2⟩ => ⟨h1, HZ.out _ (below_transG hx.1 h2)⟩)))
           clear hK K)
      try simp only [Act.put, List.setIfInBounds_toArray, List.set_cons_zero, List.set_cons_succ]
    with_reducible refine wpQuiet_nil ?_
    intro wq hq
    have HBq := Lib.hid (below_transG HB1.out hq.1)
    have HEq := Lib.hid (HE1.out.on hq.1)
    have HSq := Lib.hid (HS1.out.keep hq.1 HS1.out.lt)
    clear hq HZ q2 HE1 HS1 HB1
    have q2 : wq.cell? ⟨B, 2, none⟩ = some (.bool true) := HEq.out.blk.cellAt (i := 2) (by simp)
    have q3 : wq.cell? ⟨B, 3, none⟩ = some (.int .i64 t) := HEq.out.blk.cellAt (i := 3) (by simp)
    have q4 : wq.cell? ⟨B, 4, none⟩ = some (.int .i64 h) := HEq.out.blk.cellAt (i := 4) (by simp)
    have f2 : wq.frozen? ⟨B, 2, none⟩ = false := HEq.out.blk.frozenAt 2
    have f3 : wq.frozen? ⟨B, 3, none⟩ = false := HEq.out.blk.frozenAt 3
    have f4 : wq.frozen? ⟨B, 4, none⟩ = false := HEq.out.blk.frozenAt 4
    have hne : B ≠ w.heap.size := Nat.ne_of_lt HLT.out
    have hsp := HSq.out.puts hne 2 (.bool true)
    have c0 : (wq.setCell ⟨B, 2, none⟩ (.bool true)).cell? ⟨w.heap.size, 0, none⟩ = some (.int .i64 a) := hsp.cellAt (i := 0) (by simp)
    have c1 : (wq.setCell ⟨B, 2, none⟩ (.bool true)).cell? ⟨w.heap.size, 1, none⟩ = some (.int .i64 b) := hsp.cellAt (i := 1) (by simp)
    clear hsp hne
    go_upto_region 8 with fail
    obtain ⟨w4, hw4⟩ : ∃ w4, w4 = ((wq.setCell ⟨B, 2, none⟩ (.bool true)).setCell ⟨B, 3, none⟩ (.int .i64 a)).setCell ⟨B, 4, none⟩ (.int .i64 b) := ⟨_, rfl⟩
    rw [← hw4]
    have HE4 := Lib.hid (show EdA w4 B (ES.hear ⟨m, n, true, t, h, R, L, x⟩ a b) v from hw4 ▸ ⟨((HEq.out.blk.put1 (i := 2) (by simp) (.bool true)).put1 (i := 3) (by simp) (.int .i64 a)).put1 (i := 4) (by simp) (.int .i64 b), ((HEq.out.row.puts HE.out.own 2 _).puts HE.out.own 3 _).puts HE.out.own 4 _, HE.out.own, ES.hear_ok HE.out.ok HA.out.1 HA.out.2⟩)
    have HK4 := Lib.hid (show Kp B v w w4 from hw4 ▸ (((Kp.of_below HBq.out).set 2 _).set 3 _).set 4 _)
    clear hw4 q2 q3 q4 f2 f3 f4 c0 c1 HEq HSq HBq HOF
    cases Y
    case false =>
      have e : ES.addB ⟨m, n, true, t, h, R, L, x⟩ a b = false := HXY.out.2.symm
      have e2 : ES.add ⟨m, n, true, t, h, R, L, x⟩ a b = ES.hear ⟨m, n, true, t, h, R, L, x⟩ a b := by unfold ES.add; rw [e]; exact if_neg (by decide)
      have HEE := Lib.hid (And.intro e e2)
      clear e e2
      go_wp2_with fail
      go_ret
      rw [HEE.out.1, HEE.out.2]
      exact ⟨rfl, v, HE4.out, HK4.out, Nx.refl _ _⟩
    case true =>
      have e : ES.addB ⟨m, n, true, t, h, R, L, x⟩ a b = true := HXY.out.2.symm
      have e2 : ES.add ⟨m, n, true, t, h, R, L, x⟩ a b = (ES.hear ⟨m, n, true, t, h, R, L, x⟩ a b).keep X := by unfold ES.add; rw [e, if_pos rfl, HXY.out.1]
      have HEE := Lib.hid (And.intro e e2)
      clear e e2
      have hrow := HE4.out.row
      obtain ⟨nl, cap, ad, rfl, hl, hcap, hmx, _⟩ := HE4.out.row
      have hl : L.length = nl := by have h9 : (cI L).length = nl * 1 := hl; rw [cI_len] at h9; omega
      subst hl
      have HROW := Lib.hid (show ∀ u, Below w4.heap.size w4 u → Rw u 1 (.slice ad L.length cap) (cI L) from fun u hu => HE4.out.row.kept hu)
      have HLN := Lib.hid (And.intro HE.out.ok.ring.lm HE.out.ok.ring.m9)
      simp only at HLN
      have q5 : w4.cell? ⟨B, 5, none⟩ = some (.slice ad L.length cap) := HE4.out.blk.cellAt (i := 5) (by simp)
      obtain ⟨i0, z0, hi, hz, hzc, hsz, hby⟩ := info_zpartsR info_i64
      clear hrow hcap hmx
      go_upto_region 10 with fail
      go_wp2_with (at_builtin; refine wpList_append_rw _ rfl _ _ 43 43 rfl 2 i0 z0 1 8 Try.underlying43 hi hz hsz hby hzc ad L.length cap (cI L) rfl (HROW.out _ ((Below.refl _ _).alloc (Nat.le_refl _) _)) _ rfl 1 [.int .i64 X] (Src.ofSlice _ Try.underlying43 ⟨w4.heap.size, 0, none⟩ 1 1 [.int .i64 X] rfl (fun j u h => by first | exact newsG j u h | exact newsGd j u h) (fun u h => by rw [List.mem_singleton] at h; rw [h]; rfl)) (.inl (by decide)) (by have := HLN.out; omega) (by decide) ?_)
      intro g off cap' w5 h2 h3 h4 h5
      have HROW5 := Lib.hid (show Rw w5 1 (.slice (some ⟨g, off, none⟩) (L.length + 1) cap') (cI (L ++ [X])) by rw [show cI (L ++ [X]) = cI L ++ [.int .i64 X] by simp [cI]]; exact h2)
      have hbA := (Below.refl _ w4).alloc (Nat.le_refl _) (.cells #[.int .i64 X] 2)
      have hb4 := HE4.out.blk.keep hbA HE4.out.blk.lt
      have HBLK5 := Lib.hid (hb4.on (h4 B (by have := HE4.out.blk.lt; omega) HE4.out.own))
      have HK5 := Lib.hid (show Kp B (.slice ad L.length cap) w w5 from HK4.out.trans ((Kp.of_below hbA).trans (h3 B) (Nx.refl _ _)) (Nx.refl _ _))
      have HNX := Lib.hid (show Nx w (.slice ad L.length cap) (.slice (some ⟨g, off, none⟩) (L.length + 1) cap') from fun k e => by
        have e : g = k := Option.some.inj e
        rcases h5 with h | h
        · exact .inl (by rw [← e]; exact h)
        · have := HK4.out.size; exact .inr (by omega))
      have HOWN := Lib.hid (show (Value.slice (some ⟨g, off, none⟩) (L.length + 1) cap').ownBlock ≠ some B from fun e => by
        have e : g = B := Option.some.inj e
        rcases h5 with h | h
        · exact HE4.out.own (by rw [← e]; exact h)
        · have := HE4.out.blk.lt; omega)
      clear h2 h3 h4 h5 hbA hb4 q5 hi hz hzc hsz hby
      have q5 : w5.cell? ⟨B, 5, none⟩ = some (.slice ad L.length cap) := HBLK5.out.cellAt (i := 5) (by simp)
      have f5 : w5.frozen? ⟨B, 5, none⟩ = false := HBLK5.out.frozenAt 5
      go_wp2_with fail
      go_upto_region 11 with fail
      obtain ⟨w6, hw6⟩ : ∃ w6, w6 = w5.setCell ⟨B, 5, none⟩ (.slice (some ⟨g, off, none⟩) (L.length + 1) cap') := ⟨_, rfl⟩
      rw [← hw6]
      have HBLK6 := Lib.hid (show Blk w6 B 45 [.int .i64 m, .int .i64 (n : Int), .bool true, .int .i64 a, .int .i64 b, .slice (some ⟨g, off, none⟩) (L.length + 1) cap'] from hw6 ▸ HBLK5.out.put1 (i := 5) (by simp) (.slice (some ⟨g, off, none⟩) (L.length + 1) cap'))
      have HROW6 := Lib.hid (show Rw w6 1 (.slice (some ⟨g, off, none⟩) (L.length + 1) cap') (cI (L ++ [X])) from hw6 ▸ HROW5.out.puts HOWN.out 5 _)
      have HK6 := Lib.hid (show Kp B (.slice ad L.length cap) w w6 from hw6 ▸ HK5.out.set 5 _)
      clear hw6 q5 f5 HBLK5 HROW5 HK5
      have q5 : w6.cell? ⟨B, 5, none⟩ = some (.slice (some ⟨g, off, none⟩) (L.length + 1) cap') := HBLK6.out.cellAt (i := 5) (by simp)
      have q1 : w6.cell? ⟨B, 1, none⟩ = some (.int .i64 (n : Int)) := HBLK6.out.cellAt (i := 1) (by simp)
      have f5 : w6.frozen? ⟨B, 5, none⟩ = false := HBLK6.out.frozenAt 5
      have hkl := HE4.out.ok.ring.keep X
      have HOK := Lib.hid (show (ES.keep (ES.hear ⟨m, n, true, t, h, R, L, x⟩ a b) X).Ok from ⟨HE.out.ok.m0, HA.out.1, HA.out.2, hkl, fun v hv => keep_mem hv HE.out.ok.l0 (by rw [HXY.out.1]; exact rof_in _ _ _ _ _ HE.out.ok.m0.1)⟩)
      clear hkl
      by_cases hn : n < L.length + 1
      · have k1 : (n : Int) < ((L.length + 1 : Nat) : Int) := by omega
        have k1b : (n : Int) < (L.length : Int) + 1 := by omega
        have HKL := Lib.hid (show keepL n L X = (L ++ [X]).drop 1 from keepL_yes hn)
        have HN := Lib.hid hn
        obtain ⟨g2, off2, heq, hg, hnc, hcm, hlen, hcell, hdrop, _⟩ := Rw.front (n := L.length) HROW6.out
        obtain ⟨rfl, rfl⟩ : g = g2 ∧ off = off2 := by injection heq with heq; injection heq with e1 e2; exact ⟨e1, e2⟩
        have HDR := Lib.hid hdrop; have HNC := Lib.hid hnc
        have s1 : 1 ≤ cap' := by omega
        have s2 : (1 : Int) ≤ (cap' : Int) := by omega
        have s3 : (1 : Int) ≤ (L.length : Int) + 1 := by omega
        have s4 : ¬ cap' = 1 := by have := HE.out.ok.ring.nm; simp only at this; omega
        have HC2 := Lib.hid s4
        clear heq hg hcm hlen hcell hdrop hn
        refine wp_region_class (C := fun u => u = w6.drew) (by kernel_rfl) (by kernel_rfl) (rfl) ?_
        repeat
          with_reducible refine wpQuiet_step (fun K hK => ?_)
          first
            | (refine quiet_skip (by rfl) ?_; (with_reducible refine hK _ ?_); clear hK K)
            | (refine quiet_want (by rfl) ?_
               apply Exists.intro
               refine ⟨fun x hx => ?_, hK _ ?_⟩
               (obtain rfl := id hx; go_simp; first | done | rfl | (fail))
               clear hK K)
          try simp only [Act.put, List.setIfInBounds_toArray, List.set_cons_zero, List.set_cons_succ]
        with_reducible refine wpQuiet_nil ?_
        intro wq hq
        obtain rfl := hq
        go_wp2_with fail
        go_ret
        rw [HEE.out.1, HEE.out.2]
        have HRZ := (HDR.out (cap' - 1) (by have := HNC.out; omega) (by have := HNC.out; omega)).puts (C := B) HOWN.out 5 (.slice (some ⟨g, off + 1, none⟩) L.length (cap' - 1))
        refine ⟨rfl, .slice (some ⟨g, off + 1, none⟩) L.length (cap' - 1), ⟨(HBLK6.out.put1 (i := 5) (by simp) (.slice (some ⟨g, off + 1, none⟩) L.length (cap' - 1))).drewB, ?_, HOWN.out, HOK.out⟩, (HK6.out.set 5 _).drewK, HNX.out⟩
        show Rw _ 1 _ (cI (keepL n L X))
        rw [HKL.out, show cI ((L ++ [X]).drop 1) = (cI (L ++ [X])).drop 1 by simp [cI]]
        exact HRZ.drewR
      · have k1 : ¬ (n : Int) < ((L.length + 1 : Nat) : Int) := by omega
        have k1b : ¬ (n : Int) < (L.length : Int) + 1 := by omega
        have HKL := Lib.hid (show keepL n L X = L ++ [X] from keepL_no hn)
        refine wp_region_class (C := fun u => u = w6.drew) (by kernel_rfl) (by kernel_rfl) (rfl) ?_
        repeat
          with_reducible refine wpQuiet_step (fun K hK => ?_)
          first
            | (refine quiet_skip (by rfl) ?_; (with_reducible refine hK _ ?_); clear hK K)
            | (refine quiet_want (by rfl) ?_
               apply Exists.intro
               refine ⟨fun x hx => ?_, hK _ ?_⟩
               (obtain rfl := id hx; go_simp; first | done | rfl | (fail))
               clear hK K)
          try simp only [Act.put, List.setIfInBounds_toArray, List.set_cons_zero, List.set_cons_succ]
        with_reducible refine wpQuiet_nil ?_
        intro wq hq
        obtain rfl := hq
        go_wp2_with fail
        go_ret
        rw [HEE.out.1, HEE.out.2]
        refine ⟨rfl, _, ⟨HBLK6.out, ?_, HOWN.out, HOK.out⟩, HK6.out.drewK, HNX.out⟩
        show Rw _ 1 _ (cI (keepL n L X))
        rw [HKL.out]
        exact HROW6.out
end Go.Proofs.Ytffcadobdimdoaa
