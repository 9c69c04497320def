/- Layer 21's own: small configs, and acts that are done to a field. Conditions: each theorem says its own. -/
import Derived.Test.YthgoaijfpdnolaaKnl
import Derived.StillTailTactics
namespace Go.Proofs.Ythgoaijfpdnolaa
open Go.RowKit
def partI (n m : Int) : Int := if n < 0 then 0 else n % m
theorem part_in {n m : Int} (hm : 0 < m) : 0 ≤ partI n m ∧ partI n m < m := by
  unfold partI
  split
  · omega
  · exact ⟨Int.emod_nonneg n (by omega), Int.emod_lt_of_pos n hm⟩
theorem lw_part (n m : Int) (hm : 0 < m) (w : World) : Calls Try.prog 48 #[.int .i64 n, .int .i64 m] w fun y w' => y = .returned (.int .i64 (partI n m)) ∧ w = w' := by
  by_cases h : n < 0
  · have e : partI n m = 0 := if_pos h
    rw [e]
    clear e
    go_enter Try.func48, Try.ntmps48
    go_wp2_with fail
    go_ret
    exact ⟨rfl, rfl⟩
  · have e : partI n m = n % m := if_neg h
    rw [e]
    have hz : ¬ m = 0 := by omega
    clear e
    go_enter Try.func48, Try.ntmps48
    go_wp2_with fail
    go_ret
    exact ⟨rfl, rfl⟩
def smB (b l : Int) : Int := partI b 10 + (l + 2) * 6
def smS (s : Int) : Int := partI s 6 + 1
def smP (p : Int) : Int := partI p 5 + 1
theorem sm_rc (b s p l : Int) (hl : 0 ≤ l ∧ l ≤ 4) : Rc (smB b l) (smS s) (smP p) ∧ (smP p ≤ 5) ∧ (l + 2) * 6 ≤ smB b l := by
  have h1 := part_in (n := b) (m := 10) (by decide); have h2 := part_in (n := s) (m := 6) (by decide); have h3 := part_in (n := p) (m := 5) (by decide)
  unfold smB smS smP
  exact ⟨⟨by omega, by omega, by omega⟩, by omega, by omega⟩
set_option maxRecDepth 100000 in
set_option maxHeartbeats 4000000 in
theorem lw_small (b s p l : Int) (hl : 0 ≤ l ∧ l ≤ 4) (w : World) : Calls Try.prog 55 #[.agg #[.int .i64 b, .int .i64 s, .int .i64 p], .int .i64 l] w fun y w' => y = .returned (.agg #[.int .i64 (smB b l), .int .i64 (smS s), .int .i64 (smP p)]) ∧ Below w.heap.size w w' := by
  have H1 := Lib.hid (fun u => lw_part p 5 (by decide) u); have H2 := Lib.hid (fun u => lw_part s 6 (by decide) u); have H3 := Lib.hid (fun u => lw_part b 10 (by decide) u)
  have h1 := part_in (n := b) (m := 10) (by decide); have h2 := part_in (n := s) (m := 6) (by decide); have h3 := part_in (n := p) (m := 5) (by decide)
  unfold smB smS smP
  obtain ⟨x1, hx1⟩ : ∃ x, x = partI p 5 := ⟨_, rfl⟩
  obtain ⟨x2, hx2⟩ : ∃ x, x = partI s 6 := ⟨_, rfl⟩
  obtain ⟨x3, hx3⟩ : ∃ x, x = partI b 10 := ⟨_, rfl⟩
  rw [← hx1] at H1 h3 ⊢
  rw [← hx2] at H2 h2 ⊢
  rw [← hx3] at H3 h1 ⊢
  have HF := Lib.hid (show IntKind.i64.wrap (x1 + 1) = x1 + 1 ∧ IntKind.i64.wrap (x2 + 1) = x2 + 1 ∧ IntKind.i64.wrap (x3 + IntKind.i64.wrap (IntKind.i64.wrap (l + 2) * 6)) = x3 + (l + 2) * 6 by
    have iw : ∀ z : Int, -9223372036854775808 ≤ z ∧ z ≤ 9223372036854775807 → IntKind.i64.wrap z = z := fun z hz => by rw [IntKind.wrap_i64]; omega
    rw [iw (x1 + 1) (by omega), iw (x2 + 1) (by omega), iw (l + 2) (by omega), iw ((l + 2) * 6) (by omega), iw (x3 + (l + 2) * 6) (by omega)]
    exact ⟨rfl, rfl, rfl⟩)
  have HB0 := Lib.hid (((Below.refl _ w).alloc (Nat.le_refl _) (.cells #[.int .i64 b, .int .i64 s, .int .i64 p] 34)).alloc (by simp) (.cells #[.int .i64 0, .int .i64 0, .int .i64 0] 34))
  clear hx1 hx2 hx3 h1 h2 h3 hl
  go_enter Try.func55, Try.ntmps55
  go_upto_region 1 with fail
  obtain ⟨W0, hW0⟩ : ∃ W, W = ((w.alloc (.cells #[.int .i64 b, .int .i64 s, .int .i64 p] 34)).alloc (.cells #[.int .i64 0, .int .i64 0, .int .i64 0] 34)) := ⟨_, rfl⟩
  rw [← hW0] at HB0 ⊢
  have hA : Blk W0 w.heap.size 34 [.int .i64 b, .int .i64 s, .int .i64 p] := hW0 ▸ (Blk.new w 34 [.int .i64 b, .int .i64 s, .int .i64 p]).keep ((Below.refl _ _).alloc (Nat.le_refl _) _) (by simp)
  have hR : Blk W0 (w.heap.size + 1) 34 [.int .i64 0, .int .i64 0, .int .i64 0] := hW0 ▸ by
    have := Blk.new (w.alloc (Obj.cells #[.int .i64 b, .int .i64 s, .int .i64 p] 34)) 34 [.int .i64 0, .int .i64 0, .int .i64 0]
    rw [show (w.alloc (Obj.cells #[.int .i64 b, .int .i64 s, .int .i64 p] 34)).heap.size = w.heap.size + 1 by simp] at this
    exact this
  refine wp_region_still_tail 16 (by kernel_rfl) (by kernel_rfl) ?_
  change wpStill _ _ W0.drew (fun a' => wpList _ _ _ _ a' W0.drew) _ _
  have hA2 : Blk W0.drew w.heap.size 34 [.int .i64 b, .int .i64 s, .int .i64 p] := hA
  have hR2 : Blk W0.drew (w.heap.size + 1) 34 [.int .i64 0, .int .i64 0, .int .i64 0] := hR
  have HBD := Lib.hid (show Below w.heap.size w W0.drew from HB0.out.drew)
  obtain ⟨wd, hwd⟩ : ∃ wd, wd = W0.drew := ⟨_, rfl⟩
  rw [← hwd] at hA2 hR2 HBD ⊢
  clear hA hR hW0 hwd HB0
  have c0 : wd.cell? ⟨w.heap.size, 0, none⟩ = some (.int .i64 b) := hA2.cellAt (i := 0) (by simp)
  have c1 : wd.cell? ⟨w.heap.size, 1, none⟩ = some (.int .i64 s) := hA2.cellAt (i := 1) (by simp)
  have c2 : wd.cell? ⟨w.heap.size, 2, none⟩ = some (.int .i64 p) := hA2.cellAt (i := 2) (by simp)
  have r0 : wd.cell? ⟨w.heap.size + 1, 0, none⟩ = some (.int .i64 0) := hR2.cellAt (i := 0) (by simp)
  have r1 : wd.cell? ⟨w.heap.size + 1, 1, none⟩ = some (.int .i64 0) := hR2.cellAt (i := 1) (by simp)
  have r2 : wd.cell? ⟨w.heap.size + 1, 2, none⟩ = some (.int .i64 0) := hR2.cellAt (i := 2) (by simp)
  have g0 : wd.frozen? ⟨w.heap.size + 1, 0, none⟩ = false := hR2.frozenAt 0
  have g1 : wd.frozen? ⟨w.heap.size + 1, 1, none⟩ = false := hR2.frozenAt 1
  have g2 : wd.frozen? ⟨w.heap.size + 1, 2, none⟩ = false := hR2.frozenAt 2
  have HR := Lib.hid hR2
  have hcl := hR2.lt
  clear hA2 hR2
  simp only [List.take_succ_cons, List.take_zero, List.drop_succ_cons, List.drop_zero]
  repeat still_step
  still_call ((H1.out _).mono fun _ _ h => ⟨h.1, h.2.symm⟩)
  repeat still_step
  still_call ((H2.out _).mono fun _ _ h => ⟨h.1, h.2.symm⟩)
  repeat still_step
  still_call ((H3.out _).mono fun _ _ h => ⟨h.1, h.2.symm⟩)
  repeat still_step
  refine wpStill_nil ?_
  rw [HF.out.1, HF.out.2.1, HF.out.2.2]
  go_wp2_with fail
  obtain ⟨W, hWW⟩ : ∃ W, W = (((wd.setCell ⟨w.heap.size + 1, 0, none⟩ (.int .i64 (x3 + (l + 2) * 6))).setCell ⟨w.heap.size + 1, 1, none⟩ (.int .i64 (x2 + 1))).setCell ⟨w.heap.size + 1, 2, none⟩ (.int .i64 (x1 + 1))) := ⟨_, rfl⟩
  rw [← hWW]
  have hRS : Blk W (w.heap.size + 1) 34 [.int .i64 (x3 + (l + 2) * 6), .int .i64 (x2 + 1), .int .i64 (x1 + 1)] := by rw [hWW]; exact (HR.out).set [.int .i64 (x3 + (l + 2) * 6), .int .i64 (x2 + 1), .int .i64 (x1 + 1)] rfl
  have hb := (show Below w.heap.size w W by rw [hWW]; exact Go.below_setCells (by first | omega | simp) [.int .i64 (x3 + (l + 2) * 6), .int .i64 (x2 + 1), .int .i64 (x1 + 1)] 0 _ HBD.out)
  clear hWW
  have z0 : W.cell? ⟨w.heap.size + 1, 0, none⟩ = some (.int .i64 (x3 + (l + 2) * 6)) := hRS.cellAt (i := 0) (by simp)
  have z1 : W.cell? ⟨w.heap.size + 1, 1, none⟩ = some (.int .i64 (x2 + 1)) := hRS.cellAt (i := 1) (by simp)
  have z2 : W.cell? ⟨w.heap.size + 1, 2, none⟩ = some (.int .i64 (x1 + 1)) := hRS.cellAt (i := 2) (by simp)
  exact bodyPost_ret (v := .agg #[.int .i64 (x3 + (l + 2) * 6), .int .i64 (x2 + 1), .int .i64 (x1 + 1)]) (by simp [results, Try.results55, go_sem, z0, z1, z2]) rfl ⟨rfl, hb⟩
variable {W X : World} {A NB : Nat} {b s p : Int} {pk : Nat → Nat} {st : Fs} {ta : Option Addr} {tc : Nat} {told : List Int}
theorem FA.Sbox (h : FA W A NB b s p 5 pk st ta tc told) : FC.S A NB 5 pk st W.heap.size → False := fun hS => by have := h.c.lt hS; omega
/-- An act is done to a field of five. -/
theorem lw_do (h : FA W A NB b s p 5 pk st ta tc told) (kd k m : Int) : Calls Try.prog 56 #[.pointer (some ⟨A, 0, none⟩), .agg #[.int .i64 kd, .int .i64 k, .int .i64 m], .int .i64 5] W fun y w' => y = .returned (.tuple #[]) ∧ ∃ pk' st' ta' tc' told', FA w' A NB b s p 5 pk' st' ta' tc' told' ∧ (∀ j, FC.S A NB 5 pk' st' j → FC.S A NB 5 pk st j ∨ W.heap.size ≤ j) ∧ Fo (FC.S A NB 5 pk st) W w' := by
  have HP := Lib.hid (fun n c hc u => lw_part n c hc u)
  obtain ⟨W1, hW1⟩ : ∃ W1, W1 = W.alloc (.cells #[.int .i64 kd, .int .i64 k, .int .i64 m] 68) := ⟨_, rfl⟩
  have hb1 : Below W.heap.size W W1 := by rw [hW1]; exact (Below.refl _ W).alloc (Nat.le_refl _) _
  have hD : Blk W1 W.heap.size 68 [.int .i64 kd, .int .i64 k, .int .i64 m] := by rw [hW1]; exact Blk.new W 68 [.int .i64 kd, .int .i64 k, .int .i64 m]
  have H := Lib.hid h
  have H1 := Lib.hid (h.on hb1)
  have HD := Lib.hid hD; have HB := Lib.hid hb1
  have hSZ : W1.heap.size = W.heap.size + 1 := by rw [hW1]; simp
  have HSZ := Lib.hid hSZ
  have hk := part_in (n := k) (m := 5) (by decide)
  obtain ⟨q, hq⟩ : ∃ q : Nat, partI k 5 = (q : Int) := ⟨(partI k 5).toNat, by omega⟩
  have hq5 : q < 5 := by omega
  have HPK := Lib.hid (fun u => lw_part k 5 (by decide) u)
  rw [hq] at HPK
  obtain ⟨D, hDD⟩ : ∃ D, D = W.heap.size := ⟨_, rfl⟩
  have HDD := Lib.hid hDD
  have hW2 := hW1
  rw [← hDD] at HD
  clear hb1 hD hSZ h hk hq
  by_cases h0 : kd = 0
  · have k0 : (kd == 0) = true := by rw [h0]; rfl
    clear h0
    cases hs : st q with
    | none =>
      have HC := Lib.hid (fd_Crash_is H1.out q hq5 (by rw [hs]; rfl))
      have c0 := HD.out.cellAt (i := 0) (by simp); have c1 := HD.out.cellAt (i := 1) (by simp); have c2 := HD.out.cellAt (i := 2) (by simp)
      clear hs
      go_enter Try.func56, Try.ntmps56
      go_upto_region 1 with fail
      rw [← hW1, ← hDD]
      clear hW1 hW2 hDD
      go_wp2_with fail
      refine (HPK.out _).mono ?_
      rintro y w2 ⟨rfl, rfl⟩
      go_wp2_with fail
      refine HC.out.mono ?_
      rintro y w2 ⟨rfl, rfl⟩
      go_wp2_with fail
      go_end0
      exact ⟨rfl, pk, st, ta, tc, told, H1.out, fun j hj => .inl hj, Fo.of_below HB.out⟩
    | some d =>
      have HC := Lib.hid (fd_Crash_yes H1.out q hq5 hs)
      have c0 := HD.out.cellAt (i := 0) (by simp); have c1 := HD.out.cellAt (i := 1) (by simp); have c2 := HD.out.cellAt (i := 2) (by simp)
      clear hs
      go_enter Try.func56, Try.ntmps56
      go_upto_region 1 with fail
      rw [← hW1, ← hDD]
      clear hW1 hW2 hDD
      go_wp2_with fail
      refine (HPK.out _).mono ?_
      rintro y w2 ⟨rfl, rfl⟩
      go_wp2_with fail
      refine HC.out.mono ?_
      rintro y w2 ⟨rfl, hF, hFo⟩
      have HF := Lib.hid hF; have HFo := Lib.hid hFo
      clear hF hFo c0 c1 c2
      go_wp2_with fail
      go_end0
      exact ⟨rfl, pk, _, ta, tc, told, HF.out, fun j hj => .inl (by
        rcases hj with h | h | ⟨i, h1, h2, h3⟩
        · exact .inl h
        · exact .inr (.inl h)
        · refine .inr (.inr ⟨i, h1, fun e => h2 ?_, h3⟩)
          unfold setS
          by_cases ei : i = q
          · rw [if_pos ei]
          · rw [if_neg ei, e]), (Fo.of_below HB.out).trans (T := FC.S A NB 5 pk st) HFo.out (fun _ h => .inl h)⟩
  have k0 : (kd == 0) = false := by rw [beq_eq_false_iff_ne]; exact h0
  clear h0
  by_cases h1 : kd = 1
  · have k1 : (kd == 1) = true := by rw [h1]; rfl
    clear h1
    cases hs : st q with
    | some d =>
      have HC := Lib.hid (fd_Restart_is H1.out q hq5 (by rw [hs]; rfl))
      have c0 := HD.out.cellAt (i := 0) (by simp); have c1 := HD.out.cellAt (i := 1) (by simp); have c2 := HD.out.cellAt (i := 2) (by simp)
      clear hs
      go_enter Try.func56, Try.ntmps56
      go_upto_region 1 with fail
      rw [← hW1, ← hDD]
      clear hW1 hW2 hDD
      go_wp2_with fail
      refine (HPK.out _).mono ?_
      rintro y w2 ⟨rfl, rfl⟩
      go_wp2_with fail
      refine HC.out.mono ?_
      rintro y w2 ⟨rfl, rfl⟩
      go_wp2_with fail
      go_end0
      exact ⟨rfl, pk, st, ta, tc, told, H1.out, fun j hj => .inl hj, Fo.of_below HB.out⟩
    | none =>
      have HC := Lib.hid (fd_Restart_yes H1.out q hq5 hs)
      have c0 := HD.out.cellAt (i := 0) (by simp); have c1 := HD.out.cellAt (i := 1) (by simp); have c2 := HD.out.cellAt (i := 2) (by simp)
      have HS := Lib.hid hs
      clear hs
      go_enter Try.func56, Try.ntmps56
      go_upto_region 1 with fail
      rw [← hW1, ← hDD]
      clear hW1 hW2 hDD
      go_wp2_with fail
      refine (HPK.out _).mono ?_
      rintro y w2 ⟨rfl, rfl⟩
      go_wp2_with fail
      refine HC.out.mono ?_
      rintro y w2 ⟨rfl, B, hF, hBB, hFo⟩
      have HF := Lib.hid hF; have HFo := Lib.hid hFo; have HBB := Lib.hid hBB
      clear hF hFo hBB c0 c1 c2
      go_wp2_with fail
      go_end0
      exact ⟨rfl, _, _, ta, tc, told, HF.out, fun j hj => by
        rcases hj with h | h | ⟨i, h1, h2, h3⟩
        · exact .inl (.inl h)
        · exact .inl (.inr (.inl h))
        · have h4 : (if i = q then B else pk i) = j := h3
          by_cases ei : i = q
          · rw [if_pos ei] at h4; have := HBB.out; have := HSZ.out; exact .inr (by omega)
          · rw [if_neg ei] at h4
            unfold setS at h2
            rw [if_neg ei] at h2
            exact .inl (.inr (.inr ⟨i, h1, h2, h4⟩)), (Fo.of_below HB.out).trans (T := FC.S A NB 5 pk st) HFo.out (fun _ h => .inl h)⟩
  have k1 : (kd == 1) = false := by rw [beq_eq_false_iff_ne]; exact h1
  clear h1
  by_cases h2 : kd = 2
  · have k2 : (kd == 2) = true := by rw [h2]; rfl
    clear h2
    have HC := Lib.hid (fd_tick H1.out true)
    have c0 := HD.out.cellAt (i := 0) (by simp); have c1 := HD.out.cellAt (i := 1) (by simp); have c2 := HD.out.cellAt (i := 2) (by simp)
    go_enter Try.func56, Try.ntmps56
    go_upto_region 1 with fail
    rw [← hW1, ← hDD]
    clear hW1 hW2 hDD
    go_wp2_with fail
    refine HC.out.mono ?_
    rintro y w2 ⟨rfl, ya, yc, hF, hFo⟩
    have HF := Lib.hid hF; have HFo := Lib.hid hFo
    clear hF hFo c0 c1 c2
    go_wp2_with fail
    go_end0
    exact ⟨rfl, pk, _, ya, yc, _, HF.out, fun j hj => .inl (S_tick.1 hj), (Fo.of_below HB.out).trans (T := FC.S A NB 5 pk st) HFo.out (fun _ h => .inl h)⟩
  have k2 : (kd == 2) = false := by rw [beq_eq_false_iff_ne]; exact h2
  clear h2
  have hm := part_in (n := m) (m := 40) (by decide)
  obtain ⟨M, hM⟩ : ∃ M : Nat, partI m 40 = (M : Int) := ⟨(partI m 40).toNat, by omega⟩
  have hM40 : M < 40 := by omega
  have HPM := Lib.hid (fun u => lw_part m 40 (by decide) u)
  rw [hM] at HPM
  clear hm hM
  have c0 := HD.out.cellAt (i := 0) (by simp); have c1 := HD.out.cellAt (i := 1) (by simp); have c2 := HD.out.cellAt (i := 2) (by simp)
  go_enter Try.func56, Try.ntmps56
  go_upto_region 1 with fail
  rw [← hW1, ← hDD]
  clear hW1 hW2 hDD
  go_wp2_with fail
  go_loopw [6] (fun s5 wr => ∃ (i : Nat) (st' : Fs) (ta' : Option Addr) (tc' : Nat) (told' : List Int), s5 = .int .i64 (i : Int) ∧ i ≤ M ∧ FA wr A NB b s p 5 pk st' ta' tc' told' ∧ (∀ j, FC.S A NB 5 pk st' j → FC.S A NB 5 pk st j) ∧ Blk wr D 68 [.int .i64 kd, .int .i64 k, .int .i64 m] ∧ Fo (FC.S A NB 5 pk st) W1 wr) (fun s5 _ => M - (intOf s5).toNat)
  case atStart => exact ⟨0, st, ta, tc, told, rfl, by omega, H1.out, fun j hj => hj, HD.out, Fo.refl _ _⟩
  case round =>
    obtain ⟨i, st', ta', tc', told', rfl, hiM, hF, hS, hDk, hFo⟩ := hrel
    have HF := Lib.hid hF; have HS := Lib.hid hS; have HDk := Lib.hid hDk; have HFo := Lib.hid hFo
    clear hF hS hDk hFo c0 c1 c2
    have c2 := HDk.out.cellAt (i := 2) (by simp)
    by_cases hlt : i < M
    · have i1 : (i : Int) < (M : Int) := by omega
      have HT := Lib.hid (fd_tick HF.out false)
      go_wp2_with fail
      refine (HPM.out _).mono ?_
      rintro y w2 ⟨rfl, rfl⟩
      go_wp2_with fail
      refine HT.out.mono ?_
      rintro y w3 ⟨rfl, ya, yc, hF3, hFo3⟩
      have HF3 := Lib.hid hF3
      have HS3 := Lib.hid (show ∀ j, FC.S A NB 5 pk (tkS b s p (hearI false told') st') j → FC.S A NB 5 pk st j from fun j hj => HS.out j (S_tick.1 hj))
      have HD3 := Lib.hid (HDk.out.on (hFo3.block D HDk.out.lt (fun h => by have := H.out.c.lt (HS.out D h); have := HDD.out; omega)))
      have HFo3 := Lib.hid (HFo.out.trans (T := FC.S A NB 5 pk st') hFo3 (fun j hj => .inl (HS.out j hj)))
      clear hF3 hFo3 c2
      go_wp2_with fail
      go_roundw
      case rel => exact ⟨i + 1, _, ya, yc, _, by simp, by omega, HF3.out, HS3.out, HD3.out, HFo3.out⟩
      case measure => simp [intOf]; omega
    · obtain rfl : i = M := by omega
      go_wp2_with fail
      refine (HPM.out _).mono ?_
      rintro y w2 ⟨rfl, rfl⟩
      go_wp2_with fail
      go_end0
      exact ⟨rfl, pk, _, _, _, _, HF.out, fun j hj => .inl (HS.out j hj), (Fo.of_below HB.out).trans (T := FC.S A NB 5 pk st) HFo.out (fun _ h => .inl h)⟩
end Go.Proofs.Ythgoaijfpdnolaa
