/- Package accord: what was noted is applied. Conditions: the pair can be. -/
import Derived.Test.YtbjelggbnmfblaaAcd
namespace Go.Proofs.Ytbjelggbnmfblaa
open Go.RowKit
theorem pr_apply_nil (q : Int) (w : World) : Calls Try.prog 48 #[.pointer none, .int .i64 q] w fun y w' => y = .returned (.int .i64 7) ∧ w = w' := by
  go_enter Try.func48, Try.ntmps48
  go_wp2_with fail
  go_ret
  exact ⟨rfl, rfl⟩
theorem pr_apply_none (s : PD) (pn pa : Value) (q : Int) (B : Nat) (w : World) (h : PA w B s pn pa) (hn : s.no = none) : Calls Try.prog 48 #[.pointer (some ⟨B, 0, none⟩), .int .i64 q] w fun y w' => y = .returned (.int .i64 8) ∧ w = w' := by
  have q18 : w.cell? ⟨B, 18, none⟩ = some pn := h.blk.cellO (i := 18) rfl
  have hp := h.no
  rw [hn] at hp
  obtain rfl : pn = .pointer none := hp
  clear h hn
  go_enter Try.func48, Try.ntmps48
  go_wp2_with fail
  go_ret
  exact ⟨rfl, rfl⟩
theorem sh_in {a v r n b : Int} (ha : -9223372036854775808 ≤ a ∧ a ≤ 9223372036854775807) (hn : -9223372036854775808 ≤ n ∧ n ≤ 9223372036854775807) (hv : -1152921504606846976 ≤ v ∧ v ≤ 1152921504606846976) : (-9223372036854775808 ≤ shC a v r n b ∧ shC a v r n b ≤ 9223372036854775807) ∧ (-1152921504606846976 ≤ shV a v r n b ∧ shV a v r n b ≤ 1152921504606846976) := by
  unfold shC shV
  by_cases h : shE a v r n b = 0
  · rw [if_pos h, if_pos h]
    refine ⟨hn, ?_⟩
    unfold shE at h
    split at h
    · next h2 =>
      simp only [Bool.and_eq_true] at h2
      exact of_decide_eq_true h2.2.2
    · cases h
  · rw [if_neg h, if_neg h]
    exact ⟨ha, hv⟩
theorem go_in {a v r n q b : Int} (ha : -9223372036854775808 ≤ a ∧ a ≤ 9223372036854775807) (hn : -9223372036854775808 ≤ n ∧ n ≤ 9223372036854775807) (hv : -1152921504606846976 ≤ v ∧ v ≤ 1152921504606846976) (hr : 1044480 ≤ r ∧ r ≤ 1052672) : (-9223372036854775808 ≤ goC a v r n q b ∧ goC a v r n q b ≤ 9223372036854775807) ∧ (-1152921504606846976 ≤ goV a v r n q b ∧ goV a v r n q b ≤ 1152921504606846976) ∧ (1044480 ≤ goR a v r n q ∧ goR a v r n q ≤ 1052672) := by
  unfold goC goV goR
  by_cases h : tuE a v r n q = 0
  · rw [if_pos h, if_pos h]
    have h1 := tu_zero h
    have h2 := sh_in (r := tuR a v r n q) (b := b) (a := tuC a v r n q) (v := tuV a v r n q) (by rw [h1.1]; exact hn) hn (by rw [h1.2.1]; exact look_in a v r n)
    exact ⟨h2.1, h2.2, by rw [h1.2.2.1]; exact h1.2.2.2⟩
  · rw [if_neg h, if_neg h, (tu_not h).2.2]
    exact ⟨ha, hv, hr⟩
def PD.went (s : PD) (q x : Int) : PD := { s with no := none, c2 := goC s.c2 s.v2 s.r2 s.sc q x, v2 := goV s.c2 s.v2 s.r2 s.sc q x, r2 := goR s.c2 s.v2 s.r2 s.sc q }
set_option maxRecDepth 100000 in
set_option maxHeartbeats 4000000 in
theorem pr_apply_some (s : PD) (pn pa : Value) (q x b : Int) (hxb : -9223372036854775808 ≤ x ∧ x ≤ 9223372036854775807) (B : Nat) (w : World) (h : PA w B s pn pa) (hn : s.no = some (x, b)) : Calls Try.prog 48 #[.pointer (some ⟨B, 0, none⟩), .int .i64 q] w fun y w' => if 1048576 - s.tu ≤ q ∧ q ≤ 1048576 + s.tu then (y = .returned (.int .i64 (goE s.c2 s.v2 s.r2 s.sc q x)) ∧ (if goE s.c2 s.v2 s.r2 s.sc q x = 0 then PA w' B { s.went q x with ap := some (x, b) } (.pointer none) pn else PA w' B (s.went q x) (.pointer none) pa) ∧ Kp B (.slice none 0 0) w w') else (y = .returned (.int .i64 1) ∧ Below w.heap.size w w') := by
  have hp := h.no
  rw [hn] at hp
  obtain ⟨K, e, hK, hne⟩ := hp
  subst e
  have HH := Lib.hid h; have HK0 := Lib.hid hK; have HNE := Lib.hid hne
  have hok := h.ok
  have htu := hok.tu
  have hW := fun u => ac_within q (1048576 - s.tu) (1048576 + s.tu) (by omega) u
  obtain ⟨ra, hra⟩ : ∃ k, k = decide (1048576 - s.tu ≤ q ∧ q ≤ 1048576 + s.tu) := ⟨_, rfl⟩
  rw [← hra] at hW
  obtain ⟨lo, hlo⟩ : ∃ k, k = 1048576 - s.tu := ⟨_, rfl⟩
  obtain ⟨hi, hhi⟩ : ∃ k, k = 1048576 + s.tu := ⟨_, rfl⟩
  have hw1 : IntKind.i64.wrap (1048576 - s.tu) = lo := by rw [hlo, IntKind.wrap_i64]; omega
  have hw2 : IntKind.i64.wrap (1048576 + s.tu) = hi := by rw [hhi, IntKind.wrap_i64]; omega
  rw [← hlo, ← hhi] at hW hra ⊢
  have HW := Lib.hid hW
  have hsc : -9223372036854775808 ≤ s.sc ∧ s.sc ≤ 9223372036854775807 := by have := hok.sc; omega
  have hgo := go_in (a := s.c2) (v := s.v2) (r := s.r2) (n := s.sc) (q := q) (b := x) hok.c2 hsc hok.v2 hok.r2
  have HG := Lib.hid (show ∀ u, Blk u B 205 (PD.C { s with no := none } (.pointer none) pa) → Calls Try.prog 120 #[.pointer (some ⟨B, 9, none⟩), .int .i64 q, .int .i64 x] u fun y w' => y = .returned (.int .i64 (goE s.c2 s.v2 s.r2 s.sc q x)) ∧ Blk w' B 205 ((s.went q x).C (.pointer none) pa) ∧ Kp B (.slice none 0 0) u w' from fun u hu => by
    have hk2 : PD.Ok { s with no := none } := ⟨hok.tu, hok.be, hok.mc, hok.sc, hok.c, hok.v, hok.r, hok.t, hok.c2, hok.v2, hok.r2, hok.t2⟩
    exact sd_goOn q x hxb 205 _ 9 _ _ _ _ _ _ _ _ B u hu (hk2.so (.pointer none) pa) (hk2.sk (.pointer none) pa))
  have HOK := Lib.hid (show (s.went q x).Ok from ⟨hok.tu, hok.be, hok.mc, hok.sc, hok.c, hok.v, hok.r, hok.t, hgo.1, hgo.2.1, hgo.2.2, hok.t2⟩)
  obtain ⟨E, hE⟩ : ∃ E, E = goE s.c2 s.v2 s.r2 s.sc q x := ⟨_, rfl⟩
  rw [← hE] at HG ⊢
  have q18 : w.cell? ⟨B, 18, none⟩ = some (.pointer (some ⟨K, 0, none⟩)) := HH.out.blk.cellO (i := 18) rfl
  have q0 : w.cell? ⟨B, 0, none⟩ = some (.int .i64 s.tu) := HH.out.blk.cellO (i := 0) rfl
  have q0d : w.drew.cell? ⟨B, 0, none⟩ = some (.int .i64 s.tu) := q0
  have HRA := Lib.hid hra
  clear h hn hK hne hok htu hW hra hlo hhi hsc hgo hE hxb
  cases ra
  case false =>
    have hno : ¬ (lo ≤ q ∧ q ≤ hi) := of_decide_eq_false HRA.out.symm
    simp only [if_neg hno]
    clear hno HRA
    go_enter Try.func48, Try.ntmps48
    go_upto_region 5 with fail
    go_cut [0, 1, 16] (fun s0 s1 s16 wx => s0 = .pointer (some ⟨B, 0, none⟩) ∧ s1 = .int .i64 q ∧ s16 = .bool true ∧ wx = w.drew)
    case first =>
      go_region_with (go_at_call 107; refine (HW.out _).mono ?_; rintro y w2 ⟨rfl, rfl⟩)
      all_goals (go_wp2_with fail; go_meet; exact ⟨rfl, rfl, rfl, rfl⟩)
    case rest =>
    obtain ⟨w1, hw1⟩ : ∃ w1, w1 = wc := ⟨_, rfl⟩
    rw [← hw1] at hcut ⊢
    obtain ⟨rfl, rfl, rfl, hwd⟩ := hcut
    have HB1 := Lib.hid (show Below w.heap.size w w1 by rw [hwd]; exact (Below.refl _ _).drew)
    clear hwd hw1 q0 q0d q18
    go_wp2_with fail
    go_ret
    exact ⟨rfl, HB1.out⟩
  case true =>
    have hyes : lo ≤ q ∧ q ≤ hi := of_decide_eq_true HRA.out.symm
    simp only [if_pos hyes]
    clear hyes HRA
    go_enter Try.func48, Try.ntmps48
    go_upto_region 5 with fail
    go_cut [0, 1, 16] (fun s0 s1 s16 wx => s0 = .pointer (some ⟨B, 0, none⟩) ∧ s1 = .int .i64 q ∧ s16 = .bool false ∧ wx = w.drew)
    case first =>
      go_region_with (go_at_call 107; refine (HW.out _).mono ?_; rintro y w2 ⟨rfl, rfl⟩)
      all_goals (go_wp2_with fail; go_meet; exact ⟨rfl, rfl, rfl, rfl⟩)
    case rest =>
    obtain ⟨w1, hw1⟩ : ∃ w1, w1 = wc := ⟨_, rfl⟩
    rw [← hw1] at hcut ⊢
    obtain ⟨rfl, rfl, rfl, hwd⟩ := hcut
    have HB1 := Lib.hid (show Below w.heap.size w w1 by rw [hwd]; exact (Below.refl _ _).drew)
    clear hwd hw1 q0 q0d q18
    have H1 := Lib.hid (HH.out.on HB1.out)
    have HN1 := Lib.hid (HK0.out.keep HB1.out HK0.out.lt)
    have q18 : w1.cell? ⟨B, 18, none⟩ = some (.pointer (some ⟨K, 0, none⟩)) := H1.out.blk.cellO (i := 18) rfl
    have p18 : w1.frozen? ⟨B, 18, none⟩ = false := H1.out.blk.frozenAt 18
    go_upto_region 9 with fail
    obtain ⟨w2, hw2⟩ : ∃ w2, w2 = w1.setCell ⟨B, 18, none⟩ (.pointer none) := ⟨_, rfl⟩
    rw [← hw2]
    have hk2 : Kp B (.slice none 0 0) w1 w2 := by rw [hw2]; exact (Kp.refl _ _ _).set 18 _
    have H2 := Lib.hid (show Blk w2 B 205 (PD.C { s with no := none } (.pointer none) pa) by rw [hw2]; exact H1.out.blk.put1 (i := 18) (by simp [PD.C]) _)
    have HN2 := Lib.hid (HN1.out.on (hk2.block K HN1.out.lt HNE.out (fun e => by cases e)))
    have A2 := Lib.hid (H1.out.ap.on hk2)
    have HK2 := Lib.hid ((Kp.of_below (B := B) (v := .slice none 0 0) HB1.out).trans hk2 (Nx.refl _ _))
    have n0 : w2.cell? ⟨K, 0, none⟩ = some (.int .i64 x) := HN2.out.cellAt (i := 0) (by simp)
    have n0d : w2.drew.cell? ⟨K, 0, none⟩ = some (.int .i64 x) := n0
    clear hw2 hk2 q18 p18
    go_cut [0, 5, 6] (fun s0 s5 s6 wx => s0 = .pointer (some ⟨B, 0, none⟩) ∧ s5 = .pointer (some ⟨K, 0, none⟩) ∧ s6 = .int .i64 E ∧ Blk wx B 205 ((s.went q x).C (.pointer none) pa) ∧ Kp B (.slice none 0 0) w2 wx)
    case first =>
      go_region_with (go_at_call 120; refine (HG.out _ (by first | exact H2.out | exact H2.out.keep (Below.refl _ _).drew H2.out.lt)).mono ?_; rintro y w3 ⟨rfl, h3, h3k⟩)
      all_goals (go_wp2_with fail; go_meet; exact ⟨rfl, rfl, rfl, h3, (Kp.of_below (Below.refl _ _).drew).trans h3k (Nx.refl _ _)⟩)
    case rest =>
    obtain ⟨w4, hw4⟩ : ∃ w4, w4 = wc := ⟨_, rfl⟩
    rw [← hw4] at hcut ⊢
    obtain ⟨rfl, rfl, rfl, h4, hk4⟩ := hcut
    have H4 := Lib.hid h4; have HK4 := Lib.hid (HK2.out.trans hk4 (Nx.refl _ _)); have A4 := Lib.hid (A2.out.on hk4)
    have HN4 := Lib.hid (HN2.out.on (hk4.block K HN2.out.lt HNE.out (fun e => by cases e)))
    clear h4 hk4 hw4 n0 n0d
    by_cases h0 : E = 0
    · obtain rfl := h0
      have q19 : w4.cell? ⟨B, 19, none⟩ = some pa := H4.out.cellO (i := 19) rfl
      have p19 : w4.frozen? ⟨B, 19, none⟩ = false := H4.out.frozenAt 19
      go_wp2_with fail
      go_ret
      have hk5 : Kp B (.slice none 0 0) w4 (w4.setCell ⟨B, 19, none⟩ (.pointer (some ⟨K, 0, none⟩))) := (Kp.refl _ _ _).set 19 _
      have hpa : PA (w4.setCell ⟨B, 19, none⟩ (.pointer (some ⟨K, 0, none⟩))) B { s.went q x with ap := some (x, b) } (.pointer none) (.pointer (some ⟨K, 0, none⟩)) := ⟨H4.out.put1 (i := 19) (by simp [PD.C]) _, rfl, ⟨K, rfl, HN4.out.on (hk5.block K HN4.out.lt HNE.out (fun e => by cases e)), HNE.out⟩, HOK.out.tu, HOK.out.be, HOK.out.mc, HOK.out.sc, HOK.out.c, HOK.out.v, HOK.out.r, HOK.out.t, HOK.out.c2, HOK.out.v2, HOK.out.r2, HOK.out.t2⟩
      exact ⟨rfl, hpa, HK4.out.trans hk5 (Nx.refl _ _)⟩
    · have k0 : (E != 0) = true := by simp [h0]
      have H0 := Lib.hid h0
      clear h0
      go_wp2_with fail
      go_ret
      have hpa : PA w4 B (s.went q x) (.pointer none) pa := ⟨H4.out, rfl, A4.out, HOK.out⟩
      exact ⟨rfl, by first | exact hpa | (rw [if_neg H0.out]; exact hpa), HK4.out⟩
end Go.Proofs.Ytbjelggbnmfblaa
