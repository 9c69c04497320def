/- Package accord: a side, an oscillator and the clock that goes by it. Conditions: the block's cells are the side's. -/
import Derived.Test.YtbjelggbnmfblaaCko
import Derived.Test.YtbjelggbnmfblaaQui
import Derived.Deep.DeepCutAuto
namespace Go.Proofs.Ytbjelggbnmfblaa
open Go.RowKit
theorem ac_within (n lo hi : Int) (_h : lo ≤ hi) (w : World) : Calls Try.prog 107 #[.int .i64 n, .int .i64 lo, .int .i64 hi] w fun y w' => y = .returned (.bool (decide (lo ≤ n ∧ n ≤ hi))) ∧ w = w' := by
  have HC := Lib.hid (fun u => clamp_ex n lo hi u)
  obtain ⟨x, hx⟩ : ∃ x, x = clampV n lo hi := ⟨_, rfl⟩
  rw [← hx] at HC
  have e : (x == n) = decide (lo ≤ n ∧ n ≤ hi) := by
    rw [hx, Bool.eq_iff_iff, beq_iff_eq, decide_eq_true_iff]
    unfold clampV
    split
    · omega
    · split <;> omega
  rw [← e]
  clear hx e
  go_enter Try.func107, Try.ntmps107
  go_wp2_with fail
  refine (HC.out _).mono ?_
  rintro y w1 ⟨rfl, rfl⟩
  go_wp2_with fail
  go_ret
  exact ⟨rfl, rfl⟩
/-- Can a config be? -/
def rightC (n d tu : Int) : Bool := rightO n d && decide (0 ≤ tu ∧ tu ≤ 4096)
theorem ac_right (n d tu : Int) (hn : -9223372036854775808 ≤ n ∧ n ≤ 9223372036854775807) (w : World) : Calls Try.prog 106 #[.agg #[.int .i64 n, .int .i64 d, .int .i64 tu]] w fun y w' => y = .returned (.bool (rightC n d tu)) ∧ Below w.heap.size w w' := by
  have HR := Lib.hid (fun u => oright_any n d hn u)
  have HW := Lib.hid (fun u => ac_within tu 0 4096 (by decide) u)
  unfold rightC
  obtain ⟨k, hk⟩ : ∃ k, k = rightO n d := ⟨_, rfl⟩
  obtain ⟨m, hm⟩ : ∃ m, m = decide (0 ≤ tu ∧ tu ≤ 4096) := ⟨_, rfl⟩
  rw [← hk] at HR
  rw [← hm] at HW
  rw [← hk, ← hm]
  clear hk hm hn
  cases k
  · go_enter Try.func106, Try.ntmps106
    go_wp2_with fail
    refine (HR.out _).mono ?_
    rintro y w1 ⟨rfl, hb⟩
    have HB := Lib.hid (below_transG ((Below.refl _ w).alloc (Nat.le_refl _) _) hb)
    clear hb
    go_wp2_with fail
    go_ret
    exact ⟨rfl, HB.out⟩
  · go_enter Try.func106, Try.ntmps106
    go_wp2_with fail
    refine (HR.out _).mono ?_
    rintro y w1 ⟨rfl, hb⟩
    have HB := Lib.hid (below_transG ((Below.refl _ w).alloc (Nat.le_refl _) _) hb)
    have hS := (Blk.new w 92 [.int .i64 n, .int .i64 d, .int .i64 tu]).keep hb (by simp)
    have q2 : w1.cell? ⟨w.heap.size, 2, none⟩ = some (.int .i64 tu) := hS.cellAt (i := 2) (by simp)
    clear hb hS
    go_wp2_with fail
    refine (HW.out _).mono ?_
    rintro y w2 ⟨rfl, rfl⟩
    go_wp2_with fail
    go_ret
    exact ⟨by simp, HB.out⟩
theorem sd_has (T : TypeId) (l : List Value) (o : Nat) (n d c : Int) (u : Bool) (a v r t : Int) (B : Nat) (w : World) (hB : Blk w B T l) (hO : OL l o n d c u) (hC : CL l (o + 4) a v r t) : Calls Try.prog 118 #[.pointer (some ⟨B, o, none⟩)] w fun y w' => y = .returned (.tuple #[.int .i64 (lookX a v r c), .bool (lookB a v r c)]) ∧ Below w.heap.size w w' := by
  have HCN := Lib.hid (fun x hx => ol_count T l o n d c u B x hx hO)
  have HLK := Lib.hid (fun x hx => cl_look c (by have := hO.c0; have := hO.c1; omega) T l (o + 4) a v r t B x hx hC)
  have HBK := Lib.hid (show ∀ x, Below w.heap.size w x → Blk x B T l from fun x hx => hB.keep hx hB.lt)
  obtain ⟨X, hX⟩ : ∃ X, X = lookX a v r c := ⟨_, rfl⟩
  obtain ⟨Y, hY⟩ : ∃ Y, Y = lookB a v r c := ⟨_, rfl⟩
  rw [← hX, ← hY] at HLK ⊢
  clear hX hY hB hO hC
  go_enter Try.func118, Try.ntmps118
  go_upto_region 1 with fail
  refine wp_region_class (C := fun x => Below w.heap.size w x) (by kernel_rfl) (by kernel_rfl) ((Below.refl _ _).drew) ?_
  repeat
    with_reducible refine wpQuiet_step (fun K hK => ?_)
    first
      | (refine quiet_skip (by rfl) ?_; (with_reducible refine hK _ ?_); clear hK K)
      | (refine quiet_want (by rfl) ?_
         apply Exists.intro
         refine ⟨fun x hx => ?_, hK _ ?_⟩
         (obtain _ := id hx; go_simp; first | done | rfl | (first | (go_at_call 160; exact (HCN.out _ (HBK.out _ hx)).mono fun y w' ⟨h1, h2⟩ => ⟨h1, h2 ▸ hx⟩) | (go_at_call 167; exact (HLK.out _ (HBK.out _ hx)).mono fun y w' ⟨h1, h2⟩ => ⟨h1, below_transG hx h2⟩)))
         clear hK K)
    try simp only [Act.put, List.setIfInBounds_toArray, List.set_cons_zero, List.set_cons_succ]
  with_reducible refine wpQuiet_nil ?_
  intro wq hq
  go_wp2_with fail
  go_ret2
  exact ⟨rfl, hq⟩
set_option maxHeartbeats 1000000 in
theorem sd_tell (T : TypeId) (l : List Value) (o : Nat) (n d c : Int) (u : Bool) (a v r t : Int) (B : Nat) (w : World) (hB : Blk w B T l) (hO : OL l o n d c u) (hC : CL l (o + 4) a v r t) : Calls Try.prog 110 #[.pointer (some ⟨B, o, none⟩)] w fun y w' => y = .returned (.bool (lookB a v r c && decide (readT a v r t c = lookX a v r c))) ∧ Blk w' B T (l.set (o + 4 + 3) (.int .i64 (readT a v r t c))) ∧ Kp B (.slice none 0 0) w w' := by
  have HHS := Lib.hid (sd_has T l o n d c u a v r t B w hB hO hC)
  have HCN := Lib.hid (fun x hx => ol_count T l o n d c u B x hx hO)
  have HRD := Lib.hid (fun x hx => cl_read c (by have := hO.c0; have := hO.c1; omega) T l (o + 4) a v r t B x hx hC)
  obtain ⟨X, hX⟩ : ∃ X, X = lookX a v r c := ⟨_, rfl⟩
  obtain ⟨Y, hY⟩ : ∃ Y, Y = lookB a v r c := ⟨_, rfl⟩
  obtain ⟨Z, hZ⟩ : ∃ Z, Z = readT a v r t c := ⟨_, rfl⟩
  rw [← hX, ← hY] at HHS
  rw [← hY, ← hZ] at HRD
  rw [← hX, ← hY, ← hZ]
  have HB0 := Lib.hid hB
  clear hX hY hZ hB hO hC
  go_enter Try.func110, Try.ntmps110
  go_wp2_with fail
  refine HHS.out.mono ?_
  rintro y w1 ⟨rfl, hb⟩
  have HB1 := Lib.hid (HB0.out.keep hb HB0.out.lt); have HK1 := Lib.hid (Kp.of_below (B := B) (v := .slice none 0 0) hb)
  clear hb
  go_upto_region 2 with fail
  go_cut [3, 5, 6] (fun s3 s5 s6 wx => s3 = .int .i64 X ∧ s5 = .int .i64 Z ∧ s6 = .bool Y ∧ Blk wx B T (l.set (o + 4 + 3) (.int .i64 Z)) ∧ Kp B (.slice none 0 0) w wx)
  case first =>
    go_region_with (first | (go_at_call 160; refine (HCN.out _ (by first | exact HB1.out | exact HB1.out.keep (Below.refl _ _).drew HB1.out.lt)).mono ?_; rintro y w2 ⟨rfl, rfl⟩) | (go_at_call 159; refine (HRD.out _ (by first | exact HB1.out | exact HB1.out.keep (Below.refl _ _).drew HB1.out.lt)).mono ?_; rintro y w3 ⟨rfl, h3, h3k⟩))
    all_goals (go_wp2_with fail; go_meet; exact ⟨rfl, rfl, rfl, h3, (HK1.out.step (Below.refl _ _).drew).trans h3k (Nx.refl _ _)⟩)
  case rest =>
  obtain ⟨w4, hw4⟩ : ∃ w4, w4 = wc := ⟨_, rfl⟩
  rw [← hw4] at hcut ⊢
  obtain ⟨rfl, rfl, rfl, h4, h5⟩ := hcut
  have H4 := Lib.hid h4; have H5 := Lib.hid h5
  clear h4 h5 hw4
  cases Y
  · go_wp2_with fail
    go_ret
    exact ⟨rfl, H4.out, H5.out⟩
  · go_wp2_with fail
    go_ret
    exact ⟨by rw [Bool.true_and]; rfl, H4.out, H5.out⟩
def goL (l : List Value) (o : Nat) (c v r : Int) : List Value := ((l.set o (.int .i64 c)).set (o + 1) (.int .i64 v)).set (o + 2) (.int .i64 r)
theorem set3_set3 {α : Type} (l : List α) (o : Nat) (c v r c2 v2 r2 : α) : (((((l.set o c).set (o + 1) v).set (o + 2) r).set o c2).set (o + 1) v2).set (o + 2) r2 = ((l.set o c2).set (o + 1) v2).set (o + 2) r2 := by
  have h1 : ((((l.set o c).set (o + 1) v).set (o + 2) r).set o c2) = ((l.set o c2).set (o + 1) v).set (o + 2) r := by
    rw [List.set_comm r c2 (show o + 2 ≠ o by omega), List.set_comm v c2 (show o + 1 ≠ o by omega), List.set_set]
  rw [h1, List.set_comm r v2 (show o + 2 ≠ o + 1 by omega), List.set_set, List.set_set]
theorem goL_goL (l : List Value) (o : Nat) (c v r c2 v2 r2 : Int) : goL (goL l o c v r) o c2 v2 r2 = goL l o c2 v2 r2 := by
  exact set3_set3 l o _ _ _ _ _ _
def goE (a v r n q b : Int) : Int := if tuE a v r n q = 0 then shE (tuC a v r n q) (tuV a v r n q) (tuR a v r n q) n b else tuE a v r n q
def goC (a v r n q b : Int) : Int := if tuE a v r n q = 0 then shC (tuC a v r n q) (tuV a v r n q) (tuR a v r n q) n b else a
def goV (a v r n q b : Int) : Int := if tuE a v r n q = 0 then shV (tuC a v r n q) (tuV a v r n q) (tuR a v r n q) n b else v
def goR (a v r n q : Int) : Int := tuR a v r n q
theorem tu_zero {a v r n q : Int} (h : tuE a v r n q = 0) : tuC a v r n q = n ∧ tuV a v r n q = lookX a v r n ∧ tuR a v r n q = q ∧ 1044480 ≤ q ∧ q ≤ 1052672 := by
  refine ⟨by unfold tuC; rw [if_pos h], by unfold tuV; rw [if_pos h], by unfold tuR; rw [if_pos h], ?_⟩
  unfold tuE at h
  split at h
  · cases h
  · omega
theorem tu_not {a v r n q : Int} (h : ¬ tuE a v r n q = 0) : tuC a v r n q = a ∧ tuV a v r n q = v ∧ tuR a v r n q = r :=
  ⟨by unfold tuC; rw [if_neg h], by unfold tuV; rw [if_neg h], by unfold tuR; rw [if_neg h]⟩
set_option maxHeartbeats 2000000 in
theorem sd_goOn (q b : Int) (hb : -9223372036854775808 ≤ b ∧ b ≤ 9223372036854775807) (T : TypeId) (l : List Value) (o : Nat) (n d c : Int) (u : Bool) (a v r t : Int) (B : Nat) (w : World) (hB : Blk w B T l) (hO : OL l o n d c u) (hC : CL l (o + 4) a v r t) : Calls Try.prog 120 #[.pointer (some ⟨B, o, none⟩), .int .i64 q, .int .i64 b] w fun y w' => y = .returned (.int .i64 (goE a v r c q b)) ∧ Blk w' B T (goL l (o + 4) (goC a v r c q b) (goV a v r c q b) (goR a v r c q)) ∧ Kp B (.slice none 0 0) w w' := by
  have hc : -9223372036854775808 ≤ c ∧ c ≤ 9223372036854775807 := by have := hO.c0; have := hO.c1; omega
  have HCN := Lib.hid (fun x hx => ol_count T l o n d c u B x hx hO)
  have HTU := Lib.hid (fun x hx => cl_tune c q hc T l (o + 4) a v r t B x hx hC)
  have HB0 := Lib.hid hB
  obtain ⟨E, hE⟩ : ∃ E, E = tuE a v r c q := ⟨_, rfl⟩
  have HEE := Lib.hid hE
  rw [← hE] at HTU
  by_cases h0 : E = 0
  · have h1 := tu_zero (hE.symm.trans h0)
    have HCL := hC.goes (c2 := tuC a v r c q) (v2 := tuV a v r c q) (r2 := tuR a v r c q) (by rw [h1.1]; exact hc) (by rw [h1.2.1]; exact look_in a v r c) (by rw [h1.2.2.1]; exact h1.2.2.2)
    have HOL := (show OL (goL l (o + 4) (tuC a v r c q) (tuV a v r c q) (tuR a v r c q)) o n d c u from by
      unfold goL
      exact ⟨set_other (set_other (set_other hO.g0 (by omega)) (by omega)) (by omega), set_other (set_other (set_other hO.g1 (by omega)) (by omega)) (by omega), set_other (set_other (set_other hO.g2 (by omega)) (by omega)) (by omega), set_other (set_other (set_other hO.g3 (by omega)) (by omega)) (by omega), hO.n1, hO.n2, hO.d0, hO.dn, hO.c0, hO.c1⟩)
    have HC2 := Lib.hid (fun x hx => ol_count T _ o n d c u B x hx HOL)
    have HSH := Lib.hid (fun x hx => cl_shift c b hc hb T _ (o + 4) (tuC a v r c q) (tuV a v r c q) (tuR a v r c q) t B x hx HCL)
    have hz := hE.symm.trans h0
    have e1 : goE a v r c q b = shE (tuC a v r c q) (tuV a v r c q) (tuR a v r c q) c b := by unfold goE; rw [if_pos hz]
    have e2 : goC a v r c q b = shC (tuC a v r c q) (tuV a v r c q) (tuR a v r c q) c b := by unfold goC; rw [if_pos hz]
    have e3 : goV a v r c q b = shV (tuC a v r c q) (tuV a v r c q) (tuR a v r c q) c b := by unfold goV; rw [if_pos hz]
    have e4 : goR a v r c q = tuR a v r c q := rfl
    rw [e1, e2, e3, e4]
    obtain ⟨x1, hx1⟩ : ∃ x, x = tuC a v r c q := ⟨_, rfl⟩
    obtain ⟨x2, hx2⟩ : ∃ x, x = tuV a v r c q := ⟨_, rfl⟩
    obtain ⟨x3, hx3⟩ : ∃ x, x = tuR a v r c q := ⟨_, rfl⟩
    rw [← hx1, ← hx2, ← hx3] at HTU HC2 HSH ⊢
    obtain ⟨E2, hE2⟩ : ∃ x, x = shE x1 x2 x3 c b := ⟨_, rfl⟩
    obtain ⟨z1, hz1⟩ : ∃ x, x = shC x1 x2 x3 c b := ⟨_, rfl⟩
    obtain ⟨z2, hz2⟩ : ∃ x, x = shV x1 x2 x3 c b := ⟨_, rfl⟩
    rw [← hE2, ← hz1, ← hz2] at HSH
    rw [← hE2, ← hz1, ← hz2]
    rw [← goL_goL l (o + 4) x1 x2 x3]
    obtain rfl := h0
    clear hB hO hC hc hb hE hx1 hx2 hx3 hE2 hz1 hz2 hz e1 e2 e3 e4 HCL HOL h1 HEE
    go_enter Try.func120, Try.ntmps120
    go_upto_region 1 with fail
    go_cut [0, 1, 2, 7] (fun s0 s1 s2 s7 wx => s0 = .pointer (some ⟨B, o, none⟩) ∧ s1 = .int .i64 q ∧ s2 = .int .i64 b ∧ s7 = .int .i64 0 ∧ Blk wx B T (goL l (o + 4) x1 x2 x3) ∧ Kp B (.slice none 0 0) w wx)
    case first =>
      go_region_with (first | (go_at_call 160; refine (HCN.out _ (by first | exact HB0.out | exact HB0.out.keep (Below.refl _ _).drew HB0.out.lt)).mono ?_; rintro y w2 ⟨rfl, rfl⟩) | (go_at_call 170; refine (HTU.out _ (by first | exact HB0.out | exact HB0.out.keep (Below.refl _ _).drew HB0.out.lt)).mono ?_; rintro y w3 ⟨rfl, h3, h3k⟩))
      all_goals (go_wp2_with fail; go_meet; exact ⟨rfl, rfl, rfl, rfl, h3, (Kp.of_below (Below.refl _ _).drew).trans h3k (Nx.refl _ _)⟩)
    case rest =>
    obtain ⟨w4, hw4⟩ : ∃ w4, w4 = wc := ⟨_, rfl⟩
    rw [← hw4] at hcut ⊢
    obtain ⟨rfl, rfl, rfl, rfl, h4, h5⟩ := hcut
    have H4 := Lib.hid h4; have H5 := Lib.hid h5
    clear h4 h5 hw4
    go_wp2_with fail
    go_upto_region 4 with fail
    go_cut [6] (fun s6 wx => s6 = .int .i64 E2 ∧ Blk wx B T (goL (goL l (o + 4) x1 x2 x3) (o + 4) z1 z2 x3) ∧ Kp B (.slice none 0 0) w wx)
    case first =>
      go_region_with (first | (go_at_call 160; refine (HC2.out _ (by first | exact H4.out | exact H4.out.keep (Below.refl _ _).drew H4.out.lt)).mono ?_; rintro y w2 ⟨rfl, rfl⟩) | (go_at_call 109; refine (HSH.out _ (by first | exact H4.out | exact H4.out.keep (Below.refl _ _).drew H4.out.lt)).mono ?_; rintro y w3 ⟨rfl, h3, h3k⟩))
      all_goals (go_wp2_with fail; go_meet; exact ⟨rfl, h3, (H5.out.step (Below.refl _ _).drew).trans h3k (Nx.refl _ _)⟩)
    case rest =>
    obtain ⟨w5, hw5⟩ : ∃ w5, w5 = wc := ⟨_, rfl⟩
    rw [← hw5] at hcut ⊢
    obtain ⟨rfl, h6, h7⟩ := hcut
    have H6 := Lib.hid h6; have H7 := Lib.hid h7
    clear h6 h7 hw5
    go_wp2_with fail
    go_ret
    exact ⟨rfl, H6.out, H7.out⟩
  · have h1 := tu_not (fun e => h0 (hE.trans e))
    have hz : ¬ tuE a v r c q = 0 := fun e => h0 (hE.trans e)
    have e1 : goE a v r c q b = E := by unfold goE; rw [if_neg hz, hE]
    have e2 : goC a v r c q b = tuC a v r c q := by unfold goC; rw [if_neg hz, h1.1]
    have e3 : goV a v r c q b = tuV a v r c q := by unfold goV; rw [if_neg hz, h1.2.1]
    have e4 : goR a v r c q = tuR a v r c q := rfl
    rw [e1, e2, e3, e4]
    obtain ⟨x1, hx1⟩ : ∃ x, x = tuC a v r c q := ⟨_, rfl⟩
    obtain ⟨x2, hx2⟩ : ∃ x, x = tuV a v r c q := ⟨_, rfl⟩
    obtain ⟨x3, hx3⟩ : ∃ x, x = tuR a v r c q := ⟨_, rfl⟩
    rw [← hx1, ← hx2, ← hx3] at HTU ⊢
    have k0 : (E != 0) = true := by simp [h0]
    clear hB hO hC hc hb hE hx1 hx2 hx3 hz e1 e2 e3 e4 h1 HEE h0
    go_enter Try.func120, Try.ntmps120
    go_upto_region 1 with fail
    go_cut [7] (fun s7 wx => s7 = .int .i64 E ∧ Blk wx B T (goL l (o + 4) x1 x2 x3) ∧ Kp B (.slice none 0 0) w wx)
    case first =>
      go_region_with (first | (go_at_call 160; refine (HCN.out _ (by first | exact HB0.out | exact HB0.out.keep (Below.refl _ _).drew HB0.out.lt)).mono ?_; rintro y w2 ⟨rfl, rfl⟩) | (go_at_call 170; refine (HTU.out _ (by first | exact HB0.out | exact HB0.out.keep (Below.refl _ _).drew HB0.out.lt)).mono ?_; rintro y w3 ⟨rfl, h3, h3k⟩))
      all_goals (go_wp2_with fail; go_meet; exact ⟨rfl, h3, (Kp.of_below (Below.refl _ _).drew).trans h3k (Nx.refl _ _)⟩)
    case rest =>
    obtain ⟨w4, hw4⟩ : ∃ w4, w4 = wc := ⟨_, rfl⟩
    rw [← hw4] at hcut ⊢
    obtain ⟨rfl, h4, h5⟩ := hcut
    have H4 := Lib.hid h4; have H5 := Lib.hid h5
    clear h4 h5 hw4
    go_wp2_with fail
    go_ret
    exact ⟨rfl, H4.out, H5.out⟩
end Go.Proofs.Ytbjelggbnmfblaa
