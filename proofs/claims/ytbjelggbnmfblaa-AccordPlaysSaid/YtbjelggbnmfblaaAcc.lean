/- Package accord: a bit goes by. Conditions: the pair can be, and the ticks are numbers of 64 bits. -/
import Derived.Test.YtbjelggbnmfblaaAcb
namespace Go.Proofs.Ytbjelggbnmfblaa
open Go.RowKit
theorem step_zero {c t : Int} (h : stepE c t = 0) (_hc : 0 ≤ c) : stepC c t = c + t ∧ (0 ≤ t ∧ t ≤ 1048576) ∧ c + t ≤ 1152921504606846976 := by
  refine ⟨by unfold stepC; rw [if_pos h], ?_⟩
  unfold stepE at h
  split at h
  · cases h
  · split at h
    · cases h
    · omega
theorem stepU_zero {n d c t : Int} {u : Bool} (h : stepE c t = 0) : stepU n d c u t = (u || wildB n d t) := by unfold stepU; rw [if_pos h]
theorem step_err {n d c t : Int} {u : Bool} (h : ¬ stepE c t = 0) : stepC c t = c ∧ stepU n d c u t = u := ⟨by unfold stepC; rw [if_neg h], by unfold stepU; rw [if_neg h]⟩
def PD.stepped (s : PD) (m t : Int) : PD :=
  { s with mc := s.mc + m, mu := s.mu || wildB s.n s.d m, sc := s.sc + t, su := s.su || wildB s.n s.d t, bi := s.bi + 1, t := readT s.c s.v s.r s.t (s.mc + m), t2 := readT s.c2 s.v2 s.r2 s.t2 (s.sc + t), se := s.se || (s.ap.isSome && (lookB s.c2 s.v2 s.r2 (s.sc + t) && decide (readT s.c2 s.v2 s.r2 s.t2 (s.sc + t) = lookX s.c2 s.v2 s.r2 (s.sc + t)))) }
theorem read_in {c v r t n : Int} (h : 0 ≤ t ∧ t ≤ 1152921504606846976) : 0 ≤ readT c v r t n ∧ readT c v r t n ≤ 1152921504606846976 := by
  have := look_in c v r n
  unfold readT; split <;> omega
theorem pr_step_nil (m t : Int) (w : World) : Calls Try.prog 50 #[.pointer none, .int .i64 m, .int .i64 t] w fun y w' => y = .returned (.int .i64 7) ∧ w = w' := by
  go_enter Try.func50, Try.ntmps50
  go_wp2_with fail
  go_ret
  exact ⟨rfl, rfl⟩
set_option maxHeartbeats 2000000 in
theorem pr_step_m (s : PD) (pn pa : Value) (m x : Int) (hm : -9223372036854775808 ≤ m ∧ m ≤ 9223372036854775807) (B : Nat) (w : World) (h : PA w B s pn pa) (he : ¬ stepE s.mc m = 0) : Calls Try.prog 50 #[.pointer (some ⟨B, 0, none⟩), .int .i64 m, .int .i64 x] w fun y w' => y = .returned (.int .i64 (stepE s.mc m)) ∧ PA w' B s pn pa ∧ Kp B (.slice none 0 0) w w' := by
  have HS := Lib.hid (show ∀ u, Blk u B 205 (s.C pn pa) → Calls Try.prog 122 #[.pointer (some ⟨B, 1, none⟩), .int .i64 m] u fun y w' => y = .returned (.int .i64 (stepE s.mc m)) ∧ Blk w' B 205 (s.C pn pa) ∧ Kp B (.slice none 0 0) u w' from fun u hu => by
    have h2 := ol_step m hm 205 (s.C pn pa) 1 _ _ _ _ B u hu (h.ok.mo pn pa)
    rw [(step_err (n := s.n) (d := s.d) (u := s.mu) he).1, (step_err (n := s.n) (d := s.d) (u := s.mu) he).2] at h2
    exact h2)
  have HH := Lib.hid h
  obtain ⟨e, hee⟩ : ∃ e, e = stepE s.mc m := ⟨_, rfl⟩
  rw [← hee] at HS he ⊢
  have k0 : (e != 0) = true := by simp [he]
  clear h hm he hee
  obtain ⟨tu, n, d, mc, mu, c, v, r, t, sc, su, c2, v2, r2, t2, bi, no, ap, se⟩ := s
  have q1 : w.cell? ⟨B, 1, none⟩ = some (.int .i64 n) := HH.out.blk.cellO (i := 1) rfl
  have q2 : w.cell? ⟨B, 2, none⟩ = some (.int .i64 d) := HH.out.blk.cellO (i := 2) rfl
  have q3 : w.cell? ⟨B, 3, none⟩ = some (.int .i64 mc) := HH.out.blk.cellO (i := 3) rfl
  have q4 : w.cell? ⟨B, 4, none⟩ = some (.bool mu) := HH.out.blk.cellO (i := 4) rfl
  go_enter Try.func50, Try.ntmps50
  go_upto_region 4 with fail
  obtain ⟨w1, hw1⟩ : ∃ w1, w1 = w.alloc (.cells #[.int .i64 n, .int .i64 d, .int .i64 mc, .bool mu] 195) := ⟨_, rfl⟩
  rw [← hw1]
  have HB1 := Lib.hid (show Below w.heap.size w w1 by rw [hw1]; exact (Below.refl _ w).alloc (Nat.le_refl _) _)
  have H1 := Lib.hid (HH.out.on HB1.out)
  clear hw1 q1 q2 q3 q4
  go_wp2_with fail
  refine (HS.out _ H1.out.blk).mono ?_
  rintro y w2 ⟨rfl, hb, hk⟩
  have H2 := Lib.hid (show PA w2 B _ pn pa from ⟨hb, H1.out.no.on hk, H1.out.ap.on hk, H1.out.ok⟩)
  have HK := Lib.hid ((Kp.of_below (B := B) (v := .slice none 0 0) HB1.out).trans hk (Nx.refl _ _))
  clear hb hk
  go_wp2_with fail
  go_ret
  exact ⟨rfl, H2.out, HK.out⟩
set_option maxHeartbeats 4000000 in
theorem pr_step_ok (s : PD) (pn pa : Value) (m x : Int) (hm : -9223372036854775808 ≤ m ∧ m ≤ 9223372036854775807) (hx : -9223372036854775808 ≤ x ∧ x ≤ 9223372036854775807) (hbi : 0 ≤ s.bi ∧ s.bi < 4611686018427387904) (B : Nat) (w : World) (h : PA w B s pn pa) (he : stepE s.mc m = 0) (hf : stepE s.sc x = 0) : Calls Try.prog 50 #[.pointer (some ⟨B, 0, none⟩), .int .i64 m, .int .i64 x] w fun y w' => y = .returned (.int .i64 0) ∧ PA w' B (s.stepped m x) pn pa ∧ Kp B (.slice none 0 0) w w' := by
  have hmz := step_zero he h.ok.mc.1
  have hxz := step_zero hf h.ok.sc.1
  have hu1 : stepU s.n s.d s.mc s.mu m = (s.mu || wildB s.n s.d m) := stepU_zero he
  have hu2 : stepU s.n s.d s.sc s.su x = (s.su || wildB s.n s.d x) := stepU_zero hf
  have HOK := Lib.hid h.ok
  have HH := Lib.hid h
  have HSM := Lib.hid (show ∀ u, Blk u B 205 (s.C pn pa) → Calls Try.prog 122 #[.pointer (some ⟨B, 1, none⟩), .int .i64 m] u fun y w' => y = .returned (.int .i64 0) ∧ Blk w' B 205 (PD.C { s with mc := s.mc + m, mu := s.mu || wildB s.n s.d m } pn pa) ∧ Kp B (.slice none 0 0) u w' from fun u hu => by
    have h2 := ol_step m hm 205 (s.C pn pa) 1 _ _ _ _ B u hu (h.ok.mo pn pa)
    rw [he, hmz.1, hu1] at h2
    exact h2)
  obtain ⟨tu, n, d, mc, mu, c, v, r, t, sc, su, c2, v2, r2, t2, bi, no, ap, se⟩ := s
  simp only at hmz hxz HSM hbi
  obtain ⟨mc1, hmc1⟩ : ∃ z, z = mc + m := ⟨_, rfl⟩
  obtain ⟨mu1, hmu1⟩ : ∃ z, z = (mu || wildB n d m) := ⟨_, rfl⟩
  obtain ⟨sc1, hsc1⟩ : ∃ z, z = sc + x := ⟨_, rfl⟩
  obtain ⟨su1, hsu1⟩ : ∃ z, z = (su || wildB n d x) := ⟨_, rfl⟩
  have hok1 := (show PD.Ok (⟨tu, n, d, mc1, mu1, c, v, r, t, sc, su, c2, v2, r2, t2, bi, no, ap, se⟩ : PD) from ⟨HOK.out.tu, HOK.out.be, by have := HOK.out.mc; simp only at this ⊢; omega, HOK.out.sc, HOK.out.c, HOK.out.v, HOK.out.r, HOK.out.t, HOK.out.c2, HOK.out.v2, HOK.out.r2, HOK.out.t2⟩)
  have HSS := Lib.hid (show ∀ u, Blk u B 205 (PD.C (⟨tu, n, d, mc1, mu1, c, v, r, t, sc, su, c2, v2, r2, t2, bi, no, ap, se⟩ : PD) pn pa) → Calls Try.prog 122 #[.pointer (some ⟨B, 9, none⟩), .int .i64 x] u fun y w' => y = .returned (.int .i64 0) ∧ Blk w' B 205 (PD.C (⟨tu, n, d, mc1, mu1, c, v, r, t, sc1, su1, c2, v2, r2, t2, bi, no, ap, se⟩ : PD) pn pa) ∧ Kp B (.slice none 0 0) u w' from fun u hu => by
    have h2 := ol_step x hx 205 (PD.C (⟨tu, n, d, mc1, mu1, c, v, r, t, sc, su, c2, v2, r2, t2, bi, no, ap, se⟩ : PD) pn pa) 9 _ _ _ _ B u hu (hok1.so pn pa)
    simp only at hf hu2
    rw [hf, hxz.1, hu2, ← hsc1, ← hsu1] at h2
    exact h2)
  obtain ⟨bi1, hbi1⟩ : ∃ z, z = bi + 1 := ⟨_, rfl⟩
  have hw1 : wrap64 (bi + 1) = bi1 := by rw [hbi1]; exact w64_in _ (by omega)
  have hok2 := (show PD.Ok (⟨tu, n, d, mc1, mu1, c, v, r, t, sc1, su1, c2, v2, r2, t2, bi1, no, ap, se⟩ : PD) from ⟨HOK.out.tu, HOK.out.be, hok1.mc, by have := HOK.out.sc; simp only at this ⊢; omega, HOK.out.c, HOK.out.v, HOK.out.r, HOK.out.t, HOK.out.c2, HOK.out.v2, HOK.out.r2, HOK.out.t2⟩)
  obtain ⟨t1, ht1⟩ : ∃ z, z = readT c v r t mc1 := ⟨_, rfl⟩
  have hok3 := (show PD.Ok (⟨tu, n, d, mc1, mu1, c, v, r, t1, sc1, su1, c2, v2, r2, t2, bi1, no, ap, se⟩ : PD) from ⟨HOK.out.tu, HOK.out.be, hok2.mc, hok2.sc, HOK.out.c, HOK.out.v, HOK.out.r, by rw [ht1]; exact read_in HOK.out.t, HOK.out.c2, HOK.out.v2, HOK.out.r2, HOK.out.t2⟩)
  obtain ⟨t3, ht3⟩ : ∃ z, z = readT c2 v2 r2 t2 sc1 := ⟨_, rfl⟩
  obtain ⟨ju, hju⟩ : ∃ z, z = (lookB c2 v2 r2 sc1 && decide (readT c2 v2 r2 t2 sc1 = lookX c2 v2 r2 sc1)) := ⟨_, rfl⟩
  have HT1 := Lib.hid (show ∀ u, Blk u B 205 (PD.C (⟨tu, n, d, mc1, mu1, c, v, r, t, sc1, su1, c2, v2, r2, t2, bi1, no, ap, se⟩ : PD) pn pa) → Calls Try.prog 110 #[.pointer (some ⟨B, 1, none⟩)] u fun y w' => (∃ k, y = .returned (.bool k)) ∧ Blk w' B 205 (PD.C (⟨tu, n, d, mc1, mu1, c, v, r, t1, sc1, su1, c2, v2, r2, t2, bi1, no, ap, se⟩ : PD) pn pa) ∧ Kp B (.slice none 0 0) u w' from fun u hu => by
    have h2 := sd_tell 205 (PD.C (⟨tu, n, d, mc1, mu1, c, v, r, t, sc1, su1, c2, v2, r2, t2, bi1, no, ap, se⟩ : PD) pn pa) 1 _ _ _ _ _ _ _ _ B u hu (hok2.mo pn pa) (hok2.mck pn pa)
    rw [← ht1] at h2
    exact h2.mono fun y w' ⟨h1, h2, h3⟩ => ⟨⟨_, h1⟩, h2, h3⟩)
  have HT2 := Lib.hid (show ∀ u, Blk u B 205 (PD.C (⟨tu, n, d, mc1, mu1, c, v, r, t1, sc1, su1, c2, v2, r2, t2, bi1, no, ap, se⟩ : PD) pn pa) → Calls Try.prog 110 #[.pointer (some ⟨B, 9, none⟩)] u fun y w' => y = .returned (.bool ju) ∧ Blk w' B 205 (PD.C (⟨tu, n, d, mc1, mu1, c, v, r, t1, sc1, su1, c2, v2, r2, t3, bi1, no, ap, se⟩ : PD) pn pa) ∧ Kp B (.slice none 0 0) u w' from fun u hu => by
    have h2 := sd_tell 205 (PD.C (⟨tu, n, d, mc1, mu1, c, v, r, t1, sc1, su1, c2, v2, r2, t2, bi1, no, ap, se⟩ : PD) pn pa) 9 _ _ _ _ _ _ _ _ B u hu (hok3.so pn pa) (hok3.sk pn pa)
    simp only at h2
    rw [← hju, ← ht3] at h2
    exact h2)
  have hfin : PD.stepped (⟨tu, n, d, mc, mu, c, v, r, t, sc, su, c2, v2, r2, t2, bi, no, ap, se⟩ : PD) m x = (⟨tu, n, d, mc1, mu1, c, v, r, t1, sc1, su1, c2, v2, r2, t3, bi1, no, ap, (se || (ap.isSome && ju))⟩ : PD) := by unfold PD.stepped; simp only; rw [← hmc1, ← hmu1, ← hsc1, ← hsu1, ← hbi1, ← ht1, ← hju, ← ht3]
  rw [hfin]
  rw [← hmc1, ← hmu1] at HSM
  have HOK4 := Lib.hid (show PD.Ok (⟨tu, n, d, mc1, mu1, c, v, r, t1, sc1, su1, c2, v2, r2, t3, bi1, no, ap, (se || (ap.isSome && ju))⟩ : PD) from ⟨HOK.out.tu, HOK.out.be, hok2.mc, hok2.sc, HOK.out.c, HOK.out.v, HOK.out.r, hok3.t, HOK.out.c2, HOK.out.v2, HOK.out.r2, by rw [ht3]; exact read_in HOK.out.t2⟩)
  clear hfin hju ht3 hok3 ht1 hok2 hbi1 hok1 hsu1 hsc1 hmu1 hmc1 hu1 hu2 hmz hxz he hf hm hx hbi h
  have q1 : w.cell? ⟨B, 1, none⟩ = some (.int .i64 n) := HH.out.blk.cellO (i := 1) rfl
  have q2 : w.cell? ⟨B, 2, none⟩ = some (.int .i64 d) := HH.out.blk.cellO (i := 2) rfl
  have q3 : w.cell? ⟨B, 3, none⟩ = some (.int .i64 mc) := HH.out.blk.cellO (i := 3) rfl
  have q4 : w.cell? ⟨B, 4, none⟩ = some (.bool mu) := HH.out.blk.cellO (i := 4) rfl
  go_enter Try.func50, Try.ntmps50
  go_upto_region 4 with fail
  obtain ⟨w1, hww⟩ : ∃ w1, w1 = w.alloc (.cells #[.int .i64 n, .int .i64 d, .int .i64 mc, .bool mu] 195) := ⟨_, rfl⟩
  rw [← hww]
  have HB1 := Lib.hid (show Below w.heap.size w w1 by rw [hww]; exact (Below.refl _ w).alloc (Nat.le_refl _) _)
  have H1 := Lib.hid (HH.out.on HB1.out)
  have HK1 := Lib.hid (Kp.of_below (B := B) (v := .slice none 0 0) HB1.out)
  clear hww q1 q2 q3 q4
  go_wp2_with fail
  refine (HSM.out _ H1.out.blk).mono ?_
  rintro y w2 ⟨rfl, hb, hk⟩
  have H2 := Lib.hid hb; have HK2 := Lib.hid (HK1.out.trans hk (Nx.refl _ _)); have N2 := Lib.hid (H1.out.no.on hk); have A2 := Lib.hid (H1.out.ap.on hk)
  clear hb hk
  go_wp2_with fail
  refine (HSS.out _ H2.out).mono ?_
  rintro y w3 ⟨rfl, hb, hk⟩
  have H3 := Lib.hid hb; have HK3 := Lib.hid (HK2.out.trans hk (Nx.refl _ _)); have N3 := Lib.hid (N2.out.on hk); have A3 := Lib.hid (A2.out.on hk)
  have q17 : w3.cell? ⟨B, 17, none⟩ = some (.int .i64 bi) := hb.cellO (i := 17) rfl
  have p17 : w3.frozen? ⟨B, 17, none⟩ = false := hb.frozenAt 17
  clear hb hk
  go_upto_region 12 with fail
  obtain ⟨w4, hww⟩ : ∃ w4, w4 = w3.setCell ⟨B, 17, none⟩ (.int .i64 bi1) := ⟨_, rfl⟩
  rw [← hww]
  have hk4 := (show Kp B (.slice none 0 0) w3 w4 by rw [hww]; exact (Kp.refl _ _ _).set 17 _)
  have H4 := Lib.hid (show Blk w4 B 205 (PD.C (⟨tu, n, d, mc1, mu1, c, v, r, t, sc1, su1, c2, v2, r2, t2, bi1, no, ap, se⟩ : PD) pn pa) by rw [hww]; exact H3.out.put1 (i := 17) (by simp [PD.C]) _)
  have HK4 := Lib.hid (HK3.out.trans hk4 (Nx.refl _ _)); have N4 := Lib.hid (N3.out.on hk4); have A4 := Lib.hid (A3.out.on hk4)
  clear hww hk4 q17 p17
  go_wp2_with fail
  refine (HT1.out _ H4.out).mono ?_
  rintro y w5 ⟨⟨k, rfl⟩, hb, hk⟩
  have H5 := Lib.hid hb; have HK5 := Lib.hid (HK4.out.trans hk (Nx.refl _ _)); have N5 := Lib.hid (N4.out.on hk); have A5 := Lib.hid (A4.out.on hk)
  clear hb hk
  go_wp2_with fail
  refine (HT2.out _ H5.out).mono ?_
  rintro y w6 ⟨rfl, hb, hk⟩
  have H6 := Lib.hid hb; have HK6 := Lib.hid (HK5.out.trans hk (Nx.refl _ _)); have N6 := Lib.hid (N5.out.on hk); have A6 := Lib.hid (A5.out.on hk)
  have q20 : w6.cell? ⟨B, 20, none⟩ = some (.bool se) := hb.cellO (i := 20) rfl
  have p20 : w6.frozen? ⟨B, 20, none⟩ = false := hb.frozenAt 20
  have q19 : w6.cell? ⟨B, 19, none⟩ = some pa := hb.cellO (i := 19) rfl
  have HP20 := Lib.hid (fun z => H6.out.put1 (i := 20) (by simp [PD.C]) (.bool z))
  clear hb hk HSM HSS HT1 HT2 H1 H2 H3 H4 H5
  have hap := A6.out
  have HFIN := Lib.hid (show ∀ W, W = w6.setCell ⟨B, 20, none⟩ (.bool (se || (ap.isSome && ju))) → PA W B (⟨tu, n, d, mc1, mu1, c, v, r, t1, sc1, su1, c2, v2, r2, t3, bi1, no, ap, (se || (ap.isSome && ju))⟩ : PD) pn pa ∧ Kp B (.slice none 0 0) w W from fun W e => by
    have hk : Kp B (.slice none 0 0) w6 W := by rw [e]; exact (Kp.refl _ _ _).set 20 _
    refine ⟨⟨?_, N6.out.on hk, A6.out.on hk, HOK4.out⟩, HK6.out.trans hk (Nx.refl _ _)⟩
    rw [e]; exact HP20.out _)
  cases se
  · rcases ap with _ | ⟨z, b⟩
    · obtain rfl : pa = .pointer none := hap
      go_wp2_with fail
      go_ret
      exact ⟨rfl, HFIN.out _ rfl⟩
    · obtain ⟨K, e, hK, _⟩ := hap
      subst e
      clear hK
      go_wp2_with fail
      go_ret
      exact ⟨rfl, HFIN.out _ (by simp)⟩
  · clear hap
    go_wp2_with fail
    go_ret
    exact ⟨rfl, HFIN.out _ (by simp)⟩
set_option maxHeartbeats 2000000 in
theorem pr_step_s (s : PD) (pn pa : Value) (m x : Int) (hm : -9223372036854775808 ≤ m ∧ m ≤ 9223372036854775807) (hx : -9223372036854775808 ≤ x ∧ x ≤ 9223372036854775807) (B : Nat) (w : World) (h : PA w B s pn pa) (he : stepE s.mc m = 0) (hf : ¬ stepE s.sc x = 0) : Calls Try.prog 50 #[.pointer (some ⟨B, 0, none⟩), .int .i64 m, .int .i64 x] w fun y w' => y = .returned (.int .i64 (stepE s.sc x)) ∧ PA w' B s pn pa ∧ Kp B (.slice none 0 0) w w' := by
  have hmz := step_zero he h.ok.mc.1
  have hu1 : stepU s.n s.d s.mc s.mu m = (s.mu || wildB s.n s.d m) := stepU_zero he
  have HOK := Lib.hid h.ok
  have HH := Lib.hid h
  have HSM := Lib.hid (show ∀ u, Blk u B 205 (s.C pn pa) → Calls Try.prog 122 #[.pointer (some ⟨B, 1, none⟩), .int .i64 m] u fun y w' => y = .returned (.int .i64 0) ∧ Blk w' B 205 (PD.C { s with mc := s.mc + m, mu := s.mu || wildB s.n s.d m } pn pa) ∧ Kp B (.slice none 0 0) u w' from fun u hu => by
    have h2 := ol_step m hm 205 (s.C pn pa) 1 _ _ _ _ B u hu (h.ok.mo pn pa)
    rw [he, hmz.1, hu1] at h2
    exact h2)
  obtain ⟨tu, n, d, mc, mu, c, v, r, t, sc, su, c2, v2, r2, t2, bi, no, ap, se⟩ := s
  simp only at hmz HSM hf he
  obtain ⟨mc1, hmc1⟩ : ∃ z, z = mc + m := ⟨_, rfl⟩
  obtain ⟨mu1, hmu1⟩ : ∃ z, z = (mu || wildB n d m) := ⟨_, rfl⟩
  have hok1 := (show PD.Ok (⟨tu, n, d, mc1, mu1, c, v, r, t, sc, su, c2, v2, r2, t2, bi, no, ap, se⟩ : PD) from ⟨HOK.out.tu, HOK.out.be, by have := HOK.out.mc; simp only at this ⊢; omega, HOK.out.sc, HOK.out.c, HOK.out.v, HOK.out.r, HOK.out.t, HOK.out.c2, HOK.out.v2, HOK.out.r2, HOK.out.t2⟩)
  have HSS := Lib.hid (show ∀ u, Blk u B 205 (PD.C (⟨tu, n, d, mc1, mu1, c, v, r, t, sc, su, c2, v2, r2, t2, bi, no, ap, se⟩ : PD) pn pa) → Calls Try.prog 122 #[.pointer (some ⟨B, 9, none⟩), .int .i64 x] u fun y w' => y = .returned (.int .i64 (stepE sc x)) ∧ Blk w' B 205 (PD.C (⟨tu, n, d, mc1, mu1, c, v, r, t, sc, su, c2, v2, r2, t2, bi, no, ap, se⟩ : PD) pn pa) ∧ Kp B (.slice none 0 0) u w' from fun u hu => by
    have h2 := ol_step x hx 205 (PD.C (⟨tu, n, d, mc1, mu1, c, v, r, t, sc, su, c2, v2, r2, t2, bi, no, ap, se⟩ : PD) pn pa) 9 _ _ _ _ B u hu (hok1.so pn pa)
    simp only at h2
    rw [(step_err (n := n) (d := d) (u := su) hf).1, (step_err (n := n) (d := d) (u := su) hf).2] at h2
    exact h2)
  rw [← hmc1, ← hmu1] at HSM
  show Calls Try.prog 50 #[.pointer (some ⟨B, 0, none⟩), .int .i64 m, .int .i64 x] w fun y w' => y = .returned (.int .i64 (stepE sc x)) ∧ PA w' B (⟨tu, n, d, mc, mu, c, v, r, t, sc, su, c2, v2, r2, t2, bi, no, ap, se⟩ : PD) pn pa ∧ Kp B (.slice none 0 0) w w'
  obtain ⟨e, hee⟩ : ∃ e, e = stepE sc x := ⟨_, rfl⟩
  rw [← hee] at HSS hf ⊢
  have k0 : (e != 0) = true := by simp [hf]
  clear hok1 hmu1 hmc1 hu1 hmz he hf hm hx h hee
  have q1 : w.cell? ⟨B, 1, none⟩ = some (.int .i64 n) := HH.out.blk.cellO (i := 1) rfl
  have q2 : w.cell? ⟨B, 2, none⟩ = some (.int .i64 d) := HH.out.blk.cellO (i := 2) rfl
  have q3 : w.cell? ⟨B, 3, none⟩ = some (.int .i64 mc) := HH.out.blk.cellO (i := 3) rfl
  have q4 : w.cell? ⟨B, 4, none⟩ = some (.bool mu) := HH.out.blk.cellO (i := 4) rfl
  go_enter Try.func50, Try.ntmps50
  go_upto_region 4 with fail
  obtain ⟨w1, hww⟩ : ∃ w1, w1 = w.alloc (.cells #[.int .i64 n, .int .i64 d, .int .i64 mc, .bool mu] 195) := ⟨_, rfl⟩
  rw [← hww]
  have HB1 := Lib.hid (show Below w.heap.size w w1 by rw [hww]; exact (Below.refl _ w).alloc (Nat.le_refl _) _)
  have HA1 := Lib.hid (show Blk w1 w.heap.size 195 [.int .i64 n, .int .i64 d, .int .i64 mc, .bool mu] by rw [hww]; exact Blk.new w 195 [.int .i64 n, .int .i64 d, .int .i64 mc, .bool mu])
  have HNE := Lib.hid (show w.heap.size ≠ B by have := HH.out.blk.lt; omega)
  have H1 := Lib.hid (HH.out.on HB1.out)
  have HK1 := Lib.hid (Kp.of_below (B := B) (v := .slice none 0 0) HB1.out)
  clear hww q1 q2 q3 q4
  go_wp2_with fail
  refine (HSM.out _ H1.out.blk).mono ?_
  rintro y w2 ⟨rfl, hb, hk⟩
  have H2 := Lib.hid hb; have HK2 := Lib.hid (HK1.out.trans hk (Nx.refl _ _)); have N2 := Lib.hid (H1.out.no.on hk); have A2 := Lib.hid (H1.out.ap.on hk); have HA2 := Lib.hid (HA1.out.on (hk.block _ HA1.out.lt HNE.out (fun e => by cases e)))
  clear hb hk
  go_wp2_with fail
  refine (HSS.out _ H2.out).mono ?_
  rintro y w3 ⟨rfl, hb, hk⟩
  have H3 := Lib.hid hb; have HK3 := Lib.hid (HK2.out.trans hk (Nx.refl _ _)); have N3 := Lib.hid (N2.out.on hk); have A3 := Lib.hid (A2.out.on hk); have HA3 := Lib.hid (HA2.out.on (hk.block _ HA2.out.lt HNE.out (fun e => by cases e)))
  have r0 : w3.cell? ⟨w.heap.size, 0, none⟩ = some (.int .i64 n) := HA3.out.cellAt (i := 0) (by simp)
  have r1 : w3.cell? ⟨w.heap.size, 1, none⟩ = some (.int .i64 d) := HA3.out.cellAt (i := 1) (by simp)
  have r2 : w3.cell? ⟨w.heap.size, 2, none⟩ = some (.int .i64 mc) := HA3.out.cellAt (i := 2) (by simp)
  have r3 : w3.cell? ⟨w.heap.size, 3, none⟩ = some (.bool mu) := HA3.out.cellAt (i := 3) (by simp)
  have q1 := hb.cellO (i := 1) rfl
  have p1 : w3.frozen? ⟨B, 1, none⟩ = false := hb.frozenAt 1
  have q2 := hb.cellO (i := 2) rfl
  have p2 : w3.frozen? ⟨B, 2, none⟩ = false := hb.frozenAt 2
  have q3 := hb.cellO (i := 3) rfl
  have p3 : w3.frozen? ⟨B, 3, none⟩ = false := hb.frozenAt 3
  have q4 := hb.cellO (i := 4) rfl
  have p4 : w3.frozen? ⟨B, 4, none⟩ = false := hb.frozenAt 4
  clear hb hk HSM HSS H1 H2
  go_wp2_with fail
  go_ret
  have hk : Kp B (.slice none 0 0) w3 ((((w3.setCell ⟨B, 1, none⟩ (.int .i64 n)).setCell ⟨B, 2, none⟩ (.int .i64 d)).setCell ⟨B, 3, none⟩ (.int .i64 mc)).setCell ⟨B, 4, none⟩ (.bool mu)) := ((((Kp.refl _ _ _).set 1 _).set 2 _).set 3 _).set 4 _
  exact ⟨rfl, ⟨(((H3.out.put1 (i := 1) (by simp [PD.C]) _).put1 (i := 2) (by simp [PD.C]) _).put1 (i := 3) (by simp [PD.C]) _).put1 (i := 4) (by simp [PD.C]) _, N3.out.on hk, A3.out.on hk, HOK.out⟩, HK3.out.trans hk (Nx.refl _ _)⟩
end Go.Proofs.Ytbjelggbnmfblaa
