/- The walk of EdfRuns. Conditions: none. -/
import Derived.Test.YtbcccffjlkphpaaEfc
import Derived.Test.YtbcccffjlkphpaaEfd
import Derived.Test.YtbcccffjlkphpaaEdx
namespace Go.Proofs.Ytbcccffjlkphpaa
open Go.RowKit Go.Shelf
set_option linter.unusedSimpArgs false
set_option linter.unusedVariables false
set_option maxRecDepth 2000000 in
set_option maxHeartbeats 16000000 in
theorem lruns_any (a : Option Addr) (len cap : Nat) (L : List Jb) (n f : Int) (w : World) (hL : L.length = len ∧ (∀ s ∈ L, s.wf) ∧ Rd w 4 (.slice a len cap) (L.flatMap Jb.C)) : Calls Try.prog 3 #[.slice a len cap, .int .i64 n, .int .i64 f] w fun y w' => y = .returned (.bool true) ∧ Below w.heap.size w w' := by
  obtain ⟨rfl, _, hr⟩ := hL
  have hJ := Jbs.ofRdJ hr rfl
  have HJ := Lib.hid (show ∀ u, Below w.heap.size w u → Jbs u.heap.size u (.slice a L.length cap) L from fun u hu => hJ.on hu)
  have HLV := Lib.hid live27
  clear hJ hr
  obtain ⟨M, hM⟩ : ∃ M, M = L.length := ⟨_, rfl⟩
  by_cases h0 : 60 < L.length
  · have i1 : (60 : Int) < (L.length : Int) := by omega
    by_cases h1 : L.length ≤ 256
    · have i2 : (L.length : Int) ≤ 256 := by omega
      go_enter Try.func3, Try.ntmps3
      go_wp2_with fail
      refine (HLV.out _).mono ?_
      rintro y w9 ⟨rfl, hb⟩
      have HB9 := Lib.hid hb
      clear hb
      go_wp2_with fail
      go_ret
      exact ⟨rfl, HB9.out⟩
    · have i2 : ¬ (L.length : Int) ≤ 256 := by omega
      have hm : mayJ n L ≠ 0 := fun h => h1 (may_0 h).2.1
      clear h0 h1 hM
      obtain ⟨m, hmm⟩ : ∃ m, m = mayJ n L := ⟨_, rfl⟩
      have HNE := Lib.hid hm; have HMM := Lib.hid hmm
      have e1 : (m != m) = false := by simp
      have HSM := Lib.hid (fun u => same_ints ([] : List Int) (by simp) none none 0 0 u (Ints.nil u none) (Ints.nil u none))
      clear hm hmm
      go_enter Try.func3, Try.ntmps3
      go_wp2_with fail
      refine (jrun_any a L.length cap L n w (HJ.out w (Below.refl _ _))).mono ?_
      rintro y w1 ⟨hc, hb⟩
      have HB1 := Lib.hid (hb)
      rcases hc with ⟨_, rfl⟩ | ⟨h0, _⟩
      rotate_left
      · exact absurd h0 HNE.out
      rw [← HMM.out]
      clear hb
      dsimp only
      go_wp2_with fail
      refine (rrun_any a L.length cap L n w1 (HJ.out w1 (HB1.out))).mono ?_
      rintro y w2 ⟨hc, hb⟩
      have HB2 := Lib.hid (below_transE HB1.out hb HB1.out.size)
      rcases hc with ⟨_, rfl⟩ | ⟨h0, _⟩
      rotate_left
      · exact absurd h0 HNE.out
      rw [← HMM.out]
      clear hb
      dsimp only
      go_wp2_with fail
      refine (jlate_any a L.length cap L n w2 (HJ.out w2 (HB2.out))).mono ?_
      rintro y w3 ⟨hc, hb⟩
      have HB3 := Lib.hid (below_transE HB2.out hb HB2.out.size)
      rcases hc with ⟨_, rfl⟩ | ⟨h0, _⟩
      rotate_left
      · exact absurd h0 HNE.out
      rw [← HMM.out]
      clear hb
      dsimp only
      go_wp2_with fail
      refine (rlate_any a L.length cap L n w3 (HJ.out w3 (HB3.out))).mono ?_
      rintro y w4 ⟨hc, hb⟩
      have HB4 := Lib.hid (below_transE HB3.out hb HB3.out.size)
      rcases hc with ⟨_, rfl⟩ | ⟨h0, _⟩
      rotate_left
      · exact absurd h0 HNE.out
      rw [← HMM.out]
      clear hb
      dsimp only
      go_wp2_with fail
      refine (jbusy_any a L.length cap L n f w4 (HJ.out w4 (HB4.out))).mono ?_
      rintro y w5 ⟨hc, hb⟩
      have HB5 := Lib.hid (below_transE HB4.out hb HB4.out.size)
      rcases hc with ⟨_, rfl⟩ | ⟨h0, _⟩
      rotate_left
      · exact absurd h0 HNE.out
      rw [← HMM.out]
      clear hb
      dsimp only
      go_wp2_with fail
      refine (rbusy_any a L.length cap L n f w5 (HJ.out w5 (HB5.out))).mono ?_
      rintro y w6 ⟨hc, hb⟩
      have HB6 := Lib.hid (below_transE HB5.out hb HB5.out.size)
      rcases hc with ⟨_, rfl⟩ | ⟨h0, _⟩
      rotate_left
      · exact absurd h0 HNE.out
      rw [← HMM.out]
      clear hb
      dsimp only
      go_wp2_with fail
      refine (HSM.out _).mono ?_
      rintro y w7 ⟨rfl, hb⟩
      have HB7 := Lib.hid (below_transE HB6.out hb HB6.out.size)
      clear hb
      go_wp2_with fail
      refine wp_loop_rounds 1 ?_
      rw [rounds_succ]
      go_wp2_with fail
      refine (HLV.out _).mono ?_
      rintro y w9 ⟨rfl, hb⟩
      have HB9 := Lib.hid (below_transE HB7.out hb HB7.out.size)
      clear hb
      go_wp2_with fail
      go_ret
      exact ⟨rfl, HB9.out⟩
  · have i1 : ¬ (60 : Int) < (L.length : Int) := by omega
    have HLE := Lib.hid (show L.length ≤ 60 by omega)
    by_cases hm : mayJ n L = 0
    · clear h0 hM
      have HMZ := Lib.hid hm
      have HSM := Lib.hid (fun Z hl b b' d d' u h1 h2 => same_ints Z hl b b' d d' u h1 h2)
      clear hm
      go_enter Try.func3, Try.ntmps3
      go_wp2_with fail
      refine (jrun_any a L.length cap L n w (HJ.out w (Below.refl _ _))).mono ?_
      rintro y w1 ⟨hc, hb⟩
      have HB1 := Lib.hid (hb)
      rcases hc with ⟨h0, _⟩ | ⟨_, S, v, rfl, ht, hl, ho⟩
      · exact absurd HMZ.out h0
      have HT := Lib.hid ht; have HL := Lib.hid hl
      obtain ⟨a1, d1, rfl, hs⟩ := sent_at ho
      have HSA := Lib.hid (show ∀ u, Below w1.heap.size w1 u → ∀ k (hk : k < S.length), ∃ g, a1 = some ⟨g, 0, none⟩ ∧ ∀ i v, (S[k].C)[i]? = some v → u.cell? ⟨g, k * 3 + i, none⟩ = some v from fun u hu k hk => by
        obtain ⟨g, h1, h2, h3⟩ := hs k hk
        exact ⟨g, h1, fun i v hv => (hu.cell (p := ⟨g, k * 3 + i, none⟩) h2).trans (h3 i v hv)⟩)
      clear ho hs ht hl hb
      obtain ⟨N, hN⟩ : ∃ N, N = S.length := ⟨_, rfl⟩
      rw [← hN]
      have HN := Lib.hid hN
      clear hN
      dsimp only
      go_wp2_with fail
      refine (rrun_any a L.length cap L n w1 (HJ.out w1 (HB1.out))).mono ?_
      rintro y w2 ⟨hc, hb⟩
      have HB2 := Lib.hid (below_transE HB1.out hb HB1.out.size)
      have HC2 := Lib.hid (hb)
      rcases hc with ⟨h0, _⟩ | ⟨_, S2, v, rfl, ht, hl, ho⟩
      · exact absurd HMZ.out h0
      have e2 : S2 = S := ht.uniq HT.out (hl.trans HL.out.symm)
      rw [e2] at ho
      obtain ⟨a2, d2, rfl, hs⟩ := rsent_at ho
      have HSB := Lib.hid (show ∀ u, Below w2.heap.size w2 u → ∀ k (hk : k < S.length), ∃ g, a2 = some ⟨g, 0, none⟩ ∧ ∀ i v, (S[k].C)[i]? = some v → u.cell? ⟨g, k * 3 + i, none⟩ = some v from fun u hu k hk => by
        obtain ⟨g, h1, h2, h3⟩ := hs k hk
        exact ⟨g, h1, fun i v hv => (hu.cell (p := ⟨g, k * 3 + i, none⟩) h2).trans (h3 i v hv)⟩)
      clear ho hs ht hl e2 S2
      clear hb
      rw [← HN.out]
      dsimp only
      go_wp2_with fail
      refine (jlate_any a L.length cap L n w2 (HJ.out w2 (HB2.out))).mono ?_
      rintro y w3 ⟨hc, hb⟩
      have HB3 := Lib.hid (below_transE HB2.out hb HB2.out.size)
      have HC3 := Lib.hid (HC2.out.trans (hb.mono HC2.out.size))
      have HD3 := Lib.hid (hb)
      rcases hc with ⟨h0, _⟩ | ⟨_, S2, v, rfl, ht, hl, ho⟩
      · exact absurd HMZ.out h0
      have e2 : S2 = S := ht.uniq HT.out (hl.trans HL.out.symm)
      rw [e2] at ho
      obtain ⟨a3, d3, rfl, _⟩ := id ho
      have HN3 := Lib.hid (Ints.ofNums ho).2
      clear ho ht hl e2 S2
      clear hb
      obtain ⟨Z, hZ⟩ : ∃ Z, Z = sortI (lateL L S) := ⟨_, rfl⟩
      rw [← hZ] at HN3 ⊢
      have HZE := Lib.hid hZ
      obtain ⟨K, hK⟩ : ∃ K, K = Z.length := ⟨_, rfl⟩
      rw [← hK]
      have HKE := Lib.hid hK
      clear hZ hK
      dsimp only
      go_wp2_with fail
      refine (rlate_any a L.length cap L n w3 (HJ.out w3 (HB3.out))).mono ?_
      rintro y w4 ⟨hc, hb⟩
      have HB4 := Lib.hid (below_transE HB3.out hb HB3.out.size)
      have HC4 := Lib.hid (HC3.out.trans (hb.mono HC3.out.size))
      have HD4 := Lib.hid (HD3.out.trans (hb.mono HD3.out.size))
      have HC4a := Lib.hid (hb)
      rcases hc with ⟨h0, _⟩ | ⟨_, S2, v, rfl, ht, hl, ho⟩
      · exact absurd HMZ.out h0
      have e2 : S2 = S := ht.uniq HT.out (hl.trans HL.out.symm)
      rw [e2] at ho
      obtain ⟨a4, d4, rfl, _⟩ := id ho
      have HN4 := Lib.hid (Ints.ofNums ho).2
      clear ho ht hl e2 S2
      clear hb
      rw [← HZE.out] at HN4 ⊢
      rw [← HKE.out]
      dsimp only
      go_wp2_with fail
      refine (jbusy_any a L.length cap L n f w4 (HJ.out w4 (HB4.out))).mono ?_
      rintro y w5 ⟨hc, hb⟩
      have HB5 := Lib.hid (below_transE HB4.out hb HB4.out.size)
      have HC5 := Lib.hid (HC4.out.trans (hb.mono HC4.out.size))
      have HD5 := Lib.hid (HD4.out.trans (hb.mono HD4.out.size))
      have HC5a := Lib.hid (HC4a.out.trans (hb.mono HC4a.out.size))
      have HC5b := Lib.hid (hb)
      rcases hc with ⟨h0, _⟩ | ⟨_, S2, rfl, ht, hl⟩
      · exact absurd HMZ.out h0
      have e2 : S2 = S := ht.uniq HT.out (hl.trans HL.out.symm)
      rw [e2]
      clear ht hl e2 S2
      clear hb
      obtain ⟨bz, hbz⟩ : ∃ z, z = busyF S f := ⟨_, rfl⟩
      rw [← hbz]
      have HBZ := Lib.hid hbz
      clear hbz
      dsimp only
      go_wp2_with fail
      refine (rbusy_any a L.length cap L n f w5 (HJ.out w5 (HB5.out))).mono ?_
      rintro y w6 ⟨hc, hb⟩
      have HB6 := Lib.hid (below_transE HB5.out hb HB5.out.size)
      have HC6 := Lib.hid (HC5.out.trans (hb.mono HC5.out.size))
      have HD6 := Lib.hid (HD5.out.trans (hb.mono HD5.out.size))
      have HC6a := Lib.hid (HC5a.out.trans (hb.mono HC5a.out.size))
      have HC6b := Lib.hid (HC5b.out.trans (hb.mono HC5b.out.size))
      rcases hc with ⟨h0, _⟩ | ⟨_, S2, rfl, ht, hl⟩
      · exact absurd HMZ.out h0
      have e2 : S2 = S := ht.uniq HT.out (hl.trans HL.out.symm)
      rw [e2]
      clear ht hl e2 S2
      clear hb
      rw [← HBZ.out]
      have e1 : (bz != bz) = false := by simp
      have e3 : ((N : Int) != (N : Int)) = false := by simp
      have hN60 : N ≤ 60 := by have h1 := HN.out; have h2 := HL.out; have h3 := HLE.out; omega
      have HKL := Lib.hid (show Z.length ≤ 1000 by rw [HZE.out, sortI_len]; have h1 := lateL_len L S; have h2 := HL.out; have h3 := HLE.out; omega)
      have HSN := Lib.hid (HSM.out Z HKL.out a3 a4 d3 d4 w6 (HN3.out.on HC6a.out) (HN4.out.on HC6b.out))
      rw [← HKE.out] at HSN
      go_wp2_with fail
      refine HSN.out.mono ?_
      rintro y w7 ⟨rfl, hb⟩
      have HB7 := Lib.hid (below_transE HB6.out hb HB6.out.size)
      have HC7 := Lib.hid (HC6.out.trans (hb.mono HC6.out.size))
      have HD7 := Lib.hid (HD6.out.trans (hb.mono HD6.out.size))
      clear hb
      go_wp2_with fail
      go_loopw [19] (fun i wr => ∃ k : Nat, i = .int .i64 (k : Int) ∧ k ≤ N ∧ Below w7.heap.size w7 wr) (fun i _ => N - (intOf i).toNat)
      case atStart => exact ⟨0, rfl, by omega, by first | exact Below.refl _ _ | exact (Below.refl _ _).drew⟩
      case round =>
        obtain ⟨k, rfl, hk, hb⟩ := hrel
        have HB := Lib.hid hb
        clear hb
        have i3 : (0 : Int) ≤ (k : Int) := by omega
        have x4 : wrap64 ((k : Int) + 1) = (k : Int) + 1 := by unfold wrap64; omega
        by_cases hlt : k < N
        · have j1 : (k : Int) < (N : Int) := by omega
          have hkS : k < S.length := by have := HN.out; omega
          obtain ⟨x, hx⟩ : ∃ x, x = S[k] := ⟨_, rfl⟩
          obtain ⟨g, rfl, hc⟩ := HSA.out _ (HC7.out.trans (HB.out.mono HC7.out.size)) k hkS
          obtain ⟨g', rfl, hc'⟩ := HSB.out _ (HD7.out.trans (HB.out.mono HD7.out.size)) k hkS
          have HS1 := Lib.hid HSA.out; have HS2 := Lib.hid HSB.out
          have HZ := Lib.hid (show ∀ u, Below wr.heap.size wr u → Below wr.heap.size wr u ∧ u.cell? ⟨g, k * 3, none⟩ = some (.int .i64 (x.j : Int)) ∧ u.cell? ⟨g, k * 3 + 1, none⟩ = some (.int .i64 x.a) ∧ u.cell? ⟨g, k * 3 + 2, none⟩ = some (.int .i64 x.e) ∧ u.cell? ⟨g', k * 3, none⟩ = some (.int .i64 (x.j : Int)) ∧ u.cell? ⟨g', k * 3 + 1, none⟩ = some (.int .i64 x.a) ∧ u.cell? ⟨g', k * 3 + 2, none⟩ = some (.int .i64 x.e) from fun u hu => by
            have q1 := (HS1.out u (HC7.out.trans ((HB.out.trans (hu.mono HB.out.size)).mono HC7.out.size)) k hkS)
            have q2 := (HS2.out u (HD7.out.trans ((HB.out.trans (hu.mono HB.out.size)).mono HD7.out.size)) k hkS)
            rw [← hx] at q1 q2
            obtain ⟨h1, e1, c1⟩ := q1
            obtain ⟨h2, e2, c2⟩ := q2
            injection e1 with e1; injection e1 with e1
            injection e2 with e2; injection e2 with e2
            subst e1 e2
            exact ⟨hu, c1 0 _ rfl, c1 1 _ rfl, c1 2 _ rfl, c2 0 _ rfl, c2 1 _ rfl, c2 2 _ rfl⟩)
          have y0 : ((x.j : Int) != (x.j : Int)) = false := by simp
          have y1 : (x.a != x.a) = false := by simp
          have y2 : (x.e != x.e) = false := by simp
          clear hc hc' hx hkS
          go_upto_region 14 with fail
          refine wp_region_class (C := fun x_ => Below wr.heap.size wr x_ ∧ x_.cell? ⟨g, k * 3, none⟩ = some (.int .i64 (x.j : Int)) ∧ x_.cell? ⟨g, k * 3 + 1, none⟩ = some (.int .i64 x.a) ∧ x_.cell? ⟨g, k * 3 + 2, none⟩ = some (.int .i64 x.e) ∧ x_.cell? ⟨g', k * 3, none⟩ = some (.int .i64 (x.j : Int)) ∧ x_.cell? ⟨g', k * 3 + 1, none⟩ = some (.int .i64 x.a) ∧ x_.cell? ⟨g', k * 3 + 2, none⟩ = some (.int .i64 x.e)) (by kernel_rfl) (by kernel_rfl) (HZ.out _ (Below.refl _ _).drew) ?_
          repeat
            with_reducible refine wpQuiet_step (fun K hK => ?_)
            first
              | (refine quiet_skip (by rfl) ?_; (with_reducible refine hK _ ?_); clear hK K)
              | (refine quiet_want (by rfl) ?_
                 apply Exists.intro
                 refine ⟨fun xw hx => ?_, hK _ ?_⟩
                 (obtain ⟨_, hx1, hx2, hx3, hx4, hx5, hx6⟩ := id hx; go_simp; first | done | rfl | (fail))
                 clear hK K)
            try simp only [Act.put, List.setIfInBounds_toArray, List.set_cons_zero, List.set_cons_succ]
          with_reducible refine wpQuiet_nil ?_
          intro wq hq
          have HB5 := Lib.hid (HB.out.trans (hq.1.mono HB.out.size))
          clear hq
          go_wp2_with fail
          go_roundw
          case rel => exact ⟨k + 1, by simp, by omega, by first | exact HB5.out | exact HB5.out.drew⟩
          case measure => simp [intOf]; omega
        · have j1 : ¬ (k : Int) < (N : Int) := by omega
          have HBF := Lib.hid (HB7.out.trans (HB.out.mono HB7.out.size))
          go_wp2_with fail
          refine (HLV.out _).mono ?_
          rintro y w9 ⟨rfl, hb⟩
          have HB9 := Lib.hid (below_transE HBF.out hb HBF.out.size)
          clear hb
          go_wp2_with fail
          go_ret
          exact ⟨rfl, HB9.out⟩
    · clear h0 hM
      obtain ⟨m, hmm⟩ : ∃ m, m = mayJ n L := ⟨_, rfl⟩
      have HNE := Lib.hid hm; have HMM := Lib.hid hmm
      have e1 : (m != m) = false := by simp
      have HSM := Lib.hid (fun u => same_ints ([] : List Int) (by simp) none none 0 0 u (Ints.nil u none) (Ints.nil u none))
      clear hm hmm
      go_enter Try.func3, Try.ntmps3
      go_wp2_with fail
      refine (jrun_any a L.length cap L n w (HJ.out w (Below.refl _ _))).mono ?_
      rintro y w1 ⟨hc, hb⟩
      have HB1 := Lib.hid (hb)
      rcases hc with ⟨_, rfl⟩ | ⟨h0, _⟩
      rotate_left
      · exact absurd h0 HNE.out
      rw [← HMM.out]
      clear hb
      dsimp only
      go_wp2_with fail
      refine (rrun_any a L.length cap L n w1 (HJ.out w1 (HB1.out))).mono ?_
      rintro y w2 ⟨hc, hb⟩
      have HB2 := Lib.hid (below_transE HB1.out hb HB1.out.size)
      rcases hc with ⟨_, rfl⟩ | ⟨h0, _⟩
      rotate_left
      · exact absurd h0 HNE.out
      rw [← HMM.out]
      clear hb
      dsimp only
      go_wp2_with fail
      refine (jlate_any a L.length cap L n w2 (HJ.out w2 (HB2.out))).mono ?_
      rintro y w3 ⟨hc, hb⟩
      have HB3 := Lib.hid (below_transE HB2.out hb HB2.out.size)
      rcases hc with ⟨_, rfl⟩ | ⟨h0, _⟩
      rotate_left
      · exact absurd h0 HNE.out
      rw [← HMM.out]
      clear hb
      dsimp only
      go_wp2_with fail
      refine (rlate_any a L.length cap L n w3 (HJ.out w3 (HB3.out))).mono ?_
      rintro y w4 ⟨hc, hb⟩
      have HB4 := Lib.hid (below_transE HB3.out hb HB3.out.size)
      rcases hc with ⟨_, rfl⟩ | ⟨h0, _⟩
      rotate_left
      · exact absurd h0 HNE.out
      rw [← HMM.out]
      clear hb
      dsimp only
      go_wp2_with fail
      refine (jbusy_any a L.length cap L n f w4 (HJ.out w4 (HB4.out))).mono ?_
      rintro y w5 ⟨hc, hb⟩
      have HB5 := Lib.hid (below_transE HB4.out hb HB4.out.size)
      rcases hc with ⟨_, rfl⟩ | ⟨h0, _⟩
      rotate_left
      · exact absurd h0 HNE.out
      rw [← HMM.out]
      clear hb
      dsimp only
      go_wp2_with fail
      refine (rbusy_any a L.length cap L n f w5 (HJ.out w5 (HB5.out))).mono ?_
      rintro y w6 ⟨hc, hb⟩
      have HB6 := Lib.hid (below_transE HB5.out hb HB5.out.size)
      rcases hc with ⟨_, rfl⟩ | ⟨h0, _⟩
      rotate_left
      · exact absurd h0 HNE.out
      rw [← HMM.out]
      clear hb
      dsimp only
      go_wp2_with fail
      refine (HSM.out _).mono ?_
      rintro y w7 ⟨rfl, hb⟩
      have HB7 := Lib.hid (below_transE HB6.out hb HB6.out.size)
      clear hb
      go_wp2_with fail
      refine wp_loop_rounds 1 ?_
      rw [rounds_succ]
      go_wp2_with fail
      refine (HLV.out _).mono ?_
      rintro y w9 ⟨rfl, hb⟩
      have HB9 := Lib.hid (below_transE HB7.out hb HB7.out.size)
      clear hb
      go_wp2_with fail
      go_ret
      exact ⟨rfl, HB9.out⟩

end Go.Proofs.Ytbcccffjlkphpaa
