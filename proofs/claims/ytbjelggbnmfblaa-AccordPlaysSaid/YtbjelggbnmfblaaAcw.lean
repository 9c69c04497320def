/- The document's own pair of layer 19 is made. Conditions: each theorem says its own. -/
import Derived.Test.YtbjelggbnmfblaaAcu
import Derived.Test.YtbjelggbnmfblaaAco
namespace Go.Proofs.Ytbjelggbnmfblaa
open Go.RowKit
theorem rp_new_no (n d tu start : Int) (hn : -9223372036854775808 ≤ n ∧ n ≤ 9223372036854775807) (h : (rightC n d tu && decide (0 ≤ start ∧ start ≤ 1125899906842624)) = false) (w : World) : Calls Try.prog 43 #[.agg #[.int .i64 n, .int .i64 d, .int .i64 tu], .int .i64 start] w fun y w' => y = .returned (.tuple #[.pointer none, .int .i64 1]) ∧ Below w.heap.size w w' := by
  have HR := Lib.hid (fun z => rac_right n d tu hn z)
  obtain ⟨k, hk⟩ : ∃ k, k = rightC n d tu := ⟨_, rfl⟩
  rw [← hk] at h HR
  clear hk hn
  cases k
  · clear h
    go_enter Try.func43, Try.ntmps43
    go_wp2_with fail
    refine (HR.out _).mono ?_
    rintro y w1 ⟨rfl, hb⟩
    have HB := Lib.hid (below_transG ((Below.refl _ w).alloc (Nat.le_refl _) _) hb)
    clear hb
    go_wp2_with fail
    go_ret2
    exact ⟨rfl, HB.out⟩
  · rw [Bool.true_and] at h
    have h2 := of_decide_eq_false h
    have cs : start < 0 ∨ (¬ start < 0 ∧ 1125899906842624 < start) := by omega
    clear h h2
    rcases cs with g1 | ⟨g1, g2⟩
    · go_enter Try.func43, Try.ntmps43
      go_wp2_with fail
      refine (HR.out _).mono ?_
      rintro y w1 ⟨rfl, hb⟩
      have HB := Lib.hid (below_transG ((Below.refl _ w).alloc (Nat.le_refl _) _) hb)
      clear hb
      go_wp2_with fail
      go_ret2
      exact ⟨rfl, HB.out⟩
    · go_enter Try.func43, Try.ntmps43
      go_wp2_with fail
      refine (HR.out _).mono ?_
      rintro y w1 ⟨rfl, hb⟩
      have HB := Lib.hid (below_transG ((Below.refl _ w).alloc (Nat.le_refl _) _) hb)
      clear hb
      go_wp2_with fail
      go_ret2
      exact ⟨rfl, HB.out⟩
set_option maxRecDepth 100000 in
set_option maxHeartbeats 8000000 in
theorem rp_new_yes (n d tu start : Int) (hn : -9223372036854775808 ≤ n ∧ n ≤ 9223372036854775807) (h : rightC n d tu = true) (hs : 0 ≤ start ∧ start ≤ 1125899906842624) (w : World) : Calls Try.prog 43 #[.agg #[.int .i64 n, .int .i64 d, .int .i64 tu], .int .i64 start] w fun y w' => ∃ B mo so km ks, y = .returned (.tuple #[.pointer (some ⟨B, 0, none⟩), .int .i64 0]) ∧ RP w' B (newP n d tu start) mo so km ks 0 0 0 0 ∧ (∀ j, RPS B mo so km ks j → w.heap.size ≤ j) ∧ Below w.heap.size w w' := by
  have HR := Lib.hid (fun z => rac_right n d tu hn z)
  rw [h] at HR
  have hr : rightO n d = true := by
    unfold rightC at h
    rw [Bool.and_eq_true] at h
    exact h.1
  have HON := Lib.hid (fun u => ronew_yes n d hn hr u)
  have HKN := Lib.hid (fun u => rcknew_any u)
  have l0 := look_self 0 0 1048576 (by decide)
  have l1 := look_self 0 start 1048576 (by omega)
  have e0 : shE 0 0 1048576 0 start = 0 := by unfold shE; rw [l0.1, l0.2, Int.zero_add, fit_yes (by omega), cut_yes (by omega), mayB_yes (by omega)]; rfl
  have e1 : shC 0 0 1048576 0 start = 0 := by unfold shC; rw [if_pos e0]
  have e2 : shV 0 0 1048576 0 start = start := by unfold shV; rw [if_pos e0, l0.2, Int.zero_add, cut_yes (by omega)]
  have e3 : readT 0 start 1048576 0 0 = start := by
    unfold readT; rw [l1.1, l1.2]; clear e2; by_cases hz : 0 < start
    · rw [if_pos ⟨rfl, hz⟩]
    · rw [if_neg (fun hh => hz hh.2)]; omega
  have HSH := Lib.hid (fun B u hu => rckshift_any 0 start (by decide) (by omega) 0 0 1048576 0 B u hu)
  rw [e0, e1, e2] at HSH
  have HRD := Lib.hid (fun B u hu => rckread_any 0 (by decide) 0 start 1048576 0 B u hu)
  rw [e3] at HRD
  have g1 : ¬ start < 0 := by omega
  have g2 : ¬ 1125899906842624 < start := by omega
  clear hn h hs hr l0 l1 e0 e1 e2 e3
  go_enter Try.func43, Try.ntmps43
  go_wp2_with fail
  refine (HR.out _).mono ?_
  rintro y w1 ⟨rfl, hb⟩
  have HB1 := Lib.hid (below_transG ((Below.refl _ w).alloc (Nat.le_refl _) _) hb)
  have HS1 := Lib.hid ((Blk.new w 100 [.int .i64 n, .int .i64 d, .int .i64 tu]).keep hb (by simp))
  have HSZ := Lib.hid (show w.heap.size + 1 ≤ w1.heap.size by have h2 := hb.size; simpa using h2)
  clear hb
  have HZ := Lib.hid (show ∀ u, Below w1.heap.size w1 u → (Below w1.heap.size w1 u ∧ u.cell? ⟨w.heap.size, 0, none⟩ = some (.int .i64 n) ∧ u.cell? ⟨w.heap.size, 1, none⟩ = some (.int .i64 d) ∧ u.cell? ⟨w.heap.size, 2, none⟩ = some (.int .i64 tu)) from fun u hu => ⟨hu, (HS1.out.keep hu HS1.out.lt).cellAt (i := 0) (by simp), (HS1.out.keep hu HS1.out.lt).cellAt (i := 1) (by simp), (HS1.out.keep hu HS1.out.lt).cellAt (i := 2) (by simp)⟩)
  have z0 := HZ.out _ (Below.refl _ _)
  have z1 := HZ.out _ (Below.refl _ _).drew
  go_upto_region 3 with fail
  go_cut [6] (fun s6 wx => ∃ B km ks, s6 = .pointer (some ⟨B, 0, none⟩) ∧ Blk wx B 112 [.int .i64 n, .int .i64 d, .int .i64 tu, .pointer none, .pointer none, .pointer (some ⟨km, 0, none⟩), .pointer (some ⟨ks, 0, none⟩), .int .i64 0, .bool false, .int .i64 0, .int .i64 0, .int .i64 0, .bool false, .int .i64 0, .bool false] ∧ CK wx 108 km 0 0 1048576 0 ∧ CK wx 108 ks 0 0 1048576 0 ∧ (B ≠ km ∧ B ≠ ks ∧ km ≠ ks) ∧ (w.heap.size + 1 ≤ B ∧ w.heap.size + 1 ≤ km ∧ w.heap.size + 1 ≤ ks) ∧ Below w1.heap.size w1 wx)
  case first =>
    go_region_held3 (fun u => (Below w1.heap.size w1 u ∧ u.cell? ⟨w.heap.size, 0, none⟩ = some (.int .i64 n) ∧ u.cell? ⟨w.heap.size, 1, none⟩ = some (.int .i64 d) ∧ u.cell? ⟨w.heap.size, 2, none⟩ = some (.int .i64 tu))) (first | (with_reducible assumption) | (with_reducible exact HZ.out _ (h3S.1.alloc h3S.1.size _))) (first | (have zz := h2S; clear zz; go_at_call 112; refine (HKN.out _).mono ?_; rintro y w3 ⟨Bb, rfl, hcb, hlb, h3⟩; have h3S := HZ.out _ (below_transG h2S.1 h3)) | (go_at_call 112; refine (HKN.out _).mono ?_; rintro y w2 ⟨Ba, rfl, hca, hla, h2⟩; have h2S := HZ.out _ (below_transG (Below.refl _ _).drew h2)))
    all_goals
      go_wp2_with fail
      go_meet
      have hca3 := hca.moved (h3.block _ hca.lt)
      have hN : Below w3.heap.size w3 (w3.alloc _) := (Below.refl _ w3).alloc (Nat.le_refl _) (.cells #[.int .i64 n, .int .i64 d, .int .i64 tu, .pointer none, .pointer none, .pointer (some ⟨Ba, 0, none⟩), .pointer (some ⟨Bb, 0, none⟩), .int .i64 0, .bool false, .int .i64 0, .int .i64 0, .int .i64 0, .bool false, .int .i64 0, .bool false] 112)
      have q1 := HSZ.out
      have q2 : w1.heap.size ≤ Ba := hla
      have q3 : w2.heap.size ≤ Bb := hlb
      have q4 := hca.lt
      have q5 := hcb.lt
      have q6 := h3S.1.size
      have q7 := hca3.lt
      first
        | exact ⟨w3.heap.size, Ba, Bb, rfl, Blk.new w3 112 [.int .i64 n, .int .i64 d, .int .i64 tu, .pointer none, .pointer none, .pointer (some ⟨Ba, 0, none⟩), .pointer (some ⟨Bb, 0, none⟩), .int .i64 0, .bool false, .int .i64 0, .int .i64 0, .int .i64 0, .bool false, .int .i64 0, .bool false], hca3.keepN hN hca3.lt, hcb.keepN hN hcb.lt, by omega, by omega, h3S.1.alloc h3S.1.size _⟩
        | (have hN : Below w3.heap.size w3 (w3.alloc _) := (Below.refl _ w3).alloc (Nat.le_refl _) (.cells #[.int .i64 n, .int .i64 d, .int .i64 tu, .pointer none, .pointer none, .pointer (some ⟨Bb, 0, none⟩), .pointer (some ⟨Ba, 0, none⟩), .int .i64 0, .bool false, .int .i64 0, .int .i64 0, .int .i64 0, .bool false, .int .i64 0, .bool false] 112); exact ⟨w3.heap.size, Bb, Ba, rfl, Blk.new w3 112 [.int .i64 n, .int .i64 d, .int .i64 tu, .pointer none, .pointer none, .pointer (some ⟨Bb, 0, none⟩), .pointer (some ⟨Ba, 0, none⟩), .int .i64 0, .bool false, .int .i64 0, .int .i64 0, .int .i64 0, .bool false, .int .i64 0, .bool false], hcb.keepN hN hcb.lt, hca3.keepN hN hca3.lt, by omega, by omega, h3S.1.alloc h3S.1.size _⟩)
  case rest =>
  obtain ⟨w4, hw4⟩ : ∃ w4, w4 = wc := ⟨_, rfl⟩
  rw [← hw4] at hcut ⊢
  obtain ⟨B, km, ks, rfl, h4, hk4, hs4, hne4, hlo4, hb4⟩ := hcut
  have H4 := Lib.hid h4; have HKM4 := Lib.hid hk4; have HKS4 := Lib.hid hs4; have HNE := Lib.hid hne4; have HLO := Lib.hid hlo4; have HB4 := Lib.hid hb4
  clear h4 hk4 hs4 hne4 hlo4 hb4 hw4 z0 z1
  obtain ⟨_, c0, c1, c2⟩ := HZ.out _ HB4.out
  go_wp2_with fail
  refine (HON.out _).mono ?_
  rintro y w5 ⟨mo, rfl, hO, hOO, hb⟩
  have HM5 := Lib.hid hO; have HLM := Lib.hid (show w4.heap.size ≤ mo from hOO)
  have HB5 := Lib.hid (below_transG HB4.out hb)
  have H5 := Lib.hid (H4.out.keep hb H4.out.lt); have HKM5 := Lib.hid (HKM4.out.keepN hb HKM4.out.lt); have HKS5 := Lib.hid (HKS4.out.keepN hb HKS4.out.lt)
  clear hO hOO hb c0 c1 c2
  obtain ⟨_, c0, c1, c2⟩ := HZ.out _ HB5.out
  go_wp2_with fail
  refine (HON.out _).mono ?_
  rintro y w6 ⟨so, rfl, hO, hOO, hb⟩
  have HS6 := Lib.hid hO; have HLS := Lib.hid (show w5.heap.size ≤ so from hOO)
  have HB6 := Lib.hid (below_transG HB5.out hb)
  have H6 := Lib.hid (H5.out.keep hb H5.out.lt); have HKM6 := Lib.hid (HKM5.out.keepN hb HKM5.out.lt); have HKS6 := Lib.hid (HKS5.out.keepN hb HKS5.out.lt); have HM6 := Lib.hid (HM5.out.keepN hb HM5.out.lt)
  clear hO hOO hb c0 c1 c2
  have HNE6 := Lib.hid (show (B ≠ mo ∧ B ≠ so ∧ B ≠ km ∧ B ≠ ks) ∧ (mo ≠ so ∧ mo ≠ km ∧ mo ≠ ks) ∧ (so ≠ km ∧ so ≠ ks) ∧ km ≠ ks by
    have a1 := H4.out.lt; have a2 := HKM4.out.lt; have a3 := HKS4.out.lt; have a4 := HLM.out; have a5 := HLS.out; have a6 := HM5.out.lt; have a7 := HNE.out; have a8 := H5.out.lt; have a9 := HKM5.out.lt; have b1 := HKS5.out.lt
    omega)
  have HLO6 := Lib.hid (show ∀ j, RPS B mo so km ks j → w.heap.size + 1 ≤ j by
    have a1 := H4.out.lt; have a4 := HLM.out; have a5 := HLS.out; have a6 := HM5.out.lt; have a7 := HLO.out
    rintro j (rfl | rfl | rfl | rfl | rfl) <;> omega)
  have hB := H6.out
  have b0 : w6.cell? ⟨B, 0, none⟩ = some (.int .i64 n) := hB.cellAt (i := 0) (by simp)
  have b1 : w6.cell? ⟨B, 1, none⟩ = some (.int .i64 d) := hB.cellAt (i := 1) (by simp)
  have b2 : w6.cell? ⟨B, 2, none⟩ = some (.int .i64 tu) := hB.cellAt (i := 2) (by simp)
  have b3 : w6.cell? ⟨B, 3, none⟩ = some (.pointer none) := hB.cellAt (i := 3) (by simp)
  have b4 : w6.cell? ⟨B, 4, none⟩ = some (.pointer none) := hB.cellAt (i := 4) (by simp)
  have b5 : w6.cell? ⟨B, 5, none⟩ = some (.pointer (some ⟨km, 0, none⟩)) := hB.cellAt (i := 5) (by simp)
  have b6 : w6.cell? ⟨B, 6, none⟩ = some (.pointer (some ⟨ks, 0, none⟩)) := hB.cellAt (i := 6) (by simp)
  have b7 : w6.cell? ⟨B, 7, none⟩ = some (.int .i64 0) := hB.cellAt (i := 7) (by simp)
  have b8 : w6.cell? ⟨B, 8, none⟩ = some (.bool false) := hB.cellAt (i := 8) (by simp)
  have b9 : w6.cell? ⟨B, 9, none⟩ = some (.int .i64 0) := hB.cellAt (i := 9) (by simp)
  have b10 : w6.cell? ⟨B, 10, none⟩ = some (.int .i64 0) := hB.cellAt (i := 10) (by simp)
  have b11 : w6.cell? ⟨B, 11, none⟩ = some (.int .i64 0) := hB.cellAt (i := 11) (by simp)
  have b12 : w6.cell? ⟨B, 12, none⟩ = some (.bool false) := hB.cellAt (i := 12) (by simp)
  have b13 : w6.cell? ⟨B, 13, none⟩ = some (.int .i64 0) := hB.cellAt (i := 13) (by simp)
  have b14 : w6.cell? ⟨B, 14, none⟩ = some (.bool false) := hB.cellAt (i := 14) (by simp)
  have f0 : w6.frozen? ⟨B, 0, none⟩ = false := hB.frozenAt 0
  have f1 : w6.frozen? ⟨B, 1, none⟩ = false := hB.frozenAt 1
  have f2 : w6.frozen? ⟨B, 2, none⟩ = false := hB.frozenAt 2
  have f3 : w6.frozen? ⟨B, 3, none⟩ = false := hB.frozenAt 3
  have f4 : w6.frozen? ⟨B, 4, none⟩ = false := hB.frozenAt 4
  have f5 : w6.frozen? ⟨B, 5, none⟩ = false := hB.frozenAt 5
  have f6 : w6.frozen? ⟨B, 6, none⟩ = false := hB.frozenAt 6
  have f7 : w6.frozen? ⟨B, 7, none⟩ = false := hB.frozenAt 7
  have f8 : w6.frozen? ⟨B, 8, none⟩ = false := hB.frozenAt 8
  have f9 : w6.frozen? ⟨B, 9, none⟩ = false := hB.frozenAt 9
  have f10 : w6.frozen? ⟨B, 10, none⟩ = false := hB.frozenAt 10
  have f11 : w6.frozen? ⟨B, 11, none⟩ = false := hB.frozenAt 11
  have f12 : w6.frozen? ⟨B, 12, none⟩ = false := hB.frozenAt 12
  have f13 : w6.frozen? ⟨B, 13, none⟩ = false := hB.frozenAt 13
  have f14 : w6.frozen? ⟨B, 14, none⟩ = false := hB.frozenAt 14
  have hcl := H6.out.lt
  obtain ⟨w7, hw7⟩ : ∃ w7, w7 = (w6.setCell ⟨B, 3, none⟩ (.pointer (some ⟨mo, 0, none⟩))).setCell ⟨B, 4, none⟩ (.pointer (some ⟨so, 0, none⟩)) := ⟨_, rfl⟩
  have HK7 := Lib.hid (show Kp B (.slice none 0 0) w6 w7 by rw [hw7]; exact ((Kp.refl B (.slice none 0 0) w6).set 3 _).set 4 _)
  have HR7 := Lib.hid (show RP w7 B (⟨tu, n, d, 0, false, 0, 0, 1048576, 0, 0, false, 0, 0, 1048576, 0, 0, none, none, false⟩ : PD) mo so km ks 0 0 0 0 from ⟨by rw [hw7]; exact (H6.out.put1 (i := 3) (by simp) (.pointer (some ⟨mo, 0, none⟩))).put1 (i := 4) (by simp) (.pointer (some ⟨so, 0, none⟩)), HM6.out.byK (Ne.symm HNE6.out.1.1) HK7.out, HS6.out.byK (Ne.symm HNE6.out.1.2.1) HK7.out, HKM6.out.byK (Ne.symm HNE6.out.1.2.2.1) HK7.out, HKS6.out.byK (Ne.symm HNE6.out.1.2.2.2) HK7.out, HNE6.out, (fun x b e => by cases e), (fun x b e => by cases e)⟩)
  have HF7 := Lib.hid (show Fp (RPS B mo so km ks) w6 w7 from Fp.of_kp HK7.out (.inl rfl))
  clear hB
  go_upto_region 8 with fail
  rw [← hw7]
  clear hw7 hcl b0 b1 b2 b3 b4 b5 b6 b7 b8 b9 b10 b11 b12 b13 b14 f0 f1 f2 f3 f4 f5 f6 f7 f8 f9 f10 f11 f12 f13 f14
  have b6 : w7.cell? ⟨B, 6, none⟩ = some (.pointer (some ⟨ks, 0, none⟩)) := HR7.out.blk.cellAt (i := 6) (by simp)
  go_wp2_with fail
  refine (HSH.out _ _ HR7.out.hks).mono ?_
  rintro y w8 ⟨rfl, hO, hK⟩
  have HR8 := Lib.hid (HR7.out.bySk hO hK); have HF8 := Lib.hid (HF7.out.byKp hK (.inr (.inr (.inr (.inr rfl)))))
  clear hO hK b6
  have b6 : w8.cell? ⟨B, 6, none⟩ = some (.pointer (some ⟨ks, 0, none⟩)) := HR8.out.blk.cellAt (i := 6) (by simp)
  go_wp2_with fail
  refine (HRD.out _ _ HR8.out.hks).mono ?_
  rintro y w9 ⟨rfl, hO, hK⟩
  have HR9 := Lib.hid (HR8.out.bySk hO hK); have HF9 := Lib.hid (HF8.out.byKp hK (.inr (.inr (.inr (.inr rfl)))))
  clear hO hK b6
  go_wp2_with fail
  go_ret2
  have a1 := HSZ.out
  have a2 := HB1.out.size
  have hb6 : Below w.heap.size w w6 := HB1.out.trans (HB6.out.mono (by omega))
  exact ⟨B, mo, so, km, ks, rfl, HR9.out.as rfl, fun j hj => by have := HLO6.out j hj; omega, hb6.trans (HF9.out.below (fun j hj => by have := HLO6.out j hj; omega) hb6.size)⟩
end Go.Proofs.Ytbjelggbnmfblaa
