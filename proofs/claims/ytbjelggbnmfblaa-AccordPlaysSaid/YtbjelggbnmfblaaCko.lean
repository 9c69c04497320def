/- Package clock: a clock that lies within a greater block. Conditions: the block's cells are the clock's, the arguments are numbers of 64 bits. -/
import Derived.Test.YtbjelggbnmfblaaCkb
import Derived.Test.YtbjelggbnmfblaaOso
namespace Go.Proofs.Ytbjelggbnmfblaa
open Go.RowKit
/-- A clock at a place of a list of cells. -/
structure CL (l : List Value) (o : Nat) (c v r t : Int) : Prop where
  g0 : l[o]? = some (.int .i64 c)
  g1 : l[o + 1]? = some (.int .i64 v)
  g2 : l[o + 2]? = some (.int .i64 r)
  g3 : l[o + 3]? = some (.int .i64 t)
  c0 : -9223372036854775808 ≤ c ∧ c ≤ 9223372036854775807
  v0 : -1152921504606846976 ≤ v ∧ v ≤ 1152921504606846976
  r0 : 1044480 ≤ r ∧ r ≤ 1052672
  t0 : 0 ≤ t ∧ t ≤ 1152921504606846976
theorem CL.told {l : List Value} {o : Nat} {c v r t : Int} (h : CL l o c v r t) {t2 : Int} (ht : 0 ≤ t2 ∧ t2 ≤ 1152921504606846976) : CL (l.set (o + 3) (.int .i64 t2)) o c v r t2 :=
  ⟨set_other h.g0 (by omega), set_other h.g1 (by omega), set_other h.g2 (by omega), by rw [List.getElem?_set_self (List.getElem?_eq_some_iff.1 h.g3).1], h.c0, h.v0, h.r0, ht⟩
theorem CL.goes {l : List Value} {o : Nat} {c v r t : Int} (h : CL l o c v r t) {c2 v2 r2 : Int} (hc : -9223372036854775808 ≤ c2 ∧ c2 ≤ 9223372036854775807) (hv : -1152921504606846976 ≤ v2 ∧ v2 ≤ 1152921504606846976) (hr : 1044480 ≤ r2 ∧ r2 ≤ 1052672) : CL (((l.set o (.int .i64 c2)).set (o + 1) (.int .i64 v2)).set (o + 2) (.int .i64 r2)) o c2 v2 r2 t := by
  have h0 := (List.getElem?_eq_some_iff.1 h.g0).1; have h1 := (List.getElem?_eq_some_iff.1 h.g1).1; have h2 := (List.getElem?_eq_some_iff.1 h.g2).1
  refine ⟨set_other (set_other (by rw [List.getElem?_set_self h0]) (by omega)) (by omega), set_other (by rw [List.getElem?_set_self (by rw [List.length_set]; exact h1)]) (by omega), by rw [List.getElem?_set_self (by rw [List.length_set, List.length_set]; exact h2)], set_other (set_other (set_other h.g3 (by omega)) (by omega)) (by omega), hc, hv, hr, h.t0⟩
theorem CL.stays {l : List Value} {o : Nat} {c v r t : Int} (h : CL l o c v r t) : ((l.set o (.int .i64 c)).set (o + 1) (.int .i64 v)).set (o + 2) (.int .i64 r) = l := by
  rw [set_self h.g0, set_self h.g1, set_self h.g2]
theorem cl_last (T : TypeId) (l : List Value) (o : Nat) (c v r t : Int) (B : Nat) (w : World) (hB : Blk w B T l) (h : CL l o c v r t) : Calls Try.prog 124 #[.pointer (some ⟨B, o, none⟩)] w fun y w' => y = .returned (.int .i64 t) ∧ w = w' := by
  have q0 := hB.cellO h.g0
  have q1 := hB.cellO h.g1
  have q2 := hB.cellO h.g2
  have q3 := hB.cellO h.g3
  clear h hB
  go_enter Try.func124, Try.ntmps124
  go_wp2_with fail
  go_ret
  exact ⟨rfl, rfl⟩
theorem cl_look (n : Int) (hn : -9223372036854775808 ≤ n ∧ n ≤ 9223372036854775807) (T : TypeId) (l : List Value) (o : Nat) (c v r t : Int) (B : Nat) (w : World) (hB : Blk w B T l) (h : CL l o c v r t) : Calls Try.prog 167 #[.pointer (some ⟨B, o, none⟩), .int .i64 n] w fun y w' => y = .returned (.tuple #[.int .i64 (lookX c v r n), .bool (lookB c v r n)]) ∧ Below w.heap.size w w' := by
  have HA := Lib.hid (fun u => at_any c v r n h.c0 (by have := h.v0; omega) (by have := h.r0; omega) hn u)
  have q0 := hB.cellO h.g0
  have q1 := hB.cellO h.g1
  have q2 := hB.cellO h.g2
  have q3 := hB.cellO h.g3
  clear h hn hB
  obtain ⟨X, hX⟩ : ∃ X, X = lookX c v r n := ⟨_, rfl⟩
  obtain ⟨Y, hY⟩ : ∃ Y, Y = lookB c v r n := ⟨_, rfl⟩
  rw [← hX, ← hY] at HA ⊢
  clear hX hY
  go_enter Try.func167, Try.ntmps167
  go_wp2_with fail
  refine (HA.out _).mono ?_
  rintro y w1 ⟨rfl, hb⟩
  have HB := Lib.hid hb
  clear hb
  go_wp2_with fail
  go_ret2
  exact ⟨rfl, HB.out⟩
set_option maxHeartbeats 1000000 in
theorem cl_read (n : Int) (hn : -9223372036854775808 ≤ n ∧ n ≤ 9223372036854775807) (T : TypeId) (l : List Value) (o : Nat) (c v r t : Int) (B : Nat) (w : World) (hB : Blk w B T l) (h : CL l o c v r t) : Calls Try.prog 159 #[.pointer (some ⟨B, o, none⟩), .int .i64 n] w fun y w' => y = .returned (.tuple #[.int .i64 (readT c v r t n), .bool (lookB c v r n)]) ∧ Blk w' B T (l.set (o + 3) (.int .i64 (readT c v r t n))) ∧ Kp B (.slice none 0 0) w w' := by
  have HL := Lib.hid (fun u hu => cl_look n hn T l o c v r t B u hu h)
  have HI := Lib.hid (look_in c v r n); have HT := Lib.hid h.t0
  have HLA := Lib.hid (fun (z : Int) (hz : 0 ≤ z ∧ z ≤ 1152921504606846976) u hu => cl_last T (l.set (o + 3) (.int .i64 z)) o c v r z B u hu (h.told hz))
  have HLS := Lib.hid (fun u hu => cl_last T l o c v r t B u hu h)
  obtain ⟨X, hX⟩ : ∃ X, X = lookX c v r n := ⟨_, rfl⟩
  obtain ⟨Y, hY⟩ : ∃ Y, Y = lookB c v r n := ⟨_, rfl⟩
  have HR := Lib.hid (show readT c v r t n = if Y = true ∧ t < X then X else t by unfold readT; rw [hX, hY])
  rw [HR.out]
  rw [← hX] at HI
  rw [← hX, ← hY] at HL
  rw [← hY]
  have HH := Lib.hid hB; have HC := Lib.hid h
  have HSS := Lib.hid (set_self h.g3)
  have HLT := Lib.hid (List.getElem?_eq_some_iff.1 h.g3).1
  clear h hn hX hY HR hB
  obtain ⟨Z, hZ⟩ : ∃ Z, Z = if Y = true ∧ t < X then X else t := ⟨_, rfl⟩
  rw [← hZ]
  have HZ := Lib.hid hZ
  clear hZ
  go_enter Try.func159, Try.ntmps159
  go_wp2_with fail
  refine (HL.out _ HH.out).mono ?_
  rintro y w1 ⟨rfl, hb⟩
  have HO := Lib.hid (HH.out.keep hb HH.out.lt)
  have HK := Lib.hid (Kp.of_below (B := B) (v := .slice none 0 0) hb)
  have q0 := HO.out.cellO HC.out.g0
  have q1 := HO.out.cellO HC.out.g1
  have q2 := HO.out.cellO HC.out.g2
  have q3 := HO.out.cellO HC.out.g3
  have p0 : w1.frozen? ⟨B, o, none⟩ = false := HO.out.frozenAt (o)
  have p1 : w1.frozen? ⟨B, o + 1, none⟩ = false := HO.out.frozenAt (o + 1)
  have p2 : w1.frozen? ⟨B, o + 2, none⟩ = false := HO.out.frozenAt (o + 2)
  have p3 : w1.frozen? ⟨B, o + 3, none⟩ = false := HO.out.frozenAt (o + 3)
  clear hb
  cases Y
  case false =>
    obtain rfl : Z = t := by rw [HZ.out]; simp
    clear HZ
    go_wp2_with fail
    refine (HLS.out _ HO.out).mono ?_
    rintro y w2 ⟨rfl, rfl⟩
    go_wp2_with fail
    go_ret2
    rw [HSS.out]
    exact ⟨rfl, HO.out, HK.out⟩
  case true =>
    have HN := Lib.hid (show ∀ z W, W = w1.setCell ⟨B, o + 3, none⟩ (.int .i64 z) → Blk W B T (l.set (o + 3) (.int .i64 z)) from fun z W e => e ▸ HO.out.put1 (i := o + 3) HLT.out _)
    rcases Int.lt_trichotomy t X with hx | hx | hx
    · obtain rfl : Z = X := by rw [HZ.out, if_pos ⟨rfl, hx⟩]
      have HMX := Lib.hid (show max t Z = Z by omega)
      have hx1 : t ≤ Z := by omega
      have hx2 : ¬ Z ≤ t := by omega
      have HZZ := Lib.hid (show 0 ≤ Z ∧ Z ≤ 1152921504606846976 by have := HI.out; have := HT.out; omega)
      clear HZ hx
      go_wp2_with fail
      simp only [HMX.out]
      refine (HLA.out _ HZZ.out _ (HN.out _ _ rfl)).mono ?_
      rintro y w2 ⟨rfl, rfl⟩
      go_wp2_with fail
      go_ret2
      exact ⟨rfl, HN.out _ _ rfl, HK.out.set (o + 3) _⟩
    · obtain rfl : Z = t := by rw [HZ.out, if_neg (by simp; omega)]
      obtain rfl : X = Z := hx.symm
      have hx1 : X ≤ X := by omega
      clear HZ
      go_wp2_with fail
      refine (HLA.out _ HT.out _ (HN.out _ _ rfl)).mono ?_
      rintro y w2 ⟨rfl, rfl⟩
      go_wp2_with fail
      go_ret2
      exact ⟨rfl, HN.out _ _ rfl, HK.out.set (o + 3) _⟩
    · obtain rfl : Z = t := by rw [HZ.out, if_neg (by simp; omega)]
      have HMX := Lib.hid (show max Z X = Z by omega)
      have hx1 : X ≤ Z := by omega
      have hx2 : ¬ Z ≤ X := by omega
      clear HZ hx
      go_wp2_with fail
      simp only [HMX.out]
      refine (HLA.out _ HT.out _ (HN.out _ _ rfl)).mono ?_
      rintro y w2 ⟨rfl, rfl⟩
      go_wp2_with fail
      go_ret2
      exact ⟨rfl, HN.out _ _ rfl, HK.out.set (o + 3) _⟩
set_option maxHeartbeats 1000000 in
theorem cl_begin (n b q : Int) (hn : -9223372036854775808 ≤ n ∧ n ≤ 9223372036854775807) (hb : -9223372036854775808 ≤ b ∧ b ≤ 9223372036854775807) (T : TypeId) (l : List Value) (o : Nat) (c v r t : Int) (B : Nat) (w : World) (hB : Blk w B T l) (h : CL l o c v r t) : Calls Try.prog 158 #[.pointer (some ⟨B, o, none⟩), .int .i64 n, .int .i64 b, .int .i64 q] w fun y w' => y = .returned (.int .i64 (beE c v r n b)) ∧ Blk w' B T (((l.set o (.int .i64 (if beE c v r n b = 0 then n else c))).set (o + 1) (.int .i64 (if beE c v r n b = 0 then cutV (lookX c v r n + b) else v))).set (o + 2) (.int .i64 (if beE c v r n b = 0 then q else r))) ∧ Kp B (.slice none 0 0) w w' := by
  have HL := Lib.hid (fun u => at_any c v r n h.c0 (by have := h.v0; omega) (by have := h.r0; omega) hn u)
  have HA := Lib.hid (fun u => add_ex (lookX c v r n) b (by have := look_in c v r n; omega) hb u)
  have HE := Lib.hid (show beE c v r n b = if ((lookB c v r n && fitB (lookX c v r n + b)) && mayB (cutV (lookX c v r n + b))) = true then 0 else 9 from rfl)
  obtain ⟨E, hE⟩ : ∃ E, E = beE c v r n b := ⟨_, rfl⟩
  rw [← hE] at HE ⊢
  obtain ⟨s, hs⟩ : ∃ s, s = cutV (lookX c v r n + b) := ⟨_, rfl⟩
  obtain ⟨k2, hk2⟩ : ∃ s, s = fitB (lookX c v r n + b) := ⟨_, rfl⟩
  rw [show okV (lookX c v r n + b) = .tuple #[.int .i64 s, .bool k2] by rw [hs, hk2]; rfl] at HA
  rw [← hs, ← hk2] at HE
  rw [← hs]
  clear hE hs hk2
  obtain ⟨X, hX⟩ : ∃ X, X = lookX c v r n := ⟨_, rfl⟩
  obtain ⟨k1, hk1⟩ : ∃ Y, Y = lookB c v r n := ⟨_, rfl⟩
  rw [← hX, ← hk1] at HL
  rw [← hX] at HA
  rw [← hk1] at HE
  obtain ⟨m, hm⟩ : ∃ m, m = mayB s := ⟨_, rfl⟩
  have HM := Lib.hid (fun u => may_ex s u)
  rw [← hm] at HM HE
  obtain ⟨K, hK⟩ : ∃ K, K = (k1 && k2) := ⟨_, rfl⟩
  rw [← hK] at HE
  have HKK := Lib.hid hK
  have HH := Lib.hid hB; have HC := Lib.hid h
  have HST := Lib.hid h.stays
  clear hX hk1 hm hK h hn hb hB
  go_enter Try.func158, Try.ntmps158
  go_wp2_with fail
  refine (rk_new _).mono ?_
  rintro y w1 ⟨C, rfl, hK, hC, hb⟩
  have HK1 := Lib.hid hK; have HB1 := Lib.hid hb; have HO1 := Lib.hid (HH.out.keep hb HH.out.lt)
  have HBC := Lib.hid (show B ≠ C by have := HH.out.lt; omega)
  have HCC := Lib.hid hC
  have q0 := HO1.out.cellO HC.out.g0
  have q1 := HO1.out.cellO HC.out.g1
  have q2 := HO1.out.cellO HC.out.g2
  have q3 := HO1.out.cellO HC.out.g3
  clear hK hb hC
  go_wp2_with fail
  refine (HL.out _).mono ?_
  rintro y w2 ⟨rfl, hb⟩
  have HK2 := Lib.hid (HK1.out.keep hb HK1.out.lt); have HB2 := Lib.hid (below_transG HB1.out hb); have HO2 := Lib.hid (HO1.out.keep hb HO1.out.lt)
  clear hb q0 q1 q2 q3
  go_wp2_with fail
  refine (rk_step C true k1 X _ HK2.out).mono ?_
  rintro y w3 ⟨rfl, hK, hk⟩
  have HK3 := Lib.hid hK; have HB3 := Lib.hid (HB2.out.trans (hk.belowN HCC.out HB2.out.size (fun k e => by cases e)))
  have HO3 := Lib.hid (HO2.out.on (hk.block B HO2.out.lt HBC.out (fun e => by cases e)))
  clear hK hk
  go_wp2_with fail
  refine (HA.out _).mono ?_
  rintro y w4 ⟨rfl, rfl⟩
  go_wp2_with fail
  refine (rk_step C (true && k1) k2 s _ HK3.out).mono ?_
  rintro y w5 ⟨rfl, hK, hk⟩
  rw [Bool.true_and, ← HKK.out] at hK
  have HK5 := Lib.hid hK; have HB5 := Lib.hid (HB3.out.trans (hk.belowN HCC.out HB3.out.size (fun k e => by cases e)))
  have HO5 := Lib.hid (HO3.out.on (hk.block B HO3.out.lt HBC.out (fun e => by cases e)))
  clear hK hk HK1 HK2 HK3 HB1 HB2 HB3 HO1 HO2 HO3 HKK
  go_wp2_with fail
  refine (rk_ok C K _ HK5.out).mono ?_
  rintro y w6 ⟨rfl, rfl⟩
  have HKp := Lib.hid (Kp.of_below (B := B) (v := .slice none 0 0) HB5.out)
  cases K
  case false =>
    obtain rfl : E = 9 := by rw [HE.out]; rfl
    clear HE
    go_wp2_with fail
    go_ret
    have hz := HO5.out
    rw [← HST.out] at hz
    exact ⟨rfl, hz, HKp.out⟩
  case true =>
    go_wp2_with fail
    refine (HM.out _).mono ?_
    rintro y w7 ⟨rfl, rfl⟩
    cases m
    case false =>
      obtain rfl : E = 9 := by rw [HE.out]; rfl
      clear HE
      go_wp2_with fail
      go_ret
      have hz := HO5.out
      rw [← HST.out] at hz
      exact ⟨rfl, hz, HKp.out⟩
    case true =>
      obtain rfl : E = 0 := by rw [HE.out]; rfl
      clear HE
      have q0 := HO5.out.cellO HC.out.g0
      have q1 := HO5.out.cellO HC.out.g1
      have q2 := HO5.out.cellO HC.out.g2
      have q3 := HO5.out.cellO HC.out.g3
      have p0 : w5.frozen? ⟨B, o, none⟩ = false := HO5.out.frozenAt (o)
      have p1 : w5.frozen? ⟨B, o + 1, none⟩ = false := HO5.out.frozenAt (o + 1)
      have p2 : w5.frozen? ⟨B, o + 2, none⟩ = false := HO5.out.frozenAt (o + 2)
      have p3 : w5.frozen? ⟨B, o + 3, none⟩ = false := HO5.out.frozenAt (o + 3)
      have L0 := Lib.hid (List.getElem?_eq_some_iff.1 HC.out.g0).1; have L1 := Lib.hid (List.getElem?_eq_some_iff.1 HC.out.g1).1; have L2 := Lib.hid (List.getElem?_eq_some_iff.1 HC.out.g2).1
      go_wp2_with fail
      go_ret
      exact ⟨rfl, ((HO5.out.put1 (i := o) L0.out _).put1 (i := o + 1) (by rw [List.length_set]; exact L1.out) _).put1 (i := o + 2) (by rw [List.length_set, List.length_set]; exact L2.out) _, ((HKp.out.set o _).set (o + 1) _).set (o + 2) _⟩
theorem cl_shift (n b : Int) (hn : -9223372036854775808 ≤ n ∧ n ≤ 9223372036854775807) (hb : -9223372036854775808 ≤ b ∧ b ≤ 9223372036854775807) (T : TypeId) (l : List Value) (o : Nat) (c v r t : Int) (B : Nat) (w : World) (hB : Blk w B T l) (h : CL l o c v r t) : Calls Try.prog 109 #[.pointer (some ⟨B, o, none⟩), .int .i64 n, .int .i64 b] w fun y w' => y = .returned (.int .i64 (shE c v r n b)) ∧ Blk w' B T (((l.set o (.int .i64 (shC c v r n b))).set (o + 1) (.int .i64 (shV c v r n b))).set (o + 2) (.int .i64 (r))) ∧ Kp B (.slice none 0 0) w w' := by
  have HG := Lib.hid (fun u hu => cl_begin n b r hn hb T l o c v r t B u hu h)
  rw [shE_be] at HG
  have e1 : (if shE c v r n b = 0 then n else c) = shC c v r n b := rfl
  have e2 : (if shE c v r n b = 0 then cutV (lookX c v r n + b) else v) = shV c v r n b := rfl
  have e3 : (if shE c v r n b = 0 then r else r) = r := by split <;> rfl
  rw [e1, e2, e3] at HG
  obtain ⟨E, hE⟩ : ∃ E, E = shE c v r n b := ⟨_, rfl⟩
  obtain ⟨x1, hx1⟩ : ∃ x, x = shC c v r n b := ⟨_, rfl⟩
  obtain ⟨x2, hx2⟩ : ∃ x, x = shV c v r n b := ⟨_, rfl⟩
  rw [← hE, ← hx1, ← hx2] at HG ⊢
  have HH := Lib.hid hB
  have q0 := hB.cellO h.g0
  have q1 := hB.cellO h.g1
  have q2 := hB.cellO h.g2
  have q3 := hB.cellO h.g3
  clear h hn hb e1 e2 e3 hE hx1 hx2 hB
  go_enter Try.func109, Try.ntmps109
  go_wp2_with fail
  refine (HG.out _ HH.out).mono ?_
  rintro y w1 ⟨rfl, hO, hk⟩
  have HO := Lib.hid hO; have HK := Lib.hid hk
  clear hO hk
  go_wp2_with fail
  go_ret
  exact ⟨rfl, HO.out, HK.out⟩
theorem cl_tune (n q : Int) (hn : -9223372036854775808 ≤ n ∧ n ≤ 9223372036854775807) (T : TypeId) (l : List Value) (o : Nat) (c v r t : Int) (B : Nat) (w : World) (hB : Blk w B T l) (h : CL l o c v r t) : Calls Try.prog 170 #[.pointer (some ⟨B, o, none⟩), .int .i64 n, .int .i64 q] w fun y w' => y = .returned (.int .i64 (tuE c v r n q)) ∧ Blk w' B T (((l.set o (.int .i64 (tuC c v r n q))).set (o + 1) (.int .i64 (tuV c v r n q))).set (o + 2) (.int .i64 (tuR c v r n q))) ∧ Kp B (.slice none 0 0) w w' := by
  have cs : q < 1044480 ∨ (¬ q < 1044480 ∧ 1052672 < q) ∨ (¬ q < 1044480 ∧ ¬ 1052672 < q) := by omega
  have HST := Lib.hid h.stays
  rcases cs with g | ⟨g, g2⟩ | ⟨g, g2⟩
  · have e : tuE c v r n q = 1 := if_pos (.inl g)
    unfold tuC tuV tuR
    rw [e, if_neg (by decide), if_neg (by decide), if_neg (by decide), HST.out]
    have HH := Lib.hid hB
    clear h e hn hB
    go_enter Try.func170, Try.ntmps170
    go_wp2_with fail
    go_ret
    exact ⟨rfl, HH.out, Kp.refl _ _ _⟩
  · have e : tuE c v r n q = 1 := if_pos (.inr g2)
    unfold tuC tuV tuR
    rw [e, if_neg (by decide), if_neg (by decide), if_neg (by decide), HST.out]
    have HH := Lib.hid hB
    clear h e hn hB
    go_enter Try.func170, Try.ntmps170
    go_wp2_with fail
    go_ret
    exact ⟨rfl, HH.out, Kp.refl _ _ _⟩
  · have HG := Lib.hid (fun u hu => cl_begin n 0 q hn (by decide) T l o c v r t B u hu h)
    rw [tuE_be (q := q) (by omega), Int.add_zero, cut_yes (by have := look_in c v r n; omega)] at HG
    have e1 : (if tuE c v r n q = 0 then n else c) = tuC c v r n q := rfl
    have e2 : (if tuE c v r n q = 0 then lookX c v r n else v) = tuV c v r n q := rfl
    have e3 : (if tuE c v r n q = 0 then q else r) = tuR c v r n q := rfl
    rw [e1, e2, e3] at HG
    obtain ⟨E, hE⟩ : ∃ E, E = tuE c v r n q := ⟨_, rfl⟩
    obtain ⟨x1, hx1⟩ : ∃ x, x = tuC c v r n q := ⟨_, rfl⟩
    obtain ⟨x2, hx2⟩ : ∃ x, x = tuV c v r n q := ⟨_, rfl⟩
    obtain ⟨x3, hx3⟩ : ∃ x, x = tuR c v r n q := ⟨_, rfl⟩
    rw [← hE, ← hx1, ← hx2, ← hx3] at HG ⊢
    have HH := Lib.hid hB
    clear h hn e1 e2 e3 hE hx1 hx2 hx3 hB
    go_enter Try.func170, Try.ntmps170
    go_wp2_with fail
    refine (HG.out _ HH.out).mono ?_
    rintro y w1 ⟨rfl, hO, hk⟩
    have HO := Lib.hid hO; have HK := Lib.hid hk
    clear hO hk
    go_wp2_with fail
    go_ret
    exact ⟨rfl, HO.out, HK.out⟩
end Go.Proofs.Ytbjelggbnmfblaa
