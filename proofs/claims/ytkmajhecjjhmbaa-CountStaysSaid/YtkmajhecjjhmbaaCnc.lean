/- The document's own answers of layer 10 in plain words: Right, sure, Mode, TxFail, RxFail, TxGood, RxGood: what they return. -/
import Derived.Test.YtkmajhecjjhmbaaCnb
namespace Go.Proofs.Ytkmajhecjjhmbaa
open Go.RowKit
set_option maxHeartbeats 1000000 in
theorem refRight_any (tx rx : Int) (off : Bool) (w : World) : Calls Try.prog 8 #[cV tx rx off] w fun x w' => x = .returned (.bool (rightC tx rx off)) ∧ Below w.heap.size w w' := by
  unfold rightC cV
  obtain ⟨b1, h1⟩ : ∃ b, decide (0 ≤ tx) = b := ⟨_, rfl⟩
  obtain ⟨b2, h2⟩ : ∃ b, decide (tx ≤ 256) = b := ⟨_, rfl⟩
  obtain ⟨b3, h3⟩ : ∃ b, decide (0 ≤ rx) = b := ⟨_, rfl⟩
  obtain ⟨b4, h4⟩ : ∃ b, decide (rx ≤ 255) = b := ⟨_, rfl⟩
  obtain ⟨b5, h5⟩ : ∃ b, (tx == 256) = b := ⟨_, rfl⟩
  rw [h1, h2, h3, h4, h5]
  obtain ⟨b6, h6⟩ : ∃ b, (off == b5) = b := ⟨_, rfl⟩
  rw [h6]
  have parts : (b1 = false) ∨ (b1 = true ∧ b2 = false) ∨ (b1 = true ∧ b2 = true ∧ b3 = false) ∨ (b1 = true ∧ b2 = true ∧ b3 = true ∧ b4 = false) ∨ (b1 = true ∧ b2 = true ∧ b3 = true ∧ b4 = true) := by cases b1 <;> cases b2 <;> cases b3 <;> cases b4 <;> simp
  rcases parts with rfl | ⟨rfl, rfl⟩ | ⟨rfl, rfl, rfl⟩ | ⟨rfl, rfl, rfl, rfl⟩ | ⟨rfl, rfl, rfl, rfl⟩
  all_goals go_enter Try.func8, Try.ntmps8
  all_goals go_wp2_with (fail)
  all_goals go_ret
  all_goals exact ⟨by simp, (Below.refl _ _).alloc (Nat.le_refl _) _⟩
set_option maxHeartbeats 1000000 in
theorem sure_any (tx rx : Int) (off : Bool) (w : World) : Calls Try.prog 21 #[cV tx rx off] w fun x w' => x = .returned (cV (nT tx rx off) (nR tx rx off) (nO tx rx off)) ∧ Below w.heap.size w w' := by
  have HA := Lib.hid (fun u => refRight_any tx rx off u)
  cases h : rightC tx rx off
  · have e1 : nT tx rx off = 0 := by unfold nT; rw [h]; rfl
    have e2 : nR tx rx off = 0 := by unfold nR; rw [h]; rfl
    have e3 : nO tx rx off = false := by unfold nO; rw [h]; rfl
    rw [e1, e2, e3]
    rw [h] at HA
    clear e1 e2 e3 h
    unfold cV at HA ⊢
    go_enter Try.func21, Try.ntmps21
    go_wp2_with (fail)
    refine (HA.out _).mono ?_
    rintro x w1 ⟨rfl, hb⟩
    have T := (Tri.new (w.alloc (.cells #[.int .i64 tx, .int .i64 rx, .bool off] 23)) (.int .i64 0) (.int .i64 0) (.bool false) 23 (B := w.heap.size + 1) (by simp)).keep hb (by simp)
    have HT := Lib.hid (below_trans' (((Below.refl _ w).alloc (Nat.le_refl _) (.cells #[.int .i64 tx, .int .i64 rx, .bool off] 23)).alloc (by simp) (.cells #[.int .i64 0, .int .i64 0, .bool false] 23)) hb)
    clear hb
    have T2 := ((T.set0 (.int .i64 0)).set1 (.int .i64 0)).set2 (.bool false)
    obtain ⟨t0, t1, t2, t3, t4, t5⟩ := T
    go_wp2_with (fail)
    obtain ⟨z0, z1, z2, _, _, _⟩ := T2
    refine bodyPost_ret (v := .agg #[.int .i64 0, .int .i64 0, .bool false]) (by simp [results, Try.results21, go_sem, z0, z1, z2]) rfl ⟨rfl, ?_⟩
    exact (((HT.out).setCell (by simp) _).setCell (by simp) _).setCell (by simp) _
  · have e1 : nT tx rx off = tx := by unfold nT; rw [h]; rfl
    have e2 : nR tx rx off = rx := by unfold nR; rw [h]; rfl
    have e3 : nO tx rx off = off := by unfold nO; rw [h]; rfl
    rw [e1, e2, e3]
    rw [h] at HA
    clear e1 e2 e3 h
    unfold cV at HA ⊢
    go_enter Try.func21, Try.ntmps21
    go_wp2_with (fail)
    refine (HA.out _).mono ?_
    rintro x w1 ⟨rfl, hb⟩
    have S := ((Tri.new w (.int .i64 tx) (.int .i64 rx) (.bool off) 23 rfl).more (by simp) (.cells #[.int .i64 0, .int .i64 0, .bool false] 23)).keep hb (by simp; omega)
    have T := (Tri.new (w.alloc (.cells #[.int .i64 tx, .int .i64 rx, .bool off] 23)) (.int .i64 0) (.int .i64 0) (.bool false) 23 (B := w.heap.size + 1) (by simp)).keep hb (by simp)
    have HT := Lib.hid (below_trans' (((Below.refl _ w).alloc (Nat.le_refl _) (.cells #[.int .i64 tx, .int .i64 rx, .bool off] 23)).alloc (by simp) (.cells #[.int .i64 0, .int .i64 0, .bool false] 23)) hb)
    clear hb
    have T2 := ((T.set0 (.int .i64 tx)).set1 (.int .i64 rx)).set2 (.bool off)
    obtain ⟨t0, t1, t2, t3, t4, t5⟩ := T
    obtain ⟨s0, s1, s2, s3, s4, s5⟩ := S
    go_wp2_with (fail)
    obtain ⟨z0, z1, z2, _, _, _⟩ := T2
    refine bodyPost_ret (v := .agg #[.int .i64 tx, .int .i64 rx, .bool off]) (by simp [results, Try.results21, go_sem, z0, z1, z2]) rfl ⟨rfl, ?_⟩
    exact (((HT.out).setCell (by simp) _).setCell (by simp) _).setCell (by simp) _
set_option maxHeartbeats 2000000 in
theorem refTxGood_any (tx rx : Int) (off : Bool) (w : World) : Calls Try.prog 16 #[cV tx rx off] w fun x w' => x = .returned (cV (txG (nT tx rx off)) (nR tx rx off) (nO tx rx off)) ∧ Below w.heap.size w w' := by
  have HA := Lib.hid (fun u => sure_any tx rx off u)
  obtain ⟨g0, g1, g2, g3, g4⟩ := n_can tx rx off
  obtain ⟨t, ht⟩ : ∃ t, t = nT tx rx off := ⟨_, rfl⟩
  obtain ⟨r, hr⟩ : ∃ r, r = nR tx rx off := ⟨_, rfl⟩
  obtain ⟨o, ho⟩ : ∃ o, o = nO tx rx off := ⟨_, rfl⟩
  rw [← ht, ← hr, ← ho] at HA
  rw [← ht] at g0 g1 g4
  rw [← hr] at g2 g3
  rw [← ho] at g4
  rw [← ht, ← hr, ← ho]
  clear ht hr ho
  have HG := Lib.hid (show 0 ≤ t ∧ t ≤ 256 ∧ 0 ≤ r ∧ r ≤ 255 ∧ o = (t == 256) from ⟨g0, g1, g2, g3, g4⟩)
  clear g0 g1 g2 g3 g4
  unfold cV at HA ⊢
  skip
  go_enter Try.func16, Try.ntmps16
  go_wp2_with (fail)
  refine (HA.out _).mono ?_
  rintro x w1 ⟨rfl, hb⟩
  have S := ((Tri.new w (.int .i64 tx) (.int .i64 rx) (.bool off) 23 rfl).more (by simp) (.cells #[.int .i64 0, .int .i64 0, .bool false] 23)).keep hb (by simp; omega)
  have T := (Tri.new (w.alloc (.cells #[.int .i64 tx, .int .i64 rx, .bool off] 23)) (.int .i64 0) (.int .i64 0) (.bool false) 23 (B := w.heap.size + 1) (by simp)).keep hb (by simp)
  have HT := Lib.hid (below_trans' (((Below.refl _ w).alloc (Nat.le_refl _) (.cells #[.int .i64 tx, .int .i64 rx, .bool off] 23)).alloc (by simp) (.cells #[.int .i64 0, .int .i64 0, .bool false] 23)) hb)
  clear hb
  have S2 := ((S.set0 (.int .i64 t)).set1 (.int .i64 r)).set2 (.bool o)
  obtain ⟨wr, hwr⟩ : ∃ wr, wr = ((w1.setCell ⟨w.heap.size, 0, none⟩ (.int .i64 t)).setCell ⟨w.heap.size, 1, none⟩ (.int .i64 r)).setCell ⟨w.heap.size, 2, none⟩ (.bool o) := ⟨_, rfl⟩
  have T2 := T.other3 (C := w.heap.size) (by omega) (.int .i64 t) (.int .i64 r) (.bool o)
  have H2 := Lib.hid (((HT.out.setCell (p := ⟨w.heap.size, 0, none⟩) (by simp) (.int .i64 t)).setCell (p := ⟨w.heap.size, 1, none⟩) (by simp) (.int .i64 r)).setCell (p := ⟨w.heap.size, 2, none⟩) (by simp) (.bool o))
  skip
  skip
  rw [← hwr] at S2 T2 H2
  obtain ⟨s0, s1, s2, s3, s4, s5⟩ := S
  go_upto_region 2 with fail
  rw [← hwr]
  clear hwr s0 s1 s2 s3 s4 s5 HT T
  obtain ⟨s0, s1, s2, s3, s4, s5⟩ := S2
  obtain ⟨t0, t1, t2, t3, t4, t5⟩ := id T2
  have cs : (t ≤ 0) ∨ (t = 256) ∨ (0 < t ∧ t < 256) := by
    obtain ⟨g0, g1, g2, g3, g4⟩ := HG.out
    omega
  rcases cs with hc | hc | hc
  · have HCS := Lib.hid hc; clear hc
    obtain ⟨g0, g1, g2, g3, g4⟩ := HG.out
    have hc := HCS.out
    have HF0 := Lib.hid (show txG (t) = t from by unfold txG; rw [if_neg (by omega)])
    have c1 : decide (0 < t) = false := by simp; omega
    clear g0 g1 g2 g3 g4 hc
    go_wp2_with (fail)
    obtain ⟨z0, z1, z2, _, _, _⟩ := ((T2.set0 (.int .i64 (t))).set1 (.int .i64 (r))).set2 (.bool (o))
    refine bodyPost_ret (v := .agg #[.int .i64 (t), .int .i64 (r), .bool (o)]) (by simp [results, Try.results16, go_sem, z0, z1, z2]) rfl ⟨by rw [HF0.out], (((H2.out.setCell (p := ⟨w.heap.size + 1, 0, none⟩) (by simp) (.int .i64 (t))).setCell (p := ⟨w.heap.size + 1, 1, none⟩) (by simp) (.int .i64 (r))).setCell (p := ⟨w.heap.size + 1, 2, none⟩) (by simp) (.bool (o)))⟩
  · have HCS := Lib.hid hc; clear hc
    obtain ⟨g0, g1, g2, g3, g4⟩ := HG.out
    have hc := HCS.out
    have HF0 := Lib.hid (show txG (t) = t from by unfold txG; rw [if_neg (by omega)])
    have c1 : decide (0 < t) = true := by simp; omega
    have ho : o = true := by rw [g4, hc]; rfl
    subst ho
    clear g0 g1 g2 g3 g4 hc
    go_wp2_with (fail)
    obtain ⟨z0, z1, z2, _, _, _⟩ := ((T2.set0 (.int .i64 (t))).set1 (.int .i64 (r))).set2 (.bool (true))
    refine bodyPost_ret (v := .agg #[.int .i64 (t), .int .i64 (r), .bool (true)]) (by simp [results, Try.results16, go_sem, z0, z1, z2]) rfl ⟨by rw [HF0.out], (((H2.out.setCell (p := ⟨w.heap.size + 1, 0, none⟩) (by simp) (.int .i64 (t))).setCell (p := ⟨w.heap.size + 1, 1, none⟩) (by simp) (.int .i64 (r))).setCell (p := ⟨w.heap.size + 1, 2, none⟩) (by simp) (.bool (true)))⟩
  · have HCS := Lib.hid hc; clear hc
    obtain ⟨g0, g1, g2, g3, g4⟩ := HG.out
    have hc := HCS.out
    have HF0 := Lib.hid (show txG (t) = t - 1 from by unfold txG; rw [if_pos (by omega)])
    have c1 : decide (0 < t) = true := by simp; omega
    have ho : o = false := by rw [g4]; simp; omega
    subst ho
    have hw : IntKind.i64.wrap (t - 1) = t - 1 := by rw [IntKind.wrap_i64]; omega
    clear g0 g1 g2 g3 g4 hc
    go_wp2_with (fail)
    obtain ⟨z0, z1, z2, _, _, _⟩ := (((T2.other (C := w.heap.size) (by omega) 0 (.int .i64 (t - 1))).set0 (.int .i64 (t - 1))).set1 (.int .i64 (r))).set2 (.bool (false))
    refine bodyPost_ret (v := .agg #[.int .i64 (t - 1), .int .i64 (r), .bool (false)]) (by simp [results, Try.results16, go_sem, z0, z1, z2]) rfl ⟨by rw [HF0.out], ((((H2.out.setCell (p := ⟨w.heap.size, 0, none⟩) (by simp) (.int .i64 (t - 1))).setCell (p := ⟨w.heap.size + 1, 0, none⟩) (by simp) (.int .i64 (t - 1))).setCell (p := ⟨w.heap.size + 1, 1, none⟩) (by simp) (.int .i64 (r))).setCell (p := ⟨w.heap.size + 1, 2, none⟩) (by simp) (.bool (false)))⟩
set_option maxHeartbeats 2000000 in
theorem refRxGood_any (tx rx : Int) (off : Bool) (w : World) : Calls Try.prog 18 #[cV tx rx off] w fun x w' => x = .returned (cV (nT tx rx off) (rxG (nR tx rx off)) (nO tx rx off)) ∧ Below w.heap.size w w' := by
  have HA := Lib.hid (fun u => sure_any tx rx off u)
  obtain ⟨g0, g1, g2, g3, g4⟩ := n_can tx rx off
  obtain ⟨t, ht⟩ : ∃ t, t = nT tx rx off := ⟨_, rfl⟩
  obtain ⟨r, hr⟩ : ∃ r, r = nR tx rx off := ⟨_, rfl⟩
  obtain ⟨o, ho⟩ : ∃ o, o = nO tx rx off := ⟨_, rfl⟩
  rw [← ht, ← hr, ← ho] at HA
  rw [← ht] at g0 g1 g4
  rw [← hr] at g2 g3
  rw [← ho] at g4
  rw [← ht, ← hr, ← ho]
  clear ht hr ho
  have HG := Lib.hid (show 0 ≤ t ∧ t ≤ 256 ∧ 0 ≤ r ∧ r ≤ 255 ∧ o = (t == 256) from ⟨g0, g1, g2, g3, g4⟩)
  clear g0 g1 g2 g3 g4
  unfold cV at HA ⊢
  skip
  go_enter Try.func18, Try.ntmps18
  go_wp2_with (fail)
  refine (HA.out _).mono ?_
  rintro x w1 ⟨rfl, hb⟩
  have S := ((Tri.new w (.int .i64 tx) (.int .i64 rx) (.bool off) 23 rfl).more (by simp) (.cells #[.int .i64 0, .int .i64 0, .bool false] 23)).keep hb (by simp; omega)
  have T := (Tri.new (w.alloc (.cells #[.int .i64 tx, .int .i64 rx, .bool off] 23)) (.int .i64 0) (.int .i64 0) (.bool false) 23 (B := w.heap.size + 1) (by simp)).keep hb (by simp)
  have HT := Lib.hid (below_trans' (((Below.refl _ w).alloc (Nat.le_refl _) (.cells #[.int .i64 tx, .int .i64 rx, .bool off] 23)).alloc (by simp) (.cells #[.int .i64 0, .int .i64 0, .bool false] 23)) hb)
  clear hb
  have S2 := ((S.set0 (.int .i64 t)).set1 (.int .i64 r)).set2 (.bool o)
  obtain ⟨wr, hwr⟩ : ∃ wr, wr = ((w1.setCell ⟨w.heap.size, 0, none⟩ (.int .i64 t)).setCell ⟨w.heap.size, 1, none⟩ (.int .i64 r)).setCell ⟨w.heap.size, 2, none⟩ (.bool o) := ⟨_, rfl⟩
  have T2 := T.other3 (C := w.heap.size) (by omega) (.int .i64 t) (.int .i64 r) (.bool o)
  have H2 := Lib.hid (((HT.out.setCell (p := ⟨w.heap.size, 0, none⟩) (by simp) (.int .i64 t)).setCell (p := ⟨w.heap.size, 1, none⟩) (by simp) (.int .i64 r)).setCell (p := ⟨w.heap.size, 2, none⟩) (by simp) (.bool o))
  skip
  skip
  rw [← hwr] at S2 T2 H2
  obtain ⟨s0, s1, s2, s3, s4, s5⟩ := S
  go_upto_region 2 with fail
  rw [← hwr]
  clear hwr s0 s1 s2 s3 s4 s5 HT T
  obtain ⟨s0, s1, s2, s3, s4, s5⟩ := S2
  obtain ⟨t0, t1, t2, t3, t4, t5⟩ := id T2
  have cs : (128 ≤ r) ∨ (r = 0) ∨ (0 < r ∧ r < 128) := by
    obtain ⟨g0, g1, g2, g3, g4⟩ := HG.out
    omega
  rcases cs with hc | hc | hc
  · have HCS := Lib.hid hc; clear hc
    obtain ⟨g0, g1, g2, g3, g4⟩ := HG.out
    have hc := HCS.out
    have HF1 := Lib.hid (show rxG (r) = 120 from by unfold rxG; rw [if_pos hc])
    have c1 : decide (128 ≤ r) = true := by simp; omega
    clear g0 g1 g2 g3 g4 hc
    go_wp2_with (fail)
    obtain ⟨z0, z1, z2, _, _, _⟩ := (((T2.other (C := w.heap.size) (by omega) 1 (.int .i64 120)).set0 (.int .i64 (t))).set1 (.int .i64 (120))).set2 (.bool (o))
    refine bodyPost_ret (v := .agg #[.int .i64 (t), .int .i64 (120), .bool (o)]) (by simp [results, Try.results18, go_sem, z0, z1, z2]) rfl ⟨by rw [HF1.out], ((((H2.out.setCell (p := ⟨w.heap.size, 1, none⟩) (by simp) (.int .i64 120)).setCell (p := ⟨w.heap.size + 1, 0, none⟩) (by simp) (.int .i64 (t))).setCell (p := ⟨w.heap.size + 1, 1, none⟩) (by simp) (.int .i64 (120))).setCell (p := ⟨w.heap.size + 1, 2, none⟩) (by simp) (.bool (o)))⟩
  · have HCS := Lib.hid hc; clear hc
    obtain ⟨g0, g1, g2, g3, g4⟩ := HG.out
    have hc := HCS.out
    have HF1 := Lib.hid (show rxG (r) = r from by unfold rxG; rw [if_neg (by omega), if_neg (by omega)])
    have c1 : decide (128 ≤ r) = false := by simp; omega
    have c2 : decide (0 < r) = false := by simp; omega
    clear g0 g1 g2 g3 g4 hc
    go_wp2_with (fail)
    obtain ⟨z0, z1, z2, _, _, _⟩ := ((T2.set0 (.int .i64 (t))).set1 (.int .i64 (r))).set2 (.bool (o))
    refine bodyPost_ret (v := .agg #[.int .i64 (t), .int .i64 (r), .bool (o)]) (by simp [results, Try.results18, go_sem, z0, z1, z2]) rfl ⟨by rw [HF1.out], (((H2.out.setCell (p := ⟨w.heap.size + 1, 0, none⟩) (by simp) (.int .i64 (t))).setCell (p := ⟨w.heap.size + 1, 1, none⟩) (by simp) (.int .i64 (r))).setCell (p := ⟨w.heap.size + 1, 2, none⟩) (by simp) (.bool (o)))⟩
  · have HCS := Lib.hid hc; clear hc
    obtain ⟨g0, g1, g2, g3, g4⟩ := HG.out
    have hc := HCS.out
    have HF1 := Lib.hid (show rxG (r) = r - 1 from by unfold rxG; rw [if_neg (by omega), if_pos (by omega)])
    have c1 : decide (128 ≤ r) = false := by simp; omega
    have c2 : decide (0 < r) = true := by simp; omega
    have hw : IntKind.i64.wrap (r - 1) = r - 1 := by rw [IntKind.wrap_i64]; omega
    clear g0 g1 g2 g3 g4 hc
    go_wp2_with (fail)
    obtain ⟨z0, z1, z2, _, _, _⟩ := (((T2.other (C := w.heap.size) (by omega) 1 (.int .i64 (r - 1))).set0 (.int .i64 (t))).set1 (.int .i64 (r - 1))).set2 (.bool (o))
    refine bodyPost_ret (v := .agg #[.int .i64 (t), .int .i64 (r - 1), .bool (o)]) (by simp [results, Try.results18, go_sem, z0, z1, z2]) rfl ⟨by rw [HF1.out], ((((H2.out.setCell (p := ⟨w.heap.size, 1, none⟩) (by simp) (.int .i64 (r - 1))).setCell (p := ⟨w.heap.size + 1, 0, none⟩) (by simp) (.int .i64 (t))).setCell (p := ⟨w.heap.size + 1, 1, none⟩) (by simp) (.int .i64 (r - 1))).setCell (p := ⟨w.heap.size + 1, 2, none⟩) (by simp) (.bool (o)))⟩
set_option maxHeartbeats 2000000 in
theorem refMode_any (tx rx : Int) (off : Bool) (w : World) : Calls Try.prog 10 #[cV tx rx off] w fun x w' => x = .returned (.int .i64 (moF (nT tx rx off) (nR tx rx off))) ∧ Below w.heap.size w w' := by
  have HA := Lib.hid (fun u => sure_any tx rx off u)
  obtain ⟨g0, g1, g2, g3, g4⟩ := n_can tx rx off
  obtain ⟨t, ht⟩ : ∃ t, t = nT tx rx off := ⟨_, rfl⟩
  obtain ⟨r, hr⟩ : ∃ r, r = nR tx rx off := ⟨_, rfl⟩
  obtain ⟨o, ho⟩ : ∃ o, o = nO tx rx off := ⟨_, rfl⟩
  rw [← ht, ← hr, ← ho] at HA
  rw [← ht] at g0 g1 g4
  rw [← hr] at g2 g3
  rw [← ho] at g4
  rw [← ht, ← hr]
  clear ht hr ho
  have HG := Lib.hid (show 0 ≤ t ∧ t ≤ 256 ∧ 0 ≤ r ∧ r ≤ 255 ∧ o = (t == 256) from ⟨g0, g1, g2, g3, g4⟩)
  clear g0 g1 g2 g3 g4
  unfold cV at HA 
  unfold cV
  go_enter Try.func10, Try.ntmps10
  go_wp2_with (fail)
  refine (HA.out _).mono ?_
  rintro x w1 ⟨rfl, hb⟩
  have S := (Tri.new w (.int .i64 tx) (.int .i64 rx) (.bool off) 23 rfl).keep hb (by simp)
  have HT := Lib.hid (below_trans' ((Below.refl _ w).alloc (Nat.le_refl _) (.cells #[.int .i64 tx, .int .i64 rx, .bool off] 23)) hb)
  clear hb
  have S2 := ((S.set0 (.int .i64 t)).set1 (.int .i64 r)).set2 (.bool o)
  obtain ⟨wr, hwr⟩ : ∃ wr, wr = ((w1.setCell ⟨w.heap.size, 0, none⟩ (.int .i64 t)).setCell ⟨w.heap.size, 1, none⟩ (.int .i64 r)).setCell ⟨w.heap.size, 2, none⟩ (.bool o) := ⟨_, rfl⟩

  have H2 := Lib.hid (((HT.out.setCell (p := ⟨w.heap.size, 0, none⟩) (by simp) (.int .i64 t)).setCell (p := ⟨w.heap.size, 1, none⟩) (by simp) (.int .i64 r)).setCell (p := ⟨w.heap.size, 2, none⟩) (by simp) (.bool o))
  skip
  skip
  rw [← hwr] at S2 H2
  obtain ⟨s0, s1, s2, s3, s4, s5⟩ := S
  go_upto_region 2 with fail
  rw [← hwr]
  clear hwr s0 s1 s2 s3 s4 s5 HT 
  obtain ⟨s0, s1, s2, s3, s4, s5⟩ := S2

  have cs : (t = 256) ∨ (128 ≤ t ∧ t < 256) ∨ (t < 128 ∧ 128 ≤ r) ∨ (t < 128 ∧ r < 128) := by
    obtain ⟨g0, g1, g2, g3, g4⟩ := HG.out
    omega
  rcases cs with hc | hc | hc | hc
  · have HCS := Lib.hid hc; clear hc
    obtain ⟨g0, g1, g2, g3, g4⟩ := HG.out
    have hc := HCS.out
    have HF := Lib.hid (show moF (t) (r) = 2 by unfold moF; rw [if_pos hc])
    have ho : o = true := by rw [g4, hc]; rfl
    subst ho
    clear g0 g1 g2 g3 g4 hc
    go_wp2_with (fail)
    go_ret
    exact ⟨by rw [HF.out]; rfl, H2.out⟩
  · have HCS := Lib.hid hc; clear hc
    obtain ⟨g0, g1, g2, g3, g4⟩ := HG.out
    have hc := HCS.out
    have HF := Lib.hid (show moF (t) (r) = 1 by unfold moF; rw [if_neg (by omega), if_pos (by omega)])
    have ho : o = false := by rw [g4]; simp; omega
    subst ho
    have c1 : decide (128 ≤ t) = true := by simp; omega
    clear g0 g1 g2 g3 g4 hc
    go_wp2_with (fail)
    go_ret
    exact ⟨by rw [HF.out]; rfl, H2.out⟩
  · have HCS := Lib.hid hc; clear hc
    obtain ⟨g0, g1, g2, g3, g4⟩ := HG.out
    have hc := HCS.out
    have HF := Lib.hid (show moF (t) (r) = 1 by unfold moF; rw [if_neg (by omega), if_pos (by omega)])
    have ho : o = false := by rw [g4]; simp; omega
    subst ho
    have c1 : decide (128 ≤ t) = false := by simp; omega
    have c2 : decide (128 ≤ r) = true := by simp; omega
    clear g0 g1 g2 g3 g4 hc
    go_wp2_with (fail)
    go_ret
    exact ⟨by rw [HF.out]; rfl, H2.out⟩
  · have HCS := Lib.hid hc; clear hc
    obtain ⟨g0, g1, g2, g3, g4⟩ := HG.out
    have hc := HCS.out
    have HF := Lib.hid (show moF (t) (r) = 0 by unfold moF; rw [if_neg (by omega), if_neg (by omega)])
    have ho : o = false := by rw [g4]; simp; omega
    subst ho
    have c1 : decide (128 ≤ t) = false := by simp; omega
    have c2 : decide (128 ≤ r) = false := by simp; omega
    clear g0 g1 g2 g3 g4 hc
    go_wp2_with (fail)
    go_ret
    exact ⟨by rw [HF.out]; rfl, H2.out⟩
set_option maxHeartbeats 2000000 in
theorem refTxFail_any (tx rx : Int) (off : Bool) (w : World) : Calls Try.prog 12 #[cV tx rx off] w fun x w' => x = .returned (cV (txF (nT tx rx off)) (nR tx rx off) (decide (248 ≤ nT tx rx off))) ∧ Below w.heap.size w w' := by
  have HA := Lib.hid (fun u => sure_any tx rx off u)
  obtain ⟨g0, g1, g2, g3, g4⟩ := n_can tx rx off
  obtain ⟨t, ht⟩ : ∃ t, t = nT tx rx off := ⟨_, rfl⟩
  obtain ⟨r, hr⟩ : ∃ r, r = nR tx rx off := ⟨_, rfl⟩
  obtain ⟨o, ho⟩ : ∃ o, o = nO tx rx off := ⟨_, rfl⟩
  rw [← ht, ← hr, ← ho] at HA
  rw [← ht] at g0 g1 g4
  rw [← hr] at g2 g3
  rw [← ho] at g4
  rw [← ht, ← hr]
  clear ht hr ho
  have HG := Lib.hid (show 0 ≤ t ∧ t ≤ 256 ∧ 0 ≤ r ∧ r ≤ 255 ∧ o = (t == 256) from ⟨g0, g1, g2, g3, g4⟩)
  clear g0 g1 g2 g3 g4
  unfold cV at HA ⊢
  skip
  go_enter Try.func12, Try.ntmps12
  go_wp2_with (fail)
  refine (HA.out _).mono ?_
  rintro x w1 ⟨rfl, hb⟩
  have S := ((Tri.new w (.int .i64 tx) (.int .i64 rx) (.bool off) 23 rfl).more (by simp) (.cells #[.int .i64 0, .int .i64 0, .bool false] 23)).keep hb (by simp; omega)
  have T := (Tri.new (w.alloc (.cells #[.int .i64 tx, .int .i64 rx, .bool off] 23)) (.int .i64 0) (.int .i64 0) (.bool false) 23 (B := w.heap.size + 1) (by simp)).keep hb (by simp)
  have HT := Lib.hid (below_trans' (((Below.refl _ w).alloc (Nat.le_refl _) (.cells #[.int .i64 tx, .int .i64 rx, .bool off] 23)).alloc (by simp) (.cells #[.int .i64 0, .int .i64 0, .bool false] 23)) hb)
  clear hb
  have S2 := ((S.set0 (.int .i64 t)).set1 (.int .i64 r)).set2 (.bool o)
  obtain ⟨wr, hwr⟩ : ∃ wr, wr = ((w1.setCell ⟨w.heap.size, 0, none⟩ (.int .i64 t)).setCell ⟨w.heap.size, 1, none⟩ (.int .i64 r)).setCell ⟨w.heap.size, 2, none⟩ (.bool o) := ⟨_, rfl⟩
  have T2 := T.other3 (C := w.heap.size) (by omega) (.int .i64 t) (.int .i64 r) (.bool o)
  have H2 := Lib.hid (((HT.out.setCell (p := ⟨w.heap.size, 0, none⟩) (by simp) (.int .i64 t)).setCell (p := ⟨w.heap.size, 1, none⟩) (by simp) (.int .i64 r)).setCell (p := ⟨w.heap.size, 2, none⟩) (by simp) (.bool o))
  skip
  skip
  rw [← hwr] at S2 T2 H2
  obtain ⟨s0, s1, s2, s3, s4, s5⟩ := S
  go_upto_region 2 with fail
  rw [← hwr]
  clear hwr s0 s1 s2 s3 s4 s5 HT T
  obtain ⟨s0, s1, s2, s3, s4, s5⟩ := S2
  obtain ⟨t0, t1, t2, t3, t4, t5⟩ := id T2
  have cs : (248 ≤ t) ∨ (t < 248) := by
    obtain ⟨g0, g1, g2, g3, g4⟩ := HG.out
    omega
  rcases cs with hc | hc
  · have HCS := Lib.hid hc; clear hc
    obtain ⟨g0, g1, g2, g3, g4⟩ := HG.out
    have hc := HCS.out
    have HF0 := Lib.hid (show txF (t) = 256 from by unfold txF; rw [if_pos hc])
    have HF2 := Lib.hid (show decide (248 ≤ t) = true from by simpa using hc)
    have hw : IntKind.i64.wrap (t + 8) = t + 8 := by rw [IntKind.wrap_i64]; omega
    have c1 : decide (256 ≤ t + 8) = true := by simp; omega
    clear g0 g1 g2 g3 g4 hc
    go_wp2_with (fail)
    obtain ⟨z0, z1, z2, _, _, _⟩ := (((((T2.other (C := w.heap.size) (by omega) 0 (.int .i64 (t + 8))).other (C := w.heap.size) (by omega) 0 (.int .i64 256)).other (C := w.heap.size) (by omega) 2 (.bool true)).set0 (.int .i64 (256))).set1 (.int .i64 (r))).set2 (.bool (true))
    refine bodyPost_ret (v := .agg #[.int .i64 (256), .int .i64 (r), .bool (true)]) (by simp [results, Try.results12, go_sem, z0, z1, z2]) rfl ⟨by rw [HF0.out, HF2.out], ((((((H2.out.setCell (p := ⟨w.heap.size, 0, none⟩) (by simp) (.int .i64 (t + 8))).setCell (p := ⟨w.heap.size, 0, none⟩) (by simp) (.int .i64 256)).setCell (p := ⟨w.heap.size, 2, none⟩) (by simp) (.bool true)).setCell (p := ⟨w.heap.size + 1, 0, none⟩) (by simp) (.int .i64 (256))).setCell (p := ⟨w.heap.size + 1, 1, none⟩) (by simp) (.int .i64 (r))).setCell (p := ⟨w.heap.size + 1, 2, none⟩) (by simp) (.bool (true)))⟩
  · have HCS := Lib.hid hc; clear hc
    obtain ⟨g0, g1, g2, g3, g4⟩ := HG.out
    have hc := HCS.out
    have HF0 := Lib.hid (show txF (t) = t + 8 from by unfold txF; rw [if_neg (by omega)])
    have HF2 := Lib.hid (show decide (248 ≤ t) = false from by simp; omega)
    have hw : IntKind.i64.wrap (t + 8) = t + 8 := by rw [IntKind.wrap_i64]; omega
    have c1 : decide (256 ≤ t + 8) = false := by simp; omega
    have ho : o = false := by rw [g4]; simp; omega
    subst ho
    clear g0 g1 g2 g3 g4 hc
    go_wp2_with (fail)
    obtain ⟨z0, z1, z2, _, _, _⟩ := (((T2.other (C := w.heap.size) (by omega) 0 (.int .i64 (t + 8))).set0 (.int .i64 (t + 8))).set1 (.int .i64 (r))).set2 (.bool (false))
    refine bodyPost_ret (v := .agg #[.int .i64 (t + 8), .int .i64 (r), .bool (false)]) (by simp [results, Try.results12, go_sem, z0, z1, z2]) rfl ⟨by rw [HF0.out, HF2.out], ((((H2.out.setCell (p := ⟨w.heap.size, 0, none⟩) (by simp) (.int .i64 (t + 8))).setCell (p := ⟨w.heap.size + 1, 0, none⟩) (by simp) (.int .i64 (t + 8))).setCell (p := ⟨w.heap.size + 1, 1, none⟩) (by simp) (.int .i64 (r))).setCell (p := ⟨w.heap.size + 1, 2, none⟩) (by simp) (.bool (false)))⟩
set_option maxHeartbeats 2000000 in
theorem refRxFail_any (tx rx : Int) (off : Bool) (by' : Int) (w : World) : Calls Try.prog 14 #[cV tx rx off, .int .i64 by'] w fun x w' => x = .returned (cV (nT tx rx off) (rxF (nR tx rx off) by') (nO tx rx off)) ∧ Below w.heap.size w w' := by
  have HA := Lib.hid (fun u => sure_any tx rx off u)
  obtain ⟨g0, g1, g2, g3, g4⟩ := n_can tx rx off
  obtain ⟨t, ht⟩ : ∃ t, t = nT tx rx off := ⟨_, rfl⟩
  obtain ⟨r, hr⟩ : ∃ r, r = nR tx rx off := ⟨_, rfl⟩
  obtain ⟨o, ho⟩ : ∃ o, o = nO tx rx off := ⟨_, rfl⟩
  rw [← ht, ← hr, ← ho] at HA
  rw [← ht] at g0 g1 g4
  rw [← hr] at g2 g3
  rw [← ho] at g4
  rw [← ht, ← hr, ← ho]
  clear ht hr ho
  have HG := Lib.hid (show 0 ≤ t ∧ t ≤ 256 ∧ 0 ≤ r ∧ r ≤ 255 ∧ o = (t == 256) from ⟨g0, g1, g2, g3, g4⟩)
  clear g0 g1 g2 g3 g4
  unfold cV at HA ⊢
  skip
  go_enter Try.func14, Try.ntmps14
  go_wp2_with (fail)
  refine (HA.out _).mono ?_
  rintro x w1 ⟨rfl, hb⟩
  have S := ((Tri.new w (.int .i64 tx) (.int .i64 rx) (.bool off) 23 rfl).more (by simp) (.cells #[.int .i64 0, .int .i64 0, .bool false] 23)).keep hb (by simp; omega)
  have T := (Tri.new (w.alloc (.cells #[.int .i64 tx, .int .i64 rx, .bool off] 23)) (.int .i64 0) (.int .i64 0) (.bool false) 23 (B := w.heap.size + 1) (by simp)).keep hb (by simp)
  have HT := Lib.hid (below_trans' (((Below.refl _ w).alloc (Nat.le_refl _) (.cells #[.int .i64 tx, .int .i64 rx, .bool off] 23)).alloc (by simp) (.cells #[.int .i64 0, .int .i64 0, .bool false] 23)) hb)
  have hsz : w.heap.size + 1 < w1.heap.size := by have := hb.size; simp at this; omega
  clear hb
  have S2 := ((S.set0 (.int .i64 t)).set1 (.int .i64 r)).set2 (.bool o)
  obtain ⟨wr, hwr⟩ : ∃ wr, wr = ((w1.setCell ⟨w.heap.size, 0, none⟩ (.int .i64 t)).setCell ⟨w.heap.size, 1, none⟩ (.int .i64 r)).setCell ⟨w.heap.size, 2, none⟩ (.bool o) := ⟨_, rfl⟩
  have T2 := T.other3 (C := w.heap.size) (by omega) (.int .i64 t) (.int .i64 r) (.bool o)
  have H2 := Lib.hid (((HT.out.setCell (p := ⟨w.heap.size, 0, none⟩) (by simp) (.int .i64 t)).setCell (p := ⟨w.heap.size, 1, none⟩) (by simp) (.int .i64 r)).setCell (p := ⟨w.heap.size, 2, none⟩) (by simp) (.bool o))
  have hsz2 : w.heap.size + 1 < wr.heap.size := by rw [hwr]; simpa [World.setCell] using hsz
  have HLT := Lib.hid (show w.heap.size < wr.heap.size by omega); have HLTb := Lib.hid hsz2; clear hsz hsz2
  rw [← hwr] at S2 T2 H2
  obtain ⟨s0, s1, s2, s3, s4, s5⟩ := S
  go_upto_region 2 with fail
  rw [← hwr]
  clear hwr s0 s1 s2 s3 s4 s5 HT T
  obtain ⟨s0, s1, s2, s3, s4, s5⟩ := S2
  obtain ⟨t0, t1, t2, t3, t4, t5⟩ := id T2
  have cs : (by' < 1) ∨ (1 ≤ by' ∧ 255 < r + by') ∨ (1 ≤ by' ∧ r + by' ≤ 255) := by
    obtain ⟨g0, g1, g2, g3, g4⟩ := HG.out
    omega
  rcases cs with hc | hc | hc
  · have HCS := Lib.hid hc; clear hc
    obtain ⟨g0, g1, g2, g3, g4⟩ := HG.out
    have hc := HCS.out
    have HF1 := Lib.hid (show rxF (r) by' = r from by unfold rxF; rw [if_pos hc])
    have c1 : decide (by' < 1) = true := by simp; omega
    clear g0 g1 g2 g3 g4 hc
    go_wp2_with (fail)
    obtain ⟨z0, z1, z2, _, _, _⟩ := ((T2.set0 (.int .i64 (t))).set1 (.int .i64 (r))).set2 (.bool (o))
    refine bodyPost_ret (v := .agg #[.int .i64 (t), .int .i64 (r), .bool (o)]) (by simp [results, Try.results14, go_sem, z0, z1, z2]) rfl ⟨by rw [HF1.out], (((H2.out.setCell (p := ⟨w.heap.size + 1, 0, none⟩) (by simp) (.int .i64 (t))).setCell (p := ⟨w.heap.size + 1, 1, none⟩) (by simp) (.int .i64 (r))).setCell (p := ⟨w.heap.size + 1, 2, none⟩) (by simp) (.bool (o)))⟩
  · have HCS := Lib.hid hc; clear hc
    obtain ⟨g0, g1, g2, g3, g4⟩ := HG.out
    have hc := HCS.out
    have HF1 := Lib.hid (show rxF (r) by' = 255 from by unfold rxF; rw [if_neg (by omega), if_pos (by omega)])
    have c1 : decide (by' < 1) = false := by simp; omega
    have hv : IntKind.i64.wrap (255 - r) = 255 - r := by rw [IntKind.wrap_i64]; omega
    have c2 : decide (255 - r < by') = true := by simp; omega
    clear g0 g1 g2 g3 g4 hc
    go_wp2_with (fail)
    obtain ⟨z0, z1, z2, _, _, _⟩ := (((T2.other (C := w.heap.size) (by omega) 1 (.int .i64 255)).set0 (.int .i64 (t))).set1 (.int .i64 (255))).set2 (.bool (o))
    refine bodyPost_ret (v := .agg #[.int .i64 (t), .int .i64 (255), .bool (o)]) (by simp [results, Try.results14, go_sem, z0, z1, z2]) rfl ⟨by rw [HF1.out], ((((H2.out.setCell (p := ⟨w.heap.size, 1, none⟩) (by simp) (.int .i64 255)).setCell (p := ⟨w.heap.size + 1, 0, none⟩) (by simp) (.int .i64 (t))).setCell (p := ⟨w.heap.size + 1, 1, none⟩) (by simp) (.int .i64 (255))).setCell (p := ⟨w.heap.size + 1, 2, none⟩) (by simp) (.bool (o)))⟩
  · have HCS := Lib.hid hc; clear hc
    obtain ⟨g0, g1, g2, g3, g4⟩ := HG.out
    have hc := HCS.out
    have HF1 := Lib.hid (show rxF (r) by' = r + by' from by unfold rxF; rw [if_neg (by omega), if_neg (by omega)])
    have c1 : decide (by' < 1) = false := by simp; omega
    have hv : IntKind.i64.wrap (255 - r) = 255 - r := by rw [IntKind.wrap_i64]; omega
    have c2 : decide (255 - r < by') = false := by simp; omega
    have hw : IntKind.i64.wrap (r + by') = r + by' := by rw [IntKind.wrap_i64]; omega
    clear g0 g1 g2 g3 g4 hc
    go_wp2_with (fail)
    obtain ⟨z0, z1, z2, _, _, _⟩ := (((T2.other (C := w.heap.size) (by omega) 1 (.int .i64 (r + by'))).set0 (.int .i64 (t))).set1 (.int .i64 (r + by'))).set2 (.bool (o))
    refine bodyPost_ret (v := .agg #[.int .i64 (t), .int .i64 (r + by'), .bool (o)]) (by simp [results, Try.results14, go_sem, z0, z1, z2]) rfl ⟨by rw [HF1.out], ((((H2.out.setCell (p := ⟨w.heap.size, 1, none⟩) (by simp) (.int .i64 (r + by'))).setCell (p := ⟨w.heap.size + 1, 0, none⟩) (by simp) (.int .i64 (t))).setCell (p := ⟨w.heap.size + 1, 1, none⟩) (by simp) (.int .i64 (r + by'))).setCell (p := ⟨w.heap.size + 1, 2, none⟩) (by simp) (.bool (o)))⟩
end Go.Proofs.Ytkmajhecjjhmbaa
