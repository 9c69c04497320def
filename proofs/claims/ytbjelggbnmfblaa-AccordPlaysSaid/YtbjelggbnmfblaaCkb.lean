/- Package clock, and the document's own answers of layer 17: New, Look, Read, Shift, Tune, Rate, Last. Conditions: the arguments are numbers of 64 bits. -/
import Derived.Test.YtbjelggbnmfblaaCka
namespace Go.Proofs.Ytbjelggbnmfblaa
open Go.RowKit
theorem cknew_any (w : World) : Calls Try.prog 157 #[] w fun y w' => ∃ B, y = .returned (.pointer (some ⟨B, 0, none⟩)) ∧ CK w' 199 B 0 0 1048576 0 ∧ w.heap.size ≤ B ∧ Below w.heap.size w w' := by
  go_enter Try.func157, Try.ntmps157
  go_wp2_with fail
  go_ret
  exact ⟨_, rfl, ⟨Blk.new w 199 [.int .i64 0, .int .i64 0, .int .i64 1048576, .int .i64 0], by decide, by decide, by decide, by decide⟩, Nat.le_refl _, (Below.refl _ w).alloc (Nat.le_refl _) _⟩
theorem rcknew_any (w : World) : Calls Try.prog 112 #[] w fun y w' => ∃ B, y = .returned (.pointer (some ⟨B, 0, none⟩)) ∧ CK w' 108 B 0 0 1048576 0 ∧ w.heap.size ≤ B ∧ Below w.heap.size w w' := by
  go_enter Try.func112, Try.ntmps112
  go_wp2_with fail
  go_ret
  exact ⟨_, rfl, ⟨Blk.new w 108 [.int .i64 0, .int .i64 0, .int .i64 1048576, .int .i64 0], by decide, by decide, by decide, by decide⟩, Nat.le_refl _, (Below.refl _ w).alloc (Nat.le_refl _) _⟩
theorem cklast_any (c v r t : Int) (B : Nat) (w : World) (h : CK w 199 B c v r t) : Calls Try.prog 124 #[.pointer (some ⟨B, 0, none⟩)] w fun y w' => y = .returned (.int .i64 t) ∧ w = w' := by
  have q0 : w.cell? ⟨B, 0, none⟩ = some (.int .i64 c) := h.blk.cellAt (i := 0) (by simp)
  have q1 : w.cell? ⟨B, 1, none⟩ = some (.int .i64 v) := h.blk.cellAt (i := 1) (by simp)
  have q2 : w.cell? ⟨B, 2, none⟩ = some (.int .i64 r) := h.blk.cellAt (i := 2) (by simp)
  have q3 : w.cell? ⟨B, 3, none⟩ = some (.int .i64 t) := h.blk.cellAt (i := 3) (by simp)
  clear h
  go_enter Try.func124, Try.ntmps124
  go_wp2_with fail
  go_ret
  exact ⟨rfl, rfl⟩
theorem cklast_nil (w : World) : Calls Try.prog 124 #[.pointer none] w fun y w' => y = .returned (.int .i64 0) ∧ w = w' := by
  go_enter Try.func124, Try.ntmps124
  go_wp2_with fail
  go_ret
  exact ⟨rfl, rfl⟩
theorem cklook_any (n : Int) (hn : -9223372036854775808 ≤ n ∧ n ≤ 9223372036854775807) (c v r t : Int) (B : Nat) (w : World) (h : CK w 199 B c v r t) : Calls Try.prog 167 #[.pointer (some ⟨B, 0, none⟩), .int .i64 n] w fun y w' => y = .returned (.tuple #[.int .i64 (lookX c v r n), .bool (lookB c v r n)]) ∧ Below w.heap.size w w' := by
  have HA := Lib.hid (fun u => at_any c v r n h.c0 (by have := h.v0; omega) (by have := h.r0; omega) hn u)
  have q0 : w.cell? ⟨B, 0, none⟩ = some (.int .i64 c) := h.blk.cellAt (i := 0) (by simp)
  have q1 : w.cell? ⟨B, 1, none⟩ = some (.int .i64 v) := h.blk.cellAt (i := 1) (by simp)
  have q2 : w.cell? ⟨B, 2, none⟩ = some (.int .i64 r) := h.blk.cellAt (i := 2) (by simp)
  have q3 : w.cell? ⟨B, 3, none⟩ = some (.int .i64 t) := h.blk.cellAt (i := 3) (by simp)
  clear h hn
  obtain ⟨X, hX⟩ : ∃ X, X = lookX c v r n := ⟨_, rfl⟩
  obtain ⟨Y, hY⟩ : ∃ Y, Y = lookB c v r n := ⟨_, rfl⟩
  rw [← hX, ← hY] at HA ⊢
  clear hX hY
  go_enter Try.func167, Try.ntmps167
  go_wp2_with fail
  refine (HA.out _).mono ?_
  rintro y w1 ⟨rfl, hb⟩
  have HB := Lib.hid hb
  clear hb
  go_wp2_with fail
  go_ret2
  exact ⟨rfl, HB.out⟩
theorem cklook_nil (n : Int) (w : World) : Calls Try.prog 167 #[.pointer none, .int .i64 n] w fun y w' => y = .returned (.tuple #[.int .i64 0, .bool false]) ∧ w = w' := by
  go_enter Try.func167, Try.ntmps167
  go_wp2_with fail
  go_ret2
  exact ⟨rfl, rfl⟩
set_option maxHeartbeats 1000000 in
theorem rcklook_any (n : Int) (hn : -9223372036854775808 ≤ n ∧ n ≤ 9223372036854775807) (c v r t : Int) (B : Nat) (w : World) (h : CK w 108 B c v r t) : Calls Try.prog 119 #[.pointer (some ⟨B, 0, none⟩), .int .i64 n] w fun y w' => y = .returned (.tuple #[.int .i64 (lookX c v r n), .bool (lookB c v r n)]) ∧ Below w.heap.size w w' := by
  have q0 : w.cell? ⟨B, 0, none⟩ = some (.int .i64 c) := h.blk.cellAt (i := 0) (by simp)
  have q1 : w.cell? ⟨B, 1, none⟩ = some (.int .i64 v) := h.blk.cellAt (i := 1) (by simp)
  have q2 : w.cell? ⟨B, 2, none⟩ = some (.int .i64 r) := h.blk.cellAt (i := 2) (by simp)
  have q3 : w.cell? ⟨B, 3, none⟩ = some (.int .i64 t) := h.blk.cellAt (i := 3) (by simp)
  have hc := h.c0; have hv : -9223372036854775808 ≤ v ∧ v ≤ 9223372036854775807 := by have := h.v0; omega
  have hr : -9223372036854775808 ≤ r ∧ r ≤ 9223372036854775807 := by have := h.r0; omega
  obtain ⟨d, hd⟩ : ∃ x, x = tickI c n := ⟨_, rfl⟩
  obtain ⟨k1, hk1⟩ : ∃ x, x = fitB (n - c) := ⟨_, rfl⟩
  obtain ⟨g, hg⟩ : ∃ x, x = growI c r n := ⟨_, rfl⟩
  obtain ⟨k2, hk2⟩ : ∃ x, x = fitB (tickI c n * r / 1048576) := ⟨_, rfl⟩
  obtain ⟨s, hs⟩ : ∃ x, x = sumI c v r n := ⟨_, rfl⟩
  obtain ⟨k3, hk3⟩ : ∃ x, x = fitB (v + growI c r n) := ⟨_, rfl⟩
  have HS := Lib.hid (fun u => sub_rf n c hn hc u)
  have HG := Lib.hid (fun u => scale_rf (tickI c n) r 1048576 (cut_in _) hr (by omega) u)
  have HA := Lib.hid (fun u => add_rf v (growI c r n) hv (cut_in _) u)
  rw [scaleV_yes (by omega)] at HG
  rw [show okV (n - c) = .tuple #[.int .i64 d, .bool k1] by rw [hd, hk1]; rfl] at HS
  rw [show okV (tickI c n * r / 1048576) = .tuple #[.int .i64 g, .bool k2] by rw [hg, hk2]; rfl] at HG
  rw [show okV (v + growI c r n) = .tuple #[.int .i64 s, .bool k3] by rw [hs, hk3]; rfl] at HA
  rw [← hd] at HG
  rw [← hg] at HA
  have HB := Lib.hid (show lookB c v r n = (((k1 && k2) && k3) && mayB s) by unfold lookB fitsB; rw [hk1, hk2, hk3, hs])
  have HX := Lib.hid (show lookX c v r n = if (((k1 && k2) && k3) && mayB s) = true then s else 0 by unfold lookX; rw [HB.out, hs])
  rw [HB.out, HX.out]
  clear HB HX hd hk1 hg hk2 hs hk3
  obtain ⟨m, hm⟩ : ∃ m, m = mayB s := ⟨_, rfl⟩
  have HM := Lib.hid (fun u => may_rf s u)
  rw [← hm] at HM ⊢
  have HO := Lib.hid (fun (W : World) (hb : Below w.heap.size w W) => h.on hb)
  clear hm hc hv hr hn h
  cases k1
  · simp only [Bool.false_and]
    go_enter Try.func119, Try.ntmps119
    go_wp2_with fail
    refine (HS.out _).mono ?_
    rintro y w1 ⟨rfl, rfl⟩
    go_wp2_with fail
    go_ret2
    exact ⟨rfl, Below.refl _ _⟩
  cases k2
  · simp only [Bool.and_false, Bool.false_and]
    go_enter Try.func119, Try.ntmps119
    go_wp2_with fail
    refine (HS.out _).mono ?_
    rintro y w1 ⟨rfl, rfl⟩
    go_wp2_with fail
    refine (HG.out _).mono ?_
    rintro y w1 ⟨rfl, hb⟩
    have HB1 := Lib.hid hb
    clear hb
    go_wp2_with fail
    go_ret2
    exact ⟨rfl, HB1.out⟩
  simp only [Bool.true_and]
  obtain ⟨X, hX⟩ : ∃ X, X = (if (k3 && m) = true then s else 0) := ⟨_, rfl⟩
  obtain ⟨Y, hY⟩ : ∃ Y, Y = (k3 && m) := ⟨_, rfl⟩
  rw [← hX, ← hY]
  have HXX := Lib.hid hX; have HYY := Lib.hid hY
  clear hX hY
  go_enter Try.func119, Try.ntmps119
  go_wp2_with fail
  refine (HS.out _).mono ?_
  rintro y w1 ⟨rfl, rfl⟩
  go_wp2_with fail
  refine (HG.out _).mono ?_
  rintro y w1 ⟨rfl, hb⟩
  have HB1 := Lib.hid hb
  have g1 : w1.cell? ⟨B, 1, none⟩ = some (.int .i64 v) := (HO.out _ hb).blk.cellAt (i := 1) (by simp)
  clear hb q0 q1 q2 q3
  go_wp2_with fail
  refine (HA.out _).mono ?_
  rintro y w1 ⟨rfl, rfl⟩
  cases k3
  · obtain rfl : X = 0 := by rw [HXX.out]; rfl
    obtain rfl : Y = false := by rw [HYY.out]; rfl
    clear HXX HYY
    go_wp2_with fail
    go_ret2
    exact ⟨rfl, HB1.out⟩
  · go_wp2_with fail
    refine (HM.out _).mono ?_
    rintro y w7 ⟨rfl, rfl⟩
    clear HM
    cases m
    · obtain rfl : X = 0 := by rw [HXX.out]; rfl
      obtain rfl : Y = false := by rw [HYY.out]; rfl
      clear HXX HYY
      go_wp2_with fail
      go_ret2
      exact ⟨rfl, HB1.out⟩
    · obtain rfl : X = s := by rw [HXX.out]; rfl
      obtain rfl : Y = true := by rw [HYY.out]; rfl
      clear HXX HYY
      go_wp2_with fail
      go_ret2
      exact ⟨rfl, HB1.out⟩
set_option maxHeartbeats 1000000 in
theorem ckread_any (n : Int) (hn : -9223372036854775808 ≤ n ∧ n ≤ 9223372036854775807) (c v r t : Int) (B : Nat) (w : World) (h : CK w 199 B c v r t) : Calls Try.prog 159 #[.pointer (some ⟨B, 0, none⟩), .int .i64 n] w fun y w' => y = .returned (.tuple #[.int .i64 (readT c v r t n), .bool (lookB c v r n)]) ∧ CK w' 199 B c v r (readT c v r t n) ∧ Kp B (.slice none 0 0) w w' := by
  have HL := Lib.hid (fun u hu => cklook_any n hn c v r t B u hu)
  have HI := Lib.hid (look_in c v r n); have HT := Lib.hid h.t0
  obtain ⟨X, hX⟩ : ∃ X, X = lookX c v r n := ⟨_, rfl⟩
  obtain ⟨Y, hY⟩ : ∃ Y, Y = lookB c v r n := ⟨_, rfl⟩
  have HR := Lib.hid (show readT c v r t n = if Y = true ∧ t < X then X else t by unfold readT; rw [hX, hY])
  rw [HR.out]
  rw [← hX] at HI
  rw [← hX, ← hY] at HL
  rw [← hY]
  have HH := Lib.hid h
  clear h hn hX hY HR
  obtain ⟨Z, hZ⟩ : ∃ Z, Z = if Y = true ∧ t < X then X else t := ⟨_, rfl⟩
  rw [← hZ]
  have HZ := Lib.hid hZ
  clear hZ
  go_enter Try.func159, Try.ntmps159
  go_wp2_with fail
  refine (HL.out _ HH.out).mono ?_
  rintro y w1 ⟨rfl, hb⟩
  have HO := Lib.hid (HH.out.on hb)
  have HK := Lib.hid (Kp.of_below (B := B) (v := .slice none 0 0) hb)
  have q0 : w1.cell? ⟨B, 0, none⟩ = some (.int .i64 c) := HO.out.blk.cellAt (i := 0) (by simp)
  have q1 : w1.cell? ⟨B, 1, none⟩ = some (.int .i64 v) := HO.out.blk.cellAt (i := 1) (by simp)
  have q2 : w1.cell? ⟨B, 2, none⟩ = some (.int .i64 r) := HO.out.blk.cellAt (i := 2) (by simp)
  have q3 : w1.cell? ⟨B, 3, none⟩ = some (.int .i64 t) := HO.out.blk.cellAt (i := 3) (by simp)
  have p0 : w1.frozen? ⟨B, 0, none⟩ = false := HO.out.blk.frozenAt 0
  have p1 : w1.frozen? ⟨B, 1, none⟩ = false := HO.out.blk.frozenAt 1
  have p2 : w1.frozen? ⟨B, 2, none⟩ = false := HO.out.blk.frozenAt 2
  have p3 : w1.frozen? ⟨B, 3, none⟩ = false := HO.out.blk.frozenAt 3
  clear hb
  cases Y
  case false =>
    obtain rfl : Z = t := by rw [HZ.out]; simp
    clear HZ
    go_wp2_with fail
    refine (cklast_any _ _ _ _ B _ (HO.out)).mono ?_
    rintro y w2 ⟨rfl, rfl⟩
    go_wp2_with fail
    go_ret2
    exact ⟨rfl, HO.out, HK.out⟩
  case true =>
    rcases Int.lt_trichotomy t X with hx | hx | hx
    · obtain rfl : Z = X := by rw [HZ.out, if_pos ⟨rfl, hx⟩]
      have HMX := Lib.hid (show max t Z = Z by omega)
      have hx1 : t ≤ Z := by omega
      have hx2 : ¬ Z ≤ t := by omega
      have HN := Lib.hid (show ∀ W, W = w1.setCell ⟨B, 3, none⟩ (.int .i64 Z) → CK W 199 B c v r Z from fun W e => e ▸ ⟨HO.out.blk.put1 (i := 3) (by simp) _, HO.out.c0, HO.out.v0, HO.out.r0, by have := HI.out; have := HT.out; omega⟩)
      clear HZ hx
      go_wp2_with fail
      simp only [HMX.out]
      refine (cklast_any _ _ _ _ B _ (HN.out _ rfl)).mono ?_
      rintro y w2 ⟨rfl, rfl⟩
      go_wp2_with fail
      go_ret2
      exact ⟨rfl, HN.out _ rfl, HK.out.set 3 _⟩
    · obtain rfl : Z = t := by rw [HZ.out, if_neg (by simp; omega)]
      obtain rfl : X = Z := hx.symm
      have hx1 : X ≤ X := by omega
      have HN := Lib.hid (show ∀ W, W = w1.setCell ⟨B, 3, none⟩ (.int .i64 X) → CK W 199 B c v r X from fun W e => e ▸ ⟨HO.out.blk.put1 (i := 3) (by simp) _, HO.out.c0, HO.out.v0, HO.out.r0, by have := HI.out; have := HT.out; omega⟩)
      clear HZ
      go_wp2_with fail
      refine (cklast_any _ _ _ _ B _ (HN.out _ rfl)).mono ?_
      rintro y w2 ⟨rfl, rfl⟩
      go_wp2_with fail
      go_ret2
      exact ⟨rfl, HN.out _ rfl, HK.out.set 3 _⟩
    · obtain rfl : Z = t := by rw [HZ.out, if_neg (by simp; omega)]
      have HMX := Lib.hid (show max Z X = Z by omega)
      have hx1 : X ≤ Z := by omega
      have hx2 : ¬ Z ≤ X := by omega
      have HN := Lib.hid (show ∀ W, W = w1.setCell ⟨B, 3, none⟩ (.int .i64 Z) → CK W 199 B c v r Z from fun W e => e ▸ ⟨HO.out.blk.put1 (i := 3) (by simp) _, HO.out.c0, HO.out.v0, HO.out.r0, by have := HI.out; have := HT.out; omega⟩)
      clear HZ hx
      go_wp2_with fail
      simp only [HMX.out]
      refine (cklast_any _ _ _ _ B _ (HN.out _ rfl)).mono ?_
      rintro y w2 ⟨rfl, rfl⟩
      go_wp2_with fail
      go_ret2
      exact ⟨rfl, HN.out _ rfl, HK.out.set 3 _⟩
set_option maxHeartbeats 1000000 in
theorem rckread_any (n : Int) (hn : -9223372036854775808 ≤ n ∧ n ≤ 9223372036854775807) (c v r t : Int) (B : Nat) (w : World) (h : CK w 108 B c v r t) : Calls Try.prog 115 #[.pointer (some ⟨B, 0, none⟩), .int .i64 n] w fun y w' => y = .returned (.tuple #[.int .i64 (readT c v r t n), .bool (lookB c v r n)]) ∧ CK w' 108 B c v r (readT c v r t n) ∧ Kp B (.slice none 0 0) w w' := by
  have HL := Lib.hid (fun u hu => rcklook_any n hn c v r t B u hu)
  have HI := Lib.hid (look_in c v r n); have HT := Lib.hid h.t0
  obtain ⟨X, hX⟩ : ∃ X, X = lookX c v r n := ⟨_, rfl⟩
  obtain ⟨Y, hY⟩ : ∃ Y, Y = lookB c v r n := ⟨_, rfl⟩
  have HR := Lib.hid (show readT c v r t n = if Y = true ∧ t < X then X else t by unfold readT; rw [hX, hY])
  rw [HR.out]
  rw [← hX] at HI
  rw [← hX, ← hY] at HL
  rw [← hY]
  have HH := Lib.hid h
  clear h hn hX hY HR
  obtain ⟨Z, hZ⟩ : ∃ Z, Z = if Y = true ∧ t < X then X else t := ⟨_, rfl⟩
  rw [← hZ]
  have HZ := Lib.hid hZ
  clear hZ
  go_enter Try.func115, Try.ntmps115
  go_wp2_with fail
  refine (HL.out _ HH.out).mono ?_
  rintro y w1 ⟨rfl, hb⟩
  have HO := Lib.hid (HH.out.on hb)
  have HK := Lib.hid (Kp.of_below (B := B) (v := .slice none 0 0) hb)
  have q0 : w1.cell? ⟨B, 0, none⟩ = some (.int .i64 c) := HO.out.blk.cellAt (i := 0) (by simp)
  have q1 : w1.cell? ⟨B, 1, none⟩ = some (.int .i64 v) := HO.out.blk.cellAt (i := 1) (by simp)
  have q2 : w1.cell? ⟨B, 2, none⟩ = some (.int .i64 r) := HO.out.blk.cellAt (i := 2) (by simp)
  have q3 : w1.cell? ⟨B, 3, none⟩ = some (.int .i64 t) := HO.out.blk.cellAt (i := 3) (by simp)
  have p0 : w1.frozen? ⟨B, 0, none⟩ = false := HO.out.blk.frozenAt 0
  have p1 : w1.frozen? ⟨B, 1, none⟩ = false := HO.out.blk.frozenAt 1
  have p2 : w1.frozen? ⟨B, 2, none⟩ = false := HO.out.blk.frozenAt 2
  have p3 : w1.frozen? ⟨B, 3, none⟩ = false := HO.out.blk.frozenAt 3
  clear hb
  cases Y
  case false =>
    obtain rfl : Z = t := by rw [HZ.out]; simp
    clear HZ
    go_wp2_with fail
    go_ret2
    exact ⟨rfl, HO.out, HK.out⟩
  case true =>
    by_cases hx : t < X
    · obtain rfl : Z = X := by rw [HZ.out, if_pos ⟨rfl, hx⟩]
      clear HZ
      go_wp2_with fail
      go_ret2
      exact ⟨rfl, ⟨HO.out.blk.put1 (i := 3) (by simp) _, HO.out.c0, HO.out.v0, HO.out.r0, by have := HI.out; have := HT.out; omega⟩, HK.out.set 3 _⟩
    · obtain rfl : Z = t := by rw [HZ.out, if_neg (by simp; omega)]
      clear HZ
      go_wp2_with fail
      go_ret2
      exact ⟨rfl, HO.out, HK.out⟩
theorem ckread_nil (n : Int) (w : World) : Calls Try.prog 159 #[.pointer none, .int .i64 n] w fun y w' => y = .returned (.tuple #[.int .i64 0, .bool false]) ∧ w = w' := by
  go_enter Try.func159, Try.ntmps159
  go_wp2_with fail
  refine (cklook_nil n _).mono ?_
  rintro y w1 ⟨rfl, rfl⟩
  go_wp2_with fail
  refine (cklast_nil _).mono ?_
  rintro y w1 ⟨rfl, rfl⟩
  go_wp2_with fail
  go_ret2
  exact ⟨rfl, rfl⟩
theorem ckshift_nil (n b : Int) (w : World) : Calls Try.prog 109 #[.pointer none, .int .i64 n, .int .i64 b] w fun y w' => y = .returned (.int .i64 7) ∧ w = w' := by
  go_enter Try.func109, Try.ntmps109
  go_wp2_with fail
  go_ret
  exact ⟨rfl, rfl⟩
theorem cktune_nil (n b : Int) (w : World) : Calls Try.prog 170 #[.pointer none, .int .i64 n, .int .i64 b] w fun y w' => y = .returned (.int .i64 7) ∧ w = w' := by
  go_enter Try.func170, Try.ntmps170
  go_wp2_with fail
  go_ret
  exact ⟨rfl, rfl⟩
def beE (c v r n b : Int) : Int := if ((lookB c v r n && fitB (lookX c v r n + b)) && mayB (cutV (lookX c v r n + b))) = true then 0 else 9
set_option maxHeartbeats 1000000 in
theorem begin_any (n b q : Int) (hn : -9223372036854775808 ≤ n ∧ n ≤ 9223372036854775807) (hb : -9223372036854775808 ≤ b ∧ b ≤ 9223372036854775807) (hq : 1044480 ≤ q ∧ q ≤ 1052672) (c v r t : Int) (B : Nat) (w : World) (h : CK w 199 B c v r t) : Calls Try.prog 158 #[.pointer (some ⟨B, 0, none⟩), .int .i64 n, .int .i64 b, .int .i64 q] w fun y w' => y = .returned (.int .i64 (beE c v r n b)) ∧ CK w' 199 B (if beE c v r n b = 0 then n else c) (if beE c v r n b = 0 then cutV (lookX c v r n + b) else v) (if beE c v r n b = 0 then q else r) t ∧ Kp B (.slice none 0 0) w w' := by
  have HL := Lib.hid (fun u => at_any c v r n h.c0 (by have := h.v0; omega) (by have := h.r0; omega) hn u)
  have HA := Lib.hid (fun u => add_ex (lookX c v r n) b (by have := look_in c v r n; omega) hb u)
  have HE := Lib.hid (show beE c v r n b = if ((lookB c v r n && fitB (lookX c v r n + b)) && mayB (cutV (lookX c v r n + b))) = true then 0 else 9 from rfl)
  obtain ⟨E, hE⟩ : ∃ E, E = beE c v r n b := ⟨_, rfl⟩
  rw [← hE] at HE ⊢
  obtain ⟨s, hs⟩ : ∃ s, s = cutV (lookX c v r n + b) := ⟨_, rfl⟩
  obtain ⟨k2, hk2⟩ : ∃ s, s = fitB (lookX c v r n + b) := ⟨_, rfl⟩
  rw [show okV (lookX c v r n + b) = .tuple #[.int .i64 s, .bool k2] by rw [hs, hk2]; rfl] at HA
  rw [← hs, ← hk2] at HE
  rw [← hs]
  clear hE hs hk2
  obtain ⟨X, hX⟩ : ∃ X, X = lookX c v r n := ⟨_, rfl⟩
  obtain ⟨k1, hk1⟩ : ∃ Y, Y = lookB c v r n := ⟨_, rfl⟩
  rw [← hX, ← hk1] at HL
  rw [← hX] at HA
  rw [← hk1] at HE
  obtain ⟨m, hm⟩ : ∃ m, m = mayB s := ⟨_, rfl⟩
  have HM := Lib.hid (fun u => may_ex s u)
  have HMM := Lib.hid hm
  rw [← hm] at HM HE
  obtain ⟨K, hK⟩ : ∃ K, K = (k1 && k2) := ⟨_, rfl⟩
  rw [← hK] at HE
  have HKK := Lib.hid hK
  have HH := Lib.hid h; have HN := Lib.hid hn; have HQ := Lib.hid hq
  clear hX hk1 hm hK h hn hb hq
  go_enter Try.func158, Try.ntmps158
  go_wp2_with fail
  refine (rk_new _).mono ?_
  rintro y w1 ⟨C, rfl, hK, hC, hb⟩
  have HK1 := Lib.hid hK; have HB1 := Lib.hid hb; have HO1 := Lib.hid (HH.out.on hb)
  have HBC := Lib.hid (show B ≠ C by have := HH.out.lt; omega)
  have HCC := Lib.hid hC
  have q0 : w1.cell? ⟨B, 0, none⟩ = some (.int .i64 c) := HO1.out.blk.cellAt (i := 0) (by simp)
  have q1 : w1.cell? ⟨B, 1, none⟩ = some (.int .i64 v) := HO1.out.blk.cellAt (i := 1) (by simp)
  have q2 : w1.cell? ⟨B, 2, none⟩ = some (.int .i64 r) := HO1.out.blk.cellAt (i := 2) (by simp)
  have q3 : w1.cell? ⟨B, 3, none⟩ = some (.int .i64 t) := HO1.out.blk.cellAt (i := 3) (by simp)
  clear hK hb hC
  go_wp2_with fail
  refine (HL.out _).mono ?_
  rintro y w2 ⟨rfl, hb⟩
  have HK2 := Lib.hid (HK1.out.keep hb HK1.out.lt); have HB2 := Lib.hid (below_transG HB1.out hb); have HO2 := Lib.hid (HO1.out.on hb)
  clear hb q0 q1 q2 q3
  go_wp2_with fail
  refine (rk_step C true k1 X _ HK2.out).mono ?_
  rintro y w3 ⟨rfl, hK, hk⟩
  have HK3 := Lib.hid hK; have HB3 := Lib.hid (HB2.out.trans (hk.belowN HCC.out HB2.out.size (fun k e => by cases e)))
  have HO3 := Lib.hid (HO2.out.byK HBC.out hk)
  clear hK hk
  go_wp2_with fail
  refine (HA.out _).mono ?_
  rintro y w4 ⟨rfl, rfl⟩
  go_wp2_with fail
  refine (rk_step C (true && k1) k2 s _ HK3.out).mono ?_
  rintro y w5 ⟨rfl, hK, hk⟩
  rw [Bool.true_and, ← HKK.out] at hK
  have HK5 := Lib.hid hK; have HB5 := Lib.hid (HB3.out.trans (hk.belowN HCC.out HB3.out.size (fun k e => by cases e)))
  have HO5 := Lib.hid (HO3.out.byK HBC.out hk)
  clear hK hk HK1 HK2 HK3 HB1 HB2 HB3 HO1 HO2 HO3 HKK
  go_wp2_with fail
  refine (rk_ok C K _ HK5.out).mono ?_
  rintro y w6 ⟨rfl, rfl⟩
  have HKp := Lib.hid (Kp.of_below (B := B) (v := .slice none 0 0) HB5.out)
  cases K
  case false =>
    obtain rfl : E = 9 := by rw [HE.out]; rfl
    clear HE
    go_wp2_with fail
    go_ret
    exact ⟨rfl, HO5.out, HKp.out⟩
  case true =>
    go_wp2_with fail
    refine (HM.out _).mono ?_
    rintro y w7 ⟨rfl, rfl⟩
    cases m
    case false =>
      obtain rfl : E = 9 := by rw [HE.out]; rfl
      clear HE
      go_wp2_with fail
      go_ret
      exact ⟨rfl, HO5.out, HKp.out⟩
    case true =>
      obtain rfl : E = 0 := by rw [HE.out]; rfl
      clear HE
      have q0 : w5.cell? ⟨B, 0, none⟩ = some (.int .i64 c) := HO5.out.blk.cellAt (i := 0) (by simp)
      have q1 : w5.cell? ⟨B, 1, none⟩ = some (.int .i64 v) := HO5.out.blk.cellAt (i := 1) (by simp)
      have q2 : w5.cell? ⟨B, 2, none⟩ = some (.int .i64 r) := HO5.out.blk.cellAt (i := 2) (by simp)
      have q3 : w5.cell? ⟨B, 3, none⟩ = some (.int .i64 t) := HO5.out.blk.cellAt (i := 3) (by simp)
      have p0 : w5.frozen? ⟨B, 0, none⟩ = false := HO5.out.blk.frozenAt 0
      have p1 : w5.frozen? ⟨B, 1, none⟩ = false := HO5.out.blk.frozenAt 1
      have p2 : w5.frozen? ⟨B, 2, none⟩ = false := HO5.out.blk.frozenAt 2
      have p3 : w5.frozen? ⟨B, 3, none⟩ = false := HO5.out.blk.frozenAt 3
      go_wp2_with fail
      go_ret
      have hs := of_decide_eq_true (HMM.out.symm)
      exact ⟨rfl, ⟨((HO5.out.blk.put1 (i := 0) (by simp) _).put1 (i := 1) (by simp) _).put1 (i := 2) (by simp) _, HN.out, hs, HQ.out, HO5.out.t0⟩, ((HKp.out.set 0 _).set 1 _).set 2 _⟩
theorem shE_be (c v r n b : Int) : beE c v r n b = shE c v r n b := by unfold beE shE; rw [Bool.and_assoc]
theorem ckshift_any (n b : Int) (hn : -9223372036854775808 ≤ n ∧ n ≤ 9223372036854775807) (hb : -9223372036854775808 ≤ b ∧ b ≤ 9223372036854775807) (c v r t : Int) (B : Nat) (w : World) (h : CK w 199 B c v r t) : Calls Try.prog 109 #[.pointer (some ⟨B, 0, none⟩), .int .i64 n, .int .i64 b] w fun y w' => y = .returned (.int .i64 (shE c v r n b)) ∧ CK w' 199 B (shC c v r n b) (shV c v r n b) r t ∧ Kp B (.slice none 0 0) w w' := by
  have HG := Lib.hid (fun u hu => begin_any n b r hn hb h.r0 c v r t B u hu)
  rw [shE_be] at HG
  have e1 : (if shE c v r n b = 0 then n else c) = shC c v r n b := rfl
  have e2 : (if shE c v r n b = 0 then cutV (lookX c v r n + b) else v) = shV c v r n b := rfl
  have e3 : (if shE c v r n b = 0 then r else r) = r := by split <;> rfl
  rw [e1, e2, e3] at HG
  obtain ⟨E, hE⟩ : ∃ E, E = shE c v r n b := ⟨_, rfl⟩
  obtain ⟨x1, hx1⟩ : ∃ x, x = shC c v r n b := ⟨_, rfl⟩
  obtain ⟨x2, hx2⟩ : ∃ x, x = shV c v r n b := ⟨_, rfl⟩
  rw [← hE, ← hx1, ← hx2] at HG ⊢
  have HH := Lib.hid h
  have q0 : w.cell? ⟨B, 0, none⟩ = some (.int .i64 c) := h.blk.cellAt (i := 0) (by simp)
  have q1 : w.cell? ⟨B, 1, none⟩ = some (.int .i64 v) := h.blk.cellAt (i := 1) (by simp)
  have q2 : w.cell? ⟨B, 2, none⟩ = some (.int .i64 r) := h.blk.cellAt (i := 2) (by simp)
  have q3 : w.cell? ⟨B, 3, none⟩ = some (.int .i64 t) := h.blk.cellAt (i := 3) (by simp)
  clear h hn hb e1 e2 e3 hE hx1 hx2
  go_enter Try.func109, Try.ntmps109
  go_wp2_with fail
  refine (HG.out _ HH.out).mono ?_
  rintro y w1 ⟨rfl, hO, hk⟩
  have HO := Lib.hid hO; have HK := Lib.hid hk
  clear hO hk
  go_wp2_with fail
  go_ret
  exact ⟨rfl, HO.out, HK.out⟩
theorem tuE_be {c v r n q : Int} (h : ¬ (q < 1044480 ∨ 1052672 < q)) : beE c v r n 0 = tuE c v r n q := by
  unfold beE tuE
  rw [if_neg h, Int.add_zero]
  have h1 := look_in c v r n
  rw [fit_yes (by omega), cut_yes (by omega), mayB_yes h1, Bool.and_true, Bool.and_true]
theorem cktune_any (n q : Int) (hn : -9223372036854775808 ≤ n ∧ n ≤ 9223372036854775807) (c v r t : Int) (B : Nat) (w : World) (h : CK w 199 B c v r t) : Calls Try.prog 170 #[.pointer (some ⟨B, 0, none⟩), .int .i64 n, .int .i64 q] w fun y w' => y = .returned (.int .i64 (tuE c v r n q)) ∧ CK w' 199 B (tuC c v r n q) (tuV c v r n q) (tuR c v r n q) t ∧ Kp B (.slice none 0 0) w w' := by
  have cs : q < 1044480 ∨ (¬ q < 1044480 ∧ 1052672 < q) ∨ (¬ q < 1044480 ∧ ¬ 1052672 < q) := by omega
  rcases cs with g | ⟨g, g2⟩ | ⟨g, g2⟩
  · have e : tuE c v r n q = 1 := if_pos (.inl g)
    unfold tuC tuV tuR
    rw [e, if_neg (by decide), if_neg (by decide), if_neg (by decide)]
    have HH := Lib.hid h
    clear h e hn
    go_enter Try.func170, Try.ntmps170
    go_wp2_with fail
    go_ret
    exact ⟨rfl, HH.out, Kp.refl _ _ _⟩
  · have e : tuE c v r n q = 1 := if_pos (.inr g2)
    unfold tuC tuV tuR
    rw [e, if_neg (by decide), if_neg (by decide), if_neg (by decide)]
    have HH := Lib.hid h
    clear h e hn
    go_enter Try.func170, Try.ntmps170
    go_wp2_with fail
    go_ret
    exact ⟨rfl, HH.out, Kp.refl _ _ _⟩
  · have HG := Lib.hid (fun u hu => begin_any n 0 q hn (by decide) (by omega) c v r t B u hu)
    rw [tuE_be (q := q) (by omega), Int.add_zero, cut_yes (by have := look_in c v r n; omega)] at HG
    have e1 : (if tuE c v r n q = 0 then n else c) = tuC c v r n q := rfl
    have e2 : (if tuE c v r n q = 0 then lookX c v r n else v) = tuV c v r n q := rfl
    have e3 : (if tuE c v r n q = 0 then q else r) = tuR c v r n q := rfl
    rw [e1, e2, e3] at HG
    obtain ⟨E, hE⟩ : ∃ E, E = tuE c v r n q := ⟨_, rfl⟩
    obtain ⟨x1, hx1⟩ : ∃ x, x = tuC c v r n q := ⟨_, rfl⟩
    obtain ⟨x2, hx2⟩ : ∃ x, x = tuV c v r n q := ⟨_, rfl⟩
    obtain ⟨x3, hx3⟩ : ∃ x, x = tuR c v r n q := ⟨_, rfl⟩
    rw [← hE, ← hx1, ← hx2, ← hx3] at HG ⊢
    have HH := Lib.hid h
    clear h hn e1 e2 e3 hE hx1 hx2 hx3
    go_enter Try.func170, Try.ntmps170
    go_wp2_with fail
    refine (HG.out _ HH.out).mono ?_
    rintro y w1 ⟨rfl, hO, hk⟩
    have HO := Lib.hid hO; have HK := Lib.hid hk
    clear hO hk
    go_wp2_with fail
    go_ret
    exact ⟨rfl, HO.out, HK.out⟩
set_option maxHeartbeats 1000000 in
theorem rckshift_any (n b : Int) (hn : -9223372036854775808 ≤ n ∧ n ≤ 9223372036854775807) (hb : -9223372036854775808 ≤ b ∧ b ≤ 9223372036854775807) (c v r t : Int) (B : Nat) (w : World) (h : CK w 108 B c v r t) : Calls Try.prog 114 #[.pointer (some ⟨B, 0, none⟩), .int .i64 n, .int .i64 b] w fun y w' => y = .returned (.int .i64 (shE c v r n b)) ∧ CK w' 108 B (shC c v r n b) (shV c v r n b) r t ∧ Kp B (.slice none 0 0) w w' := by
  have HL := Lib.hid (fun u hu => rcklook_any n hn c v r t B u hu)
  have HA := Lib.hid (fun u => add_rf (lookX c v r n) b (by have := look_in c v r n; omega) hb u)
  have HE := Lib.hid (show shE c v r n b = if (lookB c v r n && (fitB (lookX c v r n + b) && mayB (cutV (lookX c v r n + b)))) = true then 0 else 9 from rfl)
  unfold shC shV
  obtain ⟨E, hE⟩ : ∃ E, E = shE c v r n b := ⟨_, rfl⟩
  rw [← hE] at HE ⊢
  obtain ⟨s, hs⟩ : ∃ s, s = cutV (lookX c v r n + b) := ⟨_, rfl⟩
  obtain ⟨k2, hk2⟩ : ∃ s, s = fitB (lookX c v r n + b) := ⟨_, rfl⟩
  rw [show okV (lookX c v r n + b) = .tuple #[.int .i64 s, .bool k2] by rw [hs, hk2]; rfl] at HA
  rw [← hs, ← hk2] at HE
  rw [← hs]
  clear hE hs hk2
  obtain ⟨X, hX⟩ : ∃ X, X = lookX c v r n := ⟨_, rfl⟩
  obtain ⟨k1, hk1⟩ : ∃ Y, Y = lookB c v r n := ⟨_, rfl⟩
  rw [← hX, ← hk1] at HL
  rw [← hX] at HA
  rw [← hk1] at HE
  obtain ⟨m, hm⟩ : ∃ m, m = mayB s := ⟨_, rfl⟩
  have HM := Lib.hid (fun u => may_rf s u)
  have HMM := Lib.hid hm
  rw [← hm] at HM HE
  have HH := Lib.hid h; have HN := Lib.hid hn
  clear hX hk1 hm h hn hb
  go_enter Try.func114, Try.ntmps114
  go_wp2_with fail
  refine (HL.out _ HH.out).mono ?_
  rintro y w1 ⟨rfl, hb⟩
  have HO1 := Lib.hid (HH.out.on hb); have HKp := Lib.hid (Kp.of_below (B := B) (v := .slice none 0 0) hb)
  clear hb
  cases k1
  case false =>
    obtain rfl : E = 9 := by rw [HE.out]; rfl
    clear HE
    go_wp2_with fail
    go_ret
    exact ⟨rfl, HO1.out, HKp.out⟩
  go_wp2_with fail
  refine (HA.out _).mono ?_
  rintro y w4 ⟨rfl, rfl⟩
  cases k2
  case false =>
    obtain rfl : E = 9 := by rw [HE.out]; rfl
    clear HE
    go_wp2_with fail
    go_ret
    exact ⟨rfl, HO1.out, HKp.out⟩
  go_wp2_with fail
  refine (HM.out _).mono ?_
  rintro y w7 ⟨rfl, rfl⟩
  cases m
  case false =>
    obtain rfl : E = 9 := by rw [HE.out]; rfl
    clear HE
    go_wp2_with fail
    go_ret
    exact ⟨rfl, HO1.out, HKp.out⟩
  obtain rfl : E = 0 := by rw [HE.out]; rfl
  clear HE
  have q0 : w1.cell? ⟨B, 0, none⟩ = some (.int .i64 c) := HO1.out.blk.cellAt (i := 0) (by simp)
  have q1 : w1.cell? ⟨B, 1, none⟩ = some (.int .i64 v) := HO1.out.blk.cellAt (i := 1) (by simp)
  have q2 : w1.cell? ⟨B, 2, none⟩ = some (.int .i64 r) := HO1.out.blk.cellAt (i := 2) (by simp)
  have q3 : w1.cell? ⟨B, 3, none⟩ = some (.int .i64 t) := HO1.out.blk.cellAt (i := 3) (by simp)
  have p0 : w1.frozen? ⟨B, 0, none⟩ = false := HO1.out.blk.frozenAt 0
  have p1 : w1.frozen? ⟨B, 1, none⟩ = false := HO1.out.blk.frozenAt 1
  have p2 : w1.frozen? ⟨B, 2, none⟩ = false := HO1.out.blk.frozenAt 2
  have p3 : w1.frozen? ⟨B, 3, none⟩ = false := HO1.out.blk.frozenAt 3
  go_wp2_with fail
  go_ret
  have hs := of_decide_eq_true (HMM.out.symm)
  exact ⟨rfl, ⟨((HO1.out.blk.put1 (i := 0) (by simp) _).put1 (i := 1) (by simp) _), HN.out, hs, HO1.out.r0, HO1.out.t0⟩, (HKp.out.set 0 _).set 1 _⟩
set_option maxHeartbeats 1000000 in
theorem rcktune_any (n q : Int) (hn : -9223372036854775808 ≤ n ∧ n ≤ 9223372036854775807) (c v r t : Int) (B : Nat) (w : World) (h : CK w 108 B c v r t) : Calls Try.prog 121 #[.pointer (some ⟨B, 0, none⟩), .int .i64 n, .int .i64 q] w fun y w' => y = .returned (.int .i64 (tuE c v r n q)) ∧ CK w' 108 B (tuC c v r n q) (tuV c v r n q) (tuR c v r n q) t ∧ Kp B (.slice none 0 0) w w' := by
  have cs : q < 1044480 ∨ (¬ q < 1044480 ∧ 1052672 < q) ∨ (¬ q < 1044480 ∧ ¬ 1052672 < q) := by omega
  rcases cs with g | ⟨g, g2⟩ | ⟨g, g2⟩
  · have e : tuE c v r n q = 1 := if_pos (.inl g)
    unfold tuC tuV tuR
    rw [e, if_neg (by decide), if_neg (by decide), if_neg (by decide)]
    have HH := Lib.hid h
    clear h e hn
    go_enter Try.func121, Try.ntmps121
    go_wp2_with fail
    go_ret
    exact ⟨rfl, HH.out, Kp.refl _ _ _⟩
  · have e : tuE c v r n q = 1 := if_pos (.inr g2)
    unfold tuC tuV tuR
    rw [e, if_neg (by decide), if_neg (by decide), if_neg (by decide)]
    have HH := Lib.hid h
    clear h e hn
    go_enter Try.func121, Try.ntmps121
    go_wp2_with fail
    go_ret
    exact ⟨rfl, HH.out, Kp.refl _ _ _⟩
  · have HL := Lib.hid (fun u hu => rcklook_any n hn c v r t B u hu)
    have HE := Lib.hid (show tuE c v r n q = if lookB c v r n = true then 0 else 9 from if_neg (by omega))
    have HQ := Lib.hid (show 1044480 ≤ q ∧ q ≤ 1052672 by omega)
    have HI := Lib.hid (look_in c v r n)
    unfold tuC tuV tuR
    obtain ⟨E, hE⟩ : ∃ E, E = tuE c v r n q := ⟨_, rfl⟩
    rw [← hE] at HE ⊢
    obtain ⟨X, hX⟩ : ∃ X, X = lookX c v r n := ⟨_, rfl⟩
    obtain ⟨k1, hk1⟩ : ∃ Y, Y = lookB c v r n := ⟨_, rfl⟩
    rw [← hX, ← hk1] at HL
    rw [← hk1] at HE
    rw [← hX] at HI
    rw [← hX]
    have HH := Lib.hid h; have HN := Lib.hid hn
    clear hE hX hk1 h hn
    go_enter Try.func121, Try.ntmps121
    go_wp2_with fail
    refine (HL.out _ HH.out).mono ?_
    rintro y w1 ⟨rfl, hb⟩
    have HO1 := Lib.hid (HH.out.on hb); have HKp := Lib.hid (Kp.of_below (B := B) (v := .slice none 0 0) hb)
    clear hb
    cases k1
    case false =>
      obtain rfl : E = 9 := by rw [HE.out]; rfl
      clear HE
      go_wp2_with fail
      go_ret
      exact ⟨rfl, HO1.out, HKp.out⟩
    obtain rfl : E = 0 := by rw [HE.out]; rfl
    clear HE
    have q0 : w1.cell? ⟨B, 0, none⟩ = some (.int .i64 c) := HO1.out.blk.cellAt (i := 0) (by simp)
    have q1 : w1.cell? ⟨B, 1, none⟩ = some (.int .i64 v) := HO1.out.blk.cellAt (i := 1) (by simp)
    have q2 : w1.cell? ⟨B, 2, none⟩ = some (.int .i64 r) := HO1.out.blk.cellAt (i := 2) (by simp)
    have q3 : w1.cell? ⟨B, 3, none⟩ = some (.int .i64 t) := HO1.out.blk.cellAt (i := 3) (by simp)
    have p0 : w1.frozen? ⟨B, 0, none⟩ = false := HO1.out.blk.frozenAt 0
    have p1 : w1.frozen? ⟨B, 1, none⟩ = false := HO1.out.blk.frozenAt 1
    have p2 : w1.frozen? ⟨B, 2, none⟩ = false := HO1.out.blk.frozenAt 2
    have p3 : w1.frozen? ⟨B, 3, none⟩ = false := HO1.out.blk.frozenAt 3
    go_wp2_with fail
    go_ret
    exact ⟨rfl, ⟨(((HO1.out.blk.put1 (i := 0) (by simp) _).put1 (i := 1) (by simp) _).put1 (i := 2) (by simp) _), HN.out, HI.out, HQ.out, HO1.out.t0⟩, ((HKp.out.set 0 _).set 1 _).set 2 _⟩
end Go.Proofs.Ytbjelggbnmfblaa
