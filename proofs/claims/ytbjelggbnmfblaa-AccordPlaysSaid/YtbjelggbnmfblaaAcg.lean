/- Package accord: how far both may part in a bit, and in so many. Conditions: the arguments are numbers of 64 bits. -/
import Derived.Test.YtbjelggbnmfblaaAca
namespace Go.Proofs.Ytbjelggbnmfblaa
open Go.RowKit
/-- The slope of a config. -/
def slopeC (n d tu : Int) : Int := if rightC n d tu = true then 2 * d - (n + d) * (-tu) / 1048576 else 0
theorem slope_in (n d tu : Int) : 0 ≤ slopeC n d tu ∧ slopeC n d tu ≤ 2105345 + 8192 := by
  unfold slopeC
  split
  · next h =>
    unfold rightC rightO at h
    rw [Bool.and_eq_true] at h
    have h1 := of_decide_eq_true h.1
    have h2 := of_decide_eq_true h.2
    have h3 : 0 ≤ (n + d) * tu := Int.mul_nonneg (by omega) h2.1
    have h4 : (n + d) * tu ≤ 2097152 * 4096 := Int.mul_le_mul (by omega) h2.2 h2.1 (by omega)
    rw [Int.mul_neg]
    omega
  · omega
theorem ac_slope (n d tu : Int) (hn : -9223372036854775808 ≤ n ∧ n ≤ 9223372036854775807) (w : World) : Calls Try.prog 117 #[.agg #[.int .i64 n, .int .i64 d, .int .i64 tu]] w fun y w' => y = .returned (.int .i64 (slopeC n d tu)) ∧ Below w.heap.size w w' := by
  have HR := Lib.hid (fun u => ac_right n d tu hn u)
  have hsi := slope_in n d tu
  unfold slopeC at hsi ⊢
  cases hk : rightC n d tu
  · rw [hk] at HR
    rw [if_neg (by decide)]
    clear hk hn hsi
    go_enter Try.func117, Try.ntmps117
    go_wp2_with fail
    refine (HR.out _).mono ?_
    rintro y w1 ⟨rfl, hb⟩
    have HB := Lib.hid (below_transG ((Below.refl _ w).alloc (Nat.le_refl _) _) hb)
    clear hb
    go_wp2_with fail
    go_ret
    exact ⟨rfl, HB.out⟩
  · rw [hk] at HR hsi
    rw [if_pos rfl] at hsi ⊢
    have hb : (1 ≤ n ∧ n ≤ 1048576 ∧ 0 ≤ d ∧ d < n) ∧ (0 ≤ tu ∧ tu ≤ 4096) := by
      unfold rightC rightO at hk
      rw [Bool.and_eq_true] at hk
      exact ⟨of_decide_eq_true hk.1, of_decide_eq_true hk.2⟩
    have hSC := fun u => scale_ex (n + d) (-tu) 1048576 (by omega) (by omega) (by decide) u
    rw [scaleV_yes (by decide)] at hSC
    obtain ⟨x, hx⟩ : ∃ x, x = (n + d) * (-tu) / 1048576 := ⟨_, rfl⟩
    rw [← hx] at hSC hsi ⊢
    rw [show okV x = .tuple #[.int .i64 x, .bool true] by unfold okV; rw [fit_yes (by omega), cut_yes (by omega)]] at hSC
    obtain ⟨s, hs⟩ : ∃ s, s = n + d := ⟨_, rfl⟩
    obtain ⟨m, hm⟩ : ∃ m, m = -tu := ⟨_, rfl⟩
    rw [← hs, ← hm] at hSC
    have HSC := Lib.hid hSC
    have e1 : wrap64 (n + d) = s := by rw [hs]; exact w64_in _ (by omega)
    obtain ⟨d2, hd2⟩ : ∃ z, z = 2 * d := ⟨_, rfl⟩
    have z1 : 0 ≤ d2 ∧ d2 ≤ 2097152 := by omega
    have e3 : wrap64 (2 * d) = d2 := by rw [hd2]; exact w64_in _ (by clear e1; omega)
    obtain ⟨o, ho⟩ : ∃ z, z = d2 - x := ⟨_, rfl⟩
    have e4 : wrap64 (d2 - x) = o := by rw [ho]; exact w64_in _ (by clear e1 e3; omega)
    have e2 : wrap64 (-tu) = m := by rw [hm]; exact w64_in _ (by clear e1 e3 e4; omega)
    rw [← hd2, ← ho]
    clear hk hn hsi hb hSC hx hs hm hd2 ho z1
    go_enter Try.func117, Try.ntmps117
    go_wp2_with fail
    refine (HR.out _).mono ?_
    rintro y w1 ⟨rfl, hb⟩
    have HB := Lib.hid (below_transG ((Below.refl _ w).alloc (Nat.le_refl _) _) hb)
    have HS := Lib.hid ((Blk.new w 92 [.int .i64 n, .int .i64 d, .int .i64 tu]).keep hb (by simp))
    clear hb
    have q0 : w1.cell? ⟨w.heap.size, 0, none⟩ = some (.int .i64 n) := HS.out.cellAt (i := 0) (by simp)
    have q1 : w1.cell? ⟨w.heap.size, 1, none⟩ = some (.int .i64 d) := HS.out.cellAt (i := 1) (by simp)
    have q2 : w1.cell? ⟨w.heap.size, 2, none⟩ = some (.int .i64 tu) := HS.out.cellAt (i := 2) (by simp)
    go_wp2_with fail
    refine (HSC.out _).mono ?_
    rintro y w2 ⟨rfl, hb⟩
    have HB2 := Lib.hid (below_transG HB.out hb)
    have HS2 := Lib.hid (HS.out.keep hb HS.out.lt)
    clear hb q0 q1 q2
    have q1 : w2.cell? ⟨w.heap.size, 1, none⟩ = some (.int .i64 d) := HS2.out.cellAt (i := 1) (by simp)
    go_wp2_with fail
    go_ret
    exact ⟨congrArg (fun z => Ending.returned (.int .i64 z)) e4, HB2.out⟩
def boundB (n d tu b : Int) : Bool := rightC n d tu && decide (0 ≤ b ∧ b ≤ 1099511627776)
def boundX (n d tu b : Int) : Int := if boundB n d tu b = true then b * slopeC n d tu + 4 else 0
theorem fit_slope (n d tu b : Int) (h : 0 ≤ b ∧ b ≤ 1099511627776) : 0 ≤ b * slopeC n d tu ∧ b * slopeC n d tu ≤ 1099511627776 * 2113537 := by
  have hs := slope_in n d tu
  exact ⟨Int.mul_nonneg h.1 hs.1, Int.mul_le_mul h.2 (by omega) hs.1 (by omega)⟩
set_option maxHeartbeats 1000000 in
theorem ac_bound (n d tu b : Int) (hn : -9223372036854775808 ≤ n ∧ n ≤ 9223372036854775807) (hb : -9223372036854775808 ≤ b ∧ b ≤ 9223372036854775807) (w : World) : Calls Try.prog 116 #[.agg #[.int .i64 n, .int .i64 d, .int .i64 tu], .int .i64 b] w fun y w' => y = .returned (.tuple #[.int .i64 (boundX n d tu b), .bool (boundB n d tu b)]) ∧ Below w.heap.size w w' := by
  have HSL := Lib.hid (fun u => ac_slope n d tu hn u)
  have HR := Lib.hid (fun u => ac_right n d tu hn u)
  have HW := Lib.hid (fun u => ac_within b 0 1099511627776 (by decide) u)
  have HM := Lib.hid (fun u => mul_ex b (slopeC n d tu) hb (by have := slope_in n d tu; omega) u)
  have HFS := Lib.hid (fit_slope n d tu b)
  have HA := Lib.hid (fun (h : 0 ≤ b ∧ b ≤ 1099511627776) u => add_ex (b * slopeC n d tu) 4 (by have := fit_slope n d tu b h; omega) (by decide) u)
  unfold boundX boundB
  obtain ⟨sl, hsl⟩ : ∃ x, x = slopeC n d tu := ⟨_, rfl⟩
  rw [← hsl] at HSL HM HFS HA ⊢
  obtain ⟨k, hk⟩ : ∃ k, k = rightC n d tu := ⟨_, rfl⟩
  rw [← hk] at HR ⊢
  obtain ⟨pr, hpr⟩ : ∃ x, x = b * sl := ⟨_, rfl⟩
  rw [← hpr] at HM HFS HA ⊢
  obtain ⟨mv, hmv⟩ : ∃ x, x = cutV pr := ⟨_, rfl⟩
  obtain ⟨mk, hmk⟩ : ∃ x, x = fitB pr := ⟨_, rfl⟩
  rw [show okV pr = .tuple #[.int .i64 mv, .bool mk] by rw [hmv, hmk]; rfl] at HM
  have HMV := Lib.hid hmv; have HMK := Lib.hid hmk
  clear hsl hk hpr hmv hmk hn hb
  by_cases hw : 0 ≤ b ∧ b ≤ 1099511627776
  · have hd : decide (0 ≤ b ∧ b ≤ 1099511627776) = true := decide_eq_true hw
    rw [hd] at HW ⊢
    have hf := HFS.out hw
    obtain rfl : mk = true := by rw [HMK.out]; exact fit_yes (by omega)
    obtain rfl : mv = pr := by rw [HMV.out]; exact cut_yes (by omega)
    have HA2 := Lib.hid (fun u => HA.out hw u)
    obtain ⟨fin, hfin⟩ : ∃ x, x = mv + 4 := ⟨_, rfl⟩
    rw [← hfin] at HA2 ⊢
    rw [show okV fin = .tuple #[.int .i64 fin, .bool true] by unfold okV; rw [fit_yes (by omega), cut_yes (by omega)]] at HA2
    clear hd hw hf HA HFS HMV HMK hfin
    cases k
    · go_enter Try.func116, Try.ntmps116
      go_wp2_with fail
      refine (HSL.out _).mono ?_
      rintro y w1 ⟨rfl, hb⟩
      have HB1 := Lib.hid (below_transG ((Below.refl _ w).alloc (Nat.le_refl _) _) hb)
      have HS := Lib.hid ((Blk.new w 92 [.int .i64 n, .int .i64 d, .int .i64 tu]).keep hb (by simp))
      clear hb
      go_wp2_with fail
      refine (HM.out _).mono ?_
      rintro y w2 ⟨rfl, hb⟩
      have HB2 := Lib.hid (below_transG HB1.out hb)
      have HS2 := Lib.hid (HS.out.keep hb HS.out.lt)
      clear hb
      have q0 : w2.cell? ⟨w.heap.size, 0, none⟩ = some (.int .i64 n) := HS2.out.cellAt (i := 0) (by simp)
      have q1 : w2.cell? ⟨w.heap.size, 1, none⟩ = some (.int .i64 d) := HS2.out.cellAt (i := 1) (by simp)
      have q2 : w2.cell? ⟨w.heap.size, 2, none⟩ = some (.int .i64 tu) := HS2.out.cellAt (i := 2) (by simp)
      go_wp2_with fail
      refine (HR.out _).mono ?_
      rintro y w3 ⟨rfl, hb⟩
      have HB3 := Lib.hid (below_transG HB2.out hb)
      clear hb q0 q1 q2
      go_wp2_with fail
      go_ret2
      exact ⟨rfl, HB3.out⟩
    · go_enter Try.func116, Try.ntmps116
      go_wp2_with fail
      refine (HSL.out _).mono ?_
      rintro y w1 ⟨rfl, hb⟩
      have HB1 := Lib.hid (below_transG ((Below.refl _ w).alloc (Nat.le_refl _) _) hb)
      have HS := Lib.hid ((Blk.new w 92 [.int .i64 n, .int .i64 d, .int .i64 tu]).keep hb (by simp))
      clear hb
      go_wp2_with fail
      refine (HM.out _).mono ?_
      rintro y w2 ⟨rfl, hb⟩
      have HB2 := Lib.hid (below_transG HB1.out hb)
      have HS2 := Lib.hid (HS.out.keep hb HS.out.lt)
      clear hb
      have q0 : w2.cell? ⟨w.heap.size, 0, none⟩ = some (.int .i64 n) := HS2.out.cellAt (i := 0) (by simp)
      have q1 : w2.cell? ⟨w.heap.size, 1, none⟩ = some (.int .i64 d) := HS2.out.cellAt (i := 1) (by simp)
      have q2 : w2.cell? ⟨w.heap.size, 2, none⟩ = some (.int .i64 tu) := HS2.out.cellAt (i := 2) (by simp)
      go_wp2_with fail
      refine (HR.out _).mono ?_
      rintro y w3 ⟨rfl, hb⟩
      have HB3 := Lib.hid (below_transG HB2.out hb)
      clear hb q0 q1 q2
      go_wp2_with fail
      refine (HW.out _).mono ?_
      rintro y w4 ⟨rfl, rfl⟩
      go_wp2_with fail
      refine (HA2.out _).mono ?_
      rintro y w5 ⟨rfl, rfl⟩
      go_wp2_with fail
      go_ret2
      exact ⟨rfl, HB3.out⟩
  · have hd : decide (0 ≤ b ∧ b ≤ 1099511627776) = false := decide_eq_false hw
    rw [hd] at HW ⊢
    clear hd hw HA HFS HMV HMK
    cases k
    · go_enter Try.func116, Try.ntmps116
      go_wp2_with fail
      refine (HSL.out _).mono ?_
      rintro y w1 ⟨rfl, hb⟩
      have HB1 := Lib.hid (below_transG ((Below.refl _ w).alloc (Nat.le_refl _) _) hb)
      have HS := Lib.hid ((Blk.new w 92 [.int .i64 n, .int .i64 d, .int .i64 tu]).keep hb (by simp))
      clear hb
      go_wp2_with fail
      refine (HM.out _).mono ?_
      rintro y w2 ⟨rfl, hb⟩
      have HB2 := Lib.hid (below_transG HB1.out hb)
      have HS2 := Lib.hid (HS.out.keep hb HS.out.lt)
      clear hb
      have q0 : w2.cell? ⟨w.heap.size, 0, none⟩ = some (.int .i64 n) := HS2.out.cellAt (i := 0) (by simp)
      have q1 : w2.cell? ⟨w.heap.size, 1, none⟩ = some (.int .i64 d) := HS2.out.cellAt (i := 1) (by simp)
      have q2 : w2.cell? ⟨w.heap.size, 2, none⟩ = some (.int .i64 tu) := HS2.out.cellAt (i := 2) (by simp)
      go_wp2_with fail
      refine (HR.out _).mono ?_
      rintro y w3 ⟨rfl, hb⟩
      have HB3 := Lib.hid (below_transG HB2.out hb)
      clear hb q0 q1 q2
      go_wp2_with fail
      go_ret2
      exact ⟨rfl, HB3.out⟩
    · go_enter Try.func116, Try.ntmps116
      go_wp2_with fail
      refine (HSL.out _).mono ?_
      rintro y w1 ⟨rfl, hb⟩
      have HB1 := Lib.hid (below_transG ((Below.refl _ w).alloc (Nat.le_refl _) _) hb)
      have HS := Lib.hid ((Blk.new w 92 [.int .i64 n, .int .i64 d, .int .i64 tu]).keep hb (by simp))
      clear hb
      go_wp2_with fail
      refine (HM.out _).mono ?_
      rintro y w2 ⟨rfl, hb⟩
      have HB2 := Lib.hid (below_transG HB1.out hb)
      have HS2 := Lib.hid (HS.out.keep hb HS.out.lt)
      clear hb
      have q0 : w2.cell? ⟨w.heap.size, 0, none⟩ = some (.int .i64 n) := HS2.out.cellAt (i := 0) (by simp)
      have q1 : w2.cell? ⟨w.heap.size, 1, none⟩ = some (.int .i64 d) := HS2.out.cellAt (i := 1) (by simp)
      have q2 : w2.cell? ⟨w.heap.size, 2, none⟩ = some (.int .i64 tu) := HS2.out.cellAt (i := 2) (by simp)
      go_wp2_with fail
      refine (HR.out _).mono ?_
      rintro y w3 ⟨rfl, hb⟩
      have HB3 := Lib.hid (below_transG HB2.out hb)
      clear hb q0 q1 q2
      go_wp2_with fail
      refine (HW.out _).mono ?_
      rintro y w4 ⟨rfl, rfl⟩
      go_wp2_with fail
      go_ret2
      exact ⟨rfl, HB3.out⟩
end Go.Proofs.Ytbjelggbnmfblaa
