/- Package rate, and the document's own answers of layer 18: the rate of two samples. Conditions: the arguments are numbers of 64 bits. -/
import Derived.Test.YtffcadobdimdoaaExs
import Derived.Test.YtffcadobdimdoaaGna
namespace Go.Proofs.Ytffcadobdimdoaa
open Go.RowKit
theorem below_boxR {w w1 : World} {o : Obj} (h : Below (w.alloc o).heap.size (w.alloc o) w1) : Below w.heap.size w w1 := below_transG ((Below.refl _ w).alloc (Nat.le_refl _) o) h
theorem cut_inR (x : Int) : -9223372036854775808 ≤ cutV x ∧ cutV x ≤ 9223372036854775807 := by unfold cutV; split <;> omega
theorem clamp_in (x lo hi : Int) (h : lo ≤ hi) : lo ≤ clampV x lo hi ∧ clampV x lo hi ≤ hi := by unfold clampV; split <;> (try split) <;> omega
/-- What lies between two numbers, the second above the first. -/
def growB (a b : Int) : Bool := decide (a < b) && fitB (b - a)
def growX (a b : Int) : Int := if a < b then cutV (b - a) else 0
theorem grow_in (a b : Int) : -9223372036854775808 ≤ growX a b ∧ growX a b ≤ 9223372036854775807 := by unfold growX; split; exact cut_inR _; omega
theorem grow_pos {a b : Int} (h : growB a b = true) : growX a b = b - a ∧ 1 ≤ b - a := by
  unfold growB at h
  rw [Bool.and_eq_true] at h
  have h1 := of_decide_eq_true h.1
  unfold growX
  rw [if_pos h1, cut_yes (of_fit h.2)]
  exact ⟨rfl, by omega⟩
/-- The rate of two samples: whether there is one, and it. -/
def rofB (ta ha tb hb m : Int) : Bool := decide (0 ≤ m ∧ m ≤ 4096) && (growB ta tb && (growB ha hb && fitB (growX ta tb * 1048576 / growX ha hb)))
def rofX (ta ha tb hb m : Int) : Int := if rofB ta ha tb hb m = true then clampV (growX ta tb * 1048576 / growX ha hb) (1048576 - m) (1048576 + m) else 1048576
theorem rof_in (ta ha tb hb m : Int) (hm : 0 ≤ m) : 1048576 - m ≤ rofX ta ha tb hb m ∧ rofX ta ha tb hb m ≤ 1048576 + m := by
  unfold rofX; split
  · exact clamp_in _ _ _ (by omega)
  · omega
theorem rwithin_any (n lo hi : Int) (w : World) : Calls Try.prog 63 #[.int .i64 n, .int .i64 lo, .int .i64 hi] w fun y w' => y = .returned (.bool (decide (lo ≤ n ∧ n ≤ hi))) ∧ w = w' := by
  have HC := Lib.hid (fun u => clamp_ex n lo hi u)
  by_cases hn : lo ≤ n ∧ n ≤ hi
  · have e : clampV n lo hi = n := by unfold clampV; rw [if_neg (by omega), if_neg (by omega)]
    rw [decide_eq_true hn]
    rw [e] at HC
    have e2 : (n == n) = true := by simp
    clear e hn
    go_enter Try.func63, Try.ntmps63
    go_wp2_with fail
    refine (HC.out _).mono ?_
    rintro y w1 ⟨rfl, rfl⟩
    go_wp2_with fail
    go_ret
    exact ⟨rfl, rfl⟩
  · have hne : clampV n lo hi ≠ n := by unfold clampV; split <;> (try split) <;> omega
    rw [decide_eq_false hn]
    obtain ⟨c, hc⟩ : ∃ c, c = clampV n lo hi := ⟨_, rfl⟩
    rw [← hc] at HC hne
    have e2 : (c == n) = false := by rw [beq_eq_false_iff_ne]; exact hne
    clear hn hc hne
    go_enter Try.func63, Try.ntmps63
    go_wp2_with fail
    refine (HC.out _).mono ?_
    rintro y w1 ⟨rfl, rfl⟩
    go_wp2_with fail
    go_ret
    exact ⟨rfl, rfl⟩
theorem grown_any (a b : Int) (ha : -9223372036854775808 ≤ a ∧ a ≤ 9223372036854775807) (hb : -9223372036854775808 ≤ b ∧ b ≤ 9223372036854775807) (w : World) : Calls Try.prog 64 #[.int .i64 a, .int .i64 b] w fun y w' => y = .returned (.tuple #[.int .i64 (growX a b), .bool (growB a b)]) ∧ w = w' := by
  by_cases h : a < b
  · have HC := Lib.hid (fun u => sub_ex b a hb ha u)
    have h2 : ¬ b ≤ a := by omega
    have e1 : growX a b = cutV (b - a) := if_pos h
    have e2 : growB a b = fitB (b - a) := by unfold growB; rw [decide_eq_true h, Bool.true_and]
    rw [e1, e2]
    obtain ⟨x, hx⟩ : ∃ x, x = cutV (b - a) := ⟨_, rfl⟩
    obtain ⟨k, hk⟩ : ∃ x, x = fitB (b - a) := ⟨_, rfl⟩
    rw [show okV (b - a) = .tuple #[.int .i64 x, .bool k] by rw [hx, hk]; rfl] at HC
    rw [← hx, ← hk]
    clear h e1 e2 hx hk ha hb
    go_enter Try.func64, Try.ntmps64
    go_wp2_with fail
    refine (HC.out _).mono ?_
    rintro y w1 ⟨rfl, rfl⟩
    go_wp2_with fail
    go_ret2
    exact ⟨rfl, rfl⟩
  · have e1 : growX a b = 0 := if_neg h
    have e2 : growB a b = false := by unfold growB; rw [decide_eq_false h, Bool.false_and]
    rw [e1, e2]
    have h2 : b ≤ a := by omega
    clear h e1 e2 ha hb
    go_enter Try.func64, Try.ntmps64
    go_wp2_with fail
    go_ret2
    exact ⟨rfl, rfl⟩
set_option maxHeartbeats 2000000 in
theorem rate_of_any (ta ha tb hb m : Int) (hta : -9223372036854775808 ≤ ta ∧ ta ≤ 9223372036854775807) (hha : -9223372036854775808 ≤ ha ∧ ha ≤ 9223372036854775807) (htb : -9223372036854775808 ≤ tb ∧ tb ≤ 9223372036854775807) (hhb : -9223372036854775808 ≤ hb ∧ hb ≤ 9223372036854775807) (w : World) : Calls Try.prog 13 #[.agg #[.int .i64 ta, .int .i64 ha], .agg #[.int .i64 tb, .int .i64 hb], .int .i64 m] w fun y w' => y = .returned (.tuple #[.int .i64 (rofX ta ha tb hb m), .bool (rofB ta ha tb hb m)]) ∧ Below w.heap.size w w' := by
  have HW := Lib.hid (fun u => rwithin_any m 0 4096 u)
  have HBX := Lib.hid (((Below.refl _ w).alloc (Nat.le_refl _) (.cells #[.int .i64 ta, .int .i64 ha] 23)).alloc (by simp) (.cells #[.int .i64 tb, .int .i64 hb] 23))
  by_cases hmm : 0 ≤ m ∧ m ≤ 4096
  case neg =>
    have e : rofB ta ha tb hb m = false := by unfold rofB; rw [decide_eq_false hmm, Bool.false_and]
    have e2 : rofX ta ha tb hb m = 1048576 := by unfold rofX; rw [e]; exact if_neg (by decide)
    rw [e, e2]
    rw [decide_eq_false hmm] at HW
    clear e e2 hmm hta hha htb hhb
    go_enter Try.func13, Try.ntmps13
    go_wp2_with fail
    refine (HW.out _).mono ?_
    rintro y w1 ⟨rfl, rfl⟩
    go_wp2_with fail
    go_ret2
    exact ⟨rfl, HBX.out⟩
  rw [decide_eq_true hmm] at HW
  have HG1 := Lib.hid (fun u => grown_any ta tb hta htb u)
  have HG2 := Lib.hid (fun u => grown_any ha hb hha hhb u)
  have HS := Lib.hid (fun u => scale_ex (growX ta tb) 1048576 (growX ha hb) (grow_in _ _) (by decide) (grow_in _ _) u)
  have HB := Lib.hid (show rofB ta ha tb hb m = (growB ta tb && (growB ha hb && fitB (growX ta tb * 1048576 / growX ha hb))) by unfold rofB; rw [decide_eq_true hmm, Bool.true_and])
  have HX := Lib.hid (show rofX ta ha tb hb m = if rofB ta ha tb hb m = true then clampV (growX ta tb * 1048576 / growX ha hb) (1048576 - m) (1048576 + m) else 1048576 from rfl)
  have HP2 := Lib.hid (fun h => (grow_pos (a := ha) (b := hb) h))
  obtain ⟨Y, hY⟩ : ∃ z, z = rofB ta ha tb hb m := ⟨_, rfl⟩
  obtain ⟨X, hX⟩ : ∃ z, z = rofX ta ha tb hb m := ⟨_, rfl⟩
  rw [← hY] at HB HX ⊢
  rw [← hX] at HX ⊢
  obtain ⟨T, hT⟩ : ∃ z, z = growX ta tb := ⟨_, rfl⟩
  obtain ⟨k1, hk1⟩ : ∃ z, z = growB ta tb := ⟨_, rfl⟩
  obtain ⟨H, hH⟩ : ∃ z, z = growX ha hb := ⟨_, rfl⟩
  obtain ⟨k2, hk2⟩ : ∃ z, z = growB ha hb := ⟨_, rfl⟩
  rw [← hT] at HG1 HS HB HX
  rw [← hk1] at HG1 HB
  rw [← hH] at HG2 HS HB HX HP2
  rw [← hk2] at HG2 HB HP2
  have HM := Lib.hid hmm
  clear hY hX hT hk1 hH hk2 hmm hta htb hha hhb
  obtain ⟨v, k3, hv⟩ : ∃ v k3, scaleV T 1048576 H = .tuple #[.int .i64 v, .bool k3] := by
    unfold scaleV; split
    · exact ⟨0, false, rfl⟩
    · exact ⟨_, _, rfl⟩
  rw [hv] at HS
  have HV := Lib.hid hv
  have HC := Lib.hid (fun u => clamp_ex v (1048576 - m) (1048576 + m) u)
  clear hv
  go_enter Try.func13, Try.ntmps13
  go_wp2_with fail
  refine (HW.out _).mono ?_
  rintro y w1 ⟨rfl, rfl⟩
  go_wp2_with fail
  refine (HG1.out _).mono ?_
  rintro y w1 ⟨rfl, rfl⟩
  go_wp2_with fail
  refine (HG2.out _).mono ?_
  rintro y w1 ⟨rfl, rfl⟩
  go_wp2_with fail
  refine (HS.out _).mono ?_
  rintro y w1 ⟨rfl, hb⟩
  have HB1 := Lib.hid (below_transG HBX.out hb)
  clear hb
  cases k1
  case false =>
    obtain rfl : Y = false := by rw [HB.out]; rfl
    obtain rfl : X = 1048576 := by rw [HX.out]; exact if_neg (by decide)
    clear HB HX
    go_wp2_with fail
    go_ret2
    exact ⟨rfl, HB1.out⟩
  cases k2
  case false =>
    obtain rfl : Y = false := by rw [HB.out]; rfl
    obtain rfl : X = 1048576 := by rw [HX.out]; exact if_neg (by decide)
    clear HB HX
    go_wp2_with fail
    go_ret2
    exact ⟨rfl, HB1.out⟩
  have hpos := HP2.out rfl
  have hv2 := HV.out
  rw [scaleV_yes (by omega)] at hv2
  unfold okV at hv2
  injection hv2 with hv2
  simp only [Array.mk.injEq, List.cons.injEq, and_true, Value.int.injEq, Value.bool.injEq, true_and] at hv2
  obtain ⟨hv3, hk3⟩ := hv2
  have HHB := HB.out
  rw [Bool.true_and, Bool.true_and, hk3] at HHB
  obtain rfl := HHB
  cases Y
  case false =>
    obtain rfl : X = 1048576 := by rw [HX.out]; exact if_neg (by decide)
    clear HB HX hpos hv3 hk3
    go_wp2_with fail
    go_ret2
    exact ⟨rfl, HB1.out⟩
  case true =>
    obtain rfl : X = clampV v (1048576 - m) (1048576 + m) := by rw [HX.out, if_pos rfl, ← hv3, cut_yes (of_fit hk3)]
    have f1 : wrap64 (1048576 - m) = 1048576 - m := w64_in _ (by have := HM.out; omega)
    have f2 : wrap64 (1048576 + m) = 1048576 + m := w64_in _ (by have := HM.out; omega)
    clear HB HX hpos hv3 hk3
    go_wp2_with fail
    refine (HC.out _).mono ?_
    rintro y w2 ⟨rfl, rfl⟩
    go_wp2_with fail
    go_ret2
    exact ⟨rfl, HB1.out⟩
end Go.Proofs.Ytffcadobdimdoaa
