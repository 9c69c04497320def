/- Package osc, and the document's own answers of layer 16: how many stamps there are, a count's stamp, and what a stamp is expanded to. Conditions: the arguments are numbers of their kinds. -/
import Derived.Test.YtmlnobiakfapcabExs
import Derived.Test.YtmlnobiakfapcabGna
namespace Go.Proofs.Ytmlnobiakfapcab
open Go.RowKit
/-- How many stamps of a width there are. -/
def turnN (width : Int) : Nat := if 1 ≤ width ∧ width ≤ 62 then 2 ^ width.toNat else 0
theorem turn_no {width : Int} (h : ¬ (1 ≤ width ∧ width ≤ 62)) : turnN width = 0 := if_neg h
theorem turn_yes (k : Nat) (h : 1 ≤ k ∧ k ≤ 62) : turnN (k : Int) = 2 ^ k := by unfold turnN; rw [if_pos (by omega), Int.toNat_natCast]
theorem pow_in (k : Nat) (h : 1 ≤ k ∧ k ≤ 62) : 2 ≤ 2 ^ k ∧ 2 ^ k ≤ 4611686018427387904 :=
  ⟨Nat.pow_le_pow_right (n := 2) (by decide) (i := 1) (j := k) h.1, Nat.pow_le_pow_right (n := 2) (by decide) (i := k) (j := 62) h.2⟩
theorem turn_in (width : Int) : turnN width ≤ 4611686018427387904 := by
  unfold turnN
  split
  · rename_i h
    obtain ⟨k, rfl⟩ : ∃ k : Nat, width = (k : Int) := ⟨width.toNat, by omega⟩
    rw [Int.toNat_natCast]
    exact (pow_in k (by omega)).2
  · omega
/-- A count's stamp. -/
def stampI (count width : Int) : Int := if turnN width = 0 then 0 else count % (turnN width : Int)
/-- What a stamp is expanded to, and whether it is. -/
def expO (now stamp width : Int) : Bool := decide (0 ≤ now ∧ stamp < turnN width ∧ (now - stamp) % turnN width ≤ now)
def expX (now stamp width : Int) : Int := if expO now stamp width = true then now - (now - stamp) % turnN width else 0
theorem exp_no {now stamp width : Int} (h : ¬ (0 ≤ now ∧ stamp < turnN width ∧ (now - stamp) % turnN width ≤ now)) : Ending.returned (.tuple #[.int .i64 0, .bool false]) = .returned (.tuple #[.int .i64 (expX now stamp width), .bool (expO now stamp width)]) := by
  have e : expO now stamp width = false := decide_eq_false h
  unfold expX; rw [e, if_neg (by decide)]
theorem exp_yes {now stamp width x : Int} (h : 0 ≤ now ∧ stamp < turnN width ∧ (now - stamp) % turnN width ≤ now) (hx : x = now - (now - stamp) % turnN width) : Ending.returned (.tuple #[.int .i64 x, .bool true]) = .returned (.tuple #[.int .i64 (expX now stamp width), .bool (expO now stamp width)]) := by
  have e : expO now stamp width = true := decide_eq_true h
  unfold expX; rw [e, if_pos rfl, hx]
theorem osc_turn (width : Int) (w : World) : Calls Try.prog 55 #[.int .i64 width] w fun y w' => y = .returned (.int .i64 (turnN width : Int)) ∧ w = w' := by
  by_cases h : 1 ≤ width ∧ width ≤ 62
  · obtain ⟨k, rfl⟩ : ∃ k : Nat, width = (k : Int) := ⟨width.toNat, by omega⟩
    have hk : 1 ≤ k ∧ k ≤ 62 := by omega
    have hp := pow_in k hk
    rw [turn_yes k hk]
    have hw : wrap64 (2 ^ k) = ((2 ^ k : Nat) : Int) := by rw [show ((2 : Int) ^ k) = ((2 ^ k : Nat) : Int) by rw [Int.natCast_pow]; rfl]; exact w64_in _ (by omega)
    obtain ⟨P, hP⟩ : ∃ P : Int, P = ((2 ^ k : Nat) : Int) := ⟨_, rfl⟩
    rw [← hP] at hw ⊢
    have HW := Lib.hid hw
    clear hP hw hp
    have i1 : ¬ (k : Int) < 1 := by omega
    have i2 : ¬ (62 : Int) < (k : Int) := by omega
    have i3 : ¬ (k : Int) < 0 := by omega
    go_enter Try.func55, Try.ntmps55
    go_wp2_with fail
    go_ret
    exact ⟨by rw [← HW.out]; rfl, rfl⟩
  · rw [turn_no h]
    have cs : width < 1 ∨ 62 < width := by omega
    rcases cs with i1 | i1
    · go_enter Try.func55, Try.ntmps55
      go_wp2_with fail
      go_ret
      exact ⟨rfl, rfl⟩
    · have i2 : ¬ width < 1 := by omega
      go_enter Try.func55, Try.ntmps55
      go_wp2_with fail
      go_ret
      exact ⟨rfl, rfl⟩
theorem osc_stamp (count width : Int) (w : World) : Calls Try.prog 15 #[.int .i64 count, .int .i64 width] w fun y w' => y = .returned (.int .u64 (stampI count width)) ∧ w = w' := by
  have ht := turn_in width
  unfold stampI
  have HT := Lib.hid (fun u => osc_turn width u)
  have HM := Lib.hid (fun u => mod_ex count (turnN width : Int) (by omega) u)
  by_cases h : turnN width = 0
  · rw [if_pos h]
    have e : modV count (turnN width : Int) = noV := if_neg (by omega)
    rw [e] at HM
    clear e h ht
    go_enter Try.func15, Try.ntmps15
    go_wp2_with fail
    refine (HT.out _).mono ?_
    rintro y w1 ⟨rfl, rfl⟩
    go_wp2_with fail
    refine (HM.out _).mono ?_
    rintro y w2 ⟨rfl, rfl⟩
    unfold noV
    go_wp2_with fail
    go_ret
    exact ⟨rfl, rfl⟩
  · rw [if_neg h]
    have e : modV count (turnN width : Int) = .tuple #[.int .i64 (count % (turnN width : Int)), .bool true] := if_pos (by omega)
    rw [e] at HM
    have hm := Int.emod_nonneg count (show ((turnN width : Nat) : Int) ≠ 0 by omega)
    have hl := Int.emod_lt_of_pos count (show (0 : Int) < (turnN width : Int) by omega)
    obtain ⟨r, hr⟩ : ∃ r, r = count % (turnN width : Int) := ⟨_, rfl⟩
    rw [← hr] at HM hm hl ⊢
    have hw : IntKind.u64.wrap r = r := by rw [IntKind.wrap_u64]; omega
    clear e h ht hr hm hl
    go_enter Try.func15, Try.ntmps15
    go_wp2_with fail
    refine (HT.out _).mono ?_
    rintro y w1 ⟨rfl, rfl⟩
    go_wp2_with fail
    refine (HM.out _).mono ?_
    rintro y w2 ⟨rfl, rfl⟩
    go_wp2_with fail
    go_ret
    exact ⟨rfl, rfl⟩
theorem osc_expand (now stamp width : Int) (hn : -9223372036854775808 ≤ now ∧ now ≤ 9223372036854775807) (hs : 0 ≤ stamp ∧ stamp ≤ 18446744073709551615) (w : World) : Calls Try.prog 14 #[.int .i64 now, .int .u64 stamp, .int .i64 width] w fun y w' => y = .returned (.tuple #[.int .i64 (expX now stamp width), .bool (expO now stamp width)]) ∧ w = w' := by
  have ht := turn_in width
  have HT := Lib.hid (fun u => osc_turn width u)
  by_cases h0 : now < 0
  · go_enter Try.func14, Try.ntmps14
    go_wp2_with fail
    go_ret2
    exact ⟨exp_no (by omega), rfl⟩
  obtain ⟨m, hm⟩ : ∃ m : Int, m = (turnN width : Int) := ⟨_, rfl⟩
  rw [← hm] at HT
  have hm0 : 0 ≤ m ∧ m ≤ 4611686018427387904 := by omega
  have hw : IntKind.u64.wrap m = m := by rw [IntKind.wrap_u64]; omega
  by_cases h1 : m ≤ stamp
  · have HC := Lib.hid (show ¬ (0 ≤ now ∧ stamp < turnN width ∧ (now - stamp) % turnN width ≤ now) by omega)
    have h2 : ¬ stamp < m := by omega
    clear ht hm
    go_enter Try.func14, Try.ntmps14
    go_wp2_with fail
    refine (HT.out _).mono ?_
    rintro y w1 ⟨rfl, rfl⟩
    go_wp2_with fail
    go_ret2
    exact ⟨exp_no HC.out, rfl⟩
  have h2 : ¬ m ≤ stamp := h1
  have h3 : stamp < m := by omega
  have hws : IntKind.i64.wrap stamp = stamp := by rw [IntKind.wrap_i64]; omega
  have hwd : IntKind.i64.wrap (now - stamp) = now - stamp := by rw [IntKind.wrap_i64]; omega
  have HM := Lib.hid (fun u => mod_ex (now - stamp) m (by omega) u)
  have e : modV (now - stamp) m = .tuple #[.int .i64 ((now - stamp) % m), .bool true] := if_pos (by omega)
  rw [e] at HM
  have hb0 := Int.emod_nonneg (now - stamp) (show m ≠ 0 by omega)
  have hb1 := Int.emod_lt_of_pos (now - stamp) (show 0 < m by omega)
  have HE := Lib.hid hm
  obtain ⟨b, hb⟩ : ∃ b, b = (now - stamp) % m := ⟨_, rfl⟩
  rw [← hb] at HM hb0 hb1
  have HBE := Lib.hid hb
  have hwr : IntKind.i64.wrap (now - b) = now - b := by rw [IntKind.wrap_i64]; omega
  clear ht hm e hb h1
  by_cases h4 : now < b
  · have HC := Lib.hid (show ¬ (0 ≤ now ∧ stamp < turnN width ∧ (now - stamp) % turnN width ≤ now) by rw [← HE.out, ← HBE.out]; omega)
    have h5 : ¬ b ≤ now := by omega
    go_enter Try.func14, Try.ntmps14
    go_wp2_with fail
    refine (HT.out _).mono ?_
    rintro y w1 ⟨rfl, rfl⟩
    go_wp2_with fail
    refine (HT.out _).mono ?_
    rintro y w1 ⟨rfl, rfl⟩
    go_wp2_with fail
    refine (HM.out _).mono ?_
    rintro y w1 ⟨rfl, rfl⟩
    go_wp2_with fail
    go_ret2
    exact ⟨exp_no HC.out, rfl⟩
  · have HC := Lib.hid (show (0 ≤ now ∧ stamp < turnN width ∧ (now - stamp) % turnN width ≤ now) by rw [← HE.out, ← HBE.out]; omega)
    go_enter Try.func14, Try.ntmps14
    go_wp2_with fail
    refine (HT.out _).mono ?_
    rintro y w1 ⟨rfl, rfl⟩
    go_wp2_with fail
    refine (HT.out _).mono ?_
    rintro y w1 ⟨rfl, rfl⟩
    go_wp2_with fail
    refine (HM.out _).mono ?_
    rintro y w1 ⟨rfl, rfl⟩
    go_wp2_with fail
    go_ret2
    exact ⟨exp_yes HC.out (by rw [HBE.out, HE.out]), rfl⟩
theorem back_eq {now stamp m b : Int} (hm : 0 < m) (hs0 : 0 ≤ stamp) (hs : stamp < m) (hb : b = now % m - stamp) : (b < 0 → b + m = (now - stamp) % m) ∧ (0 ≤ b → b = (now - stamp) % m) := by
  have h1 := Int.emod_nonneg now (show m ≠ 0 by omega)
  have h2 := Int.emod_lt_of_pos now hm
  have e : (now - stamp) % m = b % m := by rw [hb, Int.emod_sub_emod]
  constructor
  · intro h
    rw [e, ← Int.add_emod_right, Int.emod_eq_of_lt (by omega) (by omega)]
  · intro h
    rw [e, Int.emod_eq_of_lt (by omega) (by omega)]
end Go.Proofs.Ytmlnobiakfapcab
