/- The code of package stuff (clean, tidy, Due, Most): what it returns. Conditions: a byte is a byte. -/
import Derived.Test.YtmfnkfiocnngeaaDoorBas
import Derived.Deep.DeepCutAuto
import Derived.Deep.RegionWith
namespace Go.Proofs.YtmfnkfiocnngeaaDoor
open Go.RowKit Go.Shelf
theorem str_one (w : World) (x : Nat) (T : TypeId) : Str (w.alloc (.cells #[.int .u8 (x : Int)] T)).heap.size (w.alloc (.cells #[.int .u8 (x : Int)] T)) (.slice (some ⟨w.heap.size, 0, none⟩) 1 1) [x] :=
  .inr ⟨w.heap.size, 0, 1, rfl, Nat.le_refl _, by omega, by simp, fun j hj => by
    obtain rfl : j = 0 := by simpa using hj
    simp⟩
theorem u8_bit (x : Nat) : IntKind.u8.wrap ((numB (bitsOf [x]) : Nat) : Int) = ((bitN x : Nat) : Int) := by
  have h := bitN_le x
  have e : numB (bitsOf [x]) = bitN x := by
    show (2 * 0 + bitN x) % 18446744073709551616 = _
    omega
  rw [e, IntKind.wrap_u8]
  omega
theorem cln_any (x : Nat) (w : World) : Calls Tryd.prog 129 #[.int .u8 x] w fun e w' => e = .returned (.int .u8 (bitN x : Nat)) ∧ Below w.heap.size w w' := by
  go_enter Tryd.func129, Tryd.ntmps129
  go_wp2_with (fail)
  refine (number_any _ 1 1 [x] (by simp) _ (str_one w x _)).mono ?_
  rintro e w1 ⟨rfl, hb⟩
  go_wp2_with (fail)
  go_ret
  exact ⟨ret_u8 (u8_bit x), below_trans' ((Below.refl _ w).alloc (Nat.le_refl _) _) hb⟩
/-- A run, as a value. -/
def runW (b : Nat) (n : Int) : Value := .agg #[.int .u8 (b : Int), .int .i64 n]
def dueW (b : Nat) (n : Int) : Nat × Bool := if n < 5 then (0, false) else (1 - bitN b, true)
theorem due_any (b : Nat) (n : Int) (w : World) : Calls Tryd.prog 127 #[runW b n] w fun e w' => e = .returned (.tuple #[.int .u8 ((dueW b n).1 : Nat), .bool (dueW b n).2]) ∧ Below w.heap.size w w' := by
  unfold runW
  by_cases h : n < 5
  · have hd : dueW b n = (0, false) := if_pos h
    rw [hd]
    clear hd
    go_enter Tryd.func127, Tryd.ntmps127
    go_wp2
    go_ret2
    exact ⟨rfl, (Below.refl _ _).alloc (Nat.le_refl _) _⟩
  · have hd : dueW b n = (1 - bitN b, true) := if_neg h
    rw [hd]
    clear hd
    obtain ⟨v, hv⟩ : ∃ v, v = bitN b := ⟨_, rfl⟩
    have hv1 : v ≤ 1 := by rw [hv]; exact bitN_le _
    have ev : IntKind.u8.wrap (1 - (v : Int)) = ((1 - v : Nat) : Int) := by rw [IntKind.wrap_u8]; omega
    have HO := Lib.hid (fun u => cln_any b u)
    rw [← hv] at HO ⊢
    clear hv
    go_enter Tryd.func127, Tryd.ntmps127
    go_wp2_with (fail)
    refine (HO.out _).mono ?_
    rintro e w1 ⟨rfl, hb⟩
    have HB := Lib.hid (below_trans' ((Below.refl _ w).alloc (Nat.le_refl _) _) hb)
    clear hb HO
    go_wp2_with (fail)
    go_ret2
    exact ⟨rfl, HB.out⟩
def mostW (n : Int) : Int := if n < 1 ∨ 1073741824 < n then 0 else n + (n - 1) / 4
theorem most_any (n : Int) (w : World) : Calls Tryd.prog 126 #[.int .i64 n] w fun e w' => e = .returned (.int .i64 (mostW n)) ∧ w = w' := by
  by_cases h1 : n < 1
  · rw [show mostW n = 0 from if_pos (.inl h1)]
    go_enter Tryd.func126, Tryd.ntmps126
    go_wp2
    go_ret
    exact ⟨rfl, rfl⟩
  · by_cases h2 : 1073741824 < n
    · rw [show mostW n = 0 from if_pos (.inr h2)]
      go_enter Tryd.func126, Tryd.ntmps126
      go_wp2
      go_ret
      exact ⟨rfl, rfl⟩
    · rw [show mostW n = n + (n - 1) / 4 from if_neg (by omega)]
      go_enter Tryd.func126, Tryd.ntmps126
      go_wp2
      go_ret
      exact ⟨rfl, rfl⟩
set_option maxHeartbeats 1000000 in
theorem tidy_any (b : Nat) (n : Int) (w : World) : Calls Tryd.prog 130 #[runW b n] w fun e w' => e = .returned (runW (bitN b) (max n 0)) ∧ Below w.heap.size w w' := by
  unfold runW
  obtain ⟨v, hv⟩ : ∃ v, v = bitN b := ⟨_, rfl⟩
  have HO := Lib.hid (fun u => cln_any b u)
  rw [← hv] at HO ⊢
  clear hv
  go_enter Tryd.func130, Tryd.ntmps130
  go_wp2_with (fail)
  obtain ⟨wr, hwr⟩ : ∃ wr, wr = ((w.alloc (.cells #[.int .u8 (b : Int), .int .i64 n] 134)).alloc (.cells #[.int .u8 0, .int .i64 0] 134)) := ⟨_, rfl⟩
  have T0 : Two wr w.heap.size (.int .u8 (b : Int)) (.int .i64 n) := by rw [hwr]; exact (Two.new w (.int .u8 (b : Int)) (.int .i64 n) _ rfl).more (by simp) _
  have T1 : Two wr (w.heap.size + 1) (.int .u8 0) (.int .i64 0) := by rw [hwr]; exact Two.new _ _ _ _ (by simp)
  have hz : w.heap.size + 2 ≤ wr.heap.size := by rw [hwr]; simp
  have hB : Below w.heap.size w wr := by rw [hwr]; exact ((Below.refl _ w).alloc (Nat.le_refl _) _).alloc (by simp) _
  rw [← hwr]
  clear hwr
  have HT0 := Lib.hid T0; have HT1 := Lib.hid T1; have HB := Lib.hid hB
  obtain ⟨p0, p1, p2, p3⟩ := T0
  clear T1 hB
  obtain ⟨m, hm⟩ : ∃ m, m = max n 0 := ⟨_, rfl⟩
  have hif : (if n < 0 then (0 : Int) else n) = m := by rw [hm]; split <;> omega
  have HM := Lib.hid hm
  clear hm
  go_cut [] (fun wx => Two wx (w.heap.size + 1) (.int .u8 (v : Int)) (.int .i64 m) ∧ Below w.heap.size w wx)
  case first =>
    go_region_with (go_at_call 129; refine (HO.out _).mono ?_; rintro e w2 ⟨rfl, hb⟩; have h2a : Below wr.heap.size wr w2 := (by first | exact (Below.refl _ wr).drew.trans hb | exact (Below.refl _ wr).drew.drew.trans hb | exact (Below.refl _ wr).drew.drew.drew.trans hb | exact (Below.refl _ wr).trans hb); obtain ⟨q0, q1, q2, q3⟩ := HT0.out.keep h2a (by omega); obtain ⟨r0, r1, r2, r3⟩ := HT1.out.keep h2a (by omega); clear hb)
    all_goals (go_wp2_with fail; go_meet; exact ⟨(HT1.out.keep h2a (by omega)).put _ _, below_two2 (HB.out.trans (h2a.mono (by omega))) (by omega) _ _⟩)
  case rest =>
  obtain ⟨⟨r0, r1, r2, r3⟩, hb⟩ := hcut
  have HC := Lib.hid hb
  clear hb p0 p1 p2 p3
  go_wp2_with fail
  exact bodyPost_ret (v := .agg #[.int .u8 (v : Int), .int .i64 m]) (by simp [results, Tryd.results130, go_sem, r0, r1]) rfl ⟨by rw [HM.out], HC.out⟩
end Go.Proofs.YtmfnkfiocnngeaaDoor
