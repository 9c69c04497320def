/- Package quant, and the document's own answers of layer 22: Slot, Start, Epoch, Next, Far. Conditions: the arguments are numbers of 64 bits. -/
import Derived.Test.YthgoaijfpdnolaaQta
namespace Go.Proofs.Ythgoaijfpdnolaa
open Go.RowKit
theorem qmay_two (l d e : Int) (w : World) : Calls Try.prog 57 #[.int .i64 l, .slice (some ⟨w.heap.size, 0, none⟩) 2 2] (w.alloc (.cells #[.int .i64 d, .int .i64 e] 2)) fun y w' => y = .returned (.bool (qmayB l [d, e])) ∧ Below w.heap.size w w' := by
  have hB := Blk.new w 2 [.int .i64 d, .int .i64 e]
  refine (qmay_any l [d, e] (some ⟨w.heap.size, 0, none⟩) 2 (by simp) _ (fun j hj => ⟨w.heap.size, 0, rfl, hB.lt, ?_⟩)).mono fun y w' ⟨h1, h2⟩ => ⟨h1, below_box h2⟩
  match j, hj with
  | 0, _ => exact hB.cellAt (i := 0) (by simp)
  | 1, _ => exact hB.cellAt (i := 1) (by simp)
theorem qmay_one (l d : Int) (w : World) : Calls Try.prog 57 #[.int .i64 l, .slice (some ⟨w.heap.size, 0, none⟩) 1 1] (w.alloc (.cells #[.int .i64 d] 2)) fun y w' => y = .returned (.bool (qmayB l [d])) ∧ Below w.heap.size w w' := by
  have hB := Blk.new w 2 [.int .i64 d]
  refine (qmay_any l [d] (some ⟨w.heap.size, 0, none⟩) 1 (by simp) _ (fun j hj => ⟨w.heap.size, 0, rfl, hB.lt, ?_⟩)).mono fun y w' ⟨h1, h2⟩ => ⟨h1, below_box h2⟩
  match j, hj with
  | 0, _ => exact hB.cellAt (i := 0) (by simp)
theorem qmay_two_yes {l d e : Int} (h : qmayB l [d, e] = true) : (1 ≤ l ∧ l ≤ 1099511627776) ∧ (-1152921504606846976 ≤ d ∧ d ≤ 1152921504606846976) ∧ (-1152921504606846976 ≤ e ∧ e ≤ 1152921504606846976) := by
  simp [qmayB, timesB, inB] at h
  omega
theorem qmay_one_yes {l d : Int} (h : qmayB l [d] = true) : (1 ≤ l ∧ l ≤ 1099511627776) ∧ (-1152921504606846976 ≤ d ∧ d ≤ 1152921504606846976) := by
  simp [qmayB, timesB, inB] at h
  omega
theorem qmay_two_of {l d e : Int} (h1 : 1 ≤ l ∧ l ≤ 1099511627776) (h2 : -1152921504606846976 ≤ d ∧ d ≤ 1152921504606846976) (h3 : -1152921504606846976 ≤ e ∧ e ≤ 1152921504606846976) : qmayB l [d, e] = true := by
  simp [qmayB, timesB, inB]
  omega
theorem qmay_one_of {l d : Int} (h1 : 1 ≤ l ∧ l ≤ 1099511627776) (h2 : -1152921504606846976 ≤ d ∧ d ≤ 1152921504606846976) : qmayB l [d] = true := by
  simp [qmayB, timesB, inB]
  omega
def slotX (d e l : Int) : Int := if qmayB l [d, e] = true then clampV ((d - e) / l) 0 255 else 0
def startB (k e l : Int) : Bool := inB k 0 255 && qmayB l [e]
def startX (k e l : Int) : Int := if startB k e l = true then e + k * l else 0
def epochX (n l : Int) : Int := if qmayB l [n] = true then n - n % l else 0
def nextX (n l : Int) : Int := if qmayB l [n] = true then n - n % l + l else 0
def farB (d e l : Int) : Bool := qmayB l [d, e] && decide (256 * l ≤ d - e)
theorem slot_in (d e l : Int) : 0 ≤ slotX d e l ∧ slotX d e l ≤ 255 := by
  unfold slotX; split
  · unfold clampV; split
    · omega
    · split <;> omega
  · omega
theorem qslot_any (d e l : Int) (w : World) : Calls Try.prog 14 #[.int .i64 d, .int .i64 e, .int .i64 l] w fun y w' => y = .returned (.tuple #[.int .i64 (slotX d e l), .bool (qmayB l [d, e])]) ∧ Below w.heap.size w w' := by
  have HM := Lib.hid (qmay_two l d e w)
  have hin := slot_in d e l
  cases hq : qmayB l [d, e]
  · have hx : slotX d e l = 0 := by unfold slotX; rw [hq]; rfl
    rw [hx]
    rw [hq] at HM
    clear hq hin hx
    go_enter Try.func14, Try.ntmps14
    go_wp2_with fail
    refine HM.out.mono ?_
    rintro y w1 ⟨rfl, hb⟩
    have HB := Lib.hid hb
    clear hb
    go_wp2_with fail
    go_ret2
    exact ⟨rfl, HB.out⟩
  · have hx : slotX d e l = clampV ((d - e) / l) 0 255 := by unfold slotX; rw [hq]; rfl
    obtain ⟨h1, h2, h3⟩ := qmay_two_yes hq
    rw [hx] at hin ⊢
    rw [hq] at HM
    have HW := Lib.hid (show wrap64 (d - e) = d - e from w64_in _ (by omega))
    have HD := Lib.hid (fun u => div_ex (d - e) l (by omega) (by omega) u)
    have e1 : divV (d - e) l = .tuple #[.int .i64 ((d - e) / l), .bool true] := if_pos (by omega)
    rw [e1] at HD
    have HC := Lib.hid (fun u => clamp_ex ((d - e) / l) 0 255 u)
    obtain ⟨z, hz⟩ : ∃ z, z = clampV ((d - e) / l) 0 255 := ⟨_, rfl⟩
    rw [← hz] at HC hin ⊢
    obtain ⟨q, hqq⟩ : ∃ q, q = (d - e) / l := ⟨_, rfl⟩
    rw [← hqq] at HC HD
    obtain ⟨x, hxx⟩ : ∃ x, x = d - e := ⟨_, rfl⟩
    rw [← hxx] at HD
    have hw : wrap64 (d - e) = x := by rw [HW.out, hxx]
    have hwz : wrap64 z = z := w64_in _ (by omega)
    clear hq hx h1 h2 h3 e1 hz hqq hxx hin HW
    go_enter Try.func14, Try.ntmps14
    go_wp2_with fail
    refine HM.out.mono ?_
    rintro y w1 ⟨rfl, hb⟩
    have HB := Lib.hid hb
    clear hb
    go_wp2_with fail
    refine (HD.out _).mono ?_
    rintro y w2 ⟨rfl, rfl⟩
    go_wp2_with fail
    refine (HC.out _).mono ?_
    rintro y w3 ⟨rfl, rfl⟩
    go_wp2_with fail
    go_ret2
    exact ⟨rfl, HB.out⟩
theorem qstart_any (k e l : Int) (w : World) : Calls Try.prog 16 #[.int .i64 k, .int .i64 e, .int .i64 l] w fun y w' => y = .returned (.tuple #[.int .i64 (startX k e l), .bool (startB k e l)]) ∧ Below w.heap.size w w' := by
  have HM := Lib.hid (qmay_one l e w)
  by_cases hk : 0 ≤ k ∧ k ≤ 255
  · have i1 : ¬ k < 0 := by omega
    have i2 : ¬ 255 < k := by omega
    have hs : startB k e l = qmayB l [e] := by unfold startB inB; rw [decide_eq_true hk]; rfl
    cases hq : qmayB l [e]
    · have hx : startX k e l = 0 := by unfold startX; rw [hs, hq]; rfl
      rw [hx, hs, hq]
      rw [hq] at HM
      clear hq hx hs hk
      go_enter Try.func16, Try.ntmps16
      go_wp2_with fail
      refine HM.out.mono ?_
      rintro y w1 ⟨rfl, hb⟩
      have HB := Lib.hid hb
      clear hb
      go_wp2_with fail
      go_ret2
      exact ⟨rfl, HB.out⟩
    · obtain ⟨h1, h2⟩ := qmay_one_yes hq
      have hx : startX k e l = e + k * l := by unfold startX; rw [hs, hq]; rfl
      have hm1 : 0 ≤ k * l := Int.mul_nonneg hk.1 (by omega)
      have hm2 : k * l ≤ 255 * 1099511627776 := Int.mul_le_mul hk.2 h1.2 (by omega) (by omega)
      rw [hx, hs, hq]
      rw [hq] at HM
      have hwk : wrap64 k = k := w64_in _ (by omega)
      obtain ⟨m, hm⟩ : ∃ m, m = k * l := ⟨_, rfl⟩
      rw [← hm] at hm1 hm2 ⊢
      have hw1 : wrap64 (k * l) = m := by rw [← hm]; exact w64_in _ (by omega)
      obtain ⟨z, hz⟩ : ∃ z, z = e + m := ⟨_, rfl⟩
      have HZ := Lib.hid (show wrap64 (e + m) = z by rw [hz]; exact w64_in _ (by omega))
      rw [← hz]
      clear hq hx hs hk hm hz h1 h2 hm1 hm2
      go_enter Try.func16, Try.ntmps16
      go_wp2_with fail
      refine HM.out.mono ?_
      rintro y w1 ⟨rfl, hb⟩
      have HB := Lib.hid hb
      clear hb
      go_wp2_with fail
      go_ret2
      exact ⟨by rw [← HZ.out]; rfl, HB.out⟩
  · have hs : startB k e l = false := by unfold startB inB; rw [decide_eq_false hk]; rfl
    have hx : startX k e l = 0 := by unfold startX; rw [hs]; rfl
    rw [hx, hs]
    have cs : k < 0 ∨ (¬ k < 0 ∧ 255 < k) := by omega
    clear hs hx hk
    rcases cs with i1 | ⟨i1, i2⟩
    all_goals
      go_enter Try.func16, Try.ntmps16
      go_wp2_with fail
      go_ret2
      exact ⟨rfl, Below.refl _ _⟩
theorem qepoch_any (n l : Int) (w : World) : Calls Try.prog 18 #[.int .i64 n, .int .i64 l] w fun y w' => y = .returned (.tuple #[.int .i64 (epochX n l), .bool (qmayB l [n])]) ∧ Below w.heap.size w w' := by
  have HM := Lib.hid (qmay_one l n w)
  cases hq : qmayB l [n]
  · have hx : epochX n l = 0 := by unfold epochX; rw [hq]; rfl
    rw [hx]
    rw [hq] at HM
    clear hq hx
    go_enter Try.func18, Try.ntmps18
    go_wp2_with fail
    refine HM.out.mono ?_
    rintro y w1 ⟨rfl, hb⟩
    have HB := Lib.hid hb
    clear hb
    go_wp2_with fail
    go_ret2
    exact ⟨rfl, HB.out⟩
  · have hx : epochX n l = n - n % l := by unfold epochX; rw [hq]; rfl
    obtain ⟨h1, h2⟩ := qmay_one_yes hq
    have hm0 := Int.emod_nonneg n (show l ≠ 0 by omega)
    have hm1 := Int.emod_lt_of_pos n (show 0 < l by omega)
    rw [hx]
    rw [hq] at HM
    have HD := Lib.hid (fun u => mod_ex n l (by omega) u)
    have e1 : modV n l = .tuple #[.int .i64 (n % l), .bool true] := if_pos (by omega)
    rw [e1] at HD
    obtain ⟨q, hqq⟩ : ∃ q, q = n % l := ⟨_, rfl⟩
    rw [← hqq] at HD hm0 hm1 ⊢
    obtain ⟨z, hz⟩ : ∃ z, z = n - q := ⟨_, rfl⟩
    have HZ := Lib.hid (show wrap64 (n - q) = z by rw [hz]; exact w64_in _ (by omega))
    rw [← hz]
    clear hq hx h1 h2 e1 hqq hz hm0 hm1
    go_enter Try.func18, Try.ntmps18
    go_wp2_with fail
    refine HM.out.mono ?_
    rintro y w1 ⟨rfl, hb⟩
    have HB := Lib.hid hb
    clear hb
    go_wp2_with fail
    refine (HD.out _).mono ?_
    rintro y w2 ⟨rfl, rfl⟩
    go_wp2_with fail
    go_ret2
    exact ⟨by rw [← HZ.out]; rfl, HB.out⟩
theorem epoch_in {n l : Int} (hq : qmayB l [n] = true) : epochX n l ≤ n ∧ n < epochX n l + l ∧ nextX n l = epochX n l + l := by
  obtain ⟨h1, h2⟩ := qmay_one_yes hq
  have hm0 := Int.emod_nonneg n (show l ≠ 0 by omega)
  have hm1 := Int.emod_lt_of_pos n (show 0 < l by omega)
  have hx : epochX n l = n - n % l := by unfold epochX; rw [hq]; rfl
  have hy : nextX n l = n - n % l + l := by unfold nextX; rw [hq]; rfl
  omega
theorem qnext_any (n l : Int) (w : World) : Calls Try.prog 20 #[.int .i64 n, .int .i64 l] w fun y w' => y = .returned (.tuple #[.int .i64 (nextX n l), .bool (qmayB l [n])]) ∧ Below w.heap.size w w' := by
  have HE := Lib.hid (fun u => qepoch_any n l u)
  cases hq : qmayB l [n]
  · have hx : nextX n l = 0 := by unfold nextX; rw [hq]; rfl
    have hx2 : epochX n l = 0 := by unfold epochX; rw [hq]; rfl
    rw [hx]
    rw [hq, hx2] at HE
    clear hq hx hx2
    go_enter Try.func20, Try.ntmps20
    go_wp2_with fail
    refine (HE.out _).mono ?_
    rintro y w1 ⟨rfl, hb⟩
    have HB := Lib.hid hb
    clear hb
    go_wp2_with fail
    go_ret2
    exact ⟨rfl, HB.out⟩
  · obtain ⟨e1, e2, e3⟩ := epoch_in hq
    obtain ⟨h1, h2⟩ := qmay_one_yes hq
    rw [hq] at HE
    rw [e3]
    obtain ⟨z, hz⟩ : ∃ z, z = epochX n l := ⟨_, rfl⟩
    rw [← hz] at HE e1 e2 ⊢
    obtain ⟨x, hx⟩ : ∃ x, x = z + l := ⟨_, rfl⟩
    have HZ := Lib.hid (show wrap64 (z + l) = x by rw [hx]; exact w64_in _ (by omega))
    rw [← hx]
    clear hq e1 e2 e3 hz hx h1 h2
    go_enter Try.func20, Try.ntmps20
    go_wp2_with fail
    refine (HE.out _).mono ?_
    rintro y w1 ⟨rfl, hb⟩
    have HB := Lib.hid hb
    clear hb
    go_wp2_with fail
    go_ret2
    exact ⟨by rw [← HZ.out]; rfl, HB.out⟩
theorem qfar_any (d e l : Int) (w : World) : Calls Try.prog 23 #[.int .i64 d, .int .i64 e, .int .i64 l] w fun y w' => y = .returned (.bool (farB d e l)) ∧ Below w.heap.size w w' := by
  have HM := Lib.hid (qmay_two l d e w)
  cases hq : qmayB l [d, e]
  · have hx : farB d e l = false := by unfold farB; rw [hq]; rfl
    rw [hx]
    rw [hq] at HM
    clear hq hx
    go_enter Try.func23, Try.ntmps23
    go_wp2_with fail
    refine HM.out.mono ?_
    rintro y w1 ⟨rfl, hb⟩
    have HB := Lib.hid hb
    clear hb
    go_wp2_with fail
    go_ret
    exact ⟨rfl, HB.out⟩
  · obtain ⟨h1, h2, h3⟩ := qmay_two_yes hq
    have hx : farB d e l = decide (256 * l ≤ d - e) := by unfold farB; rw [hq]; rfl
    rw [hx]
    rw [hq] at HM
    obtain ⟨x, hxx⟩ : ∃ x, x = d - e := ⟨_, rfl⟩
    have hw : wrap64 (d - e) = x := by rw [hxx]; exact w64_in _ (by omega)
    obtain ⟨y0, hy0⟩ : ∃ y, y = 256 * l := ⟨_, rfl⟩
    have hw2 : wrap64 (256 * l) = y0 := by rw [hy0]; exact w64_in _ (by omega)
    rw [← hxx, ← hy0]
    obtain ⟨v, hv⟩ : ∃ v, v = decide (y0 ≤ x) := ⟨_, rfl⟩
    rw [← hv]
    have hv2 := hv.symm
    clear hq hx h1 h2 h3 hxx hy0 hv
    go_enter Try.func23, Try.ntmps23
    go_wp2_with fail
    refine HM.out.mono ?_
    rintro y w1 ⟨rfl, hb⟩
    have HB := Lib.hid hb
    clear hb
    go_wp2_with fail
    go_ret
    exact ⟨rfl, HB.out⟩
end Go.Proofs.Ythgoaijfpdnolaa
