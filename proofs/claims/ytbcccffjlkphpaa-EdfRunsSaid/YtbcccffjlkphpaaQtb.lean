/- Package quant, and the document's own answers of layer 22: Slot, Start, Epoch, Next, Far. Conditions: the arguments are numbers of 64 bits. -/
import Derived.Test.YtbcccffjlkphpaaQta
namespace Go.Proofs.Ytbcccffjlkphpaa
open Go.RowKit
theorem qmay_two (l d e : Int) (w : World) : Calls Try.prog 89 #[.int .i64 l, .slice (some ⟨w.heap.size, 0, none⟩) 2 2] (w.alloc (.cells #[.int .i64 d, .int .i64 e] 2)) fun y w' => y = .returned (.bool (qmayB l [d, e])) ∧ Below w.heap.size w w' := by
  have hB := Blk.new w 2 [.int .i64 d, .int .i64 e]
  refine (qmay_any l [d, e] (some ⟨w.heap.size, 0, none⟩) 2 (by simp) _ (fun j hj => ⟨w.heap.size, 0, rfl, hB.lt, ?_⟩)).mono fun y w' ⟨h1, h2⟩ => ⟨h1, below_box h2⟩
  match j, hj with
  | 0, _ => exact hB.cellAt (i := 0) (by simp)
  | 1, _ => exact hB.cellAt (i := 1) (by simp)
theorem qmay_one (l d : Int) (w : World) : Calls Try.prog 89 #[.int .i64 l, .slice (some ⟨w.heap.size, 0, none⟩) 1 1] (w.alloc (.cells #[.int .i64 d] 2)) fun y w' => y = .returned (.bool (qmayB l [d])) ∧ Below w.heap.size w w' := by
  have hB := Blk.new w 2 [.int .i64 d]
  refine (qmay_any l [d] (some ⟨w.heap.size, 0, none⟩) 1 (by simp) _ (fun j hj => ⟨w.heap.size, 0, rfl, hB.lt, ?_⟩)).mono fun y w' ⟨h1, h2⟩ => ⟨h1, below_box h2⟩
  match j, hj with
  | 0, _ => exact hB.cellAt (i := 0) (by simp)
theorem qmay_two_yes {l d e : Int} (h : qmayB l [d, e] = true) : (1 ≤ l ∧ l ≤ 1099511627776) ∧ (-1152921504606846976 ≤ d ∧ d ≤ 1152921504606846976) ∧ (-1152921504606846976 ≤ e ∧ e ≤ 1152921504606846976) := by
  simp [qmayB, timesB, inB] at h
  omega
theorem qmay_one_yes {l d : Int} (h : qmayB l [d] = true) : (1 ≤ l ∧ l ≤ 1099511627776) ∧ (-1152921504606846976 ≤ d ∧ d ≤ 1152921504606846976) := by
  simp [qmayB, timesB, inB] at h
  omega
theorem qmay_two_of {l d e : Int} (h1 : 1 ≤ l ∧ l ≤ 1099511627776) (h2 : -1152921504606846976 ≤ d ∧ d ≤ 1152921504606846976) (h3 : -1152921504606846976 ≤ e ∧ e ≤ 1152921504606846976) : qmayB l [d, e] = true := by
  simp [qmayB, timesB, inB]
  omega
theorem qmay_one_of {l d : Int} (h1 : 1 ≤ l ∧ l ≤ 1099511627776) (h2 : -1152921504606846976 ≤ d ∧ d ≤ 1152921504606846976) : qmayB l [d] = true := by
  simp [qmayB, timesB, inB]
  omega
def slotX (d e l : Int) : Int := if qmayB l [d, e] = true then clampV ((d - e) / l) 0 255 else 0
def startB (k e l : Int) : Bool := inB k 0 255 && qmayB l [e]
def startX (k e l : Int) : Int := if startB k e l = true then e + k * l else 0
def epochX (n l : Int) : Int := if qmayB l [n] = true then n - n % l else 0
def nextX (n l : Int) : Int := if qmayB l [n] = true then n - n % l + l else 0
def farB (d e l : Int) : Bool := qmayB l [d, e] && decide (256 * l ≤ d - e)
theorem slot_in (d e l : Int) : 0 ≤ slotX d e l ∧ slotX d e l ≤ 255 := by
  unfold slotX; split
  · unfold clampV; split
    · omega
    · split <;> omega
  · omega
theorem qepoch_any (n l : Int) (w : World) : Calls Try.prog 70 #[.int .i64 n, .int .i64 l] w fun y w' => y = .returned (.tuple #[.int .i64 (epochX n l), .bool (qmayB l [n])]) ∧ Below w.heap.size w w' := by
  have HM := Lib.hid (qmay_one l n w)
  cases hq : qmayB l [n]
  · have hx : epochX n l = 0 := by unfold epochX; rw [hq]; rfl
    rw [hx]
    rw [hq] at HM
    clear hq hx
    go_enter Try.func70, Try.ntmps70
    go_wp2_with fail
    refine HM.out.mono ?_
    rintro y w1 ⟨rfl, hb⟩
    have HB := Lib.hid hb
    clear hb
    go_wp2_with fail
    go_ret2
    exact ⟨rfl, HB.out⟩
  · have hx : epochX n l = n - n % l := by unfold epochX; rw [hq]; rfl
    obtain ⟨h1, h2⟩ := qmay_one_yes hq
    have hm0 := Int.emod_nonneg n (show l ≠ 0 by omega)
    have hm1 := Int.emod_lt_of_pos n (show 0 < l by omega)
    rw [hx]
    rw [hq] at HM
    have HD := Lib.hid (fun u => mod_ex n l (by omega) u)
    have e1 : modV n l = .tuple #[.int .i64 (n % l), .bool true] := if_pos (by omega)
    rw [e1] at HD
    obtain ⟨q, hqq⟩ : ∃ q, q = n % l := ⟨_, rfl⟩
    rw [← hqq] at HD hm0 hm1 ⊢
    obtain ⟨z, hz⟩ : ∃ z, z = n - q := ⟨_, rfl⟩
    have HZ := Lib.hid (show wrap64 (n - q) = z by rw [hz]; exact w64_in _ (by omega))
    rw [← hz]
    clear hq hx h1 h2 e1 hqq hz hm0 hm1
    go_enter Try.func70, Try.ntmps70
    go_wp2_with fail
    refine HM.out.mono ?_
    rintro y w1 ⟨rfl, hb⟩
    have HB := Lib.hid hb
    clear hb
    go_wp2_with fail
    refine (HD.out _).mono ?_
    rintro y w2 ⟨rfl, rfl⟩
    go_wp2_with fail
    go_ret2
    exact ⟨by rw [← HZ.out]; rfl, HB.out⟩
theorem epoch_in {n l : Int} (hq : qmayB l [n] = true) : epochX n l ≤ n ∧ n < epochX n l + l ∧ nextX n l = epochX n l + l := by
  obtain ⟨h1, h2⟩ := qmay_one_yes hq
  have hm0 := Int.emod_nonneg n (show l ≠ 0 by omega)
  have hm1 := Int.emod_lt_of_pos n (show 0 < l by omega)
  have hx : epochX n l = n - n % l := by unfold epochX; rw [hq]; rfl
  have hy : nextX n l = n - n % l + l := by unfold nextX; rw [hq]; rfl
  omega
end Go.Proofs.Ytbcccffjlkphpaa
