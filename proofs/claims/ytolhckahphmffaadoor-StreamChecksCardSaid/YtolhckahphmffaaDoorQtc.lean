/- The document's own answers of layer 22; what must be whatever is asked (live). Conditions: the arguments are numbers of 64 bits. -/
import Derived.Test.YtolhckahphmffaaDoorQtb
namespace Go.Proofs.YtolhckahphmffaaDoor
open Go.RowKit
theorem rmay_eq (d e l : Int) : qmayB l [d, e] = (decide (-1152921504606846976 ≤ d) && (decide (d ≤ 1152921504606846976) && (decide (-1152921504606846976 ≤ e) && (decide (e ≤ 1152921504606846976) && (decide (1 ≤ l) && decide (l ≤ 1099511627776)))))) := by
  simp only [qmayB, timesB, inB, List.all_cons, List.all_nil, Bool.and_true]
  rw [Bool.eq_iff_iff]
  simp only [Bool.and_eq_true, decide_eq_true_eq]
  omega
theorem qmay_swap (l d : Int) : qmayB l [d, 0] = qmayB l [d] ∧ qmayB l [0, d] = qmayB l [d] := by
  simp [qmayB, timesB, inB]
theorem lq_a : slotX 125 100 10 = 2 ∧ qmayB 10 [125, 100] = true := by decide +kernel
theorem lq_b : startX 2 100 10 = 120 ∧ startB 2 100 10 = true := by decide +kernel
theorem lq_c : epochX (-5) 10 = -10 ∧ qmayB 10 [-5] = true := by decide +kernel
theorem lq_d : nextX 25 10 = 30 ∧ qmayB 10 [25] = true := by decide +kernel
theorem lq_e : slotX 1 1 0 = 0 ∧ qmayB 0 [1, 1] = false := by decide +kernel
theorem lq_f : slotX 99 100 10 = 0 ∧ qmayB 10 [99, 100] = true := by decide +kernel
theorem lq_g : slotX 1125899906842624 100 10 = 255 ∧ qmayB 10 [1125899906842624, 100] = true := by decide +kernel
theorem lq_h : farB 2660 100 10 = true ∧ farB 2659 100 10 = false := by decide +kernel
end Go.Proofs.YtolhckahphmffaaDoor
