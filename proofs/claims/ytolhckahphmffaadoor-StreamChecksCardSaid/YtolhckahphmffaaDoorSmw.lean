/- Ranks: what the document counts is the place among those of DmClass. No program, no conditions. -/
import Derived.Test.YtolhckahphmffaaDoorSmv
namespace Go.Proofs.YtolhckahphmffaaDoor
/-- Those that have ranks by their deadlines. -/
def dmL (L : List Sm) : List Sm := L.filter (fun x => x.c == 2)
theorem cnt_rank (L : List Sm) (s : Sm) : cntT L s L.length = rankN (dmL L) s := by
  unfold cntT rankN dmL
  rw [List.take_length, List.countP_filter, List.countP_eq_length_filter]
  congr 1
  apply List.filter_congr
  intro y _
  unfold aheadB cfS
  by_cases hc : y.c = 2
  · have e1 : (y.c == 2) = true := by rw [hc]; simp
    rw [e1, Bool.and_true, decide_eq_true hc, Bool.true_and]
    have h : (orI (Lib.compareInt y.d s.d) (Lib.compareInt y.i s.i) < 0) ↔ (y.d < s.d ∨ (y.d = s.d ∧ y.i < s.i)) := by
      unfold orI Lib.compareInt
      repeat' split
      all_goals omega
    by_cases h2 : y.d < s.d ∨ (y.d = s.d ∧ y.i < s.i)
    · rw [decide_eq_true (h.2 h2)]
      rcases h2 with h2 | ⟨h2, h3⟩
      · rw [decide_eq_true h2, Bool.true_or]
      · rw [decide_eq_true h2, decide_eq_true h3]; simp
    · rw [decide_eq_false (fun q => h2 (h.1 q)), decide_eq_false (show ¬ y.d < s.d from fun q => h2 (.inl q)), Bool.false_or]
      by_cases h3 : y.d = s.d
      · rw [decide_eq_true h3, decide_eq_false (show ¬ y.i < s.i from fun q => h2 (.inr ⟨h3, q⟩))]; rfl
      · rw [decide_eq_false h3]; rfl
  · have e1 : (y.c == 2) = false := by rw [beq_eq_false_iff_ne]; exact hc
    rw [e1, Bool.and_false, decide_eq_false hc, Bool.false_and]
theorem rkD_rank (L : List Sm) (s : Sm) : rkD L s = if s.c = 2 then putS s (rkI (dmL L) s) else s := by
  unfold rkD
  split
  · congr 1
    rw [cnt_rank]
    unfold rkI
    split <;> omega
  · rfl
end Go.Proofs.YtolhckahphmffaaDoor
