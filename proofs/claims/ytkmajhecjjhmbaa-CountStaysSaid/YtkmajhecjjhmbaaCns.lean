/- Each of five things that may happen to counts: what it makes of those that can be. Conditions: they can be. -/
import Derived.Test.YtkmajhecjjhmbaaCnr
namespace Go.Proofs.Ytkmajhecjjhmbaa
open Go.RowKit
theorem norm {t r : Int} {o : Bool} (h : rightC t r o = true) : nT t r o = t ∧ nR t r o = r ∧ nO t r o = o := by
  refine ⟨?_, ?_, ?_⟩
  · unfold nT; rw [if_pos h]
  · unfold nR; rw [if_pos h]
  · unfold nO; rw [if_pos h]
theorem mode_at {t r : Int} {o : Bool} (h : rightC t r o = true) (u : World) : Calls Try.prog 9 #[.agg #[.int .i64 t, .int .i64 r, .bool o]] u fun x w' => x = .returned (.int .i64 (moF t r)) ∧ Below u.heap.size u w' := by
  have g := mode_any t r o u
  rw [(norm h).1, (norm h).2.1] at g
  exact g
theorem right_at {t r : Int} {o : Bool} (h : rightC t r o = true) (u : World) : Calls Try.prog 7 #[.agg #[.int .i64 t, .int .i64 r, .bool o]] u fun x w' => x = .returned (.bool true) ∧ Below u.heap.size u w' := by
  have g := right_any t r o u
  rw [h] at g
  exact g
theorem op0_at {t r : Int} {o : Bool} (h : rightC t r o = true) (u : World) : Calls Try.prog 11 #[.agg #[.int .i64 t, .int .i64 r, .bool o]] u fun x w' => x = .returned (.agg #[.int .i64 (txF t), .int .i64 (r), .bool (decide (248 ≤ t))]) ∧ Below u.heap.size u w' := by
  have g := txFail_any t r o u
  rw [(norm h).1, (norm h).2.1] at g
  exact g
theorem op0_can {t r : Int} {o : Bool} (h : rightC t r o = true) : rightC (txF t) (r) (decide (248 ≤ t)) = true ∧ moF t r ≤ moF (txF t) (r) := by
  obtain ⟨g0, g1, g2, g3, g4⟩ := rightC_iff.1 h
  rw [rightC_iff]
  by_cases e : t = 256
  · subst e
    refine ⟨?_, ?_⟩
    · try unfold txF
      try unfold rxF
      try unfold txG
      try unfold rxG
      refine ⟨?_, ?_, ?_, ?_, ?_⟩
      all_goals first | (simp; done) | (rw [g4]; simp; done) | (repeat' split) <;> first | omega | simp_all
    · unfold moF
      try unfold txF
      try unfold rxF
      try unfold txG
      try unfold rxG
      (repeat' split) <;> omega
  · have e1 : (t == 256) = false := by rw [beq_eq_false_iff_ne]; exact e
    refine ⟨⟨?_, ?_, ?_, ?_, ?_⟩, ?_⟩
    · try unfold txF
      try unfold rxF
      try unfold txG
      try unfold rxG
      (repeat' split) <;> omega
    · try unfold txF
      try unfold rxF
      try unfold txG
      try unfold rxG
      (repeat' split) <;> omega
    · try unfold txF
      try unfold rxF
      try unfold txG
      try unfold rxG
      (repeat' split) <;> omega
    · try unfold txF
      try unfold rxF
      try unfold txG
      try unfold rxG
      (repeat' split) <;> omega
    · try unfold txF
      try unfold rxF
      try unfold txG
      try unfold rxG
      rw [Bool.eq_iff_iff]
      simp
      try ((repeat' split) <;> omega)
    · unfold moF
      try unfold txF
      try unfold rxF
      try unfold txG
      try unfold rxG
      (repeat' split) <;> omega
theorem op1_at {t r : Int} {o : Bool} (h : rightC t r o = true) (u : World) : Calls Try.prog 13 #[.agg #[.int .i64 t, .int .i64 r, .bool o], .int .i64 1] u fun x w' => x = .returned (.agg #[.int .i64 (t), .int .i64 (rxF r 1), .bool (o)]) ∧ Below u.heap.size u w' := by
  have g := rxFail_any t r o 1 u
  rw [(norm h).1, (norm h).2.1, (norm h).2.2] at g
  exact g
theorem op1_can {t r : Int} {o : Bool} (h : rightC t r o = true) : rightC (t) (rxF r 1) (o) = true ∧ moF t r ≤ moF (t) (rxF r 1) := by
  obtain ⟨g0, g1, g2, g3, g4⟩ := rightC_iff.1 h
  rw [rightC_iff]
  by_cases e : t = 256
  · subst e
    refine ⟨?_, ?_⟩
    · try unfold txF
      try unfold rxF
      try unfold txG
      try unfold rxG
      refine ⟨?_, ?_, ?_, ?_, ?_⟩
      all_goals first | (simp; done) | (rw [g4]; simp; done) | (repeat' split) <;> first | omega | simp_all
    · unfold moF
      try unfold txF
      try unfold rxF
      try unfold txG
      try unfold rxG
      (repeat' split) <;> omega
  · have e1 : (t == 256) = false := by rw [beq_eq_false_iff_ne]; exact e
    refine ⟨⟨?_, ?_, ?_, ?_, ?_⟩, ?_⟩
    · try unfold txF
      try unfold rxF
      try unfold txG
      try unfold rxG
      (repeat' split) <;> omega
    · try unfold txF
      try unfold rxF
      try unfold txG
      try unfold rxG
      (repeat' split) <;> omega
    · try unfold txF
      try unfold rxF
      try unfold txG
      try unfold rxG
      (repeat' split) <;> omega
    · try unfold txF
      try unfold rxF
      try unfold txG
      try unfold rxG
      (repeat' split) <;> omega
    · try unfold txF
      try unfold rxF
      try unfold txG
      try unfold rxG
      rw [Bool.eq_iff_iff]
      simp [g4]
      try ((repeat' split) <;> omega)
    · unfold moF
      try unfold txF
      try unfold rxF
      try unfold txG
      try unfold rxG
      (repeat' split) <;> omega
theorem op2_at {t r : Int} {o : Bool} (h : rightC t r o = true) (u : World) : Calls Try.prog 13 #[.agg #[.int .i64 t, .int .i64 r, .bool o], .int .i64 8] u fun x w' => x = .returned (.agg #[.int .i64 (t), .int .i64 (rxF r 8), .bool (o)]) ∧ Below u.heap.size u w' := by
  have g := rxFail_any t r o 8 u
  rw [(norm h).1, (norm h).2.1, (norm h).2.2] at g
  exact g
theorem op2_can {t r : Int} {o : Bool} (h : rightC t r o = true) : rightC (t) (rxF r 8) (o) = true ∧ moF t r ≤ moF (t) (rxF r 8) := by
  obtain ⟨g0, g1, g2, g3, g4⟩ := rightC_iff.1 h
  rw [rightC_iff]
  by_cases e : t = 256
  · subst e
    refine ⟨?_, ?_⟩
    · try unfold txF
      try unfold rxF
      try unfold txG
      try unfold rxG
      refine ⟨?_, ?_, ?_, ?_, ?_⟩
      all_goals first | (simp; done) | (rw [g4]; simp; done) | (repeat' split) <;> first | omega | simp_all
    · unfold moF
      try unfold txF
      try unfold rxF
      try unfold txG
      try unfold rxG
      (repeat' split) <;> omega
  · have e1 : (t == 256) = false := by rw [beq_eq_false_iff_ne]; exact e
    refine ⟨⟨?_, ?_, ?_, ?_, ?_⟩, ?_⟩
    · try unfold txF
      try unfold rxF
      try unfold txG
      try unfold rxG
      (repeat' split) <;> omega
    · try unfold txF
      try unfold rxF
      try unfold txG
      try unfold rxG
      (repeat' split) <;> omega
    · try unfold txF
      try unfold rxF
      try unfold txG
      try unfold rxG
      (repeat' split) <;> omega
    · try unfold txF
      try unfold rxF
      try unfold txG
      try unfold rxG
      (repeat' split) <;> omega
    · try unfold txF
      try unfold rxF
      try unfold txG
      try unfold rxG
      rw [Bool.eq_iff_iff]
      simp [g4]
      try ((repeat' split) <;> omega)
    · unfold moF
      try unfold txF
      try unfold rxF
      try unfold txG
      try unfold rxG
      (repeat' split) <;> omega
theorem op3_at {t r : Int} {o : Bool} (h : rightC t r o = true) (u : World) : Calls Try.prog 15 #[.agg #[.int .i64 t, .int .i64 r, .bool o]] u fun x w' => x = .returned (.agg #[.int .i64 (txG t), .int .i64 (r), .bool (o)]) ∧ Below u.heap.size u w' := by
  have g := txGood_any t r o u
  rw [(norm h).1, (norm h).2.1, (norm h).2.2] at g
  exact g
theorem op3_can {t r : Int} {o : Bool} (h : rightC t r o = true) : rightC (txG t) (r) (o) = true ∧ moF (txG t) (r) ≤ moF t r := by
  obtain ⟨g0, g1, g2, g3, g4⟩ := rightC_iff.1 h
  rw [rightC_iff]
  by_cases e : t = 256
  · subst e
    refine ⟨?_, ?_⟩
    · try unfold txF
      try unfold rxF
      try unfold txG
      try unfold rxG
      refine ⟨?_, ?_, ?_, ?_, ?_⟩
      all_goals first | (simp; done) | (rw [g4]; simp; done) | (repeat' split) <;> first | omega | simp_all
    · unfold moF
      try unfold txF
      try unfold rxF
      try unfold txG
      try unfold rxG
      (repeat' split) <;> omega
  · have e1 : (t == 256) = false := by rw [beq_eq_false_iff_ne]; exact e
    refine ⟨⟨?_, ?_, ?_, ?_, ?_⟩, ?_⟩
    · try unfold txF
      try unfold rxF
      try unfold txG
      try unfold rxG
      (repeat' split) <;> omega
    · try unfold txF
      try unfold rxF
      try unfold txG
      try unfold rxG
      (repeat' split) <;> omega
    · try unfold txF
      try unfold rxF
      try unfold txG
      try unfold rxG
      (repeat' split) <;> omega
    · try unfold txF
      try unfold rxF
      try unfold txG
      try unfold rxG
      (repeat' split) <;> omega
    · try unfold txF
      try unfold rxF
      try unfold txG
      try unfold rxG
      rw [Bool.eq_iff_iff]
      simp [g4]
      try ((repeat' split) <;> omega)
    · unfold moF
      try unfold txF
      try unfold rxF
      try unfold txG
      try unfold rxG
      (repeat' split) <;> omega
theorem op4_at {t r : Int} {o : Bool} (h : rightC t r o = true) (u : World) : Calls Try.prog 17 #[.agg #[.int .i64 t, .int .i64 r, .bool o]] u fun x w' => x = .returned (.agg #[.int .i64 (t), .int .i64 (rxG r), .bool (o)]) ∧ Below u.heap.size u w' := by
  have g := rxGood_any t r o u
  rw [(norm h).1, (norm h).2.1, (norm h).2.2] at g
  exact g
theorem op4_can {t r : Int} {o : Bool} (h : rightC t r o = true) : rightC (t) (rxG r) (o) = true ∧ moF (t) (rxG r) ≤ moF t r := by
  obtain ⟨g0, g1, g2, g3, g4⟩ := rightC_iff.1 h
  rw [rightC_iff]
  by_cases e : t = 256
  · subst e
    refine ⟨?_, ?_⟩
    · try unfold txF
      try unfold rxF
      try unfold txG
      try unfold rxG
      refine ⟨?_, ?_, ?_, ?_, ?_⟩
      all_goals first | (simp; done) | (rw [g4]; simp; done) | (repeat' split) <;> first | omega | simp_all
    · unfold moF
      try unfold txF
      try unfold rxF
      try unfold txG
      try unfold rxG
      (repeat' split) <;> omega
  · have e1 : (t == 256) = false := by rw [beq_eq_false_iff_ne]; exact e
    refine ⟨⟨?_, ?_, ?_, ?_, ?_⟩, ?_⟩
    · try unfold txF
      try unfold rxF
      try unfold txG
      try unfold rxG
      (repeat' split) <;> omega
    · try unfold txF
      try unfold rxF
      try unfold txG
      try unfold rxG
      (repeat' split) <;> omega
    · try unfold txF
      try unfold rxF
      try unfold txG
      try unfold rxG
      (repeat' split) <;> omega
    · try unfold txF
      try unfold rxF
      try unfold txG
      try unfold rxG
      (repeat' split) <;> omega
    · try unfold txF
      try unfold rxF
      try unfold txG
      try unfold rxG
      rw [Bool.eq_iff_iff]
      simp [g4]
      try ((repeat' split) <;> omega)
    · unfold moF
      try unfold txF
      try unfold rxF
      try unfold txG
      try unfold rxG
      (repeat' split) <;> omega
end Go.Proofs.Ytkmajhecjjhmbaa
