/- Package class, and the document's own answers of layer 23: which labels can be, which one is sent ahead, and with another slot. Conditions: none. -/
import Derived.Test.YtolhckahphmffaaDoorBas
import Derived.Test.YtolhckahphmffaaDoorGna
namespace Go.Proofs.YtolhckahphmffaaDoor
open Go.RowKit
/-- Is a number from 0 to a last one? -/
def inU (n k : Int) : Bool := decide (0 ≤ n ∧ n ≤ k)
/-- Which labels can be. -/
def rightL (c s t n : Int) : Bool := decide (1 ≤ c ∧ c ≤ 3 ∧ 0 ≤ s ∧ s ≤ 255 ∧ 0 ≤ t ∧ t ≤ 2047 ∧ 0 ≤ n ∧ n ≤ 31)
/-- Which of two labels is sent ahead. -/
def befL (c s t n c' s' t' n' : Int) : Bool := if c ≠ c' then decide (c < c') else if s ≠ s' then decide (s < s') else if t ≠ t' then decide (t < t') else decide (n < n')
theorem befL_0 {c s t n c' s' t' n' : Int} (h : c ≠ c') : befL c s t n c' s' t' n' = decide (c < c') := by unfold befL; rw [if_pos h]
theorem befL_1 {c s t n s' t' n' : Int} (h : s ≠ s') : befL c s t n c s' t' n' = decide (s < s') := by unfold befL; rw [if_neg (by simp), if_pos h]
theorem befL_2 {c s t n t' n' : Int} (h : t ≠ t') : befL c s t n c s t' n' = decide (t < t') := by unfold befL; rw [if_neg (by simp), if_neg (by simp), if_pos h]
theorem befL_3 {c s t n n' : Int} (_ : n ≠ n') : befL c s t n c s t n' = decide (n < n') := by unfold befL; rw [if_neg (by simp), if_neg (by simp), if_neg (by simp)]
theorem befL_4 {c s t n : Int} : befL c s t n c s t n = false := by unfold befL; rw [if_neg (by simp), if_neg (by simp), if_neg (by simp)]; simp
theorem upto_any (n k : Int) (w : World) : Calls Tryd.prog 70 #[.int .i64 n, .int .i64 k] w fun y w' => y = .returned (.bool (inU n k)) ∧ Below w.heap.size w w' := by
  have HB := Lib.hid (Below.refl w.heap.size w)
  have cs : (n < 0 ∧ inU n k = false) ∨ (0 ≤ n ∧ k < n ∧ inU n k = false) ∨ (0 ≤ n ∧ n ≤ k ∧ inU n k = true) := by
    unfold inU; rcases Int.lt_or_le n 0 with h | h
    · exact .inl ⟨h, decide_eq_false (by omega)⟩
    · rcases Int.lt_or_le k n with h2 | h2
      · exact .inr (.inl ⟨h, h2, decide_eq_false (by omega)⟩)
      · exact .inr (.inr ⟨h, h2, decide_eq_true ⟨h, h2⟩⟩)
  rcases cs with ⟨h, e⟩ | ⟨h, h2, e⟩ | ⟨h, h2, e⟩
  · rw [e]; clear e
    have g : ¬ 0 ≤ n := by omega
    go_enter Tryd.func70, Tryd.ntmps70
    go_wp2_with fail
    go_ret
    exact ⟨rfl, by first | exact HB.out | exact HB.out.drew⟩
  · rw [e]; clear e
    have g : ¬ n ≤ k := by omega
    go_enter Tryd.func70, Tryd.ntmps70
    go_wp2_with fail
    go_ret
    exact ⟨rfl, by first | exact HB.out | exact HB.out.drew⟩
  · rw [e]; clear e
    go_enter Tryd.func70, Tryd.ntmps70
    go_wp2_with fail
    go_ret
    exact ⟨rfl, by first | exact HB.out | exact HB.out.drew⟩
theorem clright_any (c s t n : Int) (w : World) : Calls Tryd.prog 42 #[.agg #[.int .i64 c, .int .i64 s, .int .i64 t, .int .i64 n]] w fun y w' => y = .returned (.bool (rightL c s t n)) ∧ Below w.heap.size w w' := by
  have HU := Lib.hid upto_any
  have HB := Lib.hid ((Below.refl w.heap.size w).alloc (Nat.le_refl _) (.cells #[.int .i64 c, .int .i64 s, .int .i64 t, .int .i64 n] 38))
  have HS := Lib.hid (Blk.new w 38 [.int .i64 c, .int .i64 s, .int .i64 t, .int .i64 n])
  have cs : (c ≠ 1 ∧ c ≠ 2 ∧ c ≠ 3 ∧ rightL c s t n = false) ∨ ((c = 1 ∨ c = 2 ∨ c = 3) ∧ (inU s 255 = false ∧ rightL c s t n = false ∨ inU s 255 = true ∧ (inU t 2047 = false ∧ rightL c s t n = false ∨ inU t 2047 = true ∧ (inU n 31 = false ∧ rightL c s t n = false ∨ inU n 31 = true ∧ rightL c s t n = true)))) := by
    unfold inU rightL
    simp only [decide_eq_false_iff_not, decide_eq_true_eq]
    omega
  rcases cs with ⟨h1, h2, h3, e⟩ | ⟨hc, h⟩
  · rw [e]; clear e
    have g1 : (c == 1) = false := by simpa using h1
    have g2 : (c == 2) = false := by simpa using h2
    have g3 : (c == 3) = false := by simpa using h3
    clear h1 h2 h3
    go_enter Tryd.func42, Tryd.ntmps42
    go_wp2_with fail
    go_ret
    exact ⟨rfl, HB.out⟩
  · rcases h with ⟨a, e⟩ | ⟨a, ⟨b, e⟩ | ⟨b, ⟨d, e⟩ | ⟨d, e⟩⟩⟩
    · rw [e]; clear e
      rcases hc with rfl | rfl | rfl
      · go_enter Tryd.func42, Tryd.ntmps42
        go_wp2_with fail
        refine (HU.out _ _ _).mono ?_
        rintro y w1 ⟨rfl, hb⟩
        have HB1 := Lib.hid (below_transG HB.out hb)
        have HS1 := Lib.hid (HS.out.keep hb (by simp))
        clear hb
        have q0 : w1.cell? ⟨w.heap.size, 0, none⟩ = some (.int .i64 1) := HS1.out.cellAt (i := 0) (by simp)
        have q1 : w1.cell? ⟨w.heap.size, 1, none⟩ = some (.int .i64 s) := HS1.out.cellAt (i := 1) (by simp)
        have q2 : w1.cell? ⟨w.heap.size, 2, none⟩ = some (.int .i64 t) := HS1.out.cellAt (i := 2) (by simp)
        have q3 : w1.cell? ⟨w.heap.size, 3, none⟩ = some (.int .i64 n) := HS1.out.cellAt (i := 3) (by simp)
        go_wp2_with fail
        clear q0 q1 q2 q3
        go_ret
        exact ⟨rfl, HB1.out⟩
      · go_enter Tryd.func42, Tryd.ntmps42
        go_wp2_with fail
        refine (HU.out _ _ _).mono ?_
        rintro y w1 ⟨rfl, hb⟩
        have HB1 := Lib.hid (below_transG HB.out hb)
        have HS1 := Lib.hid (HS.out.keep hb (by simp))
        clear hb
        have q0 : w1.cell? ⟨w.heap.size, 0, none⟩ = some (.int .i64 2) := HS1.out.cellAt (i := 0) (by simp)
        have q1 : w1.cell? ⟨w.heap.size, 1, none⟩ = some (.int .i64 s) := HS1.out.cellAt (i := 1) (by simp)
        have q2 : w1.cell? ⟨w.heap.size, 2, none⟩ = some (.int .i64 t) := HS1.out.cellAt (i := 2) (by simp)
        have q3 : w1.cell? ⟨w.heap.size, 3, none⟩ = some (.int .i64 n) := HS1.out.cellAt (i := 3) (by simp)
        go_wp2_with fail
        clear q0 q1 q2 q3
        go_ret
        exact ⟨rfl, HB1.out⟩
      · go_enter Tryd.func42, Tryd.ntmps42
        go_wp2_with fail
        refine (HU.out _ _ _).mono ?_
        rintro y w1 ⟨rfl, hb⟩
        have HB1 := Lib.hid (below_transG HB.out hb)
        have HS1 := Lib.hid (HS.out.keep hb (by simp))
        clear hb
        have q0 : w1.cell? ⟨w.heap.size, 0, none⟩ = some (.int .i64 3) := HS1.out.cellAt (i := 0) (by simp)
        have q1 : w1.cell? ⟨w.heap.size, 1, none⟩ = some (.int .i64 s) := HS1.out.cellAt (i := 1) (by simp)
        have q2 : w1.cell? ⟨w.heap.size, 2, none⟩ = some (.int .i64 t) := HS1.out.cellAt (i := 2) (by simp)
        have q3 : w1.cell? ⟨w.heap.size, 3, none⟩ = some (.int .i64 n) := HS1.out.cellAt (i := 3) (by simp)
        go_wp2_with fail
        clear q0 q1 q2 q3
        go_ret
        exact ⟨rfl, HB1.out⟩
    · rw [e]; clear e
      rcases hc with rfl | rfl | rfl
      · go_enter Tryd.func42, Tryd.ntmps42
        go_wp2_with fail
        refine (HU.out _ _ _).mono ?_
        rintro y w1 ⟨rfl, hb⟩
        have HB1 := Lib.hid (below_transG HB.out hb)
        have HS1 := Lib.hid (HS.out.keep hb (by simp))
        clear hb
        have q0 : w1.cell? ⟨w.heap.size, 0, none⟩ = some (.int .i64 1) := HS1.out.cellAt (i := 0) (by simp)
        have q1 : w1.cell? ⟨w.heap.size, 1, none⟩ = some (.int .i64 s) := HS1.out.cellAt (i := 1) (by simp)
        have q2 : w1.cell? ⟨w.heap.size, 2, none⟩ = some (.int .i64 t) := HS1.out.cellAt (i := 2) (by simp)
        have q3 : w1.cell? ⟨w.heap.size, 3, none⟩ = some (.int .i64 n) := HS1.out.cellAt (i := 3) (by simp)
        go_wp2_with fail
        clear q0 q1 q2 q3
        refine (HU.out _ _ _).mono ?_
        rintro y w2 ⟨rfl, hb⟩
        have HB2 := Lib.hid (below_transG HB1.out hb)
        have HS2 := Lib.hid (HS1.out.keep hb HS1.out.lt)
        clear hb
        have q0 : w2.cell? ⟨w.heap.size, 0, none⟩ = some (.int .i64 1) := HS2.out.cellAt (i := 0) (by simp)
        have q1 : w2.cell? ⟨w.heap.size, 1, none⟩ = some (.int .i64 s) := HS2.out.cellAt (i := 1) (by simp)
        have q2 : w2.cell? ⟨w.heap.size, 2, none⟩ = some (.int .i64 t) := HS2.out.cellAt (i := 2) (by simp)
        have q3 : w2.cell? ⟨w.heap.size, 3, none⟩ = some (.int .i64 n) := HS2.out.cellAt (i := 3) (by simp)
        go_wp2_with fail
        clear q0 q1 q2 q3
        go_ret
        exact ⟨rfl, HB2.out⟩
      · go_enter Tryd.func42, Tryd.ntmps42
        go_wp2_with fail
        refine (HU.out _ _ _).mono ?_
        rintro y w1 ⟨rfl, hb⟩
        have HB1 := Lib.hid (below_transG HB.out hb)
        have HS1 := Lib.hid (HS.out.keep hb (by simp))
        clear hb
        have q0 : w1.cell? ⟨w.heap.size, 0, none⟩ = some (.int .i64 2) := HS1.out.cellAt (i := 0) (by simp)
        have q1 : w1.cell? ⟨w.heap.size, 1, none⟩ = some (.int .i64 s) := HS1.out.cellAt (i := 1) (by simp)
        have q2 : w1.cell? ⟨w.heap.size, 2, none⟩ = some (.int .i64 t) := HS1.out.cellAt (i := 2) (by simp)
        have q3 : w1.cell? ⟨w.heap.size, 3, none⟩ = some (.int .i64 n) := HS1.out.cellAt (i := 3) (by simp)
        go_wp2_with fail
        clear q0 q1 q2 q3
        refine (HU.out _ _ _).mono ?_
        rintro y w2 ⟨rfl, hb⟩
        have HB2 := Lib.hid (below_transG HB1.out hb)
        have HS2 := Lib.hid (HS1.out.keep hb HS1.out.lt)
        clear hb
        have q0 : w2.cell? ⟨w.heap.size, 0, none⟩ = some (.int .i64 2) := HS2.out.cellAt (i := 0) (by simp)
        have q1 : w2.cell? ⟨w.heap.size, 1, none⟩ = some (.int .i64 s) := HS2.out.cellAt (i := 1) (by simp)
        have q2 : w2.cell? ⟨w.heap.size, 2, none⟩ = some (.int .i64 t) := HS2.out.cellAt (i := 2) (by simp)
        have q3 : w2.cell? ⟨w.heap.size, 3, none⟩ = some (.int .i64 n) := HS2.out.cellAt (i := 3) (by simp)
        go_wp2_with fail
        clear q0 q1 q2 q3
        go_ret
        exact ⟨rfl, HB2.out⟩
      · go_enter Tryd.func42, Tryd.ntmps42
        go_wp2_with fail
        refine (HU.out _ _ _).mono ?_
        rintro y w1 ⟨rfl, hb⟩
        have HB1 := Lib.hid (below_transG HB.out hb)
        have HS1 := Lib.hid (HS.out.keep hb (by simp))
        clear hb
        have q0 : w1.cell? ⟨w.heap.size, 0, none⟩ = some (.int .i64 3) := HS1.out.cellAt (i := 0) (by simp)
        have q1 : w1.cell? ⟨w.heap.size, 1, none⟩ = some (.int .i64 s) := HS1.out.cellAt (i := 1) (by simp)
        have q2 : w1.cell? ⟨w.heap.size, 2, none⟩ = some (.int .i64 t) := HS1.out.cellAt (i := 2) (by simp)
        have q3 : w1.cell? ⟨w.heap.size, 3, none⟩ = some (.int .i64 n) := HS1.out.cellAt (i := 3) (by simp)
        go_wp2_with fail
        clear q0 q1 q2 q3
        refine (HU.out _ _ _).mono ?_
        rintro y w2 ⟨rfl, hb⟩
        have HB2 := Lib.hid (below_transG HB1.out hb)
        have HS2 := Lib.hid (HS1.out.keep hb HS1.out.lt)
        clear hb
        have q0 : w2.cell? ⟨w.heap.size, 0, none⟩ = some (.int .i64 3) := HS2.out.cellAt (i := 0) (by simp)
        have q1 : w2.cell? ⟨w.heap.size, 1, none⟩ = some (.int .i64 s) := HS2.out.cellAt (i := 1) (by simp)
        have q2 : w2.cell? ⟨w.heap.size, 2, none⟩ = some (.int .i64 t) := HS2.out.cellAt (i := 2) (by simp)
        have q3 : w2.cell? ⟨w.heap.size, 3, none⟩ = some (.int .i64 n) := HS2.out.cellAt (i := 3) (by simp)
        go_wp2_with fail
        clear q0 q1 q2 q3
        go_ret
        exact ⟨rfl, HB2.out⟩
    · rw [e]; clear e
      rcases hc with rfl | rfl | rfl
      · go_enter Tryd.func42, Tryd.ntmps42
        go_wp2_with fail
        refine (HU.out _ _ _).mono ?_
        rintro y w1 ⟨rfl, hb⟩
        have HB1 := Lib.hid (below_transG HB.out hb)
        have HS1 := Lib.hid (HS.out.keep hb (by simp))
        clear hb
        have q0 : w1.cell? ⟨w.heap.size, 0, none⟩ = some (.int .i64 1) := HS1.out.cellAt (i := 0) (by simp)
        have q1 : w1.cell? ⟨w.heap.size, 1, none⟩ = some (.int .i64 s) := HS1.out.cellAt (i := 1) (by simp)
        have q2 : w1.cell? ⟨w.heap.size, 2, none⟩ = some (.int .i64 t) := HS1.out.cellAt (i := 2) (by simp)
        have q3 : w1.cell? ⟨w.heap.size, 3, none⟩ = some (.int .i64 n) := HS1.out.cellAt (i := 3) (by simp)
        go_wp2_with fail
        clear q0 q1 q2 q3
        refine (HU.out _ _ _).mono ?_
        rintro y w2 ⟨rfl, hb⟩
        have HB2 := Lib.hid (below_transG HB1.out hb)
        have HS2 := Lib.hid (HS1.out.keep hb HS1.out.lt)
        clear hb
        have q0 : w2.cell? ⟨w.heap.size, 0, none⟩ = some (.int .i64 1) := HS2.out.cellAt (i := 0) (by simp)
        have q1 : w2.cell? ⟨w.heap.size, 1, none⟩ = some (.int .i64 s) := HS2.out.cellAt (i := 1) (by simp)
        have q2 : w2.cell? ⟨w.heap.size, 2, none⟩ = some (.int .i64 t) := HS2.out.cellAt (i := 2) (by simp)
        have q3 : w2.cell? ⟨w.heap.size, 3, none⟩ = some (.int .i64 n) := HS2.out.cellAt (i := 3) (by simp)
        go_wp2_with fail
        clear q0 q1 q2 q3
        refine (HU.out _ _ _).mono ?_
        rintro y w3 ⟨rfl, hb⟩
        have HB3 := Lib.hid (below_transG HB2.out hb)
        have HS3 := Lib.hid (HS2.out.keep hb HS2.out.lt)
        clear hb
        have q0 : w3.cell? ⟨w.heap.size, 0, none⟩ = some (.int .i64 1) := HS3.out.cellAt (i := 0) (by simp)
        have q1 : w3.cell? ⟨w.heap.size, 1, none⟩ = some (.int .i64 s) := HS3.out.cellAt (i := 1) (by simp)
        have q2 : w3.cell? ⟨w.heap.size, 2, none⟩ = some (.int .i64 t) := HS3.out.cellAt (i := 2) (by simp)
        have q3 : w3.cell? ⟨w.heap.size, 3, none⟩ = some (.int .i64 n) := HS3.out.cellAt (i := 3) (by simp)
        go_wp2_with fail
        clear q0 q1 q2 q3
        go_ret
        exact ⟨rfl, HB3.out⟩
      · go_enter Tryd.func42, Tryd.ntmps42
        go_wp2_with fail
        refine (HU.out _ _ _).mono ?_
        rintro y w1 ⟨rfl, hb⟩
        have HB1 := Lib.hid (below_transG HB.out hb)
        have HS1 := Lib.hid (HS.out.keep hb (by simp))
        clear hb
        have q0 : w1.cell? ⟨w.heap.size, 0, none⟩ = some (.int .i64 2) := HS1.out.cellAt (i := 0) (by simp)
        have q1 : w1.cell? ⟨w.heap.size, 1, none⟩ = some (.int .i64 s) := HS1.out.cellAt (i := 1) (by simp)
        have q2 : w1.cell? ⟨w.heap.size, 2, none⟩ = some (.int .i64 t) := HS1.out.cellAt (i := 2) (by simp)
        have q3 : w1.cell? ⟨w.heap.size, 3, none⟩ = some (.int .i64 n) := HS1.out.cellAt (i := 3) (by simp)
        go_wp2_with fail
        clear q0 q1 q2 q3
        refine (HU.out _ _ _).mono ?_
        rintro y w2 ⟨rfl, hb⟩
        have HB2 := Lib.hid (below_transG HB1.out hb)
        have HS2 := Lib.hid (HS1.out.keep hb HS1.out.lt)
        clear hb
        have q0 : w2.cell? ⟨w.heap.size, 0, none⟩ = some (.int .i64 2) := HS2.out.cellAt (i := 0) (by simp)
        have q1 : w2.cell? ⟨w.heap.size, 1, none⟩ = some (.int .i64 s) := HS2.out.cellAt (i := 1) (by simp)
        have q2 : w2.cell? ⟨w.heap.size, 2, none⟩ = some (.int .i64 t) := HS2.out.cellAt (i := 2) (by simp)
        have q3 : w2.cell? ⟨w.heap.size, 3, none⟩ = some (.int .i64 n) := HS2.out.cellAt (i := 3) (by simp)
        go_wp2_with fail
        clear q0 q1 q2 q3
        refine (HU.out _ _ _).mono ?_
        rintro y w3 ⟨rfl, hb⟩
        have HB3 := Lib.hid (below_transG HB2.out hb)
        have HS3 := Lib.hid (HS2.out.keep hb HS2.out.lt)
        clear hb
        have q0 : w3.cell? ⟨w.heap.size, 0, none⟩ = some (.int .i64 2) := HS3.out.cellAt (i := 0) (by simp)
        have q1 : w3.cell? ⟨w.heap.size, 1, none⟩ = some (.int .i64 s) := HS3.out.cellAt (i := 1) (by simp)
        have q2 : w3.cell? ⟨w.heap.size, 2, none⟩ = some (.int .i64 t) := HS3.out.cellAt (i := 2) (by simp)
        have q3 : w3.cell? ⟨w.heap.size, 3, none⟩ = some (.int .i64 n) := HS3.out.cellAt (i := 3) (by simp)
        go_wp2_with fail
        clear q0 q1 q2 q3
        go_ret
        exact ⟨rfl, HB3.out⟩
      · go_enter Tryd.func42, Tryd.ntmps42
        go_wp2_with fail
        refine (HU.out _ _ _).mono ?_
        rintro y w1 ⟨rfl, hb⟩
        have HB1 := Lib.hid (below_transG HB.out hb)
        have HS1 := Lib.hid (HS.out.keep hb (by simp))
        clear hb
        have q0 : w1.cell? ⟨w.heap.size, 0, none⟩ = some (.int .i64 3) := HS1.out.cellAt (i := 0) (by simp)
        have q1 : w1.cell? ⟨w.heap.size, 1, none⟩ = some (.int .i64 s) := HS1.out.cellAt (i := 1) (by simp)
        have q2 : w1.cell? ⟨w.heap.size, 2, none⟩ = some (.int .i64 t) := HS1.out.cellAt (i := 2) (by simp)
        have q3 : w1.cell? ⟨w.heap.size, 3, none⟩ = some (.int .i64 n) := HS1.out.cellAt (i := 3) (by simp)
        go_wp2_with fail
        clear q0 q1 q2 q3
        refine (HU.out _ _ _).mono ?_
        rintro y w2 ⟨rfl, hb⟩
        have HB2 := Lib.hid (below_transG HB1.out hb)
        have HS2 := Lib.hid (HS1.out.keep hb HS1.out.lt)
        clear hb
        have q0 : w2.cell? ⟨w.heap.size, 0, none⟩ = some (.int .i64 3) := HS2.out.cellAt (i := 0) (by simp)
        have q1 : w2.cell? ⟨w.heap.size, 1, none⟩ = some (.int .i64 s) := HS2.out.cellAt (i := 1) (by simp)
        have q2 : w2.cell? ⟨w.heap.size, 2, none⟩ = some (.int .i64 t) := HS2.out.cellAt (i := 2) (by simp)
        have q3 : w2.cell? ⟨w.heap.size, 3, none⟩ = some (.int .i64 n) := HS2.out.cellAt (i := 3) (by simp)
        go_wp2_with fail
        clear q0 q1 q2 q3
        refine (HU.out _ _ _).mono ?_
        rintro y w3 ⟨rfl, hb⟩
        have HB3 := Lib.hid (below_transG HB2.out hb)
        have HS3 := Lib.hid (HS2.out.keep hb HS2.out.lt)
        clear hb
        have q0 : w3.cell? ⟨w.heap.size, 0, none⟩ = some (.int .i64 3) := HS3.out.cellAt (i := 0) (by simp)
        have q1 : w3.cell? ⟨w.heap.size, 1, none⟩ = some (.int .i64 s) := HS3.out.cellAt (i := 1) (by simp)
        have q2 : w3.cell? ⟨w.heap.size, 2, none⟩ = some (.int .i64 t) := HS3.out.cellAt (i := 2) (by simp)
        have q3 : w3.cell? ⟨w.heap.size, 3, none⟩ = some (.int .i64 n) := HS3.out.cellAt (i := 3) (by simp)
        go_wp2_with fail
        clear q0 q1 q2 q3
        go_ret
        exact ⟨rfl, HB3.out⟩
    · rw [e]; clear e
      rcases hc with rfl | rfl | rfl
      · go_enter Tryd.func42, Tryd.ntmps42
        go_wp2_with fail
        refine (HU.out _ _ _).mono ?_
        rintro y w1 ⟨rfl, hb⟩
        have HB1 := Lib.hid (below_transG HB.out hb)
        have HS1 := Lib.hid (HS.out.keep hb (by simp))
        clear hb
        have q0 : w1.cell? ⟨w.heap.size, 0, none⟩ = some (.int .i64 1) := HS1.out.cellAt (i := 0) (by simp)
        have q1 : w1.cell? ⟨w.heap.size, 1, none⟩ = some (.int .i64 s) := HS1.out.cellAt (i := 1) (by simp)
        have q2 : w1.cell? ⟨w.heap.size, 2, none⟩ = some (.int .i64 t) := HS1.out.cellAt (i := 2) (by simp)
        have q3 : w1.cell? ⟨w.heap.size, 3, none⟩ = some (.int .i64 n) := HS1.out.cellAt (i := 3) (by simp)
        go_wp2_with fail
        clear q0 q1 q2 q3
        refine (HU.out _ _ _).mono ?_
        rintro y w2 ⟨rfl, hb⟩
        have HB2 := Lib.hid (below_transG HB1.out hb)
        have HS2 := Lib.hid (HS1.out.keep hb HS1.out.lt)
        clear hb
        have q0 : w2.cell? ⟨w.heap.size, 0, none⟩ = some (.int .i64 1) := HS2.out.cellAt (i := 0) (by simp)
        have q1 : w2.cell? ⟨w.heap.size, 1, none⟩ = some (.int .i64 s) := HS2.out.cellAt (i := 1) (by simp)
        have q2 : w2.cell? ⟨w.heap.size, 2, none⟩ = some (.int .i64 t) := HS2.out.cellAt (i := 2) (by simp)
        have q3 : w2.cell? ⟨w.heap.size, 3, none⟩ = some (.int .i64 n) := HS2.out.cellAt (i := 3) (by simp)
        go_wp2_with fail
        clear q0 q1 q2 q3
        refine (HU.out _ _ _).mono ?_
        rintro y w3 ⟨rfl, hb⟩
        have HB3 := Lib.hid (below_transG HB2.out hb)
        have HS3 := Lib.hid (HS2.out.keep hb HS2.out.lt)
        clear hb
        have q0 : w3.cell? ⟨w.heap.size, 0, none⟩ = some (.int .i64 1) := HS3.out.cellAt (i := 0) (by simp)
        have q1 : w3.cell? ⟨w.heap.size, 1, none⟩ = some (.int .i64 s) := HS3.out.cellAt (i := 1) (by simp)
        have q2 : w3.cell? ⟨w.heap.size, 2, none⟩ = some (.int .i64 t) := HS3.out.cellAt (i := 2) (by simp)
        have q3 : w3.cell? ⟨w.heap.size, 3, none⟩ = some (.int .i64 n) := HS3.out.cellAt (i := 3) (by simp)
        go_wp2_with fail
        clear q0 q1 q2 q3
        go_ret
        exact ⟨rfl, HB3.out⟩
      · go_enter Tryd.func42, Tryd.ntmps42
        go_wp2_with fail
        refine (HU.out _ _ _).mono ?_
        rintro y w1 ⟨rfl, hb⟩
        have HB1 := Lib.hid (below_transG HB.out hb)
        have HS1 := Lib.hid (HS.out.keep hb (by simp))
        clear hb
        have q0 : w1.cell? ⟨w.heap.size, 0, none⟩ = some (.int .i64 2) := HS1.out.cellAt (i := 0) (by simp)
        have q1 : w1.cell? ⟨w.heap.size, 1, none⟩ = some (.int .i64 s) := HS1.out.cellAt (i := 1) (by simp)
        have q2 : w1.cell? ⟨w.heap.size, 2, none⟩ = some (.int .i64 t) := HS1.out.cellAt (i := 2) (by simp)
        have q3 : w1.cell? ⟨w.heap.size, 3, none⟩ = some (.int .i64 n) := HS1.out.cellAt (i := 3) (by simp)
        go_wp2_with fail
        clear q0 q1 q2 q3
        refine (HU.out _ _ _).mono ?_
        rintro y w2 ⟨rfl, hb⟩
        have HB2 := Lib.hid (below_transG HB1.out hb)
        have HS2 := Lib.hid (HS1.out.keep hb HS1.out.lt)
        clear hb
        have q0 : w2.cell? ⟨w.heap.size, 0, none⟩ = some (.int .i64 2) := HS2.out.cellAt (i := 0) (by simp)
        have q1 : w2.cell? ⟨w.heap.size, 1, none⟩ = some (.int .i64 s) := HS2.out.cellAt (i := 1) (by simp)
        have q2 : w2.cell? ⟨w.heap.size, 2, none⟩ = some (.int .i64 t) := HS2.out.cellAt (i := 2) (by simp)
        have q3 : w2.cell? ⟨w.heap.size, 3, none⟩ = some (.int .i64 n) := HS2.out.cellAt (i := 3) (by simp)
        go_wp2_with fail
        clear q0 q1 q2 q3
        refine (HU.out _ _ _).mono ?_
        rintro y w3 ⟨rfl, hb⟩
        have HB3 := Lib.hid (below_transG HB2.out hb)
        have HS3 := Lib.hid (HS2.out.keep hb HS2.out.lt)
        clear hb
        have q0 : w3.cell? ⟨w.heap.size, 0, none⟩ = some (.int .i64 2) := HS3.out.cellAt (i := 0) (by simp)
        have q1 : w3.cell? ⟨w.heap.size, 1, none⟩ = some (.int .i64 s) := HS3.out.cellAt (i := 1) (by simp)
        have q2 : w3.cell? ⟨w.heap.size, 2, none⟩ = some (.int .i64 t) := HS3.out.cellAt (i := 2) (by simp)
        have q3 : w3.cell? ⟨w.heap.size, 3, none⟩ = some (.int .i64 n) := HS3.out.cellAt (i := 3) (by simp)
        go_wp2_with fail
        clear q0 q1 q2 q3
        go_ret
        exact ⟨rfl, HB3.out⟩
      · go_enter Tryd.func42, Tryd.ntmps42
        go_wp2_with fail
        refine (HU.out _ _ _).mono ?_
        rintro y w1 ⟨rfl, hb⟩
        have HB1 := Lib.hid (below_transG HB.out hb)
        have HS1 := Lib.hid (HS.out.keep hb (by simp))
        clear hb
        have q0 : w1.cell? ⟨w.heap.size, 0, none⟩ = some (.int .i64 3) := HS1.out.cellAt (i := 0) (by simp)
        have q1 : w1.cell? ⟨w.heap.size, 1, none⟩ = some (.int .i64 s) := HS1.out.cellAt (i := 1) (by simp)
        have q2 : w1.cell? ⟨w.heap.size, 2, none⟩ = some (.int .i64 t) := HS1.out.cellAt (i := 2) (by simp)
        have q3 : w1.cell? ⟨w.heap.size, 3, none⟩ = some (.int .i64 n) := HS1.out.cellAt (i := 3) (by simp)
        go_wp2_with fail
        clear q0 q1 q2 q3
        refine (HU.out _ _ _).mono ?_
        rintro y w2 ⟨rfl, hb⟩
        have HB2 := Lib.hid (below_transG HB1.out hb)
        have HS2 := Lib.hid (HS1.out.keep hb HS1.out.lt)
        clear hb
        have q0 : w2.cell? ⟨w.heap.size, 0, none⟩ = some (.int .i64 3) := HS2.out.cellAt (i := 0) (by simp)
        have q1 : w2.cell? ⟨w.heap.size, 1, none⟩ = some (.int .i64 s) := HS2.out.cellAt (i := 1) (by simp)
        have q2 : w2.cell? ⟨w.heap.size, 2, none⟩ = some (.int .i64 t) := HS2.out.cellAt (i := 2) (by simp)
        have q3 : w2.cell? ⟨w.heap.size, 3, none⟩ = some (.int .i64 n) := HS2.out.cellAt (i := 3) (by simp)
        go_wp2_with fail
        clear q0 q1 q2 q3
        refine (HU.out _ _ _).mono ?_
        rintro y w3 ⟨rfl, hb⟩
        have HB3 := Lib.hid (below_transG HB2.out hb)
        have HS3 := Lib.hid (HS2.out.keep hb HS2.out.lt)
        clear hb
        have q0 : w3.cell? ⟨w.heap.size, 0, none⟩ = some (.int .i64 3) := HS3.out.cellAt (i := 0) (by simp)
        have q1 : w3.cell? ⟨w.heap.size, 1, none⟩ = some (.int .i64 s) := HS3.out.cellAt (i := 1) (by simp)
        have q2 : w3.cell? ⟨w.heap.size, 2, none⟩ = some (.int .i64 t) := HS3.out.cellAt (i := 2) (by simp)
        have q3 : w3.cell? ⟨w.heap.size, 3, none⟩ = some (.int .i64 n) := HS3.out.cellAt (i := 3) (by simp)
        go_wp2_with fail
        clear q0 q1 q2 q3
        go_ret
        exact ⟨rfl, HB3.out⟩
set_option maxHeartbeats 2000000 in
theorem r23right_any (c s t n : Int) (w : World) : Calls Tryd.prog 45 #[.agg #[.int .i64 c, .int .i64 s, .int .i64 t, .int .i64 n]] w fun y w' => y = .returned (.bool (rightL c s t n)) ∧ Below w.heap.size w w' := by
  have HB := Lib.hid ((Below.refl w.heap.size w).alloc (Nat.le_refl _) (.cells #[.int .i64 c, .int .i64 s, .int .i64 t, .int .i64 n] 38))
  have cs : (¬ 1 ≤ c) ∨ (1 ≤ c ∧ ¬ c ≤ 3) ∨ (1 ≤ c ∧ c ≤ 3 ∧ ¬ 0 ≤ s) ∨ (1 ≤ c ∧ c ≤ 3 ∧ 0 ≤ s ∧ ¬ s ≤ 255) ∨ (1 ≤ c ∧ c ≤ 3 ∧ 0 ≤ s ∧ s ≤ 255 ∧ ¬ 0 ≤ t) ∨ (1 ≤ c ∧ c ≤ 3 ∧ 0 ≤ s ∧ s ≤ 255 ∧ 0 ≤ t ∧ ¬ t ≤ 2047) ∨ (1 ≤ c ∧ c ≤ 3 ∧ 0 ≤ s ∧ s ≤ 255 ∧ 0 ≤ t ∧ t ≤ 2047 ∧ ¬ 0 ≤ n) ∨ (1 ≤ c ∧ c ≤ 3 ∧ 0 ≤ s ∧ s ≤ 255 ∧ 0 ≤ t ∧ t ≤ 2047 ∧ 0 ≤ n ∧ ¬ n < 32) ∨ (1 ≤ c ∧ c ≤ 3 ∧ 0 ≤ s ∧ s ≤ 255 ∧ 0 ≤ t ∧ t ≤ 2047 ∧ 0 ≤ n ∧ n < 32) := by omega
  rcases cs with h0 | ⟨h0, h1⟩ | ⟨h0, h1, h2⟩ | ⟨h0, h1, h2, h3⟩ | ⟨h0, h1, h2, h3, h4⟩ | ⟨h0, h1, h2, h3, h4, h5⟩ | ⟨h0, h1, h2, h3, h4, h5, h6⟩ | ⟨h0, h1, h2, h3, h4, h5, h6, h7⟩ | ⟨h0, h1, h2, h3, h4, h5, h6, h7⟩
  · have e : rightL c s t n = false := by unfold rightL; exact decide_eq_false (by omega)
    rw [e]; clear e
    go_enter Tryd.func45, Tryd.ntmps45
    go_wp2_with fail
    go_ret
    exact ⟨rfl, by first | exact HB.out | exact HB.out.drew | exact Below.refl _ _⟩
  · have e : rightL c s t n = false := by unfold rightL; exact decide_eq_false (by omega)
    rw [e]; clear e
    go_enter Tryd.func45, Tryd.ntmps45
    go_wp2_with fail
    go_ret
    exact ⟨rfl, by first | exact HB.out | exact HB.out.drew | exact Below.refl _ _⟩
  · have e : rightL c s t n = false := by unfold rightL; exact decide_eq_false (by omega)
    rw [e]; clear e
    go_enter Tryd.func45, Tryd.ntmps45
    go_wp2_with fail
    go_ret
    exact ⟨rfl, by first | exact HB.out | exact HB.out.drew | exact Below.refl _ _⟩
  · have e : rightL c s t n = false := by unfold rightL; exact decide_eq_false (by omega)
    rw [e]; clear e
    go_enter Tryd.func45, Tryd.ntmps45
    go_wp2_with fail
    go_ret
    exact ⟨rfl, by first | exact HB.out | exact HB.out.drew | exact Below.refl _ _⟩
  · have e : rightL c s t n = false := by unfold rightL; exact decide_eq_false (by omega)
    rw [e]; clear e
    go_enter Tryd.func45, Tryd.ntmps45
    go_wp2_with fail
    go_ret
    exact ⟨rfl, by first | exact HB.out | exact HB.out.drew | exact Below.refl _ _⟩
  · have e : rightL c s t n = false := by unfold rightL; exact decide_eq_false (by omega)
    rw [e]; clear e
    go_enter Tryd.func45, Tryd.ntmps45
    go_wp2_with fail
    go_ret
    exact ⟨rfl, by first | exact HB.out | exact HB.out.drew | exact Below.refl _ _⟩
  · have e : rightL c s t n = false := by unfold rightL; exact decide_eq_false (by omega)
    rw [e]; clear e
    go_enter Tryd.func45, Tryd.ntmps45
    go_wp2_with fail
    go_ret
    exact ⟨rfl, by first | exact HB.out | exact HB.out.drew | exact Below.refl _ _⟩
  · have e : rightL c s t n = false := by unfold rightL; exact decide_eq_false (by omega)
    rw [e]; clear e
    go_enter Tryd.func45, Tryd.ntmps45
    go_wp2_with fail
    go_ret
    exact ⟨rfl, by first | exact HB.out | exact HB.out.drew | exact Below.refl _ _⟩
  · have e : rightL c s t n = true := by unfold rightL; exact decide_eq_true (by omega)
    rw [e]; clear e
    go_enter Tryd.func45, Tryd.ntmps45
    go_wp2_with fail
    go_ret
    exact ⟨rfl, by first | exact HB.out | exact HB.out.drew | exact Below.refl _ _⟩
theorem r23before_any (c s t n c' s' t' n' : Int) (w : World) : Calls Tryd.prog 27 #[.agg #[.int .i64 c, .int .i64 s, .int .i64 t, .int .i64 n], .agg #[.int .i64 c', .int .i64 s', .int .i64 t', .int .i64 n']] w fun y w' => y = .returned (.bool (befL c s t n c' s' t' n')) ∧ Below w.heap.size w w' := by
  have HB := Lib.hid (show Below w.heap.size w ((w.alloc (.cells #[.int .i64 c, .int .i64 s, .int .i64 t, .int .i64 n] 38)).alloc (.cells #[.int .i64 c', .int .i64 s', .int .i64 t', .int .i64 n'] 38)) from ((Below.refl w.heap.size w).alloc (Nat.le_refl _) _).alloc (by simp) _)
  have cs : c ≠ c' ∨ (c = c' ∧ s ≠ s') ∨ (c = c' ∧ s = s' ∧ t ≠ t') ∨ (c = c' ∧ s = s' ∧ t = t' ∧ n ≠ n') ∨ (c = c' ∧ s = s' ∧ t = t' ∧ n = n') := by omega
  rcases cs with h | ⟨rfl, h⟩ | ⟨rfl, rfl, h⟩ | ⟨rfl, rfl, rfl, h⟩ | ⟨rfl, rfl, rfl, rfl⟩
  · rw [befL_0 h]
    have g1 : (c == c') = false := by simpa using h
    clear h
    go_enter Tryd.func27, Tryd.ntmps27
    go_wp2_with fail
    go_ret
    exact ⟨rfl, by first | exact HB.out | exact HB.out.drew | exact Below.refl _ _⟩
  · rw [befL_1 h]
    have g1 : (s == s') = false := by simpa using h
    clear h
    go_enter Tryd.func27, Tryd.ntmps27
    go_wp2_with fail
    go_ret
    exact ⟨rfl, by first | exact HB.out | exact HB.out.drew | exact Below.refl _ _⟩
  · rw [befL_2 h]
    have g1 : (t == t') = false := by simpa using h
    clear h
    go_enter Tryd.func27, Tryd.ntmps27
    go_wp2_with fail
    go_ret
    exact ⟨rfl, by first | exact HB.out | exact HB.out.drew | exact Below.refl _ _⟩
  · rw [befL_3 h]
    have g1 : (n == n') = false := by simpa using h
    clear h
    go_enter Tryd.func27, Tryd.ntmps27
    go_wp2_with fail
    go_ret
    exact ⟨rfl, by first | exact HB.out | exact HB.out.drew | exact Below.refl _ _⟩
  · rw [befL_4]
    have g1 : decide (n < n) = false := by simp
    go_enter Tryd.func27, Tryd.ntmps27
    go_wp2_with fail
    go_ret
    exact ⟨rfl, by first | exact HB.out | exact HB.out.drew | exact Below.refl _ _⟩
/-- A label with another slot. -/
def slotL (c s k : Int) : Int := if c = 1 then k else s
theorem clslotted_any (c s t n : Int) (k : Int) (w : World) : Calls Tryd.prog 57 #[.agg #[.int .i64 c, .int .i64 s, .int .i64 t, .int .i64 n], .int .i64 k] w fun y w' => y = .returned (.agg #[.int .i64 c, .int .i64 (slotL c s k), .int .i64 t, .int .i64 n]) ∧ Below w.heap.size w w' := by
  by_cases h : c = 1
  · subst h
    rw [show slotL 1 s k = k from rfl]
    go_enter Tryd.func57, Tryd.ntmps57
    go_wp2_with fail
    obtain ⟨W, hW⟩ : ∃ W, W = (w.alloc (.cells #[.int .i64 1, .int .i64 k, .int .i64 t, .int .i64 n] 38)).alloc (.cells #[.int .i64 1, .int .i64 k, .int .i64 t, .int .i64 n] 38) := ⟨_, rfl⟩
    rw [← hW]
    have hS : Blk W (w.heap.size + 1) 38 [.int .i64 1, .int .i64 k, .int .i64 t, .int .i64 n] := by
      rw [hW]
      have := Blk.new (w.alloc (.cells #[.int .i64 1, .int .i64 k, .int .i64 t, .int .i64 n] 38)) 38 [.int .i64 1, .int .i64 k, .int .i64 t, .int .i64 n]
      rw [World.size_alloc] at this
      exact this
    have hb : Below w.heap.size w W := by rw [hW]; exact ((Below.refl w.heap.size w).alloc (Nat.le_refl _) _).alloc (by simp) _
    clear hW
    have z0 : W.cell? ⟨(w.heap.size + 1), 0, none⟩ = some (.int .i64 1) := hS.cellAt (i := 0) (by simp)
    have z1 : W.cell? ⟨(w.heap.size + 1), 1, none⟩ = some (.int .i64 k) := hS.cellAt (i := 1) (by simp)
    have z2 : W.cell? ⟨(w.heap.size + 1), 2, none⟩ = some (.int .i64 t) := hS.cellAt (i := 2) (by simp)
    have z3 : W.cell? ⟨(w.heap.size + 1), 3, none⟩ = some (.int .i64 n) := hS.cellAt (i := 3) (by simp)
    exact bodyPost_ret (v := .agg #[.int .i64 1, .int .i64 k, .int .i64 t, .int .i64 n]) (by simp [results, Tryd.results57, go_sem, z0, z1, z2, z3]) rfl ⟨rfl, hb⟩
  · rw [show slotL c s k = s from if_neg h]
    have g : (c == 1) = false := by simpa using h
    clear h
    go_enter Tryd.func57, Tryd.ntmps57
    go_wp2_with fail
    obtain ⟨W, hW⟩ : ∃ W, W = (w.alloc (.cells #[.int .i64 c, .int .i64 s, .int .i64 t, .int .i64 n] 38)).alloc (.cells #[.int .i64 c, .int .i64 s, .int .i64 t, .int .i64 n] 38) := ⟨_, rfl⟩
    rw [← hW]
    have hS : Blk W (w.heap.size + 1) 38 [.int .i64 c, .int .i64 s, .int .i64 t, .int .i64 n] := by
      rw [hW]
      have := Blk.new (w.alloc (.cells #[.int .i64 c, .int .i64 s, .int .i64 t, .int .i64 n] 38)) 38 [.int .i64 c, .int .i64 s, .int .i64 t, .int .i64 n]
      rw [World.size_alloc] at this
      exact this
    have hb : Below w.heap.size w W := by rw [hW]; exact ((Below.refl w.heap.size w).alloc (Nat.le_refl _) _).alloc (by simp) _
    clear hW
    have z0 : W.cell? ⟨(w.heap.size + 1), 0, none⟩ = some (.int .i64 c) := hS.cellAt (i := 0) (by simp)
    have z1 : W.cell? ⟨(w.heap.size + 1), 1, none⟩ = some (.int .i64 s) := hS.cellAt (i := 1) (by simp)
    have z2 : W.cell? ⟨(w.heap.size + 1), 2, none⟩ = some (.int .i64 t) := hS.cellAt (i := 2) (by simp)
    have z3 : W.cell? ⟨(w.heap.size + 1), 3, none⟩ = some (.int .i64 n) := hS.cellAt (i := 3) (by simp)
    exact bodyPost_ret (v := .agg #[.int .i64 c, .int .i64 s, .int .i64 t, .int .i64 n]) (by simp [results, Tryd.results57, go_sem, z0, z1, z2, z3]) rfl ⟨rfl, hb⟩
end Go.Proofs.YtolhckahphmffaaDoor
