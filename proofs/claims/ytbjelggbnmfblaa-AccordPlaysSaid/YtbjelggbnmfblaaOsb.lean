/- Package osc, and the document's own answers of layer 16: an oscillator is made, counts a bit's ticks, and tells its count, and whether it was steady. Conditions: the arguments are numbers of their kinds. -/
import Derived.Test.YtbjelggbnmfblaaOsa
import Derived.Deep.Cut
namespace Go.Proofs.Ytbjelggbnmfblaa
open Go.RowKit
/-- Can an oscillator be? -/
def rightO (n d : Int) : Bool := decide (1 ≤ n ∧ n ≤ 1048576 ∧ 0 ≤ d ∧ d < n)
theorem rightO_no {n d : Int} (h : ¬ (1 ≤ n ∧ n ≤ 1048576 ∧ 0 ≤ d ∧ d < n)) : rightO n d = false := decide_eq_false h
theorem rightO_yes {n d : Int} (h : 1 ≤ n ∧ n ≤ 1048576 ∧ 0 ≤ d ∧ d < n) : rightO n d = true := decide_eq_true h
/-- What a bit's ticks bring: the error, the count, and whether it was not steady. -/
def wildB (n d t : Int) : Bool := decide (t < n - d ∨ n + d < t)
def stepE (c t : Int) : Int := if t < 0 ∨ 1048576 < t then 1 else if 1152921504606846976 - c < t then 9 else 0
def stepC (c t : Int) : Int := if stepE c t = 0 then c + t else c
def stepU (n d c : Int) (u : Bool) (t : Int) : Bool := if stepE c t = 0 then (u || wildB n d t) else u
theorem step_bad {n d c t : Int} {u : Bool} (h : t < 0 ∨ 1048576 < t) : stepE c t = 1 ∧ stepC c t = c ∧ stepU n d c u t = u := by
  have e : stepE c t = 1 := by unfold stepE; rw [if_pos h]
  unfold stepC stepU; rw [e]; exact ⟨rfl, if_neg (by decide), if_neg (by decide)⟩
theorem step_over {n d c t : Int} {u : Bool} (h : ¬ (t < 0 ∨ 1048576 < t)) (h2 : 1152921504606846976 - c < t) : stepE c t = 9 ∧ stepC c t = c ∧ stepU n d c u t = u := by
  have e : stepE c t = 9 := by unfold stepE; rw [if_neg h, if_pos h2]
  unfold stepC stepU; rw [e]; exact ⟨rfl, if_neg (by decide), if_neg (by decide)⟩
theorem step_ok {n d c t : Int} {u : Bool} (h : ¬ (t < 0 ∨ 1048576 < t)) (h2 : ¬ 1152921504606846976 - c < t) : stepE c t = 0 ∧ stepC c t = c + t ∧ stepU n d c u t = (u || wildB n d t) := by
  have e : stepE c t = 0 := by unfold stepE; rw [if_neg h, if_neg h2]
  unfold stepC stepU; rw [e]; exact ⟨rfl, if_pos rfl, if_pos rfl⟩
/-- An oscillator in the memory. -/
structure OS (W : World) (T : TypeId) (B : Nat) (n d c : Int) (u : Bool) : Prop where
  blk : Blk W B T [.int .i64 n, .int .i64 d, .int .i64 c, .bool u]
  n1 : 1 ≤ n
  n2 : n ≤ 1048576
  d0 : 0 ≤ d
  dn : d < n
  c0 : 0 ≤ c
  c1 : c ≤ 1152921504606846976
theorem OS.lt {W : World} {T : TypeId} {B : Nat} {n d c : Int} {u : Bool} (h : OS W T B n d c u) : B < W.heap.size := h.blk.lt
theorem OS.keepN {W X : World} {T : TypeId} {B N : Nat} {n d c : Int} {u : Bool} (h : OS W T B n d c u) (hb : Below N W X) (hN : B < N) : OS X T B n d c u := ⟨h.blk.keep hb hN, h.n1, h.n2, h.d0, h.dn, h.c0, h.c1⟩
theorem OS.on {W X : World} {T : TypeId} {B : Nat} {n d c : Int} {u : Bool} (h : OS W T B n d c u) (hb : Below W.heap.size W X) : OS X T B n d c u := h.keepN hb h.lt
theorem OS.moved {W X : World} {T : TypeId} {B : Nat} {n d c : Int} {u : Bool} (h : OS W T B n d c u) (hb : X.heap[B]? = W.heap[B]?) : OS X T B n d c u := ⟨h.blk.on hb, h.n1, h.n2, h.d0, h.dn, h.c0, h.c1⟩
theorem oright_any (n d : Int) (hn : -9223372036854775808 ≤ n ∧ n ≤ 9223372036854775807) (w : World) : Calls Try.prog 154 #[.agg #[.int .i64 n, .int .i64 d]] w fun y w' => y = .returned (.bool (rightO n d)) ∧ Below w.heap.size w w' := by
  have HB := Lib.hid ((Below.refl w.heap.size w).alloc (Nat.le_refl _) (.cells #[.int .i64 n, .int .i64 d] 90))
  have cs : n < 1 ∨ (1 ≤ n ∧ 1048576 < n) ∨ (1 ≤ n ∧ n ≤ 1048576 ∧ d < 0) ∨ (1 ≤ n ∧ n ≤ 1048576 ∧ 0 ≤ d ∧ n ≤ d) ∨ (1 ≤ n ∧ n ≤ 1048576 ∧ 0 ≤ d ∧ d < n) := by omega
  rcases cs with h | ⟨h, h2⟩ | ⟨h, h2, h3⟩ | ⟨h, h2, h3, h4⟩ | ⟨h, h2, h3, h4⟩
  · rw [rightO_no (by omega)]
    have g1 : ¬ 1 ≤ n := by omega
    go_enter Try.func154, Try.ntmps154
    go_wp2_with fail
    go_ret
    exact ⟨rfl, HB.out⟩
  · rw [rightO_no (by omega)]
    have g2 : ¬ n ≤ 1048576 := by omega
    go_enter Try.func154, Try.ntmps154
    go_wp2_with fail
    go_ret
    exact ⟨rfl, HB.out⟩
  · rw [rightO_no (by omega)]
    have g3 : ¬ 0 ≤ d := by omega
    go_enter Try.func154, Try.ntmps154
    go_wp2_with fail
    go_ret
    exact ⟨rfl, HB.out⟩
  · rw [rightO_no (by omega)]
    have g4 : ¬ d < n := by omega
    go_enter Try.func154, Try.ntmps154
    go_wp2_with fail
    go_ret
    exact ⟨rfl, HB.out⟩
  · rw [rightO_yes ⟨h, h2, h3, h4⟩]
    go_enter Try.func154, Try.ntmps154
    go_wp2_with fail
    go_ret
    exact ⟨rfl, HB.out⟩
theorem roright_any (n d : Int) (hn : -9223372036854775808 ≤ n ∧ n ≤ 9223372036854775807) (w : World) : Calls Try.prog 161 #[.agg #[.int .i64 n, .int .i64 d]] w fun y w' => y = .returned (.bool (rightO n d)) ∧ Below w.heap.size w w' := by
  have HB := Lib.hid ((Below.refl w.heap.size w).alloc (Nat.le_refl _) (.cells #[.int .i64 n, .int .i64 d] 90))
  have cs : n < 1 ∨ (1 ≤ n ∧ 1048576 < n) ∨ (1 ≤ n ∧ n ≤ 1048576 ∧ d < 0) ∨ (1 ≤ n ∧ n ≤ 1048576 ∧ 0 ≤ d ∧ n ≤ d) ∨ (1 ≤ n ∧ n ≤ 1048576 ∧ 0 ≤ d ∧ d < n) := by omega
  rcases cs with h | ⟨h, h2⟩ | ⟨h, h2, h3⟩ | ⟨h, h2, h3, h4⟩ | ⟨h, h2, h3, h4⟩
  · rw [rightO_no (by omega)]
    have g1 : ¬ 1 ≤ n := by omega
    go_enter Try.func161, Try.ntmps161
    go_wp2_with fail
    go_ret
    exact ⟨rfl, HB.out⟩
  · rw [rightO_no (by omega)]
    have g2 : ¬ n ≤ 1048576 := by omega
    go_enter Try.func161, Try.ntmps161
    go_wp2_with fail
    go_ret
    exact ⟨rfl, HB.out⟩
  · rw [rightO_no (by omega)]
    have g3 : ¬ 0 ≤ d := by omega
    go_enter Try.func161, Try.ntmps161
    go_wp2_with fail
    go_ret
    exact ⟨rfl, HB.out⟩
  · rw [rightO_no (by omega)]
    have g4 : ¬ d < n := by omega
    go_enter Try.func161, Try.ntmps161
    go_wp2_with fail
    go_ret
    exact ⟨rfl, HB.out⟩
  · rw [rightO_yes ⟨h, h2, h3, h4⟩]
    go_enter Try.func161, Try.ntmps161
    go_wp2_with fail
    go_ret
    exact ⟨rfl, HB.out⟩
theorem onew_no (n d : Int) (hn : -9223372036854775808 ≤ n ∧ n ≤ 9223372036854775807) (h : rightO n d = false) (w : World) : Calls Try.prog 156 #[.agg #[.int .i64 n, .int .i64 d]] w fun y w' => y = .returned (.tuple #[.pointer none, .int .i64 1]) ∧ Below w.heap.size w w' := by
  have HR := Lib.hid (fun u => oright_any n d hn u)
  rw [h] at HR
  clear h hn
  go_enter Try.func156, Try.ntmps156
  go_wp2_with fail
  refine (HR.out _).mono ?_
  rintro y w1 ⟨rfl, hb⟩
  have HB := Lib.hid hb
  clear hb
  go_wp2_with fail
  go_ret2
  exact ⟨rfl, by first | exact HB.out | exact below_transG ((Below.refl _ w).alloc (Nat.le_refl _) _) HB.out⟩
theorem onew_yes (n d : Int) (hn : -9223372036854775808 ≤ n ∧ n ≤ 9223372036854775807) (h : rightO n d = true) (w : World) : Calls Try.prog 156 #[.agg #[.int .i64 n, .int .i64 d]] w fun y w' => ∃ B, y = .returned (.tuple #[.pointer (some ⟨B, 0, none⟩), .int .i64 0]) ∧ OS w' 195 B n d 0 false ∧ w.heap.size ≤ B ∧ Below w.heap.size w w' := by
  have HR := Lib.hid (fun u => oright_any n d hn u)
  have hr := of_decide_eq_true h
  rw [h] at HR
  have HH := Lib.hid hr
  clear h hn hr
  go_enter Try.func156, Try.ntmps156
  go_wp2_with fail
  refine (HR.out _).mono ?_
  rintro y w1 ⟨rfl, hb⟩
  have HB := Lib.hid hb
  have hS := (Blk.new w 90 [.int .i64 n, .int .i64 d]).keep hb (by simp)
  have q0 : w1.cell? ⟨w.heap.size, 0, none⟩ = some (.int .i64 n) := hS.cellAt (i := 0) (by simp)
  have q1 : w1.cell? ⟨w.heap.size, 1, none⟩ = some (.int .i64 d) := hS.cellAt (i := 1) (by simp)
  clear hb hS
  go_wp2_with fail
  go_ret2
  have hO := Blk.new w1 195 [.int .i64 n, .int .i64 d, .int .i64 0, .bool false]
  have hs := HB.out.size
  exact ⟨_, rfl, ⟨hO, HH.out.1, HH.out.2.1, HH.out.2.2.1, HH.out.2.2.2, by omega, by omega⟩, by first | exact hs | (simp at hs; omega), by first | exact HB.out.alloc hs _ | exact (below_transG ((Below.refl _ w).alloc (Nat.le_refl _) _) HB.out).alloc (by simp at hs; omega) _⟩
theorem ronew_no (n d : Int) (hn : -9223372036854775808 ≤ n ∧ n ≤ 9223372036854775807) (h : rightO n d = false) (w : World) : Calls Try.prog 113 #[.agg #[.int .i64 n, .int .i64 d]] w fun y w' => y = .returned (.tuple #[.pointer none, .int .i64 1]) ∧ Below w.heap.size w w' := by
  have HR := Lib.hid (fun u => roright_any n d hn u)
  rw [h] at HR
  clear h hn
  go_enter Try.func113, Try.ntmps113
  go_wp2_with fail
  refine (HR.out _).mono ?_
  rintro y w1 ⟨rfl, hb⟩
  have HB := Lib.hid hb
  clear hb
  go_wp2_with fail
  go_ret2
  exact ⟨rfl, by first | exact HB.out | exact below_transG ((Below.refl _ w).alloc (Nat.le_refl _) _) HB.out⟩
theorem ronew_yes (n d : Int) (hn : -9223372036854775808 ≤ n ∧ n ≤ 9223372036854775807) (h : rightO n d = true) (w : World) : Calls Try.prog 113 #[.agg #[.int .i64 n, .int .i64 d]] w fun y w' => ∃ B, y = .returned (.tuple #[.pointer (some ⟨B, 0, none⟩), .int .i64 0]) ∧ OS w' 218 B n d 0 false ∧ w.heap.size ≤ B ∧ Below w.heap.size w w' := by
  have HR := Lib.hid (fun u => roright_any n d hn u)
  have hr := of_decide_eq_true h
  rw [h] at HR
  have HH := Lib.hid hr
  clear h hn hr
  go_enter Try.func113, Try.ntmps113
  go_wp2_with fail
  refine (HR.out _).mono ?_
  rintro y w1 ⟨rfl, hb⟩
  have HB := Lib.hid hb
  have hS := (Blk.new w 90 [.int .i64 n, .int .i64 d]).keep hb (by simp)
  have q0 : w1.cell? ⟨w.heap.size, 0, none⟩ = some (.int .i64 n) := hS.cellAt (i := 0) (by simp)
  have q1 : w1.cell? ⟨w.heap.size, 1, none⟩ = some (.int .i64 d) := hS.cellAt (i := 1) (by simp)
  clear hb hS
  go_wp2_with fail
  go_ret2
  have hO := Blk.new w1 218 [.int .i64 n, .int .i64 d, .int .i64 0, .bool false]
  have hs := HB.out.size
  exact ⟨_, rfl, ⟨hO, HH.out.1, HH.out.2.1, HH.out.2.2.1, HH.out.2.2.2, by omega, by omega⟩, by first | exact hs | (simp at hs; omega), by first | exact HB.out.alloc hs _ | exact (below_transG ((Below.refl _ w).alloc (Nat.le_refl _) _) HB.out).alloc (by simp at hs; omega) _⟩
theorem may_any (t : Int) (ht : 0 ≤ t ∧ t ≤ 1048576) (n d c : Int) (u : Bool) (B : Nat) (w : World) (h : OS w 195 B n d c u) : Calls Try.prog 171 #[.pointer (some ⟨B, 0, none⟩), .int .i64 t] w fun y w' => y = .returned (.bool (!wildB n d t)) ∧ w = w' := by
  have q0 : w.cell? ⟨B, 0, none⟩ = some (.int .i64 n) := h.blk.cellAt (i := 0) (by simp)
  have q1 : w.cell? ⟨B, 1, none⟩ = some (.int .i64 d) := h.blk.cellAt (i := 1) (by simp)
  have q2 : w.cell? ⟨B, 2, none⟩ = some (.int .i64 c) := h.blk.cellAt (i := 2) (by simp)
  have q3 : w.cell? ⟨B, 3, none⟩ = some (.bool u) := h.blk.cellAt (i := 3) (by simp)
  have hx := h.n1; have hx2 := h.n2; have hx3 := h.d0; have hx4 := h.dn
  have HD := Lib.hid (fun u => dist_ex t n (by omega) (by omega) u)
  obtain ⟨x, hx5⟩ : ∃ x, x = if t < n then n - t else t - n := ⟨_, rfl⟩
  rw [← hx5] at HD
  have hx6 : (!wildB n d t) = decide (x ≤ d) := by
    unfold wildB
    rw [Bool.eq_iff_iff]
    simp only [Bool.not_eq_true', decide_eq_false_iff_not, decide_eq_true_iff]
    rw [hx5]; split <;> omega
  have hx7 : okV x = .tuple #[.int .i64 x, .bool true] := by
    have hi : -9223372036854775808 ≤ x ∧ x ≤ 9223372036854775807 := by rw [hx5]; split <;> omega
    unfold okV; rw [fit_yes hi, cut_yes hi]
  rw [hx7] at HD
  rw [hx6]
  have HDD := Lib.hid hx6
  clear hx hx2 hx3 hx4 hx5 hx6 hx7 h ht
  by_cases hl : x ≤ d
  · have hd : decide (x ≤ d) = true := decide_eq_true hl
    rw [hd]
    go_enter Try.func171, Try.ntmps171
    go_wp2_with fail
    refine (HD.out _).mono ?_
    rintro y w1 ⟨rfl, rfl⟩
    go_wp2_with fail
    go_ret
    exact ⟨rfl, rfl⟩
  · have hd : decide (x ≤ d) = false := decide_eq_false hl
    rw [hd]
    have hl2 : d < x := by omega
    go_enter Try.func171, Try.ntmps171
    go_wp2_with fail
    refine (HD.out _).mono ?_
    rintro y w1 ⟨rfl, rfl⟩
    go_wp2_with fail
    go_ret
    exact ⟨rfl, rfl⟩
theorem ocount_any (n d c : Int) (u : Bool) (B : Nat) (w : World) (h : OS w 195 B n d c u) : Calls Try.prog 160 #[.pointer (some ⟨B, 0, none⟩)] w fun y w' => y = .returned (.int .i64 c) ∧ w = w' := by
  have q0 : w.cell? ⟨B, 0, none⟩ = some (.int .i64 n) := h.blk.cellAt (i := 0) (by simp)
  have q1 : w.cell? ⟨B, 1, none⟩ = some (.int .i64 d) := h.blk.cellAt (i := 1) (by simp)
  have q2 : w.cell? ⟨B, 2, none⟩ = some (.int .i64 c) := h.blk.cellAt (i := 2) (by simp)
  have q3 : w.cell? ⟨B, 3, none⟩ = some (.bool u) := h.blk.cellAt (i := 3) (by simp)
  clear h
  go_enter Try.func160, Try.ntmps160
  go_wp2_with fail
  go_ret
  exact ⟨rfl, rfl⟩
theorem ocount_nil (w : World) : Calls Try.prog 160 #[.pointer none] w fun y w' => y = .returned (.int .i64 0) ∧ w = w' := by
  go_enter Try.func160, Try.ntmps160
  go_wp2_with fail
  go_ret
  exact ⟨rfl, rfl⟩
theorem ostep_nil (t : Int) (w : World) : Calls Try.prog 122 #[.pointer none, .int .i64 t] w fun y w' => y = .returned (.int .i64 7) ∧ w = w' := by
  go_enter Try.func122, Try.ntmps122
  go_wp2_with fail
  go_ret
  exact ⟨rfl, rfl⟩
theorem OS.put {W : World} {T : TypeId} {B : Nat} {n d c : Int} {u : Bool} (h : OS W T B n d c u) (c2 : Int) (h0 : 0 ≤ c2) (h1 : c2 ≤ 1152921504606846976) : OS (W.setCell ⟨B, 2, none⟩ (.int .i64 c2)) T B n d c2 u :=
  ⟨h.blk.put1 (i := 2) (by simp) _, h.n1, h.n2, h.d0, h.dn, h0, h1⟩
theorem OS.drewO {W : World} {T : TypeId} {B : Nat} {n d c : Int} {u : Bool} (h : OS W T B n d c u) : OS W.drew T B n d c u := ⟨h.blk, h.n1, h.n2, h.d0, h.dn, h.c0, h.c1⟩
theorem Kp.drewO {B : Nat} {v : Value} {w w' : World} (h : Kp B v w w') : Kp B v w w'.drew := ⟨h.os, h.tape, h.output, h.size, h.block⟩
theorem OS.wild {W : World} {T : TypeId} {B : Nat} {n d c : Int} {u : Bool} (h : OS W T B n d c u) : OS (W.setCell ⟨B, 3, none⟩ (.bool true)) T B n d c true :=
  ⟨h.blk.put1 (i := 3) (by simp) _, h.n1, h.n2, h.d0, h.dn, h.c0, h.c1⟩
set_option maxHeartbeats 1000000 in
theorem ostep_any (t : Int) (ht : -9223372036854775808 ≤ t ∧ t ≤ 9223372036854775807) (n d c : Int) (u : Bool) (B : Nat) (w : World) (h : OS w 195 B n d c u) : Calls Try.prog 122 #[.pointer (some ⟨B, 0, none⟩), .int .i64 t] w fun y w' => y = .returned (.int .i64 (stepE c t)) ∧ OS w' 195 B n d (stepC c t) (stepU n d c u t) ∧ Kp B (.slice none 0 0) w w' := by
  have q0 : w.cell? ⟨B, 0, none⟩ = some (.int .i64 n) := h.blk.cellAt (i := 0) (by simp)
  have q1 : w.cell? ⟨B, 1, none⟩ = some (.int .i64 d) := h.blk.cellAt (i := 1) (by simp)
  have q2 : w.cell? ⟨B, 2, none⟩ = some (.int .i64 c) := h.blk.cellAt (i := 2) (by simp)
  have q3 : w.cell? ⟨B, 3, none⟩ = some (.bool u) := h.blk.cellAt (i := 3) (by simp)
  have p2 : w.frozen? ⟨B, 2, none⟩ = false := h.blk.frozenAt 2
  have p3 : w.frozen? ⟨B, 3, none⟩ = false := h.blk.frozenAt 3
  have HH := Lib.hid h
  have hc0 := h.c0; have hc1 := h.c1; have hn1 := h.n1; have hn2 := h.n2; have hd0 := h.d0; have hdn := h.dn
  clear h
  by_cases h1 : t < 0 ∨ 1048576 < t
  · obtain ⟨s1, s2, s3⟩ := step_bad (n := n) (d := d) (c := c) (u := u) h1
    rw [s1, s2, s3]
    clear s1 s2 s3 hc0 hc1 hn1 hn2 hd0 hdn ht
    rcases h1 with h1 | h1
    · go_enter Try.func122, Try.ntmps122
      go_wp2_with fail
      go_ret
      exact ⟨rfl, HH.out, Kp.refl _ _ _⟩
    · have h2 : ¬ t < 0 := by omega
      go_enter Try.func122, Try.ntmps122
      go_wp2_with fail
      go_ret
      exact ⟨rfl, HH.out, Kp.refl _ _ _⟩
  have i1 : ¬ t < 0 := by omega
  have i2 : ¬ 1048576 < t := by omega
  have hl : wrap64 (1152921504606846976 - c) = 1152921504606846976 - c := w64_in _ (by omega)
  by_cases h2 : 1152921504606846976 - c < t
  · obtain ⟨s1, s2, s3⟩ := step_over (n := n) (d := d) (c := c) (u := u) h1 h2
    rw [s1, s2, s3]
    have h3 := h2
    clear s1 s2 s3 h1 h2 hc0 hc1 hn1 hn2 hd0 hdn ht
    go_enter Try.func122, Try.ntmps122
    go_wp2_with fail
    go_ret
    exact ⟨rfl, HH.out, Kp.refl _ _ _⟩
  obtain ⟨s1, s2, s3⟩ := step_ok (n := n) (d := d) (c := c) (u := u) h1 h2
  rw [s1, s2, s3]
  have h3 : ¬ 1152921504606846976 - c < t := by omega
  have hs : wrap64 (c + t) = c + t := w64_in _ (by omega)
  have HO := Lib.hid (HH.out.put (c + t) (by omega) (by omega))
  obtain ⟨x, hx⟩ : ∃ x, x = c + t := ⟨_, rfl⟩
  rw [← hx] at hs HO ⊢
  have HM := Lib.hid (fun W => may_any t (by omega) n d x u B W)
  have HK := Lib.hid ((Kp.refl B (.slice none 0 0) w).set 2 (.int .i64 x))
  have hs2 : wrap64 (c + t) = x := by rw [← hx] at *; rw [hs]
  clear hx s1 s2 s3 h1 h2 hc0 hc1 hn1 hn2 hd0 hdn ht hs
  by_cases hw : wildB n d t = true
  · rw [hw] at HM ⊢
    rw [Bool.or_true]
    clear hw
    go_enter Try.func122, Try.ntmps122
    go_wp2_with fail
    refine (HM.out _ HO.out).mono ?_
    rintro y w1 ⟨rfl, rfl⟩
    have q3b := HO.out.blk.cellAt (i := 3) (by simp)
    have p3b := HO.out.blk.frozenAt 3
    simp only [List.getElem_cons_zero, List.getElem_cons_succ] at q3b
    go_wp2_with fail
    go_ret
    exact ⟨rfl, HO.out.wild, HK.out.set 3 _⟩
  · have hw2 : wildB n d t = false := by simpa using hw
    rw [hw2] at HM ⊢
    rw [Bool.or_false]
    clear hw hw2
    go_enter Try.func122, Try.ntmps122
    go_wp2_with fail
    refine (HM.out _ HO.out).mono ?_
    rintro y w1 ⟨rfl, rfl⟩
    go_wp2_with fail
    go_ret
    exact ⟨rfl, HO.out, HK.out⟩
set_option maxHeartbeats 1000000 in
theorem rostep_any (t : Int) (ht : -9223372036854775808 ≤ t ∧ t ≤ 9223372036854775807) (n d c : Int) (u : Bool) (B : Nat) (w : World) (h : OS w 218 B n d c u) : Calls Try.prog 123 #[.pointer (some ⟨B, 0, none⟩), .int .i64 t] w fun y w' => y = .returned (.int .i64 (stepE c t)) ∧ OS w' 218 B n d (stepC c t) (stepU n d c u t) ∧ Kp B (.slice none 0 0) w w' := by
  have q0 : w.cell? ⟨B, 0, none⟩ = some (.int .i64 n) := h.blk.cellAt (i := 0) (by simp)
  have q1 : w.cell? ⟨B, 1, none⟩ = some (.int .i64 d) := h.blk.cellAt (i := 1) (by simp)
  have q2 : w.cell? ⟨B, 2, none⟩ = some (.int .i64 c) := h.blk.cellAt (i := 2) (by simp)
  have q3 : w.cell? ⟨B, 3, none⟩ = some (.bool u) := h.blk.cellAt (i := 3) (by simp)
  have p2 : w.frozen? ⟨B, 2, none⟩ = false := h.blk.frozenAt 2
  have p3 : w.frozen? ⟨B, 3, none⟩ = false := h.blk.frozenAt 3
  have HH := Lib.hid h
  have hc0 := h.c0; have hc1 := h.c1; have hn1 := h.n1; have hn2 := h.n2; have hd0 := h.d0; have hdn := h.dn
  clear h
  by_cases h1 : t < 0 ∨ 1048576 < t
  · obtain ⟨s1, s2, s3⟩ := step_bad (n := n) (d := d) (c := c) (u := u) h1
    rw [s1, s2, s3]
    clear s1 s2 s3 hc0 hc1 hn1 hn2 hd0 hdn ht
    rcases h1 with h1 | h1
    · go_enter Try.func123, Try.ntmps123
      go_wp2_with fail
      go_ret
      exact ⟨rfl, HH.out, Kp.refl _ _ _⟩
    · have h2 : ¬ t < 0 := by omega
      go_enter Try.func123, Try.ntmps123
      go_wp2_with fail
      go_ret
      exact ⟨rfl, HH.out, Kp.refl _ _ _⟩
  have i1 : ¬ t < 0 := by omega
  have i2 : ¬ 1048576 < t := by omega
  have hl : wrap64 (1152921504606846976 - t) = 1152921504606846976 - t := w64_in _ (by omega)
  by_cases h2 : 1152921504606846976 - c < t
  · obtain ⟨s1, s2, s3⟩ := step_over (n := n) (d := d) (c := c) (u := u) h1 h2
    rw [s1, s2, s3]
    have h3 : 1152921504606846976 - t < c := by omega
    clear s1 s2 s3 h1 h2 hc0 hc1 hn1 hn2 hd0 hdn ht
    go_enter Try.func123, Try.ntmps123
    go_wp2_with fail
    go_ret
    exact ⟨rfl, HH.out, Kp.refl _ _ _⟩
  obtain ⟨s1, s2, s3⟩ := step_ok (n := n) (d := d) (c := c) (u := u) h1 h2
  rw [s1, s2, s3]
  have h3 : ¬ 1152921504606846976 - t < c := by omega
  have hs : wrap64 (c + t) = c + t := w64_in _ (by omega)
  have HO := Lib.hid (HH.out.put (c + t) (by omega) (by omega))
  have hs2 : wrap64 (n - d) = n - d := w64_in _ (by omega)
  have hs3 : wrap64 (n + d) = n + d := w64_in _ (by omega)
  obtain ⟨x, hx⟩ : ∃ x, x = c + t := ⟨_, rfl⟩
  rw [← hx] at HO ⊢
  have HK := Lib.hid ((Kp.refl B (.slice none 0 0) w).set 2 (.int .i64 x))
  have hs4 : wrap64 (c + t) = x := by rw [hs, hx]
  have HT := Lib.hid (show wildB n d t = decide (t < n - d ∨ n + d < t) from rfl)
  clear hx s1 s2 s3 h1 h2 hc0 hc1 hn1 hn2 hd0 hdn ht hs
  obtain ⟨lo, hlo⟩ : ∃ lo, lo = n - d := ⟨_, rfl⟩
  obtain ⟨hi, hhi⟩ : ∃ hi, hi = n + d := ⟨_, rfl⟩
  rw [← hlo, ← hhi] at HT
  have hs5 : wrap64 (n - d) = lo := by rw [hs2, hlo]
  have hs6 : wrap64 (n + d) = hi := by rw [hs3, hhi]
  clear hs2 hs3 hlo hhi
  have cs : (t < lo) ∨ (¬ t < lo ∧ hi < t) ∨ (¬ t < lo ∧ ¬ hi < t) := by omega
  have q3b := HO.out.blk.cellAt (i := 3) (by simp)
  have p3b := HO.out.blk.frozenAt 3
  simp only [List.getElem_cons_zero, List.getElem_cons_succ] at q3b
  rcases cs with g1 | ⟨g1, g2⟩ | ⟨g1, g2⟩
  · rw [show wildB n d t = true by rw [HT.out]; simp; omega, Bool.or_true]
    go_enter Try.func123, Try.ntmps123
    go_upto_region 8 with fail
    go_region
    go_wp2_with fail
    go_ret
    exact ⟨rfl, HO.out.wild.drewO, (HK.out.set 3 _).drewO⟩
  · rw [show wildB n d t = true by rw [HT.out]; simp; omega, Bool.or_true]
    go_enter Try.func123, Try.ntmps123
    go_upto_region 8 with fail
    go_region
    go_wp2_with fail
    go_ret
    exact ⟨rfl, HO.out.wild.drewO, (HK.out.set 3 _).drewO⟩
  · rw [show wildB n d t = false by rw [HT.out]; simp; omega, Bool.or_false]
    go_enter Try.func123, Try.ntmps123
    go_upto_region 8 with fail
    go_region
    go_wp2_with fail
    go_ret
    exact ⟨rfl, HO.out.drewO, HK.out.drewO⟩
end Go.Proofs.Ytbjelggbnmfblaa
