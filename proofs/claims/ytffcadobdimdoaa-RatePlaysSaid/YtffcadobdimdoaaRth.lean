/- The document's own estimator of layer 18 in the memory: New, Add, Reset. Conditions: what it holds can be, and the sample is of numbers of 64 bits. -/
import Derived.Test.YtffcadobdimdoaaRtg
import Derived.Test.YtffcadobdimdoaaQui
namespace Go.Proofs.Ytffcadobdimdoaa
open Go.RowKit
/-- The document's estimator holds the same as the code's, its rates in a row of their own. -/
structure EdA (W : World) (B : Nat) (e : ES) (v : Value) : Prop where
  blk : Blk W B 45 [.int .i64 e.m, .int .i64 (e.n : Int), .bool e.s, .int .i64 e.t, .int .i64 e.h, v]
  row : Rw W 1 v (cI e.L)
  own : v.ownBlock ≠ some B
  ok : e.Ok
theorem EdA.on {W X : World} {B : Nat} {e : ES} {v : Value} (h : EdA W B e v) (hb : Below W.heap.size W X) : EdA X B e v := ⟨h.blk.keep hb h.blk.lt, h.row.kept hb, h.own, h.ok⟩
theorem rnew_yes (m : Int) (n : Nat) (hm : 0 ≤ m ∧ m ≤ 4096) (hn : 1 ≤ n ∧ n ≤ 9) (w : World) : Calls Try.prog 18 #[.int .i64 m, .int .i64 (n : Int)] w fun y w' => ∃ B, y = .returned (.tuple #[.pointer (some ⟨B, 0, none⟩), .int .i64 0]) ∧ EdA w' B (ES.fresh m n) (.slice none 0 0) ∧ w.heap.size ≤ B ∧ Below w.heap.size w w' := by
  have k1 : ¬ m < 0 := by omega
  have k2 : ¬ 4096 < m := by omega
  have k3 : ¬ (n : Int) < 1 := by omega
  have k4 : ¬ 9 < (n : Int) := by omega
  have k5 : ¬ n < 1 := by omega
  have k6 : ¬ 9 < n := by omega
  have HM := Lib.hid (And.intro hm hn)
  clear hm hn
  go_enter Try.func18, Try.ntmps18
  go_wp2_with fail
  go_ret2
  exact ⟨_, rfl, ⟨Blk.new w 45 _, Rw.nil _ 1, by simp [Value.ownBlock], ES.fresh_ok HM.out.1 HM.out.2⟩, Nat.le_refl _, (Below.refl _ w).alloc (Nat.le_refl _) _⟩
theorem rnew_no (m n : Int) (h : ¬ ((0 ≤ m ∧ m ≤ 4096) ∧ (1 ≤ n ∧ n ≤ 9))) (w : World) : Calls Try.prog 18 #[.int .i64 m, .int .i64 n] w fun y w' => y = .returned (.tuple #[.pointer none, .int .i64 1]) ∧ w = w' := by
  have hc : m < 0 ∨ (¬ m < 0 ∧ 4096 < m) ∨ (¬ m < 0 ∧ ¬ 4096 < m ∧ n < 1) ∨ (¬ m < 0 ∧ ¬ 4096 < m ∧ ¬ n < 1 ∧ 9 < n) := by omega
  clear h
  rcases hc with k1 | ⟨k1, k2⟩ | ⟨k1, k2, k3⟩ | ⟨k1, k2, k3, k4⟩
  all_goals
    go_enter Try.func18, Try.ntmps18
    go_wp2_with fail
    go_ret2
    exact ⟨rfl, rfl⟩
theorem rreset_any (e : ES) (v : Value) (B : Nat) (w : World) (hE : EdA w B e v) : Calls Try.prog 20 #[.pointer (some ⟨B, 0, none⟩)] w fun y w' => y = .returned (.tuple #[]) ∧ ∃ e', e'.m = e.m ∧ e'.n = e.n ∧ e'.s = false ∧ e'.L = [] ∧ EdA w' B e' (.slice none 0 0) ∧ Kp B (.slice none 0 0) w w' := by
  have q2 : w.cell? ⟨B, 2, none⟩ = some (.bool e.s) := hE.blk.cellAt (i := 2) (by simp)
  have q5 : w.cell? ⟨B, 5, none⟩ = some v := hE.blk.cellAt (i := 5) (by simp)
  have f2 : w.frozen? ⟨B, 2, none⟩ = false := hE.blk.frozenAt 2
  have f5 : w.frozen? ⟨B, 5, none⟩ = false := hE.blk.frozenAt 5
  have HE := Lib.hid hE
  clear hE
  go_enter Try.func20, Try.ntmps20
  go_wp2_with fail
  go_end0
  refine ⟨rfl, ⟨e.m, e.n, false, e.t, e.h, [0, 0, 0, 0, 0, 0, 0, 0, 0], [], 0⟩, rfl, rfl, rfl, rfl, ⟨(HE.out.blk.put1 (i := 2) (by simp) (.bool false)).put1 (i := 5) (by simp) (.slice none 0 0), Rw.nil _ 1, by simp [Value.ownBlock], ⟨HE.out.ok.m0, HE.out.ok.t0, HE.out.ok.h0, RingI.nought _ (by have := HE.out.ok.ring.nm; simp only; omega) HE.out.ok.ring.m9, fun v hv => by cases hv⟩⟩, ((Kp.refl _ _ _).set 2 _).set 5 _⟩
end Go.Proofs.Ytffcadobdimdoaa
