/- A word as a frame, and back. Conditions: the word is a right one. -/
import Derived.Test.YtpamkmpaldepnaaSlo
namespace Go.Proofs.Ytpamkmpaldepnaa
open Go.RowKit
theorem word_back (f : Bool) (r m t : Int) (h : rightW f r m t = true) : ∃ (gn : Nat) (gl : Int) (y0 y1 y2 y3 y4 y5 y6 y7 : Nat),
    (∀ u, Calls Try.prog 34 #[.agg #[.bool f, .int .i64 r, .int .i64 m, .int .i64 t]] u fun y w' => y = .returned (.tuple #[.agg #[.bool false, .int .u32 (gn : Int), .bool false, .int .i64 gl, .int .u8 (y0 : Int), .int .u8 (y1 : Int), .int .u8 (y2 : Int), .int .u8 (y3 : Int), .int .u8 (y4 : Int), .int .u8 (y5 : Int), .int .u8 (y6 : Int), .int .u8 (y7 : Int)], .int .i64 0]) ∧ Below u.heap.size u w') ∧
    (∀ u, Calls Try.prog 35 #[.agg #[.bool false, .int .u32 (gn : Int), .bool false, .int .i64 gl, .int .u8 (y0 : Int), .int .u8 (y1 : Int), .int .u8 (y2 : Int), .int .u8 (y3 : Int), .int .u8 (y4 : Int), .int .u8 (y5 : Int), .int .u8 (y6 : Int), .int .u8 (y7 : Int)]] u fun y w' => y = .returned (.tuple #[.agg #[.bool f, .int .i64 r, .int .i64 m, .int .i64 t], .bool true]) ∧ Below u.heap.size u w') := by
  obtain ⟨⟨h1, h2⟩, ⟨h3, h4⟩, ⟨h5, h6⟩, h7⟩ := rightW_of h
  obtain ⟨r, rfl⟩ : ∃ k : Nat, r = (k : Int) := ⟨r.toNat, by omega⟩
  obtain ⟨m, rfl⟩ : ∃ k : Nat, m = (k : Int) := ⟨m.toNat, by omega⟩
  obtain ⟨t, rfl⟩ : ∃ k : Nat, t = (k : Int) := ⟨t.toNat, by omega⟩
  have e1 : m / 256 % 256 * 256 + m % 256 = m := by omega
  cases f
  · obtain rfl : t = 0 := by simpa using h7
    refine ⟨r, 2, m / 256 % 256, m % 256, 0, 0, 0, 0, 0, 0, fun u => slframe_turn r m (by omega) (by omega) u, fun u => ?_⟩
    have hO := slof_any false r (by omega) false 2 (m / 256 % 256) (m % 256) 0 0 0 0 0 0 (Nat.mod_lt _ (by decide)) (Nat.mod_lt _ (by decide)) (by decide) (by decide) (by decide) (by decide) (by decide) (by decide) u
    have e2 : ofV false r false 2 (m / 256 % 256) (m % 256) 0 0 0 0 0 0 = .tuple #[.agg #[.bool false, .int .i64 (r : Int), .int .i64 (m : Int), .int .i64 ((0 : Nat) : Int)], .bool true] := by
      unfold ofV isW wordOf
      rw [if_pos (by simp; omega), e1, show r % 32 = r by omega, if_pos (by omega), show decide (32 ≤ r) = false from decide_eq_false (by omega)]
    rw [e2] at hO
    exact hO
  · refine ⟨r + 32, 8, m / 256 % 256, m % 256, t / 1099511627776 % 256, t / 4294967296 % 256, t / 16777216 % 256, t / 65536 % 256, t / 256 % 256, t % 256, fun u => slframe_follow r m t (by omega) (by omega) (by omega) u, fun u => ?_⟩
    have hO := slof_any false (r + 32) (by omega) false 8 (m / 256 % 256) (m % 256) (t / 1099511627776 % 256) (t / 4294967296 % 256) (t / 16777216 % 256) (t / 65536 % 256) (t / 256 % 256) (t % 256) (Nat.mod_lt _ (by decide)) (Nat.mod_lt _ (by decide)) (Nat.mod_lt _ (by decide)) (Nat.mod_lt _ (by decide)) (Nat.mod_lt _ (by decide)) (Nat.mod_lt _ (by decide)) (Nat.mod_lt _ (by decide)) (Nat.mod_lt _ (by decide)) u
    have e2 : ofV false (r + 32) false 8 (m / 256 % 256) (m % 256) (t / 1099511627776 % 256) (t / 4294967296 % 256) (t / 16777216 % 256) (t / 65536 % 256) (t / 256 % 256) (t % 256) = .tuple #[.agg #[.bool true, .int .i64 (r : Int), .int .i64 (m : Int), .int .i64 (t : Int)], .bool true] := by
      unfold ofV isW wordOf
      rw [if_pos (by simp; omega), e1, show (r + 32) % 32 = r by omega, if_neg (by omega), show decide (32 ≤ r + 32) = true from decide_eq_true (by omega), be6_back t (by omega)]
    rw [e2] at hO
    exact hO
end Go.Proofs.Ytpamkmpaldepnaa
