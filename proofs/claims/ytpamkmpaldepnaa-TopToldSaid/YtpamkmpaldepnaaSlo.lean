/- Package slave: of what word a frame is, and the layer's live. Conditions: the frame's bytes are bytes. -/
import Derived.Test.YtpamkmpaldepnaaSle
import Derived.Test.YtpamkmpaldepnaaSlm
namespace Go.Proofs.Ytpamkmpaldepnaa
open Go.RowKit
def isW (e : Bool) (n : Nat) (q : Bool) (l : Int) (x0 x1 x2 x3 x4 x5 x6 x7 : Nat) : Bool := decide (e = false ∧ q = false ∧ n < 64 ∧ (x0 < 256 ∧ x1 < 256) ∧ ((n < 32 ∧ l = 2 ∧ x2 = 0 ∧ x3 = 0 ∧ x4 = 0 ∧ x5 = 0 ∧ x6 = 0 ∧ x7 = 0) ∨ (32 ≤ n ∧ l = 8)))
def wordOf (n : Nat) (x0 x1 x2 x3 x4 x5 x6 x7 : Nat) : Value := .agg #[.bool (decide (32 ≤ n)), .int .i64 ((n % 32 : Nat) : Int), .int .i64 ((x0 * 256 + x1 : Nat) : Int), .int .i64 ((if n < 32 then 0 else be6 x2 x3 x4 x5 x6 x7 : Nat) : Int)]
def ofV (e : Bool) (n : Nat) (q : Bool) (l : Int) (x0 x1 x2 x3 x4 x5 x6 x7 : Nat) : Value := if isW e n q l x0 x1 x2 x3 x4 x5 x6 x7 = true then .tuple #[wordOf n x0 x1 x2 x3 x4 x5 x6 x7, .bool true] else .tuple #[.agg #[.bool false, .int .i64 0, .int .i64 0, .int .i64 0], .bool false]
theorem bytes_be6 {x2 x3 x4 x5 x6 x7 : Nat} (hx2 : x2 < 256) (hx3 : x3 < 256) (hx4 : x4 < 256) (hx5 : x5 < 256) (hx6 : x6 < 256) (hx7 : x7 < 256) : be6 x2 x3 x4 x5 x6 x7 / 1099511627776 % 256 = x2 ∧ be6 x2 x3 x4 x5 x6 x7 / 4294967296 % 256 = x3 ∧ be6 x2 x3 x4 x5 x6 x7 / 16777216 % 256 = x4 ∧ be6 x2 x3 x4 x5 x6 x7 / 65536 % 256 = x5 ∧ be6 x2 x3 x4 x5 x6 x7 / 256 % 256 = x6 ∧ be6 x2 x3 x4 x5 x6 x7 % 256 = x7 := by
  unfold be6; omega
theorem slof_any (e : Bool) (n : Nat) (hn : n < 4294967296) (q : Bool) (l : Int) (x0 x1 x2 x3 x4 x5 x6 x7 : Nat) (hx0 : x0 < 256) (hx1 : x1 < 256) (hx2 : x2 < 256) (hx3 : x3 < 256) (hx4 : x4 < 256) (hx5 : x5 < 256) (hx6 : x6 < 256) (hx7 : x7 < 256) (w : World) : Calls Try.prog 35 #[.agg #[.bool e, .int .u32 (n : Int), .bool q, .int .i64 l, .int .u8 (x0 : Int), .int .u8 (x1 : Int), .int .u8 (x2 : Int), .int .u8 (x3 : Int), .int .u8 (x4 : Int), .int .u8 (x5 : Int), .int .u8 (x6 : Int), .int .u8 (x7 : Int)]] w fun y w' => y = .returned (ofV e n q l x0 x1 x2 x3 x4 x5 x6 x7) ∧ Below w.heap.size w w' := by
  have e1 : (x0 * 256 + x1) / 256 % 256 = x0 := by omega
  have e2 : (x0 * 256 + x1) % 256 = x1 := by omega
  by_cases h32 : n < 32
  · have h := of_walk e (n : Int) q l (x0 : Int) (x1 : Int) (x2 : Int) (x3 : Int) (x4 : Int) (x5 : Int) (x6 : Int) (x7 : Int) false (n : Int) ((x0 * 256 + x1 : Nat) : Int) 0 (n : Int) 2 (x0 : Int) (x1 : Int) 0 0 0 0 0 0 0 (decide (x0 = x0 ∧ x1 = x1 ∧ 0 = x2 ∧ 0 = x3 ∧ 0 = x4 ∧ 0 = x5 ∧ 0 = x6 ∧ 0 = x7))
      (fun u => meant_low e n q l x0 x1 x2 x3 x4 x5 x6 x7 hn h32 hx0 hx1 hx2 hx3 hx4 hx5 hx6 hx7 u)
      (fun u => by have h := slframe_turn n (x0 * 256 + x1) h32 (by omega) u; rw [e1, e2] at h; exact h)
      (fun u => equal8 9997 x0 x1 0 0 0 0 0 0 x0 x1 x2 x3 x4 x5 x6 x7 u) w
    refine h.mono ?_
    rintro y w' ⟨rfl, hb⟩
    refine ⟨?_, hb⟩
    congr 1
    unfold ofV isW wordOf
    have h5 : n % 32 = n := by omega
    have h6 : decide (32 ≤ n) = false := decide_eq_false (by omega)
    by_cases hc : e = false ∧ q = false ∧ l = 2 ∧ x2 = 0 ∧ x3 = 0 ∧ x4 = 0 ∧ x5 = 0 ∧ x6 = 0 ∧ x7 = 0
    · obtain ⟨rfl, rfl, rfl, rfl, rfl, rfl, rfl, rfl, rfl⟩ := hc
      rw [if_pos (by simp), if_pos (by simp; omega), h5, h6, if_pos h32]
      rfl
    · rw [if_neg, if_neg]
      · simp only [decide_eq_true_eq]
        rintro ⟨a1, a2, _, _, (⟨_, b1, c2, c3, c4, c5, c6, c7⟩ | ⟨c1, _⟩)⟩
        · exact hc ⟨a1, a2, b1, c2, c3, c4, c5, c6, c7⟩
        · omega
      · simp only [decide_eq_true_eq]
        rintro ⟨_, a1, _, a2, b1, _, _, c2, c3, c4, c5, c6, c7⟩
        exact hc ⟨a1, a2, b1.symm, c2.symm, c3.symm, c4.symm, c5.symm, c6.symm, c7.symm⟩
  by_cases h64 : n < 64
  · obtain ⟨b2, b3, b4, b5, b6, b7⟩ := bytes_be6 hx2 hx3 hx4 hx5 hx6 hx7
    have hM := be6_lt x2 x3 x4 x5 x6 x7 hx2 hx3 hx4 hx5 hx6 hx7
    have h := of_walk e (n : Int) q l (x0 : Int) (x1 : Int) (x2 : Int) (x3 : Int) (x4 : Int) (x5 : Int) (x6 : Int) (x7 : Int) true ((n - 32 : Nat) : Int) ((x0 * 256 + x1 : Nat) : Int) ((be6 x2 x3 x4 x5 x6 x7 : Nat) : Int) (n : Int) 8 (x0 : Int) (x1 : Int) (x2 : Int) (x3 : Int) (x4 : Int) (x5 : Int) (x6 : Int) (x7 : Int) 0 (decide (x0 = x0 ∧ x1 = x1 ∧ x2 = x2 ∧ x3 = x3 ∧ x4 = x4 ∧ x5 = x5 ∧ x6 = x6 ∧ x7 = x7))
      (fun u => meant_high e n q l x0 x1 x2 x3 x4 x5 x6 x7 hn (by omega) hx0 hx1 hx2 hx3 hx4 hx5 hx6 hx7 u)
      (fun u => by have h := slframe_follow (n - 32) (x0 * 256 + x1) (be6 x2 x3 x4 x5 x6 x7) (by omega) (by omega) hM u; rw [e1, e2, b2, b3, b4, b5, b6, b7, show n - 32 + 32 = n by omega] at h; exact h)
      (fun u => equal8 9997 x0 x1 x2 x3 x4 x5 x6 x7 x0 x1 x2 x3 x4 x5 x6 x7 u) w
    refine h.mono ?_
    rintro y w' ⟨rfl, hb⟩
    refine ⟨?_, hb⟩
    congr 1
    unfold ofV isW wordOf
    have h5 : n % 32 = n - 32 := by omega
    have h6 : decide (32 ≤ n) = true := decide_eq_true (by omega)
    by_cases hc : e = false ∧ q = false ∧ l = 8
    · obtain ⟨rfl, rfl, rfl⟩ := hc
      rw [if_pos (by simp), if_pos (by simp; omega), h5, h6, if_neg h32]
    · rw [if_neg, if_neg]
      · simp only [decide_eq_true_eq]
        intro hh
        apply hc
        refine ⟨hh.1, hh.2.1, ?_⟩
        have h9 := hh.2.2.2.2
        omega
      · intro hh
        apply hc
        exact ⟨hh.2.1, hh.2.2.2.1, hh.2.2.2.2.1.symm⟩
  · have h := of_walk e (n : Int) q l (x0 : Int) (x1 : Int) (x2 : Int) (x3 : Int) (x4 : Int) (x5 : Int) (x6 : Int) (x7 : Int) true ((n - 32 : Nat) : Int) ((x0 * 256 + x1 : Nat) : Int) ((be6 x2 x3 x4 x5 x6 x7 : Nat) : Int) 0 0 0 0 0 0 0 0 0 0 1 (decide (0 = x0 ∧ 0 = x1 ∧ 0 = x2 ∧ 0 = x3 ∧ 0 = x4 ∧ 0 = x5 ∧ 0 = x6 ∧ 0 = x7))
      (fun u => meant_high e n q l x0 x1 x2 x3 x4 x5 x6 x7 hn (by omega) hx0 hx1 hx2 hx3 hx4 hx5 hx6 hx7 u)
      (fun u => slframe_no true _ _ _ (rightW_no (by omega)) u)
      (fun u => equal8 9997 0 0 0 0 0 0 0 0 x0 x1 x2 x3 x4 x5 x6 x7 u) w
    refine h.mono ?_
    rintro y w' ⟨rfl, hb⟩
    refine ⟨?_, hb⟩
    congr 1
    unfold ofV isW
    rw [if_neg (fun h => absurd h.1 (by decide)), if_neg]
    simp only [decide_eq_true_eq]
    omega
theorem lv1 (u : World) (B : Nat) (h : Blk u B 106 [.bool false, .bool false, .int .i64 0, .int .i64 0, .int .i64 0, .int .i64 0]) : Calls Try.prog 36 #[.pointer (some ⟨B, 0, none⟩), .agg #[.bool true, .int .i64 3, .int .i64 258, .int .i64 9], .int .i64 5] u fun y w' => y = .returned (.tuple #[.int .i64 0, .int .i64 0, .bool false]) ∧ Blk w' B 106 [.bool false, .bool false, .int .i64 0, .int .i64 0, .int .i64 0, .int .i64 0] ∧ Kp B (.slice none 0 0) u w' := by
  have h2 := slhear_any false 0 0 0 true 3 258 9 5 B u h
  rw [show tellB false 0 0 true 3 258 9 = false by decide, show noteB true 3 258 9 = false by decide] at h2
  exact h2
theorem lv2 (u : World) (B : Nat) (h : Blk u B 106 [.bool false, .bool false, .int .i64 0, .int .i64 0, .int .i64 0, .int .i64 0]) : Calls Try.prog 36 #[.pointer (some ⟨B, 0, none⟩), .agg #[.bool false, .int .i64 3, .int .i64 258, .int .i64 0], .int .i64 7] u fun y w' => y = .returned (.tuple #[.int .i64 0, .int .i64 0, .bool false]) ∧ Blk w' B 106 [.bool true, .bool false, .int .i64 3, .int .i64 258, .int .i64 0, .int .i64 7] ∧ Kp B (.slice none 0 0) u w' := by
  have h2 := slhear_any false 0 0 0 false 3 258 0 7 B u h
  rw [show tellB false 0 0 false 3 258 0 = false by decide, show noteB false 3 258 0 = true by decide] at h2
  exact h2
theorem lv3 (u : World) (B : Nat) (h : Blk u B 106 [.bool true, .bool false, .int .i64 3, .int .i64 258, .int .i64 0, .int .i64 7]) : Calls Try.prog 36 #[.pointer (some ⟨B, 0, none⟩), .agg #[.bool true, .int .i64 3, .int .i64 258, .int .i64 9], .int .i64 11] u fun y w' => y = .returned (.tuple #[.int .i64 7, .int .i64 9, .bool true]) ∧ Blk w' B 106 [.bool false, .bool false, .int .i64 0, .int .i64 0, .int .i64 0, .int .i64 0] ∧ Kp B (.slice none 0 0) u w' := by
  have h2 := slhear_any true 3 258 7 true 3 258 9 11 B u h
  rw [show tellB true 3 258 true 3 258 9 = true by decide, show noteB true 3 258 9 = false by decide] at h2
  exact h2
theorem lv4 (u : World) (B : Nat) (h : Blk u B 106 [.bool false, .bool false, .int .i64 0, .int .i64 0, .int .i64 0, .int .i64 0]) : Calls Try.prog 36 #[.pointer (some ⟨B, 0, none⟩), .agg #[.bool true, .int .i64 3, .int .i64 258, .int .i64 9], .int .i64 12] u fun y w' => y = .returned (.tuple #[.int .i64 0, .int .i64 0, .bool false]) ∧ Blk w' B 106 [.bool false, .bool false, .int .i64 0, .int .i64 0, .int .i64 0, .int .i64 0] ∧ Kp B (.slice none 0 0) u w' := by
  have h2 := slhear_any false 0 0 0 true 3 258 9 12 B u h
  rw [show tellB false 0 0 true 3 258 9 = false by decide, show noteB true 3 258 9 = false by decide] at h2
  exact h2
theorem frame_live (u : World) : Calls Try.prog 34 #[.agg #[.bool true, .int .i64 3, .int .i64 258, .int .i64 9]] u fun y w' => y = .returned (.tuple #[.agg #[.bool false, .int .u32 35, .bool false, .int .i64 8, .int .u8 1, .int .u8 2, .int .u8 0, .int .u8 0, .int .u8 0, .int .u8 0, .int .u8 0, .int .u8 9], .int .i64 0]) ∧ Below u.heap.size u w' := slframe_follow 3 258 9 (by decide) (by decide) (by decide) u
theorem frame_bad (u : World) : Calls Try.prog 34 #[.agg #[.bool false, .int .i64 (-1), .int .i64 0, .int .i64 0]] u fun y w' => y = .returned (.tuple #[.agg #[.bool false, .int .u32 0, .bool false, .int .i64 0, .int .u8 0, .int .u8 0, .int .u8 0, .int .u8 0, .int .u8 0, .int .u8 0, .int .u8 0, .int .u8 0], .int .i64 1]) ∧ Below u.heap.size u w' := slframe_no false (-1) 0 0 (by decide) u
theorem of_live (u : World) : Calls Try.prog 35 #[.agg #[.bool false, .int .u32 35, .bool false, .int .i64 8, .int .u8 1, .int .u8 2, .int .u8 0, .int .u8 0, .int .u8 0, .int .u8 0, .int .u8 0, .int .u8 9]] u fun y w' => y = .returned (.tuple #[.agg #[.bool true, .int .i64 3, .int .i64 258, .int .i64 9], .bool true]) ∧ Below u.heap.size u w' := by
  have h := slof_any false 35 (by decide) false 8 1 2 0 0 0 0 0 9 (by decide) (by decide) (by decide) (by decide) (by decide) (by decide) (by decide) (by decide) u
  rw [show ofV false 35 false 8 1 2 0 0 0 0 0 9 = .tuple #[.agg #[.bool true, .int .i64 3, .int .i64 258, .int .i64 9], .bool true] by simp [ofV, isW, wordOf, be6]] at h
  exact h
theorem right_live (u : World) : Calls Try.prog 61 #[.agg #[.bool true, .int .i64 3, .int .i64 258, .int .i64 9]] u fun y w' => y = .returned (.bool true) ∧ Below u.heap.size u w' := by
  have h := slright_any true 3 258 9 u
  rw [show rightW true 3 258 9 = true by decide] at h
  exact h
end Go.Proofs.Ytpamkmpaldepnaa
