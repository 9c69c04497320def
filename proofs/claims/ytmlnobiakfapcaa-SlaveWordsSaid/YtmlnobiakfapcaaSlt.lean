/- The document's own word of a frame, whatever the frame. Conditions: the frame's bytes are bytes. -/
import Derived.Test.YtmlnobiakfapcaaSls
import Derived.Test.YtmlnobiakfapcaaBat
namespace Go.Proofs.Ytmlnobiakfapcaa
open Go.RowKit
theorem isW_parts {e : Bool} {n : Nat} {q : Bool} {l : Int} {x0 x1 x2 x3 x4 x5 x6 x7 : Nat} (h : isW e n q l x0 x1 x2 x3 x4 x5 x6 x7 = true) : e = false ∧ q = false ∧ n < 64 ∧ (x0 < 256 ∧ x1 < 256) ∧ ((n < 32 ∧ l = 2 ∧ x2 = 0 ∧ x3 = 0 ∧ x4 = 0 ∧ x5 = 0 ∧ x6 = 0 ∧ x7 = 0) ∨ (32 ≤ n ∧ l = 8)) := of_decide_eq_true h
theorem isW_right {e : Bool} {n : Nat} {q : Bool} {l : Int} {x0 x1 x2 x3 x4 x5 x6 x7 : Nat} (h : isW e n q l x0 x1 x2 x3 x4 x5 x6 x7 = true) : rightF e n q l [x0, x1, x2, x3, x4, x5, x6, x7] = 0 := by
  obtain ⟨rfl, rfl, h64, _, h | h⟩ := isW_parts h
  · obtain ⟨_, rfl, rfl, rfl, rfl, rfl, rfl, rfl⟩ := h
    refine rightF_ok (len := 2) (by unfold rightI; simp; omega) (by omega) (fun i hi hk => ?_)
    have : i = 2 ∨ i = 3 ∨ i = 4 ∨ i = 5 ∨ i = 6 ∨ i = 7 := by simp at hk; omega
    rcases this with rfl | rfl | rfl | rfl | rfl | rfl <;> rfl
  · obtain ⟨_, rfl⟩ := h
    exact rightF_ok (len := 8) (by unfold rightI; simp; omega) (by omega) (fun i hi hk => by simp at hk; omega)
theorem rslof_any (e : Bool) (n : Nat) (hn : n < 4294967296) (q : Bool) (l : Int) (x0 x1 x2 x3 x4 x5 x6 x7 : Nat) (hx0 : x0 < 256) (hx1 : x1 < 256) (hx2 : x2 < 256) (hx3 : x3 < 256) (hx4 : x4 < 256) (hx5 : x5 < 256) (hx6 : x6 < 256) (hx7 : x7 < 256) (w : World) : Calls Try.prog 40 #[.agg #[.bool e, .int .u32 (n : Int), .bool q, .int .i64 l, .int .u8 (x0 : Int), .int .u8 (x1 : Int), .int .u8 (x2 : Int), .int .u8 (x3 : Int), .int .u8 (x4 : Int), .int .u8 (x5 : Int), .int .u8 (x6 : Int), .int .u8 (x7 : Int)]] w fun y w' => y = .returned (ofV e n q l x0 x1 x2 x3 x4 x5 x6 x7) ∧ Below w.heap.size w w' := by
  have no : ∀ (hh : ¬ isW e n q l x0 x1 x2 x3 x4 x5 x6 x7 = true), (Value.tuple #[.agg #[.bool false, .int .i64 0, .int .i64 0, .int .i64 0], .bool false]) = ofV e n q l x0 x1 x2 x3 x4 x5 x6 x7 := fun hh => by unfold ofV; rw [if_neg hh]
  cases e
  case true =>
    rw [← no (fun h => by have := (isW_parts h).1; cases this)]
    exact rslof_e n q l x0 x1 x2 x3 x4 x5 x6 x7 w
  cases q
  case true =>
    rw [← no (fun h => by have := (isW_parts h).2.1; cases this)]
    exact rslof_q n l x0 x1 x2 x3 x4 x5 x6 x7 w
  by_cases hr : rightF false n false l [x0, x1, x2, x3, x4, x5, x6, x7] = 0
  case neg =>
    rw [← no (fun h => hr (isW_right h))]
    exact rslof_bad n l x0 x1 x2 x3 x4 x5 x6 x7 hr w
  by_cases h64 : 64 ≤ n
  · rw [← no (fun h => by have := (isW_parts h).2.2.1; omega)]
    exact rslof_far n l x0 x1 x2 x3 x4 x5 x6 x7 h64 hr w
  by_cases h32 : n < 32
  · by_cases hl2 : l = 2
    · subst hl2
      have hd := (rightF_data (len := 2) hr).2.2
      have d2 := hd 2 (by omega) (.inl (by omega)); have d3 := hd 3 (by omega) (.inl (by omega)); have d4 := hd 4 (by omega) (.inl (by omega))
      have d5 := hd 5 (by omega) (.inl (by omega)); have d6 := hd 6 (by omega) (.inl (by omega)); have d7 := hd 7 (by omega) (.inl (by omega))
      simp at d2 d3 d4 d5 d6 d7
      subst d2 d3 d4 d5 d6 d7
      have hw : isW false n false 2 x0 x1 0 0 0 0 0 0 = true := decide_eq_true ⟨rfl, rfl, by omega, ⟨hx0, hx1⟩, .inl ⟨h32, rfl, rfl, rfl, rfl, rfl, rfl, rfl⟩⟩
      have hv : ofV false n false 2 x0 x1 0 0 0 0 0 0 = .tuple #[.agg #[.bool false, .int .i64 ((n % 32 : Nat) : Int), .int .i64 ((x0 * 256 + x1 : Nat) : Int), .int .i64 0], .bool true] := by
        unfold ofV wordOf
        rw [if_pos hw, show decide (32 ≤ n) = false from decide_eq_false (by omega), if_pos h32]
        rfl
      rw [hv]
      exact rslof_low n hn x0 x1 0 0 0 0 0 0 hx0 hx1 h32 hr w
    · rw [← no (fun h => by
        rcases (isW_parts h).2.2.2.2 with h | h
        · exact hl2 h.2.1
        · omega)]
      by_cases hl8 : l = 8
      · subst hl8
        exact rslof_low8 n hn x0 x1 x2 x3 x4 x5 x6 x7 hx0 hx1 h32 hr w
      · exact rslof_lowx n hn l x0 x1 x2 x3 x4 x5 x6 x7 hx0 hx1 h32 ⟨hl2, hl8⟩ hr w
  · by_cases hl8 : l = 8
    · subst hl8
      have hw : isW false n false 8 x0 x1 x2 x3 x4 x5 x6 x7 = true := decide_eq_true ⟨rfl, rfl, by omega, ⟨hx0, hx1⟩, .inr ⟨by omega, rfl⟩⟩
      have hv : ofV false n false 8 x0 x1 x2 x3 x4 x5 x6 x7 = .tuple #[.agg #[.bool true, .int .i64 ((n % 32 : Nat) : Int), .int .i64 ((x0 * 256 + x1 : Nat) : Int), .int .i64 ((be6 x2 x3 x4 x5 x6 x7 : Nat) : Int)], .bool true] := by
        unfold ofV wordOf
        rw [if_pos hw, show decide (32 ≤ n) = true from decide_eq_true (by omega), if_neg h32]
      rw [hv]
      exact rslof_high n hn x0 x1 x2 x3 x4 x5 x6 x7 hx0 hx1 hx2 hx3 hx4 hx5 hx6 hx7 ⟨by omega, by omega⟩ hr w
    · rw [← no (fun h => by
        rcases (isW_parts h).2.2.2.2 with h | h
        · omega
        · exact hl8 h.2)]
      exact rslof_highx n hn l x0 x1 x2 x3 x4 x5 x6 x7 hx0 hx1 hx2 hx3 hx4 hx5 hx6 hx7 ⟨by omega, by omega⟩ hl8 hr w
end Go.Proofs.Ytmlnobiakfapcaa
