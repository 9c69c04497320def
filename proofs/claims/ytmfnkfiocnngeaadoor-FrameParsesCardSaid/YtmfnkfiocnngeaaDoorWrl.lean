/- What must be of package wire whatever is asked. No conditions. -/
import Derived.Test.YtmfnkfiocnngeaaDoorWrd
namespace Go.Proofs.YtmfnkfiocnngeaaDoor
open Go.RowKit Go.Shelf
/-- A frame that is on the wire is read, whatever the slot has, and whatever stands behind. -/
theorem dcV_back {e : Bool} {n : Nat} {r : Bool} {m : Nat} {data : List Nat} (h : rightF e n r (m : Int) data = 0) (hd : data.length = 8) (hb : ∀ x ∈ data, x < 256) (x : Nat) (q : List Nat) : dcV (stuffB (bodyB e n r m data) ++ (1 :: x :: 1 :: 1 :: 1 :: 1 :: 1 :: 1 :: 1 :: 1 :: q)) = .tuple #[frameV e n r (m : Int) data, .int .i64 ((encB e n r m data).length : Nat), .int .i64 0] := by
  obtain ⟨hri, hm, _⟩ := rightF_data h
  have hp := parse_body h hd hb []
  rw [List.append_nil] at hp
  rw [dcV, dec_back hri hm]
  show Value.tuple #[frOf (if (0 : Nat) = 0 then parseB (bodyB e n r m data) else .error 0), .int .i64 ((encB e n r m data).length : Nat), .int .i64 ((0 : Nat) : Int)] = _
  rw [if_pos rfl, hp]
  rfl
theorem stuff_le (l : List Nat) (hb : ∀ x ∈ l, x ≤ 1) : ∀ y ∈ stuffB l, y ≤ 1 := by
  obtain ⟨k, hk⟩ : ∃ k, l.length = k := ⟨_, rfl⟩
  induction k generalizing l with
  | zero =>
    obtain rfl := List.length_eq_zero_iff.1 hk
    intro y hy
    cases hy
  | succ k ih =>
    rcases List.eq_nil_or_concat l with rfl | ⟨l', b, rfl⟩
    · cases hk
    · rw [List.concat_eq_append] at hk hb ⊢
      have hb1 : b ≤ 1 := hb b (by simp)
      have h' := ih l' (fun x hx => hb x (by simp [hx])) (by simpa using hk)
      intro y hy
      unfold stuffB at hy h'
      rw [sFold_snoc] at hy
      unfold sStep at hy
      split at hy
      · rcases List.mem_append.1 hy with hy | hy
        · rcases List.mem_append.1 hy with hy | hy
          · exact h' y hy
          · obtain rfl : y = b := by simpa using hy
            exact hb1
        · obtain rfl : y = 1 - b := by simpa using hy
          omega
      · rcases List.mem_append.1 hy with hy | hy
        · exact h' y hy
        · obtain rfl : y = b := by simpa using hy
          exact hb1
theorem enc_bits (e : Bool) (n : Nat) (r : Bool) (m : Nat) (data : List Nat) : ∀ y ∈ encB e n r m data, y ≤ 1 := by
  intro y hy
  unfold encB at hy
  rcases List.mem_append.mp hy with h | h
  · exact stuff_le _ (bodyB_le e n r m data) y h
  · rw [List.eq_of_mem_replicate h]; exact Nat.le_refl _
theorem enc_long {e : Bool} {n : Nat} {r : Bool} {m : Nat} {data : List Nat} (h : rightF e n r (m : Int) data = 0) : 44 ≤ (encB e n r m data).length ∧ (encB e n r m data).length ≤ 160 ∧ ((encB e n r m data).length : Int) ≤ mostF e (m : Int) := by
  obtain ⟨hri, hm, _⟩ := rightF_data h
  have hbl := bodyB_length (r := r) (len := m) (data := data) hri
  obtain ⟨s1, s2⟩ := stuff_most (bodyB e n r m data)
  rw [hbl] at s1 s2
  have hs1 : 34 ≤ sizeN e r m := by unfold sizeN; split <;> omega
  have hs2 : sizeN e r m ≤ 118 := by unfold sizeN; split <;> split <;> omega
  rw [encB_length]
  refine ⟨by omega, by omega, ?_⟩
  unfold mostF
  rw [if_neg (by omega)]
  have hs3 : sizeN e r m ≤ (if e then 54 else 34) + 8 * m := by unfold sizeN; split <;> split <;> omega
  obtain ⟨l, hl⟩ : ∃ l : Nat, l = (if e then 54 else 34) + 8 * m := ⟨_, rfl⟩
  have hl2 : l ≤ 118 := by rw [hl]; split <;> omega
  rw [show ((if e then 54 else 34) + 8 * (m : Int) : Int) = (l : Int) by rw [hl]; split <;> omega, mostW_nat l (by omega)]
  rw [← hl] at hs3
  unfold mostN
  omega
theorem frame_same (d : Nat) (x0 x1 x2 x3 x4 x5 x6 x7 : Nat) (w : World) : Sem.run Tryd.prog (Op.equalIn (d + 2) 25 (.agg #[.int .u8 (x0 : Int), .int .u8 (x1 : Int), .int .u8 (x2 : Int), .int .u8 (x3 : Int), .int .u8 (x4 : Int), .int .u8 (x5 : Int), .int .u8 (x6 : Int), .int .u8 (x7 : Int)]) (.agg #[.int .u8 (x0 : Int), .int .u8 (x1 : Int), .int .u8 (x2 : Int), .int .u8 (x3 : Int), .int .u8 (x4 : Int), .int .u8 (x5 : Int), .int .u8 (x6 : Int), .int .u8 (x7 : Int)])) w = .ok true w := by
  rw [equal8]
  simp
theorem f0_right : rightF false 291 false ((1 : Nat) : Int) [10, 0, 0, 0, 0, 0, 0, 0] = 0 := by decide
theorem most8 : mostF false 8 = 132 := by decide
theorem most9 : mostF true 9 = 0 := by decide
theorem dc_nil : dcV (bitsOf []) = .tuple #[.agg #[.bool false, .int .u32 0, .bool false, .int .i64 0, .int .u8 0, .int .u8 0, .int .u8 0, .int .u8 0, .int .u8 0, .int .u8 0, .int .u8 0, .int .u8 0], .int .i64 0, .int .i64 2] := by rfl
end Go.Proofs.YtmfnkfiocnngeaaDoor
