/- The document's own answers of layer 6 in plain words (at, length, digit, hex): what they return. Conditions: strings are strings. -/
import Derived.Test.YtbdockeopbfliaaBat
import Derived.Test.YtbdockeopbfliaaBas
namespace Go.Proofs.Ytbdockeopbfliaa
open Go.RowKit Go.Shelf
theorem bitsOf_self {bs : List Nat} (h : ∀ x ∈ bs, x ≤ 1) : bitsOf bs = bs := by
  have e : ∀ x ∈ bs, bitN x = x := by
    intro x hx
    have := h x hx
    unfold bitN
    split <;> omega
  calc bitsOf bs = bs.map bitN := rfl
    _ = bs.map id := List.map_congr_left e
    _ = bs := List.map_id bs
theorem hex_get (k : Nat) (hk : k < 16) (h : k < (ByteArray.mk #[48, 49, 50, 51, 52, 53, 54, 55, 56, 57, 97, 98, 99, 100, 101, 102]).size) : ((ByteArray.mk #[48, 49, 50, 51, 52, 53, 54, 55, 56, 57, 97, 98, 99, 100, 101, 102])[k]'h).toNat = hexD k := by
  have h : k = 0 ∨ k = 1 ∨ k = 2 ∨ k = 3 ∨ k = 4 ∨ k = 5 ∨ k = 6 ∨ k = 7 ∨ k = 8 ∨ k = 9 ∨ k = 10 ∨ k = 11 ∨ k = 12 ∨ k = 13 ∨ k = 14 ∨ k = 15 := by omega
  rcases h with rfl | rfl | rfl | rfl | rfl | rfl | rfl | rfl | rfl | rfl | rfl | rfl | rfl | rfl | rfl | rfl <;> rfl
theorem hex_idx (k : Nat) (hk : k < 16) (w : World) : Sem.run Try.prog (Instr.index 9 (.string ⟨#[48, 49, 50, 51, 52, 53, 54, 55, 56, 57, 97, 98, 99, 100, 101, 102]⟩) (.int .i64 (k : Int))) w = .ok (.int .u8 (hexD k : Int)) w := by
  have h := run_index_string (P := Try.prog) w 9 ⟨#[48, 49, 50, 51, 52, 53, 54, 55, 56, 57, 97, 98, 99, 100, 101, 102]⟩ .i64 (k : Int) Try.underlying9
  have hz : (ByteArray.mk #[48, 49, 50, 51, 52, 53, 54, 55, 56, 57, 97, 98, 99, 100, 101, 102]).size = 16 := rfl
  rw [dif_pos ⟨by omega, by rw [hz]; omega⟩] at h
  rw [h]
  have e : ((ByteArray.mk #[48, 49, 50, 51, 52, 53, 54, 55, 56, 57, 97, 98, 99, 100, 101, 102])[((k : Int)).toNat]'(by rw [hz]; omega)).toNat = hexD k := hex_get k hk _
  rw [e]
theorem hex_run8 (d : Nat) (hd : d < 16) (w : World) : Sem.run Try.prog (Instr.slice 9 (.string ⟨#[48, 49, 50, 51, 52, 53, 54, 55, 56, 57, 97, 98, 99, 100, 101, 102]⟩) (some (.int .u8 (d : Int))) (some (.int .u8 ((d : Int) + 1))) none) w = .ok (.string ⟨#[UInt8.ofNat (hexD d)]⟩) w := by
  have h := run_slice_string (P := Try.prog) w 9 ⟨#[48, 49, 50, 51, 52, 53, 54, 55, 56, 57, 97, 98, 99, 100, 101, 102]⟩ .u8 .u8 (d : Int) ((d : Int) + 1) Try.underlying9 (by omega) (by omega) (by show _ ≤ ((16 : Nat) : Int); omega)
  rw [show ((d : Int) + 1).toNat = d + 1 by omega, show ((d : Int)).toNat = d by omega, hex_at d hd] at h
  exact h
end Go.Proofs.Ytbdockeopbfliaa
