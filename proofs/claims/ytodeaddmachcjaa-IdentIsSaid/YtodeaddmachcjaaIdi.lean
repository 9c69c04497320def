/- The code of package ident (the closure of taking): what it returns. Conditions: the place that it has counted to lies within the text. -/
import Derived.Test.YtodeaddmachcjaaIde
import Derived.Test.YtodeaddmachcjaaIdc
import Derived.Laws.RangeAny
namespace Go.Proofs.Ytodeaddmachcjaa
open Go.RowKit Go.Shelf
def digitsA : ByteArray := ⟨#[48, 49, 50, 51, 52, 53, 54, 55, 56, 57, 97, 98, 99, 100, 101, 102]⟩
theorem digit_next (w : World) (B : Nat) (hB : B = w.heap.size) (ty : TypeId) (p : Nat) (hp : p < 16) : (Instr.next (.pointer (some ⟨B, 0, none⟩)) true ty).run Try.prog (w.iter digitsA p) = .ok (.tuple #[.bool true, .int .i64 (p : Int), .int .i32 (hexD p : Nat)]) (w.iter digitsA (p + 1)) := by
  have h : p = 0 ∨ p = 1 ∨ p = 2 ∨ p = 3 ∨ p = 4 ∨ p = 5 ∨ p = 6 ∨ p = 7 ∨ p = 8 ∨ p = 9 ∨ p = 10 ∨ p = 11 ∨ p = 12 ∨ p = 13 ∨ p = 14 ∨ p = 15 := by omega
  subst hB
  rcases h with rfl | rfl | rfl | rfl | rfl | rfl | rfl | rfl | rfl | rfl | rfl | rfl | rfl | rfl | rfl | rfl <;> exact run_next_ascii w digitsA _ ty (by decide) (by decide)
theorem digit_end (w : World) (B : Nat) (hB : B = w.heap.size) (ty : TypeId) : (Instr.next (.pointer (some ⟨B, 0, none⟩)) true ty).run Try.prog (w.iter digitsA 16) = .ok (.tuple #[.bool false]) (w.iter digitsA 16) := by subst hB; exact run_next_end w digitsA 16 ty (by decide)
theorem unhex_end {c : Nat} (h : ∀ q, q < 16 → hexD q ≠ c) : unhex c = 16 := by
  by_cases h16 : unhex c = 16
  · exact h16
  · exact absurd (hexD_unhex c h16).1 (h _ (hexD_unhex c h16).2)
theorem taking1_any (s : ByteArray) (k : Nat) (hk : k < s.size) (hk2 : k < 1000) (c : Nat) (hc : (s[k]'hk).toNat = c) (Bs Ba : Nat) (w : World) (hBa : Ba < w.heap.size) (h1 : w.cell? ⟨Bs, 0, none⟩ = some (.string s)) (h2 : w.cell? ⟨Ba, 0, none⟩ = some (.int .i64 (k : Int))) (h3 : w.frozen? ⟨Ba, 0, none⟩ = false) :
    Calls Try.prog 34 #[.pointer (some ⟨Bs, 0, none⟩), .pointer (some ⟨Ba, 0, none⟩)] w fun x w' => x = .returned (.tuple #[.int .u32 (if unhex c = 16 then 0 else unhex c : Nat), .bool (decide (unhex c ≠ 16))]) ∧ w'.cell? ⟨Ba, 0, none⟩ = some (.int .i64 ((k + 1 : Nat) : Int)) ∧ w'.frozen? ⟨Ba, 0, none⟩ = false ∧ Below Ba w w' := by
  have i1 : (0 : Int) ≤ (k : Int) := by omega
  have i2 : (k : Int) < (s.size : Int) := by omega
  have hc256 : c < 256 := by rw [← hc]; exact UInt8.toNat_lt _
  obtain ⟨v, hv⟩ : ∃ v : Nat, v = if unhex c = 16 then 0 else unhex c := ⟨_, rfl⟩
  obtain ⟨ok, hok⟩ : ∃ ok : Bool, ok = decide (unhex c ≠ 16) := ⟨_, rfl⟩
  rw [← hv, ← hok]
  have HV := Lib.hid hv; have HOK := Lib.hid hok
  clear hv hok
  have HH2 := Lib.hid h2; have HH3 := Lib.hid h3
  go_enter Try.func34, Try.ntmps34
  go_wp2_with (fail)
  obtain ⟨W, hW⟩ : ∃ W, W = w.setCell ⟨Ba, 0, none⟩ (.int .i64 ((k : Int) + 1)) := ⟨_, rfl⟩
  have hWs : w.heap.size = W.heap.size := by rw [hW, setCell_size2]
  have hB : Below Ba w W := by rw [hW]; exact (Below.refl _ w).setCell (p := ⟨Ba, 0, none⟩) (Nat.le_refl _) _
  have hA1 : W.cell? ⟨Ba, 0, none⟩ = some (.int .i64 ((k + 1 : Nat) : Int)) := by rw [hW]; exact World.cell?_setCell_same' _ _ _ (by rw [h2]; rfl)
  have hA2 : W.frozen? ⟨Ba, 0, none⟩ = false := by rw [hW, World.frozen?_setCell]; exact h3
  have HWS := Lib.hid hWs
  have fin : ∀ p, (W.iter digitsA p).cell? ⟨Ba, 0, none⟩ = some (.int .i64 ((k + 1 : Nat) : Int)) ∧ (W.iter digitsA p).frozen? ⟨Ba, 0, none⟩ = false ∧ Below Ba w (W.iter digitsA p) := by
    intro p
    have hx : Below W.heap.size W (W.iter digitsA p) := (Below.refl _ W).alloc (Nat.le_refl _) _
    have hlt' : Ba < W.heap.size := by rw [← hWs]; exact hBa
    refine ⟨((bcell2 hx).1 Ba 0 hlt').trans hA1, ((bcell2 hx).2 Ba 0 hlt').trans hA2, hB.trans (hx.mono (by omega))⟩
  have HF := Lib.hid fin
  rw [← hW]
  rw [show (W.iter ⟨#[48, 49, 50, 51, 52, 53, 54, 55, 56, 57, 97, 98, 99, 100, 101, 102]⟩ 0) = W.iter digitsA 0 from rfl]
  clear hW h1 h2 h3 hB hA1 hA2 fin hc hWs
  go_loopw [14, 5, 6] (fun _ _ _ wr => ∃ p : Nat, p ≤ 16 ∧ wr = W.iter digitsA p ∧ ∀ q, q < p → hexD q ≠ c) (fun _ _ _ wr => 16 - wr.iterPos W.heap.size)
  case atStart => exact ⟨0, by omega, rfl, fun q hq => by omega⟩
  case round =>
    obtain ⟨p, hp, rfl, hq⟩ := hrel
    by_cases h16 : p < 16
    · have hnx : ∀ ty, (Instr.next (.pointer (some ⟨w.heap.size, 0, none⟩)) true ty).run Try.prog (W.iter digitsA p) = _ := fun ty => digit_next W w.heap.size HWS.out ty p h16
      obtain ⟨d, hd⟩ : ∃ d, d = hexD p := ⟨_, rfl⟩
      rw [← hd] at hnx
      by_cases he : d = c
      · have hpu : unhex c = p := by rw [← he, hd]; exact unhex_hexD p h16
        have hne : ((d : Int) == (c : Int)) = true := by rw [he]; simp
        have hwp : IntKind.u32.wrap (p : Int) = (p : Int) := by rw [IntKind.wrap_u32]; omega
        have HP := Lib.hid hpu
        clear hpu hq he hd
        go_wp2_with (fail)
        exact bodyPost_ret (v := .tuple #[.int .u32 (p : Int), .bool true]) (by simp [results, Try.results34, go_sem]) rfl ⟨by rw [HV.out, HOK.out, HP.out, if_neg (by omega), decide_eq_true (by omega)], HF.out (p + 1)⟩
      · have hne : ((d : Int) == (c : Int)) = false := by rw [beq_eq_false_iff_ne]; omega
        have HN := Lib.hid (show ∀ q, q < p + 1 → hexD q ≠ c from fun q hqq => by
          by_cases e : q = p
          · rw [e, ← hd]; exact he
          · exact hq q (by omega))
        clear hq he hd
        go_wp2_with (fail)
        go_roundw
        case rel => exact ⟨p + 1, by omega, rfl, HN.out⟩
        case measure => simp; omega
    · obtain rfl : p = 16 := by omega
      have hnx : ∀ ty, (Instr.next (.pointer (some ⟨w.heap.size, 0, none⟩)) true ty).run Try.prog (W.iter digitsA 16) = _ := fun ty => digit_end W w.heap.size HWS.out ty
      have hu := unhex_end hq
      clear hq
      go_wp2_with (fail)
      exact bodyPost_ret (v := .tuple #[.int .u32 0, .bool false]) (by simp [results, Try.results34, go_sem]) rfl ⟨by rw [HV.out, HOK.out, hu]; rfl, HF.out 16⟩
end Go.Proofs.Ytodeaddmachcjaa
