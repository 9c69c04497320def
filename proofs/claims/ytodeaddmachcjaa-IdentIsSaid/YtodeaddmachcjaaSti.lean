/- What Flip and Unpack of package strand, and the document's own Bytes and one, return. Conditions: strings are strings, and not too long. -/
import Derived.Test.YtodeaddmachcjaaStc
import Derived.Deep.QuietTactic
import Derived.BigQuiet
import Derived.Laws.BitsAllLaws
namespace Go.Proofs.Ytodeaddmachcjaa
open Go.RowKit
theorem below_drewN' {B : Nat} {a w : World} (h : Below B a w) (n : Nat) : Below B a (w.drewN n) := by
  induction n with
  | zero => exact h
  | succ k ih => exact ih.drew
theorem one_any (x : Nat) (w : World) : Calls Try.prog 36 #[.int .u8 x] w fun e w' => e = .returned (.int .u8 (bitN x : Nat)) ∧ w = w' := by
  by_cases h : x = 0
  · subst h
    rw [bitN_zero]
    go_enter Try.func36, Try.ntmps36
    go_wp2
    go_ret
    exact ⟨rfl, rfl⟩
  · rw [bitN_pos h]
    have hx : ((x : Int) != 0) = true := by simp; omega
    clear h
    go_enter Try.func36, Try.ntmps36
    go_wp2
    go_ret
    exact ⟨rfl, rfl⟩
theorem take_eq {xs ys : List Nat} (hl : xs.length = ys.length) (h : ∀ j, j < xs.length → xs[j]?.getD 0 = ys[j]?.getD 0) : xs = ys := by
  apply List.ext_getElem hl
  intro i h1 h2
  simpa [h1, h2] using h i h1
set_option maxHeartbeats 400000 in
theorem bytes_any (a : Option Addr) (len cap : Nat) (xs : List Nat) (a2 : Option Addr) (len2 cap2 : Nat) (ys : List Nat) (w : World) (hI : Str w.heap.size w (.slice a len cap) xs) (hI2 : Str w.heap.size w (.slice a2 len2 cap2) ys) :
    Calls Try.prog 15 #[.slice a len cap, .slice a2 len2 cap2] w fun e w' => e = .returned (.bool (decide (xs = ys))) ∧ Below w.heap.size w w' := by
  have hl := hI.len
  have hl2 := hI2.len
  have hcm := hI.capLe
  have hcl := hI.lenCap
  by_cases hlen : len = len2
  · have hne : ((len : Int) != (len2 : Int)) = false := by rw [hlen]; simp
    have hlm : len ≤ 9223372036854775807 := by omega
    have HI := Lib.hid hI; have HI2 := Lib.hid hI2; have HL := Lib.hid hl; have HL2 := Lib.hid hl2; have HLEN := Lib.hid hlen
    clear hI hI2 hl hl2 hlen hcl hcm
    go_enter Try.func15, Try.ntmps15
    go_wp2
    go_loopw [5] (fun i wr => ∃ (k n : Nat), k ≤ len ∧ i = .int .i64 k ∧ (∀ j, j < k → xs[j]?.getD 0 = ys[j]?.getD 0) ∧ wr = w.drewN n) (fun i _ => len - (intOf i).toNat)
    case atStart => exact ⟨0, 0, Nat.zero_le _, rfl, (fun j hj => by cases hj), rfl⟩
    case round =>
      obtain ⟨k, n, hk, rfl, heq, rfl⟩ := hrel
      have HEQ := Lib.hid heq; clear heq
      by_cases hlt : k < len
      · obtain ⟨b, off, hA, hc1⟩ : ∃ b off, a = some ⟨b, off, none⟩ ∧ w.cell? ⟨b, off + k, none⟩ = some (.int .u8 ((xs[k]?.getD 0 : Nat) : Int)) := by
          rcases HI.out with ⟨_, _, e, _, e2⟩ | ⟨b, off, cap', e, _, _, _, hc⟩
          · have := HL.out; rw [e2] at this; simp at this; omega
          · injection e with e1 _ _
            exact ⟨b, off, e1, hc k (by rw [← HL.out]; exact hlt)⟩
        obtain ⟨b2, off2, hA2, hc2⟩ : ∃ b off, a2 = some ⟨b, off, none⟩ ∧ w.cell? ⟨b, off + k, none⟩ = some (.int .u8 ((ys[k]?.getD 0 : Nat) : Int)) := by
          rcases HI2.out with ⟨_, _, e, _, e2⟩ | ⟨b, off, cap', e, _, _, _, hc⟩
          · have := HL2.out; rw [e2] at this; have := HLEN.out; simp at *; omega
          · injection e with e1 _ _
            exact ⟨b, off, e1, hc k (by rw [← HL2.out, ← HLEN.out]; exact hlt)⟩
        subst hA hA2
        obtain ⟨x, hx⟩ : ∃ x, x = xs[k]?.getD 0 := ⟨_, rfl⟩
        obtain ⟨y, hy⟩ : ∃ y, y = ys[k]?.getD 0 := ⟨_, rfl⟩
        rw [← hx] at hc1
        rw [← hy] at hc2
        have HX := Lib.hid hx; have HY := Lib.hid hy
        clear hx hy
        have hlt2 : k < len2 := by rw [← HLEN.out]; exact hlt
        have i1 : (0 : Int) ≤ (k : Int) := by omega
        have i2 : (k : Int) < (len : Int) := by omega
        have i3 : (k : Int) < (len2 : Int) := by omega
        by_cases hxy : x = y
        · subst hxy
          go_wp2
          go_quiet (fail)
          go_wp2
          go_roundw
          case rel => exact ⟨k + 1, _, by omega, by simp, (fun j hj => by
            by_cases e : j = k
            · rw [e, ← HX.out, ← HY.out]
            · exact HEQ.out j (by omega)), rfl⟩
          case measure => simp [intOf]; omega
        · have hne2 : ((x : Int) != (y : Int)) = true := by simp; omega
          go_wp2
          go_quiet (fail)
          go_wp2
          go_ret
          have hres : decide (xs = ys) = false := decide_eq_false (fun e => hxy (by rw [HX.out, HY.out, e]))
          rw [hres]
          exact ⟨rfl, below_drewN' (below_drewN' (Below.refl _ _) _) _⟩
      · obtain rfl : k = len := by omega
        have hres : decide (xs = ys) = true := decide_eq_true (take_eq (by rw [← HL.out, ← HL2.out]; exact HLEN.out) (fun j hj => HEQ.out j (by rw [HL.out]; exact hj)))
        go_wp2
        go_ret
        rw [hres]
        exact ⟨rfl, below_drewN' (Below.refl _ _) _⟩
  · have hne : ((len : Int) != (len2 : Int)) = true := by simp; omega
    have hres : decide (xs = ys) = false := decide_eq_false (fun e => hlen (by rw [hl, hl2, e]))
    rw [hres]
    clear hres hl hl2 hI hI2 hlen hcm hcl
    go_enter Try.func15, Try.ntmps15
    go_wp2
    go_ret
    exact ⟨rfl, Below.refl _ _⟩
/-- A string, clean, with the other bit at a place, if there is such a place. -/
def flipB (bs : List Nat) (at' : Int) : List Nat := if 0 ≤ at' ∧ at' < bs.length then (bitsOf bs).set at'.toNat (1 - bitAt bs at'.toNat) else bitsOf bs
theorem xor_bit (c : Nat) (h : c ≤ 1) : bits .xor .u8 (c : Int) 1 = ((1 - c : Nat) : Int) := by
  obtain rfl | rfl : c = 0 ∨ c = 1 := by omega
  · decide
  · decide
/-- The first n bits of these bytes. -/
def bitOfB (bs : List Nat) (i : Nat) : Nat := (bs[i / 8]?.getD 0) / 2 ^ (7 - i % 8) % 2
def unpB (bs : List Nat) (n : Nat) : List Nat := (List.range n).map (bitOfB bs)
theorem unpB_length (bs : List Nat) (n : Nat) : (unpB bs n).length = n := by simp [unpB]
theorem unpB_get (bs : List Nat) (n j : Nat) (h : j < n) : (unpB bs n)[j]?.getD 0 = bitOfB bs j := by simp [unpB, h]
end Go.Proofs.Ytodeaddmachcjaa
