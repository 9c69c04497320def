/- What Flip and Unpack of package strand, and the document's own Bytes and one, return. Conditions: strings are strings, and not too long. -/
import Derived.Test.YtdnonahpoklbfaaStc
import Derived.Deep.QuietTactic
import Derived.BigQuiet
import Derived.Laws.BitsAllLaws
namespace Go.Proofs.Ytdnonahpoklbfaa
open Go.RowKit
theorem below_drewN' {B : Nat} {a w : World} (h : Below B a w) (n : Nat) : Below B a (w.drewN n) := by
  induction n with
  | zero => exact h
  | succ k ih => exact ih.drew
theorem one_any (x : Nat) (w : World) : Calls Try.prog 46 #[.int .u8 x] w fun e w' => e = .returned (.int .u8 (bitN x : Nat)) ∧ w = w' := by
  by_cases h : x = 0
  · subst h
    rw [bitN_zero]
    go_enter Try.func46, Try.ntmps46
    go_wp2
    go_ret
    exact ⟨rfl, rfl⟩
  · rw [bitN_pos h]
    have hx : ((x : Int) != 0) = true := by simp; omega
    clear h
    go_enter Try.func46, Try.ntmps46
    go_wp2
    go_ret
    exact ⟨rfl, rfl⟩
theorem few_any (a : Option Addr) (len cap : Nat) (bs : List Nat) (w : World) (hI : Str w.heap.size w (.slice a len cap) bs) :
    Calls Try.prog 25 #[.slice a len cap] w fun e w' => (∃ a' len' cap', e = .returned (.slice a' len' cap') ∧ Str w.heap.size w (.slice a' len' cap') (bs.take 500)) ∧ w = w' := by
  have hl := hI.len
  have hc := hI.lenCap
  have hcm := hI.capLe
  by_cases h : 500 < len
  · have ht := hI.take (k := 500) (by omega)
    have HT := Lib.hid ht
    clear ht hI
    rw [← hl] at hc
    clear hl
    go_enter Try.func25, Try.ntmps25
    go_wp2
    go_ret
    exact ⟨⟨_, _, _, rfl, HT.out⟩, rfl⟩
  · have ht : Str w.heap.size w (.slice a len cap) (bs.take 500) := by rw [List.take_of_length_le (by omega)]; exact hI
    have HT := Lib.hid ht
    clear ht hI hl
    go_enter Try.func25, Try.ntmps25
    go_wp2
    go_ret
    exact ⟨⟨_, _, _, rfl, HT.out⟩, rfl⟩
theorem take_eq {xs ys : List Nat} (hl : xs.length = ys.length) (h : ∀ j, j < xs.length → xs[j]?.getD 0 = ys[j]?.getD 0) : xs = ys := by
  apply List.ext_getElem hl
  intro i h1 h2
  simpa [h1, h2] using h i h1
set_option maxHeartbeats 400000 in
theorem bytes_any (a : Option Addr) (len cap : Nat) (xs : List Nat) (a2 : Option Addr) (len2 cap2 : Nat) (ys : List Nat) (w : World) (hI : Str w.heap.size w (.slice a len cap) xs) (hI2 : Str w.heap.size w (.slice a2 len2 cap2) ys) :
    Calls Try.prog 20 #[.slice a len cap, .slice a2 len2 cap2] w fun e w' => e = .returned (.bool (decide (xs = ys))) ∧ Below w.heap.size w w' := by
  have hl := hI.len
  have hl2 := hI2.len
  have hcm := hI.capLe
  have hcl := hI.lenCap
  by_cases hlen : len = len2
  · have hne : ((len : Int) != (len2 : Int)) = false := by rw [hlen]; simp
    have hlm : len ≤ 9223372036854775807 := by omega
    have HI := Lib.hid hI; have HI2 := Lib.hid hI2; have HL := Lib.hid hl; have HL2 := Lib.hid hl2; have HLEN := Lib.hid hlen
    clear hI hI2 hl hl2 hlen hcl hcm
    go_enter Try.func20, Try.ntmps20
    go_wp2
    go_loopw [5] (fun i wr => ∃ (k n : Nat), k ≤ len ∧ i = .int .i64 k ∧ (∀ j, j < k → xs[j]?.getD 0 = ys[j]?.getD 0) ∧ wr = w.drewN n) (fun i _ => len - (intOf i).toNat)
    case atStart => exact ⟨0, 0, Nat.zero_le _, rfl, (fun j hj => by cases hj), rfl⟩
    case round =>
      obtain ⟨k, n, hk, rfl, heq, rfl⟩ := hrel
      have HEQ := Lib.hid heq; clear heq
      by_cases hlt : k < len
      · obtain ⟨b, off, hA, hc1⟩ : ∃ b off, a = some ⟨b, off, none⟩ ∧ w.cell? ⟨b, off + k, none⟩ = some (.int .u8 ((xs[k]?.getD 0 : Nat) : Int)) := by
          rcases HI.out with ⟨_, _, e, _, e2⟩ | ⟨b, off, cap', e, _, _, _, hc⟩
          · have := HL.out; rw [e2] at this; simp at this; omega
          · injection e with e1 _ _
            exact ⟨b, off, e1, hc k (by rw [← HL.out]; exact hlt)⟩
        obtain ⟨b2, off2, hA2, hc2⟩ : ∃ b off, a2 = some ⟨b, off, none⟩ ∧ w.cell? ⟨b, off + k, none⟩ = some (.int .u8 ((ys[k]?.getD 0 : Nat) : Int)) := by
          rcases HI2.out with ⟨_, _, e, _, e2⟩ | ⟨b, off, cap', e, _, _, _, hc⟩
          · have := HL2.out; rw [e2] at this; have := HLEN.out; simp at *; omega
          · injection e with e1 _ _
            exact ⟨b, off, e1, hc k (by rw [← HL2.out, ← HLEN.out]; exact hlt)⟩
        subst hA hA2
        obtain ⟨x, hx⟩ : ∃ x, x = xs[k]?.getD 0 := ⟨_, rfl⟩
        obtain ⟨y, hy⟩ : ∃ y, y = ys[k]?.getD 0 := ⟨_, rfl⟩
        rw [← hx] at hc1
        rw [← hy] at hc2
        have HX := Lib.hid hx; have HY := Lib.hid hy
        clear hx hy
        have hlt2 : k < len2 := by rw [← HLEN.out]; exact hlt
        have i1 : (0 : Int) ≤ (k : Int) := by omega
        have i2 : (k : Int) < (len : Int) := by omega
        have i3 : (k : Int) < (len2 : Int) := by omega
        by_cases hxy : x = y
        · subst hxy
          go_wp2
          go_quiet (fail)
          go_wp2
          go_roundw
          case rel => exact ⟨k + 1, _, by omega, by simp, (fun j hj => by
            by_cases e : j = k
            · rw [e, ← HX.out, ← HY.out]
            · exact HEQ.out j (by omega)), rfl⟩
          case measure => simp [intOf]; omega
        · have hne2 : ((x : Int) != (y : Int)) = true := by simp; omega
          go_wp2
          go_quiet (fail)
          go_wp2
          go_ret
          have hres : decide (xs = ys) = false := decide_eq_false (fun e => hxy (by rw [HX.out, HY.out, e]))
          rw [hres]
          exact ⟨rfl, below_drewN' (below_drewN' (Below.refl _ _) _) _⟩
      · obtain rfl : k = len := by omega
        have hres : decide (xs = ys) = true := decide_eq_true (take_eq (by rw [← HL.out, ← HL2.out]; exact HLEN.out) (fun j hj => HEQ.out j (by rw [HL.out]; exact hj)))
        go_wp2
        go_ret
        rw [hres]
        exact ⟨rfl, below_drewN' (Below.refl _ _) _⟩
  · have hne : ((len : Int) != (len2 : Int)) = true := by simp; omega
    have hres : decide (xs = ys) = false := decide_eq_false (fun e => hlen (by rw [hl, hl2, e]))
    rw [hres]
    clear hres hl hl2 hI hI2 hlen hcm hcl
    go_enter Try.func20, Try.ntmps20
    go_wp2
    go_ret
    exact ⟨rfl, Below.refl _ _⟩
/-- A string, clean, with the other bit at a place, if there is such a place. -/
def flipB (bs : List Nat) (at' : Int) : List Nat := if 0 ≤ at' ∧ at' < bs.length then (bitsOf bs).set at'.toNat (1 - bitAt bs at'.toNat) else bitsOf bs
theorem xor_bit (c : Nat) (h : c ≤ 1) : bits .xor .u8 (c : Int) 1 = ((1 - c : Nat) : Int) := by
  obtain rfl | rfl : c = 0 ∨ c = 1 := by omega
  · decide
  · decide
set_option maxHeartbeats 400000 in
theorem flip_any (a : Option Addr) (len cap : Nat) (bs : List Nat) (at' : Int) (hreach : bs.length ≤ 281474976710656) (w : World) (hI : Str w.heap.size w (.slice a len cap) bs) :
    Calls Try.prog 33 #[.slice a len cap, .int .i64 at'] w fun e w' => ∃ v, e = .returned v ∧ Made w.heap.size w' v (flipB bs at') ∧ Below w.heap.size w w' := by
  have hc := fun u hu => clean_any a len cap bs hreach u hu
  have HC := Lib.hid hc; have HI := Lib.hid hI
  clear hc hI
  by_cases h0 : 0 ≤ at'
  · by_cases h1 : at' < bs.length
    · obtain ⟨k, rfl⟩ : ∃ k : Nat, at' = k := ⟨at'.toNat, by omega⟩
      have hk : k < bs.length := by omega
      go_enter Try.func33, Try.ntmps33
      go_wp2_with (fail)
      refine (HC.out _ HI.out).mono ?_
      rintro e w1 ⟨v, rfl, ⟨b, rfl, hbB, hbl, hrow⟩, hb1⟩
      have hcell := hrow.cell (i := k) (by rw [bitsOf_length]; exact hk)
      rw [bitsOf_get _ _ hk] at hcell
      have hfree := hrow.frozen k
      rw [bitsOf_length] at hrow hbl ⊢
      obtain ⟨c, hcc⟩ : ∃ c, c = bitAt bs k := ⟨_, rfl⟩
      have hc1 : c ≤ 1 := by rw [hcc]; exact bitAt_le _ _
      rw [← hcc] at hcell
      have ex := xor_bit c hc1
      obtain ⟨r, hr⟩ : ∃ r, r = 1 - c := ⟨_, rfl⟩
      rw [← hr] at ex
      obtain ⟨N, hN⟩ : ∃ N, N = bs.length := ⟨_, rfl⟩
      rw [← hN] at hrow hbl hk h1 ⊢
      have HROW := Lib.hid hrow; have HB := Lib.hid hb1; have HCC := Lib.hid hcc; have HR := Lib.hid hr; have HN := Lib.hid hN
      clear hrow hb1 hcc hr hN hc1
      go_wp2_with (fail)
      go_ret
      have hf : flipB bs (k : Int) = (bitsOf bs).set k r := by
        unfold flipB
        rw [if_pos ⟨by omega, by rw [← HN.out]; omega⟩, Int.toNat_natCast, HR.out, HCC.out]
      refine ⟨_, rfl, ⟨b, ?_, hbB, ?_, ?_⟩, HB.out.setCell (p := ⟨b, k, none⟩) hbB _⟩
      · rw [hf, List.length_set, bitsOf_length, ← HN.out]; rfl
      · rw [hf, List.length_set, bitsOf_length, ← HN.out]; exact hbl
      · rw [hf, List.length_set, bitsOf_length, ← HN.out]
        refine (HROW.out.set k (.int .u8 (r : Int))).congr (fun j hj => ?_)
        by_cases e : j = k
        · rw [if_pos e, e, List.getElem?_set_self (by rw [bitsOf_length, ← HN.out]; exact hk)]; rfl
        · rw [if_neg e, List.getElem?_set_ne (fun h => e h.symm)]
    · have hf : flipB bs at' = bitsOf bs := if_neg (fun h => h1 h.2)
      rw [hf]
      go_enter Try.func33, Try.ntmps33
      go_wp2_with (fail)
      refine (HC.out _ HI.out).mono ?_
      rintro e w1 ⟨v, rfl, ⟨b, rfl, hbB, hbl, hrow⟩, hb1⟩
      have h2 : ¬ at' < ((bitsOf bs).length : Int) := by rw [bitsOf_length]; omega
      have HROW := Lib.hid hrow; have HB := Lib.hid hb1
      clear hrow hb1 h1
      go_wp2_with (fail)
      go_ret
      exact ⟨_, rfl, ⟨b, rfl, hbB, hbl, HROW.out⟩, HB.out⟩
  · have hf : flipB bs at' = bitsOf bs := if_neg (fun h => h0 h.1)
    rw [hf]
    go_enter Try.func33, Try.ntmps33
    go_wp2_with (fail)
    refine (HC.out _ HI.out).mono ?_
    rintro e w1 ⟨v, rfl, ⟨b, rfl, hbB, hbl, hrow⟩, hb1⟩
    have HROW := Lib.hid hrow; have HB := Lib.hid hb1
    clear hrow hb1
    go_wp2_with (fail)
    go_ret
    exact ⟨_, rfl, ⟨b, rfl, hbB, hbl, HROW.out⟩, HB.out⟩
/-- The first n bits of these bytes. -/
def bitOfB (bs : List Nat) (i : Nat) : Nat := (bs[i / 8]?.getD 0) / 2 ^ (7 - i % 8) % 2
def unpB (bs : List Nat) (n : Nat) : List Nat := (List.range n).map (bitOfB bs)
theorem unpB_length (bs : List Nat) (n : Nat) : (unpB bs n).length = n := by simp [unpB]
theorem unpB_get (bs : List Nat) (n j : Nat) (h : j < n) : (unpB bs n)[j]?.getD 0 = bitOfB bs j := by simp [unpB, h]
theorem unpack_no (a : Option Addr) (len cap : Nat) (n : Int) (hl : len ≤ 281474976710656) (h : n < 0 ∨ 8 * (len : Int) < n) (w : World) :
    Calls Try.prog 39 #[.slice a len cap, .int .i64 n] w fun e w' => e = .returned (.slice none 0 0) ∧ w = w' := by
  rcases h with h | h
  · go_enter Try.func39, Try.ntmps39
    go_wp2
    go_ret
    exact ⟨rfl, rfl⟩
  · have h2 : ¬ n < 0 := by omega
    go_enter Try.func39, Try.ntmps39
    go_wp2
    go_ret
    exact ⟨rfl, rfl⟩
set_option maxHeartbeats 400000 in
theorem unpack_yes (a : Option Addr) (len cap : Nat) (bs : List Nat) (n : Nat) (hl8 : 8 * len ≤ 281474976710656) (hn : n ≤ 8 * len) (hby : ∀ j : Nat, bs[j]?.getD 0 < 256) (w : World) (hI : Str w.heap.size w (.slice a len cap) bs) :
    Calls Try.prog 39 #[.slice a len cap, .int .i64 n] w fun e w' => ∃ v, e = .returned v ∧ Made w.heap.size w' v (unpB bs n) ∧ Below w.heap.size w w' := by
  have hmk := make_bytes n (by omega)
  have hl := hI.len
  have HI := Lib.hid hI; have HL := Lib.hid hl; have HBY := Lib.hid hby
  clear hI hl hby
  have hn2 : ¬ 8 * (len : Int) < n := by omega
  go_enter Try.func39, Try.ntmps39
  go_wp2
  clear hmk
  go_loopw [20] (fun i wr => ∃ k : Nat, k ≤ n ∧ i = .int .i64 k ∧ wr.rowIs w.heap.size 5 n (fun j => .int .u8 ((if j < k then bitOfB bs j else 0 : Nat) : Int)) ∧ Below w.heap.size w wr) (fun i _ => n - (intOf i).toNat)
  case atStart => exact ⟨0, Nat.zero_le _, rfl, World.rowIs_made _ _ _ _, (Below.refl _ _).alloc (Nat.le_refl _) _⟩
  case round =>
    obtain ⟨k, hk, rfl, hrow, hbel⟩ := hrel
    have HROW := Lib.hid hrow
    have HB := Lib.hid hbel; clear hbel
    by_cases hlt : k < n
    · have hc := hrow.cell hlt
      rw [if_neg (Nat.lt_irrefl k)] at hc
      have hf := hrow.frozen k
      clear hrow
      obtain ⟨q, hq⟩ : ∃ q, q = k / 8 := ⟨_, rfl⟩
      obtain ⟨s, hs⟩ : ∃ s, s = 7 - k % 8 := ⟨_, rfl⟩
      have hql : q < len := by omega
      obtain ⟨b, off, hA, hcb⟩ : ∃ b off, a = some ⟨b, off, none⟩ ∧ wr.cell? ⟨b, off + q, none⟩ = some (.int .u8 ((bs[q]?.getD 0 : Nat) : Int)) := by
        rcases HI.out.below HB.out with ⟨_, _, e, _, e2⟩ | ⟨b, off, cap', e, _, _, _, hc⟩
        · have := HL.out; rw [e2] at this; simp at this; omega
        · injection e with e1 _ _
          exact ⟨b, off, e1, hc q (by rw [← HL.out]; exact hql)⟩
      subst hA
      have hy256 := HBY.out q
      obtain ⟨y, hy⟩ : ∃ y, y = bs[q]?.getD 0 := ⟨_, rfl⟩
      rw [← hy] at hcb hy256
      have eq8 : (k : Int) / 8 = (q : Int) := by omega
      have es8 : 7 - (k : Int) % 8 = (s : Int) := by omega
      have hs7 : s ≤ 7 := by omega
      obtain ⟨r, hr⟩ : ∃ r, r = y / 2 ^ s % 2 := ⟨_, rfl⟩
      have er : bits .and .u8 ((y : Int) / 2 ^ s) 1 = (r : Int) := by
        rw [show (y : Int) / 2 ^ s = ((y / 2 ^ s : Nat) : Int) by simp, hr]
        have := u8_and_nat (y / 2 ^ s) 1 (Nat.lt_of_le_of_lt (Nat.div_le_self _ _) hy256) (by omega)
        rw [show ((1 : Nat) : Int) = 1 from rfl] at this
        rw [this, Nat.and_one_is_mod]
      have HR := Lib.hid (show r = bitOfB bs k by rw [hr, hy, hq, hs]; rfl)
      clear hq hs hy hr
      go_wp2
      go_roundw
      case rel => exact ⟨k + 1, by omega, by simp, fill_step HROW.out HR.out, HB.out.setCell (p := ⟨w.heap.size, k, none⟩) (Nat.le_refl _) _⟩
      case measure => simp [intOf]; omega
    · obtain rfl : k = n := by omega
      clear hrow
      go_wp2
      go_ret
      exact ⟨_, rfl, ⟨w.heap.size, by rw [unpB_length]; rfl, Nat.le_refl _, by rw [unpB_length]; omega, by rw [unpB_length]; exact fill_end HROW.out (fun j hj => unpB_get _ _ _ hj)⟩, HB.out⟩
end Go.Proofs.Ytdnonahpoklbfaa
