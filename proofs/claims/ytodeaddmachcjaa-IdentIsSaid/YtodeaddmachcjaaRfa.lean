/- The document's own answers of layer 2 in plain words (Number, Clean, Of, Unpack): what they return. Conditions: strings are strings, and not longer than a thousand. -/
import Derived.Test.YtodeaddmachcjaaApp
namespace Go.Proofs.Ytodeaddmachcjaa
open Go.RowKit Go.Shelf
theorem Str.at {n₀ len cap k : Nat} {a : Option Addr} {W : World} {bs : List Nat} (h : Str n₀ W (.slice a len cap) bs) (hk : k < len) : ∃ b off, a = some ⟨b, off, none⟩ ∧ b < n₀ ∧ ∀ X, Below n₀ W X → X.cell? ⟨b, off + k, none⟩ = some (.int .u8 ((bs[k]?.getD 0 : Nat) : Int)) := by
  have hl := h.len
  rcases h with ⟨_, _, e, _, e2⟩ | ⟨b, off, cap', e, _, _, hb, hc⟩
  · rw [e2] at hl; simp at hl; omega
  · injection e with e1 _ _
    exact ⟨b, off, e1, hb, fun X hX => (hX.cell (p := ⟨b, off + k, none⟩) hb).trans (hc k (by omega))⟩
/-- The first k bits. -/
def bitsTo (bs : List Nat) (k : Nat) : List Nat := (List.range k).map (bitAt bs)
theorem bitsTo_succ (bs : List Nat) (k : Nat) : bitsTo bs (k + 1) = bitsTo bs k ++ [bitAt bs k] := by simp [bitsTo, List.range_succ]
theorem bitsTo_all (bs : List Nat) : bitsTo bs bs.length = bitsOf bs := range_bits bs
theorem bitsTo_length (bs : List Nat) (k : Nat) : (bitsTo bs k).length = k := by simp [bitsTo]
theorem twice_and (n v : Nat) : IntKind.u64.wrap (IntKind.u64.wrap ((n : Int) * 2) + IntKind.u64.wrap (v : Int)) = (((2 * n + v) % 18446744073709551616 : Nat) : Int) := by
  rw [IntKind.wrap_u64, IntKind.wrap_u64, IntKind.wrap_u64]; omega
theorem refNumber_any (a : Option Addr) (len cap : Nat) (bs : List Nat) (w : World) (hI : Str w.heap.size w (.slice a len cap) bs) :
    Calls Try.prog 33 #[.slice a len cap] w fun e w' => e = .returned (.int .u64 (numB (bitsOf bs) : Nat)) ∧ w = w' := by
  have hl := hI.len
  have hcm := hI.capLe
  have hcl := hI.lenCap
  have hlm : len ≤ 9223372036854775807 := by omega
  have HI := Lib.hid hI; have HL := Lib.hid hl
  clear hI hl hcm hcl
  go_enter Try.func33, Try.ntmps33
  go_wp2
  go_loopw [3, 4] (fun s i wr => ∃ (k n : Nat), k ≤ len ∧ i = .int .i64 k ∧ s = .int .u64 n ∧ n = numB (bitsTo bs k) ∧ wr = w) (fun _ i _ => len - (intOf i).toNat)
  case atStart => exact ⟨0, 0, Nat.zero_le _, rfl, rfl, rfl, rfl⟩
  case round =>
    obtain ⟨k, n, hk, rfl, rfl, hn, rfl⟩ := hrel
    have HN := Lib.hid hn; clear hn
    by_cases hlt : k < len
    · obtain ⟨b, off, rfl, hb, hc⟩ := HI.out.at hlt
      have hc1 := hc wr (Below.refl _ _)
      obtain ⟨x, hx⟩ : ∃ x, x = bs[k]?.getD 0 := ⟨_, rfl⟩
      rw [← hx] at hc1
      have hv : bitN x = bitAt bs k := by rw [hx]; rfl
      have HV := Lib.hid hv
      clear hc hv hx hb
      obtain ⟨m, hm⟩ : ∃ m, m = (2 * n + bitN x) % 18446744073709551616 := ⟨_, rfl⟩
      have he : IntKind.u64.wrap (IntKind.u64.wrap ((n : Int) * 2) + IntKind.u64.wrap (bitN x : Int)) = (m : Int) := by rw [twice_and, hm]
      have HM := Lib.hid hm
      clear hm
      go_wp2_with (go_at_call 36; refine (one_any x _).mono ?_; rintro e w' ⟨rfl, rfl⟩)
      go_roundw
      case rel => exact ⟨k + 1, m, by omega, by simp, rfl, by rw [bitsTo_succ, numB_snoc, HM.out, ← HN.out, HV.out], trivial⟩
      case measure => simp [intOf]; omega
    · obtain rfl : k = len := by omega
      go_wp2
      go_ret
      rw [HN.out, HL.out, bitsTo_all]
      exact ⟨rfl, rfl⟩
theorem Ow.write {B k : Nat} {W : World} {v : Value} {bs : List Nat} (h : Ow B W v bs) (hk : k < bs.length) : ∃ g cap, v = .slice (some ⟨g, 0, none⟩) bs.length cap ∧ B ≤ g ∧ cap ≤ maxLen ∧ bs.length ≤ cap ∧ g < W.heap.size ∧ W.cell? ⟨g, k, none⟩ = some (.int .u8 ((bs[k]?.getD 0 : Nat) : Int)) ∧ W.frozen? ⟨g, k, none⟩ = false ∧ ∀ x : Nat, Ow B (W.setCell ⟨g, k, none⟩ (.int .u8 ((x : Nat) : Int))) v (bs.set k x) := by
  obtain ⟨hl, h⟩ := h
  rcases h with ⟨rfl, h0⟩ | ⟨g, cap, cur, rfl, hB, hg, hn, hc, hsz, ht⟩
  · omega
  · have e : cur[k]? = some (.int .u8 ((bs[k]?.getD 0 : Nat) : Int)) := by
      have h1 : (cur.toList.take (bs.length * 1))[k]? = cur.toList[k]? := List.getElem?_take_of_lt (by omega)
      rw [ht] at h1
      rw [← Array.getElem?_toList, ← h1]
      simp [hk]
    refine ⟨g, cap, rfl, hB, hc, hn, (Array.getElem?_eq_some_iff.1 hg).1, by simp [World.cell?, hg, e], by simp [World.frozen?, hg], fun x => ⟨by simp, .inr ⟨g, cap, cur.setIfInBounds k (.int .u8 ((x : Nat) : Int)), by rw [List.length_set], hB, heap_setCell_same W g k cur _ _ hg, by rw [List.length_set]; exact hn, hc, by simp [hsz], ?_⟩⟩⟩
    rw [List.length_set, Array.toList_setIfInBounds, List.take_set, ht, List.map_set]
/-- The first k bits of a number's w bits. -/
def ofTo (n w k : Nat) : List Nat := (List.range k).map (bitFrom n w)
theorem ofTo_succ (n w k : Nat) : ofTo n w (k + 1) = ofTo n w k ++ [bitFrom n w k] := by simp [ofTo, List.range_succ]
theorem ofTo_length (n w k : Nat) : (ofTo n w k).length = k := by simp [ofTo]
theorem refOf_no (n w : Int) (h : w < 1 ∨ 64 < w) (W : World) :
    Calls Try.prog 31 #[.int .u64 n, .int .i64 w] W fun e W' => e = .returned (.slice none 0 0) ∧ W = W' := by
  rcases h with h | h
  · go_enter Try.func31, Try.ntmps31
    go_wp2
    go_ret
    exact ⟨rfl, rfl⟩
  · have h2 : ¬ w < 1 := by omega
    go_enter Try.func31, Try.ntmps31
    go_wp2
    go_ret
    exact ⟨rfl, rfl⟩
theorem refOf_yes (n m : Nat) (hn : n < 18446744073709551616) (h1 : 1 ≤ m) (h2 : m ≤ 64) (w : World) :
    Calls Try.prog 31 #[.int .u64 n, .int .i64 m] w fun e w' => ∃ v, e = .returned v ∧ Ow w.heap.size w' v (ofB n m) ∧ Below w.heap.size w w' := by
  obtain ⟨i0, hi, hz0, hz1, hz2⟩ := info_parts info_u8
  go_enter Try.func31, Try.ntmps31
  go_wp2
  go_loopw [5, 6] (fun v i wr => ∃ (j : Nat) (z : Int), j ≤ m ∧ z = (j : Int) - 1 ∧ i = .int .i64 z ∧ Ow w.heap.size wr v (ofTo n m (m - j)) ∧ Below w.heap.size w wr) (fun _ i _ => (intOf i + 1).toNat)
  case atStart => exact ⟨m, _, Nat.le_refl _, rfl, rfl, by rw [Nat.sub_self]; exact Ow.nil _ _, Below.refl _ _⟩
  case round =>
    obtain ⟨j, z, hj, hz, rfl, hown, hnx⟩ := hrel
    have hown' := hown.own
    rw [ofTo_length] at hown'
    cases j with
    | succ s =>
      obtain rfl : z = (s : Int) := by omega
      obtain ⟨y, hy⟩ : ∃ y, y = bitFrom n m (m - (s + 1)) := ⟨_, rfl⟩
      have hy1 : y ≤ 1 := by rw [hy]; unfold bitFrom; omega
      have ev : bits .and .u64 ((n : Int) / 2 ^ s) 1 = (y : Int) := by
        rw [cast_shift', and_one' _ (Nat.lt_of_le_of_lt (Nat.div_le_self _ _) hn), hy]
        unfold bitFrom
        rw [show m - 1 - (m - (s + 1)) = s by omega]
      have HY := Lib.hid hy
      have HNX := Lib.hid hnx; have HOWN := Lib.hid hown; have HOWN' := Lib.hid hown'
      clear hnx hown hown' hz hy
      go_wp2_with (at_builtin; refine wpList_append_own _ rfl _ _ 32 rfl w.heap.size 5 i0 (.int .u8 0) 1 1 Try.underlying32 hi hz0 hz1 hz2 rfl (by decide) _ _ _ rfl (HOWN'.out.alloc _) ⟨wr.heap.size, 0, none⟩ 1 1 [.int .u8 (y : Int)] rfl rfl one_cell one_flat ?c3 ?c4 ?c5 ?_)
      case c3 => unfold maxLen; omega
      case c4 => omega
      case c5 => have := HNX.out.size; simp; omega
      intro v' w1 hown2 hgrow _
      have HO := Lib.hid (show Ow w.heap.size w1 v' (ofTo n m (m - s)) by
        rw [show m - s = (m - (s + 1)) + 1 by omega, ofTo_succ, ← HY.out]
        refine Ow.snoc ?_
        rw [ofTo_length]
        exact hown2)
      have HB := Lib.hid ((HNX.out.alloc HNX.out.size _).grown hgrow (by have := HNX.out.size; simp; omega) HOWN.out.ge)
      clear hown2 hgrow HNX HOWN HOWN'
      go_wp2
      go_roundw
      case rel => exact ⟨s, _, by omega, rfl, by simp, HO.out, HB.out⟩
      case measure => simp [intOf]
    | zero =>
      obtain rfl : z = -1 := by omega
      have HO := Lib.hid (show Ow w.heap.size wr _ (ofB n m) from hown)
      clear hown hown' hz
      go_wp2
      go_ret
      exact ⟨_, rfl, HO.out, hnx⟩
/-- The first k bits of bytes. -/
theorem unpB_succ (bs : List Nat) (k : Nat) : unpB bs (k + 1) = unpB bs k ++ [bitOfB bs k] := by simp [unpB, List.range_succ]
end Go.Proofs.Ytodeaddmachcjaa
