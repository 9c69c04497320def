/- What Of of package strand returns: the lowest bits of a number, the highest one first. Conditions: none but that the arguments are of their kinds. -/
import Derived.Test.YtodeaddmachcjaaStn
import Derived.Deep.OwnRows
namespace Go.Proofs.Ytodeaddmachcjaa
open Go.RowKit
/-- A slice of the call's own: a whole row of bytes, in a block from B on. -/
def Made (B : Nat) (W : World) (v : Value) (bs : List Nat) : Prop :=
  ∃ b, v = .slice (some ⟨b, 0, none⟩) bs.length bs.length ∧ B ≤ b ∧ bs.length ≤ 281474976710656 ∧ W.rowIs b 5 bs.length (fun j => .int .u8 ((bs[j]?.getD 0 : Nat) : Int))
theorem Made.str {B : Nat} {W : World} {v : Value} {bs : List Nat} (h : Made B W v bs) : Str W.heap.size W v bs := by
  obtain ⟨b, rfl, _, hl, hr⟩ := h
  exact .inr ⟨b, 0, _, rfl, Nat.le_refl _, by omega, hr.lt, fun j hj => by rw [Nat.zero_add]; exact hr.cell hj⟩
theorem info_u8 : (Try.prog.info? 5).map (fun i => (i.zero, i.size, i.bytes)) = some (some (.int .u8 0), 1, 1) := by kernel_rfl
theorem make_bytes (n : Nat) (h : n ≤ 281474976710656) (u : World) : (Instr.makeSlice 32 (.int .i64 (n : Int)) (.int .i64 (n : Int))).run Try.prog u = .ok (.slice (some ⟨u.heap.size, 0, none⟩) n n) (u.alloc (.cells (madeCells #[.int .u8 0] n) 5)) :=
  run_make_row' 32 5 (.int .u8 0) 1 Try.underlying32 info_u8 rfl .i64 .i64 n (by omega) (by omega) u
def bitFrom (n w j : Nat) : Nat := n / 2 ^ (w - 1 - j) % 2
/-- The lowest w bits of n, the highest one first. -/
def ofB (n w : Nat) : List Nat := (List.range w).map (bitFrom n w)
theorem ofB_length (n w : Nat) : (ofB n w).length = w := by simp [ofB]
theorem ofB_get (n w j : Nat) (h : j < w) : (ofB n w)[j]?.getD 0 = bitFrom n w j := by simp [ofB, h]
theorem cast_shift' (b j : Nat) : (b : Int) / 2 ^ j = ((b / 2 ^ j : Nat) : Int) := by simp
theorem and_one' (x : Nat) (h : x < 18446744073709551616) : bits .and .u64 (x : Int) 1 = ((x % 2 : Nat) : Int) := by
  have := bits_mask .u64 64 (by decide) wraps_u64' 1 (by omega) (x : Int) (by omega) (by omega)
  have e : ((2 : Int) ^ 1 - 1) = 1 := by decide
  rw [e] at this
  rw [this]
  omega
/-- One cell more of a row that is filled from its beginning. -/
theorem fill_step {wr : World} {B w k v : Nat} {f : Nat → Nat} {T : TypeId} (h : wr.rowIs B T w (fun j => .int .u8 ((if j < k then f j else 0 : Nat) : Int))) (hv : v = f k) :
    (wr.setCell ⟨B, k, none⟩ (.int .u8 (v : Int))).rowIs B T w (fun j => .int .u8 ((if j < k + 1 then f j else 0 : Nat) : Int)) := by
  refine (h.set k (.int .u8 (v : Int))).congr fun i hi => ?_
  by_cases e : i = k
  · subst e
    rw [if_pos rfl, if_pos (by omega), hv]
  · rw [if_neg e]
    by_cases l : i < k
    · rw [if_pos l, if_pos (by omega)]
    · rw [if_neg l, if_neg (by omega)]
theorem fill_end {wr : World} {B w : Nat} {f : Nat → Nat} {T : TypeId} {bs : List Nat} (h : wr.rowIs B T w (fun j => .int .u8 ((if j < w then f j else 0 : Nat) : Int))) (hb : ∀ j, j < w → bs[j]?.getD 0 = f j) :
    wr.rowIs B T w (fun j => .int .u8 ((bs[j]?.getD 0 : Nat) : Int)) :=
  h.congr fun i hi => by rw [if_pos hi, hb i hi]
def ofRel (n w B : Nat) (W : World) (i : Value) (wr : World) : Prop :=
  ∃ k : Nat, k ≤ w ∧ i = .int .i64 k ∧ wr.rowIs B 5 w (fun j => .int .u8 ((if j < k then bitFrom n w j else 0 : Nat) : Int)) ∧ Below B W wr
set_option maxHeartbeats 400000 in
theorem of_yes (n w : Nat) (hn : n < 18446744073709551616) (h1 : 1 ≤ w) (h2 : w ≤ 64) (W : World) :
    Calls Try.prog 29 #[.int .u64 n, .int .i64 w] W fun e W' => ∃ v, e = .returned v ∧ Made W.heap.size W' v (ofB n w) ∧ Below W.heap.size W W' := by
  have hmk := make_bytes w (by omega)
  go_enter Try.func29, Try.ntmps29
  go_wp2
  clear hmk
  go_loopw [17] (ofRel n w W.heap.size W) (fun i _ => w - (intOf i).toNat)
  case atStart => exact ⟨0, Nat.zero_le _, rfl, World.rowIs_made _ _ _ _, (Below.refl _ _).alloc (Nat.le_refl _) _⟩
  case round =>
    obtain ⟨k, hk, rfl, hrow, hbel⟩ := hrel
    have HROW := Lib.hid hrow
    have HB := Lib.hid hbel; clear hbel
    by_cases hlt : k < w
    · have hc := hrow.cell hlt
      rw [if_neg (Nat.lt_irrefl k)] at hc
      have hf := hrow.frozen k
      clear hrow
      obtain ⟨s, hs⟩ : ∃ s : Nat, s = w - 1 - k := ⟨_, rfl⟩
      have es : (w : Int) - 1 - k = (s : Int) := by omega
      obtain ⟨v, hv⟩ : ∃ v, v = bitFrom n w k := ⟨_, rfl⟩
      have ev : bits .and .u64 ((n : Int) / 2 ^ s) 1 = (v : Int) := by
        rw [cast_shift', and_one' _ (Nat.lt_of_le_of_lt (Nat.div_le_self _ _) hn), hv, hs]; rfl
      have hv1 : v ≤ 1 := by rw [hv]; unfold bitFrom; omega
      have HV := Lib.hid hv
      have HS := Lib.hid hs
      clear hv hs
      go_wp2
      go_roundw
      case rel => exact ⟨k + 1, by omega, by simp, fill_step HROW.out HV.out, HB.out.setCell (p := ⟨W.heap.size, k, none⟩) (Nat.le_refl _) _⟩
      case measure => simp [intOf]; omega
    · obtain rfl : k = w := by omega
      clear hrow
      go_wp2
      go_ret
      exact ⟨_, rfl, ⟨W.heap.size, by rw [ofB_length]; rfl, Nat.le_refl _, by rw [ofB_length]; omega, by rw [ofB_length]; exact fill_end HROW.out (fun j hj => ofB_get _ _ _ hj)⟩, HB.out⟩
theorem of_no (n w : Int) (h : w < 1 ∨ 64 < w) (W : World) :
    Calls Try.prog 29 #[.int .u64 n, .int .i64 w] W fun e W' => e = .returned (.slice none 0 0) ∧ W = W' := by
  rcases h with h | h
  · go_enter Try.func29, Try.ntmps29
    go_wp2
    go_ret
    exact ⟨rfl, rfl⟩
  · have h' : ¬ w < 1 := by omega
    go_enter Try.func29, Try.ntmps29
    go_wp2
    go_ret
    exact ⟨rfl, rfl⟩
theorem bitsOf_ofB (n w : Nat) : bitsOf (ofB n w) = ofB n w := by
  unfold bitsOf ofB
  rw [List.map_map]
  refine List.map_congr_left fun j _ => ?_
  show bitN (bitFrom n w j) = bitFrom n w j
  unfold bitFrom bitN
  split <;> omega
theorem ofB_succ (n w : Nat) : ofB n (w + 1) = ofB (n / 2) w ++ [n % 2] := by
  unfold ofB
  rw [List.range_succ, List.map_append]
  congr 1
  · refine List.map_congr_left fun j hj => ?_
    have hj' : j < w := by simpa using hj
    unfold bitFrom
    rw [show w + 1 - 1 - j = (w - 1 - j) + 1 by omega, Nat.pow_succ', Nat.div_div_eq_div_mul]
  · show [n / 2 ^ (w + 1 - 1 - w) % 2] = [n % 2]
    rw [show w + 1 - 1 - w = 0 by omega]; simp
theorem numB_ofB : ∀ (w n : Nat), w ≤ 64 → numB (ofB n w) = n % 2 ^ w
  | 0, n, _ => by simp [ofB, numB, Nat.mod_one]
  | w + 1, n, h => by
    rw [ofB_succ, numB_snoc, numB_ofB w (n / 2) (by omega)]
    have hp : 2 ^ (w + 1) ≤ 2 ^ 64 := Nat.pow_le_pow_right (by omega) h
    have e : n % 2 ^ (w + 1) = 2 * (n / 2 % 2 ^ w) + n % 2 := by
      rw [Nat.pow_succ', Nat.mod_mul]; omega
    rw [← e]
    exact Nat.mod_eq_of_lt (Nat.lt_of_lt_of_le (Nat.mod_lt _ (Nat.two_pow_pos _)) hp)
theorem ofB_take (n k w : Nat) (h : k ≤ w) : (ofB n w).take k = ofB (n / 2 ^ (w - k)) k := by
  apply List.ext_getElem
  · simp [ofB]; omega
  · intro i h1 h2
    have hi : i < k := by simp [ofB] at h2; omega
    simp only [ofB, List.getElem_take, List.getElem_map, List.getElem_range]
    unfold bitFrom
    rw [Nat.div_div_eq_div_mul, ← Nat.pow_add]
    congr 3
    omega
theorem ofB_drop (n k w : Nat) : (ofB n w).drop k = ofB n (w - k) := by
  apply List.ext_getElem
  · simp [ofB]
  · intro i h1 h2
    simp only [ofB, List.getElem_drop, List.getElem_map, List.getElem_range]
    unfold bitFrom
    congr 3
    omega
end Go.Proofs.Ytodeaddmachcjaa
