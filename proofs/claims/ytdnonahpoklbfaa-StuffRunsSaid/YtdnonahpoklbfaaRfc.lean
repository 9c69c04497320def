/- The document's own Pack in plain words: what it returns. Conditions: strings are strings, and not longer than a thousand. -/
import Derived.Test.YtdnonahpoklbfaaRfb
namespace Go.Proofs.Ytdnonahpoklbfaa
open Go.RowKit Go.Shelf
theorem or_add {a b e : Nat} (hb : b ≤ 1) : (2 ^ (e + 1) * a) ||| (b * 2 ^ e) = 2 ^ (e + 1) * a + b * 2 ^ e := by
  have hp : 0 < 2 ^ e := Nat.two_pow_pos e
  have h : b * 2 ^ e < 2 ^ (e + 1) := by
    rw [Nat.pow_succ]
    have : b * 2 ^ e ≤ 1 * 2 ^ e := Nat.mul_le_mul_right _ hb
    omega
  exact (Nat.two_pow_add_eq_or_of_lt h a).symm
theorem packOn_low (bs : List Nat) (q : Nat) : ∀ k, k ≤ 8 * q + 8 → ∃ a, packOn bs (List.range k) q = 2 ^ (8 * q + 8 - k) * a
  | 0, _ => ⟨0, rfl⟩
  | k + 1, hk => by
    obtain ⟨a, ha⟩ := packOn_low bs q k (by omega)
    have e : 8 * q + 8 - k = (8 * q + 8 - (k + 1)) + 1 := by omega
    rw [List.range_succ, packOn_snoc, ha, e]
    split
    · rename_i hq
      rw [show 7 - k % 8 = 8 * q + 8 - (k + 1) by omega, or_add (bitAt_le bs k)]
      refine ⟨2 * a + bitAt bs k, ?_⟩
      rw [Nat.pow_succ, Nat.mul_add, Nat.mul_assoc, Nat.mul_comm (bitAt bs k)]
    · exact ⟨2 * a, by rw [Nat.pow_succ, Nat.mul_assoc]⟩
theorem packOn_add (bs : List Nat) (k : Nat) (h : bitAt bs k = 1) : packOn bs (List.range (k + 1)) (k / 8) = packOn bs (List.range k) (k / 8) + 2 ^ (7 - k % 8) := by
  obtain ⟨a, ha⟩ := packOn_low bs (k / 8) k (by omega)
  have e : 8 * (k / 8) + 8 - k = (7 - k % 8) + 1 := by omega
  rw [List.range_succ, packOn_snoc, if_pos rfl, ha, e, h, or_add (Nat.le_refl 1), Nat.one_mul]
theorem packOn_else (bs : List Nat) (k j : Nat) (h : j ≠ k / 8) : packOn bs (List.range (k + 1)) j = packOn bs (List.range k) j := by
  rw [List.range_succ, packOn_snoc, if_neg (fun e => h e.symm)]
theorem packOn_none (bs : List Nat) (k j : Nat) (h : bitAt bs k = 0) : packOn bs (List.range (k + 1)) j = packOn bs (List.range k) j := by
  rw [List.range_succ, packOn_snoc, h]
  simp
set_option maxHeartbeats 400000 in
theorem refPack_any (a : Option Addr) (len cap : Nat) (bs : List Nat) (hs : bs.length ≤ 1000) (w : World) (hI : Str w.heap.size w (.slice a len cap) bs) :
    Calls Try.prog 38 #[.slice a len cap] w fun e w' => ∃ v, e = .returned v ∧ Made w.heap.size w' v (packB bs) ∧ Below w.heap.size w w' := by
  obtain rfl := hI.len
  obtain ⟨m, hm⟩ : ∃ m, m = (bs.length + 7) / 8 := ⟨_, rfl⟩
  have em : ((bs.length : Int) + 7) / 8 = (m : Int) := by omega
  have hmk := make_bytes m (by omega)
  have HI := Lib.hid hI; have HM := Lib.hid hm; clear hI hm
  go_enter Try.func38, Try.ntmps38
  go_wp2
  clear hmk
  go_loopw [4] (fun i wr => ∃ k : Nat, k ≤ bs.length ∧ i = .int .i64 k ∧ wr.rowIs w.heap.size 5 m (fun j => .int .u8 ((packOn bs (List.range k) j : Nat) : Int)) ∧ Below w.heap.size w wr) (fun i _ => bs.length - (intOf i).toNat)
  case atStart => exact ⟨0, Nat.zero_le _, rfl, World.rowIs_made _ _ _ _, (Below.refl _ _).alloc (Nat.le_refl _) _⟩
  case round =>
    obtain ⟨k, hk, rfl, hrow, hbel⟩ := hrel
    by_cases hlt : k < bs.length
    · obtain ⟨b, off, rfl, hb, hc⟩ := HI.out.at hlt
      have hc1 := hc wr hbel
      obtain ⟨x, hx⟩ : ∃ x, x = bs[k]?.getD 0 := ⟨_, rfl⟩
      rw [← hx] at hc1
      have hv : bitN x = bitAt bs k := by rw [hx]; rfl
      obtain ⟨q, hq⟩ : ∃ q, q = k / 8 := ⟨_, rfl⟩
      obtain ⟨s, hs⟩ : ∃ s, s = 7 - k % 8 := ⟨_, rfl⟩
      have hqm : q < m := by rw [HM.out]; omega
      have hcell := World.rowIs.cell hrow hqm
      have hfree := World.rowIs.frozen hrow q
      have HROW := Lib.hid hrow; have HB := Lib.hid hbel
      clear hc hx hb hrow hbel
      by_cases hx0 : x = 0
      · subst hx0
        rw [bitN_zero] at hv
        have HV := Lib.hid hv
        clear hv hcell hfree hq hs
        go_wp2
        go_roundw
        case rel => exact ⟨k + 1, by omega, by simp, HROW.out.congr (fun j _ => by rw [packOn_none bs k j HV.out.symm]), HB.out⟩
        case measure => simp [intOf]; omega
      · rw [bitN_pos hx0] at hv
        have hxn : ((x : Int) != 0) = true := by simp; omega
        obtain ⟨c, hcc⟩ : ∃ c, c = packOn bs (List.range k) q := ⟨_, rfl⟩
        rw [← hcc] at hcell
        have eq8 : (k : Int) / 8 = (q : Int) := by omega
        have es8 : 7 - (k : Int) % 8 = (s : Int) := by omega
        have hs7 : s ≤ 7 := by omega
        obtain ⟨r, hr⟩ : ∃ r, r = c + 2 ^ s := ⟨_, rfl⟩
        have hrp : r = packOn bs (List.range (k + 1)) q := by rw [hr, hcc, hq, hs, packOn_add bs k hv.symm]
        have hr256 : r < 256 := by rw [hrp]; exact packOn_lt _ _ _
        have h2 : 2 ^ s < 256 := by omega
        have er : ((c : Int) + 2 ^ s) % 256 = (r : Int) := by
          rw [show ((2 : Int) ^ s) = ((2 ^ s : Nat) : Int) by simp]; omega
        have HR := Lib.hid hrp; have HQ := Lib.hid hq
        clear hv hcc hr hrp hr256 h2 hq hs hx0
        go_wp2
        go_roundw
        case rel =>
          refine ⟨k + 1, by omega, by simp, ?_, HB.out.setCell (p := ⟨w.heap.size, q, none⟩) (Nat.le_refl _) _⟩
          refine World.rowIs.congr (HROW.out.set q (.int .u8 _)) (fun j _ => ?_)
          by_cases hj : j = q
          · rw [if_pos hj, hj, HR.out]
          · rw [if_neg hj, packOn_else bs k j (by rw [← HQ.out]; exact hj)]
        case measure => simp [intOf]; omega
    · obtain rfl : k = bs.length := by omega
      have HROW := Lib.hid hrow
      clear hrow
      go_wp2
      go_ret
      refine ⟨_, rfl, ⟨w.heap.size, by rw [packB_length, ← HM.out]; rfl, Nat.le_refl _, by rw [packB_length, ← HM.out]; have := HM.out; omega, ?_⟩, hbel⟩
      rw [packB_length, ← HM.out]
      exact HROW.out.congr (fun j hj => by rw [packB_get _ _ (by rw [← HM.out]; exact hj)])
end Go.Proofs.Ytdnonahpoklbfaa
