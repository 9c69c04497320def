/- The document's own answers of layer 2 in plain words (Run, Same, Pack): what they return. Conditions: strings are strings, and not longer than a thousand. -/
import Derived.Test.YtdnonahpoklbfaaRfa
namespace Go.Proofs.Ytdnonahpoklbfaa
open Go.RowKit Go.Shelf
theorem one_quiet (x : Nat) (w : World) (n m : Nat) : Calls Try.prog 46 #[.int .u8 x] (w.drewN (n + m)) fun e w' => e = .returned (.int .u8 (bitN x : Nat)) ∧ ∃ k, w' = w.drewN (n + k) :=
  (one_any x _).mono fun _ _ h => ⟨h.1, m, h.2.symm⟩
set_option maxHeartbeats 400000 in
theorem refSame_any (a : Option Addr) (len cap : Nat) (xs : List Nat) (a2 : Option Addr) (len2 cap2 : Nat) (ys : List Nat) (w : World) (hI : Str w.heap.size w (.slice a len cap) xs) (hI2 : Str w.heap.size w (.slice a2 len2 cap2) ys) :
    Calls Try.prog 23 #[.slice a len cap, .slice a2 len2 cap2] w fun e w' => e = .returned (.bool (sameV xs ys)) ∧ Below w.heap.size w w' := by
  have hl := hI.len
  have hl2 := hI2.len
  have hcm := hI.capLe
  have hcl := hI.lenCap
  by_cases hlen : len = len2
  · have hne : ((len : Int) != (len2 : Int)) = false := by rw [hlen]; simp
    have hlm : len ≤ 9223372036854775807 := by omega
    have HI := Lib.hid hI; have HI2 := Lib.hid hI2; have HL := Lib.hid hl; have HL2 := Lib.hid hl2; have HLEN := Lib.hid hlen
    clear hI hI2 hl hl2 hlen hcl hcm
    go_enter Try.func23, Try.ntmps23
    go_wp2
    go_loopw [5] (fun i wr => ∃ (k n : Nat), k ≤ len ∧ i = .int .i64 k ∧ (∀ j, j < k → bitAt xs j = bitAt ys j) ∧ wr = w.drewN n) (fun i _ => len - (intOf i).toNat)
    case atStart => exact ⟨0, 0, Nat.zero_le _, rfl, (fun j hj => by cases hj), rfl⟩
    case round =>
      obtain ⟨k, n, hk, rfl, heq, rfl⟩ := hrel
      have HEQ := Lib.hid heq; clear heq
      by_cases hlt : k < len
      · have hlt2 : k < len2 := by rw [← HLEN.out]; exact hlt
        obtain ⟨b, off, rfl, _, hcx⟩ := HI.out.at hlt
        obtain ⟨b2, off2, rfl, _, hcy⟩ := HI2.out.at hlt2
        have hc1 := hcx w (Below.refl _ _)
        have hc2 := hcy w (Below.refl _ _)
        obtain ⟨x, hx⟩ : ∃ x, x = xs[k]?.getD 0 := ⟨_, rfl⟩
        obtain ⟨y, hy⟩ : ∃ y, y = ys[k]?.getD 0 := ⟨_, rfl⟩
        rw [← hx] at hc1
        rw [← hy] at hc2
        have HX := Lib.hid (show bitN x = bitAt xs k by rw [hx]; rfl)
        have HY := Lib.hid (show bitN y = bitAt ys k by rw [hy]; rfl)
        clear hx hy hcx hcy
        have i1 : (0 : Int) ≤ (k : Int) := by omega
        have i2 : (k : Int) < (len : Int) := by omega
        have i3 : (k : Int) < (len2 : Int) := by omega
        by_cases hxy : bitN x = bitN y
        · have hne2 : ((bitN x : Int) != (bitN y : Int)) = false := by rw [hxy]; simp
          have HXY := Lib.hid hxy
          clear hxy
          go_wp2
          go_quiet (exact one_quiet _ _ _ _)
          go_wp2
          go_roundw
          case rel => exact ⟨k + 1, _, by omega, by simp, (fun j hj => by
            by_cases e : j = k
            · rw [e, ← HX.out, ← HY.out, HXY.out]
            · exact HEQ.out j (by omega)), rfl⟩
          case measure => simp [intOf]; omega
        · have hne2 : ((bitN x : Int) != (bitN y : Int)) = true := by simp; omega
          have HXY := Lib.hid hxy
          clear hxy
          go_wp2
          go_quiet (exact one_quiet _ _ _ _)
          go_wp2
          go_ret
          rw [same_no (k := k) (by rw [← HL.out]; exact hlt) (by rw [← HL.out, ← HL2.out]; exact HLEN.out) (by rw [← HX.out, ← HY.out]; exact HXY.out)]
          exact ⟨rfl, below_drewN' (below_drewN' (Below.refl _ _) _) _⟩
      · obtain rfl : k = len := by omega
        have hres : sameV xs ys = true := decide_eq_true (bits_ext (by rw [← HL.out, ← HL2.out]; exact HLEN.out) (fun j hj => HEQ.out j (by rw [HL.out]; exact hj)))
        go_wp2
        go_ret
        rw [hres]
        exact ⟨rfl, below_drewN' (Below.refl _ _) _⟩
  · have hne : ((len : Int) != (len2 : Int)) = true := by simp; omega
    have hres : sameV xs ys = false := same_len (by omega)
    rw [hres]
    clear hres hl hl2 hI hI2 hlen hcm hcl
    go_enter Try.func23, Try.ntmps23
    go_wp2
    go_ret
    exact ⟨rfl, Below.refl _ _⟩
theorem runF_next (bs : List Nat) (k : Nat) : (runF (bitsTo bs (k + 1))).2.2 = bitAt bs k := by rw [bitsTo_succ, runF_snoc]
theorem runF_same {bs : List Nat} {j : Nat} (h : bitAt bs (j + 1) = bitAt bs j) : (runF (bitsTo bs (j + 2))).2.1 = (runF (bitsTo bs (j + 1))).2.1 + 1 ∧ (runF (bitsTo bs (j + 2))).1 = max (runF (bitsTo bs (j + 1))).1 ((runF (bitsTo bs (j + 1))).2.1 + 1) := by
  rw [bitsTo_succ bs (j + 1), runF_snoc, runF_next, if_pos h]
  exact ⟨rfl, rfl⟩
theorem runF_other {bs : List Nat} {j : Nat} (h : bitAt bs (j + 1) ≠ bitAt bs j) : (runF (bitsTo bs (j + 2))).2.1 = 1 ∧ (runF (bitsTo bs (j + 2))).1 = max (runF (bitsTo bs (j + 1))).1 1 := by
  rw [bitsTo_succ bs (j + 1), runF_snoc, runF_next, if_neg h]
  exact ⟨rfl, rfl⟩
theorem runF_first (bs : List Nat) : (runF (bitsTo bs 1)).2.1 = 1 ∧ (runF (bitsTo bs 1)).1 = 1 := by
  have e : bitsTo bs 1 = [] ++ [bitAt bs 0] := rfl
  rw [e, runF_snoc]
  show (if bitAt bs 0 = 0 then 0 else 0) + 1 = 1 ∧ max 0 ((if bitAt bs 0 = 0 then 0 else 0) + 1) = 1
  rw [ite_self]
  exact ⟨rfl, rfl⟩
set_option maxHeartbeats 400000 in
theorem refRun_any (a : Option Addr) (len cap : Nat) (bs : List Nat) (hs : bs.length ≤ 1000) (w : World) (hI : Str w.heap.size w (.slice a len cap) bs) :
    Calls Try.prog 24 #[.slice a len cap] w fun e w' => e = .returned (.int .i64 ((runF (bitsOf bs)).1 : Nat)) ∧ Below w.heap.size w w' := by
  have hl := hI.len
  have hlm : len ≤ 1000 := by omega
  have HI := Lib.hid hI; have HL := Lib.hid hl
  clear hI hl hs
  go_enter Try.func24, Try.ntmps24
  go_wp2
  go_loopw [3, 4, 5] (fun m c i wr => ∃ (k n M C : Nat), k ≤ len ∧ i = .int .i64 k ∧ m = .int .i64 M ∧ c = .int .i64 C ∧ M = (runF (bitsTo bs k)).1 ∧ C = (runF (bitsTo bs k)).2.1 ∧ wr = w.drewN n) (fun _ _ i _ => len - (intOf i).toNat)
  case atStart => exact ⟨0, 0, 0, 0, Nat.zero_le _, rfl, rfl, rfl, rfl, rfl, rfl⟩
  case round =>
    obtain ⟨k, n, M, C, hk, rfl, rfl, rfl, hM, hC, rfl⟩ := hrel
    have hle := runF_le k (bitsTo bs k) (bitsTo_length _ _)
    rw [← hM, ← hC] at hle
    obtain ⟨hM1, hC1⟩ := hle
    by_cases hlt : k < len
    · cases k with
      | zero =>
        obtain rfl : M = 0 := by omega
        obtain rfl : C = 0 := by omega
        clear hM hC
        have HF := Lib.hid (runF_first bs)
        have hd : decide ((0 : Int) > 0) = false := rfl
        go_wp2
        go_quiet (fail)
        go_wp2
        go_roundw
        case rel => exact ⟨1, _, 1, 1, by omega, rfl, rfl, rfl, HF.out.2.symm, HF.out.1.symm, rfl⟩
        case measure => simp [intOf]; omega
      | succ j =>
        have hlt' : j < len := by omega
        obtain ⟨b, off, rfl, _, hcx⟩ := HI.out.at hlt
        obtain ⟨b2, off2, e2, _, hcy⟩ := HI.out.at hlt'
        obtain ⟨rfl, rfl⟩ : b = b2 ∧ off = off2 := by simpa using e2
        have hc1 := hcx w (Below.refl _ _)
        have hc2 := hcy w (Below.refl _ _)
        obtain ⟨x, hx⟩ : ∃ x, x = bs[j + 1]?.getD 0 := ⟨_, rfl⟩
        obtain ⟨y, hy⟩ : ∃ y, y = bs[j]?.getD 0 := ⟨_, rfl⟩
        rw [← hx] at hc1
        rw [← hy] at hc2
        have hbx : bitN x = bitAt bs (j + 1) := by rw [hx]; rfl
        have hby : bitN y = bitAt bs j := by rw [hy]; rfl
        clear hx hy hcx hcy e2
        obtain ⟨k, hkj⟩ : ∃ k, k = j + 1 := ⟨_, rfl⟩
        have hk1 : (k : Int) - 1 = (j : Int) := by omega
        have hk0 : (k : Int) > 0 := by omega
        have hd : decide (0 < k) = true := decide_eq_true (by omega)
        have i1 : (0 : Int) ≤ (k : Int) := by omega
        have i2 : (k : Int) < (len : Int) := by omega
        have i3 : (0 : Int) ≤ (j : Int) := by omega
        have i4 : (j : Int) < (len : Int) := by omega
        rw [← hkj] at hc1 hk hlt hM1 hC1 ⊢
        have HM := Lib.hid hM; have HC := Lib.hid hC; have HKJ := Lib.hid hkj
        clear hM hC hkj
        by_cases hxy : bitN x = bitN y
        · have he : ((bitN x : Int) == (bitN y : Int)) = true := by rw [hxy]; simp
          have HN := Lib.hid (runF_same (bs := bs) (j := j) (by rw [← hbx, ← hby, hxy]))
          clear hxy hbx hby
          by_cases hg : (C : Int) + 1 > (M : Int)
          · go_wp2
            go_quiet (exact one_quiet _ _ _ _)
            go_wp2
            go_roundw
            case rel => exact ⟨k + 1, _, C + 1, C + 1, by omega, by simp, by simp, by simp, by rw [HKJ.out, HN.out.2, ← HM.out, ← HC.out]; omega, by rw [HKJ.out, HN.out.1, ← HC.out], rfl⟩
            case measure => simp [intOf]; omega
          · go_wp2
            go_quiet (exact one_quiet _ _ _ _)
            go_wp2
            go_roundw
            case rel => exact ⟨k + 1, _, M, C + 1, by omega, by simp, by simp, by simp, by rw [HKJ.out, HN.out.2, ← HM.out, ← HC.out]; omega, by rw [HKJ.out, HN.out.1, ← HC.out], rfl⟩
            case measure => simp [intOf]; omega
        · have he : ((bitN x : Int) == (bitN y : Int)) = false := by simp; omega
          have HN := Lib.hid (runF_other (bs := bs) (j := j) (by rw [← hbx, ← hby]; exact hxy))
          clear hxy hbx hby
          by_cases hg : (1 : Int) > (M : Int)
          · go_wp2
            go_quiet (exact one_quiet _ _ _ _)
            go_wp2
            go_roundw
            case rel => exact ⟨k + 1, _, 1, 1, by omega, by simp, by simp, by simp, by rw [HKJ.out, HN.out.2, ← HM.out]; omega, by rw [HKJ.out, HN.out.1], rfl⟩
            case measure => simp [intOf]; omega
          · go_wp2
            go_quiet (exact one_quiet _ _ _ _)
            go_wp2
            go_roundw
            case rel => exact ⟨k + 1, _, M, 1, by omega, by simp, by simp, by simp, by rw [HKJ.out, HN.out.2, ← HM.out]; omega, by rw [HKJ.out, HN.out.1], rfl⟩
            case measure => simp [intOf]; omega
    · obtain rfl : k = len := by omega
      have HM := Lib.hid hM
      clear hM hC
      go_wp2
      go_ret
      rw [HM.out, HL.out, bitsTo_all]
      exact ⟨rfl, below_drewN' (Below.refl _ _) _⟩
end Go.Proofs.Ytdnonahpoklbfaa
