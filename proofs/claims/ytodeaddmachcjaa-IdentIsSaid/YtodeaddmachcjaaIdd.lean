/- The document's own answers of layer 5 in plain words (Text): what it returns. -/
import Derived.Test.YtodeaddmachcjaaIdc
namespace Go.Proofs.Ytodeaddmachcjaa
open Go.RowKit Go.Shelf
theorem hexT_more : ∀ k m, hexT m (k + 1) = hexD (m / 16 ^ k % 16) :: hexT m k := by
  intro k
  induction k with
  | zero => intro m; show hexT (m / 16) 0 ++ [hexD (m % 16)] = _; simp [hexT]
  | succ k ih =>
    intro m
    show hexT (m / 16) (k + 1) ++ [hexD (m % 16)] = _
    rw [ih (m / 16)]
    show hexD _ :: (hexT (m / 16) k ++ [hexD (m % 16)]) = _ :: hexT m (k + 1)
    rw [Nat.div_div_eq_div_mul, ← Nat.pow_succ']
    rfl
theorem hex_at (d : Nat) (hd : d < 16) : (ByteArray.mk #[48, 49, 50, 51, 52, 53, 54, 55, 56, 57, 97, 98, 99, 100, 101, 102]).extract d (d + 1) = ByteArray.mk #[UInt8.ofNat (hexD d)] := by
  rw [show (#[48, 49, 50, 51, 52, 53, 54, 55, 56, 57, 97, 98, 99, 100, 101, 102] : Array UInt8) = [48, 49, 50, 51, 52, 53, 54, 55, 56, 57, 97, 98, 99, 100, 101, 102].toArray from rfl, ByteArray.extract_mk, show d + 1 - d = 1 by omega]
  have h : d = 0 ∨ d = 1 ∨ d = 2 ∨ d = 3 ∨ d = 4 ∨ d = 5 ∨ d = 6 ∨ d = 7 ∨ d = 8 ∨ d = 9 ∨ d = 10 ∨ d = 11 ∨ d = 12 ∨ d = 13 ∨ d = 14 ∨ d = 15 := by omega
  rcases h with rfl | rfl | rfl | rfl | rfl | rfl | rfl | rfl | rfl | rfl | rfl | rfl | rfl | rfl | rfl | rfl <;> rfl
theorem shr_hex (n k : Nat) : ((n : Int) / 2 ^ (4 * k)) = ((n / 16 ^ k : Nat) : Int) := by
  rw [Int.natCast_ediv, Int.natCast_pow, Int.pow_mul]
  rfl
theorem hex_run (d : Nat) (hd : d < 16) (w : World) : Sem.run Try.prog (Instr.slice 9 (.string ⟨#[48, 49, 50, 51, 52, 53, 54, 55, 56, 57, 97, 98, 99, 100, 101, 102]⟩) (some (.int .u32 (d : Int))) (some (.int .u32 ((d : Int) + 1))) none) w = .ok (.string ⟨#[UInt8.ofNat (hexD d)]⟩) w := by
  have h := run_slice_string (P := Try.prog) w 9 ⟨#[48, 49, 50, 51, 52, 53, 54, 55, 56, 57, 97, 98, 99, 100, 101, 102]⟩ .u32 .u32 (d : Int) ((d : Int) + 1) Try.underlying9 (by omega) (by omega) (by show _ ≤ ((16 : Nat) : Int); omega)
  rw [show ((d : Int) + 1).toNat = d + 1 by omega, show ((d : Int)).toNat = d by omega, hex_at d hd] at h
  exact h
theorem tx_app (a b : ByteArray) : tx (a ++ b) = tx a ++ tx b := by
  show (a ++ b).data.toList.map UInt8.toNat = a.data.toList.map UInt8.toNat ++ b.data.toList.map UInt8.toNat
  rw [← List.map_append, ByteArray.data_append, Array.toList_append]
theorem tx_one (d : Nat) (hd : d < 16) : tx ⟨#[UInt8.ofNat (hexD d)]⟩ = [hexD d] := by
  show [(UInt8.ofNat (hexD d)).toNat] = [hexD d]
  have : hexD d < 256 := by unfold hexD; split <;> omega
  rw [UInt8.toNat_ofNat_of_lt' this]
set_option maxHeartbeats 2000000 in
theorem refText_any (e : Bool) (n : Nat) (w : World) : Calls Try.prog 21 #[identV e n] w fun x w' => ∃ t, x = .returned (.string t) ∧ tx t = idText e n ∧ Below w.heap.size w w' := by
  have HR := Lib.hid (fun u => refRight5_any e n u)
  obtain ⟨b, hb⟩ : ∃ b, b = rightI e n := ⟨_, rfl⟩
  rw [← hb] at HR
  unfold identV at HR ⊢
  have HBB := Lib.hid hb
  clear hb
  cases b
  · go_enter Try.func21, Try.ntmps21
    go_wp2_with fail
    refine (HR.out _).mono ?_
    rintro x w1 ⟨rfl, hb⟩
    have HB := Lib.hid (below_trans' ((Below.refl _ w).alloc (Nat.le_refl _) (.cells #[.bool e, .int .u32 (n : Int)] 24)) hb)
    clear hb
    go_wp2_with fail
    go_ret
    exact ⟨_, rfl, by unfold idText; rw [if_neg (by rw [← HBB.out]; decide)]; rfl, HB.out⟩
  · go_enter Try.func21, Try.ntmps21
    go_wp2_with fail
    refine (HR.out _).mono ?_
    rintro x w1 ⟨rfl, hb⟩
    have HT := Lib.hid ((Two.new w (.bool e) (.int .u32 (n : Int)) 24 rfl).keep hb (by simp))
    have HB := Lib.hid (below_trans' ((Below.refl _ w).alloc (Nat.le_refl _) (.cells #[.bool e, .int .u32 (n : Int)] 24)) hb)
    clear hb
    obtain ⟨p0, p1, _, _⟩ := HT.out
    cases e
    · have hl : rightI false n = true := HBB.out.symm
      go_wp2_with fail
      go_loopw [4, 5] (fun sv i wr => ∃ (k : Nat) (t : ByteArray), k ≤ 3 ∧ i = .int .i64 k ∧ sv = .string t ∧ tx t = hexT n k ∧ wr = w1) (fun _ i _ => 3 - (intOf i).toNat)
      case atStart => exact ⟨0, _, Nat.zero_le _, rfl, rfl, rfl, rfl⟩
      case round =>
        obtain ⟨k, t, hk, rfl, rfl, ht, rfl⟩ := hrel
        by_cases hlt : k < 3
        · have hts : ¬ 9223372036854775807 < 1 + t.size := by have h := congrArg List.length ht; rw [tx_length, hexT_length] at h; omega
          have HX := Lib.hid ht
          clear ht
          have i1 : (0 : Int) ≤ (k : Int) := by omega
          have i2 : (k : Int) < 3 := by omega
          have e2 : IntKind.i64.wrap (4 * (k : Int)) = ((4 * k : Nat) : Int) := by rw [IntKind.wrap_i64]; omega
          have e3 : IntKind.u64.wrap ((4 * k : Nat) : Int) = ((4 * k : Nat) : Int) := by rw [IntKind.wrap_u64]; omega
          obtain ⟨d, hd⟩ : ∃ d, d = n / 16 ^ k % 16 := ⟨_, rfl⟩
          have hd16 : d < 16 := by omega
          have e4 : ((n : Int) / 2 ^ (4 * k)).tmod 16 = (d : Int) := by
            have h := shr_hex n k
            rw [h, Int.tmod_eq_emod_of_nonneg (Int.natCast_nonneg _), hd]
            rfl
          have e5 : ((d : Int) + 1) % 4294967296 = (d : Int) + 1 := by omega
          have hrun := hex_run d hd16 wr
          have HD := Lib.hid hd
          clear hd
          go_wp2_with fail
          refine ⟨⟨k + 1, _, by omega, by simp, rfl, ?_, trivial⟩, by simp [intOf]; omega⟩
          rw [tx_app, tx_one d hd16, HX.out, hexT_more, HD.out]
          rfl
        · have hkk : k = 3 := by omega
          subst hkk
          have HX := Lib.hid ht
          clear ht
          go_wp2_with fail
          go_ret
          exact ⟨t, rfl, by rw [HX.out]; unfold idText; rw [if_pos HBB.out.symm]; rfl, HB.out⟩
    · have hl : rightI true n = true := HBB.out.symm
      go_wp2_with fail
      go_loopw [4, 5] (fun sv i wr => ∃ (k : Nat) (t : ByteArray), k ≤ 8 ∧ i = .int .i64 k ∧ sv = .string t ∧ tx t = hexT n k ∧ wr = w1) (fun _ i _ => 8 - (intOf i).toNat)
      case atStart => exact ⟨0, _, Nat.zero_le _, rfl, rfl, rfl, rfl⟩
      case round =>
        obtain ⟨k, t, hk, rfl, rfl, ht, rfl⟩ := hrel
        by_cases hlt : k < 8
        · have hts : ¬ 9223372036854775807 < 1 + t.size := by have h := congrArg List.length ht; rw [tx_length, hexT_length] at h; omega
          have HX := Lib.hid ht
          clear ht
          have i1 : (0 : Int) ≤ (k : Int) := by omega
          have i2 : (k : Int) < 8 := by omega
          have e2 : IntKind.i64.wrap (4 * (k : Int)) = ((4 * k : Nat) : Int) := by rw [IntKind.wrap_i64]; omega
          have e3 : IntKind.u64.wrap ((4 * k : Nat) : Int) = ((4 * k : Nat) : Int) := by rw [IntKind.wrap_u64]; omega
          obtain ⟨d, hd⟩ : ∃ d, d = n / 16 ^ k % 16 := ⟨_, rfl⟩
          have hd16 : d < 16 := by omega
          have e4 : ((n : Int) / 2 ^ (4 * k)).tmod 16 = (d : Int) := by
            have h := shr_hex n k
            rw [h, Int.tmod_eq_emod_of_nonneg (Int.natCast_nonneg _), hd]
            rfl
          have e5 : ((d : Int) + 1) % 4294967296 = (d : Int) + 1 := by omega
          have hrun := hex_run d hd16 wr
          have HD := Lib.hid hd
          clear hd
          go_wp2_with fail
          refine ⟨⟨k + 1, _, by omega, by simp, rfl, ?_, trivial⟩, by simp [intOf]; omega⟩
          rw [tx_app, tx_one d hd16, HX.out, hexT_more, HD.out]
          rfl
        · have hkk : k = 8 := by omega
          subst hkk
          have HX := Lib.hid ht
          clear ht
          go_wp2_with fail
          go_ret
          exact ⟨t, rfl, by rw [HX.out]; unfold idText; rw [if_pos HBB.out.symm]; rfl, HB.out⟩
end Go.Proofs.Ytodeaddmachcjaa
