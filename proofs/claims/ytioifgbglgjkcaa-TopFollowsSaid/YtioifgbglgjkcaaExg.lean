/- The library's division of 128 bits by 64, whole; and exact's own division of a product, and Scale. Conditions: the arguments are numbers of their kinds. -/
import Derived.Test.YtioifgbglgjkcaaExf
import Derived.Test.YtioifgbglgjkcaaExe
import Derived.Lib.ItoaNum
namespace Go.Proofs.Ytioifgbglgjkcaa
open Go.RowKit
theorem ex1 (a b c M : Nat) : (a * M + b) * c = a * c * M + b * c := by rw [Nat.add_mul, Nat.mul_right_comm]
theorem join3 {A hP lP u q v M : Nat} (h1 : A = hP * M + lP) (h2 : lP = q * M + v) (h3 : u = hP + q) : A = u * M + v := by
  rw [h1, h2, h3, Nat.add_mul, Nat.add_assoc]
theorem join4 {u v vh vl B Q1 Q0 Y u21 R : Nat} (hv : v = vh * B + vl) (h1 : u * B + vh = Q1 * Y + u21) (h2 : u21 * B + vl = Q0 * Y + R) : u * (B * B) + v = (Q1 * B + Q0) * Y + R := by
  have e : u * (B * B) + v = (u * B + vh) * B + vl := by rw [hv, Nat.add_mul, Nat.mul_assoc, Nat.add_assoc]
  rw [e, h1, Nat.add_mul, Nat.add_assoc, h2, ex1, Nat.add_assoc]
/-- The arithmetic of the library's text: P is the power of two by which the divisor is shifted, K what is left of 2 to the 64. -/
theorem knuth (h l y P K Y u v10 Q1 Q0 u21 R : Nat) (hP : 0 < P) (hPK : P * K = 18446744073709551616) (hY : Y = y * P) (hu : u = h * P + l / K) (hv : v10 = l * P % 18446744073709551616)
    (h1 : u * 4294967296 + v10 / 4294967296 = Q1 * Y + u21) (h2 : u21 * 4294967296 + v10 % 4294967296 = Q0 * Y + R) (hR : R < Y) :
    (h * 18446744073709551616 + l) / y = Q1 * 4294967296 + Q0 ∧ (h * 18446744073709551616 + l) % y = R / P := by
  have hK : 0 < K := by rcases Nat.eq_zero_or_pos K with e | e; · rw [e] at hPK; omega
                        · exact e
  have e1 : l * P / 18446744073709551616 = l / K := by
    rw [← hPK, Nat.mul_comm l P, Nat.mul_div_mul_left _ _ hP]
  have e2 : l * P = l / K * 18446744073709551616 + v10 := by
    have := Nat.div_add_mod (l * P) 18446744073709551616
    rw [e1] at this
    omega
  have e3 : (h * 18446744073709551616 + l) * P = u * 18446744073709551616 + v10 := join3 (ex1 _ _ _ _) e2 hu
  have e4 : u * 18446744073709551616 + v10 = (Q1 * 4294967296 + Q0) * Y + R := join4 (B := 4294967296) (by omega) h1 h2
  have e6 : (h * 18446744073709551616 + l) * P = (Q1 * 4294967296 + Q0) * y * P + R := by rw [e3, e4, hY, Nat.mul_assoc]
  have hdiv : P ∣ R := by
    have d1 : P ∣ (Q1 * 4294967296 + Q0) * y * P + R := by rw [← e6]; exact Nat.dvd_mul_left _ _
    exact (Nat.dvd_add_right (Nat.dvd_mul_left _ _)).1 d1
  obtain ⟨r, rfl⟩ := hdiv
  have hry : r < y := by
    rw [hY, Nat.mul_comm y P] at hR
    exact Nat.lt_of_mul_lt_mul_left hR
  have e7 : h * 18446744073709551616 + l = (Q1 * 4294967296 + Q0) * y + r := by
    apply Nat.eq_of_mul_eq_mul_right hP
    rw [e6, Nat.add_mul ((Q1 * 4294967296 + Q0) * y) r P, Nat.mul_comm P r]
  rw [e7, Nat.mul_div_cancel_left _ hP]
  exact ⟨by rw [Nat.add_comm, Nat.add_mul_div_right _ _ (by omega), Nat.div_eq_of_lt hry, Nat.zero_add], by rw [Nat.add_comm, Nat.add_mul_mod_self_right, Nat.mod_eq_of_lt hry]⟩
theorem digit_lt {u v Y : Nat} (hu : u < Y) (hv : v < 4294967296) : (u * 4294967296 + v) / Y < 4294967296 := by
  rw [Nat.div_lt_iff_lt_mul (by omega)]
  have : (u + 1) * 4294967296 ≤ Y * 4294967296 := Nat.mul_le_mul_right _ (by omega)
  rw [Nat.mul_comm 4294967296 Y]
  omega
theorem guess_top {u y1 y0 : Nat} (h1 : 2147483648 ≤ y1) (h0 : y0 < 4294967296) (hu : u < y1 * 4294967296 + y0) : u / y1 ≤ 4294967297 := by
  refine Nat.le_of_lt_succ ((Nat.div_lt_iff_lt_mul (by omega)).2 ?_)
  have : 4294967298 * y1 = y1 * 4294967296 + 2 * y1 := by omega
  omega
theorem wrap_rest {u v Q Y R : Nat} (hR : R < 18446744073709551616) (h : u * 4294967296 + v = Q * Y + R) :
    IntKind.u64.wrap (IntKind.u64.wrap (IntKind.u64.wrap ((u : Int) * 4294967296) + v) - IntKind.u64.wrap ((Q : Int) * Y)) = (R : Int) := by
  have e : (Q : Int) * Y = ((Q * Y : Nat) : Int) := by simp
  rw [e]
  simp only [IntKind.wrap_u64]
  omega
theorem mask_low (a : Nat) (ha : a < 18446744073709551616) : bits .and .u64 (a : Int) 4294967295 = ((a % 4294967296 : Nat) : Int) := by
  have h := bits_and_u64_nat a 4294967295 ha (by omega)
  have e : a &&& 4294967295 = a % 4294967296 := Nat.and_two_pow_sub_one_eq_mod a 32
  rw [e] at h
  exact h
theorem bit_len (y : Nat) (hy : 1 ≤ y) (hy2 : y < 18446744073709551616) : 1 ≤ Lib.bitLen y ∧ Lib.bitLen y ≤ 64 ∧ 2 ^ (Lib.bitLen y - 1) ≤ y ∧ y < 2 ^ Lib.bitLen y := by
  exact ⟨(Lib.bitLenAux_bounds 64 y hy2 (by omega)).1, Lib.bitLen_le y 64 (by omega) hy2, (Lib.bitLenAux_bounds 64 y hy2 (by omega)).2⟩
theorem div64_high (h l y : Nat) (hh : 1 ≤ h) (hy : h < y) (hl : l < 18446744073709551616) (hy2 : y < 18446744073709551616) (w : World) :
    Calls Try.prog 71 #[.int .u64 h, .int .u64 l, .int .u64 y] w fun e w' => e = .returned (.tuple #[.int .u64 (((h * 18446744073709551616 + l) / y : Nat) : Int), .int .u64 (((h * 18446744073709551616 + l) % y : Nat) : Int)]) ∧ w' = w := by
  obtain ⟨b1, b2, b3, b4⟩ := bit_len y (by omega) hy2
  obtain ⟨s, hs⟩ : ∃ s, s = 64 - Lib.bitLen y := ⟨_, rfl⟩
  obtain ⟨P, hP⟩ : ∃ P, P = 2 ^ s := ⟨_, rfl⟩
  obtain ⟨K, hK⟩ : ∃ K, K = 2 ^ (64 - s) := ⟨_, rfl⟩
  have hPK : P * K = 18446744073709551616 := by rw [hP, hK, ← Nat.pow_add, show s + (64 - s) = 64 by omega]
  have hPpos : 0 < P := by rw [hP]; exact Nat.two_pow_pos _
  have eK : K = 2 ^ Lib.bitLen y := by rw [hK]; congr 1; omega
  have hyK : y < K := by rw [eK]; exact b4
  have hKy : K ≤ 2 * y := by
    have : 2 ^ Lib.bitLen y = 2 * 2 ^ (Lib.bitLen y - 1) := by rw [← Nat.pow_succ']; congr 1; omega
    rw [eK]; omega
  have hYhi : y * P < 18446744073709551616 := by rw [← hPK, Nat.mul_comm P K]; exact Nat.mul_lt_mul_of_pos_right hyK hPpos
  have hYlo : 9223372036854775808 ≤ y * P := by
    have : K * P ≤ 2 * y * P := Nat.mul_le_mul_right _ hKy
    rw [Nat.mul_comm K P, hPK, Nat.mul_assoc] at this
    omega
  have hlK : l / K < P := by rw [Nat.div_lt_iff_lt_mul (by omega), hPK]; exact hl
  have hlK2 : l / K < 18446744073709551616 := Nat.lt_of_le_of_lt (Nat.div_le_self _ _) hl
  have hhP : h * P + P ≤ y * P := by
    have : (h + 1) * P ≤ y * P := Nat.mul_le_mul_right _ (by omega)
    rw [Nat.add_mul, Nat.one_mul] at this
    exact this
  obtain ⟨Y, hY⟩ : ∃ Y, Y = y * P := ⟨_, rfl⟩
  obtain ⟨u, hu⟩ : ∃ u, u = h * P + l / K := ⟨_, rfl⟩
  obtain ⟨v10, hv⟩ : ∃ v, v = l * P % 18446744073709551616 := ⟨_, rfl⟩
  have huY : u < Y := by omega
  have hYs : Y / 4294967296 * 4294967296 + Y % 4294967296 = Y := by omega
  have g1 : u * 4294967296 + v10 / 4294967296 = (u * 4294967296 + v10 / 4294967296) / Y * Y + (u * 4294967296 + v10 / 4294967296) % Y := (Nat.div_add_mod' _ _).symm
  obtain ⟨u21, hu21⟩ : ∃ z, z = (u * 4294967296 + v10 / 4294967296) % Y := ⟨_, rfl⟩
  obtain ⟨Q1, hQ1⟩ : ∃ z, z = (u * 4294967296 + v10 / 4294967296) / Y := ⟨_, rfl⟩
  rw [← hu21, ← hQ1] at g1
  have l21 : u21 < Y := by rw [hu21]; exact Nat.mod_lt _ (by omega)
  have g2 : u21 * 4294967296 + v10 % 4294967296 = (u21 * 4294967296 + v10 % 4294967296) / Y * Y + (u21 * 4294967296 + v10 % 4294967296) % Y := (Nat.div_add_mod' _ _).symm
  obtain ⟨R, hR⟩ : ∃ z, z = (u21 * 4294967296 + v10 % 4294967296) % Y := ⟨_, rfl⟩
  obtain ⟨Q0, hQ0⟩ : ∃ z, z = (u21 * 4294967296 + v10 % 4294967296) / Y := ⟨_, rfl⟩
  rw [← hR, ← hQ0] at g2
  have lR : R < Y := by rw [hR]; exact Nat.mod_lt _ (by omega)
  have hv10 : v10 < 18446744073709551616 := by rw [hv]; exact Nat.mod_lt _ (by omega)
  have key := knuth h l y P K Y u v10 Q1 Q0 u21 R hPpos hPK hY hu hv g1 g2 lR
  have cP : ((2 : Int) ^ s) = (P : Int) := by rw [hP]; simp
  have cK : ((2 : Int) ^ (64 - s)) = (K : Int) := by rw [hK]; simp
  have core := div64_core h l y Y u v10 (Y / 4294967296) (Y % 4294967296) (v10 / 4294967296) (v10 % 4294967296) s Q1 u21 Q0 hh hy hy2 (by omega)
    (by have : (y : Int).toNat = y := by omega
        rw [this]; omega)
    (by rw [cP, wm _ _ hYhi, hY]) (by omega) (mask_low Y (by omega))
    (by
      rw [cP, cK, wm _ _ (by omega), ← Int.natCast_ediv]
      have j := bits_join .u64 64 (by decide) wraps_u64 s ((h * P : Nat) : Int) ((l / K : Nat) : Int) (by omega) (by rw [cP, Int.natCast_mul]; exact Int.mul_emod_left _ _) (by omega) (Int.natCast_nonneg _) (by rw [cP]; exact_mod_cast hlK) (by exact_mod_cast hlK2)
      rw [j, hu]
      omega)
    (by rw [cP, IntKind.wrap_u64, hv]; simp) (by omega) (mask_low v10 hv10)
    (by omega) (by omega) (by omega) (by omega) (by omega) (by omega)
    (by rw [hYs]; exact hQ1) (by rw [hQ1]; exact digit_lt huY (by omega)) (guess_top (y0 := Y % 4294967296) (by omega) (by omega) (by omega))
    (wrap_rest (by omega) g1) (by omega) (by rw [hYs]; exact hQ0) (by rw [hQ0]; exact digit_lt l21 (by omega)) (guess_top (y0 := Y % 4294967296) (by omega) (by omega) (by omega)) w
  refine core.mono fun e w' he => ⟨?_, he.2⟩
  rw [he.1, wrap_rest (by omega) g2, cP, key.1, key.2]
  exact ret_uu (by omega) (by rw [← Int.natCast_ediv])
end Go.Proofs.Ytioifgbglgjkcaa
