/- Layer 19's own: small configs. Conditions: the arguments are numbers of 64 bits. -/
import Derived.Test.YtpamkmpaldepnaaAcl
namespace Go.Proofs.Ytpamkmpaldepnaa
open Go.RowKit
def posI (n : Int) : Int := if n < 0 then 0 else n
def smN (n : Int) : Int := posI n % 5000 + 2
def smD (n d : Int) : Int := posI d % (smN n / 2)
def smT (u : Int) : Int := posI u % 4097
theorem pos_ge (n : Int) : 0 ≤ posI n := by unfold posI; split <;> omega
theorem sm_in (n d u : Int) : (2 ≤ smN n ∧ smN n ≤ 5001) ∧ (0 ≤ smD n d ∧ smD n d < smN n / 2) ∧ (0 ≤ smT u ∧ smT u ≤ 4096) := by
  have h1 := pos_ge n; have h2 := pos_ge d; have h3 := pos_ge u
  have h4 : 2 ≤ smN n ∧ smN n ≤ 5001 := by unfold smN; omega
  refine ⟨h4, ?_, by unfold smT; omega⟩
  unfold smD
  exact ⟨Int.emod_nonneg _ (by omega), Int.emod_lt_of_pos _ (by omega)⟩
theorem sm_right (n d u : Int) : rightC (smN n) (smD n d) (smT u) = true := by
  obtain ⟨h1, h2, h3⟩ := sm_in n d u
  unfold rightC rightO
  simp
  omega
set_option maxHeartbeats 4000000 in
theorem lw_small19 (n d u : Int) (_hn : -9223372036854775808 ≤ n ∧ n ≤ 9223372036854775807) (w : World) : Calls Try.prog 29 #[.agg #[.int .i64 n, .int .i64 d, .int .i64 u]] w fun y w' => y = .returned (.agg #[.int .i64 (smN n), .int .i64 (smD n d), .int .i64 (smT u)]) ∧ Below w.heap.size w w' := by
  obtain ⟨b1, b2, b3⟩ := sm_in n d u
  have p1 := pos_ge n; have p2 := pos_ge d; have p3 := pos_ge u
  obtain ⟨N, hN⟩ : ∃ N, N = smN n := ⟨_, rfl⟩
  obtain ⟨h, hh⟩ : ∃ h, h = N / 2 := ⟨_, rfl⟩
  obtain ⟨D, hD⟩ : ∃ D, D = smD n d := ⟨_, rfl⟩
  obtain ⟨T, hT⟩ : ∃ T, T = smT u := ⟨_, rfl⟩
  have e1 : wrap64 (posI n % 5000 + 2) = N := by rw [hN]; unfold smN; exact w64_in _ (by omega)
  have g1 : wrap64 ((posI n).tmod 5000 + 2) = N := by rw [Int.tmod_eq_emod_of_nonneg p1]; exact e1
  have e2 : posI d % h = D := by rw [hD, hh, hN]; rfl
  have g2 : (posI d).tmod h = D := by rw [Int.tmod_eq_emod_of_nonneg p2]; exact e2
  have e3 : posI u % 4097 = T := by rw [hT]; rfl
  have g3 : (posI u).tmod 4097 = T := by rw [Int.tmod_eq_emod_of_nonneg p3]; exact e3
  rw [← hN, ← hD, ← hT]
  rw [← hN] at b1 b2
  have f1 : wrap64 (N / 2) = h := by rw [hh]; exact w64_in _ (by omega)
  have f2 : N.tdiv 2 = h := by rw [Int.tdiv_eq_ediv_of_nonneg (by omega)]; exact hh.symm
  have f3 : wrap64 (N.tdiv 2) = h := by rw [f2, hh]; exact w64_in _ (by omega)
  have f4 : N / 2 = h := hh.symm
  have f5 : ¬ h = 0 := by omega
  have HF4 := Lib.hid f4
  have HE1 := Lib.hid (show posI n % 5000 + 2 = N by rw [hN]; rfl)
  have HBX := Lib.hid (fun (l : List Value) (l2 : List Value) => (((Below.refl _ w).alloc (Nat.le_refl _) (.cells l.toArray 25)).alloc (by simp) (.cells l2.toArray 25)))
  clear b1 b2 b3 hN hh hD hT p1 p2 p3
  by_cases n1 : n < 0 <;> by_cases d1 : d < 0 <;> by_cases u1 : u < 0
  · have q1 : posI n = 0 := if_pos n1
    have q2 : posI d = 0 := if_pos d1
    have q3 : posI u = 0 := if_pos u1
    rw [q1] at e1 g1 HE1
    rw [q2] at e2 g2
    rw [q3] at e3 g3
    have HR := Lib.hid (show ((2 : Int) = N) ∧ ((0 : Int) = D) ∧ ((0 : Int) = T) from ⟨by have := HE1.out; omega, by rw [← e2]; simp, by rw [← e3]; simp⟩)
    clear q1 q2 q3
    go_enter Try.func29, Try.ntmps29
    go_wp2_with fail
    exact bodyPost_ret (v := .agg #[.int .i64 N, .int .i64 D, .int .i64 T]) (by simp [results, Try.results29, go_sem]; first | done | (obtain ⟨r1, r2, r3⟩ := HR.out; first | exact ⟨r1, r2, r3⟩ | exact ⟨r1, r2⟩ | exact ⟨r1, r3⟩ | exact ⟨r2, r3⟩ | exact r1 | exact r2 | exact r3 | (refine ⟨r1, ?_⟩; rw [← r2, ← HF4.out, ← r1]; done) | (refine ⟨r1, ?_⟩; rw [← r2, ← HF4.out, ← r1]; omega))) rfl ⟨rfl, HBX.out [_, _, _] [_, _, _]⟩
  · have q1 : posI n = 0 := if_pos n1
    have q2 : posI d = 0 := if_pos d1
    have q3 : posI u = u := if_neg u1
    rw [q1] at e1 g1 HE1
    rw [q2] at e2 g2
    rw [q3] at e3 g3
    have HR := Lib.hid (show ((2 : Int) = N) ∧ ((0 : Int) = D) ∧ (u % 4097 = T) from ⟨by have := HE1.out; omega, by rw [← e2]; simp, by exact e3⟩)
    clear q1 q2 q3
    go_enter Try.func29, Try.ntmps29
    go_wp2_with fail
    exact bodyPost_ret (v := .agg #[.int .i64 N, .int .i64 D, .int .i64 T]) (by simp [results, Try.results29, go_sem]; first | done | (obtain ⟨r1, r2, r3⟩ := HR.out; first | exact ⟨r1, r2, r3⟩ | exact ⟨r1, r2⟩ | exact ⟨r1, r3⟩ | exact ⟨r2, r3⟩ | exact r1 | exact r2 | exact r3 | (refine ⟨r1, ?_⟩; rw [← r2, ← HF4.out, ← r1]; done) | (refine ⟨r1, ?_⟩; rw [← r2, ← HF4.out, ← r1]; omega))) rfl ⟨rfl, HBX.out [_, _, _] [_, _, _]⟩
  · have q1 : posI n = 0 := if_pos n1
    have q2 : posI d = d := if_neg d1
    have q3 : posI u = 0 := if_pos u1
    rw [q1] at e1 g1 HE1
    rw [q2] at e2 g2
    rw [q3] at e3 g3
    have HR := Lib.hid (show ((2 : Int) = N) ∧ (d % h = D) ∧ ((0 : Int) = T) from ⟨by have := HE1.out; omega, by exact e2, by rw [← e3]; simp⟩)
    clear q1 q2 q3
    go_enter Try.func29, Try.ntmps29
    go_wp2_with fail
    exact bodyPost_ret (v := .agg #[.int .i64 N, .int .i64 D, .int .i64 T]) (by simp [results, Try.results29, go_sem]; first | done | (obtain ⟨r1, r2, r3⟩ := HR.out; first | exact ⟨r1, r2, r3⟩ | exact ⟨r1, r2⟩ | exact ⟨r1, r3⟩ | exact ⟨r2, r3⟩ | exact r1 | exact r2 | exact r3 | (refine ⟨r1, ?_⟩; rw [← r2, ← HF4.out, ← r1]; done) | (refine ⟨r1, ?_⟩; rw [← r2, ← HF4.out, ← r1]; omega))) rfl ⟨rfl, HBX.out [_, _, _] [_, _, _]⟩
  · have q1 : posI n = 0 := if_pos n1
    have q2 : posI d = d := if_neg d1
    have q3 : posI u = u := if_neg u1
    rw [q1] at e1 g1 HE1
    rw [q2] at e2 g2
    rw [q3] at e3 g3
    have HR := Lib.hid (show ((2 : Int) = N) ∧ (d % h = D) ∧ (u % 4097 = T) from ⟨by have := HE1.out; omega, by exact e2, by exact e3⟩)
    clear q1 q2 q3
    go_enter Try.func29, Try.ntmps29
    go_wp2_with fail
    exact bodyPost_ret (v := .agg #[.int .i64 N, .int .i64 D, .int .i64 T]) (by simp [results, Try.results29, go_sem]; first | done | (obtain ⟨r1, r2, r3⟩ := HR.out; first | exact ⟨r1, r2, r3⟩ | exact ⟨r1, r2⟩ | exact ⟨r1, r3⟩ | exact ⟨r2, r3⟩ | exact r1 | exact r2 | exact r3 | (refine ⟨r1, ?_⟩; rw [← r2, ← HF4.out, ← r1]; done) | (refine ⟨r1, ?_⟩; rw [← r2, ← HF4.out, ← r1]; omega))) rfl ⟨rfl, HBX.out [_, _, _] [_, _, _]⟩
  · have q1 : posI n = n := if_neg n1
    have q2 : posI d = 0 := if_pos d1
    have q3 : posI u = 0 := if_pos u1
    rw [q1] at e1 g1 HE1
    rw [q2] at e2 g2
    rw [q3] at e3 g3
    have HR := Lib.hid (show (n % 5000 + 2 = N) ∧ ((0 : Int) = D) ∧ ((0 : Int) = T) from ⟨by exact HE1.out, by rw [← e2]; simp, by rw [← e3]; simp⟩)
    clear q1 q2 q3
    go_enter Try.func29, Try.ntmps29
    go_wp2_with fail
    exact bodyPost_ret (v := .agg #[.int .i64 N, .int .i64 D, .int .i64 T]) (by simp [results, Try.results29, go_sem]; first | done | (obtain ⟨r1, r2, r3⟩ := HR.out; first | exact ⟨r1, r2, r3⟩ | exact ⟨r1, r2⟩ | exact ⟨r1, r3⟩ | exact ⟨r2, r3⟩ | exact r1 | exact r2 | exact r3 | (refine ⟨r1, ?_⟩; rw [← r2, ← HF4.out, ← r1]; done) | (refine ⟨r1, ?_⟩; rw [← r2, ← HF4.out, ← r1]; omega))) rfl ⟨rfl, HBX.out [_, _, _] [_, _, _]⟩
  · have q1 : posI n = n := if_neg n1
    have q2 : posI d = 0 := if_pos d1
    have q3 : posI u = u := if_neg u1
    rw [q1] at e1 g1 HE1
    rw [q2] at e2 g2
    rw [q3] at e3 g3
    have HR := Lib.hid (show (n % 5000 + 2 = N) ∧ ((0 : Int) = D) ∧ (u % 4097 = T) from ⟨by exact HE1.out, by rw [← e2]; simp, by exact e3⟩)
    clear q1 q2 q3
    go_enter Try.func29, Try.ntmps29
    go_wp2_with fail
    exact bodyPost_ret (v := .agg #[.int .i64 N, .int .i64 D, .int .i64 T]) (by simp [results, Try.results29, go_sem]; first | done | (obtain ⟨r1, r2, r3⟩ := HR.out; first | exact ⟨r1, r2, r3⟩ | exact ⟨r1, r2⟩ | exact ⟨r1, r3⟩ | exact ⟨r2, r3⟩ | exact r1 | exact r2 | exact r3 | (refine ⟨r1, ?_⟩; rw [← r2, ← HF4.out, ← r1]; done) | (refine ⟨r1, ?_⟩; rw [← r2, ← HF4.out, ← r1]; omega))) rfl ⟨rfl, HBX.out [_, _, _] [_, _, _]⟩
  · have q1 : posI n = n := if_neg n1
    have q2 : posI d = d := if_neg d1
    have q3 : posI u = 0 := if_pos u1
    rw [q1] at e1 g1 HE1
    rw [q2] at e2 g2
    rw [q3] at e3 g3
    have HR := Lib.hid (show (n % 5000 + 2 = N) ∧ (d % h = D) ∧ ((0 : Int) = T) from ⟨by exact HE1.out, by exact e2, by rw [← e3]; simp⟩)
    clear q1 q2 q3
    go_enter Try.func29, Try.ntmps29
    go_wp2_with fail
    exact bodyPost_ret (v := .agg #[.int .i64 N, .int .i64 D, .int .i64 T]) (by simp [results, Try.results29, go_sem]; first | done | (obtain ⟨r1, r2, r3⟩ := HR.out; first | exact ⟨r1, r2, r3⟩ | exact ⟨r1, r2⟩ | exact ⟨r1, r3⟩ | exact ⟨r2, r3⟩ | exact r1 | exact r2 | exact r3 | (refine ⟨r1, ?_⟩; rw [← r2, ← HF4.out, ← r1]; done) | (refine ⟨r1, ?_⟩; rw [← r2, ← HF4.out, ← r1]; omega))) rfl ⟨rfl, HBX.out [_, _, _] [_, _, _]⟩
  · have q1 : posI n = n := if_neg n1
    have q2 : posI d = d := if_neg d1
    have q3 : posI u = u := if_neg u1
    rw [q1] at e1 g1 HE1
    rw [q2] at e2 g2
    rw [q3] at e3 g3
    have HR := Lib.hid (show (n % 5000 + 2 = N) ∧ (d % h = D) ∧ (u % 4097 = T) from ⟨by exact HE1.out, by exact e2, by exact e3⟩)
    clear q1 q2 q3
    go_enter Try.func29, Try.ntmps29
    go_wp2_with fail
    exact bodyPost_ret (v := .agg #[.int .i64 N, .int .i64 D, .int .i64 T]) (by simp [results, Try.results29, go_sem]; first | done | (obtain ⟨r1, r2, r3⟩ := HR.out; first | exact ⟨r1, r2, r3⟩ | exact ⟨r1, r2⟩ | exact ⟨r1, r3⟩ | exact ⟨r2, r3⟩ | exact r1 | exact r2 | exact r3 | (refine ⟨r1, ?_⟩; rw [← r2, ← HF4.out, ← r1]; done) | (refine ⟨r1, ?_⟩; rw [← r2, ← HF4.out, ← r1]; omega))) rfl ⟨rfl, HBX.out [_, _, _] [_, _, _]⟩
end Go.Proofs.Ytpamkmpaldepnaa
