/- Package rate's estimator: Many, Rate, Reset, New, Add, and calls on nil. Conditions: what it holds can be. -/
import Derived.Test.YtffcadobdimdoaaRte
namespace Go.Proofs.Ytffcadobdimdoaa
open Go.RowKit
theorem many_any (e : ES) (B : Nat) (w : World) (hE : EA w B e) : Calls Try.prog 25 #[.pointer (some ⟨B, 0, none⟩)] w fun y w' => y = .returned (.int .i64 (e.L.length : Int)) ∧ w = w' := by
  obtain ⟨a0, a1, a2, a3, a4, a5, a14, a15, af⟩ := eC_cells hE.2.ring.len hE.1
  clear a5 af hE
  go_enter Try.func25, Try.ntmps25
  go_wp2_with fail
  go_ret
  exact ⟨rfl, rfl⟩
theorem many_nil (w : World) : Calls Try.prog 25 #[.pointer none] w fun y w' => y = .returned (.int .i64 0) ∧ w = w' := by
  go_enter Try.func25, Try.ntmps25
  go_wp2_with fail
  go_ret
  exact ⟨rfl, rfl⟩
theorem rate_nil (w : World) : Calls Try.prog 23 #[.pointer none] w fun y w' => y = .returned (.int .i64 1048576) ∧ Below w.heap.size w w' := by
  have HB := Lib.hid ((Below.refl _ w).alloc (Nat.le_refl _) (.cells #[.int .i64 0, .int .i64 0, .int .i64 0, .int .i64 0, .int .i64 0, .int .i64 0, .int .i64 0, .int .i64 0, .int .i64 0] 139))
  go_enter Try.func23, Try.ntmps23
  go_wp2_with fail
  refine (many_nil _).mono ?_
  rintro y w1 ⟨rfl, rfl⟩
  go_wp2_with fail
  go_ret
  exact ⟨rfl, by first | exact HB.out | exact Below.refl _ _⟩
theorem reset_nil (w : World) : Calls Try.prog 19 #[.pointer none] w fun y w' => y = .returned (.tuple #[]) ∧ w = w' := by
  go_enter Try.func19, Try.ntmps19
  go_wp2_with fail
  go_end0
  exact ⟨rfl, rfl⟩
def ES.fresh (m : Int) (n : Nat) : ES := ⟨m, n, false, 0, 0, [0, 0, 0, 0, 0, 0, 0, 0, 0], [], 0⟩
theorem ES.fresh_ok {m : Int} {n : Nat} (hm : 0 ≤ m ∧ m ≤ 4096) (hn : 1 ≤ n ∧ n ≤ 9) : (ES.fresh m n).Ok := ⟨hm, by simp [ES.fresh], by simp [ES.fresh], RingI.nought n hn.1 hn.2, fun v hv => by cases hv⟩
theorem Blk.drewB {W : World} {B : Nat} {T : TypeId} {l : List Value} (h : Blk W B T l) : Blk W.drew B T l := h
theorem nine {R : List Int} (h : R.length = 9) : ∃ r0 r1 r2 r3 r4 r5 r6 r7 r8, R = [r0, r1, r2, r3, r4, r5, r6, r7, r8] := by
  match R, h with
  | [r0, r1, r2, r3, r4, r5, r6, r7, r8], _ => exact ⟨r0, r1, r2, r3, r4, r5, r6, r7, r8, rfl⟩
set_option maxHeartbeats 1000000 in
theorem fresh_cells {m : Int} {n : Nat} {s : Bool} {t h : Int} {r0 r1 r2 r3 r4 r5 r6 r7 r8 k x : Int} {w : World} {B : Nat} (hb : Blk w B 141 (eC m n s t h [r0, r1, r2, r3, r4, r5, r6, r7, r8] k x)) :
    Blk ((((((((((((((((w.setCell ⟨B, 0, none⟩ (.int .i64 m)).setCell ⟨B, 1, none⟩ (.int .i64 (n : Int))).setCell ⟨B, 2, none⟩ (.bool false)).setCell ⟨B, 3, none⟩ (.int .i64 0)).setCell ⟨B, 4, none⟩ (.int .i64 0)).setCell ⟨B, 5, none⟩ (.int .i64 0)).setCell ⟨B, 6, none⟩ (.int .i64 0)).setCell ⟨B, 7, none⟩ (.int .i64 0)).setCell ⟨B, 8, none⟩ (.int .i64 0)).setCell ⟨B, 9, none⟩ (.int .i64 0)).setCell ⟨B, 10, none⟩ (.int .i64 0)).setCell ⟨B, 11, none⟩ (.int .i64 0)).setCell ⟨B, 12, none⟩ (.int .i64 0)).setCell ⟨B, 13, none⟩ (.int .i64 0)).setCell ⟨B, 14, none⟩ (.int .i64 0)).setCell ⟨B, 15, none⟩ (.int .i64 0)) B 141 (ES.fresh m n).C ∧ Kp B (.slice none 0 0) w ((((((((((((((((w.setCell ⟨B, 0, none⟩ (.int .i64 m)).setCell ⟨B, 1, none⟩ (.int .i64 (n : Int))).setCell ⟨B, 2, none⟩ (.bool false)).setCell ⟨B, 3, none⟩ (.int .i64 0)).setCell ⟨B, 4, none⟩ (.int .i64 0)).setCell ⟨B, 5, none⟩ (.int .i64 0)).setCell ⟨B, 6, none⟩ (.int .i64 0)).setCell ⟨B, 7, none⟩ (.int .i64 0)).setCell ⟨B, 8, none⟩ (.int .i64 0)).setCell ⟨B, 9, none⟩ (.int .i64 0)).setCell ⟨B, 10, none⟩ (.int .i64 0)).setCell ⟨B, 11, none⟩ (.int .i64 0)).setCell ⟨B, 12, none⟩ (.int .i64 0)).setCell ⟨B, 13, none⟩ (.int .i64 0)).setCell ⟨B, 14, none⟩ (.int .i64 0)).setCell ⟨B, 15, none⟩ (.int .i64 0)) := by
  refine ⟨?_, ((((((((((((((((Kp.refl B (.slice none 0 0) w).set 0 (.int .i64 m)).set 1 (.int .i64 (n : Int))).set 2 (.bool false)).set 3 (.int .i64 0)).set 4 (.int .i64 0)).set 5 (.int .i64 0)).set 6 (.int .i64 0)).set 7 (.int .i64 0)).set 8 (.int .i64 0)).set 9 (.int .i64 0)).set 10 (.int .i64 0)).set 11 (.int .i64 0)).set 12 (.int .i64 0)).set 13 (.int .i64 0)).set 14 (.int .i64 0)).set 15 (.int .i64 0)⟩
  have hq := ((((((((((((((((hb.put1 (i := 0) (by simp [eC, cI]) (.int .i64 m)).put1 (i := 1) (by simp [eC, cI]) (.int .i64 (n : Int))).put1 (i := 2) (by simp [eC, cI]) (.bool false)).put1 (i := 3) (by simp [eC, cI]) (.int .i64 0)).put1 (i := 4) (by simp [eC, cI]) (.int .i64 0)).put1 (i := 5) (by simp [eC, cI]) (.int .i64 0)).put1 (i := 6) (by simp [eC, cI]) (.int .i64 0)).put1 (i := 7) (by simp [eC, cI]) (.int .i64 0)).put1 (i := 8) (by simp [eC, cI]) (.int .i64 0)).put1 (i := 9) (by simp [eC, cI]) (.int .i64 0)).put1 (i := 10) (by simp [eC, cI]) (.int .i64 0)).put1 (i := 11) (by simp [eC, cI]) (.int .i64 0)).put1 (i := 12) (by simp [eC, cI]) (.int .i64 0)).put1 (i := 13) (by simp [eC, cI]) (.int .i64 0)).put1 (i := 14) (by simp [eC, cI]) (.int .i64 0)).put1 (i := 15) (by simp [eC, cI]) (.int .i64 0))
  have e : (((((((((((((((((eC m n s t h [r0, r1, r2, r3, r4, r5, r6, r7, r8] k x).set 0 (.int .i64 m)).set 1 (.int .i64 (n : Int))).set 2 (.bool false)).set 3 (.int .i64 0)).set 4 (.int .i64 0)).set 5 (.int .i64 0)).set 6 (.int .i64 0)).set 7 (.int .i64 0)).set 8 (.int .i64 0)).set 9 (.int .i64 0)).set 10 (.int .i64 0)).set 11 (.int .i64 0)).set 12 (.int .i64 0)).set 13 (.int .i64 0)).set 14 (.int .i64 0)).set 15 (.int .i64 0)) = (ES.fresh m n).C := rfl
  rw [e] at hq
  exact hq
set_option maxHeartbeats 2000000 in
theorem reset_any (e : ES) (B : Nat) (w : World) (hE : EA w B e) : Calls Try.prog 19 #[.pointer (some ⟨B, 0, none⟩)] w fun y w' => y = .returned (.tuple #[]) ∧ EA w' B (ES.fresh e.m e.n) ∧ Kp B (.slice none 0 0) w w' := by
  obtain ⟨m, n, s, t, h, R, L, x⟩ := e
  obtain ⟨r0, r1, r2, r3, r4, r5, r6, r7, r8, rfl⟩ := nine hE.2.ring.len
  obtain ⟨a0, a1, a2, a3, a4, a5, a14, a15, af⟩ := eC_cells hE.2.ring.len hE.1
  have b0 := a5 0 (by decide); have b1 := a5 1 (by decide); have b2 := a5 2 (by decide); have b3 := a5 3 (by decide); have b4 := a5 4 (by decide); have b5 := a5 5 (by decide); have b6 := a5 6 (by decide); have b7 := a5 7 (by decide); have b8 := a5 8 (by decide)
  have HE := Lib.hid hE
  have f0 := af 0
  simp only [Nat.reduceAdd] at b0 b1 b2 b3 b4 b5 b6 b7 b8
  simp only at a0 a1 a2 a3 a4 a14 a15
  clear a5 hE
  go_enter Try.func19, Try.ntmps19
  go_wp2_with fail
  go_region
  go_wp2_with fail
  go_end0
  refine ⟨rfl, ⟨?_, ES.fresh_ok HE.out.2.m0 ⟨by have := HE.out.2.ring.nm; simp only at this ⊢; omega, HE.out.2.ring.m9⟩⟩, ?_⟩
  · have hb : Blk w B 141 (eC m n s t h [r0, r1, r2, r3, r4, r5, r6, r7, r8] (L.length : Int) (x : Int)) := HE.out.1
    exact (fresh_cells hb).1.drewB
  · have hb : Blk w B 141 (eC m n s t h [r0, r1, r2, r3, r4, r5, r6, r7, r8] (L.length : Int) (x : Int)) := HE.out.1
    have hk := (fresh_cells hb).2
    exact hk.drewK
theorem enew_yes (m : Int) (n : Nat) (hm : 0 ≤ m ∧ m ≤ 4096) (hn : 1 ≤ n ∧ n ≤ 9) (w : World) : Calls Try.prog 17 #[.int .i64 m, .int .i64 (n : Int)] w fun y w' => ∃ B, y = .returned (.tuple #[.pointer (some ⟨B, 0, none⟩), .int .i64 0]) ∧ EA w' B (ES.fresh m n) ∧ w.heap.size ≤ B ∧ Below w.heap.size w w' := by
  have H1 := Lib.hid (fun u => rwithin_any m 0 4096 u)
  have H2 := Lib.hid (fun u => rwithin_any (n : Int) 1 9 u)
  rw [decide_eq_true hm] at H1
  rw [decide_eq_true (by omega)] at H2
  have HM := Lib.hid (And.intro hm hn)
  clear hm hn
  go_enter Try.func17, Try.ntmps17
  go_wp2_with fail
  refine (H1.out _).mono ?_
  rintro y w1 ⟨rfl, rfl⟩
  go_wp2_with fail
  refine (H2.out _).mono ?_
  rintro y w1 ⟨rfl, rfl⟩
  go_wp2_with fail
  go_ret2
  exact ⟨_, rfl, ⟨Blk.new w 141 _, ES.fresh_ok HM.out.1 HM.out.2⟩, Nat.le_refl _, (Below.refl _ w).alloc (Nat.le_refl _) _⟩
theorem enew_no (m n : Int) (h : ¬ ((0 ≤ m ∧ m ≤ 4096) ∧ (1 ≤ n ∧ n ≤ 9))) (w : World) : Calls Try.prog 17 #[.int .i64 m, .int .i64 n] w fun y w' => y = .returned (.tuple #[.pointer none, .int .i64 1]) ∧ w = w' := by
  have H1 := Lib.hid (fun u => rwithin_any m 0 4096 u)
  by_cases hm : 0 ≤ m ∧ m ≤ 4096
  · have hn : ¬ (1 ≤ n ∧ n ≤ 9) := fun hn => h ⟨hm, hn⟩
    have H2 := Lib.hid (fun u => rwithin_any n 1 9 u)
    rw [decide_eq_true hm] at H1
    rw [decide_eq_false hn] at H2
    clear hm hn h
    go_enter Try.func17, Try.ntmps17
    go_wp2_with fail
    refine (H1.out _).mono ?_
    rintro y w1 ⟨rfl, rfl⟩
    go_wp2_with fail
    refine (H2.out _).mono ?_
    rintro y w1 ⟨rfl, rfl⟩
    go_wp2_with fail
    go_ret2
    exact ⟨rfl, rfl⟩
  · rw [decide_eq_false hm] at H1
    clear hm h
    go_enter Try.func17, Try.ntmps17
    go_wp2_with fail
    refine (H1.out _).mono ?_
    rintro y w1 ⟨rfl, rfl⟩
    go_wp2_with fail
    go_ret2
    exact ⟨rfl, rfl⟩
set_option maxHeartbeats 2000000 in
theorem rate_any (e : ES) (B : Nat) (w : World) (hE : EA w B e) : Calls Try.prog 23 #[.pointer (some ⟨B, 0, none⟩)] w fun y w' => y = .returned (.int .i64 (medX e.L)) ∧ Below w.heap.size w w' := by
  obtain ⟨m, n, s, t, h, R, L, x⟩ := e
  have HM := Lib.hid (fun u hu => many_any ⟨m, n, s, t, h, R, L, x⟩ B u hu)
  obtain ⟨r0, r1, r2, r3, r4, r5, r6, r7, r8, rfl⟩ := nine hE.2.ring.len
  obtain ⟨a0, a1, a2, a3, a4, a5, a14, a15, af⟩ := eC_cells hE.2.ring.len hE.1
  have b0 : w.cell? ⟨B, 5, none⟩ = some (.int .i64 r0) := a5 0 (by decide)
  have b1 : w.cell? ⟨B, 6, none⟩ = some (.int .i64 r1) := a5 1 (by decide)
  have b2 : w.cell? ⟨B, 7, none⟩ = some (.int .i64 r2) := a5 2 (by decide)
  have b3 : w.cell? ⟨B, 8, none⟩ = some (.int .i64 r3) := a5 3 (by decide)
  have b4 : w.cell? ⟨B, 9, none⟩ = some (.int .i64 r4) := a5 4 (by decide)
  have b5 : w.cell? ⟨B, 10, none⟩ = some (.int .i64 r5) := a5 5 (by decide)
  have b6 : w.cell? ⟨B, 11, none⟩ = some (.int .i64 r6) := a5 6 (by decide)
  have b7 : w.cell? ⟨B, 12, none⟩ = some (.int .i64 r7) := a5 7 (by decide)
  have b8 : w.cell? ⟨B, 13, none⟩ = some (.int .i64 r8) := a5 8 (by decide)
  have HE := Lib.hid hE
  simp only at a0 a1 a2 a3 a4 a14 a15
  clear a5 hE a0 a1 a2 a3 a4 a15 af
  obtain ⟨k, hk⟩ : ∃ k, k = L.length := ⟨_, rfl⟩
  obtain ⟨X, hX⟩ : ∃ X, X = medX L := ⟨_, rfl⟩
  have HK := Lib.hid (And.intro hk hX)
  rw [← hk] at a14
  simp only [← hk] at HM
  rw [← hX]
  clear hk hX
  by_cases h0 : k = 0
  · subst h0
    have e : X = 1048576 := by
      have hl : L = [] := List.length_eq_zero_iff.1 HK.out.1.symm
      rw [HK.out.2, hl]; rfl
    rw [e]
    clear e
    go_enter Try.func23, Try.ntmps23
    go_wp2_with fail
    refine (HM.out _ HE.out).mono ?_
    rintro y w1 ⟨rfl, rfl⟩
    go_wp2_with fail
    go_ret
    exact ⟨rfl, by first | exact HB0.out | exact Below.refl _ _⟩
  · have c0 : ((k : Int) == 0) = false := by rw [beq_eq_false_iff_ne]; omega
    have c1 : ¬ (k : Int) = 0 := by omega
    have HZ := Lib.hid h0
    have k9 : k ≤ 9 := by have h1 := HE.out.2.ring.lm; have h2 := HE.out.2.ring.m9; simp only at h1 h2; have := HK.out.1; omega
    have k9i : (k : Int) ≤ 9 := by omega
    have k0 : (0 : Int) ≤ (k : Int) := by omega
    clear h0
    have a14a : ∀ o, (w.alloc o).cell? ⟨B, 14, none⟩ = some (.int .i64 (k : Int)) := fun o => by
      rw [HK.out.1]
      exact (eC_cells HE.out.2.ring.len (HE.out.1.keep ((Below.refl _ w).alloc (Nat.le_refl _) o) HE.out.1.lt)).2.2.2.2.2.2.1
    have HS := Lib.hid (fun u hu => sort_any w.heap.size k 139 [r0, r1, r2, r3, r4, r5, r6, r7, r8] rfl k9 (by omega) u hu)
    have HBK := Lib.hid ((Below.refl _ w).alloc (Nat.le_refl _) (.cells #[.int .i64 r0, .int .i64 r1, .int .i64 r2, .int .i64 r3, .int .i64 r4, .int .i64 r5, .int .i64 r6, .int .i64 r7, .int .i64 r8] 139))
    go_enter Try.func23, Try.ntmps23
    go_wp2_with fail
    refine (HM.out _ HE.out).mono ?_
    rintro y w1 ⟨rfl, rfl⟩
    go_wp2_with fail
    refine (HS.out _ (Blk.new w 139 (cI [r0, r1, r2, r3, r4, r5, r6, r7, r8]))).mono ?_
    rintro y w1 ⟨rfl, R', hs, hb, hk⟩
    have HSS := Lib.hid hs; have HBB := Lib.hid hb; have HKK := Lib.hid hk
    clear hs hb hk
    have d14 : w1.cell? ⟨B, 14, none⟩ = some (.int .i64 (k : Int)) := by
      have hlt := HE.out.1.lt
      have h1 := HE.out.1.keep HBK.out hlt
      have h2 := h1.on (HKK.out.block B (Nat.lt_of_lt_of_le hlt HBK.out.size) (Nat.ne_of_lt hlt) (fun e => by cases e))
      rw [HK.out.1]
      exact (eC_cells HE.out.2.ring.len h2).2.2.2.2.2.2.1
    have d5 : w1.cell? ⟨w.heap.size, (k - 1) / 2, none⟩ = some (.int .i64 X) := by
      have h1 := cI_at HBB.out (i := (k - 1) / 2) (by rw [HSS.out.len]; show (k - 1) / 2 < 9; omega)
      rw [h1, med_of (L := L) HSS.out k9 HK.out.1 (by have := HZ.out; omega) (by rw [HK.out.1]; exact fun p => HE.out.2.ring.cnt p), HK.out.2]
    go_wp2_with fail
    go_ret
    exact ⟨rfl, HBK.out.trans (HKK.out.below (by first | exact Nat.le_refl _ | (have := HBK.out.size; exact this)) (fun k e => by cases e))⟩
end Go.Proofs.Ytffcadobdimdoaa
