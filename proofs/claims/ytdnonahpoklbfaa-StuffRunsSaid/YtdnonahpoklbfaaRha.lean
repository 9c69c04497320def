/- The document's own answers of layer 4 in plain words (one, Due, Next, Most): what they return. Conditions: a byte is a byte. -/
import Derived.Test.YtdnonahpoklbfaaSfm
import Derived.Test.YtdnonahpoklbfaaRga
import Derived.Test.YtdnonahpoklbfaaTwo
namespace Go.Proofs.Ytdnonahpoklbfaa
open Go.RowKit Go.Shelf
theorem one4_any (x : Nat) (w : World) : Calls Try.prog 45 #[.int .u8 x] w fun e w' => e = .returned (.int .u8 (bitN x : Nat)) ∧ w = w' := by
  by_cases h : x = 0
  · subst h
    rw [bitN_zero]
    go_enter Try.func45, Try.ntmps45
    go_wp2
    go_ret
    exact ⟨rfl, rfl⟩
  · rw [bitN_pos h]
    have hx : ((x : Int) != 0) = true := by simp; omega
    clear h
    go_enter Try.func45, Try.ntmps45
    go_wp2
    go_ret
    exact ⟨rfl, rfl⟩
/-- A run, as a value. -/
def runV (b : Nat) (n : Int) : Value := .agg #[.int .u8 (b : Int), .int .i64 n]
/-- What is due, and whether. -/
def dueB (b : Nat) (n : Int) : Nat × Bool := if n < 5 then (0, false) else (1 - bitN b, true)
theorem refDue_any (b : Nat) (n : Int) (w : World) : Calls Try.prog 13 #[runV b n] w fun e w' => e = .returned (.tuple #[.int .u8 ((dueB b n).1 : Nat), .bool (dueB b n).2]) ∧ Below w.heap.size w w' := by
  unfold runV
  by_cases h : n < 5
  · have hd : dueB b n = (0, false) := if_pos h
    rw [hd]
    clear hd
    go_enter Try.func13, Try.ntmps13
    go_wp2
    go_ret2
    exact ⟨rfl, (Below.refl _ _).alloc (Nat.le_refl _) _⟩
  · have hd : dueB b n = (1 - bitN b, true) := if_neg h
    rw [hd]
    clear hd
    obtain ⟨v, hv⟩ : ∃ v, v = bitN b := ⟨_, rfl⟩
    have hv1 : v ≤ 1 := by rw [hv]; exact bitN_le _
    have ev : IntKind.u8.wrap (1 - (v : Int)) = ((1 - v : Nat) : Int) := by rw [IntKind.wrap_u8]; omega
    have HO := Lib.hid (fun u => one4_any b u)
    rw [← hv] at HO ⊢
    clear hv
    go_enter Try.func13, Try.ntmps13
    go_wp2_with (go_at_call 45; refine (HO.out _).mono ?_; rintro e w' ⟨rfl, rfl⟩)
    go_ret2
    exact ⟨rfl, (Below.refl _ _).alloc (Nat.le_refl _) _⟩
/-- A run behind one more bit, and what that is: 0 data, 1 extra, 2 wrong. -/
def nextB (b : Nat) (n : Int) (v : Nat) : (Nat × Int) × Nat :=
  if 5 ≤ n then (if v = 1 - bitN b then ((v, 1), 1) else ((b, n), 2)) else if 0 < n ∧ bitN b = v then ((v, n + 1), 0) else ((v, 1), 0)
set_option maxHeartbeats 400000 in
theorem refNext_any (b : Nat) (n : Int) (x : Nat) (w : World) : Calls Try.prog 11 #[runV b n, .int .u8 x] w fun e w' => e = .returned (.tuple #[runV (nextB b n (bitN x)).1.1 (nextB b n (bitN x)).1.2, .int .i64 ((nextB b n (bitN x)).2 : Nat)]) ∧ Below w.heap.size w w' := by
  have HO := Lib.hid (fun u => one4_any x u)
  obtain ⟨v, hv⟩ : ∃ v, v = bitN x := ⟨_, rfl⟩
  have hv1 : v ≤ 1 := by rw [hv]; exact bitN_le _
  rw [← hv] at HO ⊢
  clear hv
  have HD := Lib.hid (fun u => refDue_any b n u)
  by_cases h5 : 5 ≤ n
  · have hd : dueB b n = (1 - bitN b, true) := if_neg (by omega)
    rw [hd] at HD
    clear hd
    obtain ⟨d, hd⟩ : ∃ d, d = bitN b := ⟨_, rfl⟩
    have hd1 : d ≤ 1 := by rw [hd]; exact bitN_le _
    rw [← hd] at HD
    by_cases hvd : v = 1 - d
    · have hr : nextB b n v = ((v, 1), 1) := by unfold nextB; rw [if_pos h5, ← hd, if_pos hvd]
      rw [hr]
      have hq : ((v : Int) == ((1 - d : Nat) : Int)) = true := by simp; omega
      clear hr hd hvd
      go_enter Try.func11, Try.ntmps11
      unfold runV at HD ⊢
      go_wp2_with (go_at_call 45; refine (HO.out _).mono ?_; rintro e w' ⟨rfl, rfl⟩)
      refine (HD.out _).mono ?_
      rintro e w1 ⟨rfl, hb⟩
      have hz : w.heap.size + 2 ≤ w1.heap.size := by have := hb.size; simp at this; omega
      have P0 := ((Two.new w (.int .u8 (b : Int)) (.int .i64 n) _ rfl).more (by simp) _).keep hb (by simp; omega)
      have P1 := (Two.new (w.alloc _) (.int .u8 0) (.int .i64 0) _ (B := w.heap.size + 1) (by simp)).keep hb (by simp)
      have HB := Lib.hid (below_trans' (((Below.refl _ w).alloc (Nat.le_refl _) _).alloc (by simp) _) hb)
      obtain ⟨p0, p1, p2, p3⟩ := P0
      have HP1 := Lib.hid P1
      obtain ⟨q0, q1, q2, q3⟩ := P1
      clear hb HD
      go_wp2_with (fail)
      obtain ⟨r0, r1, _, _⟩ := HP1.out.put (.int .u8 (v : Int)) (.int .i64 1)
      exact bodyPost_ret (v := .tuple #[.agg #[(.int .u8 (v : Int)), (.int .i64 1)], .int .i64 1]) (by simp [results, Try.results11, go_sem, r0, r1]) rfl ⟨rfl, below_two2 HB.out (Nat.le_succ _) _ _⟩
    · have hr : nextB b n v = ((b, n), 2) := by unfold nextB; rw [if_pos h5, ← hd, if_neg hvd]
      rw [hr]
      have hq : ((v : Int) == ((1 - d : Nat) : Int)) = false := by simp; omega
      clear hr hd hvd
      go_enter Try.func11, Try.ntmps11
      unfold runV at HD ⊢
      go_wp2_with (go_at_call 45; refine (HO.out _).mono ?_; rintro e w' ⟨rfl, rfl⟩)
      refine (HD.out _).mono ?_
      rintro e w1 ⟨rfl, hb⟩
      have hz : w.heap.size + 2 ≤ w1.heap.size := by have := hb.size; simp at this; omega
      have P0 := ((Two.new w (.int .u8 (b : Int)) (.int .i64 n) _ rfl).more (by simp) _).keep hb (by simp; omega)
      have P1 := (Two.new (w.alloc _) (.int .u8 0) (.int .i64 0) _ (B := w.heap.size + 1) (by simp)).keep hb (by simp)
      have HB := Lib.hid (below_trans' (((Below.refl _ w).alloc (Nat.le_refl _) _).alloc (by simp) _) hb)
      obtain ⟨p0, p1, p2, p3⟩ := P0
      have HP1 := Lib.hid P1
      obtain ⟨q0, q1, q2, q3⟩ := P1
      clear hb HD
      go_wp2_with (fail)
      obtain ⟨r0, r1, _, _⟩ := HP1.out.put (.int .u8 (b : Int)) (.int .i64 n)
      exact bodyPost_ret (v := .tuple #[.agg #[(.int .u8 (b : Int)), (.int .i64 n)], .int .i64 2]) (by simp [results, Try.results11, go_sem, r0, r1]) rfl ⟨rfl, below_two2 HB.out (Nat.le_succ _) _ _⟩
  · have hd : dueB b n = (0, false) := if_pos (by omega)
    rw [hd] at HD
    clear hd
    by_cases h0 : 0 < n
    · obtain ⟨d, hd⟩ : ∃ d, d = bitN b := ⟨_, rfl⟩
      have HE := Lib.hid (fun u => one4_any b u)
      rw [← hd] at HE
      have hg : decide (0 < n) = true := decide_eq_true h0
      by_cases hvd : d = v
      · have hr : nextB b n v = ((v, n + 1), 0) := by unfold nextB; rw [if_neg h5, ← hd, if_pos ⟨h0, hvd⟩]
        rw [hr]
        have hq : ((d : Int) == (v : Int)) = true := by simp; omega
        clear hr hd hvd
        go_enter Try.func11, Try.ntmps11
        unfold runV at HD ⊢
        go_wp2_with (go_at_call 45; refine (HO.out _).mono ?_; rintro e w' ⟨rfl, rfl⟩)
        refine (HD.out _).mono ?_
        rintro e w1 ⟨rfl, hb⟩
        have hz : w.heap.size + 2 ≤ w1.heap.size := by have := hb.size; simp at this; omega
        have P0 := ((Two.new w (.int .u8 (b : Int)) (.int .i64 n) _ rfl).more (by simp) _).keep hb (by simp; omega)
        have P1 := (Two.new (w.alloc _) (.int .u8 0) (.int .i64 0) _ (B := w.heap.size + 1) (by simp)).keep hb (by simp)
        have HB := Lib.hid (below_trans' (((Below.refl _ w).alloc (Nat.le_refl _) _).alloc (by simp) _) hb)
        obtain ⟨p0, p1, p2, p3⟩ := P0
        have HP1 := Lib.hid P1
        obtain ⟨q0, q1, q2, q3⟩ := P1
        clear hb HD
        go_wp2_with (fail)
        refine (HE.out _).mono ?_
        rintro e w2 ⟨rfl, rfl⟩
        go_wp2_with (fail)
        obtain ⟨r0, r1, _, _⟩ := HP1.out.put (.int .u8 (v : Int)) (.int .i64 (n + 1))
        exact bodyPost_ret (v := .tuple #[.agg #[(.int .u8 (v : Int)), (.int .i64 (n + 1))], .int .i64 0]) (by simp [results, Try.results11, go_sem, r0, r1]) rfl ⟨rfl, below_two2 HB.out (Nat.le_succ _) _ _⟩
      · have hr : nextB b n v = ((v, 1), 0) := by unfold nextB; rw [if_neg h5, ← hd, if_neg (fun e => hvd e.2)]
        rw [hr]
        have hq : ((d : Int) == (v : Int)) = false := by simp; omega
        clear hr hd hvd
        go_enter Try.func11, Try.ntmps11
        unfold runV at HD ⊢
        go_wp2_with (go_at_call 45; refine (HO.out _).mono ?_; rintro e w' ⟨rfl, rfl⟩)
        refine (HD.out _).mono ?_
        rintro e w1 ⟨rfl, hb⟩
        have hz : w.heap.size + 2 ≤ w1.heap.size := by have := hb.size; simp at this; omega
        have P0 := ((Two.new w (.int .u8 (b : Int)) (.int .i64 n) _ rfl).more (by simp) _).keep hb (by simp; omega)
        have P1 := (Two.new (w.alloc _) (.int .u8 0) (.int .i64 0) _ (B := w.heap.size + 1) (by simp)).keep hb (by simp)
        have HB := Lib.hid (below_trans' (((Below.refl _ w).alloc (Nat.le_refl _) _).alloc (by simp) _) hb)
        obtain ⟨p0, p1, p2, p3⟩ := P0
        have HP1 := Lib.hid P1
        obtain ⟨q0, q1, q2, q3⟩ := P1
        clear hb HD
        go_wp2_with (fail)
        refine (HE.out _).mono ?_
        rintro e w2 ⟨rfl, rfl⟩
        go_wp2_with (fail)
        obtain ⟨r0, r1, _, _⟩ := HP1.out.put (.int .u8 (v : Int)) (.int .i64 1)
        exact bodyPost_ret (v := .tuple #[.agg #[(.int .u8 (v : Int)), (.int .i64 1)], .int .i64 0]) (by simp [results, Try.results11, go_sem, r0, r1]) rfl ⟨rfl, below_two2 HB.out (Nat.le_succ _) _ _⟩
    · have hr : nextB b n v = ((v, 1), 0) := by unfold nextB; rw [if_neg h5, if_neg (fun e => h0 e.1)]
      rw [hr]
      have hg : decide (0 < n) = false := decide_eq_false h0
      clear hr
      go_enter Try.func11, Try.ntmps11
      unfold runV at HD ⊢
      go_wp2_with (go_at_call 45; refine (HO.out _).mono ?_; rintro e w' ⟨rfl, rfl⟩)
      refine (HD.out _).mono ?_
      rintro e w1 ⟨rfl, hb⟩
      have hz : w.heap.size + 2 ≤ w1.heap.size := by have := hb.size; simp at this; omega
      have P0 := ((Two.new w (.int .u8 (b : Int)) (.int .i64 n) _ rfl).more (by simp) _).keep hb (by simp; omega)
      have P1 := (Two.new (w.alloc _) (.int .u8 0) (.int .i64 0) _ (B := w.heap.size + 1) (by simp)).keep hb (by simp)
      have HB := Lib.hid (below_trans' (((Below.refl _ w).alloc (Nat.le_refl _) _).alloc (by simp) _) hb)
      obtain ⟨p0, p1, p2, p3⟩ := P0
      have HP1 := Lib.hid P1
      obtain ⟨q0, q1, q2, q3⟩ := P1
      clear hb HD
      go_wp2_with (fail)
      obtain ⟨r0, r1, _, _⟩ := HP1.out.put (.int .u8 (v : Int)) (.int .i64 1)
      exact bodyPost_ret (v := .tuple #[.agg #[(.int .u8 (v : Int)), (.int .i64 1)], .int .i64 0]) (by simp [results, Try.results11, go_sem, r0, r1]) rfl ⟨rfl, below_two2 HB.out (Nat.le_succ _) _ _⟩
end Go.Proofs.Ytdnonahpoklbfaa
