/- The code of package stuff (Next): what it returns. Conditions: a byte is a byte. -/
import Derived.Test.YtmfnkfiocnngeaaDoorSfa
namespace Go.Proofs.YtmfnkfiocnngeaaDoor
open Go.RowKit Go.Shelf
def nextW (b : Nat) (n : Int) (v : Nat) : (Nat × Int) × Nat :=
  if 5 ≤ n then (if v = 1 - bitN b then ((v, 1), 1) else ((b, n), 2)) else if 0 < n ∧ bitN b = v then ((v, n + 1), 0) else ((v, 1), 0)
set_option maxHeartbeats 400000 in
theorem next_any (b : Nat) (n : Int) (x : Nat) (w : World) : Calls Tryd.prog 106 #[runW b n, .int .u8 x] w fun e w' => e = .returned (.tuple #[runW (nextW b n (bitN x)).1.1 (nextW b n (bitN x)).1.2, .int .i64 ((nextW b n (bitN x)).2 : Nat)]) ∧ Below w.heap.size w w' := by
  have HO := Lib.hid (fun u => cln_any x u)
  obtain ⟨v, hv⟩ : ∃ v, v = bitN x := ⟨_, rfl⟩
  have hv1 : v ≤ 1 := by rw [hv]; exact bitN_le _
  rw [← hv] at HO ⊢
  clear hv
  have HD := Lib.hid (fun u => due_any b n u)
  have HTI := Lib.hid (fun u => tidy_any b n u)
  obtain ⟨d, hd⟩ : ∃ d, d = bitN b := ⟨_, rfl⟩
  have hd1 : d ≤ 1 := by rw [hd]; exact bitN_le _
  rw [← hd] at HTI
  obtain ⟨m, hm⟩ : ∃ m, m = max n 0 := ⟨_, rfl⟩
  rw [← hm] at HTI
  by_cases h5 : 5 ≤ n
  · have hdue : dueW b n = (1 - d, true) := by rw [hd]; exact if_neg (by omega)
    rw [hdue] at HD
    by_cases hvd : v = 1 - d
    · have hr : nextW b n v = ((v, 1), 1) := by unfold nextW; rw [if_pos h5, ← hd, if_pos hvd]
      rw [hr]
      have hq : ((v : Int) != ((1 - d : Nat) : Int)) = false := by simp; omega
      clear hr hd hvd hdue hm h5
      go_enter Tryd.func106, Tryd.ntmps106
      unfold runW at HD HTI ⊢
      go_wp2_with (fail)
      refine (HO.out _).mono ?_
      rintro e w1 ⟨rfl, hb⟩
      have hz1 : w.heap.size + 2 ≤ w1.heap.size := by have := hb.size; simp at this; omega
      have P0 := ((Two.new w (.int .u8 (b : Int)) (.int .i64 n) 134 rfl).more (by simp) (.cells #[.int .u8 0, .int .i64 0] 134)).keep hb (by simp; omega)
      have P1 := (Two.new (w.alloc (.cells #[.int .u8 (b : Int), .int .i64 n] 134)) (.int .u8 0) (.int .i64 0) 134 (B := w.heap.size + 1) (by simp)).keep hb (by simp)
      have HB1 := Lib.hid (below_trans' (((Below.refl _ w).alloc (Nat.le_refl _) (.cells #[.int .u8 (b : Int), .int .i64 n] 134)).alloc (by simp) (.cells #[.int .u8 0, .int .i64 0] 134)) hb)
      have HP0 := Lib.hid P0; have HP1 := Lib.hid P1
      obtain ⟨p0, p1, p2, p3⟩ := P0
      clear hb P1 HO
      go_wp2_with (fail)
      refine (HTI.out _).mono ?_
      rintro e w2 ⟨rfl, hb⟩
      have hz2 : w.heap.size + 2 ≤ w2.heap.size := Nat.le_trans hz1 hb.size
      have P0 := HP0.out.keep hb (by omega)
      have P1 := HP1.out.keep hb (by omega)
      have HB2 := Lib.hid (below_trans' HB1.out hb)
      have HP0' := Lib.hid P0; have HP1' := Lib.hid P1
      clear p0 p1 p2 p3
      obtain ⟨p0, p1, p2, p3⟩ := P0
      clear hb P1 HP0 HP1 HB1 HTI
      have hp0A : ∀ o, (w2.alloc o).cell? ⟨w.heap.size, 0, none⟩ = some (.int .u8 (b : Int)) := fun o => (HP0'.out.more (by omega) o).1
      have hp1A : ∀ o, (w2.alloc o).cell? ⟨w.heap.size, 1, none⟩ = some (.int .i64 n) := fun o => (HP0'.out.more (by omega) o).2.1
      go_wp2_with (fail)
      refine (HD.out _).mono ?_
      rintro e w3 ⟨rfl, hb⟩
      have hz3 : w2.heap.size + 1 ≤ w3.heap.size := by have := hb.size; simp at this; omega
      have P0 := (HP0'.out.more (by omega) (.cells #[.int .u8 (d : Int), .int .i64 m] 134)).keep hb (by simp; omega)
      have P1 := (HP1'.out.more (by omega) (.cells #[.int .u8 (d : Int), .int .i64 m] 134)).keep hb (by simp; omega)
      have P6 := (Two.new w2 (.int .u8 (d : Int)) (.int .i64 m) 134 rfl).keep hb (by simp)
      have HB3 := Lib.hid (below_trans' (HB2.out.alloc (by omega) (.cells #[.int .u8 (d : Int), .int .i64 m] 134)) hb)
      have HP1'' := Lib.hid P1
      clear hb HP0' HP1' HB2 hz1 HD hp0A hp1A p0 p1 p2 p3
      obtain ⟨p0, p1, p2, p3⟩ := P0
      obtain ⟨q0, q1, q2, q3⟩ := P6
      obtain ⟨r0, r1, r2, r3⟩ := P1
      go_wp2_with (fail)
      obtain ⟨s0, s1, _, _⟩ := HP1''.out.put (.int .u8 (v : Int)) (.int .i64 1)
      exact bodyPost_ret (v := .tuple #[.agg #[.int .u8 (v : Int), .int .i64 1], .int .i64 1]) (by simp [results, Tryd.results106, go_sem, s0, s1]) rfl ⟨rfl, below_two2 HB3.out (by omega) _ _⟩

    · have hr : nextW b n v = ((b, n), 2) := by unfold nextW; rw [if_pos h5, ← hd, if_neg hvd]
      rw [hr]
      have hq : ((v : Int) != ((1 - d : Nat) : Int)) = true := by simp; omega
      clear hr hd hvd hdue hm h5
      go_enter Tryd.func106, Tryd.ntmps106
      unfold runW at HD HTI ⊢
      go_wp2_with (fail)
      refine (HO.out _).mono ?_
      rintro e w1 ⟨rfl, hb⟩
      have hz1 : w.heap.size + 2 ≤ w1.heap.size := by have := hb.size; simp at this; omega
      have P0 := ((Two.new w (.int .u8 (b : Int)) (.int .i64 n) 134 rfl).more (by simp) (.cells #[.int .u8 0, .int .i64 0] 134)).keep hb (by simp; omega)
      have P1 := (Two.new (w.alloc (.cells #[.int .u8 (b : Int), .int .i64 n] 134)) (.int .u8 0) (.int .i64 0) 134 (B := w.heap.size + 1) (by simp)).keep hb (by simp)
      have HB1 := Lib.hid (below_trans' (((Below.refl _ w).alloc (Nat.le_refl _) (.cells #[.int .u8 (b : Int), .int .i64 n] 134)).alloc (by simp) (.cells #[.int .u8 0, .int .i64 0] 134)) hb)
      have HP0 := Lib.hid P0; have HP1 := Lib.hid P1
      obtain ⟨p0, p1, p2, p3⟩ := P0
      clear hb P1 HO
      go_wp2_with (fail)
      refine (HTI.out _).mono ?_
      rintro e w2 ⟨rfl, hb⟩
      have hz2 : w.heap.size + 2 ≤ w2.heap.size := Nat.le_trans hz1 hb.size
      have P0 := HP0.out.keep hb (by omega)
      have P1 := HP1.out.keep hb (by omega)
      have HB2 := Lib.hid (below_trans' HB1.out hb)
      have HP0' := Lib.hid P0; have HP1' := Lib.hid P1
      clear p0 p1 p2 p3
      obtain ⟨p0, p1, p2, p3⟩ := P0
      clear hb P1 HP0 HP1 HB1 HTI
      have hp0A : ∀ o, (w2.alloc o).cell? ⟨w.heap.size, 0, none⟩ = some (.int .u8 (b : Int)) := fun o => (HP0'.out.more (by omega) o).1
      have hp1A : ∀ o, (w2.alloc o).cell? ⟨w.heap.size, 1, none⟩ = some (.int .i64 n) := fun o => (HP0'.out.more (by omega) o).2.1
      go_wp2_with (fail)
      refine (HD.out _).mono ?_
      rintro e w3 ⟨rfl, hb⟩
      have hz3 : w2.heap.size + 1 ≤ w3.heap.size := by have := hb.size; simp at this; omega
      have P0 := (HP0'.out.more (by omega) (.cells #[.int .u8 (d : Int), .int .i64 m] 134)).keep hb (by simp; omega)
      have P1 := (HP1'.out.more (by omega) (.cells #[.int .u8 (d : Int), .int .i64 m] 134)).keep hb (by simp; omega)
      have P6 := (Two.new w2 (.int .u8 (d : Int)) (.int .i64 m) 134 rfl).keep hb (by simp)
      have HB3 := Lib.hid (below_trans' (HB2.out.alloc (by omega) (.cells #[.int .u8 (d : Int), .int .i64 m] 134)) hb)
      have HP1'' := Lib.hid P1
      clear hb HP0' HP1' HB2 hz1 HD hp0A hp1A p0 p1 p2 p3
      obtain ⟨p0, p1, p2, p3⟩ := P0
      obtain ⟨q0, q1, q2, q3⟩ := P6
      obtain ⟨r0, r1, r2, r3⟩ := P1
      go_wp2_with (fail)
      obtain ⟨s0, s1, _, _⟩ := HP1''.out.put (.int .u8 (b : Int)) (.int .i64 n)
      exact bodyPost_ret (v := .tuple #[.agg #[.int .u8 (b : Int), .int .i64 n], .int .i64 2]) (by simp [results, Tryd.results106, go_sem, s0, s1]) rfl ⟨rfl, below_two2 HB3.out (by omega) _ _⟩

  · have hdue : dueW b n = (0, false) := if_pos (by omega)
    rw [hdue] at HD
    by_cases hvd : d = v
    · have hr : nextW b n v = ((v, m + 1), 0) := by
        unfold nextW
        rw [if_neg h5, ← hd]
        by_cases h0 : 0 < n
        · rw [if_pos ⟨h0, hvd⟩, hm]
          congr 2
          omega
        · rw [if_neg (fun e => h0 e.1), hm]
          congr 2
          omega
      rw [hr]
      have hq : ((d : Int) == (v : Int)) = true := by simp; omega
      have hq2 : (m == m) = true := by simp
      have hm4 : m ≤ 4 := by omega
      have hm0 : 0 ≤ m := by omega
      clear hr hd hvd hdue hm h5
      go_enter Tryd.func106, Tryd.ntmps106
      unfold runW at HD HTI ⊢
      go_wp2_with (fail)
      refine (HO.out _).mono ?_
      rintro e w1 ⟨rfl, hb⟩
      have hz1 : w.heap.size + 2 ≤ w1.heap.size := by have := hb.size; simp at this; omega
      have P0 := ((Two.new w (.int .u8 (b : Int)) (.int .i64 n) 134 rfl).more (by simp) (.cells #[.int .u8 0, .int .i64 0] 134)).keep hb (by simp; omega)
      have P1 := (Two.new (w.alloc (.cells #[.int .u8 (b : Int), .int .i64 n] 134)) (.int .u8 0) (.int .i64 0) 134 (B := w.heap.size + 1) (by simp)).keep hb (by simp)
      have HB1 := Lib.hid (below_trans' (((Below.refl _ w).alloc (Nat.le_refl _) (.cells #[.int .u8 (b : Int), .int .i64 n] 134)).alloc (by simp) (.cells #[.int .u8 0, .int .i64 0] 134)) hb)
      have HP0 := Lib.hid P0; have HP1 := Lib.hid P1
      obtain ⟨p0, p1, p2, p3⟩ := P0
      clear hb P1 HO
      go_wp2_with (fail)
      refine (HTI.out _).mono ?_
      rintro e w2 ⟨rfl, hb⟩
      have hz2 : w.heap.size + 2 ≤ w2.heap.size := Nat.le_trans hz1 hb.size
      have P0 := HP0.out.keep hb (by omega)
      have P1 := HP1.out.keep hb (by omega)
      have HB2 := Lib.hid (below_trans' HB1.out hb)
      have HP0' := Lib.hid P0; have HP1' := Lib.hid P1
      clear p0 p1 p2 p3
      obtain ⟨p0, p1, p2, p3⟩ := P0
      clear hb P1 HP0 HP1 HB1 HTI
      have hp0A : ∀ o, (w2.alloc o).cell? ⟨w.heap.size, 0, none⟩ = some (.int .u8 (b : Int)) := fun o => (HP0'.out.more (by omega) o).1
      have hp1A : ∀ o, (w2.alloc o).cell? ⟨w.heap.size, 1, none⟩ = some (.int .i64 n) := fun o => (HP0'.out.more (by omega) o).2.1
      go_wp2_with (fail)
      refine (HD.out _).mono ?_
      rintro e w3 ⟨rfl, hb⟩
      have hz3 : w2.heap.size + 1 ≤ w3.heap.size := by have := hb.size; simp at this; omega
      have P0 := (HP0'.out.more (by omega) (.cells #[.int .u8 (d : Int), .int .i64 m] 134)).keep hb (by simp; omega)
      have P1 := (HP1'.out.more (by omega) (.cells #[.int .u8 (d : Int), .int .i64 m] 134)).keep hb (by simp; omega)
      have P6 := (Two.new w2 (.int .u8 (d : Int)) (.int .i64 m) 134 rfl).keep hb (by simp)
      have HB3 := Lib.hid (below_trans' (HB2.out.alloc (by omega) (.cells #[.int .u8 (d : Int), .int .i64 m] 134)) hb)
      have HP1'' := Lib.hid P1
      clear hb HP0' HP1' HB2 hz1 HD hp0A hp1A p0 p1 p2 p3
      obtain ⟨p0, p1, p2, p3⟩ := P0
      obtain ⟨q0, q1, q2, q3⟩ := P6
      obtain ⟨r0, r1, r2, r3⟩ := P1
      go_wp2_with (fail)
      obtain ⟨s0, s1, _, _⟩ := HP1''.out.put (.int .u8 (v : Int)) (.int .i64 (m + 1))
      exact bodyPost_ret (v := .tuple #[.agg #[.int .u8 (v : Int), .int .i64 (m + 1)], .int .i64 0]) (by simp [results, Tryd.results106, go_sem, s0, s1]) rfl ⟨rfl, below_two2 HB3.out (by omega) _ _⟩

    · have hr : nextW b n v = ((v, 1), 0) := by unfold nextW; rw [if_neg h5, ← hd, if_neg (fun e => hvd e.2)]
      rw [hr]
      have hq : ((d : Int) == (v : Int)) = false := by simp; omega
      have hq2 : (m == m) = true := by simp
      clear hr hd hvd hdue hm h5
      go_enter Tryd.func106, Tryd.ntmps106
      unfold runW at HD HTI ⊢
      go_wp2_with (fail)
      refine (HO.out _).mono ?_
      rintro e w1 ⟨rfl, hb⟩
      have hz1 : w.heap.size + 2 ≤ w1.heap.size := by have := hb.size; simp at this; omega
      have P0 := ((Two.new w (.int .u8 (b : Int)) (.int .i64 n) 134 rfl).more (by simp) (.cells #[.int .u8 0, .int .i64 0] 134)).keep hb (by simp; omega)
      have P1 := (Two.new (w.alloc (.cells #[.int .u8 (b : Int), .int .i64 n] 134)) (.int .u8 0) (.int .i64 0) 134 (B := w.heap.size + 1) (by simp)).keep hb (by simp)
      have HB1 := Lib.hid (below_trans' (((Below.refl _ w).alloc (Nat.le_refl _) (.cells #[.int .u8 (b : Int), .int .i64 n] 134)).alloc (by simp) (.cells #[.int .u8 0, .int .i64 0] 134)) hb)
      have HP0 := Lib.hid P0; have HP1 := Lib.hid P1
      obtain ⟨p0, p1, p2, p3⟩ := P0
      clear hb P1 HO
      go_wp2_with (fail)
      refine (HTI.out _).mono ?_
      rintro e w2 ⟨rfl, hb⟩
      have hz2 : w.heap.size + 2 ≤ w2.heap.size := Nat.le_trans hz1 hb.size
      have P0 := HP0.out.keep hb (by omega)
      have P1 := HP1.out.keep hb (by omega)
      have HB2 := Lib.hid (below_trans' HB1.out hb)
      have HP0' := Lib.hid P0; have HP1' := Lib.hid P1
      clear p0 p1 p2 p3
      obtain ⟨p0, p1, p2, p3⟩ := P0
      clear hb P1 HP0 HP1 HB1 HTI
      have hp0A : ∀ o, (w2.alloc o).cell? ⟨w.heap.size, 0, none⟩ = some (.int .u8 (b : Int)) := fun o => (HP0'.out.more (by omega) o).1
      have hp1A : ∀ o, (w2.alloc o).cell? ⟨w.heap.size, 1, none⟩ = some (.int .i64 n) := fun o => (HP0'.out.more (by omega) o).2.1
      go_wp2_with (fail)
      refine (HD.out _).mono ?_
      rintro e w3 ⟨rfl, hb⟩
      have hz3 : w2.heap.size + 1 ≤ w3.heap.size := by have := hb.size; simp at this; omega
      have P0 := (HP0'.out.more (by omega) (.cells #[.int .u8 (d : Int), .int .i64 m] 134)).keep hb (by simp; omega)
      have P1 := (HP1'.out.more (by omega) (.cells #[.int .u8 (d : Int), .int .i64 m] 134)).keep hb (by simp; omega)
      have P6 := (Two.new w2 (.int .u8 (d : Int)) (.int .i64 m) 134 rfl).keep hb (by simp)
      have HB3 := Lib.hid (below_trans' (HB2.out.alloc (by omega) (.cells #[.int .u8 (d : Int), .int .i64 m] 134)) hb)
      have HP1'' := Lib.hid P1
      clear hb HP0' HP1' HB2 hz1 HD hp0A hp1A p0 p1 p2 p3
      obtain ⟨p0, p1, p2, p3⟩ := P0
      obtain ⟨q0, q1, q2, q3⟩ := P6
      obtain ⟨r0, r1, r2, r3⟩ := P1
      go_wp2_with (fail)
      obtain ⟨s0, s1, _, _⟩ := HP1''.out.put (.int .u8 (v : Int)) (.int .i64 1)
      exact bodyPost_ret (v := .tuple #[.agg #[.int .u8 (v : Int), .int .i64 1], .int .i64 0]) (by simp [results, Tryd.results106, go_sem, s0, s1]) rfl ⟨rfl, below_two2 HB3.out (by omega) _ _⟩

end Go.Proofs.YtmfnkfiocnngeaaDoor
