/- Package slave, and the document's own answers of layer 20: words that belong together are put together. Conditions: each theorem says its own. -/
import Derived.Test.YtpamkmpaldepnaaSlb
import Derived.Test.YtpamkmpaldepnaaQui
namespace Go.Proofs.Ytpamkmpaldepnaa
open Go.RowKit
/-- Does a word tell a time, and what is noted behind it. -/
def tellB (k : Bool) (r n : Int) (f : Bool) (a b t : Int) : Bool := decide (rightW f a b t = true ∧ f = true ∧ k = true ∧ r = a ∧ n = b)
def noteB (f : Bool) (a b t : Int) : Bool := decide (rightW f a b t = true ∧ f = false)
theorem slnew_any (w : World) : Calls Try.prog 32 #[] w fun y w' => ∃ B, y = .returned (.pointer (some ⟨B, 0, none⟩)) ∧ Blk w' B 106 [.bool false, .bool false, .int .i64 0, .int .i64 0, .int .i64 0, .int .i64 0] ∧ w.heap.size ≤ B ∧ Below w.heap.size w w' := by
  go_enter Try.func32, Try.ntmps32
  go_wp2_with fail
  go_ret
  exact ⟨_, rfl, Blk.new w 106 [.bool false, .bool false, .int .i64 0, .int .i64 0, .int .i64 0, .int .i64 0], Nat.le_refl _, (Below.refl _ w).alloc (Nat.le_refl _) _⟩
theorem slhear_nil (f : Bool) (a b t c : Int) (w : World) : Calls Try.prog 36 #[.pointer none, .agg #[.bool f, .int .i64 a, .int .i64 b, .int .i64 t], .int .i64 c] w fun y w' => y = .returned (.tuple #[.int .i64 0, .int .i64 0, .bool false]) ∧ Below w.heap.size w w' := by
  go_enter Try.func36, Try.ntmps36
  go_wp2_with fail
  exact bodyPost_ret (v := .tuple #[.int .i64 0, .int .i64 0, .bool false]) (by simp [results, Try.results36, go_sem]) rfl ⟨rfl, (Below.refl _ w).alloc (Nat.le_refl _) _⟩
set_option maxRecDepth 100000 in
set_option maxHeartbeats 4000000 in
theorem slhear_any (k : Bool) (r n c : Int) (f : Bool) (a b t d : Int) (B : Nat) (w : World) (h : Blk w B 106 [.bool k, .bool false, .int .i64 r, .int .i64 n, .int .i64 0, .int .i64 c]) : Calls Try.prog 36 #[.pointer (some ⟨B, 0, none⟩), .agg #[.bool f, .int .i64 a, .int .i64 b, .int .i64 t], .int .i64 d] w fun y w' => y = .returned (.tuple #[.int .i64 (if tellB k r n f a b t then c else 0), .int .i64 (if tellB k r n f a b t then t else 0), .bool (tellB k r n f a b t)]) ∧ Blk w' B 106 (if noteB f a b t then [.bool true, .bool false, .int .i64 a, .int .i64 b, .int .i64 0, .int .i64 d] else if tellB k r n f a b t then [.bool false, .bool false, .int .i64 0, .int .i64 0, .int .i64 0, .int .i64 0] else [.bool k, .bool false, .int .i64 r, .int .i64 n, .int .i64 0, .int .i64 c]) ∧ Kp B (.slice none 0 0) w w' := by
  have HR := Lib.hid (fun u => slright_any f a b t u)
  obtain ⟨rg, hrg⟩ : ∃ x, x = rightW f a b t := ⟨_, rfl⟩
  rw [← hrg] at HR
  have HRG := Lib.hid hrg
  have HH := Lib.hid h
  have HL := Lib.hid h.lt
  clear hrg h
  obtain ⟨tb, htb⟩ : ∃ x, x = tellB k r n f a b t := ⟨_, rfl⟩
  obtain ⟨nb, hnb⟩ : ∃ x, x = noteB f a b t := ⟨_, rfl⟩
  rw [← htb, ← hnb]
  have HT := Lib.hid htb; have HN := Lib.hid hnb
  clear htb hnb
  obtain ⟨W1, hW1⟩ : ∃ W, W = w.alloc (.cells #[.bool f, .int .i64 a, .int .i64 b, .int .i64 t] 75) := ⟨_, rfl⟩
  have HB1 := Lib.hid (show Below w.heap.size w W1 by rw [hW1]; exact (Below.refl _ w).alloc (Nat.le_refl _) _)
  have HS1 := Lib.hid (show Blk W1 w.heap.size 75 [.bool f, .int .i64 a, .int .i64 b, .int .i64 t] by rw [hW1]; exact Blk.new w 75 [.bool f, .int .i64 a, .int .i64 b, .int .i64 t])
  go_enter Try.func36, Try.ntmps36
  go_upto_region 1 with fail
  rw [← hW1]
  clear hW1
  have s0 : W1.cell? ⟨w.heap.size, 0, none⟩ = some (.bool f) := HS1.out.cellAt (i := 0) (by simp)
  have s1 : W1.cell? ⟨w.heap.size, 1, none⟩ = some (.int .i64 a) := HS1.out.cellAt (i := 1) (by simp)
  have s2 : W1.cell? ⟨w.heap.size, 2, none⟩ = some (.int .i64 b) := HS1.out.cellAt (i := 2) (by simp)
  have s3 : W1.cell? ⟨w.heap.size, 3, none⟩ = some (.int .i64 t) := HS1.out.cellAt (i := 3) (by simp)
  go_wp2_with fail
  refine (HR.out _).mono ?_
  rintro y w2 ⟨rfl, hb⟩
  have HB2 := Lib.hid (HB1.out.trans (hb.mono HB1.out.size))
  have hS := HS1.out.keep hb HS1.out.lt
  have HM := Lib.hid (HH.out.keep HB2.out HL.out)
  have HK := Lib.hid (Kp.of_below (B := B) (v := .slice none 0 0) HB2.out)
  have s0 : w2.cell? ⟨w.heap.size, 0, none⟩ = some (.bool f) := hS.cellAt (i := 0) (by simp)
  have s1 : w2.cell? ⟨w.heap.size, 1, none⟩ = some (.int .i64 a) := hS.cellAt (i := 1) (by simp)
  have s2 : w2.cell? ⟨w.heap.size, 2, none⟩ = some (.int .i64 b) := hS.cellAt (i := 2) (by simp)
  have s3 : w2.cell? ⟨w.heap.size, 3, none⟩ = some (.int .i64 t) := hS.cellAt (i := 3) (by simp)
  have q0 : w2.cell? ⟨B, 0, none⟩ = some (.bool k) := HM.out.cellAt (i := 0) (by simp)
  have q1 : w2.cell? ⟨B, 1, none⟩ = some (.bool false) := HM.out.cellAt (i := 1) (by simp)
  have q2 : w2.cell? ⟨B, 2, none⟩ = some (.int .i64 r) := HM.out.cellAt (i := 2) (by simp)
  have q3 : w2.cell? ⟨B, 3, none⟩ = some (.int .i64 n) := HM.out.cellAt (i := 3) (by simp)
  have q4 : w2.cell? ⟨B, 4, none⟩ = some (.int .i64 0) := HM.out.cellAt (i := 4) (by simp)
  have q5 : w2.cell? ⟨B, 5, none⟩ = some (.int .i64 c) := HM.out.cellAt (i := 5) (by simp)
  have p0 : w2.frozen? ⟨B, 0, none⟩ = false := HM.out.frozenAt 0
  have p1 : w2.frozen? ⟨B, 1, none⟩ = false := HM.out.frozenAt 1
  have p2 : w2.frozen? ⟨B, 2, none⟩ = false := HM.out.frozenAt 2
  have p3 : w2.frozen? ⟨B, 3, none⟩ = false := HM.out.frozenAt 3
  have p4 : w2.frozen? ⟨B, 4, none⟩ = false := HM.out.frozenAt 4
  have p5 : w2.frozen? ⟨B, 5, none⟩ = false := HM.out.frozenAt 5
  have HS2 := Lib.hid hS
  clear hb hS
  cases rg
  case false =>
    obtain rfl : tb = false := by rw [HT.out]; unfold tellB; rw [← HRG.out]; simp
    obtain rfl : nb = false := by rw [HN.out]; unfold noteB; rw [← HRG.out]; simp
    go_wp2_with fail
    exact bodyPost_ret (v := .tuple #[.int .i64 0, .int .i64 0, .bool false]) (by simp [results, Try.results36, go_sem]) rfl ⟨rfl, HM.out, HK.out⟩
  cases f
  case false =>
    obtain rfl : tb = false := by rw [HT.out]; unfold tellB; simp
    obtain rfl : nb = true := by rw [HN.out]; unfold noteB; rw [← HRG.out]; simp
    obtain rfl : t = 0 := by have h := rightW_of HRG.out.symm; simpa using h.2.2.2
    clear HRG HT HN HR
    go_wp2_with fail
    exact bodyPost_ret (v := .tuple #[.int .i64 0, .int .i64 0, .bool false]) (by simp [results, Try.results36, go_sem]) rfl ⟨rfl, HM.out.set [.bool true, .bool false, .int .i64 a, .int .i64 b, .int .i64 0, .int .i64 d] rfl, ((((((HK.out.set 0 _).set 1 _).set 2 _).set 3 _).set 4 _).set 5 _)⟩
  obtain rfl : nb = false := by rw [HN.out]; unfold noteB; simp
  clear HN
  have HZ := Lib.hid (show ∀ x, Below w2.heap.size w2 x → (Below w2.heap.size w2 x ∧ x.cell? ⟨B, 0, none⟩ = some (.bool k) ∧ x.cell? ⟨B, 1, none⟩ = some (.bool false) ∧ x.cell? ⟨B, 2, none⟩ = some (.int .i64 r) ∧ x.cell? ⟨B, 3, none⟩ = some (.int .i64 n) ∧ x.cell? ⟨B, 4, none⟩ = some (.int .i64 0) ∧ x.cell? ⟨B, 5, none⟩ = some (.int .i64 c) ∧ x.cell? ⟨w.heap.size, 0, none⟩ = some (.bool true) ∧ x.cell? ⟨w.heap.size, 1, none⟩ = some (.int .i64 a) ∧ x.cell? ⟨w.heap.size, 2, none⟩ = some (.int .i64 b) ∧ x.cell? ⟨w.heap.size, 3, none⟩ = some (.int .i64 t)) from fun x hx => ⟨hx, (HM.out.keep hx HM.out.lt).cellAt (i := 0) (by simp), (HM.out.keep hx HM.out.lt).cellAt (i := 1) (by simp), (HM.out.keep hx HM.out.lt).cellAt (i := 2) (by simp), (HM.out.keep hx HM.out.lt).cellAt (i := 3) (by simp), (HM.out.keep hx HM.out.lt).cellAt (i := 4) (by simp), (HM.out.keep hx HM.out.lt).cellAt (i := 5) (by simp), (HS2.out.keep hx HS2.out.lt).cellAt (i := 0) (by simp), (HS2.out.keep hx HS2.out.lt).cellAt (i := 1) (by simp), (HS2.out.keep hx HS2.out.lt).cellAt (i := 2) (by simp), (HS2.out.keep hx HS2.out.lt).cellAt (i := 3) (by simp)⟩)
  cases k
  case false =>
    obtain rfl : tb = false := by rw [HT.out]; unfold tellB; simp
    clear HRG HT HR
    go_upto_region 6 with fail
    clear q0 q1 q2 q3 q4 q5 p0 p1 p2 p3 p4 p5 s0 s1 s2 s3
    refine wp_region_class (C := fun x => (Below w2.heap.size w2 x ∧ x.cell? ⟨B, 0, none⟩ = some (.bool false) ∧ x.cell? ⟨B, 1, none⟩ = some (.bool false) ∧ x.cell? ⟨B, 2, none⟩ = some (.int .i64 r) ∧ x.cell? ⟨B, 3, none⟩ = some (.int .i64 n) ∧ x.cell? ⟨B, 4, none⟩ = some (.int .i64 0) ∧ x.cell? ⟨B, 5, none⟩ = some (.int .i64 c) ∧ x.cell? ⟨w.heap.size, 0, none⟩ = some (.bool true) ∧ x.cell? ⟨w.heap.size, 1, none⟩ = some (.int .i64 a) ∧ x.cell? ⟨w.heap.size, 2, none⟩ = some (.int .i64 b) ∧ x.cell? ⟨w.heap.size, 3, none⟩ = some (.int .i64 t))) (by kernel_rfl) (by kernel_rfl) (HZ.out _ (Below.refl _ _).drew) ?_
    repeat
      with_reducible refine wpQuiet_step (fun K hK => ?_)
      first
        | (refine quiet_skip (by rfl) ?_; (with_reducible refine hK _ ?_); clear hK K)
        | (refine quiet_want (by rfl) ?_
           apply Exists.intro
           refine ⟨fun x hx => ?_, hK _ ?_⟩
           (obtain ⟨_, hx0, hx1, hx2, hx3, hx4, hx5, hy0, hy1, hy2, hy3⟩ := id hx; go_simp; first | done | rfl | ((go_at_call 65; exact (ahead_any true a b t x).mono fun y w2 ⟨h1, h2⟩ => ⟨h1, HZ.out _ (below_transG hx.1 h2)⟩)))
           clear hK K)
      try simp only [Act.put, List.setIfInBounds_toArray, List.set_cons_zero, List.set_cons_succ]
    with_reducible refine wpQuiet_nil ?_
    intro wq hq
    have HB3 := Lib.hid hq.1
    clear hq
    go_wp2_with fail
    exact bodyPost_ret (v := .tuple #[.int .i64 0, .int .i64 0, .bool false]) (by simp [results, Try.results36, go_sem]) rfl ⟨rfl, HM.out.keep HB3.out HM.out.lt, HK.out.step HB3.out⟩
  by_cases h1 : r = a
  case neg =>
    obtain rfl : tb = false := by rw [HT.out]; unfold tellB; simp [h1]
    have i1 : (r == a) = false := by simp [h1]
    have i2 : (r != a) = true := by simp [h1]
    clear HRG HT HR h1
    go_upto_region 6 with fail
    clear q0 q1 q2 q3 q4 q5 p0 p1 p2 p3 p4 p5 s0 s1 s2 s3
    refine wp_region_class (C := fun x => (Below w2.heap.size w2 x ∧ x.cell? ⟨B, 0, none⟩ = some (.bool true) ∧ x.cell? ⟨B, 1, none⟩ = some (.bool false) ∧ x.cell? ⟨B, 2, none⟩ = some (.int .i64 r) ∧ x.cell? ⟨B, 3, none⟩ = some (.int .i64 n) ∧ x.cell? ⟨B, 4, none⟩ = some (.int .i64 0) ∧ x.cell? ⟨B, 5, none⟩ = some (.int .i64 c) ∧ x.cell? ⟨w.heap.size, 0, none⟩ = some (.bool true) ∧ x.cell? ⟨w.heap.size, 1, none⟩ = some (.int .i64 a) ∧ x.cell? ⟨w.heap.size, 2, none⟩ = some (.int .i64 b) ∧ x.cell? ⟨w.heap.size, 3, none⟩ = some (.int .i64 t))) (by kernel_rfl) (by kernel_rfl) (HZ.out _ (Below.refl _ _).drew) ?_
    repeat
      with_reducible refine wpQuiet_step (fun K hK => ?_)
      first
        | (refine quiet_skip (by rfl) ?_; (with_reducible refine hK _ ?_); clear hK K)
        | (refine quiet_want (by rfl) ?_
           apply Exists.intro
           refine ⟨fun x hx => ?_, hK _ ?_⟩
           (obtain ⟨_, hx0, hx1, hx2, hx3, hx4, hx5, hy0, hy1, hy2, hy3⟩ := id hx; go_simp; first | done | rfl | ((go_at_call 65; exact (ahead_any true a b t x).mono fun y w2 ⟨h1, h2⟩ => ⟨h1, HZ.out _ (below_transG hx.1 h2)⟩)))
           clear hK K)
      try simp only [Act.put, List.setIfInBounds_toArray, List.set_cons_zero, List.set_cons_succ]
    with_reducible refine wpQuiet_nil ?_
    intro wq hq
    have HB3 := Lib.hid hq.1
    clear hq
    go_wp2_with fail
    exact bodyPost_ret (v := .tuple #[.int .i64 0, .int .i64 0, .bool false]) (by simp [results, Try.results36, go_sem]) rfl ⟨rfl, HM.out.keep HB3.out HM.out.lt, HK.out.step HB3.out⟩
  obtain rfl := h1
  by_cases h1 : n = b
  case neg =>
    obtain rfl : tb = false := by rw [HT.out]; unfold tellB; simp [h1]
    have i1 : (n == b) = false := by simp [h1]
    have i2 : (n != b) = true := by simp [h1]
    clear HRG HT HR h1
    go_upto_region 6 with fail
    clear q0 q1 q2 q3 q4 q5 p0 p1 p2 p3 p4 p5 s0 s1 s2 s3
    refine wp_region_class (C := fun x => (Below w2.heap.size w2 x ∧ x.cell? ⟨B, 0, none⟩ = some (.bool true) ∧ x.cell? ⟨B, 1, none⟩ = some (.bool false) ∧ x.cell? ⟨B, 2, none⟩ = some (.int .i64 r) ∧ x.cell? ⟨B, 3, none⟩ = some (.int .i64 n) ∧ x.cell? ⟨B, 4, none⟩ = some (.int .i64 0) ∧ x.cell? ⟨B, 5, none⟩ = some (.int .i64 c) ∧ x.cell? ⟨w.heap.size, 0, none⟩ = some (.bool true) ∧ x.cell? ⟨w.heap.size, 1, none⟩ = some (.int .i64 r) ∧ x.cell? ⟨w.heap.size, 2, none⟩ = some (.int .i64 b) ∧ x.cell? ⟨w.heap.size, 3, none⟩ = some (.int .i64 t))) (by kernel_rfl) (by kernel_rfl) (HZ.out _ (Below.refl _ _).drew) ?_
    repeat
      with_reducible refine wpQuiet_step (fun K hK => ?_)
      first
        | (refine quiet_skip (by rfl) ?_; (with_reducible refine hK _ ?_); clear hK K)
        | (refine quiet_want (by rfl) ?_
           apply Exists.intro
           refine ⟨fun x hx => ?_, hK _ ?_⟩
           (obtain ⟨_, hx0, hx1, hx2, hx3, hx4, hx5, hy0, hy1, hy2, hy3⟩ := id hx; go_simp; first | done | rfl | ((go_at_call 65; exact (ahead_any true r b t x).mono fun y w2 ⟨h1, h2⟩ => ⟨h1, HZ.out _ (below_transG hx.1 h2)⟩)))
           clear hK K)
      try simp only [Act.put, List.setIfInBounds_toArray, List.set_cons_zero, List.set_cons_succ]
    with_reducible refine wpQuiet_nil ?_
    intro wq hq
    have HB3 := Lib.hid hq.1
    clear hq
    go_wp2_with fail
    exact bodyPost_ret (v := .tuple #[.int .i64 0, .int .i64 0, .bool false]) (by simp [results, Try.results36, go_sem]) rfl ⟨rfl, HM.out.keep HB3.out HM.out.lt, HK.out.step HB3.out⟩
  obtain rfl := h1
  · obtain rfl : tb = true := by rw [HT.out]; unfold tellB; rw [← HRG.out]; simp
    clear HRG HT HR
    go_upto_region 6 with fail
    clear q0 q1 q2 q3 q4 q5 p0 p1 p2 p3 p4 p5 s0 s1 s2 s3
    refine wp_region_class (C := fun x => (Below w2.heap.size w2 x ∧ x.cell? ⟨B, 0, none⟩ = some (.bool true) ∧ x.cell? ⟨B, 1, none⟩ = some (.bool false) ∧ x.cell? ⟨B, 2, none⟩ = some (.int .i64 r) ∧ x.cell? ⟨B, 3, none⟩ = some (.int .i64 n) ∧ x.cell? ⟨B, 4, none⟩ = some (.int .i64 0) ∧ x.cell? ⟨B, 5, none⟩ = some (.int .i64 c) ∧ x.cell? ⟨w.heap.size, 0, none⟩ = some (.bool true) ∧ x.cell? ⟨w.heap.size, 1, none⟩ = some (.int .i64 r) ∧ x.cell? ⟨w.heap.size, 2, none⟩ = some (.int .i64 n) ∧ x.cell? ⟨w.heap.size, 3, none⟩ = some (.int .i64 t))) (by kernel_rfl) (by kernel_rfl) (HZ.out _ (Below.refl _ _).drew) ?_
    repeat
      with_reducible refine wpQuiet_step (fun K hK => ?_)
      first
        | (refine quiet_skip (by rfl) ?_; (with_reducible refine hK _ ?_); clear hK K)
        | (refine quiet_want (by rfl) ?_
           apply Exists.intro
           refine ⟨fun x hx => ?_, hK _ ?_⟩
           (obtain ⟨_, hx0, hx1, hx2, hx3, hx4, hx5, hy0, hy1, hy2, hy3⟩ := id hx; go_simp; first | done | rfl | ((go_at_call 65; exact (ahead_any true r n t x).mono fun y w2 ⟨h1, h2⟩ => ⟨h1, HZ.out _ (below_transG hx.1 h2)⟩)))
           clear hK K)
      try simp only [Act.put, List.setIfInBounds_toArray, List.set_cons_zero, List.set_cons_succ]
    with_reducible refine wpQuiet_nil ?_
    intro wq hq
    have HB3 := Lib.hid hq.1
    clear hq
    have HM3 := Lib.hid (HM.out.keep HB3.out HM.out.lt); have HS3 := Lib.hid (HS2.out.keep HB3.out HS2.out.lt); have HK3 := Lib.hid (HK.out.step HB3.out)
    have q0 : wq.cell? ⟨B, 0, none⟩ = some (.bool true) := HM3.out.cellAt (i := 0) (by simp)
    have q1 : wq.cell? ⟨B, 1, none⟩ = some (.bool false) := HM3.out.cellAt (i := 1) (by simp)
    have q2 : wq.cell? ⟨B, 2, none⟩ = some (.int .i64 r) := HM3.out.cellAt (i := 2) (by simp)
    have q3 : wq.cell? ⟨B, 3, none⟩ = some (.int .i64 n) := HM3.out.cellAt (i := 3) (by simp)
    have q4 : wq.cell? ⟨B, 4, none⟩ = some (.int .i64 0) := HM3.out.cellAt (i := 4) (by simp)
    have q5 : wq.cell? ⟨B, 5, none⟩ = some (.int .i64 c) := HM3.out.cellAt (i := 5) (by simp)
    have p0 : wq.frozen? ⟨B, 0, none⟩ = false := HM3.out.frozenAt 0
    have p1 : wq.frozen? ⟨B, 1, none⟩ = false := HM3.out.frozenAt 1
    have p2 : wq.frozen? ⟨B, 2, none⟩ = false := HM3.out.frozenAt 2
    have p3 : wq.frozen? ⟨B, 3, none⟩ = false := HM3.out.frozenAt 3
    have p4 : wq.frozen? ⟨B, 4, none⟩ = false := HM3.out.frozenAt 4
    have p5 : wq.frozen? ⟨B, 5, none⟩ = false := HM3.out.frozenAt 5
    have s0 : wq.cell? ⟨w.heap.size, 0, none⟩ = some (.bool true) := HS3.out.cellAt (i := 0) (by simp)
    have s1 : wq.cell? ⟨w.heap.size, 1, none⟩ = some (.int .i64 r) := HS3.out.cellAt (i := 1) (by simp)
    have s2 : wq.cell? ⟨w.heap.size, 2, none⟩ = some (.int .i64 n) := HS3.out.cellAt (i := 2) (by simp)
    have s3 : wq.cell? ⟨w.heap.size, 3, none⟩ = some (.int .i64 t) := HS3.out.cellAt (i := 3) (by simp)
    have HBN := Lib.hid (show B ≠ w.heap.size by have := HL.out; omega)
    go_upto_region 10 with fail
    obtain ⟨w4, hw4⟩ : ∃ w4, w4 = ((((((wq.setCell ⟨B, 0, none⟩ (.bool false)).setCell ⟨B, 1, none⟩ (.bool false)).setCell ⟨B, 2, none⟩ (.int .i64 0)).setCell ⟨B, 3, none⟩ (.int .i64 0)).setCell ⟨B, 4, none⟩ (.int .i64 0)).setCell ⟨B, 5, none⟩ (.int .i64 0)) := ⟨_, rfl⟩
    rw [← hw4]
    have HM4 := Lib.hid (show Blk w4 B 106 [.bool false, .bool false, .int .i64 0, .int .i64 0, .int .i64 0, .int .i64 0] by rw [hw4]; exact HM3.out.set [.bool false, .bool false, .int .i64 0, .int .i64 0, .int .i64 0, .int .i64 0] rfl)
    have HK4 := Lib.hid (show Kp B (.slice none 0 0) w w4 by rw [hw4]; exact ((((((HK3.out.set 0 _).set 1 _).set 2 _).set 3 _).set 4 _).set 5 _))
    have s3 : w4.cell? ⟨w.heap.size, 3, none⟩ = some (.int .i64 t) := by rw [hw4]; exact ((((((HS3.out.puts HBN.out 0 _).puts HBN.out 1 _).puts HBN.out 2 _).puts HBN.out 3 _).puts HBN.out 4 _).puts HBN.out 5 _).cellAt (i := 3) (by simp)
    clear hw4
    go_region
    go_wp2_with fail
    exact bodyPost_ret (v := .tuple #[.int .i64 c, .int .i64 t, .bool true]) (by simp [results, Try.results36, go_sem]) rfl ⟨rfl, HM4.out, HK4.out.step (Below.refl _ _).drew⟩
end Go.Proofs.Ytpamkmpaldepnaa
