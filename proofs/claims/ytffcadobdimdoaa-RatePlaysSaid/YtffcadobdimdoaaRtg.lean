/- Package rate's estimator: Add. Conditions: what it holds can be, and the sample is of numbers of 64 bits. -/
import Derived.Test.YtffcadobdimdoaaRtf
namespace Go.Proofs.Ytffcadobdimdoaa
open Go.RowKit
def ES.hear (e : ES) (t h : Int) : ES := ⟨e.m, e.n, true, t, h, e.R, e.L, e.x⟩
def ES.addB (e : ES) (t h : Int) : Bool := e.s && rofB e.t e.h t h e.m
def ES.add (e : ES) (t h : Int) : ES := if e.addB t h = true then (e.hear t h).keep (rofX e.t e.h t h e.m) else e.hear t h
theorem ES.hear_ok {e : ES} (h : e.Ok) {a b : Int} (ha : -9223372036854775808 ≤ a ∧ a ≤ 9223372036854775807) (hb : -9223372036854775808 ≤ b ∧ b ≤ 9223372036854775807) : (e.hear a b).Ok := ⟨h.m0, ha, hb, h.ring, h.l0⟩
theorem add_nil (a b : Int) (w : World) : Calls Try.prog 21 #[.pointer none, .agg #[.int .i64 a, .int .i64 b]] w fun y w' => y = .returned (.bool false) ∧ Below w.heap.size w w' := by
  have HB := Lib.hid ((Below.refl _ w).alloc (Nat.le_refl _) (.cells #[.int .i64 a, .int .i64 b] 23))
  go_enter Try.func21, Try.ntmps21
  go_wp2_with fail
  go_ret
  exact ⟨rfl, HB.out⟩
theorem hear_cells {m : Int} {n : Nat} {s : Bool} {t h : Int} {R : List Int} {k x : Int} {w : World} {B : Nat} (a b : Int) (hR : R.length = 9) (hB : Blk w B 141 (eC m n s t h R k x)) :
    Blk (((w.setCell ⟨B, 3, none⟩ (.int .i64 a)).setCell ⟨B, 4, none⟩ (.int .i64 b)).setCell ⟨B, 2, none⟩ (.bool true)) B 141 (eC m n true a b R k x) :=
  ((hB.put1 (i := 3) (by rw [eC_len hR]; decide) (.int .i64 a)).put1 (i := 4) (by rw [List.length_set, eC_len hR]; decide) (.int .i64 b)).put1 (i := 2) (by rw [List.length_set, List.length_set, eC_len hR]; decide) (.bool true)
set_option maxHeartbeats 4000000 in
set_option maxRecDepth 100000 in
theorem add_any (a b : Int) (ha : -9223372036854775808 ≤ a ∧ a ≤ 9223372036854775807) (hb : -9223372036854775808 ≤ b ∧ b ≤ 9223372036854775807) (e : ES) (B : Nat) (w : World) (hE : EA w B e) : Calls Try.prog 21 #[.pointer (some ⟨B, 0, none⟩), .agg #[.int .i64 a, .int .i64 b]] w fun y w' => y = .returned (.bool (e.addB a b)) ∧ EA w' B (e.add a b) ∧ Kp B (.slice none 0 0) w w' := by
  obtain ⟨m, n, s, t, h, R, L, x⟩ := e
  have HE := Lib.hid hE
  have HA := Lib.hid (And.intro ha hb)
  have HOF := Lib.hid (fun u => rate_of_any t h a b m hE.2.t0 hE.2.h0 ha hb u)
  clear hE ha hb
  obtain ⟨o1, ho1⟩ : ∃ o, o = Obj.cells #[.int .i64 a, .int .i64 b] 23 := ⟨_, rfl⟩
  have HWB := Lib.hid (show ∀ o, Blk (w.alloc o) B 141 (eC m n s t h R (L.length : Int) (x : Int)) from fun o => HE.out.1.keep ((Below.refl _ w).alloc (Nat.le_refl _) o) HE.out.1.lt)
  have HW2 := Lib.hid (show ∀ o o2, Blk ((w.alloc o).alloc o2) B 141 (eC m n s t h R (L.length : Int) (x : Int)) from fun o o2 => (HWB.out o).keep ((Below.refl _ _).alloc (Nat.le_refl _) o2) (HWB.out o).lt)
  have b2 : ∀ o, (w.alloc o).cell? ⟨B, 2, none⟩ = some (.bool s) := fun o => (eC_cells HE.out.2.ring.len (HWB.out o)).2.2.1
  have b3 : ∀ o, (w.alloc o).cell? ⟨B, 3, none⟩ = some (.int .i64 t) := fun o => (eC_cells HE.out.2.ring.len (HWB.out o)).2.2.2.1
  have b4 : ∀ o, (w.alloc o).cell? ⟨B, 4, none⟩ = some (.int .i64 h) := fun o => (eC_cells HE.out.2.ring.len (HWB.out o)).2.2.2.2.1
  have a2 : ∀ o o2, ((w.alloc o).alloc o2).cell? ⟨B, 2, none⟩ = some (.bool s) := fun o o2 => (eC_cells HE.out.2.ring.len (HW2.out o o2)).2.2.1
  have a3 : ∀ o o2, ((w.alloc o).alloc o2).cell? ⟨B, 3, none⟩ = some (.int .i64 t) := fun o o2 => (eC_cells HE.out.2.ring.len (HW2.out o o2)).2.2.2.1
  have a4 : ∀ o o2, ((w.alloc o).alloc o2).cell? ⟨B, 4, none⟩ = some (.int .i64 h) := fun o o2 => (eC_cells HE.out.2.ring.len (HW2.out o o2)).2.2.2.2.1
  go_enter Try.func21, Try.ntmps21
  go_wp2_with fail
  go_region
  go_upto_region 4 with fail
  clear a2 a3 a4 b2 b3 b4
  have HB := Lib.hid HE.out.1.lt
  obtain ⟨w3, hw3⟩ : ∃ w3, w3 = ((w.alloc (Obj.cells #[.int .i64 a, .int .i64 b] 23)).alloc (Obj.cells #[.int .i64 t, .int .i64 h] 23)) := ⟨_, rfl⟩
  rw [← hw3]
  have HE3 := Lib.hid (show Blk w3 B 141 (eC m n s t h R (L.length : Int) (x : Int)) from hw3 ▸ HW2.out _ _)
  have HS3 := Lib.hid (show Blk w3 w.heap.size 23 [.int .i64 a, .int .i64 b] from hw3 ▸ (Blk.new w 23 [.int .i64 a, .int .i64 b]).keep ((Below.refl _ _).alloc (Nat.le_refl _) _) (by simp))
  have HT3 := Lib.hid (show Blk w3 (w.heap.size + 1) 23 [.int .i64 t, .int .i64 h] from hw3 ▸ by
    have := Blk.new (w.alloc (Obj.cells #[.int .i64 a, .int .i64 b] 23)) 23 [.int .i64 t, .int .i64 h]
    rw [show (w.alloc (Obj.cells #[.int .i64 a, .int .i64 b] 23)).heap.size = w.heap.size + 1 by simp] at this
    exact this)
  have HB3 := Lib.hid (show Below w.heap.size w w3 from hw3 ▸ ((Below.refl _ w).alloc (Nat.le_refl _) _).alloc (by simp) _)
  clear hw3
  have c3 : w3.cell? ⟨B, 3, none⟩ = some (.int .i64 t) := (eC_cells HE.out.2.ring.len HE3.out).2.2.2.1
  have c4 : w3.cell? ⟨B, 4, none⟩ = some (.int .i64 h) := (eC_cells HE.out.2.ring.len HE3.out).2.2.2.2.1
  have c2 : w3.cell? ⟨B, 2, none⟩ = some (.bool s) := (eC_cells HE.out.2.ring.len HE3.out).2.2.1
  have f3 : w3.frozen? ⟨B, 3, none⟩ = false := HE3.out.frozenAt 3
  have f4 : w3.frozen? ⟨B, 4, none⟩ = false := HE3.out.frozenAt 4
  have f2 : w3.frozen? ⟨B, 2, none⟩ = false := HE3.out.frozenAt 2
  have s0 : w3.cell? ⟨w.heap.size, 0, none⟩ = some (.int .i64 a) := HS3.out.cellAt (i := 0) (by simp)
  have s1 : w3.cell? ⟨w.heap.size, 1, none⟩ = some (.int .i64 b) := HS3.out.cellAt (i := 1) (by simp)
  go_upto_region 5 with fail
  obtain ⟨w4, hw4⟩ : ∃ w4, w4 = ((w3.setCell ⟨B, 3, none⟩ (.int .i64 a)).setCell ⟨B, 4, none⟩ (.int .i64 b)).setCell ⟨B, 2, none⟩ (.bool true) := ⟨_, rfl⟩
  rw [← hw4]
  clear c2 c3 c4 f2 f3 f4 s0 s1
  have hne : B ≠ w.heap.size := Nat.ne_of_lt HB.out
  have hne1 : B ≠ w.heap.size + 1 := by have := HB.out; omega
  have HE4 := Lib.hid (show Blk w4 B 141 (eC m n true a b R (L.length : Int) (x : Int)) from hw4 ▸ hear_cells a b HE.out.2.ring.len HE3.out)
  have HS4 := Lib.hid (show Blk w4 w.heap.size 23 [.int .i64 a, .int .i64 b] from hw4 ▸ ((HS3.out.puts hne 3 _).puts hne 4 _).puts hne 2 _)
  have HT4 := Lib.hid (show Blk w4 (w.heap.size + 1) 23 [.int .i64 t, .int .i64 h] from hw4 ▸ ((HT3.out.puts hne1 3 _).puts hne1 4 _).puts hne1 2 _)
  have HK4 := Lib.hid (show Kp B (.slice none 0 0) w w4 from hw4 ▸ (((Kp.of_below HB3.out).set 3 _).set 4 _).set 2 _)
  clear hw4 hne hne1
  have HZ := Lib.hid (show ∀ x, Below w4.heap.size w4 x → Below w4.heap.size w4 x ∧ x.cell? ⟨w.heap.size, 0, none⟩ = some (.int .i64 a) ∧ x.cell? ⟨w.heap.size, 1, none⟩ = some (.int .i64 b) ∧ x.cell? ⟨w.heap.size + 1, 0, none⟩ = some (.int .i64 t) ∧ x.cell? ⟨w.heap.size + 1, 1, none⟩ = some (.int .i64 h) ∧ x.cell? ⟨B, 0, none⟩ = some (.int .i64 m) from fun x hx => ⟨hx, (HS4.out.keep hx HS4.out.lt).cellAt (i := 0) (by simp), (HS4.out.keep hx HS4.out.lt).cellAt (i := 1) (by simp), (HT4.out.keep hx HT4.out.lt).cellAt (i := 0) (by simp), (HT4.out.keep hx HT4.out.lt).cellAt (i := 1) (by simp), (eC_cells HE.out.2.ring.len (HE4.out.keep hx HE4.out.lt)).1⟩)
  obtain ⟨X, hX⟩ : ∃ X, X = rofX t h a b m := ⟨_, rfl⟩
  obtain ⟨Y, hY⟩ : ∃ Y, Y = rofB t h a b m := ⟨_, rfl⟩
  rw [← hX, ← hY] at HOF
  have HXY := Lib.hid (And.intro hX hY)
  clear hX hY
  refine wp_region_class (C := fun x => Below w4.heap.size w4 x ∧ x.cell? ⟨w.heap.size, 0, none⟩ = some (.int .i64 a) ∧ x.cell? ⟨w.heap.size, 1, none⟩ = some (.int .i64 b) ∧ x.cell? ⟨w.heap.size + 1, 0, none⟩ = some (.int .i64 t) ∧ x.cell? ⟨w.heap.size + 1, 1, none⟩ = some (.int .i64 h) ∧ x.cell? ⟨B, 0, none⟩ = some (.int .i64 m)) (by kernel_rfl) (by kernel_rfl) (HZ.out _ (Below.refl _ _).drew.drew) ?_
  repeat
    with_reducible refine wpQuiet_step (fun K hK => ?_)
    first
      | (refine quiet_skip (by rfl) ?_; (with_reducible refine hK _ ?_); clear hK K)
      | (refine quiet_want (by rfl) ?_
         apply Exists.intro
         refine ⟨fun x hx => ?_, hK _ ?_⟩
         (obtain ⟨_, hx1, hx2, hx3, hx4, hx5⟩ := id hx; go_simp; first | done | rfl | ((go_at_call 13; exact (HOF.out _).mono fun y w' ⟨h1, h2⟩ => ⟨h1, HZ.out _ (below_transG hx.1 h2)⟩)))
         clear hK K)
    try simp only [Act.put, List.setIfInBounds_toArray, List.set_cons_zero, List.set_cons_succ]
  with_reducible refine wpQuiet_nil ?_
  intro wq hq
  have HB5 := Lib.hid hq.1
  clear hq
  have HE5 := Lib.hid (show EA wq B (ES.hear ⟨m, n, s, t, h, R, L, x⟩ a b) from ⟨HE4.out.keep HB5.out HE4.out.lt, ES.hear_ok HE.out.2 HA.out.1 HA.out.2⟩)
  have HK5 := Lib.hid (HK4.out.step HB5.out)
  clear HZ HOF HS4 HT4 HE4 HE3 HS3 HT3 HWB HW2
  cases s
  case false =>
    go_wp2_with fail
    go_ret
    exact ⟨rfl, HE5.out, HK5.out⟩
  cases Y
  case false =>
    have e : ES.addB ⟨m, n, true, t, h, R, L, x⟩ a b = false := HXY.out.2.symm
    have e2 : ES.add ⟨m, n, true, t, h, R, L, x⟩ a b = ES.hear ⟨m, n, true, t, h, R, L, x⟩ a b := by unfold ES.add; rw [e]; exact if_neg (by decide)
    have HEE := Lib.hid (And.intro e e2)
    clear e e2
    go_wp2_with fail
    go_ret
    rw [HEE.out.1, HEE.out.2]
    exact ⟨rfl, HE5.out, HK5.out⟩
  case true =>
    have e : ES.addB ⟨m, n, true, t, h, R, L, x⟩ a b = true := HXY.out.2.symm
    have e2 : ES.add ⟨m, n, true, t, h, R, L, x⟩ a b = (ES.hear ⟨m, n, true, t, h, R, L, x⟩ a b).keep X := by unfold ES.add; rw [e, if_pos rfl, HXY.out.1]
    have HEE := Lib.hid (And.intro e e2)
    clear e e2
    have HR := Lib.hid (keep_any (ES.hear ⟨m, n, true, t, h, R, L, x⟩ a b) X (by rw [HXY.out.1]; exact rof_in _ _ _ _ _ HE.out.2.m0.1) B wq HE5.out)
    go_wp2_with fail
    refine HR.out.mono ?_
    rintro y w6 ⟨rfl, he, hk⟩
    have HE6 := Lib.hid he
    have HK6 := Lib.hid (HK5.out.trans hk (Nx.refl _ _))
    clear he hk
    go_wp2_with fail
    go_ret
    rw [HEE.out.1, HEE.out.2]
    exact ⟨rfl, HE6.out, HK6.out⟩
end Go.Proofs.Ytffcadobdimdoaa
