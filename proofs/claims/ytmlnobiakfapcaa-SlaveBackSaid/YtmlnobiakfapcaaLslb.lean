/- SlaveBack (P20.3): a word's frame is the word again; a frame that is a word is that word's: of every word and frame. No conditions. -/
import Derived.Test.YtmlnobiakfapcaaRows
import Derived.Deep.DeepCutAuto
import Derived.Test.YtmlnobiakfapcaaSlq
import Derived.Test.YtmlnobiakfapcaaOpw
import Derived.Test.YtmlnobiakfapcaaOpe
import Derived.Test.YtmlnobiakfapcaaFra
import Derived.WalkKit
import Derived.ProofKit
import Derived.OpenShut
import Derived.ShutString
import Derived.ChangeOld
import Derived.Below
namespace Go.Proofs.Ytmlnobiakfapcaa.slaveBack
open Go.ChangeShapes Go.WideShapes Go.ChangeAt Go.RowKit
theorem own : ownKnob Try.prog.godebug = none := by kernel_rfl
theorem laidOut : laidOutB Try.prog = true := by kernel_rfl
theorem word_back (f : Bool) (r m t : Int) (h : rightW f r m t = true) : ∃ (gn : Nat) (gl : Int) (y0 y1 y2 y3 y4 y5 y6 y7 : Nat),
    (∀ u, Calls Try.prog 36 #[.agg #[.bool f, .int .i64 r, .int .i64 m, .int .i64 t]] u fun y w' => y = .returned (.tuple #[.agg #[.bool false, .int .u32 (gn : Int), .bool false, .int .i64 gl, .int .u8 (y0 : Int), .int .u8 (y1 : Int), .int .u8 (y2 : Int), .int .u8 (y3 : Int), .int .u8 (y4 : Int), .int .u8 (y5 : Int), .int .u8 (y6 : Int), .int .u8 (y7 : Int)], .int .i64 0]) ∧ Below u.heap.size u w') ∧
    (∀ u, Calls Try.prog 39 #[.agg #[.bool false, .int .u32 (gn : Int), .bool false, .int .i64 gl, .int .u8 (y0 : Int), .int .u8 (y1 : Int), .int .u8 (y2 : Int), .int .u8 (y3 : Int), .int .u8 (y4 : Int), .int .u8 (y5 : Int), .int .u8 (y6 : Int), .int .u8 (y7 : Int)]] u fun y w' => y = .returned (.tuple #[.agg #[.bool f, .int .i64 r, .int .i64 m, .int .i64 t], .bool true]) ∧ Below u.heap.size u w') := by
  obtain ⟨⟨h1, h2⟩, ⟨h3, h4⟩, ⟨h5, h6⟩, h7⟩ := rightW_of h
  obtain ⟨r, rfl⟩ : ∃ k : Nat, r = (k : Int) := ⟨r.toNat, by omega⟩
  obtain ⟨m, rfl⟩ : ∃ k : Nat, m = (k : Int) := ⟨m.toNat, by omega⟩
  obtain ⟨t, rfl⟩ : ∃ k : Nat, t = (k : Int) := ⟨t.toNat, by omega⟩
  have e1 : m / 256 % 256 * 256 + m % 256 = m := by omega
  cases f
  · obtain rfl : t = 0 := by simpa using h7
    refine ⟨r, 2, m / 256 % 256, m % 256, 0, 0, 0, 0, 0, 0, fun u => slframe_turn r m (by omega) (by omega) u, fun u => ?_⟩
    have hO := slof_any false r (by omega) false 2 (m / 256 % 256) (m % 256) 0 0 0 0 0 0 (Nat.mod_lt _ (by decide)) (Nat.mod_lt _ (by decide)) (by decide) (by decide) (by decide) (by decide) (by decide) (by decide) u
    have e2 : ofV false r false 2 (m / 256 % 256) (m % 256) 0 0 0 0 0 0 = .tuple #[.agg #[.bool false, .int .i64 (r : Int), .int .i64 (m : Int), .int .i64 ((0 : Nat) : Int)], .bool true] := by
      unfold ofV isW wordOf
      rw [if_pos (by simp; omega), e1, show r % 32 = r by omega, if_pos (by omega), show decide (32 ≤ r) = false from decide_eq_false (by omega)]
    rw [e2] at hO
    exact hO
  · refine ⟨r + 32, 8, m / 256 % 256, m % 256, t / 1099511627776 % 256, t / 4294967296 % 256, t / 16777216 % 256, t / 65536 % 256, t / 256 % 256, t % 256, fun u => slframe_follow r m t (by omega) (by omega) (by omega) u, fun u => ?_⟩
    have hO := slof_any false (r + 32) (by omega) false 8 (m / 256 % 256) (m % 256) (t / 1099511627776 % 256) (t / 4294967296 % 256) (t / 16777216 % 256) (t / 65536 % 256) (t / 256 % 256) (t % 256) (Nat.mod_lt _ (by decide)) (Nat.mod_lt _ (by decide)) (Nat.mod_lt _ (by decide)) (Nat.mod_lt _ (by decide)) (Nat.mod_lt _ (by decide)) (Nat.mod_lt _ (by decide)) (Nat.mod_lt _ (by decide)) (Nat.mod_lt _ (by decide)) u
    have e2 : ofV false (r + 32) false 8 (m / 256 % 256) (m % 256) (t / 1099511627776 % 256) (t / 4294967296 % 256) (t / 16777216 % 256) (t / 65536 % 256) (t / 256 % 256) (t % 256) = .tuple #[.agg #[.bool true, .int .i64 (r : Int), .int .i64 (m : Int), .int .i64 (t : Int)], .bool true] := by
      unfold ofV isW wordOf
      rw [if_pos (by simp; omega), e1, show (r + 32) % 32 = r by omega, if_neg (by omega), show decide (32 ≤ r + 32) = true from decide_eq_true (by omega), be6_back t (by omega)]
    rw [e2] at hO
    exact hO
theorem frame_back (e : Bool) (n : Nat) (hn : n < 4294967296) (q : Bool) (l : Int) (x0 x1 x2 x3 x4 x5 x6 x7 : Nat) (hx0 : x0 < 256) (hx1 : x1 < 256) (hx2 : x2 < 256) (hx3 : x3 < 256) (hx4 : x4 < 256) (hx5 : x5 < 256) (hx6 : x6 < 256) (hx7 : x7 < 256) :
    (∀ u, Calls Try.prog 39 #[.agg #[.bool e, .int .u32 (n : Int), .bool q, .int .i64 l, .int .u8 (x0 : Int), .int .u8 (x1 : Int), .int .u8 (x2 : Int), .int .u8 (x3 : Int), .int .u8 (x4 : Int), .int .u8 (x5 : Int), .int .u8 (x6 : Int), .int .u8 (x7 : Int)]] u fun y w' => y = .returned (.tuple #[.agg #[.bool false, .int .i64 0, .int .i64 0, .int .i64 0], .bool false]) ∧ Below u.heap.size u w') ∨
    ∃ (f2 : Bool) (r2 m2 t2 : Int), (∀ u, Calls Try.prog 39 #[.agg #[.bool e, .int .u32 (n : Int), .bool q, .int .i64 l, .int .u8 (x0 : Int), .int .u8 (x1 : Int), .int .u8 (x2 : Int), .int .u8 (x3 : Int), .int .u8 (x4 : Int), .int .u8 (x5 : Int), .int .u8 (x6 : Int), .int .u8 (x7 : Int)]] u fun y w' => y = .returned (.tuple #[.agg #[.bool f2, .int .i64 r2, .int .i64 m2, .int .i64 t2], .bool true]) ∧ Below u.heap.size u w') ∧
      (∀ u, Calls Try.prog 36 #[.agg #[.bool f2, .int .i64 r2, .int .i64 m2, .int .i64 t2]] u fun y w' => y = .returned (.tuple #[.agg #[.bool e, .int .u32 (n : Int), .bool q, .int .i64 l, .int .u8 (x0 : Int), .int .u8 (x1 : Int), .int .u8 (x2 : Int), .int .u8 (x3 : Int), .int .u8 (x4 : Int), .int .u8 (x5 : Int), .int .u8 (x6 : Int), .int .u8 (x7 : Int)], .int .i64 0]) ∧ Below u.heap.size u w') := by
  have hO := slof_any e n hn q l x0 x1 x2 x3 x4 x5 x6 x7 hx0 hx1 hx2 hx3 hx4 hx5 hx6 hx7
  have e1 : (x0 * 256 + x1) / 256 % 256 = x0 := by omega
  have e2 : (x0 * 256 + x1) % 256 = x1 := by omega
  cases hw : isW e n q l x0 x1 x2 x3 x4 x5 x6 x7
  · left
    intro u
    have h := hO u
    unfold ofV at h
    rw [hw] at h
    exact h
  · right
    have h := of_decide_eq_true hw
    unfold ofV at hO
    rw [hw, if_pos rfl] at hO
    unfold wordOf at hO
    obtain ⟨rfl, rfl, h64, _, h | h⟩ := h
    · obtain ⟨h32, rfl, rfl, rfl, rfl, rfl, rfl, rfl⟩ := h
      rw [if_pos h32, show n % 32 = n by omega, show decide (32 ≤ n) = false from decide_eq_false (by omega)] at hO
      refine ⟨false, _, _, _, hO, fun u => ?_⟩
      have h := slframe_turn n (x0 * 256 + x1) h32 (by omega) u
      rw [e1, e2] at h
      exact h
    · obtain ⟨h32, rfl⟩ := h
      obtain ⟨b2, b3, b4, b5, b6, b7⟩ := bytes_be6 hx2 hx3 hx4 hx5 hx6 hx7
      have hM := be6_lt x2 x3 x4 x5 x6 x7 hx2 hx3 hx4 hx5 hx6 hx7
      rw [if_neg (by omega), show n % 32 = n - 32 by omega, show decide (32 ≤ n) = true from decide_eq_true (by omega)] at hO
      refine ⟨true, _, _, _, hO, fun u => ?_⟩
      have h := slframe_follow (n - 32) (x0 * 256 + x1) (be6 x2 x3 x4 x5 x6 x7) (by omega) (by omega) hM u
      rw [e1, e2, b2, b3, b4, b5, b6, b7, show n - 32 + 32 = n by omega] at h
      exact h
set_option maxRecDepth 100000 in
set_option maxHeartbeats 16000000 in
theorem walk (f : Bool) (r m t : Int) (e : Bool) (n : Nat) (q : Bool) (l : Int) (x : List Nat) (_w0 : True) (w1 : n < 4294967296 ∧ x.length = 8 ∧ ∀ y ∈ x, y < 256) (w : World) :
    Calls Try.prog 8 #[.agg #[.bool f, .int .i64 r, .int .i64 m, .int .i64 t], frameV e n q l x] w fun y w' => y = .returned (.bool true) ∧ Below w.heap.size w w' := by
  obtain ⟨hn, hl, hb⟩ := w1
  obtain ⟨x0, x1, x2, x3, x4, x5, x6, x7, rfl⟩ := eight hl
  have HFB := Lib.hid (frame_back e n hn q l x0 x1 x2 x3 x4 x5 x6 x7 (hb x0 (by simp)) (hb x1 (by simp)) (hb x2 (by simp)) (hb x3 (by simp)) (hb x4 (by simp)) (hb x5 (by simp)) (hb x6 (by simp)) (hb x7 (by simp)))
  clear hb hl hn
  rw [show frameV e n q l [x0, x1, x2, x3, x4, x5, x6, x7] = .agg #[.bool e, .int .u32 (n : Int), .bool q, .int .i64 l, .int .u8 (x0 : Int), .int .u8 (x1 : Int), .int .u8 (x2 : Int), .int .u8 (x3 : Int), .int .u8 (x4 : Int), .int .u8 (x5 : Int), .int .u8 (x6 : Int), .int .u8 (x7 : Int)] from rfl]
  cases hr : rightW f r m t
  case false =>
    have HR := Lib.hid (fun (u : World) => rslright_any f r m t u)
    rw [hr] at HR
    clear hr
    go_enter Try.func8, Try.ntmps8
    go_upto_region 1 with fail
    obtain ⟨w0, hww⟩ : ∃ x, x = (w.alloc (.cells #[.bool f, .int .i64 r, .int .i64 m, .int .i64 t] 61)).alloc (.cells #[.bool e, .int .u32 (n : Int), .bool q, .int .i64 l, .int .u8 (x0 : Int), .int .u8 (x1 : Int), .int .u8 (x2 : Int), .int .u8 (x3 : Int), .int .u8 (x4 : Int), .int .u8 (x5 : Int), .int .u8 (x6 : Int), .int .u8 (x7 : Int)] 67) := ⟨_, rfl⟩
    rw [← hww]
    have HW0 := Lib.hid (show Blk w0 w.heap.size 61 [.bool f, .int .i64 r, .int .i64 m, .int .i64 t] by rw [hww]; exact (Blk.new w 61 [.bool f, .int .i64 r, .int .i64 m, .int .i64 t]).keep ((Below.refl _ _).alloc (Nat.le_refl _) _) (by simp))
    have HF0 := Lib.hid (show Blk w0 (w.heap.size + 1) 67 [.bool e, .int .u32 (n : Int), .bool q, .int .i64 l, .int .u8 (x0 : Int), .int .u8 (x1 : Int), .int .u8 (x2 : Int), .int .u8 (x3 : Int), .int .u8 (x4 : Int), .int .u8 (x5 : Int), .int .u8 (x6 : Int), .int .u8 (x7 : Int)] by rw [hww]; exact blk_two w _ 67 [.bool e, .int .u32 (n : Int), .bool q, .int .i64 l, .int .u8 (x0 : Int), .int .u8 (x1 : Int), .int .u8 (x2 : Int), .int .u8 (x3 : Int), .int .u8 (x4 : Int), .int .u8 (x5 : Int), .int .u8 (x6 : Int), .int .u8 (x7 : Int)])
    have HB0 := Lib.hid (show Below w.heap.size w w0 by rw [hww]; exact ((Below.refl _ w).alloc (Nat.le_refl _) _).alloc (by simp) _)
    clear hww
    have q0 : w0.cell? ⟨w.heap.size, 0, none⟩ = some (.bool f) := HW0.out.cellAt (i := 0) (by simp)
    have q1 : w0.cell? ⟨w.heap.size, 1, none⟩ = some (.int .i64 r) := HW0.out.cellAt (i := 1) (by simp)
    have q2 : w0.cell? ⟨w.heap.size, 2, none⟩ = some (.int .i64 m) := HW0.out.cellAt (i := 2) (by simp)
    have q3 : w0.cell? ⟨w.heap.size, 3, none⟩ = some (.int .i64 t) := HW0.out.cellAt (i := 3) (by simp)
    go_wp2_with fail
    refine (plain20_any f r m t _).mono ?_
    rintro y w2 ⟨rfl, hb⟩
    have HB2 := Lib.hid (below_transG HB0.out hb); have HF2 := Lib.hid (HF0.out.keep hb HF0.out.lt)
    clear hb q0 q1 q2 q3
    go_wp2_with fail
    refine (HR.out _).mono ?_
    rintro y wz ⟨rfl, hb⟩
    have HB := Lib.hid (below_transG HB2.out hb); have HF := Lib.hid (HF2.out.keep hb HF2.out.lt)
    clear hb HR
    go_upto_region 6 with fail
    rcases HFB.out with hO | ⟨f2, r2, m2, t2, hO, hF⟩
    · have HO := Lib.hid hO
      clear hO
      have q0 : wz.cell? ⟨(w.heap.size + 1), 0, none⟩ = some (.bool e) := HF.out.cellAt (i := 0) (by simp)
      have q1 : wz.cell? ⟨(w.heap.size + 1), 1, none⟩ = some (.int .u32 (n : Int)) := HF.out.cellAt (i := 1) (by simp)
      have q2 : wz.cell? ⟨(w.heap.size + 1), 2, none⟩ = some (.bool q) := HF.out.cellAt (i := 2) (by simp)
      have q3 : wz.cell? ⟨(w.heap.size + 1), 3, none⟩ = some (.int .i64 l) := HF.out.cellAt (i := 3) (by simp)
      have q4 : wz.cell? ⟨(w.heap.size + 1), 4, none⟩ = some (.int .u8 (x0 : Int)) := HF.out.cellAt (i := 4) (by simp)
      have q5 : wz.cell? ⟨(w.heap.size + 1), 5, none⟩ = some (.int .u8 (x1 : Int)) := HF.out.cellAt (i := 5) (by simp)
      have q6 : wz.cell? ⟨(w.heap.size + 1), 6, none⟩ = some (.int .u8 (x2 : Int)) := HF.out.cellAt (i := 6) (by simp)
      have q7 : wz.cell? ⟨(w.heap.size + 1), 7, none⟩ = some (.int .u8 (x3 : Int)) := HF.out.cellAt (i := 7) (by simp)
      have q8 : wz.cell? ⟨(w.heap.size + 1), 8, none⟩ = some (.int .u8 (x4 : Int)) := HF.out.cellAt (i := 8) (by simp)
      have q9 : wz.cell? ⟨(w.heap.size + 1), 9, none⟩ = some (.int .u8 (x5 : Int)) := HF.out.cellAt (i := 9) (by simp)
      have q10 : wz.cell? ⟨(w.heap.size + 1), 10, none⟩ = some (.int .u8 (x6 : Int)) := HF.out.cellAt (i := 10) (by simp)
      have q11 : wz.cell? ⟨(w.heap.size + 1), 11, none⟩ = some (.int .u8 (x7 : Int)) := HF.out.cellAt (i := 11) (by simp)
      go_wp2_with fail
      refine (HO.out _).mono ?_
      rintro y wa ⟨rfl, hb⟩
      have HBa := Lib.hid (below_transG HB.out hb)
      clear hb
      go_wp2_with fail
      refine (live20 _).mono ?_
      rintro y wb ⟨rfl, hb⟩
      have HBb := Lib.hid (show Below w.heap.size w wb from (HBa.out.alloc HBa.out.size _).trans (hb.mono (by have := HBa.out.size; simp; omega)))
      clear hb
      go_wp2_with fail
      go_ret
      exact ⟨rfl, HBb.out⟩
    · have HO := Lib.hid hO; have HFF := Lib.hid hF
      clear hO hF
      have q0 : wz.cell? ⟨(w.heap.size + 1), 0, none⟩ = some (.bool e) := HF.out.cellAt (i := 0) (by simp)
      have q1 : wz.cell? ⟨(w.heap.size + 1), 1, none⟩ = some (.int .u32 (n : Int)) := HF.out.cellAt (i := 1) (by simp)
      have q2 : wz.cell? ⟨(w.heap.size + 1), 2, none⟩ = some (.bool q) := HF.out.cellAt (i := 2) (by simp)
      have q3 : wz.cell? ⟨(w.heap.size + 1), 3, none⟩ = some (.int .i64 l) := HF.out.cellAt (i := 3) (by simp)
      have q4 : wz.cell? ⟨(w.heap.size + 1), 4, none⟩ = some (.int .u8 (x0 : Int)) := HF.out.cellAt (i := 4) (by simp)
      have q5 : wz.cell? ⟨(w.heap.size + 1), 5, none⟩ = some (.int .u8 (x1 : Int)) := HF.out.cellAt (i := 5) (by simp)
      have q6 : wz.cell? ⟨(w.heap.size + 1), 6, none⟩ = some (.int .u8 (x2 : Int)) := HF.out.cellAt (i := 6) (by simp)
      have q7 : wz.cell? ⟨(w.heap.size + 1), 7, none⟩ = some (.int .u8 (x3 : Int)) := HF.out.cellAt (i := 7) (by simp)
      have q8 : wz.cell? ⟨(w.heap.size + 1), 8, none⟩ = some (.int .u8 (x4 : Int)) := HF.out.cellAt (i := 8) (by simp)
      have q9 : wz.cell? ⟨(w.heap.size + 1), 9, none⟩ = some (.int .u8 (x5 : Int)) := HF.out.cellAt (i := 9) (by simp)
      have q10 : wz.cell? ⟨(w.heap.size + 1), 10, none⟩ = some (.int .u8 (x6 : Int)) := HF.out.cellAt (i := 10) (by simp)
      have q11 : wz.cell? ⟨(w.heap.size + 1), 11, none⟩ = some (.int .u8 (x7 : Int)) := HF.out.cellAt (i := 11) (by simp)
      go_wp2_with fail
      refine (HO.out _).mono ?_
      rintro y wa ⟨rfl, hb⟩
      have HBa := Lib.hid (below_transG HB.out hb); have HFa := Lib.hid (HF.out.keep hb HF.out.lt)
      clear hb q0 q1 q2 q3 q4 q5 q6 q7 q8 q9 q10 q11
      go_upto_region 7 with fail
      obtain ⟨wb, hww⟩ : ∃ x, x = wa.alloc (.cells #[.bool f2, .int .i64 r2, .int .i64 m2, .int .i64 t2] 61) := ⟨_, rfl⟩
      rw [← hww]
      have HVb := Lib.hid (show Blk wb wa.heap.size 61 [.bool f2, .int .i64 r2, .int .i64 m2, .int .i64 t2] by rw [hww]; exact Blk.new wa 61 [.bool f2, .int .i64 r2, .int .i64 m2, .int .i64 t2])
      have HFb := Lib.hid (show Blk wb (w.heap.size + 1) 67 [.bool e, .int .u32 (n : Int), .bool q, .int .i64 l, .int .u8 (x0 : Int), .int .u8 (x1 : Int), .int .u8 (x2 : Int), .int .u8 (x3 : Int), .int .u8 (x4 : Int), .int .u8 (x5 : Int), .int .u8 (x6 : Int), .int .u8 (x7 : Int)] by rw [hww]; exact keep_box HFa.out)
      have HBb := Lib.hid (show Below w.heap.size w wb by rw [hww]; exact HBa.out.alloc HBa.out.size _)
      clear hww
      have q0 : wb.cell? ⟨wa.heap.size, 0, none⟩ = some (.bool f2) := HVb.out.cellAt (i := 0) (by simp)
      have q1 : wb.cell? ⟨wa.heap.size, 1, none⟩ = some (.int .i64 r2) := HVb.out.cellAt (i := 1) (by simp)
      have q2 : wb.cell? ⟨wa.heap.size, 2, none⟩ = some (.int .i64 m2) := HVb.out.cellAt (i := 2) (by simp)
      have q3 : wb.cell? ⟨wa.heap.size, 3, none⟩ = some (.int .i64 t2) := HVb.out.cellAt (i := 3) (by simp)
      go_wp2_with fail
      refine (HFF.out _).mono ?_
      rintro y wc ⟨rfl, hb⟩
      have HBc := Lib.hid (below_transG HBb.out hb); have HFc := Lib.hid (HFb.out.keep hb HFb.out.lt)
      clear hb q0 q1 q2 q3
      go_upto_region 10 with fail
      obtain ⟨wd, hww⟩ : ∃ x, x = wc.alloc (.cells #[.bool e, .int .u32 (n : Int), .bool q, .int .i64 l, .int .u8 (x0 : Int), .int .u8 (x1 : Int), .int .u8 (x2 : Int), .int .u8 (x3 : Int), .int .u8 (x4 : Int), .int .u8 (x5 : Int), .int .u8 (x6 : Int), .int .u8 (x7 : Int)] 67) := ⟨_, rfl⟩
      rw [← hww]
      have HGd := Lib.hid (show Blk wd wc.heap.size 67 [.bool e, .int .u32 (n : Int), .bool q, .int .i64 l, .int .u8 (x0 : Int), .int .u8 (x1 : Int), .int .u8 (x2 : Int), .int .u8 (x3 : Int), .int .u8 (x4 : Int), .int .u8 (x5 : Int), .int .u8 (x6 : Int), .int .u8 (x7 : Int)] by rw [hww]; exact Blk.new wc 67 [.bool e, .int .u32 (n : Int), .bool q, .int .i64 l, .int .u8 (x0 : Int), .int .u8 (x1 : Int), .int .u8 (x2 : Int), .int .u8 (x3 : Int), .int .u8 (x4 : Int), .int .u8 (x5 : Int), .int .u8 (x6 : Int), .int .u8 (x7 : Int)])
      have HFd := Lib.hid (show Blk wd (w.heap.size + 1) 67 [.bool e, .int .u32 (n : Int), .bool q, .int .i64 l, .int .u8 (x0 : Int), .int .u8 (x1 : Int), .int .u8 (x2 : Int), .int .u8 (x3 : Int), .int .u8 (x4 : Int), .int .u8 (x5 : Int), .int .u8 (x6 : Int), .int .u8 (x7 : Int)] by rw [hww]; exact keep_box HFc.out)
      have HBd := Lib.hid (show Below w.heap.size w wd by rw [hww]; exact HBc.out.alloc HBc.out.size _)
      clear hww
      go_wp2_with fail
      refine (live20 _).mono ?_
      rintro y we ⟨rfl, hb⟩
      have HGe := Lib.hid (HGd.out.keep hb HGd.out.lt); have HFe := Lib.hid (HFd.out.keep hb HFd.out.lt); have HBe := Lib.hid (below_transG HBd.out hb)
      clear hb
      have q0 : we.cell? ⟨wc.heap.size, 0, none⟩ = some (.bool e) := HGe.out.cellAt (i := 0) (by simp)
      have q1 : we.cell? ⟨wc.heap.size, 1, none⟩ = some (.int .u32 (n : Int)) := HGe.out.cellAt (i := 1) (by simp)
      have q2 : we.cell? ⟨wc.heap.size, 2, none⟩ = some (.bool q) := HGe.out.cellAt (i := 2) (by simp)
      have q3 : we.cell? ⟨wc.heap.size, 3, none⟩ = some (.int .i64 l) := HGe.out.cellAt (i := 3) (by simp)
      have q4 : we.cell? ⟨wc.heap.size, 4, none⟩ = some (.int .u8 (x0 : Int)) := HGe.out.cellAt (i := 4) (by simp)
      have q5 : we.cell? ⟨wc.heap.size, 5, none⟩ = some (.int .u8 (x1 : Int)) := HGe.out.cellAt (i := 5) (by simp)
      have q6 : we.cell? ⟨wc.heap.size, 6, none⟩ = some (.int .u8 (x2 : Int)) := HGe.out.cellAt (i := 6) (by simp)
      have q7 : we.cell? ⟨wc.heap.size, 7, none⟩ = some (.int .u8 (x3 : Int)) := HGe.out.cellAt (i := 7) (by simp)
      have q8 : we.cell? ⟨wc.heap.size, 8, none⟩ = some (.int .u8 (x4 : Int)) := HGe.out.cellAt (i := 8) (by simp)
      have q9 : we.cell? ⟨wc.heap.size, 9, none⟩ = some (.int .u8 (x5 : Int)) := HGe.out.cellAt (i := 9) (by simp)
      have q10 : we.cell? ⟨wc.heap.size, 10, none⟩ = some (.int .u8 (x6 : Int)) := HGe.out.cellAt (i := 10) (by simp)
      have q11 : we.cell? ⟨wc.heap.size, 11, none⟩ = some (.int .u8 (x7 : Int)) := HGe.out.cellAt (i := 11) (by simp)
      have p0 : we.cell? ⟨(w.heap.size + 1), 0, none⟩ = some (.bool e) := HFe.out.cellAt (i := 0) (by simp)
      have p1 : we.cell? ⟨(w.heap.size + 1), 1, none⟩ = some (.int .u32 (n : Int)) := HFe.out.cellAt (i := 1) (by simp)
      have p2 : we.cell? ⟨(w.heap.size + 1), 2, none⟩ = some (.bool q) := HFe.out.cellAt (i := 2) (by simp)
      have p3 : we.cell? ⟨(w.heap.size + 1), 3, none⟩ = some (.int .i64 l) := HFe.out.cellAt (i := 3) (by simp)
      have p4 : we.cell? ⟨(w.heap.size + 1), 4, none⟩ = some (.int .u8 (x0 : Int)) := HFe.out.cellAt (i := 4) (by simp)
      have p5 : we.cell? ⟨(w.heap.size + 1), 5, none⟩ = some (.int .u8 (x1 : Int)) := HFe.out.cellAt (i := 5) (by simp)
      have p6 : we.cell? ⟨(w.heap.size + 1), 6, none⟩ = some (.int .u8 (x2 : Int)) := HFe.out.cellAt (i := 6) (by simp)
      have p7 : we.cell? ⟨(w.heap.size + 1), 7, none⟩ = some (.int .u8 (x3 : Int)) := HFe.out.cellAt (i := 7) (by simp)
      have p8 : we.cell? ⟨(w.heap.size + 1), 8, none⟩ = some (.int .u8 (x4 : Int)) := HFe.out.cellAt (i := 8) (by simp)
      have p9 : we.cell? ⟨(w.heap.size + 1), 9, none⟩ = some (.int .u8 (x5 : Int)) := HFe.out.cellAt (i := 9) (by simp)
      have p10 : we.cell? ⟨(w.heap.size + 1), 10, none⟩ = some (.int .u8 (x6 : Int)) := HFe.out.cellAt (i := 10) (by simp)
      have p11 : we.cell? ⟨(w.heap.size + 1), 11, none⟩ = some (.int .u8 (x7 : Int)) := HFe.out.cellAt (i := 11) (by simp)
      have heq : ∀ u, Sem.run Try.prog (Op.equalIn 9999 65 (.agg #[.int .u8 (x0 : Int), .int .u8 (x1 : Int), .int .u8 (x2 : Int), .int .u8 (x3 : Int), .int .u8 (x4 : Int), .int .u8 (x5 : Int), .int .u8 (x6 : Int), .int .u8 (x7 : Int)]) (.agg #[.int .u8 (x0 : Int), .int .u8 (x1 : Int), .int .u8 (x2 : Int), .int .u8 (x3 : Int), .int .u8 (x4 : Int), .int .u8 (x5 : Int), .int .u8 (x6 : Int), .int .u8 (x7 : Int)])) u = .ok true u := fun u => by rw [equal8 9997]; simp
      have k0 : ((n : Int) == (n : Int)) = true := by simp
      go_wp2_with fail
      go_ret
      exact ⟨rfl, HBe.out⟩
  case true =>
    obtain ⟨gn, gl, y0, y1, y2, y3, y4, y5, y6, y7, hF1, hO1⟩ := word_back f r m t hr
    have HF1 := Lib.hid hF1; have HO1 := Lib.hid hO1
    clear hF1 hO1
    have HR := Lib.hid (fun (u : World) => rslright_any f r m t u)
    rw [hr] at HR
    clear hr
    go_enter Try.func8, Try.ntmps8
    go_upto_region 1 with fail
    obtain ⟨w0, hww⟩ : ∃ x, x = (w.alloc (.cells #[.bool f, .int .i64 r, .int .i64 m, .int .i64 t] 61)).alloc (.cells #[.bool e, .int .u32 (n : Int), .bool q, .int .i64 l, .int .u8 (x0 : Int), .int .u8 (x1 : Int), .int .u8 (x2 : Int), .int .u8 (x3 : Int), .int .u8 (x4 : Int), .int .u8 (x5 : Int), .int .u8 (x6 : Int), .int .u8 (x7 : Int)] 67) := ⟨_, rfl⟩
    rw [← hww]
    have HW0 := Lib.hid (show Blk w0 w.heap.size 61 [.bool f, .int .i64 r, .int .i64 m, .int .i64 t] by rw [hww]; exact (Blk.new w 61 [.bool f, .int .i64 r, .int .i64 m, .int .i64 t]).keep ((Below.refl _ _).alloc (Nat.le_refl _) _) (by simp))
    have HF0 := Lib.hid (show Blk w0 (w.heap.size + 1) 67 [.bool e, .int .u32 (n : Int), .bool q, .int .i64 l, .int .u8 (x0 : Int), .int .u8 (x1 : Int), .int .u8 (x2 : Int), .int .u8 (x3 : Int), .int .u8 (x4 : Int), .int .u8 (x5 : Int), .int .u8 (x6 : Int), .int .u8 (x7 : Int)] by rw [hww]; exact blk_two w _ 67 [.bool e, .int .u32 (n : Int), .bool q, .int .i64 l, .int .u8 (x0 : Int), .int .u8 (x1 : Int), .int .u8 (x2 : Int), .int .u8 (x3 : Int), .int .u8 (x4 : Int), .int .u8 (x5 : Int), .int .u8 (x6 : Int), .int .u8 (x7 : Int)])
    have HB0 := Lib.hid (show Below w.heap.size w w0 by rw [hww]; exact ((Below.refl _ w).alloc (Nat.le_refl _) _).alloc (by simp) _)
    clear hww
    have q0 : w0.cell? ⟨w.heap.size, 0, none⟩ = some (.bool f) := HW0.out.cellAt (i := 0) (by simp)
    have q1 : w0.cell? ⟨w.heap.size, 1, none⟩ = some (.int .i64 r) := HW0.out.cellAt (i := 1) (by simp)
    have q2 : w0.cell? ⟨w.heap.size, 2, none⟩ = some (.int .i64 m) := HW0.out.cellAt (i := 2) (by simp)
    have q3 : w0.cell? ⟨w.heap.size, 3, none⟩ = some (.int .i64 t) := HW0.out.cellAt (i := 3) (by simp)
    go_wp2_with fail
    refine (plain20_any f r m t _).mono ?_
    rintro y w2 ⟨rfl, hb⟩
    have HB2 := Lib.hid (below_transG HB0.out hb); have HF2 := Lib.hid (HF0.out.keep hb HF0.out.lt); have HW2 := Lib.hid (HW0.out.keep hb HW0.out.lt)
    clear hb q0 q1 q2 q3
    go_wp2_with fail
    refine (HR.out _).mono ?_
    rintro y w3 ⟨rfl, hb⟩
    have HB3 := Lib.hid (below_transG HB2.out hb); have HF3 := Lib.hid (HF2.out.keep hb HF2.out.lt); have HW3 := Lib.hid (HW2.out.keep hb HW2.out.lt)
    clear hb HR
    have q0 : w3.cell? ⟨w.heap.size, 0, none⟩ = some (.bool f) := HW3.out.cellAt (i := 0) (by simp)
    have q1 : w3.cell? ⟨w.heap.size, 1, none⟩ = some (.int .i64 r) := HW3.out.cellAt (i := 1) (by simp)
    have q2 : w3.cell? ⟨w.heap.size, 2, none⟩ = some (.int .i64 m) := HW3.out.cellAt (i := 2) (by simp)
    have q3 : w3.cell? ⟨w.heap.size, 3, none⟩ = some (.int .i64 t) := HW3.out.cellAt (i := 3) (by simp)
    go_wp2_with fail
    refine (HF1.out _).mono ?_
    rintro y w4 ⟨rfl, hb⟩
    have HB4 := Lib.hid (below_transG HB3.out hb); have HF4 := Lib.hid (HF3.out.keep hb HF3.out.lt); have HW4 := Lib.hid (HW3.out.keep hb HW3.out.lt)
    clear hb q0 q1 q2 q3
    go_upto_region 3 with fail
    obtain ⟨w5, hww⟩ : ∃ x, x = w4.alloc (.cells #[.bool false, .int .u32 (gn : Int), .bool false, .int .i64 gl, .int .u8 (y0 : Int), .int .u8 (y1 : Int), .int .u8 (y2 : Int), .int .u8 (y3 : Int), .int .u8 (y4 : Int), .int .u8 (y5 : Int), .int .u8 (y6 : Int), .int .u8 (y7 : Int)] 67) := ⟨_, rfl⟩
    rw [← hww]
    have HG5 := Lib.hid (show Blk w5 w4.heap.size 67 [.bool false, .int .u32 (gn : Int), .bool false, .int .i64 gl, .int .u8 (y0 : Int), .int .u8 (y1 : Int), .int .u8 (y2 : Int), .int .u8 (y3 : Int), .int .u8 (y4 : Int), .int .u8 (y5 : Int), .int .u8 (y6 : Int), .int .u8 (y7 : Int)] by rw [hww]; exact Blk.new w4 67 [.bool false, .int .u32 (gn : Int), .bool false, .int .i64 gl, .int .u8 (y0 : Int), .int .u8 (y1 : Int), .int .u8 (y2 : Int), .int .u8 (y3 : Int), .int .u8 (y4 : Int), .int .u8 (y5 : Int), .int .u8 (y6 : Int), .int .u8 (y7 : Int)])
    have HF5 := Lib.hid (show Blk w5 (w.heap.size + 1) 67 [.bool e, .int .u32 (n : Int), .bool q, .int .i64 l, .int .u8 (x0 : Int), .int .u8 (x1 : Int), .int .u8 (x2 : Int), .int .u8 (x3 : Int), .int .u8 (x4 : Int), .int .u8 (x5 : Int), .int .u8 (x6 : Int), .int .u8 (x7 : Int)] by rw [hww]; exact keep_box HF4.out); have HW5 := Lib.hid (show Blk w5 w.heap.size 61 [.bool f, .int .i64 r, .int .i64 m, .int .i64 t] by rw [hww]; exact keep_box HW4.out)
    have HB5 := Lib.hid (show Below w.heap.size w w5 by rw [hww]; exact HB4.out.alloc HB4.out.size _)
    clear hww
    have q0 : w5.cell? ⟨w4.heap.size, 0, none⟩ = some (.bool false) := HG5.out.cellAt (i := 0) (by simp)
    have q1 : w5.cell? ⟨w4.heap.size, 1, none⟩ = some (.int .u32 (gn : Int)) := HG5.out.cellAt (i := 1) (by simp)
    have q2 : w5.cell? ⟨w4.heap.size, 2, none⟩ = some (.bool false) := HG5.out.cellAt (i := 2) (by simp)
    have q3 : w5.cell? ⟨w4.heap.size, 3, none⟩ = some (.int .i64 gl) := HG5.out.cellAt (i := 3) (by simp)
    have q4 : w5.cell? ⟨w4.heap.size, 4, none⟩ = some (.int .u8 (y0 : Int)) := HG5.out.cellAt (i := 4) (by simp)
    have q5 : w5.cell? ⟨w4.heap.size, 5, none⟩ = some (.int .u8 (y1 : Int)) := HG5.out.cellAt (i := 5) (by simp)
    have q6 : w5.cell? ⟨w4.heap.size, 6, none⟩ = some (.int .u8 (y2 : Int)) := HG5.out.cellAt (i := 6) (by simp)
    have q7 : w5.cell? ⟨w4.heap.size, 7, none⟩ = some (.int .u8 (y3 : Int)) := HG5.out.cellAt (i := 7) (by simp)
    have q8 : w5.cell? ⟨w4.heap.size, 8, none⟩ = some (.int .u8 (y4 : Int)) := HG5.out.cellAt (i := 8) (by simp)
    have q9 : w5.cell? ⟨w4.heap.size, 9, none⟩ = some (.int .u8 (y5 : Int)) := HG5.out.cellAt (i := 9) (by simp)
    have q10 : w5.cell? ⟨w4.heap.size, 10, none⟩ = some (.int .u8 (y6 : Int)) := HG5.out.cellAt (i := 10) (by simp)
    have q11 : w5.cell? ⟨w4.heap.size, 11, none⟩ = some (.int .u8 (y7 : Int)) := HG5.out.cellAt (i := 11) (by simp)
    go_wp2_with fail
    refine (HO1.out _).mono ?_
    rintro y w6 ⟨rfl, hb⟩
    have HB6 := Lib.hid (below_transG HB5.out hb); have HF6 := Lib.hid (HF5.out.keep hb HF5.out.lt); have HW6 := Lib.hid (HW5.out.keep hb HW5.out.lt)
    clear hb q0 q1 q2 q3 q4 q5 q6 q7 q8 q9 q10 q11
    go_upto_region 4 with fail
    obtain ⟨wz, hww⟩ : ∃ x, x = w6.alloc (.cells #[.bool f, .int .i64 r, .int .i64 m, .int .i64 t] 61) := ⟨_, rfl⟩
    rw [← hww]
    have HV := Lib.hid (show Blk wz w6.heap.size 61 [.bool f, .int .i64 r, .int .i64 m, .int .i64 t] by rw [hww]; exact Blk.new w6 61 [.bool f, .int .i64 r, .int .i64 m, .int .i64 t])
    have HF := Lib.hid (show Blk wz (w.heap.size + 1) 67 [.bool e, .int .u32 (n : Int), .bool q, .int .i64 l, .int .u8 (x0 : Int), .int .u8 (x1 : Int), .int .u8 (x2 : Int), .int .u8 (x3 : Int), .int .u8 (x4 : Int), .int .u8 (x5 : Int), .int .u8 (x6 : Int), .int .u8 (x7 : Int)] by rw [hww]; exact keep_box HF6.out); have HW := Lib.hid (show Blk wz w.heap.size 61 [.bool f, .int .i64 r, .int .i64 m, .int .i64 t] by rw [hww]; exact keep_box HW6.out)
    have HB := Lib.hid (show Below w.heap.size w wz by rw [hww]; exact HB6.out.alloc HB6.out.size _)
    clear hww HF1 HO1
    have q0 : wz.cell? ⟨w6.heap.size, 0, none⟩ = some (.bool f) := HV.out.cellAt (i := 0) (by simp)
    have q1 : wz.cell? ⟨w6.heap.size, 1, none⟩ = some (.int .i64 r) := HV.out.cellAt (i := 1) (by simp)
    have q2 : wz.cell? ⟨w6.heap.size, 2, none⟩ = some (.int .i64 m) := HV.out.cellAt (i := 2) (by simp)
    have q3 : wz.cell? ⟨w6.heap.size, 3, none⟩ = some (.int .i64 t) := HV.out.cellAt (i := 3) (by simp)
    have p0 : wz.cell? ⟨w.heap.size, 0, none⟩ = some (.bool f) := HW.out.cellAt (i := 0) (by simp)
    have p1 : wz.cell? ⟨w.heap.size, 1, none⟩ = some (.int .i64 r) := HW.out.cellAt (i := 1) (by simp)
    have p2 : wz.cell? ⟨w.heap.size, 2, none⟩ = some (.int .i64 m) := HW.out.cellAt (i := 2) (by simp)
    have p3 : wz.cell? ⟨w.heap.size, 3, none⟩ = some (.int .i64 t) := HW.out.cellAt (i := 3) (by simp)
    have c0 : (f == f) = true := by simp
    go_upto_region 6 with fail
    clear q0 q1 q2 q3 p0 p1 p2 p3 c0
    rcases HFB.out with hO | ⟨f2, r2, m2, t2, hO, hF⟩
    · have HO := Lib.hid hO
      clear hO
      have q0 : wz.cell? ⟨(w.heap.size + 1), 0, none⟩ = some (.bool e) := HF.out.cellAt (i := 0) (by simp)
      have q1 : wz.cell? ⟨(w.heap.size + 1), 1, none⟩ = some (.int .u32 (n : Int)) := HF.out.cellAt (i := 1) (by simp)
      have q2 : wz.cell? ⟨(w.heap.size + 1), 2, none⟩ = some (.bool q) := HF.out.cellAt (i := 2) (by simp)
      have q3 : wz.cell? ⟨(w.heap.size + 1), 3, none⟩ = some (.int .i64 l) := HF.out.cellAt (i := 3) (by simp)
      have q4 : wz.cell? ⟨(w.heap.size + 1), 4, none⟩ = some (.int .u8 (x0 : Int)) := HF.out.cellAt (i := 4) (by simp)
      have q5 : wz.cell? ⟨(w.heap.size + 1), 5, none⟩ = some (.int .u8 (x1 : Int)) := HF.out.cellAt (i := 5) (by simp)
      have q6 : wz.cell? ⟨(w.heap.size + 1), 6, none⟩ = some (.int .u8 (x2 : Int)) := HF.out.cellAt (i := 6) (by simp)
      have q7 : wz.cell? ⟨(w.heap.size + 1), 7, none⟩ = some (.int .u8 (x3 : Int)) := HF.out.cellAt (i := 7) (by simp)
      have q8 : wz.cell? ⟨(w.heap.size + 1), 8, none⟩ = some (.int .u8 (x4 : Int)) := HF.out.cellAt (i := 8) (by simp)
      have q9 : wz.cell? ⟨(w.heap.size + 1), 9, none⟩ = some (.int .u8 (x5 : Int)) := HF.out.cellAt (i := 9) (by simp)
      have q10 : wz.cell? ⟨(w.heap.size + 1), 10, none⟩ = some (.int .u8 (x6 : Int)) := HF.out.cellAt (i := 10) (by simp)
      have q11 : wz.cell? ⟨(w.heap.size + 1), 11, none⟩ = some (.int .u8 (x7 : Int)) := HF.out.cellAt (i := 11) (by simp)
      go_wp2_with fail
      refine (HO.out _).mono ?_
      rintro y wa ⟨rfl, hb⟩
      have HBa := Lib.hid (below_transG HB.out hb)
      clear hb
      go_wp2_with fail
      refine (live20 _).mono ?_
      rintro y wb ⟨rfl, hb⟩
      have HBb := Lib.hid (show Below w.heap.size w wb from (HBa.out.alloc HBa.out.size _).trans (hb.mono (by have := HBa.out.size; simp; omega)))
      clear hb
      go_wp2_with fail
      go_ret
      exact ⟨rfl, HBb.out⟩
    · have HO := Lib.hid hO; have HFF := Lib.hid hF
      clear hO hF
      have q0 : wz.cell? ⟨(w.heap.size + 1), 0, none⟩ = some (.bool e) := HF.out.cellAt (i := 0) (by simp)
      have q1 : wz.cell? ⟨(w.heap.size + 1), 1, none⟩ = some (.int .u32 (n : Int)) := HF.out.cellAt (i := 1) (by simp)
      have q2 : wz.cell? ⟨(w.heap.size + 1), 2, none⟩ = some (.bool q) := HF.out.cellAt (i := 2) (by simp)
      have q3 : wz.cell? ⟨(w.heap.size + 1), 3, none⟩ = some (.int .i64 l) := HF.out.cellAt (i := 3) (by simp)
      have q4 : wz.cell? ⟨(w.heap.size + 1), 4, none⟩ = some (.int .u8 (x0 : Int)) := HF.out.cellAt (i := 4) (by simp)
      have q5 : wz.cell? ⟨(w.heap.size + 1), 5, none⟩ = some (.int .u8 (x1 : Int)) := HF.out.cellAt (i := 5) (by simp)
      have q6 : wz.cell? ⟨(w.heap.size + 1), 6, none⟩ = some (.int .u8 (x2 : Int)) := HF.out.cellAt (i := 6) (by simp)
      have q7 : wz.cell? ⟨(w.heap.size + 1), 7, none⟩ = some (.int .u8 (x3 : Int)) := HF.out.cellAt (i := 7) (by simp)
      have q8 : wz.cell? ⟨(w.heap.size + 1), 8, none⟩ = some (.int .u8 (x4 : Int)) := HF.out.cellAt (i := 8) (by simp)
      have q9 : wz.cell? ⟨(w.heap.size + 1), 9, none⟩ = some (.int .u8 (x5 : Int)) := HF.out.cellAt (i := 9) (by simp)
      have q10 : wz.cell? ⟨(w.heap.size + 1), 10, none⟩ = some (.int .u8 (x6 : Int)) := HF.out.cellAt (i := 10) (by simp)
      have q11 : wz.cell? ⟨(w.heap.size + 1), 11, none⟩ = some (.int .u8 (x7 : Int)) := HF.out.cellAt (i := 11) (by simp)
      go_wp2_with fail
      refine (HO.out _).mono ?_
      rintro y wa ⟨rfl, hb⟩
      have HBa := Lib.hid (below_transG HB.out hb); have HFa := Lib.hid (HF.out.keep hb HF.out.lt)
      clear hb q0 q1 q2 q3 q4 q5 q6 q7 q8 q9 q10 q11
      go_upto_region 7 with fail
      obtain ⟨wb, hww⟩ : ∃ x, x = wa.alloc (.cells #[.bool f2, .int .i64 r2, .int .i64 m2, .int .i64 t2] 61) := ⟨_, rfl⟩
      rw [← hww]
      have HVb := Lib.hid (show Blk wb wa.heap.size 61 [.bool f2, .int .i64 r2, .int .i64 m2, .int .i64 t2] by rw [hww]; exact Blk.new wa 61 [.bool f2, .int .i64 r2, .int .i64 m2, .int .i64 t2])
      have HFb := Lib.hid (show Blk wb (w.heap.size + 1) 67 [.bool e, .int .u32 (n : Int), .bool q, .int .i64 l, .int .u8 (x0 : Int), .int .u8 (x1 : Int), .int .u8 (x2 : Int), .int .u8 (x3 : Int), .int .u8 (x4 : Int), .int .u8 (x5 : Int), .int .u8 (x6 : Int), .int .u8 (x7 : Int)] by rw [hww]; exact keep_box HFa.out)
      have HBb := Lib.hid (show Below w.heap.size w wb by rw [hww]; exact HBa.out.alloc HBa.out.size _)
      clear hww
      have q0 : wb.cell? ⟨wa.heap.size, 0, none⟩ = some (.bool f2) := HVb.out.cellAt (i := 0) (by simp)
      have q1 : wb.cell? ⟨wa.heap.size, 1, none⟩ = some (.int .i64 r2) := HVb.out.cellAt (i := 1) (by simp)
      have q2 : wb.cell? ⟨wa.heap.size, 2, none⟩ = some (.int .i64 m2) := HVb.out.cellAt (i := 2) (by simp)
      have q3 : wb.cell? ⟨wa.heap.size, 3, none⟩ = some (.int .i64 t2) := HVb.out.cellAt (i := 3) (by simp)
      go_wp2_with fail
      refine (HFF.out _).mono ?_
      rintro y wc ⟨rfl, hb⟩
      have HBc := Lib.hid (below_transG HBb.out hb); have HFc := Lib.hid (HFb.out.keep hb HFb.out.lt)
      clear hb q0 q1 q2 q3
      go_upto_region 10 with fail
      obtain ⟨wd, hww⟩ : ∃ x, x = wc.alloc (.cells #[.bool e, .int .u32 (n : Int), .bool q, .int .i64 l, .int .u8 (x0 : Int), .int .u8 (x1 : Int), .int .u8 (x2 : Int), .int .u8 (x3 : Int), .int .u8 (x4 : Int), .int .u8 (x5 : Int), .int .u8 (x6 : Int), .int .u8 (x7 : Int)] 67) := ⟨_, rfl⟩
      rw [← hww]
      have HGd := Lib.hid (show Blk wd wc.heap.size 67 [.bool e, .int .u32 (n : Int), .bool q, .int .i64 l, .int .u8 (x0 : Int), .int .u8 (x1 : Int), .int .u8 (x2 : Int), .int .u8 (x3 : Int), .int .u8 (x4 : Int), .int .u8 (x5 : Int), .int .u8 (x6 : Int), .int .u8 (x7 : Int)] by rw [hww]; exact Blk.new wc 67 [.bool e, .int .u32 (n : Int), .bool q, .int .i64 l, .int .u8 (x0 : Int), .int .u8 (x1 : Int), .int .u8 (x2 : Int), .int .u8 (x3 : Int), .int .u8 (x4 : Int), .int .u8 (x5 : Int), .int .u8 (x6 : Int), .int .u8 (x7 : Int)])
      have HFd := Lib.hid (show Blk wd (w.heap.size + 1) 67 [.bool e, .int .u32 (n : Int), .bool q, .int .i64 l, .int .u8 (x0 : Int), .int .u8 (x1 : Int), .int .u8 (x2 : Int), .int .u8 (x3 : Int), .int .u8 (x4 : Int), .int .u8 (x5 : Int), .int .u8 (x6 : Int), .int .u8 (x7 : Int)] by rw [hww]; exact keep_box HFc.out)
      have HBd := Lib.hid (show Below w.heap.size w wd by rw [hww]; exact HBc.out.alloc HBc.out.size _)
      clear hww
      go_wp2_with fail
      refine (live20 _).mono ?_
      rintro y we ⟨rfl, hb⟩
      have HGe := Lib.hid (HGd.out.keep hb HGd.out.lt); have HFe := Lib.hid (HFd.out.keep hb HFd.out.lt); have HBe := Lib.hid (below_transG HBd.out hb)
      clear hb
      have q0 : we.cell? ⟨wc.heap.size, 0, none⟩ = some (.bool e) := HGe.out.cellAt (i := 0) (by simp)
      have q1 : we.cell? ⟨wc.heap.size, 1, none⟩ = some (.int .u32 (n : Int)) := HGe.out.cellAt (i := 1) (by simp)
      have q2 : we.cell? ⟨wc.heap.size, 2, none⟩ = some (.bool q) := HGe.out.cellAt (i := 2) (by simp)
      have q3 : we.cell? ⟨wc.heap.size, 3, none⟩ = some (.int .i64 l) := HGe.out.cellAt (i := 3) (by simp)
      have q4 : we.cell? ⟨wc.heap.size, 4, none⟩ = some (.int .u8 (x0 : Int)) := HGe.out.cellAt (i := 4) (by simp)
      have q5 : we.cell? ⟨wc.heap.size, 5, none⟩ = some (.int .u8 (x1 : Int)) := HGe.out.cellAt (i := 5) (by simp)
      have q6 : we.cell? ⟨wc.heap.size, 6, none⟩ = some (.int .u8 (x2 : Int)) := HGe.out.cellAt (i := 6) (by simp)
      have q7 : we.cell? ⟨wc.heap.size, 7, none⟩ = some (.int .u8 (x3 : Int)) := HGe.out.cellAt (i := 7) (by simp)
      have q8 : we.cell? ⟨wc.heap.size, 8, none⟩ = some (.int .u8 (x4 : Int)) := HGe.out.cellAt (i := 8) (by simp)
      have q9 : we.cell? ⟨wc.heap.size, 9, none⟩ = some (.int .u8 (x5 : Int)) := HGe.out.cellAt (i := 9) (by simp)
      have q10 : we.cell? ⟨wc.heap.size, 10, none⟩ = some (.int .u8 (x6 : Int)) := HGe.out.cellAt (i := 10) (by simp)
      have q11 : we.cell? ⟨wc.heap.size, 11, none⟩ = some (.int .u8 (x7 : Int)) := HGe.out.cellAt (i := 11) (by simp)
      have p0 : we.cell? ⟨(w.heap.size + 1), 0, none⟩ = some (.bool e) := HFe.out.cellAt (i := 0) (by simp)
      have p1 : we.cell? ⟨(w.heap.size + 1), 1, none⟩ = some (.int .u32 (n : Int)) := HFe.out.cellAt (i := 1) (by simp)
      have p2 : we.cell? ⟨(w.heap.size + 1), 2, none⟩ = some (.bool q) := HFe.out.cellAt (i := 2) (by simp)
      have p3 : we.cell? ⟨(w.heap.size + 1), 3, none⟩ = some (.int .i64 l) := HFe.out.cellAt (i := 3) (by simp)
      have p4 : we.cell? ⟨(w.heap.size + 1), 4, none⟩ = some (.int .u8 (x0 : Int)) := HFe.out.cellAt (i := 4) (by simp)
      have p5 : we.cell? ⟨(w.heap.size + 1), 5, none⟩ = some (.int .u8 (x1 : Int)) := HFe.out.cellAt (i := 5) (by simp)
      have p6 : we.cell? ⟨(w.heap.size + 1), 6, none⟩ = some (.int .u8 (x2 : Int)) := HFe.out.cellAt (i := 6) (by simp)
      have p7 : we.cell? ⟨(w.heap.size + 1), 7, none⟩ = some (.int .u8 (x3 : Int)) := HFe.out.cellAt (i := 7) (by simp)
      have p8 : we.cell? ⟨(w.heap.size + 1), 8, none⟩ = some (.int .u8 (x4 : Int)) := HFe.out.cellAt (i := 8) (by simp)
      have p9 : we.cell? ⟨(w.heap.size + 1), 9, none⟩ = some (.int .u8 (x5 : Int)) := HFe.out.cellAt (i := 9) (by simp)
      have p10 : we.cell? ⟨(w.heap.size + 1), 10, none⟩ = some (.int .u8 (x6 : Int)) := HFe.out.cellAt (i := 10) (by simp)
      have p11 : we.cell? ⟨(w.heap.size + 1), 11, none⟩ = some (.int .u8 (x7 : Int)) := HFe.out.cellAt (i := 11) (by simp)
      have heq : ∀ u, Sem.run Try.prog (Op.equalIn 9999 65 (.agg #[.int .u8 (x0 : Int), .int .u8 (x1 : Int), .int .u8 (x2 : Int), .int .u8 (x3 : Int), .int .u8 (x4 : Int), .int .u8 (x5 : Int), .int .u8 (x6 : Int), .int .u8 (x7 : Int)]) (.agg #[.int .u8 (x0 : Int), .int .u8 (x1 : Int), .int .u8 (x2 : Int), .int .u8 (x3 : Int), .int .u8 (x4 : Int), .int .u8 (x5 : Int), .int .u8 (x6 : Int), .int .u8 (x7 : Int)])) u = .ok true u := fun u => by rw [equal8 9997]; simp
      have k0 : ((n : Int) == (n : Int)) = true := by simp
      go_wp2_with fail
      go_ret
      exact ⟨rfl, HBe.out⟩
set_option maxRecDepth 100000 in
theorem lifted (os : Os) (started : os.Started) (H : Type) (enc : TypeId × Value → H) :
    ReturnsInHanded {} Try.checked os 8 .any (Rows.slaveBackSpec.pre6 enc Try.prog Try.f8 Rows.slaveBackRow.domain false) (Rows.slaveBackSpec.post enc Try.prog Try.f8 false true false false) := by
  refine returnsInHanded_of_change (C := Try.checked) own started (by kernel_rfl) Try.func8
    (ChangeSpec.witness6 (enc := enc) (C := Try.checked) false ⟨#[], #[.agg #[.bool false, .int .i64 0, .int .i64 0, .int .i64 0], .agg #[.bool false, .int .u32 0, .bool false, .int .i64 0, .int .u8 0, .int .u8 0, .int .u8 0, .int .u8 0, .int .u8 0, .int .u8 0, .int .u8 0, .int .u8 0]], []⟩ 8 (by kernel_rfl) (by kernel_rfl) (by kernel_rfl) (by kernel_rfl)) ?_
  intro W base args ds gs before hval0 hW _ _
  have hval : ∀ (j : Nat) t v, Try.f8.params[j]? = some t → args[j]? = some v → Value.okWide Try.prog W .any base t v := hval0
  have hW' := hW
  obtain ⟨p, q, hA0, hV, rfl, hfz, hnd⟩ := hW
  have hA : DataW.TrodAll enc Try.prog W 0 (fun _ => true) true Try.f8.params.toList args.toList ds p := hA0
  rw [Try.params8] at hA hval
  obtain ⟨v0, vs0, d0, ds0, p0, q0, hargs, rfl, rfl, h0, r0⟩ := trodAll_cons hA
  obtain ⟨v1, vs1, d1, ds1, p1, q1, rfl, rfl, rfl, h1, r1⟩ := trodAll_cons r0
  obtain ⟨rfl, rfl, rfl⟩ := trodAll_nil r1
  obtain rfl : args = #[v0, v1] := by cases args; simp_all
  obtain ⟨rfl, rfl⟩ := trodVars_none hV
  have k0 := h0
  have lt0 : ∀ x ∈ p0, x.block < W.heap.size := by obtain ⟨m, hm⟩ := k0; exact DataW.trod_lt m _ _ _ hm
  obtain ⟨f0, r0_, n0, t0_, rfl, w0⟩ := open_word (hval 0 61 v0 rfl rfl) h0
  have k1 := h1
  have lt1 : ∀ x ∈ p1, x.block < W.heap.size := by obtain ⟨m, hm⟩ := k1; exact DataW.trod_lt m _ _ _ hm
  obtain ⟨e1, n1, q1, l1, x1, rfl, w1⟩ := open_frame (hval 1 67 v1 rfl rfl) h1
  clear hA0 hval0
  refine (walk f0 r0_ n0 t0_ e1 n1 q1 l1 x1 w0 w1 W).mono fun e W' ⟨he, bel⟩ => ?_
  subst he
  exact ⟨_, rfl, _, _, _, [], _, [], hW', trodAll_mk1 (shut_bool Try.underlying4 _), (trodAll_cons_mk (Below.trod laidOut (by kernel_rfl) (of_decide_eq_true (by kernel_rfl)) k0 bel lt0) (trodAll_cons_mk (Below.trod laidOut (by kernel_rfl) (of_decide_eq_true (by kernel_rfl)) k1 bel lt1) trodAll_mk0)), rfl, bel.frame _, fun h => by cases h⟩
theorem over : Rows.slaveBackRow.holds Try.pinned (OpenSpec.ofChange Rows.slaveBackSpec) :=
  OpenClaim.holds_of_wide 8 Try.f8 rfl rfl rfl rfl rfl rfl rfl ⟨rfl, rfl, rfl, rfl, rfl⟩ rfl rfl rfl rfl rfl (by kernel_rfl) Try.func8 (by kernel_rfl)
    (of_decide_eq_true (by kernel_rfl)) (by unfold Func.isWrapper; first | (rw [if_pos (by decide +kernel)]; kernel_rfl) | (rw [if_neg (by decide +kernel)]; exact ⟨rfl, rfl⟩))
    (fun os started H enc _ => lifted os started H enc)
/-- The statement. -/
theorem proved : Rows.SlaveBackSaid := over
end Go.Proofs.Ytmlnobiakfapcaa.slaveBack
