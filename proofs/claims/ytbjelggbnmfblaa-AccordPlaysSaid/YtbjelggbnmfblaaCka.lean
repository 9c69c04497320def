/- Package clock, and the document's own answers of layer 17: a clock is made, looked at, read, shifted and tuned. Conditions: the arguments are numbers of 64 bits. -/
import Derived.Test.YtbjelggbnmfblaaExs
import Derived.Test.YtbjelggbnmfblaaGna
import Derived.Deep.Cut
namespace Go.Proofs.Ytbjelggbnmfblaa
open Go.RowKit
theorem below_box {w w1 : World} {o : Obj} (h : Below (w.alloc o).heap.size (w.alloc o) w1) : Below w.heap.size w w1 := below_transG ((Below.refl _ w).alloc (Nat.le_refl _) o) h
/-- May a clock have that value? -/
def mayB (t : Int) : Bool := decide (-1152921504606846976 ≤ t ∧ t ≤ 1152921504606846976)
theorem mayB_yes {t : Int} (h : -1152921504606846976 ≤ t ∧ t ≤ 1152921504606846976) : mayB t = true := decide_eq_true h
theorem mayB_no {t : Int} (h : ¬ (-1152921504606846976 ≤ t ∧ t ≤ 1152921504606846976)) : mayB t = false := decide_eq_false h
theorem cut_in (x : Int) : -9223372036854775808 ≤ cutV x ∧ cutV x ≤ 9223372036854775807 := by unfold cutV; split <;> omega
/-- The steps of what a clock has at a count. -/
def tickI (c n : Int) : Int := cutV (n - c)
def growI (c r n : Int) : Int := cutV (tickI c n * r / 1048576)
def sumI (c v r n : Int) : Int := cutV (v + growI c r n)
def fitsB (c v r n : Int) : Bool := (fitB (n - c) && fitB (tickI c n * r / 1048576)) && fitB (v + growI c r n)
def lookB (c v r n : Int) : Bool := fitsB c v r n && mayB (sumI c v r n)
def lookX (c v r n : Int) : Int := if lookB c v r n = true then sumI c v r n else 0
theorem look_in (c v r n : Int) : -1152921504606846976 ≤ lookX c v r n ∧ lookX c v r n ≤ 1152921504606846976 := by
  unfold lookX; split
  case isTrue h => unfold lookB at h; rw [Bool.and_eq_true] at h; exact of_decide_eq_true h.2
  case isFalse => omega
/-- What Shift and Tune bring: the error, and from where it goes on. -/
def shE (c v r n b : Int) : Int := if (lookB c v r n && (fitB (lookX c v r n + b) && mayB (cutV (lookX c v r n + b)))) = true then 0 else 9
def shC (c v r n b : Int) : Int := if shE c v r n b = 0 then n else c
def shV (c v r n b : Int) : Int := if shE c v r n b = 0 then cutV (lookX c v r n + b) else v
def tuE (c v r n q : Int) : Int := if q < 1044480 ∨ 1052672 < q then 1 else if lookB c v r n = true then 0 else 9
def tuC (c v r n q : Int) : Int := if tuE c v r n q = 0 then n else c
def tuV (c v r n q : Int) : Int := if tuE c v r n q = 0 then lookX c v r n else v
def tuR (c v r n q : Int) : Int := if tuE c v r n q = 0 then q else r
def readT (c v r t n : Int) : Int := if lookB c v r n = true ∧ t < lookX c v r n then lookX c v r n else t
/-- A clock in the memory. -/
structure CK (W : World) (T : TypeId) (B : Nat) (c v r t : Int) : Prop where
  blk : Blk W B T [.int .i64 c, .int .i64 v, .int .i64 r, .int .i64 t]
  c0 : -9223372036854775808 ≤ c ∧ c ≤ 9223372036854775807
  v0 : -1152921504606846976 ≤ v ∧ v ≤ 1152921504606846976
  r0 : 1044480 ≤ r ∧ r ≤ 1052672
  t0 : 0 ≤ t ∧ t ≤ 1152921504606846976
theorem CK.lt {W : World} {T : TypeId} {B : Nat} {c v r t : Int} (h : CK W T B c v r t) : B < W.heap.size := h.blk.lt
theorem CK.keepN {W X : World} {T : TypeId} {B N : Nat} {c v r t : Int} (h : CK W T B c v r t) (hb : Below N W X) (hN : B < N) : CK X T B c v r t := ⟨h.blk.keep hb hN, h.c0, h.v0, h.r0, h.t0⟩
theorem CK.on {W X : World} {T : TypeId} {B : Nat} {c v r t : Int} (h : CK W T B c v r t) (hb : Below W.heap.size W X) : CK X T B c v r t := h.keepN hb h.lt
theorem CK.moved {W X : World} {T : TypeId} {B : Nat} {c v r t : Int} (h : CK W T B c v r t) (hb : X.heap[B]? = W.heap[B]?) : CK X T B c v r t := ⟨h.blk.on hb, h.c0, h.v0, h.r0, h.t0⟩
theorem CK.byK {W X : World} {T : TypeId} {B C : Nat} {c v r t : Int} (h : CK W T B c v r t) (hne : B ≠ C) (hk : Kp C (.slice none 0 0) W X) : CK X T B c v r t := h.moved (hk.block B h.lt hne (fun e => by cases e))
theorem may_ex (x : Int) (w : World) : Calls Try.prog 188 #[.int .i64 x] w fun y w' => y = .returned (.bool (mayB x)) ∧ w = w' := by
  have cs : (¬ -1152921504606846976 ≤ x) ∨ (-1152921504606846976 ≤ x ∧ ¬ x ≤ 1152921504606846976) ∨ (-1152921504606846976 ≤ x ∧ x ≤ 1152921504606846976) := by omega
  rcases cs with h | ⟨h, h2⟩ | ⟨h, h2⟩
  · rw [mayB_no (by omega)]
    go_enter Try.func188, Try.ntmps188
    go_wp2_with fail
    go_ret
    exact ⟨rfl, rfl⟩
  · rw [mayB_no (by omega)]
    go_enter Try.func188, Try.ntmps188
    go_wp2_with fail
    go_ret
    exact ⟨rfl, rfl⟩
  · rw [mayB_yes ⟨h, h2⟩]
    go_enter Try.func188, Try.ntmps188
    go_wp2_with fail
    go_ret
    exact ⟨rfl, rfl⟩
theorem may_rf (x : Int) (w : World) : Calls Try.prog 163 #[.int .i64 x] w fun y w' => y = .returned (.bool (mayB x)) ∧ w = w' := by
  have cs : (¬ -1152921504606846976 ≤ x) ∨ (-1152921504606846976 ≤ x ∧ ¬ x ≤ 1152921504606846976) ∨ (-1152921504606846976 ≤ x ∧ x ≤ 1152921504606846976) := by omega
  rcases cs with h | ⟨h, h2⟩ | ⟨h, h2⟩
  · rw [mayB_no (by omega)]
    go_enter Try.func163, Try.ntmps163
    go_wp2_with fail
    go_ret
    exact ⟨rfl, rfl⟩
  · rw [mayB_no (by omega)]
    go_enter Try.func163, Try.ntmps163
    go_wp2_with fail
    go_ret
    exact ⟨rfl, rfl⟩
  · rw [mayB_yes ⟨h, h2⟩]
    go_enter Try.func163, Try.ntmps163
    go_wp2_with fail
    go_ret
    exact ⟨rfl, rfl⟩
theorem rk_new (w : World) : Calls Try.prog 186 #[] w fun y w' => ∃ B, y = .returned (.tuple #[.func (.func 209) #[] #[.pointer (some ⟨B, 0, none⟩)], .func (.func 210) #[] #[.pointer (some ⟨B, 0, none⟩)]]) ∧ Blk w' B 4 [.bool true] ∧ w.heap.size ≤ B ∧ Below w.heap.size w w' := by
  go_enter Try.func186, Try.ntmps186
  go_wp2_with fail
  go_ret2
  refine ⟨w.heap.size, rfl, ?_, Nat.le_refl _, ?_⟩
  · first | exact Blk.new w 4 [.bool true] | exact (Blk.new w 4 [.bool false]).put1 (i := 0) (by simp) (.bool true)
  · first | exact (Below.refl _ w).alloc (Nat.le_refl _) _ | exact ((Below.refl _ w).alloc (Nat.le_refl _) _).setCell (p := ⟨w.heap.size, 0, none⟩) (Nat.le_refl _) _
theorem rk_ok (B : Nat) (k : Bool) (w : World) (h : Blk w B 4 [.bool k]) : Calls Try.prog 209 #[.pointer (some ⟨B, 0, none⟩)] w fun y w' => y = .returned (.bool k) ∧ w = w' := by
  have q0 : w.cell? ⟨B, 0, none⟩ = some (.bool k) := h.cellAt (i := 0) (by simp)
  clear h
  go_enter Try.func209, Try.ntmps209
  go_wp2_with fail
  go_ret
  exact ⟨rfl, rfl⟩
theorem rk_step (B : Nat) (k i : Bool) (n : Int) (w : World) (h : Blk w B 4 [.bool k]) : Calls Try.prog 210 #[.int .i64 n, .bool i, .pointer (some ⟨B, 0, none⟩)] w fun y w' => y = .returned (.int .i64 n) ∧ Blk w' B 4 [.bool (k && i)] ∧ Kp B (.slice none 0 0) w w' := by
  have q0 : w.cell? ⟨B, 0, none⟩ = some (.bool k) := h.cellAt (i := 0) (by simp)
  have p0 : w.frozen? ⟨B, 0, none⟩ = false := h.frozenAt 0
  have HH := Lib.hid h
  clear h
  cases k
  · go_enter Try.func210, Try.ntmps210
    go_wp2_with fail
    go_ret
    exact ⟨rfl, HH.out.put1 (i := 0) (by simp) _, (Kp.refl _ _ _).set 0 _⟩
  · cases i
    · go_enter Try.func210, Try.ntmps210
      go_wp2_with fail
      go_ret
      exact ⟨rfl, HH.out.put1 (i := 0) (by simp) _, (Kp.refl _ _ _).set 0 _⟩
    · go_enter Try.func210, Try.ntmps210
      go_wp2_with fail
      go_ret
      exact ⟨rfl, HH.out.put1 (i := 0) (by simp) _, (Kp.refl _ _ _).set 0 _⟩
set_option maxHeartbeats 1000000 in
theorem at_any (c v r n : Int) (hc : -9223372036854775808 ≤ c ∧ c ≤ 9223372036854775807) (hv : -9223372036854775808 ≤ v ∧ v ≤ 9223372036854775807) (hr : -9223372036854775808 ≤ r ∧ r ≤ 9223372036854775807) (hn : -9223372036854775808 ≤ n ∧ n ≤ 9223372036854775807) (w : World) :
    Calls Try.prog 187 #[.agg #[.int .i64 c, .int .i64 v, .int .i64 r], .int .i64 n] w fun y w' => y = .returned (.tuple #[.int .i64 (lookX c v r n), .bool (lookB c v r n)]) ∧ Below w.heap.size w w' := by
  obtain ⟨d, hd⟩ : ∃ x, x = tickI c n := ⟨_, rfl⟩
  obtain ⟨k1, hk1⟩ : ∃ x, x = fitB (n - c) := ⟨_, rfl⟩
  obtain ⟨g, hg⟩ : ∃ x, x = growI c r n := ⟨_, rfl⟩
  obtain ⟨k2, hk2⟩ : ∃ x, x = fitB (tickI c n * r / 1048576) := ⟨_, rfl⟩
  obtain ⟨s, hs⟩ : ∃ x, x = sumI c v r n := ⟨_, rfl⟩
  obtain ⟨k3, hk3⟩ : ∃ x, x = fitB (v + growI c r n) := ⟨_, rfl⟩
  have HS := Lib.hid (fun u => sub_ex n c hn hc u)
  have HG := Lib.hid (fun u => scale_ex (tickI c n) r 1048576 (cut_in _) hr (by omega) u)
  have HA := Lib.hid (fun u => add_ex v (growI c r n) hv (cut_in _) u)
  rw [scaleV_yes (by omega)] at HG
  rw [show okV (n - c) = .tuple #[.int .i64 d, .bool k1] by rw [hd, hk1]; rfl] at HS
  rw [show okV (tickI c n * r / 1048576) = .tuple #[.int .i64 g, .bool k2] by rw [hg, hk2]; rfl] at HG
  rw [show okV (v + growI c r n) = .tuple #[.int .i64 s, .bool k3] by rw [hs, hk3]; rfl] at HA
  rw [← hd] at HG
  rw [← hg] at HA
  have HB := Lib.hid (show lookB c v r n = (((k1 && k2) && k3) && mayB s) by unfold lookB fitsB; rw [hk1, hk2, hk3, hs])
  have HX := Lib.hid (show lookX c v r n = if (((k1 && k2) && k3) && mayB s) = true then s else 0 by unfold lookX; rw [HB.out, hs])
  rw [HB.out, HX.out]
  clear HB HX hd hk1 hg hk2 hs hk3
  obtain ⟨K, hK⟩ : ∃ x, x = ((k1 && k2) && k3) := ⟨_, rfl⟩
  rw [← hK]
  have HKK := Lib.hid hK
  have HM := Lib.hid (fun u => may_ex s u)
  obtain ⟨m, hm⟩ : ∃ m, m = mayB s := ⟨_, rfl⟩
  rw [← hm] at HM ⊢
  clear hm
  obtain ⟨X, hX⟩ : ∃ X, X = (if (K && m) = true then s else 0) := ⟨_, rfl⟩
  obtain ⟨Y, hY⟩ : ∃ Y, Y = (K && m) := ⟨_, rfl⟩
  rw [← hX, ← hY]
  have HXX := Lib.hid hX; have HYY := Lib.hid hY
  clear hX hY
  clear hK hc hv hr hn
  go_enter Try.func187, Try.ntmps187
  go_wp2_with fail
  refine (rk_new _).mono ?_
  rintro y w1 ⟨B, rfl, hK, hB, hb⟩
  have HK1 := Lib.hid hK; have HB1 := Lib.hid (below_box hb)
  have HS1 := Lib.hid ((Blk.new w 197 [.int .i64 c, .int .i64 v, .int .i64 r]).keep hb (by simp))
  have HBB := Lib.hid (show w.heap.size < B by simp at hB; omega)
  clear hK hb hB
  have q0 := HS1.out.cellAt (i := 0) (by simp); have q1 := HS1.out.cellAt (i := 1) (by simp); have q2 := HS1.out.cellAt (i := 2) (by simp)
  simp only [List.getElem_cons_zero, List.getElem_cons_succ] at q0 q1 q2
  go_wp2_with fail
  refine (HS.out _).mono ?_
  rintro y w2 ⟨rfl, rfl⟩
  go_wp2_with fail
  refine (rk_step B true k1 d _ HK1.out).mono ?_
  rintro y w2 ⟨rfl, hK, hk⟩
  have HK2 := Lib.hid hK; have HB2 := Lib.hid (HB1.out.trans (hk.belowN (Nat.le_of_lt HBB.out) HB1.out.size (fun k e => by cases e)))
  have HS2 := Lib.hid (HS1.out.on (hk.block _ HS1.out.lt (Nat.ne_of_lt HBB.out) (fun e => by cases e)))
  clear hK hk q0 q1 q2
  have q0 := HS2.out.cellAt (i := 0) (by simp); have q1 := HS2.out.cellAt (i := 1) (by simp); have q2 := HS2.out.cellAt (i := 2) (by simp)
  simp only [List.getElem_cons_zero, List.getElem_cons_succ] at q0 q1 q2
  go_wp2_with fail
  refine (HG.out _).mono ?_
  rintro y w3 ⟨rfl, hb⟩
  have HK3 := Lib.hid (HK2.out.keep hb HK2.out.lt); have HB3 := Lib.hid (below_transG HB2.out hb)
  have HS3 := Lib.hid (HS2.out.keep hb HS2.out.lt)
  clear hb q0 q1 q2
  go_wp2_with fail
  refine (rk_step B (true && k1) k2 g _ HK3.out).mono ?_
  rintro y w4 ⟨rfl, hK, hk⟩
  have HK4 := Lib.hid hK; have HB4 := Lib.hid (HB3.out.trans (hk.belowN (Nat.le_of_lt HBB.out) HB3.out.size (fun k e => by cases e)))
  have HS4 := Lib.hid (HS3.out.on (hk.block _ HS3.out.lt (Nat.ne_of_lt HBB.out) (fun e => by cases e)))
  clear hK hk
  have q0 := HS4.out.cellAt (i := 0) (by simp); have q1 := HS4.out.cellAt (i := 1) (by simp); have q2 := HS4.out.cellAt (i := 2) (by simp)
  simp only [List.getElem_cons_zero, List.getElem_cons_succ] at q0 q1 q2
  go_wp2_with fail
  refine (HA.out _).mono ?_
  rintro y w5 ⟨rfl, rfl⟩
  go_wp2_with fail
  refine (rk_step B ((true && k1) && k2) k3 s _ HK4.out).mono ?_
  rintro y w6 ⟨rfl, hK, hk⟩
  have HB6 := Lib.hid (HB4.out.trans (hk.belowN (Nat.le_of_lt HBB.out) HB4.out.size (fun k e => by cases e)))
  rw [Bool.true_and, ← HKK.out] at hK
  have HK6 := Lib.hid hK
  clear hK hk q0 q1 q2 HKK HS1 HS2 HS3 HS4 HK1 HK2 HK3 HK4
  go_wp2_with fail
  refine (rk_ok B K _ HK6.out).mono ?_
  rintro y w7 ⟨rfl, rfl⟩
  cases K
  · obtain rfl : X = 0 := by rw [HXX.out]; rfl
    obtain rfl : Y = false := by rw [HYY.out]; rfl
    clear HXX HYY
    go_wp2_with fail
    go_ret2
    exact ⟨rfl, HB6.out⟩
  · go_wp2_with fail
    refine (HM.out _).mono ?_
    rintro y w7 ⟨rfl, rfl⟩
    clear HM
    cases m
    · obtain rfl : X = 0 := by rw [HXX.out]; rfl
      obtain rfl : Y = false := by rw [HYY.out]; rfl
      clear HXX HYY
      go_wp2_with fail
      go_ret2
      exact ⟨rfl, HB6.out⟩
    · obtain rfl : X = s := by rw [HXX.out]; rfl
      obtain rfl : Y = true := by rw [HYY.out]; rfl
      clear HXX HYY
      go_wp2_with fail
      go_ret2
      exact ⟨rfl, HB6.out⟩
end Go.Proofs.Ytbjelggbnmfblaa
