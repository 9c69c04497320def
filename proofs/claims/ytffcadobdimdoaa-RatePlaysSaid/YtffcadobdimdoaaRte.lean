/- Package rate's estimator in the memory: what it holds, keep, Many, Rate, Reset, New, Add, and calls on nil. Conditions: what it holds can be. -/
import Derived.Test.YtffcadobdimdoaaRtd
import Derived.Test.YtffcadobdimdoaaRtb
namespace Go.Proofs.Ytffcadobdimdoaa
open Go.RowKit
/-- An estimator: its bound, how many, whether there was a sample, that one, the nine places, the rates that are kept, the place that is next. -/
structure ES where
  m : Int
  n : Nat
  s : Bool
  t : Int
  h : Int
  R : List Int
  L : List Int
  x : Nat
def eC (m : Int) (n : Nat) (s : Bool) (t h : Int) (R : List Int) (k x : Int) : List Value := .int .i64 m :: .int .i64 (n : Int) :: .bool s :: .int .i64 t :: .int .i64 h :: (cI R ++ [.int .i64 k, .int .i64 x])
def ES.C (e : ES) : List Value := eC e.m e.n e.s e.t e.h e.R (e.L.length : Int) (e.x : Int)
structure ES.Ok (e : ES) : Prop where
  m0 : 0 ≤ e.m ∧ e.m ≤ 4096
  t0 : -9223372036854775808 ≤ e.t ∧ e.t ≤ 9223372036854775807
  h0 : -9223372036854775808 ≤ e.h ∧ e.h ≤ 9223372036854775807
  ring : RingI e.R e.L e.x e.n
  l0 : ∀ v ∈ e.L, 1048576 - e.m ≤ v ∧ v ≤ 1048576 + e.m
def EA (W : World) (B : Nat) (e : ES) : Prop := Blk W B 141 e.C ∧ e.Ok
def ES.keep (e : ES) (r : Int) : ES := ⟨e.m, e.n, e.s, e.t, e.h, e.R.set e.x r, keepL e.n e.L r, if e.n ≤ e.x + 1 then 0 else e.x + 1⟩
theorem eC_len {m : Int} {n : Nat} {s : Bool} {t h : Int} {R : List Int} {k x : Int} (hR : R.length = 9) : (eC m n s t h R k x).length = 16 := by simp [eC, cI_len, hR]
theorem eC_rate {m : Int} {n : Nat} {s : Bool} {t h : Int} {R : List Int} {k x : Int} (j : Nat) (v : Int) (hj : j < R.length) : (eC m n s t h R k x).set (5 + j) (.int .i64 v) = eC m n s t h (R.set j v) k x := by
  unfold eC
  rw [show 5 + j = j + 1 + 1 + 1 + 1 + 1 by omega]
  simp only [List.set_cons_succ]
  rw [List.set_append_left _ _ (by rw [cI_len]; exact hj), cI_set]
theorem eC_kept {m : Int} {n : Nat} {s : Bool} {t h : Int} {R : List Int} {k x : Int} (hR : R.length = 9) (v : Int) : (eC m n s t h R k x).set 14 (.int .i64 v) = eC m n s t h R v x := by
  unfold eC
  simp only [List.set_cons_succ]
  rw [List.set_append_right _ _ (by rw [cI_len, hR]; decide), cI_len, hR]
  rfl
theorem eC_next {m : Int} {n : Nat} {s : Bool} {t h : Int} {R : List Int} {k x : Int} (hR : R.length = 9) (v : Int) : (eC m n s t h R k x).set 15 (.int .i64 v) = eC m n s t h R k v := by
  unfold eC
  simp only [List.set_cons_succ]
  rw [List.set_append_right _ _ (by rw [cI_len, hR]; decide), cI_len, hR]
  rfl
/-- What an estimator's cells are. -/
theorem eC_cells {W : World} {B : Nat} {m : Int} {n : Nat} {s : Bool} {t h : Int} {R : List Int} {k x : Int} (hR : R.length = 9) (hB : Blk W B 141 (eC m n s t h R k x)) :
    W.cell? ⟨B, 0, none⟩ = some (.int .i64 m) ∧ W.cell? ⟨B, 1, none⟩ = some (.int .i64 (n : Int)) ∧ W.cell? ⟨B, 2, none⟩ = some (.bool s) ∧ W.cell? ⟨B, 3, none⟩ = some (.int .i64 t) ∧ W.cell? ⟨B, 4, none⟩ = some (.int .i64 h) ∧
    (∀ j, j < 9 → W.cell? ⟨B, 5 + j, none⟩ = some (.int .i64 (gI R j))) ∧ W.cell? ⟨B, 14, none⟩ = some (.int .i64 k) ∧ W.cell? ⟨B, 15, none⟩ = some (.int .i64 x) ∧ (∀ j, W.frozen? ⟨B, j, none⟩ = false) := by
  have hl : (eC m n s t h R k x).length = 16 := eC_len hR
  refine ⟨hB.cellAt (i := 0) (by omega), hB.cellAt (i := 1) (by omega), hB.cellAt (i := 2) (by omega), hB.cellAt (i := 3) (by omega), hB.cellAt (i := 4) (by omega), fun j hj => ?_, ?_, ?_, hB.frozenAt⟩
  · rw [hB.cellAt (i := 5 + j) (by omega)]
    congr 1
    unfold eC
    simp only [show 5 + j = j + 1 + 1 + 1 + 1 + 1 by omega, List.getElem_cons_succ]
    rw [List.getElem_append_left (by rw [cI_len, hR]; exact hj)]
    unfold gI; rw [List.getElem?_eq_getElem (by omega)]
    simp [cI]
  · rw [hB.cellAt (i := 14) (by omega)]
    congr 1
    unfold eC
    simp only [List.getElem_cons_succ]
    rw [List.getElem_append_right (by rw [cI_len, hR]; decide)]
    simp only [cI_len, hR]; rfl
  · rw [hB.cellAt (i := 15) (by omega)]
    congr 1
    unfold eC
    simp only [List.getElem_cons_succ]
    rw [List.getElem_append_right (by rw [cI_len, hR]; decide)]
    simp only [cI_len, hR]; rfl
theorem keep_mem {m : Nat} {L : List Int} {r v lo hi : Int} (h : v ∈ keepL m L r) (hL : ∀ u ∈ L, lo ≤ u ∧ u ≤ hi) (hr : lo ≤ r ∧ r ≤ hi) : lo ≤ v ∧ v ≤ hi := by
  have h2 : v ∈ L ++ [r] := by
    unfold keepL at h
    split at h
    · exact List.mem_of_mem_drop h
    · exact h
  rcases List.mem_append.1 h2 with h3 | h3
  · exact hL v h3
  · rw [List.mem_singleton] at h3; rw [h3]; exact hr
set_option maxHeartbeats 4000000 in
theorem keep_any (e : ES) (r : Int) (hr : 1048576 - e.m ≤ r ∧ r ≤ 1048576 + e.m) (B : Nat) (w : World) (hE : EA w B e) : Calls Try.prog 70 #[.pointer (some ⟨B, 0, none⟩), .int .i64 r] w fun y w' => y = .returned (.tuple #[]) ∧ EA w' B (e.keep r) ∧ Kp B (.slice none 0 0) w w' := by
  obtain ⟨m, n, s, t, h, R, L, x⟩ := e
  obtain ⟨hB, hO⟩ := hE
  have HO := Lib.hid hO
  have hR := hO.ring.len; have hx := hO.ring.nm; have hn := hO.ring.m9; have hk := hO.ring.lm
  simp only at hR hx hn hk
  have HB0 := Lib.hid hB
  obtain ⟨k, hkk⟩ : ∃ k, k = L.length := ⟨_, rfl⟩
  have HB1 := Lib.hid (show Blk (w.setCell ⟨B, 5 + x, none⟩ (.int .i64 r)) B 141 (eC m n s t h (R.set x r) (k : Int) (x : Int)) by
    have := hB.put1 (i := 5 + x) (by show 5 + x < (eC _ _ _ _ _ _ _ _).length; rw [eC_len hR]; omega) (.int .i64 r)
    rw [show (ES.mk m n s t h R L x).C = eC m n s t h R (L.length : Int) (x : Int) from rfl, eC_rate x r (by omega)] at this
    rw [hkk]; exact this)
  have hR1 : (R.set x r).length = 9 := by rw [List.length_set]; exact hR
  have c0 := eC_cells (k := (k : Int)) (x := (x : Int)) (m := m) (n := n) (s := s) (t := t) (h := h) hR (by rw [hkk]; exact hB)
  obtain ⟨a0, a1, a2, a3, a4, a5, a14, a15, af⟩ := c0
  have a5x := a5 x (by omega)
  have f5 := af (5 + x)
  obtain ⟨b0, b1, b2, b3, b4, b5, b14, b15, bf⟩ := eC_cells hR1 HB1.out
  have f14 := bf 14
  have x9 : (x : Int) < 9 := by omega
  have x9n : x < 9 := by omega
  have HRR := Lib.hid hr
  clear a5 af b5 bf hO hB hr
  have HK := Lib.hid (And.intro hk hkk)
  clear hk hkk
  have HH := Lib.hid (And.intro (And.intro hR hR1) (And.intro hx hn))
  clear hR hR1 hx hn
  obtain ⟨k1, hk1⟩ : ∃ z : Int, z = wrap64 ((k : Int) + 1) := ⟨_, rfl⟩
  obtain ⟨kn, hkn⟩ : ∃ z : Int, z = min k1 (n : Int) := ⟨_, rfl⟩
  have HK1 := Lib.hid (show k1 = (k : Int) + 1 from hk1.trans (w64_in _ (by have := HK.out; have := HH.out; omega)))
  have HKN := Lib.hid hkn
  have HE := Lib.hid (And.intro hk1.symm (And.intro hkn.symm trivial))
  have HB2 := Lib.hid (show Blk ((w.setCell ⟨B, 5 + x, none⟩ (.int .i64 r)).setCell ⟨B, 14, none⟩ (.int .i64 kn)) B 141 (eC m n s t h (R.set x r) kn (x : Int)) by
    have := HB1.out.put1 (i := 14) (by rw [eC_len HH.out.1.2]; decide) (.int .i64 kn)
    rw [eC_kept HH.out.1.2] at this
    exact this)
  have HB3 := Lib.hid (show Blk (((w.setCell ⟨B, 5 + x, none⟩ (.int .i64 r)).setCell ⟨B, 14, none⟩ (.int .i64 kn)).setCell ⟨B, 15, none⟩ (.int .i64 ((x : Int) + 1))) B 141 (eC m n s t h (R.set x r) kn ((x : Int) + 1)) by
    have := HB2.out.put1 (i := 15) (by rw [eC_len HH.out.1.2]; decide) (.int .i64 ((x : Int) + 1))
    rw [eC_next HH.out.1.2] at this
    exact this)
  have HB4 := Lib.hid (show Blk ((((w.setCell ⟨B, 5 + x, none⟩ (.int .i64 r)).setCell ⟨B, 14, none⟩ (.int .i64 kn)).setCell ⟨B, 15, none⟩ (.int .i64 ((x : Int) + 1))).setCell ⟨B, 15, none⟩ (.int .i64 0)) B 141 (eC m n s t h (R.set x r) kn 0) by
    have := HB3.out.put1 (i := 15) (by rw [eC_len HH.out.1.2]; decide) (.int .i64 0)
    rw [eC_next HH.out.1.2] at this
    exact this)
  clear hk1 hkn
  obtain ⟨e1, e2, e3⟩ := HE.out
  go_enter Try.func70, Try.ntmps70
  go_wp2_with fail
  go_region
  go_wp2_with fail
  go_region
  clear a0 a1 a2 a3 a4 a14 a15 a5x f5 b0 b1 b2 b3 b4 b14 b15 f14 e1 e2
  obtain ⟨b0, b1, b2, b3, b4, b5, b14, b15, bf⟩ := eC_cells HH.out.1.2 HB2.out
  have f15 := bf 15
  clear b5 bf
  go_upto_region 3 with fail
  clear b0 b1 b2 b3 b4 b14 b15 f15
  obtain ⟨b0, b1, b2, b3, b4, b5, b14, b15, bf⟩ := eC_cells HH.out.1.2 HB3.out
  have f15 := bf 15
  clear b5 bf
  have HL := Lib.hid (show ((keepL n L r).length : Int) = kn by
    have h1 := HKN.out; have h2 := HK1.out
    rw [keep_len n L r HK.out.1, h1, h2, ← HK.out.2]
    omega)
  have HW := Lib.hid (show wrap64 ((x : Int) + 1) = (x : Int) + 1 from w64_in _ (by have := HH.out; omega))
  have HX := Lib.hid (show RingI (R.set x r) (keepL n L r) (if n ≤ x + 1 then 0 else x + 1) n from HO.out.ring.keep r)
  have HV := Lib.hid (show ∀ v ∈ keepL n L r, 1048576 - m ≤ v ∧ v ≤ 1048576 + m from fun v hv => keep_mem hv HO.out.l0 HRR.out)
  by_cases hn : n ≤ x + 1
  · have c1 : (n : Int) ≤ (x : Int) + 1 := by omega
    go_region
    go_wp2_with fail
    go_end0
    refine ⟨rfl, ⟨?_, HO.out.m0, HO.out.t0, HO.out.h0, HX.out, HV.out⟩, (((((Kp.refl _ _ _).set _ _).set 14 _).set 15 _).set 15 _).drewK.drewK.drewK⟩
    show Blk _ B 141 (eC m n s t h (R.set x r) ((keepL n L r).length : Int) ((if n ≤ x + 1 then 0 else x + 1 : Nat) : Int))
    rw [if_pos hn, HL.out]
    exact HB4.out
  · have c1 : ¬ (n : Int) ≤ (x : Int) + 1 := by omega
    go_region
    go_wp2_with fail
    go_end0
    refine ⟨rfl, ⟨?_, HO.out.m0, HO.out.t0, HO.out.h0, HX.out, HV.out⟩, ((((Kp.refl _ _ _).set _ _).set 14 _).set 15 _).drewK.drewK.drewK⟩
    show Blk _ B 141 (eC m n s t h (R.set x r) ((keepL n L r).length : Int) ((if n ≤ x + 1 then 0 else x + 1 : Nat) : Int))
    rw [if_neg hn, HL.out, show ((x + 1 : Nat) : Int) = (x : Int) + 1 by omega]
    exact HB3.out
end Go.Proofs.Ytffcadobdimdoaa
