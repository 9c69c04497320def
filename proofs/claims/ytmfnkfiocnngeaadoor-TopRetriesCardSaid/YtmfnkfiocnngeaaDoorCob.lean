/- count: tidy and Mode, and the document's own Right, sure and Mode: what they return. -/
import Derived.Test.YtmfnkfiocnngeaaDoorCoa
import Derived.Deep.DeepCutAuto
namespace Go.Proofs.YtmfnkfiocnngeaaDoor
open Go.RowKit
def nT (tx rx : Int) (off : Bool) : Int := if rightC tx rx off = true then tx else 0
def nR (tx rx : Int) (off : Bool) : Int := if rightC tx rx off = true then rx else 0
def nO (tx rx : Int) (off : Bool) : Bool := if rightC tx rx off = true then off else false
theorem rightC_iff {tx rx : Int} {off : Bool} : rightC tx rx off = true ↔ 0 ≤ tx ∧ tx ≤ 256 ∧ 0 ≤ rx ∧ rx ≤ 255 ∧ off = (tx == 256) := by
  unfold rightC
  simp only [Bool.and_eq_true, decide_eq_true_eq, beq_iff_eq, and_assoc]
theorem n_can (tx rx : Int) (off : Bool) : 0 ≤ nT tx rx off ∧ nT tx rx off ≤ 256 ∧ 0 ≤ nR tx rx off ∧ nR tx rx off ≤ 255 ∧ nO tx rx off = (nT tx rx off == 256) := by
  unfold nT nR nO
  cases h : rightC tx rx off
  · simp
  · simpa using rightC_iff.1 h
set_option maxHeartbeats 1000000 in
theorem ctidy_any (tx rx : Int) (off : Bool) (w : World) : Calls Tryd.prog 81 #[cV tx rx off] w fun x w' => x = .returned (cV (nT tx rx off) (nR tx rx off) (nO tx rx off)) ∧ Below w.heap.size w w' := by
  have HA := Lib.hid (fun u => cright_any tx rx off u)
  cases h : rightC tx rx off
  · have e1 : nT tx rx off = 0 := by unfold nT; rw [h]; rfl
    have e2 : nR tx rx off = 0 := by unfold nR; rw [h]; rfl
    have e3 : nO tx rx off = false := by unfold nO; rw [h]; rfl
    rw [e1, e2, e3]
    rw [h] at HA
    clear e1 e2 e3 h
    unfold cV at HA ⊢
    go_enter Tryd.func81, Tryd.ntmps81
    go_wp2_with (fail)
    refine (HA.out _).mono ?_
    rintro x w1 ⟨rfl, hb⟩
    have T := (Tri.new (w.alloc (.cells #[.int .i64 tx, .int .i64 rx, .bool off] 64)) (.int .i64 0) (.int .i64 0) (.bool false) 64 (B := w.heap.size + 1) (by simp)).keep hb (by simp)
    have HT := Lib.hid (below_trans' (((Below.refl _ w).alloc (Nat.le_refl _) (.cells #[.int .i64 tx, .int .i64 rx, .bool off] 64)).alloc (by simp) (.cells #[.int .i64 0, .int .i64 0, .bool false] 64)) hb)
    clear hb
    have T2 := ((T.set0 (.int .i64 0)).set1 (.int .i64 0)).set2 (.bool false)
    obtain ⟨t0, t1, t2, t3, t4, t5⟩ := T
    go_wp2_with (fail)
    obtain ⟨z0, z1, z2, _, _, _⟩ := T2
    refine bodyPost_ret (v := .agg #[.int .i64 0, .int .i64 0, .bool false]) (by simp [results, Tryd.results81, go_sem, z0, z1, z2]) rfl ⟨rfl, ?_⟩
    exact (((HT.out).setCell (by simp) _).setCell (by simp) _).setCell (by simp) _
  · have e1 : nT tx rx off = tx := by unfold nT; rw [h]; rfl
    have e2 : nR tx rx off = rx := by unfold nR; rw [h]; rfl
    have e3 : nO tx rx off = off := by unfold nO; rw [h]; rfl
    rw [e1, e2, e3]
    rw [h] at HA
    clear e1 e2 e3 h
    unfold cV at HA ⊢
    go_enter Tryd.func81, Tryd.ntmps81
    go_wp2_with (fail)
    refine (HA.out _).mono ?_
    rintro x w1 ⟨rfl, hb⟩
    have S := ((Tri.new w (.int .i64 tx) (.int .i64 rx) (.bool off) 64 rfl).more (by simp) (.cells #[.int .i64 0, .int .i64 0, .bool false] 64)).keep hb (by simp; omega)
    have T := (Tri.new (w.alloc (.cells #[.int .i64 tx, .int .i64 rx, .bool off] 64)) (.int .i64 0) (.int .i64 0) (.bool false) 64 (B := w.heap.size + 1) (by simp)).keep hb (by simp)
    have HT := Lib.hid (below_trans' (((Below.refl _ w).alloc (Nat.le_refl _) (.cells #[.int .i64 tx, .int .i64 rx, .bool off] 64)).alloc (by simp) (.cells #[.int .i64 0, .int .i64 0, .bool false] 64)) hb)
    clear hb
    have T2 := ((T.set0 (.int .i64 tx)).set1 (.int .i64 rx)).set2 (.bool off)
    obtain ⟨t0, t1, t2, t3, t4, t5⟩ := T
    obtain ⟨s0, s1, s2, s3, s4, s5⟩ := S
    go_wp2_with (fail)
    obtain ⟨z0, z1, z2, _, _, _⟩ := T2
    refine bodyPost_ret (v := .agg #[.int .i64 tx, .int .i64 rx, .bool off]) (by simp [results, Tryd.results81, go_sem, z0, z1, z2]) rfl ⟨rfl, ?_⟩
    exact (((HT.out).setCell (by simp) _).setCell (by simp) _).setCell (by simp) _

def txF (t : Int) : Int := if 248 ≤ t then 256 else t + 8
set_option maxHeartbeats 2000000 in
theorem txFail_any (tx rx : Int) (off : Bool) (w : World) : Calls Tryd.prog 39 #[cV tx rx off] w fun x w' => x = .returned (cV (txF (nT tx rx off)) (nR tx rx off) (decide (248 ≤ nT tx rx off))) ∧ Below w.heap.size w w' := by
  have HA := Lib.hid (fun u => ctidy_any tx rx off u)
  obtain ⟨g0, g1, g2, g3, g4⟩ := n_can tx rx off
  obtain ⟨t, ht⟩ : ∃ t, t = nT tx rx off := ⟨_, rfl⟩
  obtain ⟨r, hr⟩ : ∃ r, r = nR tx rx off := ⟨_, rfl⟩
  obtain ⟨o, ho⟩ : ∃ o, o = nO tx rx off := ⟨_, rfl⟩
  rw [← ht, ← hr, ← ho] at HA
  rw [← ht] at g0 g1 g4
  rw [← hr] at g2 g3
  rw [← ho] at g4
  rw [← ht, ← hr]
  clear ht hr ho
  have HG := Lib.hid (show 0 ≤ t ∧ t ≤ 256 ∧ 0 ≤ r ∧ r ≤ 255 ∧ o = (t == 256) from ⟨g0, g1, g2, g3, g4⟩)
  clear g0 g1 g2 g3 g4
  unfold cV at HA ⊢
  skip
  go_enter Tryd.func39, Tryd.ntmps39
  go_wp2_with (fail)
  refine (HA.out _).mono ?_
  rintro x w1 ⟨rfl, hb⟩
  have S := ((Tri.new w (.int .i64 tx) (.int .i64 rx) (.bool off) 64 rfl).more (by simp) (.cells #[.int .i64 0, .int .i64 0, .bool false] 64)).keep hb (by simp; omega)
  have T := (Tri.new (w.alloc (.cells #[.int .i64 tx, .int .i64 rx, .bool off] 64)) (.int .i64 0) (.int .i64 0) (.bool false) 64 (B := w.heap.size + 1) (by simp)).keep hb (by simp)
  have HT := Lib.hid (below_trans' (((Below.refl _ w).alloc (Nat.le_refl _) (.cells #[.int .i64 tx, .int .i64 rx, .bool off] 64)).alloc (by simp) (.cells #[.int .i64 0, .int .i64 0, .bool false] 64)) hb)
  clear hb
  have S2 := ((S.set0 (.int .i64 t)).set1 (.int .i64 r)).set2 (.bool o)
  obtain ⟨wr, hwr⟩ : ∃ wr, wr = ((w1.setCell ⟨w.heap.size, 0, none⟩ (.int .i64 t)).setCell ⟨w.heap.size, 1, none⟩ (.int .i64 r)).setCell ⟨w.heap.size, 2, none⟩ (.bool o) := ⟨_, rfl⟩
  have T2 := T.other3 (C := w.heap.size) (by omega) (.int .i64 t) (.int .i64 r) (.bool o)
  have H2 := Lib.hid (((HT.out.setCell (p := ⟨w.heap.size, 0, none⟩) (by simp) (.int .i64 t)).setCell (p := ⟨w.heap.size, 1, none⟩) (by simp) (.int .i64 r)).setCell (p := ⟨w.heap.size, 2, none⟩) (by simp) (.bool o))
  skip
  skip
  rw [← hwr] at S2 T2 H2
  obtain ⟨s0, s1, s2, s3, s4, s5⟩ := S
  go_upto_region 2 with fail
  rw [← hwr]
  clear hwr s0 s1 s2 s3 s4 s5 HT T
  obtain ⟨s0, s1, s2, s3, s4, s5⟩ := S2
  obtain ⟨t0, t1, t2, t3, t4, t5⟩ := id T2
  have cs : (248 ≤ t) ∨ (t < 248) := by
    obtain ⟨g0, g1, g2, g3, g4⟩ := HG.out
    omega
  rcases cs with hc | hc
  · have HCS := Lib.hid hc; clear hc
    obtain ⟨g0, g1, g2, g3, g4⟩ := HG.out
    have hc := HCS.out
    have HF0 := Lib.hid (show txF (t) = 256 from by unfold txF; rw [if_pos hc])
    have HF2 := Lib.hid (show decide (248 ≤ t) = true from by simpa using hc)
    have hw : IntKind.i64.wrap (t + 8) = t + 8 := by rw [IntKind.wrap_i64]; omega
    have hm : (if 256 < t + 8 then (256 : Int) else t + 8) = 256 := by split <;> omega
    have hq : ((256 : Int) == 256) = true := rfl
    clear g0 g1 g2 g3 g4 hc
    go_wp2_with (fail)
    obtain ⟨z0, z1, z2, _, _, _⟩ := ((((T2.other (C := w.heap.size) (by omega) 0 (.int .i64 256)).other (C := w.heap.size) (by omega) 2 (.bool true)).set0 (.int .i64 (256))).set1 (.int .i64 (r))).set2 (.bool (true))
    refine bodyPost_ret (v := .agg #[.int .i64 (256), .int .i64 (r), .bool (true)]) (by simp [results, Tryd.results39, go_sem, z0, z1, z2]) rfl ⟨by rw [HF0.out, HF2.out], (((((H2.out.setCell (p := ⟨w.heap.size, 0, none⟩) (by simp) (.int .i64 256)).setCell (p := ⟨w.heap.size, 2, none⟩) (by simp) (.bool true)).setCell (p := ⟨w.heap.size + 1, 0, none⟩) (by simp) (.int .i64 (256))).setCell (p := ⟨w.heap.size + 1, 1, none⟩) (by simp) (.int .i64 (r))).setCell (p := ⟨w.heap.size + 1, 2, none⟩) (by simp) (.bool (true)))⟩
  · have HCS := Lib.hid hc; clear hc
    obtain ⟨g0, g1, g2, g3, g4⟩ := HG.out
    have hc := HCS.out
    have HF0 := Lib.hid (show txF (t) = t + 8 from by unfold txF; rw [if_neg (by omega)])
    have HF2 := Lib.hid (show decide (248 ≤ t) = false from by simp; omega)
    have hw : IntKind.i64.wrap (t + 8) = t + 8 := by rw [IntKind.wrap_i64]; omega
    have hm : (if 256 < t + 8 then (256 : Int) else t + 8) = t + 8 := by split <;> omega
    have hq : ((t + 8 : Int) == 256) = false := by simp; omega
    clear g0 g1 g2 g3 g4 hc
    go_wp2_with (fail)
    obtain ⟨z0, z1, z2, _, _, _⟩ := ((((T2.other (C := w.heap.size) (by omega) 0 (.int .i64 (t + 8))).other (C := w.heap.size) (by omega) 2 (.bool false)).set0 (.int .i64 (t + 8))).set1 (.int .i64 (r))).set2 (.bool (false))
    refine bodyPost_ret (v := .agg #[.int .i64 (t + 8), .int .i64 (r), .bool (false)]) (by simp [results, Tryd.results39, go_sem, z0, z1, z2]) rfl ⟨by rw [HF0.out, HF2.out], (((((H2.out.setCell (p := ⟨w.heap.size, 0, none⟩) (by simp) (.int .i64 (t + 8))).setCell (p := ⟨w.heap.size, 2, none⟩) (by simp) (.bool false)).setCell (p := ⟨w.heap.size + 1, 0, none⟩) (by simp) (.int .i64 (t + 8))).setCell (p := ⟨w.heap.size + 1, 1, none⟩) (by simp) (.int .i64 (r))).setCell (p := ⟨w.heap.size + 1, 2, none⟩) (by simp) (.bool (false)))⟩

def rxF (r b : Int) : Int := if b < 1 then r else if 255 < r + b then 255 else r + b
def txG (t : Int) : Int := if 0 < t ∧ t < 256 then t - 1 else t
def rxG (r : Int) : Int := if 128 ≤ r then 120 else if 0 < r then r - 1 else r
def moF (t r : Int) : Int := if t = 256 then 2 else if 128 ≤ t ∨ 128 ≤ r then 1 else 0
set_option maxHeartbeats 2000000 in
theorem mode_any (tx rx : Int) (off : Bool) (w : World) : Calls Tryd.prog 40 #[cV tx rx off] w fun x w' => x = .returned (.int .i64 (moF (nT tx rx off) (nR tx rx off))) ∧ Below w.heap.size w w' := by
  have HA := Lib.hid (fun u => ctidy_any tx rx off u)
  obtain ⟨g0, g1, g2, g3, g4⟩ := n_can tx rx off
  obtain ⟨t, ht⟩ : ∃ t, t = nT tx rx off := ⟨_, rfl⟩
  obtain ⟨r, hr⟩ : ∃ r, r = nR tx rx off := ⟨_, rfl⟩
  obtain ⟨o, ho⟩ : ∃ o, o = nO tx rx off := ⟨_, rfl⟩
  rw [← ht, ← hr, ← ho] at HA
  rw [← ht] at g0 g1 g4
  rw [← hr] at g2 g3
  rw [← ho] at g4
  rw [← ht, ← hr]
  clear ht hr ho
  have HG := Lib.hid (show 0 ≤ t ∧ t ≤ 256 ∧ 0 ≤ r ∧ r ≤ 255 ∧ o = (t == 256) from ⟨g0, g1, g2, g3, g4⟩)
  clear g0 g1 g2 g3 g4
  unfold cV at HA 
  unfold cV
  go_enter Tryd.func40, Tryd.ntmps40
  go_wp2_with (fail)
  refine (HA.out _).mono ?_
  rintro x w1 ⟨rfl, hb⟩
  have S := (Tri.new w (.int .i64 tx) (.int .i64 rx) (.bool off) 64 rfl).keep hb (by simp)
  have HT := Lib.hid (below_trans' ((Below.refl _ w).alloc (Nat.le_refl _) (.cells #[.int .i64 tx, .int .i64 rx, .bool off] 64)) hb)
  clear hb
  have S2 := ((S.set0 (.int .i64 t)).set1 (.int .i64 r)).set2 (.bool o)
  obtain ⟨wr, hwr⟩ : ∃ wr, wr = ((w1.setCell ⟨w.heap.size, 0, none⟩ (.int .i64 t)).setCell ⟨w.heap.size, 1, none⟩ (.int .i64 r)).setCell ⟨w.heap.size, 2, none⟩ (.bool o) := ⟨_, rfl⟩

  have H2 := Lib.hid (((HT.out.setCell (p := ⟨w.heap.size, 0, none⟩) (by simp) (.int .i64 t)).setCell (p := ⟨w.heap.size, 1, none⟩) (by simp) (.int .i64 r)).setCell (p := ⟨w.heap.size, 2, none⟩) (by simp) (.bool o))
  skip
  skip
  rw [← hwr] at S2 H2
  obtain ⟨s0, s1, s2, s3, s4, s5⟩ := S
  go_upto_region 2 with fail
  rw [← hwr]
  clear hwr s0 s1 s2 s3 s4 s5 HT 
  obtain ⟨s0, s1, s2, s3, s4, s5⟩ := S2

  have cs : (t = 256) ∨ (128 ≤ t ∧ t < 256) ∨ (t < 128 ∧ 128 ≤ r) ∨ (t < 128 ∧ r < 128) := by
    obtain ⟨g0, g1, g2, g3, g4⟩ := HG.out
    omega
  rcases cs with hc | hc | hc | hc
  · have HCS := Lib.hid hc; clear hc
    obtain ⟨g0, g1, g2, g3, g4⟩ := HG.out
    have hc := HCS.out
    have HF := Lib.hid (show moF (t) (r) = 2 by unfold moF; rw [if_pos hc])
    have ho : o = true := by rw [g4, hc]; rfl
    subst ho
    clear g0 g1 g2 g3 g4 hc
    go_wp2_with (fail)
    go_ret
    exact ⟨by rw [HF.out]; rfl, H2.out⟩
  · have HCS := Lib.hid hc; clear hc
    obtain ⟨g0, g1, g2, g3, g4⟩ := HG.out
    have hc := HCS.out
    have HF := Lib.hid (show moF (t) (r) = 1 by unfold moF; rw [if_neg (by omega), if_pos (by omega)])
    have ho : o = false := by rw [g4]; simp; omega
    subst ho
    have c1 : decide (128 ≤ t) = true := by simp; omega
    clear g0 g1 g2 g3 g4 hc
    go_wp2_with (fail)
    go_ret
    exact ⟨by rw [HF.out]; rfl, H2.out⟩
  · have HCS := Lib.hid hc; clear hc
    obtain ⟨g0, g1, g2, g3, g4⟩ := HG.out
    have hc := HCS.out
    have HF := Lib.hid (show moF (t) (r) = 1 by unfold moF; rw [if_neg (by omega), if_pos (by omega)])
    have ho : o = false := by rw [g4]; simp; omega
    subst ho
    have c1 : decide (128 ≤ t) = false := by simp; omega
    have c2 : decide (128 ≤ r) = true := by simp; omega
    clear g0 g1 g2 g3 g4 hc
    go_wp2_with (fail)
    go_ret
    exact ⟨by rw [HF.out]; rfl, H2.out⟩
  · have HCS := Lib.hid hc; clear hc
    obtain ⟨g0, g1, g2, g3, g4⟩ := HG.out
    have hc := HCS.out
    have HF := Lib.hid (show moF (t) (r) = 0 by unfold moF; rw [if_neg (by omega), if_neg (by omega)])
    have ho : o = false := by rw [g4]; simp; omega
    subst ho
    have c1 : decide (128 ≤ t) = false := by simp; omega
    have c2 : decide (128 ≤ r) = false := by simp; omega
    clear g0 g1 g2 g3 g4 hc
    go_wp2_with (fail)
    go_ret
    exact ⟨by rw [HF.out]; rfl, H2.out⟩
end Go.Proofs.YtmfnkfiocnngeaaDoor
