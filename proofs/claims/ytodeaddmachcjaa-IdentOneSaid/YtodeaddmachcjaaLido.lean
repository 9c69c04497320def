/- The statement of P5.4 (IdentOne): of two unlike frames just one wins; who wins over a winner wins. No conditions. -/
import Derived.Test.YtodeaddmachcjaaRows
import Derived.Test.YtodeaddmachcjaaOpn
import Derived.Test.YtodeaddmachcjaaIdl
import Derived.Test.YtodeaddmachcjaaIdb
import Derived.Deep.RegionHeld3
import Derived.WalkKit
import Derived.ProofKit
import Derived.OpenShut
import Derived.ShutString
import Derived.ChangeOld
import Derived.Below
namespace Go.Proofs.Ytodeaddmachcjaa.identOne
open Go.ChangeShapes Go.WideShapes Go.ChangeAt Go.RowKit
theorem own : ownKnob Try.prog.godebug = none := by kernel_rfl
theorem laidOut : laidOutB Try.prog = true := by kernel_rfl
theorem tri_cells (w : World) (x y z : Value) (T : TypeId) : (w.alloc (.cells #[x, y, z] T)).cell? ⟨w.heap.size, 0, none⟩ = some x ∧ (w.alloc (.cells #[x, y, z] T)).cell? ⟨w.heap.size, 1, none⟩ = some y ∧ (w.alloc (.cells #[x, y, z] T)).cell? ⟨w.heap.size, 2, none⟩ = some z := ⟨by simp, by simp, by simp⟩
theorem wins5_same (e : Bool) (n : Nat) (r : Bool) : winsI e n r e n r = false := by
  unfold winsI
  rw [decide_eq_false (by omega), Bool.and_false]
/-- Of two unlike ones just one wins. -/
theorem wins5_one {e f r s : Bool} {n m : Nat} (he : rightI e n = true) (hf : rightI f m = true) (h : ¬ (e = f ∧ n = m ∧ r = s)) : winsI e n r f m s = !winsI f m s e n r := by
  unfold winsI
  rw [he, hf, Bool.true_and, Bool.true_and, Bool.true_and]
  have hne : idKey e n r ≠ idKey f m s := fun c => h (idKey_inj he hf c)
  by_cases c : idKey e n r < idKey f m s
  · rw [decide_eq_true c, decide_eq_false (by omega)]; rfl
  · rw [decide_eq_false c, decide_eq_true (by omega)]; rfl
theorem wins5_trans {e f g r s u : Bool} {n m k : Nat} (h1 : winsI e n r f m s = true) (h2 : winsI f m s g k u = true) : winsI e n r g k u = true := by
  unfold winsI at h1 h2 ⊢
  simp only [Bool.and_eq_true, decide_eq_true_eq] at h1 h2 ⊢
  exact ⟨⟨h1.1.1, h2.1.2⟩, by omega⟩
theorem ways {e0 e1 e2 q0 q1 q2 : Bool} {n0 n1 n2 : Nat} (h0 : rightI e0 n0 = true) (h1 : rightI e1 n1 = true) :
    ((winsI e0 n0 q0 e1 n1 q1 = false ∧ winsI e1 n1 q1 e0 n0 q0 = false ∧ e0 = e1 ∧ n0 = n1 ∧ q0 = q1) ∨ (winsI e0 n0 q0 e1 n1 q1 = true ∧ winsI e1 n1 q1 e0 n0 q0 = false ∧ ¬ (e0 = e1 ∧ n0 = n1 ∧ q0 = q1)) ∨ (winsI e0 n0 q0 e1 n1 q1 = false ∧ winsI e1 n1 q1 e0 n0 q0 = true ∧ ¬ (e0 = e1 ∧ n0 = n1 ∧ q0 = q1)))
    ∧ (winsI e0 n0 q0 e1 n1 q1 = true → winsI e1 n1 q1 e2 n2 q2 = true → winsI e0 n0 q0 e2 n2 q2 = true) := by
  refine ⟨?_, fun a b => wins5_trans a b⟩
  by_cases h : e0 = e1 ∧ n0 = n1 ∧ q0 = q1
  · obtain ⟨rfl, rfl, rfl⟩ := h
    exact .inl ⟨wins5_same _ _ _, wins5_same _ _ _, rfl, rfl, rfl⟩
  · have e := wins5_one h0 h1 h
    cases hw : winsI e1 n1 q1 e0 n0 q0
    · rw [hw] at e
      exact .inr (.inl ⟨e, rfl, h⟩)
    · rw [hw] at e
      exact .inr (.inr ⟨e, rfl, h⟩)
set_option maxHeartbeats 2000000 in
theorem walk (e0 : Bool) (n0 : Nat) (q0 : Bool) (e1 : Bool) (n1 : Nat) (q1 : Bool) (e2 : Bool) (n2 : Nat) (q2 : Bool) (h0 : n0 < 4294967296) (h1 : n1 < 4294967296) (h2 : n2 < 4294967296) (w : World) :
    Calls Try.prog 5 #[asksV e0 n0 q0, asksV e1 n1 q1, asksV e2 n2 q2] w fun e w' => e = .returned (.bool true) ∧ Below w.heap.size w w' := by
  obtain ⟨ra, rad⟩ : ∃ b, b = rightI e0 n0 := ⟨_, rfl⟩
  obtain ⟨rb, rbd⟩ : ∃ b, b = rightI e1 n1 := ⟨_, rfl⟩
  obtain ⟨rc, rcd⟩ : ∃ b, b = rightI e2 n2 := ⟨_, rfl⟩
  obtain ⟨ab, abd⟩ : ∃ b, b = winsI e0 n0 q0 e1 n1 q1 := ⟨_, rfl⟩
  obtain ⟨ba, bad⟩ : ∃ b, b = winsI e1 n1 q1 e0 n0 q0 := ⟨_, rfl⟩
  obtain ⟨bc, bcd⟩ : ∃ b, b = winsI e1 n1 q1 e2 n2 q2 := ⟨_, rfl⟩
  obtain ⟨ac, acd⟩ : ∃ b, b = winsI e0 n0 q0 e2 n2 q2 := ⟨_, rfl⟩
  unfold asksV
  go_enter Try.func5, Try.ntmps5
  go_wp2_with (fail)
  obtain ⟨wr, hwr⟩ : ∃ wr, wr = (((w.alloc (.cells #[.bool e0, .int .u32 (n0 : Int), .bool q0] 38)).alloc (.cells #[.bool e1, .int .u32 (n1 : Int), .bool q1] 38)).alloc (.cells #[.bool e2, .int .u32 (n2 : Int), .bool q2] 38)) := ⟨_, rfl⟩
  have HB := Lib.hid (show Below w.heap.size w wr by rw [hwr]; exact (((Below.refl _ w).alloc (Nat.le_refl _) _).alloc (by simp) _).alloc (by simp; omega) _)
  have hsz : w.heap.size + 3 ≤ wr.heap.size := by rw [hwr]; simp
  have T0 := tri_cells w (.bool e0) (.int .u32 (n0 : Int)) (.bool q0) 38
  have T1 := tri_cells (w.alloc (.cells #[.bool e0, .int .u32 (n0 : Int), .bool q0] 38)) (.bool e1) (.int .u32 (n1 : Int)) (.bool q1) 38
  have T2 := tri_cells ((w.alloc (.cells #[.bool e0, .int .u32 (n0 : Int), .bool q0] 38)).alloc (.cells #[.bool e1, .int .u32 (n1 : Int), .bool q1] 38)) (.bool e2) (.int .u32 (n2 : Int)) (.bool q2) 38
  rw [World.size_alloc] at T1
  rw [World.size_alloc, World.size_alloc, ← hwr] at T2
  have up1 : Below (w.heap.size + 1) (w.alloc (.cells #[.bool e0, .int .u32 (n0 : Int), .bool q0] 38)) wr := by rw [hwr]; exact ((Below.refl _ _).alloc (by simp) _).alloc (by simp) _
  have up2 : Below (w.heap.size + 1 + 1) ((w.alloc (.cells #[.bool e0, .int .u32 (n0 : Int), .bool q0] 38)).alloc (.cells #[.bool e1, .int .u32 (n1 : Int), .bool q1] 38)) wr := by rw [hwr]; exact (Below.refl _ _).alloc (by simp) _
  have U0 : ∀ o, wr.cell? ⟨w.heap.size, o, none⟩ = (w.alloc (.cells #[.bool e0, .int .u32 (n0 : Int), .bool q0] 38)).cell? ⟨w.heap.size, o, none⟩ := fun o => up1.cell (p := ⟨w.heap.size, o, none⟩) (Nat.lt_succ_self _)
  have U1 : ∀ o, wr.cell? ⟨w.heap.size + 1, o, none⟩ = ((w.alloc (.cells #[.bool e0, .int .u32 (n0 : Int), .bool q0] 38)).alloc (.cells #[.bool e1, .int .u32 (n1 : Int), .bool q1] 38)).cell? ⟨w.heap.size + 1, o, none⟩ := fun o => up2.cell (p := ⟨w.heap.size + 1, o, none⟩) (Nat.lt_succ_self _)
  have HS := Lib.hid (show ∀ u, Below wr.heap.size wr u → Below wr.heap.size wr u ∧ u.cell? ⟨w.heap.size, 0, none⟩ = some (.bool e0) ∧ u.cell? ⟨w.heap.size, 1, none⟩ = some (.int .u32 (n0 : Int)) ∧ u.cell? ⟨w.heap.size, 2, none⟩ = some (.bool q0) ∧ u.cell? ⟨w.heap.size + 1, 0, none⟩ = some (.bool e1) ∧ u.cell? ⟨w.heap.size + 1, 1, none⟩ = some (.int .u32 (n1 : Int)) ∧ u.cell? ⟨w.heap.size + 1, 2, none⟩ = some (.bool q1) ∧ u.cell? ⟨w.heap.size + 1 + 1, 0, none⟩ = some (.bool e2) ∧ u.cell? ⟨w.heap.size + 1 + 1, 1, none⟩ = some (.int .u32 (n2 : Int)) ∧ u.cell? ⟨w.heap.size + 1 + 1, 2, none⟩ = some (.bool q2) from fun u hu => ⟨hu, ((bcell2 hu).1 _ _ (by omega)).trans ((U0 0).trans T0.1), ((bcell2 hu).1 _ _ (by omega)).trans ((U0 1).trans T0.2.1), ((bcell2 hu).1 _ _ (by omega)).trans ((U0 2).trans T0.2.2), ((bcell2 hu).1 _ _ (by omega)).trans ((U1 0).trans T1.1), ((bcell2 hu).1 _ _ (by omega)).trans ((U1 1).trans T1.2.1), ((bcell2 hu).1 _ _ (by omega)).trans ((U1 2).trans T1.2.2), ((bcell2 hu).1 _ _ (by omega)).trans T2.1, ((bcell2 hu).1 _ _ (by omega)).trans T2.2.1, ((bcell2 hu).1 _ _ (by omega)).trans T2.2.2⟩)
  rw [← hwr]
  clear hwr T0 T1 T2 up1 up2 U0 U1 hsz
  have HL := Lib.hid (show ∀ u, Below wr.heap.size wr u ∧ u.cell? ⟨w.heap.size, 0, none⟩ = some (.bool e0) ∧ u.cell? ⟨w.heap.size, 1, none⟩ = some (.int .u32 (n0 : Int)) ∧ u.cell? ⟨w.heap.size, 2, none⟩ = some (.bool q0) ∧ u.cell? ⟨w.heap.size + 1, 0, none⟩ = some (.bool e1) ∧ u.cell? ⟨w.heap.size + 1, 1, none⟩ = some (.int .u32 (n1 : Int)) ∧ u.cell? ⟨w.heap.size + 1, 2, none⟩ = some (.bool q1) ∧ u.cell? ⟨w.heap.size + 1 + 1, 0, none⟩ = some (.bool e2) ∧ u.cell? ⟨w.heap.size + 1 + 1, 1, none⟩ = some (.int .u32 (n2 : Int)) ∧ u.cell? ⟨w.heap.size + 1 + 1, 2, none⟩ = some (.bool q2) → Calls Try.prog 8 #[] u fun x w' => x = .returned (.bool true) ∧ Below wr.heap.size wr w' ∧ w'.cell? ⟨w.heap.size, 0, none⟩ = some (.bool e0) ∧ w'.cell? ⟨w.heap.size, 1, none⟩ = some (.int .u32 (n0 : Int)) ∧ w'.cell? ⟨w.heap.size, 2, none⟩ = some (.bool q0) ∧ w'.cell? ⟨w.heap.size + 1, 0, none⟩ = some (.bool e1) ∧ w'.cell? ⟨w.heap.size + 1, 1, none⟩ = some (.int .u32 (n1 : Int)) ∧ w'.cell? ⟨w.heap.size + 1, 2, none⟩ = some (.bool q1) ∧ w'.cell? ⟨w.heap.size + 1 + 1, 0, none⟩ = some (.bool e2) ∧ w'.cell? ⟨w.heap.size + 1 + 1, 1, none⟩ = some (.int .u32 (n2 : Int)) ∧ w'.cell? ⟨w.heap.size + 1 + 1, 2, none⟩ = some (.bool q2) from fun u hu => (live5 u).mono fun _ _ h => ⟨h.1, HS.out _ (below_trans' hu.1 h.2)⟩)
  have HR0 := Lib.hid (show ∀ u, Below wr.heap.size wr u ∧ u.cell? ⟨w.heap.size, 0, none⟩ = some (.bool e0) ∧ u.cell? ⟨w.heap.size, 1, none⟩ = some (.int .u32 (n0 : Int)) ∧ u.cell? ⟨w.heap.size, 2, none⟩ = some (.bool q0) ∧ u.cell? ⟨w.heap.size + 1, 0, none⟩ = some (.bool e1) ∧ u.cell? ⟨w.heap.size + 1, 1, none⟩ = some (.int .u32 (n1 : Int)) ∧ u.cell? ⟨w.heap.size + 1, 2, none⟩ = some (.bool q1) ∧ u.cell? ⟨w.heap.size + 1 + 1, 0, none⟩ = some (.bool e2) ∧ u.cell? ⟨w.heap.size + 1 + 1, 1, none⟩ = some (.int .u32 (n2 : Int)) ∧ u.cell? ⟨w.heap.size + 1 + 1, 2, none⟩ = some (.bool q2) → Calls Try.prog 14 #[.agg #[.bool e0, .int .u32 (n0 : Int)]] u fun x w' => x = .returned (.bool ra) ∧ Below wr.heap.size wr w' ∧ w'.cell? ⟨w.heap.size, 0, none⟩ = some (.bool e0) ∧ w'.cell? ⟨w.heap.size, 1, none⟩ = some (.int .u32 (n0 : Int)) ∧ w'.cell? ⟨w.heap.size, 2, none⟩ = some (.bool q0) ∧ w'.cell? ⟨w.heap.size + 1, 0, none⟩ = some (.bool e1) ∧ w'.cell? ⟨w.heap.size + 1, 1, none⟩ = some (.int .u32 (n1 : Int)) ∧ w'.cell? ⟨w.heap.size + 1, 2, none⟩ = some (.bool q1) ∧ w'.cell? ⟨w.heap.size + 1 + 1, 0, none⟩ = some (.bool e2) ∧ w'.cell? ⟨w.heap.size + 1 + 1, 1, none⟩ = some (.int .u32 (n2 : Int)) ∧ w'.cell? ⟨w.heap.size + 1 + 1, 2, none⟩ = some (.bool q2) from fun u hu => (refRight5_any e0 n0 u).mono fun _ _ h => ⟨h.1.trans (by rw [rad]), HS.out _ (below_trans' hu.1 h.2)⟩)
  have HR1 := Lib.hid (show ∀ u, Below wr.heap.size wr u ∧ u.cell? ⟨w.heap.size, 0, none⟩ = some (.bool e0) ∧ u.cell? ⟨w.heap.size, 1, none⟩ = some (.int .u32 (n0 : Int)) ∧ u.cell? ⟨w.heap.size, 2, none⟩ = some (.bool q0) ∧ u.cell? ⟨w.heap.size + 1, 0, none⟩ = some (.bool e1) ∧ u.cell? ⟨w.heap.size + 1, 1, none⟩ = some (.int .u32 (n1 : Int)) ∧ u.cell? ⟨w.heap.size + 1, 2, none⟩ = some (.bool q1) ∧ u.cell? ⟨w.heap.size + 1 + 1, 0, none⟩ = some (.bool e2) ∧ u.cell? ⟨w.heap.size + 1 + 1, 1, none⟩ = some (.int .u32 (n2 : Int)) ∧ u.cell? ⟨w.heap.size + 1 + 1, 2, none⟩ = some (.bool q2) → Calls Try.prog 14 #[.agg #[.bool e1, .int .u32 (n1 : Int)]] u fun x w' => x = .returned (.bool rb) ∧ Below wr.heap.size wr w' ∧ w'.cell? ⟨w.heap.size, 0, none⟩ = some (.bool e0) ∧ w'.cell? ⟨w.heap.size, 1, none⟩ = some (.int .u32 (n0 : Int)) ∧ w'.cell? ⟨w.heap.size, 2, none⟩ = some (.bool q0) ∧ w'.cell? ⟨w.heap.size + 1, 0, none⟩ = some (.bool e1) ∧ w'.cell? ⟨w.heap.size + 1, 1, none⟩ = some (.int .u32 (n1 : Int)) ∧ w'.cell? ⟨w.heap.size + 1, 2, none⟩ = some (.bool q1) ∧ w'.cell? ⟨w.heap.size + 1 + 1, 0, none⟩ = some (.bool e2) ∧ w'.cell? ⟨w.heap.size + 1 + 1, 1, none⟩ = some (.int .u32 (n2 : Int)) ∧ w'.cell? ⟨w.heap.size + 1 + 1, 2, none⟩ = some (.bool q2) from fun u hu => (refRight5_any e1 n1 u).mono fun _ _ h => ⟨h.1.trans (by rw [rbd]), HS.out _ (below_trans' hu.1 h.2)⟩)
  have HR2 := Lib.hid (show ∀ u, Below wr.heap.size wr u ∧ u.cell? ⟨w.heap.size, 0, none⟩ = some (.bool e0) ∧ u.cell? ⟨w.heap.size, 1, none⟩ = some (.int .u32 (n0 : Int)) ∧ u.cell? ⟨w.heap.size, 2, none⟩ = some (.bool q0) ∧ u.cell? ⟨w.heap.size + 1, 0, none⟩ = some (.bool e1) ∧ u.cell? ⟨w.heap.size + 1, 1, none⟩ = some (.int .u32 (n1 : Int)) ∧ u.cell? ⟨w.heap.size + 1, 2, none⟩ = some (.bool q1) ∧ u.cell? ⟨w.heap.size + 1 + 1, 0, none⟩ = some (.bool e2) ∧ u.cell? ⟨w.heap.size + 1 + 1, 1, none⟩ = some (.int .u32 (n2 : Int)) ∧ u.cell? ⟨w.heap.size + 1 + 1, 2, none⟩ = some (.bool q2) → Calls Try.prog 14 #[.agg #[.bool e2, .int .u32 (n2 : Int)]] u fun x w' => x = .returned (.bool rc) ∧ Below wr.heap.size wr w' ∧ w'.cell? ⟨w.heap.size, 0, none⟩ = some (.bool e0) ∧ w'.cell? ⟨w.heap.size, 1, none⟩ = some (.int .u32 (n0 : Int)) ∧ w'.cell? ⟨w.heap.size, 2, none⟩ = some (.bool q0) ∧ w'.cell? ⟨w.heap.size + 1, 0, none⟩ = some (.bool e1) ∧ w'.cell? ⟨w.heap.size + 1, 1, none⟩ = some (.int .u32 (n1 : Int)) ∧ w'.cell? ⟨w.heap.size + 1, 2, none⟩ = some (.bool q1) ∧ w'.cell? ⟨w.heap.size + 1 + 1, 0, none⟩ = some (.bool e2) ∧ w'.cell? ⟨w.heap.size + 1 + 1, 1, none⟩ = some (.int .u32 (n2 : Int)) ∧ w'.cell? ⟨w.heap.size + 1 + 1, 2, none⟩ = some (.bool q2) from fun u hu => (refRight5_any e2 n2 u).mono fun _ _ h => ⟨h.1.trans (by rw [rcd]), HS.out _ (below_trans' hu.1 h.2)⟩)
  have HAB := Lib.hid (show ∀ u, Below wr.heap.size wr u ∧ u.cell? ⟨w.heap.size, 0, none⟩ = some (.bool e0) ∧ u.cell? ⟨w.heap.size, 1, none⟩ = some (.int .u32 (n0 : Int)) ∧ u.cell? ⟨w.heap.size, 2, none⟩ = some (.bool q0) ∧ u.cell? ⟨w.heap.size + 1, 0, none⟩ = some (.bool e1) ∧ u.cell? ⟨w.heap.size + 1, 1, none⟩ = some (.int .u32 (n1 : Int)) ∧ u.cell? ⟨w.heap.size + 1, 2, none⟩ = some (.bool q1) ∧ u.cell? ⟨w.heap.size + 1 + 1, 0, none⟩ = some (.bool e2) ∧ u.cell? ⟨w.heap.size + 1 + 1, 1, none⟩ = some (.int .u32 (n2 : Int)) ∧ u.cell? ⟨w.heap.size + 1 + 1, 2, none⟩ = some (.bool q2) → Calls Try.prog 22 #[.agg #[.bool e0, .int .u32 (n0 : Int)], .bool q0, .agg #[.bool e1, .int .u32 (n1 : Int)], .bool q1] u fun x w' => x = .returned (.bool ab) ∧ Below wr.heap.size wr w' ∧ w'.cell? ⟨w.heap.size, 0, none⟩ = some (.bool e0) ∧ w'.cell? ⟨w.heap.size, 1, none⟩ = some (.int .u32 (n0 : Int)) ∧ w'.cell? ⟨w.heap.size, 2, none⟩ = some (.bool q0) ∧ w'.cell? ⟨w.heap.size + 1, 0, none⟩ = some (.bool e1) ∧ w'.cell? ⟨w.heap.size + 1, 1, none⟩ = some (.int .u32 (n1 : Int)) ∧ w'.cell? ⟨w.heap.size + 1, 2, none⟩ = some (.bool q1) ∧ w'.cell? ⟨w.heap.size + 1 + 1, 0, none⟩ = some (.bool e2) ∧ w'.cell? ⟨w.heap.size + 1 + 1, 1, none⟩ = some (.int .u32 (n2 : Int)) ∧ w'.cell? ⟨w.heap.size + 1 + 1, 2, none⟩ = some (.bool q2) from fun u hu => (wins_any e0 n0 q0 e1 n1 q1 h0 h1 u).mono fun _ _ h => ⟨h.1.trans (by rw [abd]), HS.out _ (below_trans' hu.1 h.2)⟩)
  have HBA := Lib.hid (show ∀ u, Below wr.heap.size wr u ∧ u.cell? ⟨w.heap.size, 0, none⟩ = some (.bool e0) ∧ u.cell? ⟨w.heap.size, 1, none⟩ = some (.int .u32 (n0 : Int)) ∧ u.cell? ⟨w.heap.size, 2, none⟩ = some (.bool q0) ∧ u.cell? ⟨w.heap.size + 1, 0, none⟩ = some (.bool e1) ∧ u.cell? ⟨w.heap.size + 1, 1, none⟩ = some (.int .u32 (n1 : Int)) ∧ u.cell? ⟨w.heap.size + 1, 2, none⟩ = some (.bool q1) ∧ u.cell? ⟨w.heap.size + 1 + 1, 0, none⟩ = some (.bool e2) ∧ u.cell? ⟨w.heap.size + 1 + 1, 1, none⟩ = some (.int .u32 (n2 : Int)) ∧ u.cell? ⟨w.heap.size + 1 + 1, 2, none⟩ = some (.bool q2) → Calls Try.prog 22 #[.agg #[.bool e1, .int .u32 (n1 : Int)], .bool q1, .agg #[.bool e0, .int .u32 (n0 : Int)], .bool q0] u fun x w' => x = .returned (.bool ba) ∧ Below wr.heap.size wr w' ∧ w'.cell? ⟨w.heap.size, 0, none⟩ = some (.bool e0) ∧ w'.cell? ⟨w.heap.size, 1, none⟩ = some (.int .u32 (n0 : Int)) ∧ w'.cell? ⟨w.heap.size, 2, none⟩ = some (.bool q0) ∧ w'.cell? ⟨w.heap.size + 1, 0, none⟩ = some (.bool e1) ∧ w'.cell? ⟨w.heap.size + 1, 1, none⟩ = some (.int .u32 (n1 : Int)) ∧ w'.cell? ⟨w.heap.size + 1, 2, none⟩ = some (.bool q1) ∧ w'.cell? ⟨w.heap.size + 1 + 1, 0, none⟩ = some (.bool e2) ∧ w'.cell? ⟨w.heap.size + 1 + 1, 1, none⟩ = some (.int .u32 (n2 : Int)) ∧ w'.cell? ⟨w.heap.size + 1 + 1, 2, none⟩ = some (.bool q2) from fun u hu => (wins_any e1 n1 q1 e0 n0 q0 h1 h0 u).mono fun _ _ h => ⟨h.1.trans (by rw [bad]), HS.out _ (below_trans' hu.1 h.2)⟩)
  have HBC := Lib.hid (show ∀ u, Below wr.heap.size wr u ∧ u.cell? ⟨w.heap.size, 0, none⟩ = some (.bool e0) ∧ u.cell? ⟨w.heap.size, 1, none⟩ = some (.int .u32 (n0 : Int)) ∧ u.cell? ⟨w.heap.size, 2, none⟩ = some (.bool q0) ∧ u.cell? ⟨w.heap.size + 1, 0, none⟩ = some (.bool e1) ∧ u.cell? ⟨w.heap.size + 1, 1, none⟩ = some (.int .u32 (n1 : Int)) ∧ u.cell? ⟨w.heap.size + 1, 2, none⟩ = some (.bool q1) ∧ u.cell? ⟨w.heap.size + 1 + 1, 0, none⟩ = some (.bool e2) ∧ u.cell? ⟨w.heap.size + 1 + 1, 1, none⟩ = some (.int .u32 (n2 : Int)) ∧ u.cell? ⟨w.heap.size + 1 + 1, 2, none⟩ = some (.bool q2) → Calls Try.prog 22 #[.agg #[.bool e1, .int .u32 (n1 : Int)], .bool q1, .agg #[.bool e2, .int .u32 (n2 : Int)], .bool q2] u fun x w' => x = .returned (.bool bc) ∧ Below wr.heap.size wr w' ∧ w'.cell? ⟨w.heap.size, 0, none⟩ = some (.bool e0) ∧ w'.cell? ⟨w.heap.size, 1, none⟩ = some (.int .u32 (n0 : Int)) ∧ w'.cell? ⟨w.heap.size, 2, none⟩ = some (.bool q0) ∧ w'.cell? ⟨w.heap.size + 1, 0, none⟩ = some (.bool e1) ∧ w'.cell? ⟨w.heap.size + 1, 1, none⟩ = some (.int .u32 (n1 : Int)) ∧ w'.cell? ⟨w.heap.size + 1, 2, none⟩ = some (.bool q1) ∧ w'.cell? ⟨w.heap.size + 1 + 1, 0, none⟩ = some (.bool e2) ∧ w'.cell? ⟨w.heap.size + 1 + 1, 1, none⟩ = some (.int .u32 (n2 : Int)) ∧ w'.cell? ⟨w.heap.size + 1 + 1, 2, none⟩ = some (.bool q2) from fun u hu => (wins_any e1 n1 q1 e2 n2 q2 h1 h2 u).mono fun _ _ h => ⟨h.1.trans (by rw [bcd]), HS.out _ (below_trans' hu.1 h.2)⟩)
  have HAC := Lib.hid (show ∀ u, Below wr.heap.size wr u ∧ u.cell? ⟨w.heap.size, 0, none⟩ = some (.bool e0) ∧ u.cell? ⟨w.heap.size, 1, none⟩ = some (.int .u32 (n0 : Int)) ∧ u.cell? ⟨w.heap.size, 2, none⟩ = some (.bool q0) ∧ u.cell? ⟨w.heap.size + 1, 0, none⟩ = some (.bool e1) ∧ u.cell? ⟨w.heap.size + 1, 1, none⟩ = some (.int .u32 (n1 : Int)) ∧ u.cell? ⟨w.heap.size + 1, 2, none⟩ = some (.bool q1) ∧ u.cell? ⟨w.heap.size + 1 + 1, 0, none⟩ = some (.bool e2) ∧ u.cell? ⟨w.heap.size + 1 + 1, 1, none⟩ = some (.int .u32 (n2 : Int)) ∧ u.cell? ⟨w.heap.size + 1 + 1, 2, none⟩ = some (.bool q2) → Calls Try.prog 22 #[.agg #[.bool e0, .int .u32 (n0 : Int)], .bool q0, .agg #[.bool e2, .int .u32 (n2 : Int)], .bool q2] u fun x w' => x = .returned (.bool ac) ∧ Below wr.heap.size wr w' ∧ w'.cell? ⟨w.heap.size, 0, none⟩ = some (.bool e0) ∧ w'.cell? ⟨w.heap.size, 1, none⟩ = some (.int .u32 (n0 : Int)) ∧ w'.cell? ⟨w.heap.size, 2, none⟩ = some (.bool q0) ∧ w'.cell? ⟨w.heap.size + 1, 0, none⟩ = some (.bool e1) ∧ w'.cell? ⟨w.heap.size + 1, 1, none⟩ = some (.int .u32 (n1 : Int)) ∧ w'.cell? ⟨w.heap.size + 1, 2, none⟩ = some (.bool q1) ∧ w'.cell? ⟨w.heap.size + 1 + 1, 0, none⟩ = some (.bool e2) ∧ w'.cell? ⟨w.heap.size + 1 + 1, 1, none⟩ = some (.int .u32 (n2 : Int)) ∧ w'.cell? ⟨w.heap.size + 1 + 1, 2, none⟩ = some (.bool q2) from fun u hu => (wins_any e0 n0 q0 e2 n2 q2 h0 h2 u).mono fun _ _ h => ⟨h.1.trans (by rw [acd]), HS.out _ (below_trans' hu.1 h.2)⟩)
  have HWY := Lib.hid (fun (a : ra = true) (b : rb = true) => ways (q0 := q0) (q1 := q1) (e2 := e2) (n2 := n2) (q2 := q2) (rad.symm.trans a) (rbd.symm.trans b))
  rw [← abd, ← bad, ← bcd, ← acd] at HWY
  clear rad rbd rcd abd bad bcd acd h0 h1 h2
  have g0 := HS.out _ (Below.refl wr.heap.size wr)
  have C0 := g0.2
  have H0 := Lib.hid g0
  clear g0
  go_wp2_with (fail)
  refine (HR0.out _ H0.out).mono ?_
  rintro x w1 ⟨rfl, h1⟩
  have H1 := Lib.hid h1
  have C1 := h1.2
  clear h1
  cases ra
  · go_wp2_with (fail)
    refine (HL.out _ H1.out).mono ?_
    rintro x w9 ⟨rfl, h9⟩
    have HE := Lib.hid (HB.out.trans (h9.1.mono HB.out.size))
    clear h9
    go_wp2_with (fail)
    go_ret
    exact ⟨rfl, HE.out⟩
  go_wp2_with (fail)
  refine (HR1.out _ H1.out).mono ?_
  rintro x w2 ⟨rfl, h2⟩
  have H2 := Lib.hid h2
  have C2 := h2.2
  clear h2
  cases rb
  · go_wp2_with (fail)
    refine (HL.out _ H2.out).mono ?_
    rintro x w9 ⟨rfl, h9⟩
    have HE := Lib.hid (HB.out.trans (h9.1.mono HB.out.size))
    clear h9
    go_wp2_with (fail)
    go_ret
    exact ⟨rfl, HE.out⟩
  go_wp2_with (fail)
  refine (HR2.out _ H2.out).mono ?_
  rintro x w3 ⟨rfl, h3⟩
  have H3 := Lib.hid h3
  have C3 := h3.2
  clear h3
  cases rc
  · go_wp2_with (fail)
    refine (HL.out _ H3.out).mono ?_
    rintro x w9 ⟨rfl, h9⟩
    have HE := Lib.hid (HB.out.trans (h9.1.mono HB.out.size))
    clear h9
    go_wp2_with (fail)
    go_ret
    exact ⟨rfl, HE.out⟩
  go_wp2_with (fail)
  obtain ⟨way, tr⟩ := HWY.out trivial trivial
  have k0 := HS.out _ H3.out.1.drew
  go_region_held3 (fun w' => Below wr.heap.size wr w' ∧ w'.cell? ⟨w.heap.size, 0, none⟩ = some (.bool e0) ∧ w'.cell? ⟨w.heap.size, 1, none⟩ = some (.int .u32 (n0 : Int)) ∧ w'.cell? ⟨w.heap.size, 2, none⟩ = some (.bool q0) ∧ w'.cell? ⟨w.heap.size + 1, 0, none⟩ = some (.bool e1) ∧ w'.cell? ⟨w.heap.size + 1, 1, none⟩ = some (.int .u32 (n1 : Int)) ∧ w'.cell? ⟨w.heap.size + 1, 2, none⟩ = some (.bool q1) ∧ w'.cell? ⟨w.heap.size + 1 + 1, 0, none⟩ = some (.bool e2) ∧ w'.cell? ⟨w.heap.size + 1 + 1, 1, none⟩ = some (.int .u32 (n2 : Int)) ∧ w'.cell? ⟨w.heap.size + 1 + 1, 2, none⟩ = some (.bool q2)) (assumption) (first | (go_at_call 22; have gg := h4; clear gg; refine (HBA.out _ (by assumption)).mono ?_; rintro x w5 ⟨rfl, h5⟩) | (go_at_call 22; refine (HAB.out _ (by assumption)).mono ?_; rintro x w4 ⟨rfl, h4⟩))
  have k1 := HS.out _ h5.1.drew
  clear h4 h5 k0
  go_wp2_with (fail)
  go_region_held3 (fun w' => Below wr.heap.size wr w' ∧ w'.cell? ⟨w.heap.size, 0, none⟩ = some (.bool e0) ∧ w'.cell? ⟨w.heap.size, 1, none⟩ = some (.int .u32 (n0 : Int)) ∧ w'.cell? ⟨w.heap.size, 2, none⟩ = some (.bool q0) ∧ w'.cell? ⟨w.heap.size + 1, 0, none⟩ = some (.bool e1) ∧ w'.cell? ⟨w.heap.size + 1, 1, none⟩ = some (.int .u32 (n1 : Int)) ∧ w'.cell? ⟨w.heap.size + 1, 2, none⟩ = some (.bool q1) ∧ w'.cell? ⟨w.heap.size + 1 + 1, 0, none⟩ = some (.bool e2) ∧ w'.cell? ⟨w.heap.size + 1 + 1, 1, none⟩ = some (.int .u32 (n2 : Int)) ∧ w'.cell? ⟨w.heap.size + 1 + 1, 2, none⟩ = some (.bool q2)) (assumption) (first | (go_at_call 22; have gg := h6; clear gg; refine (HAC.out _ (by assumption)).mono ?_; rintro x w7 ⟨rfl, h7⟩) | (go_at_call 22; refine (HBC.out _ (by assumption)).mono ?_; rintro x w6 ⟨rfl, h6⟩))
  have H7 := Lib.hid h7
  clear h6 h7 k1 HAC HBC HAB HBA HR0 HR1 HR2 HWY H1 H2 H3
  go_wp2_with (fail)
  refine (HL.out _ H7.out).mono ?_
  rintro x w8 ⟨rfl, h8⟩
  have HE := Lib.hid (HB.out.trans (h8.1.mono HB.out.size))
  have C8 := h8.2
  clear h8
  rcases way with ⟨rfl, rfl, rfl, rfl, rfl⟩ | ⟨rfl, rfl, hne⟩ | ⟨rfl, rfl, hne⟩
  all_goals go_wp2_with (fail)
  all_goals first | (go_ret; exact ⟨rfl, HE.out⟩) | (exfalso; exact hne ⟨by assumption, by omega, by assumption⟩)
set_option maxRecDepth 100000 in
theorem lifted (os : Os) (started : os.Started) (H : Type) (enc : TypeId × Value → H) :
    ReturnsInHanded {} Try.checked os 5 .any (Rows.identOneSpec.pre6 enc Try.prog Try.f5 Rows.identOneRow.domain false) (Rows.identOneSpec.post enc Try.prog Try.f5 false true false false) := by
  refine returnsInHanded_of_change (C := Try.checked) own started (by kernel_rfl) Try.func5
    (ChangeSpec.witness6 (enc := enc) (C := Try.checked) false ⟨#[], #[.agg #[.bool false, .int .u32 0, .bool false], .agg #[.bool false, .int .u32 0, .bool false], .agg #[.bool false, .int .u32 0, .bool false]], []⟩ 8 (by kernel_rfl) (by kernel_rfl) (by kernel_rfl) (by kernel_rfl)) ?_
  intro W base args ds gs before hval0 hW _ _
  have hval : ∀ (j : Nat) t v, Try.f5.params[j]? = some t → args[j]? = some v → Value.okWide Try.prog W .any base t v := hval0
  have hW' := hW
  obtain ⟨p, q, hA0, hV, rfl, hfz, hnd⟩ := hW
  have hA : DataW.TrodAll enc Try.prog W 0 (fun _ => true) true Try.f5.params.toList args.toList ds p := hA0
  rw [Try.params5] at hA hval
  obtain ⟨v0, vs0, d0, ds0, p0, q0, hargs, rfl, rfl, h0, r0⟩ := trodAll_cons hA
  obtain ⟨v1, vs1, d1, ds1, p1, q1, rfl, rfl, rfl, h1, r1⟩ := trodAll_cons r0
  obtain ⟨v2, vs2, d2, ds2, p2, q2, rfl, rfl, rfl, h2, r2⟩ := trodAll_cons r1
  obtain ⟨rfl, rfl, rfl⟩ := trodAll_nil r2
  obtain rfl : args = #[v0, v1, v2] := by cases args; simp_all
  obtain ⟨rfl, rfl⟩ := trodVars_none hV
  have k0 := h0
  have lt0 : ∀ x ∈ p0, x.block < W.heap.size := by obtain ⟨m, hm⟩ := k0; exact DataW.trod_lt m _ _ _ hm
  obtain ⟨e0, n0, q0, rfl, w0⟩ := open_asks (hval 0 38 v0 rfl rfl) h0
  have k1 := h1
  have lt1 : ∀ x ∈ p1, x.block < W.heap.size := by obtain ⟨m, hm⟩ := k1; exact DataW.trod_lt m _ _ _ hm
  obtain ⟨e1, n1, q1, rfl, w1⟩ := open_asks (hval 1 38 v1 rfl rfl) h1
  have k2 := h2
  have lt2 : ∀ x ∈ p2, x.block < W.heap.size := by obtain ⟨m, hm⟩ := k2; exact DataW.trod_lt m _ _ _ hm
  obtain ⟨e2, n2, q2, rfl, w2⟩ := open_asks (hval 2 38 v2 rfl rfl) h2
  clear hA0 hval0
  refine (walk e0 n0 q0 e1 n1 q1 e2 n2 q2 w0 w1 w2 W).mono fun e W' ⟨he, bel⟩ => ?_
  subst he
  exact ⟨_, rfl, _, _, _, [], _, [], hW', trodAll_mk1 (shut_bool Try.underlying4 _), (trodAll_cons_mk (Below.trod laidOut (by kernel_rfl) (of_decide_eq_true (by kernel_rfl)) k0 bel lt0) (trodAll_cons_mk (Below.trod laidOut (by kernel_rfl) (of_decide_eq_true (by kernel_rfl)) k1 bel lt1) (trodAll_cons_mk (Below.trod laidOut (by kernel_rfl) (of_decide_eq_true (by kernel_rfl)) k2 bel lt2) trodAll_mk0))), rfl, bel.frame _, fun h => by cases h⟩
theorem over : Rows.identOneRow.holds Try.pinned (OpenSpec.ofChange Rows.identOneSpec) :=
  OpenClaim.holds_of_wide 5 Try.f5 rfl rfl rfl rfl rfl rfl rfl ⟨rfl, rfl, rfl, rfl, rfl⟩ rfl rfl rfl rfl rfl (by kernel_rfl) Try.func5 (by kernel_rfl)
    (of_decide_eq_true (by kernel_rfl)) (by unfold Func.isWrapper; first | (rw [if_pos (by decide +kernel)]; kernel_rfl) | (rw [if_neg (by decide +kernel)]; exact ⟨rfl, rfl⟩))
    (fun os started H enc _ => lifted os started H enc)
/-- The statement. -/
theorem proved : Rows.IdentOneSaid := over
end Go.Proofs.Ytodeaddmachcjaa.identOne
