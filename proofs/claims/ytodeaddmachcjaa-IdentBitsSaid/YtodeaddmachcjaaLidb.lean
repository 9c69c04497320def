/- The statement of P5.5 (IdentBits): who wins puts the dominant bit where both are unlike first, and there is such a bit within both. No conditions. -/
import Derived.Test.YtodeaddmachcjaaRows
import Derived.Test.YtodeaddmachcjaaOpn
import Derived.Test.YtodeaddmachcjaaIdl
import Derived.Test.YtodeaddmachcjaaIdb
import Derived.Deep.RegionHeld3
import Derived.WalkKit
import Derived.ProofKit
import Derived.OpenShut
import Derived.ShutString
import Derived.ChangeOld
import Derived.Below
namespace Go.Proofs.Ytodeaddmachcjaa.identBits
open Go.ChangeShapes Go.WideShapes Go.ChangeAt Go.RowKit
theorem own : ownKnob Try.prog.godebug = none := by kernel_rfl
theorem laidOut : laidOutB Try.prog = true := by kernel_rfl
theorem tri_cells (w : World) (x y z : Value) (T : TypeId) : (w.alloc (.cells #[x, y, z] T)).cell? ⟨w.heap.size, 0, none⟩ = some x ∧ (w.alloc (.cells #[x, y, z] T)).cell? ⟨w.heap.size, 1, none⟩ = some y ∧ (w.alloc (.cells #[x, y, z] T)).cell? ⟨w.heap.size, 2, none⟩ = some z := ⟨by simp, by simp, by simp⟩
set_option maxHeartbeats 4000000 in
theorem walk_eq (e0 : Bool) (n0 : Nat) (q0 : Bool) (h0 : n0 < 4294967296) (w : World) :
    Calls Try.prog 6 #[asksV e0 n0 q0, asksV e0 n0 q0] w fun e w' => e = .returned (.bool true) ∧ Below w.heap.size w w' := by
  obtain ⟨ra, rad⟩ : ∃ b, b = rightI e0 n0 := ⟨_, rfl⟩
  obtain ⟨rb, rbd⟩ : ∃ b, b = rightI e0 n0 := ⟨_, rfl⟩
  unfold asksV
  go_enter Try.func6, Try.ntmps6
  go_wp2_with (fail)
  obtain ⟨wr, hwr⟩ : ∃ wr, wr = ((w.alloc (.cells #[.bool e0, .int .u32 (n0 : Int), .bool q0] 38)).alloc (.cells #[.bool e0, .int .u32 (n0 : Int), .bool q0] 38)) := ⟨_, rfl⟩
  have HB := Lib.hid (show Below w.heap.size w wr by rw [hwr]; exact ((Below.refl _ w).alloc (Nat.le_refl _) _).alloc (by simp) _)
  have hsz : w.heap.size + 2 ≤ wr.heap.size := by rw [hwr]; simp
  have T0 := tri_cells w (.bool e0) (.int .u32 (n0 : Int)) (.bool q0) 38
  have T1 := tri_cells (w.alloc (.cells #[.bool e0, .int .u32 (n0 : Int), .bool q0] 38)) (.bool e0) (.int .u32 (n0 : Int)) (.bool q0) 38
  rw [World.size_alloc, ← hwr] at T1
  have up1 : Below (w.heap.size + 1) (w.alloc (.cells #[.bool e0, .int .u32 (n0 : Int), .bool q0] 38)) wr := by rw [hwr]; exact (Below.refl _ _).alloc (by simp) _
  have U0 : ∀ o, wr.cell? ⟨w.heap.size, o, none⟩ = (w.alloc (.cells #[.bool e0, .int .u32 (n0 : Int), .bool q0] 38)).cell? ⟨w.heap.size, o, none⟩ := fun o => up1.cell (p := ⟨w.heap.size, o, none⟩) (Nat.lt_succ_self _)
  have HS := Lib.hid (show ∀ u, Below wr.heap.size wr u → Below wr.heap.size wr u ∧ u.cell? ⟨w.heap.size, 0, none⟩ = some (.bool e0) ∧ u.cell? ⟨w.heap.size, 1, none⟩ = some (.int .u32 (n0 : Int)) ∧ u.cell? ⟨w.heap.size, 2, none⟩ = some (.bool q0) ∧ u.cell? ⟨w.heap.size + 1, 0, none⟩ = some (.bool e0) ∧ u.cell? ⟨w.heap.size + 1, 1, none⟩ = some (.int .u32 (n0 : Int)) ∧ u.cell? ⟨w.heap.size + 1, 2, none⟩ = some (.bool q0) from fun u hu => ⟨hu, ((bcell2 hu).1 _ _ (by omega)).trans ((U0 0).trans T0.1), ((bcell2 hu).1 _ _ (by omega)).trans ((U0 1).trans T0.2.1), ((bcell2 hu).1 _ _ (by omega)).trans ((U0 2).trans T0.2.2), ((bcell2 hu).1 _ _ (by omega)).trans T1.1, ((bcell2 hu).1 _ _ (by omega)).trans T1.2.1, ((bcell2 hu).1 _ _ (by omega)).trans T1.2.2⟩)
  rw [← hwr]
  clear hwr T0 T1 up1 U0 hsz
  have HX := Lib.hid (show ∀ u, Below wr.heap.size wr u ∧ u.cell? ⟨w.heap.size, 0, none⟩ = some (.bool e0) ∧ u.cell? ⟨w.heap.size, 1, none⟩ = some (.int .u32 (n0 : Int)) ∧ u.cell? ⟨w.heap.size, 2, none⟩ = some (.bool q0) ∧ u.cell? ⟨w.heap.size + 1, 0, none⟩ = some (.bool e0) ∧ u.cell? ⟨w.heap.size + 1, 1, none⟩ = some (.int .u32 (n0 : Int)) ∧ u.cell? ⟨w.heap.size + 1, 2, none⟩ = some (.bool q0) → Calls Try.prog 16 #[.agg #[.bool e0, .int .u32 (n0 : Int)], .bool q0] u fun x w' => ∃ a c, x = .returned (.slice a (idBits e0 n0 q0).length c) ∧ Str w'.heap.size w' (.slice a (idBits e0 n0 q0).length c) (idBits e0 n0 q0) ∧ Below u.heap.size u w' ∧ Below wr.heap.size wr w' ∧ w'.cell? ⟨w.heap.size, 0, none⟩ = some (.bool e0) ∧ w'.cell? ⟨w.heap.size, 1, none⟩ = some (.int .u32 (n0 : Int)) ∧ w'.cell? ⟨w.heap.size, 2, none⟩ = some (.bool q0) ∧ w'.cell? ⟨w.heap.size + 1, 0, none⟩ = some (.bool e0) ∧ w'.cell? ⟨w.heap.size + 1, 1, none⟩ = some (.int .u32 (n0 : Int)) ∧ w'.cell? ⟨w.heap.size + 1, 2, none⟩ = some (.bool q0) from fun u hu => (idbits_any e0 n0 q0 h0 u).mono (by
    rintro x w' ⟨v, rfl, ho, hb⟩
    obtain ⟨a, c, rfl⟩ := ho.shape
    exact ⟨a, c, rfl, ho.str, hb, HS.out _ (below_trans' hu.1 hb)⟩))
  have HY := Lib.hid (show ∀ u, Below wr.heap.size wr u ∧ u.cell? ⟨w.heap.size, 0, none⟩ = some (.bool e0) ∧ u.cell? ⟨w.heap.size, 1, none⟩ = some (.int .u32 (n0 : Int)) ∧ u.cell? ⟨w.heap.size, 2, none⟩ = some (.bool q0) ∧ u.cell? ⟨w.heap.size + 1, 0, none⟩ = some (.bool e0) ∧ u.cell? ⟨w.heap.size + 1, 1, none⟩ = some (.int .u32 (n0 : Int)) ∧ u.cell? ⟨w.heap.size + 1, 2, none⟩ = some (.bool q0) → Calls Try.prog 16 #[.agg #[.bool e0, .int .u32 (n0 : Int)], .bool q0] u fun x w' => ∃ a c, x = .returned (.slice a (idBits e0 n0 q0).length c) ∧ Str w'.heap.size w' (.slice a (idBits e0 n0 q0).length c) (idBits e0 n0 q0) ∧ Below u.heap.size u w' ∧ Below wr.heap.size wr w' ∧ w'.cell? ⟨w.heap.size, 0, none⟩ = some (.bool e0) ∧ w'.cell? ⟨w.heap.size, 1, none⟩ = some (.int .u32 (n0 : Int)) ∧ w'.cell? ⟨w.heap.size, 2, none⟩ = some (.bool q0) ∧ w'.cell? ⟨w.heap.size + 1, 0, none⟩ = some (.bool e0) ∧ w'.cell? ⟨w.heap.size + 1, 1, none⟩ = some (.int .u32 (n0 : Int)) ∧ w'.cell? ⟨w.heap.size + 1, 2, none⟩ = some (.bool q0) from fun u hu => (idbits_any e0 n0 q0 h0 u).mono (by
    rintro x w' ⟨v, rfl, ho, hb⟩
    obtain ⟨a, c, rfl⟩ := ho.shape
    exact ⟨a, c, rfl, ho.str, hb, HS.out _ (below_trans' hu.1 hb)⟩))
  have HW := Lib.hid (fun u => wins_any e0 n0 q0 e0 n0 q0 h0 h0 u)
  obtain ⟨b, hbd⟩ : ∃ b, b = winsI e0 n0 q0 e0 n0 q0 := ⟨_, rfl⟩
  rw [← hbd] at HW
  unfold identV at HW
  have HFW := Lib.hid (fun i (a : ra = true) (b : rb = true) => first_wins (e := e0) (n := n0) (r := q0) (f := e0) (m := n0) (s := q0) (i := i) (rad.symm.trans a) (rbd.symm.trans b))
  have HSM := Lib.hid (fun (a : ra = true) (b : rb = true) => idBits_same (e := e0) (n := n0) (r := q0) (f := e0) (m := n0) (s := q0) (rad.symm.trans a) (rbd.symm.trans b))
  rw [← hbd] at HFW
  have HLX := Lib.hid (show (idBits e0 n0 q0).length = if ra then (if e0 then 32 else 13) else 0 by
    cases hr : ra
    · unfold idBits; rw [← rad, hr]; rfl
    · rw [idBits_length e0 n0 q0 (rad.symm.trans hr)]; rfl)
  have HLY := Lib.hid (show (idBits e0 n0 q0).length = if rb then (if e0 then 32 else 13) else 0 by
    cases hr : rb
    · unfold idBits; rw [← rbd, hr]; rfl
    · rw [idBits_length e0 n0 q0 (rbd.symm.trans hr)]; rfl)
  have HLE := Lib.hid (show ∀ x ∈ idBits e0 n0 q0, x ≤ 1 from idBits_le _ _ _)
  obtain ⟨X, hX⟩ : ∃ X, X = idBits e0 n0 q0 := ⟨_, rfl⟩
  obtain ⟨Y, hY⟩ : ∃ Y, Y = idBits e0 n0 q0 := ⟨_, rfl⟩
  rw [← hX] at HX HLX HLE
  rw [← hY] at HY HLY
  first | rw [← hX, ← hY] at HFW HSM | rw [← hX] at HFW HSM
  clear h0 rad rbd hbd hX hY
  have k0 := HS.out _ (Below.refl wr.heap.size wr).drew
  go_region_held3 (fun w' => Below wr.heap.size wr w' ∧ w'.cell? ⟨w.heap.size, 0, none⟩ = some (.bool e0) ∧ w'.cell? ⟨w.heap.size, 1, none⟩ = some (.int .u32 (n0 : Int)) ∧ w'.cell? ⟨w.heap.size, 2, none⟩ = some (.bool q0) ∧ w'.cell? ⟨w.heap.size + 1, 0, none⟩ = some (.bool e0) ∧ w'.cell? ⟨w.heap.size + 1, 1, none⟩ = some (.int .u32 (n0 : Int)) ∧ w'.cell? ⟨w.heap.size + 1, 2, none⟩ = some (.bool q0)) (assumption) (first | (go_at_call 16; have gg := h4; clear gg; refine (HY.out _ (by assumption)).mono ?_; rintro x w5 ⟨ay, cy, rfl, sy, hb5, h5⟩; have sx5 := sx.on hb5) | (go_at_call 16; refine (HX.out _ (by assumption)).mono ?_; rintro x w4 ⟨ax, cx, rfl, sx, hb4, h4⟩))
  have SX := Lib.hid sx5
  have SY := Lib.hid sy
  have HB5 := Lib.hid (HB.out.trans (h5.1.mono HB.out.size))
  have hz5 : w.heap.size + 2 ≤ w5.heap.size := by have := h5.2.2.2.2.2.2; have := cell_lt h5.2.2.2.2.1; have h := h5.1.size; have h2 : w.heap.size + 1 < w5.heap.size := this; omega
  have C5 := h5.2
  have HC5 := Lib.hid C5
  have HS5 := Lib.hid (show ∀ u, Below w5.heap.size w5 u → Below w5.heap.size w5 u ∧ u.cell? ⟨w.heap.size, 0, none⟩ = some (.bool e0) ∧ u.cell? ⟨w.heap.size, 1, none⟩ = some (.int .u32 (n0 : Int)) ∧ u.cell? ⟨w.heap.size, 2, none⟩ = some (.bool q0) ∧ u.cell? ⟨w.heap.size + 1, 0, none⟩ = some (.bool e0) ∧ u.cell? ⟨w.heap.size + 1, 1, none⟩ = some (.int .u32 (n0 : Int)) ∧ u.cell? ⟨w.heap.size + 1, 2, none⟩ = some (.bool q0) from fun u hu => ⟨hu, ((bcell2 hu).1 _ _ (by omega)).trans HC5.out.1, ((bcell2 hu).1 _ _ (by omega)).trans HC5.out.2.1, ((bcell2 hu).1 _ _ (by omega)).trans HC5.out.2.2.1, ((bcell2 hu).1 _ _ (by omega)).trans HC5.out.2.2.2.1, ((bcell2 hu).1 _ _ (by omega)).trans HC5.out.2.2.2.2.1, ((bcell2 hu).1 _ _ (by omega)).trans HC5.out.2.2.2.2.2⟩)
  have HL := Lib.hid (show ∀ u, Below w5.heap.size w5 u ∧ u.cell? ⟨w.heap.size, 0, none⟩ = some (.bool e0) ∧ u.cell? ⟨w.heap.size, 1, none⟩ = some (.int .u32 (n0 : Int)) ∧ u.cell? ⟨w.heap.size, 2, none⟩ = some (.bool q0) ∧ u.cell? ⟨w.heap.size + 1, 0, none⟩ = some (.bool e0) ∧ u.cell? ⟨w.heap.size + 1, 1, none⟩ = some (.int .u32 (n0 : Int)) ∧ u.cell? ⟨w.heap.size + 1, 2, none⟩ = some (.bool q0) → Calls Try.prog 8 #[] u fun x w' => x = .returned (.bool true) ∧ Below w5.heap.size w5 w' ∧ w'.cell? ⟨w.heap.size, 0, none⟩ = some (.bool e0) ∧ w'.cell? ⟨w.heap.size, 1, none⟩ = some (.int .u32 (n0 : Int)) ∧ w'.cell? ⟨w.heap.size, 2, none⟩ = some (.bool q0) ∧ w'.cell? ⟨w.heap.size + 1, 0, none⟩ = some (.bool e0) ∧ w'.cell? ⟨w.heap.size + 1, 1, none⟩ = some (.int .u32 (n0 : Int)) ∧ w'.cell? ⟨w.heap.size + 1, 2, none⟩ = some (.bool q0) from fun u hu => (live5 u).mono fun _ _ h => ⟨h.1, HS5.out _ (below_trans' hu.1 h.2)⟩)
  have HW := Lib.hid (show ∀ u, Below w5.heap.size w5 u ∧ u.cell? ⟨w.heap.size, 0, none⟩ = some (.bool e0) ∧ u.cell? ⟨w.heap.size, 1, none⟩ = some (.int .u32 (n0 : Int)) ∧ u.cell? ⟨w.heap.size, 2, none⟩ = some (.bool q0) ∧ u.cell? ⟨w.heap.size + 1, 0, none⟩ = some (.bool e0) ∧ u.cell? ⟨w.heap.size + 1, 1, none⟩ = some (.int .u32 (n0 : Int)) ∧ u.cell? ⟨w.heap.size + 1, 2, none⟩ = some (.bool q0) → Calls Try.prog 22 _ u fun x w' => x = .returned (.bool b) ∧ Below w5.heap.size w5 w' ∧ w'.cell? ⟨w.heap.size, 0, none⟩ = some (.bool e0) ∧ w'.cell? ⟨w.heap.size, 1, none⟩ = some (.int .u32 (n0 : Int)) ∧ w'.cell? ⟨w.heap.size, 2, none⟩ = some (.bool q0) ∧ w'.cell? ⟨w.heap.size + 1, 0, none⟩ = some (.bool e0) ∧ w'.cell? ⟨w.heap.size + 1, 1, none⟩ = some (.int .u32 (n0 : Int)) ∧ w'.cell? ⟨w.heap.size + 1, 2, none⟩ = some (.bool q0) from fun u hu => (HW.out u).mono fun _ _ h => ⟨h.1, HS5.out _ (below_trans' hu.1 h.2)⟩)
  clear sx sx5 sy hb4 hb5 h4 h5 k0 HX HY HS HB
  have HLXc := HLX.out
  have HLYc := HLY.out
  cases ra
  · have hx0 : X.length = 0 := HLXc
    rw [hx0]
    clear HLXc HLYc hx0
    go_wp2_with (fail)
    refine (HL.out _ (HS5.out _ (Below.refl _ _))).mono ?_
    rintro x w6 ⟨rfl, h6⟩
    have HE := Lib.hid (HB5.out.trans (h6.1.mono HB5.out.size))
    clear h6
    go_wp2_with (fail)
    go_ret
    exact ⟨rfl, HE.out⟩
  cases rb
  · have hx0 : ((X.length : Int) == 0) = false := by rw [beq_eq_false_iff_ne]; simp at HLXc; split at HLXc <;> omega
    have hy0 : Y.length = 0 := HLYc
    rw [hy0]
    clear HLXc HLYc hy0
    go_wp2_with (fail)
    refine (HL.out _ (HS5.out _ (Below.refl _ _))).mono ?_
    rintro x w6 ⟨rfl, h6⟩
    have HE := Lib.hid (HB5.out.trans (h6.1.mono HB5.out.size))
    clear h6
    go_wp2_with (fail)
    go_ret
    exact ⟨rfl, HE.out⟩
  have hx0 : ((X.length : Int) == 0) = false := by rw [beq_eq_false_iff_ne]; simp at HLXc; split at HLXc <;> omega
  have hy0 : ((Y.length : Int) == 0) = false := by rw [beq_eq_false_iff_ne]; simp at HLYc; split at HLYc <;> omega
  have hxl32 : X.length ≤ 32 := by simp at HLXc; split at HLXc <;> omega
  clear HLXc HLYc
  go_wp2_with (fail)
  refine (HL.out _ (HS5.out _ (Below.refl _ _))).mono ?_
  rintro x w6 ⟨rfl, h6⟩
  have HE := Lib.hid (HB5.out.trans (h6.1.mono HB5.out.size))
  clear h6
  go_wp2_with (fail)
  go_ret
  exact ⟨rfl, HE.out⟩
set_option maxHeartbeats 4000000 in
theorem walk_ext (e0 : Bool) (n0 : Nat) (q0 : Bool) (n1 : Nat) (q1 : Bool) (h0 : n0 < 4294967296) (h1 : n1 < 4294967296) (w : World) :
    Calls Try.prog 6 #[asksV e0 n0 q0, asksV (!e0) n1 q1] w fun e w' => e = .returned (.bool true) ∧ Below w.heap.size w w' := by
  obtain ⟨ra, rad⟩ : ∃ b, b = rightI e0 n0 := ⟨_, rfl⟩
  obtain ⟨rb, rbd⟩ : ∃ b, b = rightI (!e0) n1 := ⟨_, rfl⟩
  unfold asksV
  go_enter Try.func6, Try.ntmps6
  go_wp2_with (fail)
  obtain ⟨wr, hwr⟩ : ∃ wr, wr = ((w.alloc (.cells #[.bool e0, .int .u32 (n0 : Int), .bool q0] 38)).alloc (.cells #[.bool (!e0), .int .u32 (n1 : Int), .bool q1] 38)) := ⟨_, rfl⟩
  have HB := Lib.hid (show Below w.heap.size w wr by rw [hwr]; exact ((Below.refl _ w).alloc (Nat.le_refl _) _).alloc (by simp) _)
  have hsz : w.heap.size + 2 ≤ wr.heap.size := by rw [hwr]; simp
  have T0 := tri_cells w (.bool e0) (.int .u32 (n0 : Int)) (.bool q0) 38
  have T1 := tri_cells (w.alloc (.cells #[.bool e0, .int .u32 (n0 : Int), .bool q0] 38)) (.bool (!e0)) (.int .u32 (n1 : Int)) (.bool q1) 38
  rw [World.size_alloc, ← hwr] at T1
  have up1 : Below (w.heap.size + 1) (w.alloc (.cells #[.bool e0, .int .u32 (n0 : Int), .bool q0] 38)) wr := by rw [hwr]; exact (Below.refl _ _).alloc (by simp) _
  have U0 : ∀ o, wr.cell? ⟨w.heap.size, o, none⟩ = (w.alloc (.cells #[.bool e0, .int .u32 (n0 : Int), .bool q0] 38)).cell? ⟨w.heap.size, o, none⟩ := fun o => up1.cell (p := ⟨w.heap.size, o, none⟩) (Nat.lt_succ_self _)
  have HS := Lib.hid (show ∀ u, Below wr.heap.size wr u → Below wr.heap.size wr u ∧ u.cell? ⟨w.heap.size, 0, none⟩ = some (.bool e0) ∧ u.cell? ⟨w.heap.size, 1, none⟩ = some (.int .u32 (n0 : Int)) ∧ u.cell? ⟨w.heap.size, 2, none⟩ = some (.bool q0) ∧ u.cell? ⟨w.heap.size + 1, 0, none⟩ = some (.bool (!e0)) ∧ u.cell? ⟨w.heap.size + 1, 1, none⟩ = some (.int .u32 (n1 : Int)) ∧ u.cell? ⟨w.heap.size + 1, 2, none⟩ = some (.bool q1) from fun u hu => ⟨hu, ((bcell2 hu).1 _ _ (by omega)).trans ((U0 0).trans T0.1), ((bcell2 hu).1 _ _ (by omega)).trans ((U0 1).trans T0.2.1), ((bcell2 hu).1 _ _ (by omega)).trans ((U0 2).trans T0.2.2), ((bcell2 hu).1 _ _ (by omega)).trans T1.1, ((bcell2 hu).1 _ _ (by omega)).trans T1.2.1, ((bcell2 hu).1 _ _ (by omega)).trans T1.2.2⟩)
  rw [← hwr]
  clear hwr T0 T1 up1 U0 hsz
  have HX := Lib.hid (show ∀ u, Below wr.heap.size wr u ∧ u.cell? ⟨w.heap.size, 0, none⟩ = some (.bool e0) ∧ u.cell? ⟨w.heap.size, 1, none⟩ = some (.int .u32 (n0 : Int)) ∧ u.cell? ⟨w.heap.size, 2, none⟩ = some (.bool q0) ∧ u.cell? ⟨w.heap.size + 1, 0, none⟩ = some (.bool (!e0)) ∧ u.cell? ⟨w.heap.size + 1, 1, none⟩ = some (.int .u32 (n1 : Int)) ∧ u.cell? ⟨w.heap.size + 1, 2, none⟩ = some (.bool q1) → Calls Try.prog 16 #[.agg #[.bool e0, .int .u32 (n0 : Int)], .bool q0] u fun x w' => ∃ a c, x = .returned (.slice a (idBits e0 n0 q0).length c) ∧ Str w'.heap.size w' (.slice a (idBits e0 n0 q0).length c) (idBits e0 n0 q0) ∧ Below u.heap.size u w' ∧ Below wr.heap.size wr w' ∧ w'.cell? ⟨w.heap.size, 0, none⟩ = some (.bool e0) ∧ w'.cell? ⟨w.heap.size, 1, none⟩ = some (.int .u32 (n0 : Int)) ∧ w'.cell? ⟨w.heap.size, 2, none⟩ = some (.bool q0) ∧ w'.cell? ⟨w.heap.size + 1, 0, none⟩ = some (.bool (!e0)) ∧ w'.cell? ⟨w.heap.size + 1, 1, none⟩ = some (.int .u32 (n1 : Int)) ∧ w'.cell? ⟨w.heap.size + 1, 2, none⟩ = some (.bool q1) from fun u hu => (idbits_any e0 n0 q0 h0 u).mono (by
    rintro x w' ⟨v, rfl, ho, hb⟩
    obtain ⟨a, c, rfl⟩ := ho.shape
    exact ⟨a, c, rfl, ho.str, hb, HS.out _ (below_trans' hu.1 hb)⟩))
  have HY := Lib.hid (show ∀ u, Below wr.heap.size wr u ∧ u.cell? ⟨w.heap.size, 0, none⟩ = some (.bool e0) ∧ u.cell? ⟨w.heap.size, 1, none⟩ = some (.int .u32 (n0 : Int)) ∧ u.cell? ⟨w.heap.size, 2, none⟩ = some (.bool q0) ∧ u.cell? ⟨w.heap.size + 1, 0, none⟩ = some (.bool (!e0)) ∧ u.cell? ⟨w.heap.size + 1, 1, none⟩ = some (.int .u32 (n1 : Int)) ∧ u.cell? ⟨w.heap.size + 1, 2, none⟩ = some (.bool q1) → Calls Try.prog 16 #[.agg #[.bool (!e0), .int .u32 (n1 : Int)], .bool q1] u fun x w' => ∃ a c, x = .returned (.slice a (idBits (!e0) n1 q1).length c) ∧ Str w'.heap.size w' (.slice a (idBits (!e0) n1 q1).length c) (idBits (!e0) n1 q1) ∧ Below u.heap.size u w' ∧ Below wr.heap.size wr w' ∧ w'.cell? ⟨w.heap.size, 0, none⟩ = some (.bool e0) ∧ w'.cell? ⟨w.heap.size, 1, none⟩ = some (.int .u32 (n0 : Int)) ∧ w'.cell? ⟨w.heap.size, 2, none⟩ = some (.bool q0) ∧ w'.cell? ⟨w.heap.size + 1, 0, none⟩ = some (.bool (!e0)) ∧ w'.cell? ⟨w.heap.size + 1, 1, none⟩ = some (.int .u32 (n1 : Int)) ∧ w'.cell? ⟨w.heap.size + 1, 2, none⟩ = some (.bool q1) from fun u hu => (idbits_any (!e0) n1 q1 h1 u).mono (by
    rintro x w' ⟨v, rfl, ho, hb⟩
    obtain ⟨a, c, rfl⟩ := ho.shape
    exact ⟨a, c, rfl, ho.str, hb, HS.out _ (below_trans' hu.1 hb)⟩))
  have HW := Lib.hid (fun u => wins_any e0 n0 q0 (!e0) n1 q1 h0 h1 u)
  obtain ⟨b, hbd⟩ : ∃ b, b = winsI e0 n0 q0 (!e0) n1 q1 := ⟨_, rfl⟩
  rw [← hbd] at HW
  unfold identV at HW
  have HFW := Lib.hid (fun i (a : ra = true) (b : rb = true) => first_wins (e := e0) (n := n0) (r := q0) (f := (!e0)) (m := n1) (s := q1) (i := i) (rad.symm.trans a) (rbd.symm.trans b))
  have HSM := Lib.hid (fun (a : ra = true) (b : rb = true) => idBits_same (e := e0) (n := n0) (r := q0) (f := (!e0)) (m := n1) (s := q1) (rad.symm.trans a) (rbd.symm.trans b))
  rw [← hbd] at HFW
  have HLX := Lib.hid (show (idBits e0 n0 q0).length = if ra then (if e0 then 32 else 13) else 0 by
    cases hr : ra
    · unfold idBits; rw [← rad, hr]; rfl
    · rw [idBits_length e0 n0 q0 (rad.symm.trans hr)]; rfl)
  have HLY := Lib.hid (show (idBits (!e0) n1 q1).length = if rb then (if (!e0) then 32 else 13) else 0 by
    cases hr : rb
    · unfold idBits; rw [← rbd, hr]; rfl
    · rw [idBits_length (!e0) n1 q1 (rbd.symm.trans hr)]; rfl)
  have HLE := Lib.hid (show ∀ x ∈ idBits e0 n0 q0, x ≤ 1 from idBits_le _ _ _)
  obtain ⟨X, hX⟩ : ∃ X, X = idBits e0 n0 q0 := ⟨_, rfl⟩
  obtain ⟨Y, hY⟩ : ∃ Y, Y = idBits (!e0) n1 q1 := ⟨_, rfl⟩
  rw [← hX] at HX HLX HLE
  rw [← hY] at HY HLY
  first | rw [← hX, ← hY] at HFW HSM | rw [← hX] at HFW HSM
  clear h0 h1 rad rbd hbd hX hY
  have k0 := HS.out _ (Below.refl wr.heap.size wr).drew
  go_region_held3 (fun w' => Below wr.heap.size wr w' ∧ w'.cell? ⟨w.heap.size, 0, none⟩ = some (.bool e0) ∧ w'.cell? ⟨w.heap.size, 1, none⟩ = some (.int .u32 (n0 : Int)) ∧ w'.cell? ⟨w.heap.size, 2, none⟩ = some (.bool q0) ∧ w'.cell? ⟨w.heap.size + 1, 0, none⟩ = some (.bool (!e0)) ∧ w'.cell? ⟨w.heap.size + 1, 1, none⟩ = some (.int .u32 (n1 : Int)) ∧ w'.cell? ⟨w.heap.size + 1, 2, none⟩ = some (.bool q1)) (assumption) (first | (go_at_call 16; have gg := h4; clear gg; refine (HY.out _ (by assumption)).mono ?_; rintro x w5 ⟨ay, cy, rfl, sy, hb5, h5⟩; have sx5 := sx.on hb5) | (go_at_call 16; refine (HX.out _ (by assumption)).mono ?_; rintro x w4 ⟨ax, cx, rfl, sx, hb4, h4⟩))
  have SX := Lib.hid sx5
  have SY := Lib.hid sy
  have HB5 := Lib.hid (HB.out.trans (h5.1.mono HB.out.size))
  have hz5 : w.heap.size + 2 ≤ w5.heap.size := by have := h5.2.2.2.2.2.2; have := cell_lt h5.2.2.2.2.1; have h := h5.1.size; have h2 : w.heap.size + 1 < w5.heap.size := this; omega
  have C5 := h5.2
  have HC5 := Lib.hid C5
  have HS5 := Lib.hid (show ∀ u, Below w5.heap.size w5 u → Below w5.heap.size w5 u ∧ u.cell? ⟨w.heap.size, 0, none⟩ = some (.bool e0) ∧ u.cell? ⟨w.heap.size, 1, none⟩ = some (.int .u32 (n0 : Int)) ∧ u.cell? ⟨w.heap.size, 2, none⟩ = some (.bool q0) ∧ u.cell? ⟨w.heap.size + 1, 0, none⟩ = some (.bool (!e0)) ∧ u.cell? ⟨w.heap.size + 1, 1, none⟩ = some (.int .u32 (n1 : Int)) ∧ u.cell? ⟨w.heap.size + 1, 2, none⟩ = some (.bool q1) from fun u hu => ⟨hu, ((bcell2 hu).1 _ _ (by omega)).trans HC5.out.1, ((bcell2 hu).1 _ _ (by omega)).trans HC5.out.2.1, ((bcell2 hu).1 _ _ (by omega)).trans HC5.out.2.2.1, ((bcell2 hu).1 _ _ (by omega)).trans HC5.out.2.2.2.1, ((bcell2 hu).1 _ _ (by omega)).trans HC5.out.2.2.2.2.1, ((bcell2 hu).1 _ _ (by omega)).trans HC5.out.2.2.2.2.2⟩)
  have HL := Lib.hid (show ∀ u, Below w5.heap.size w5 u ∧ u.cell? ⟨w.heap.size, 0, none⟩ = some (.bool e0) ∧ u.cell? ⟨w.heap.size, 1, none⟩ = some (.int .u32 (n0 : Int)) ∧ u.cell? ⟨w.heap.size, 2, none⟩ = some (.bool q0) ∧ u.cell? ⟨w.heap.size + 1, 0, none⟩ = some (.bool (!e0)) ∧ u.cell? ⟨w.heap.size + 1, 1, none⟩ = some (.int .u32 (n1 : Int)) ∧ u.cell? ⟨w.heap.size + 1, 2, none⟩ = some (.bool q1) → Calls Try.prog 8 #[] u fun x w' => x = .returned (.bool true) ∧ Below w5.heap.size w5 w' ∧ w'.cell? ⟨w.heap.size, 0, none⟩ = some (.bool e0) ∧ w'.cell? ⟨w.heap.size, 1, none⟩ = some (.int .u32 (n0 : Int)) ∧ w'.cell? ⟨w.heap.size, 2, none⟩ = some (.bool q0) ∧ w'.cell? ⟨w.heap.size + 1, 0, none⟩ = some (.bool (!e0)) ∧ w'.cell? ⟨w.heap.size + 1, 1, none⟩ = some (.int .u32 (n1 : Int)) ∧ w'.cell? ⟨w.heap.size + 1, 2, none⟩ = some (.bool q1) from fun u hu => (live5 u).mono fun _ _ h => ⟨h.1, HS5.out _ (below_trans' hu.1 h.2)⟩)
  have HW := Lib.hid (show ∀ u, Below w5.heap.size w5 u ∧ u.cell? ⟨w.heap.size, 0, none⟩ = some (.bool e0) ∧ u.cell? ⟨w.heap.size, 1, none⟩ = some (.int .u32 (n0 : Int)) ∧ u.cell? ⟨w.heap.size, 2, none⟩ = some (.bool q0) ∧ u.cell? ⟨w.heap.size + 1, 0, none⟩ = some (.bool (!e0)) ∧ u.cell? ⟨w.heap.size + 1, 1, none⟩ = some (.int .u32 (n1 : Int)) ∧ u.cell? ⟨w.heap.size + 1, 2, none⟩ = some (.bool q1) → Calls Try.prog 22 _ u fun x w' => x = .returned (.bool b) ∧ Below w5.heap.size w5 w' ∧ w'.cell? ⟨w.heap.size, 0, none⟩ = some (.bool e0) ∧ w'.cell? ⟨w.heap.size, 1, none⟩ = some (.int .u32 (n0 : Int)) ∧ w'.cell? ⟨w.heap.size, 2, none⟩ = some (.bool q0) ∧ w'.cell? ⟨w.heap.size + 1, 0, none⟩ = some (.bool (!e0)) ∧ w'.cell? ⟨w.heap.size + 1, 1, none⟩ = some (.int .u32 (n1 : Int)) ∧ w'.cell? ⟨w.heap.size + 1, 2, none⟩ = some (.bool q1) from fun u hu => (HW.out u).mono fun _ _ h => ⟨h.1, HS5.out _ (below_trans' hu.1 h.2)⟩)
  clear sx sx5 sy hb4 hb5 h4 h5 k0 HX HY HS HB
  have HLXc := HLX.out
  have HLYc := HLY.out
  cases ra
  · have hx0 : X.length = 0 := HLXc
    rw [hx0]
    clear HLXc HLYc hx0
    go_wp2_with (fail)
    refine (HL.out _ (HS5.out _ (Below.refl _ _))).mono ?_
    rintro x w6 ⟨rfl, h6⟩
    have HE := Lib.hid (HB5.out.trans (h6.1.mono HB5.out.size))
    clear h6
    go_wp2_with (fail)
    go_ret
    exact ⟨rfl, HE.out⟩
  cases rb
  · have hx0 : ((X.length : Int) == 0) = false := by rw [beq_eq_false_iff_ne]; simp at HLXc; split at HLXc <;> omega
    have hy0 : Y.length = 0 := HLYc
    rw [hy0]
    clear HLXc HLYc hy0
    go_wp2_with (fail)
    refine (HL.out _ (HS5.out _ (Below.refl _ _))).mono ?_
    rintro x w6 ⟨rfl, h6⟩
    have HE := Lib.hid (HB5.out.trans (h6.1.mono HB5.out.size))
    clear h6
    go_wp2_with (fail)
    go_ret
    exact ⟨rfl, HE.out⟩
  have hx0 : ((X.length : Int) == 0) = false := by rw [beq_eq_false_iff_ne]; simp at HLXc; split at HLXc <;> omega
  have hy0 : ((Y.length : Int) == 0) = false := by rw [beq_eq_false_iff_ne]; simp at HLYc; split at HLYc <;> omega
  have hxl32 : X.length ≤ 32 := by simp at HLXc; split at HLXc <;> omega
  clear HLXc HLYc
  have hne0 : ¬ (e0 = (!e0) ∧ n0 = n1 ∧ q0 = q1) := fun h => by have := h.1; cases e0 <;> cases this
  go_wp2_with (fail)
  clear C5
  go_loopw [7] (fun i wr => ∃ j : Nat, i = .int .i64 j ∧ j ≤ X.length ∧ j ≤ Y.length ∧ (∀ k, k < j → X[k]?.getD 0 = Y[k]?.getD 0) ∧ Below w5.heap.size w5 wr) (fun i _ => X.length - (intOf i).toNat)
  case atStart => exact ⟨0, rfl, Nat.zero_le _, Nat.zero_le _, fun k hk => by omega, Below.refl _ _⟩
  case round =>
    obtain ⟨j, rfl, hjx, hjy, hpre, hbel⟩ := hrel
    have HPRE := Lib.hid hpre; have HBR := Lib.hid hbel
    clear hpre hbel
    have i0 : (0 : Int) ≤ (j : Int) := by omega
    by_cases hlx : j < X.length
    · by_cases hly : j < Y.length
      · obtain ⟨bx, ox, rfl, hbx, cx'⟩ := SX.out.at hlx
        obtain ⟨by', oy, rfl, hby, cy'⟩ := SY.out.at hly
        have CX := Lib.hid cx'; have CY := Lib.hid cy'
        obtain ⟨x, hx⟩ : ∃ x, x = X[j]?.getD 0 := ⟨_, rfl⟩
        obtain ⟨y, hy⟩ : ∃ y, y = Y[j]?.getD 0 := ⟨_, rfl⟩
        rw [← hx] at CX
        rw [← hy] at CY
        have ix : (j : Int) < (X.length : Int) := by omega
        have iy : (j : Int) < (Y.length : Int) := by omega
        have HXE := Lib.hid hx; have HYE := Lib.hid hy
        clear cx' cy' hx hy
        have k7 : (Below w5.heap.size w5 wr.drew ∧ wr.drew.cell? ⟨bx, ox + j, none⟩ = some (.int .u8 (x : Int)) ∧ wr.drew.cell? ⟨by', oy + j, none⟩ = some (.int .u8 (y : Int))) := ⟨HBR.out.drew, CX.out _ HBR.out.drew, CY.out _ HBR.out.drew⟩
        by_cases hxy : x = y
        · have hne : ((x : Int) != (y : Int)) = false := by rw [hxy]; simp
          have HN := Lib.hid (show ∀ k, k < j + 1 → X[k]?.getD 0 = Y[k]?.getD 0 from fun k hk => by
            by_cases e : k = j
            · rw [e, ← HXE.out, ← HYE.out]; exact hxy
            · exact HPRE.out k (by omega))
          clear hxy
          go_wp2_with (fail)
          go_region_held3 (fun w' => Below w5.heap.size w5 w' ∧ w'.cell? ⟨bx, ox + j, none⟩ = some (.int .u8 (x : Int)) ∧ w'.cell? ⟨by', oy + j, none⟩ = some (.int .u8 (y : Int))) (assumption) (fail)
          clear k7
          have HBD := Lib.hid HBR.out.drew
          go_wp2_with (fail)
          go_roundw
          case rel => exact ⟨j + 1, by simp, by omega, by omega, HN.out, HBD.out⟩
          case measure => simp [intOf]; omega
        · have hne : ((x : Int) != (y : Int)) = true := by rw [bne_iff_ne]; omega
          have hw := HFW.out j (by trivial) (by trivial) hlx hly HPRE.out (by rw [← HXE.out, ← HYE.out]; exact hxy)
          rw [← HXE.out] at hw
          have hbx0 : ((x : Int) == 0) = b := by rw [hw, Bool.eq_iff_iff]; simp
          have hbb : (b == b) = true := by simp
          clear hxy hw
          go_wp2_with (fail)
          go_region_held3 (fun w' => Below w5.heap.size w5 w' ∧ w'.cell? ⟨bx, ox + j, none⟩ = some (.int .u8 (x : Int)) ∧ w'.cell? ⟨by', oy + j, none⟩ = some (.int .u8 (y : Int))) (assumption) (fail)
          clear k7
          have HBD := Lib.hid HBR.out.drew
          go_wp2_with (fail)
          have k8 := HS5.out _ HBD.out.drew
          have k9 := CX.out _ HBD.out.drew
          have HL8 := Lib.hid (show ∀ u, ((Below w5.heap.size w5 u ∧ u.cell? ⟨w.heap.size, 0, none⟩ = some (.bool e0) ∧ u.cell? ⟨w.heap.size, 1, none⟩ = some (.int .u32 (n0 : Int)) ∧ u.cell? ⟨w.heap.size, 2, none⟩ = some (.bool q0) ∧ u.cell? ⟨w.heap.size + 1, 0, none⟩ = some (.bool (!e0)) ∧ u.cell? ⟨w.heap.size + 1, 1, none⟩ = some (.int .u32 (n1 : Int)) ∧ u.cell? ⟨w.heap.size + 1, 2, none⟩ = some (.bool q1)) ∧ u.cell? ⟨bx, ox + j, none⟩ = some (.int .u8 (x : Int))) → Calls Try.prog 8 #[] u fun x' w' => x' = .returned (.bool true) ∧ ((Below w5.heap.size w5 w' ∧ w'.cell? ⟨w.heap.size, 0, none⟩ = some (.bool e0) ∧ w'.cell? ⟨w.heap.size, 1, none⟩ = some (.int .u32 (n0 : Int)) ∧ w'.cell? ⟨w.heap.size, 2, none⟩ = some (.bool q0) ∧ w'.cell? ⟨w.heap.size + 1, 0, none⟩ = some (.bool (!e0)) ∧ w'.cell? ⟨w.heap.size + 1, 1, none⟩ = some (.int .u32 (n1 : Int)) ∧ w'.cell? ⟨w.heap.size + 1, 2, none⟩ = some (.bool q1)) ∧ w'.cell? ⟨bx, ox + j, none⟩ = some (.int .u8 (x : Int))) from fun u hu => (HL.out u hu.1).mono fun _ _ h => ⟨h.1, h.2, CX.out _ h.2.1⟩)
          have HW8 := Lib.hid (show ∀ u, ((Below w5.heap.size w5 u ∧ u.cell? ⟨w.heap.size, 0, none⟩ = some (.bool e0) ∧ u.cell? ⟨w.heap.size, 1, none⟩ = some (.int .u32 (n0 : Int)) ∧ u.cell? ⟨w.heap.size, 2, none⟩ = some (.bool q0) ∧ u.cell? ⟨w.heap.size + 1, 0, none⟩ = some (.bool (!e0)) ∧ u.cell? ⟨w.heap.size + 1, 1, none⟩ = some (.int .u32 (n1 : Int)) ∧ u.cell? ⟨w.heap.size + 1, 2, none⟩ = some (.bool q1)) ∧ u.cell? ⟨bx, ox + j, none⟩ = some (.int .u8 (x : Int))) → Calls Try.prog 22 _ u fun x' w' => x' = .returned (.bool b) ∧ ((Below w5.heap.size w5 w' ∧ w'.cell? ⟨w.heap.size, 0, none⟩ = some (.bool e0) ∧ w'.cell? ⟨w.heap.size, 1, none⟩ = some (.int .u32 (n0 : Int)) ∧ w'.cell? ⟨w.heap.size, 2, none⟩ = some (.bool q0) ∧ w'.cell? ⟨w.heap.size + 1, 0, none⟩ = some (.bool (!e0)) ∧ w'.cell? ⟨w.heap.size + 1, 1, none⟩ = some (.int .u32 (n1 : Int)) ∧ w'.cell? ⟨w.heap.size + 1, 2, none⟩ = some (.bool q1)) ∧ w'.cell? ⟨bx, ox + j, none⟩ = some (.int .u8 (x : Int))) from fun u hu => (HW.out u hu.1).mono fun _ _ h => ⟨h.1, h.2, CX.out _ h.2.1⟩)
          have k10 : ((Below w5.heap.size w5 wr.drew.drew ∧ wr.drew.drew.cell? ⟨w.heap.size, 0, none⟩ = some (.bool e0) ∧ wr.drew.drew.cell? ⟨w.heap.size, 1, none⟩ = some (.int .u32 (n0 : Int)) ∧ wr.drew.drew.cell? ⟨w.heap.size, 2, none⟩ = some (.bool q0) ∧ wr.drew.drew.cell? ⟨w.heap.size + 1, 0, none⟩ = some (.bool (!e0)) ∧ wr.drew.drew.cell? ⟨w.heap.size + 1, 1, none⟩ = some (.int .u32 (n1 : Int)) ∧ wr.drew.drew.cell? ⟨w.heap.size + 1, 2, none⟩ = some (.bool q1)) ∧ wr.drew.drew.cell? ⟨bx, ox + j, none⟩ = some (.int .u8 (x : Int))) := ⟨k8, k9⟩
          go_region_held3 (fun w' => (Below w5.heap.size w5 w' ∧ w'.cell? ⟨w.heap.size, 0, none⟩ = some (.bool e0) ∧ w'.cell? ⟨w.heap.size, 1, none⟩ = some (.int .u32 (n0 : Int)) ∧ w'.cell? ⟨w.heap.size, 2, none⟩ = some (.bool q0) ∧ w'.cell? ⟨w.heap.size + 1, 0, none⟩ = some (.bool (!e0)) ∧ w'.cell? ⟨w.heap.size + 1, 1, none⟩ = some (.int .u32 (n1 : Int)) ∧ w'.cell? ⟨w.heap.size + 1, 2, none⟩ = some (.bool q1)) ∧ w'.cell? ⟨bx, ox + j, none⟩ = some (.int .u8 (x : Int))) (assumption) (first | (go_at_call 8; refine (HL8.out _ (by assumption)).mono ?_; rintro x' w8 ⟨rfl, h8⟩) | (go_at_call 22; refine (HW8.out _ (by assumption)).mono ?_; rintro x' w9 ⟨rfl, h9⟩))
          have HE := Lib.hid (HB5.out.trans (h9.1.1.mono HB5.out.size))
          clear h8 h9 k8 k9 k10
          go_wp2_with (fail)
          go_ret
          exact ⟨rfl, HE.out⟩
      · exfalso
        exact hne0 (HSM.out (by trivial) (by trivial) (fun i a b => HPRE.out i (by omega)))
    · exfalso
      exact hne0 (HSM.out (by trivial) (by trivial) (fun i a b => HPRE.out i (by omega)))
set_option maxHeartbeats 4000000 in
theorem walk_num (e0 : Bool) (n0 : Nat) (q0 : Bool) (n1 : Nat) (q1 : Bool) (hn : n0 ≠ n1) (h0 : n0 < 4294967296) (h1 : n1 < 4294967296) (w : World) :
    Calls Try.prog 6 #[asksV e0 n0 q0, asksV e0 n1 q1] w fun e w' => e = .returned (.bool true) ∧ Below w.heap.size w w' := by
  obtain ⟨ra, rad⟩ : ∃ b, b = rightI e0 n0 := ⟨_, rfl⟩
  obtain ⟨rb, rbd⟩ : ∃ b, b = rightI e0 n1 := ⟨_, rfl⟩
  unfold asksV
  go_enter Try.func6, Try.ntmps6
  go_wp2_with (fail)
  obtain ⟨wr, hwr⟩ : ∃ wr, wr = ((w.alloc (.cells #[.bool e0, .int .u32 (n0 : Int), .bool q0] 38)).alloc (.cells #[.bool e0, .int .u32 (n1 : Int), .bool q1] 38)) := ⟨_, rfl⟩
  have HB := Lib.hid (show Below w.heap.size w wr by rw [hwr]; exact ((Below.refl _ w).alloc (Nat.le_refl _) _).alloc (by simp) _)
  have hsz : w.heap.size + 2 ≤ wr.heap.size := by rw [hwr]; simp
  have T0 := tri_cells w (.bool e0) (.int .u32 (n0 : Int)) (.bool q0) 38
  have T1 := tri_cells (w.alloc (.cells #[.bool e0, .int .u32 (n0 : Int), .bool q0] 38)) (.bool e0) (.int .u32 (n1 : Int)) (.bool q1) 38
  rw [World.size_alloc, ← hwr] at T1
  have up1 : Below (w.heap.size + 1) (w.alloc (.cells #[.bool e0, .int .u32 (n0 : Int), .bool q0] 38)) wr := by rw [hwr]; exact (Below.refl _ _).alloc (by simp) _
  have U0 : ∀ o, wr.cell? ⟨w.heap.size, o, none⟩ = (w.alloc (.cells #[.bool e0, .int .u32 (n0 : Int), .bool q0] 38)).cell? ⟨w.heap.size, o, none⟩ := fun o => up1.cell (p := ⟨w.heap.size, o, none⟩) (Nat.lt_succ_self _)
  have HS := Lib.hid (show ∀ u, Below wr.heap.size wr u → Below wr.heap.size wr u ∧ u.cell? ⟨w.heap.size, 0, none⟩ = some (.bool e0) ∧ u.cell? ⟨w.heap.size, 1, none⟩ = some (.int .u32 (n0 : Int)) ∧ u.cell? ⟨w.heap.size, 2, none⟩ = some (.bool q0) ∧ u.cell? ⟨w.heap.size + 1, 0, none⟩ = some (.bool e0) ∧ u.cell? ⟨w.heap.size + 1, 1, none⟩ = some (.int .u32 (n1 : Int)) ∧ u.cell? ⟨w.heap.size + 1, 2, none⟩ = some (.bool q1) from fun u hu => ⟨hu, ((bcell2 hu).1 _ _ (by omega)).trans ((U0 0).trans T0.1), ((bcell2 hu).1 _ _ (by omega)).trans ((U0 1).trans T0.2.1), ((bcell2 hu).1 _ _ (by omega)).trans ((U0 2).trans T0.2.2), ((bcell2 hu).1 _ _ (by omega)).trans T1.1, ((bcell2 hu).1 _ _ (by omega)).trans T1.2.1, ((bcell2 hu).1 _ _ (by omega)).trans T1.2.2⟩)
  rw [← hwr]
  clear hwr T0 T1 up1 U0 hsz
  have HX := Lib.hid (show ∀ u, Below wr.heap.size wr u ∧ u.cell? ⟨w.heap.size, 0, none⟩ = some (.bool e0) ∧ u.cell? ⟨w.heap.size, 1, none⟩ = some (.int .u32 (n0 : Int)) ∧ u.cell? ⟨w.heap.size, 2, none⟩ = some (.bool q0) ∧ u.cell? ⟨w.heap.size + 1, 0, none⟩ = some (.bool e0) ∧ u.cell? ⟨w.heap.size + 1, 1, none⟩ = some (.int .u32 (n1 : Int)) ∧ u.cell? ⟨w.heap.size + 1, 2, none⟩ = some (.bool q1) → Calls Try.prog 16 #[.agg #[.bool e0, .int .u32 (n0 : Int)], .bool q0] u fun x w' => ∃ a c, x = .returned (.slice a (idBits e0 n0 q0).length c) ∧ Str w'.heap.size w' (.slice a (idBits e0 n0 q0).length c) (idBits e0 n0 q0) ∧ Below u.heap.size u w' ∧ Below wr.heap.size wr w' ∧ w'.cell? ⟨w.heap.size, 0, none⟩ = some (.bool e0) ∧ w'.cell? ⟨w.heap.size, 1, none⟩ = some (.int .u32 (n0 : Int)) ∧ w'.cell? ⟨w.heap.size, 2, none⟩ = some (.bool q0) ∧ w'.cell? ⟨w.heap.size + 1, 0, none⟩ = some (.bool e0) ∧ w'.cell? ⟨w.heap.size + 1, 1, none⟩ = some (.int .u32 (n1 : Int)) ∧ w'.cell? ⟨w.heap.size + 1, 2, none⟩ = some (.bool q1) from fun u hu => (idbits_any e0 n0 q0 h0 u).mono (by
    rintro x w' ⟨v, rfl, ho, hb⟩
    obtain ⟨a, c, rfl⟩ := ho.shape
    exact ⟨a, c, rfl, ho.str, hb, HS.out _ (below_trans' hu.1 hb)⟩))
  have HY := Lib.hid (show ∀ u, Below wr.heap.size wr u ∧ u.cell? ⟨w.heap.size, 0, none⟩ = some (.bool e0) ∧ u.cell? ⟨w.heap.size, 1, none⟩ = some (.int .u32 (n0 : Int)) ∧ u.cell? ⟨w.heap.size, 2, none⟩ = some (.bool q0) ∧ u.cell? ⟨w.heap.size + 1, 0, none⟩ = some (.bool e0) ∧ u.cell? ⟨w.heap.size + 1, 1, none⟩ = some (.int .u32 (n1 : Int)) ∧ u.cell? ⟨w.heap.size + 1, 2, none⟩ = some (.bool q1) → Calls Try.prog 16 #[.agg #[.bool e0, .int .u32 (n1 : Int)], .bool q1] u fun x w' => ∃ a c, x = .returned (.slice a (idBits e0 n1 q1).length c) ∧ Str w'.heap.size w' (.slice a (idBits e0 n1 q1).length c) (idBits e0 n1 q1) ∧ Below u.heap.size u w' ∧ Below wr.heap.size wr w' ∧ w'.cell? ⟨w.heap.size, 0, none⟩ = some (.bool e0) ∧ w'.cell? ⟨w.heap.size, 1, none⟩ = some (.int .u32 (n0 : Int)) ∧ w'.cell? ⟨w.heap.size, 2, none⟩ = some (.bool q0) ∧ w'.cell? ⟨w.heap.size + 1, 0, none⟩ = some (.bool e0) ∧ w'.cell? ⟨w.heap.size + 1, 1, none⟩ = some (.int .u32 (n1 : Int)) ∧ w'.cell? ⟨w.heap.size + 1, 2, none⟩ = some (.bool q1) from fun u hu => (idbits_any e0 n1 q1 h1 u).mono (by
    rintro x w' ⟨v, rfl, ho, hb⟩
    obtain ⟨a, c, rfl⟩ := ho.shape
    exact ⟨a, c, rfl, ho.str, hb, HS.out _ (below_trans' hu.1 hb)⟩))
  have HW := Lib.hid (fun u => wins_any e0 n0 q0 e0 n1 q1 h0 h1 u)
  obtain ⟨b, hbd⟩ : ∃ b, b = winsI e0 n0 q0 e0 n1 q1 := ⟨_, rfl⟩
  rw [← hbd] at HW
  unfold identV at HW
  have HFW := Lib.hid (fun i (a : ra = true) (b : rb = true) => first_wins (e := e0) (n := n0) (r := q0) (f := e0) (m := n1) (s := q1) (i := i) (rad.symm.trans a) (rbd.symm.trans b))
  have HSM := Lib.hid (fun (a : ra = true) (b : rb = true) => idBits_same (e := e0) (n := n0) (r := q0) (f := e0) (m := n1) (s := q1) (rad.symm.trans a) (rbd.symm.trans b))
  rw [← hbd] at HFW
  have HLX := Lib.hid (show (idBits e0 n0 q0).length = if ra then (if e0 then 32 else 13) else 0 by
    cases hr : ra
    · unfold idBits; rw [← rad, hr]; rfl
    · rw [idBits_length e0 n0 q0 (rad.symm.trans hr)]; rfl)
  have HLY := Lib.hid (show (idBits e0 n1 q1).length = if rb then (if e0 then 32 else 13) else 0 by
    cases hr : rb
    · unfold idBits; rw [← rbd, hr]; rfl
    · rw [idBits_length e0 n1 q1 (rbd.symm.trans hr)]; rfl)
  have HLE := Lib.hid (show ∀ x ∈ idBits e0 n0 q0, x ≤ 1 from idBits_le _ _ _)
  obtain ⟨X, hX⟩ : ∃ X, X = idBits e0 n0 q0 := ⟨_, rfl⟩
  obtain ⟨Y, hY⟩ : ∃ Y, Y = idBits e0 n1 q1 := ⟨_, rfl⟩
  rw [← hX] at HX HLX HLE
  rw [← hY] at HY HLY
  first | rw [← hX, ← hY] at HFW HSM | rw [← hX] at HFW HSM
  clear h0 h1 rad rbd hbd hX hY
  have k0 := HS.out _ (Below.refl wr.heap.size wr).drew
  go_region_held3 (fun w' => Below wr.heap.size wr w' ∧ w'.cell? ⟨w.heap.size, 0, none⟩ = some (.bool e0) ∧ w'.cell? ⟨w.heap.size, 1, none⟩ = some (.int .u32 (n0 : Int)) ∧ w'.cell? ⟨w.heap.size, 2, none⟩ = some (.bool q0) ∧ w'.cell? ⟨w.heap.size + 1, 0, none⟩ = some (.bool e0) ∧ w'.cell? ⟨w.heap.size + 1, 1, none⟩ = some (.int .u32 (n1 : Int)) ∧ w'.cell? ⟨w.heap.size + 1, 2, none⟩ = some (.bool q1)) (assumption) (first | (go_at_call 16; have gg := h4; clear gg; refine (HY.out _ (by assumption)).mono ?_; rintro x w5 ⟨ay, cy, rfl, sy, hb5, h5⟩; have sx5 := sx.on hb5) | (go_at_call 16; refine (HX.out _ (by assumption)).mono ?_; rintro x w4 ⟨ax, cx, rfl, sx, hb4, h4⟩))
  have SX := Lib.hid sx5
  have SY := Lib.hid sy
  have HB5 := Lib.hid (HB.out.trans (h5.1.mono HB.out.size))
  have hz5 : w.heap.size + 2 ≤ w5.heap.size := by have := h5.2.2.2.2.2.2; have := cell_lt h5.2.2.2.2.1; have h := h5.1.size; have h2 : w.heap.size + 1 < w5.heap.size := this; omega
  have C5 := h5.2
  have HC5 := Lib.hid C5
  have HS5 := Lib.hid (show ∀ u, Below w5.heap.size w5 u → Below w5.heap.size w5 u ∧ u.cell? ⟨w.heap.size, 0, none⟩ = some (.bool e0) ∧ u.cell? ⟨w.heap.size, 1, none⟩ = some (.int .u32 (n0 : Int)) ∧ u.cell? ⟨w.heap.size, 2, none⟩ = some (.bool q0) ∧ u.cell? ⟨w.heap.size + 1, 0, none⟩ = some (.bool e0) ∧ u.cell? ⟨w.heap.size + 1, 1, none⟩ = some (.int .u32 (n1 : Int)) ∧ u.cell? ⟨w.heap.size + 1, 2, none⟩ = some (.bool q1) from fun u hu => ⟨hu, ((bcell2 hu).1 _ _ (by omega)).trans HC5.out.1, ((bcell2 hu).1 _ _ (by omega)).trans HC5.out.2.1, ((bcell2 hu).1 _ _ (by omega)).trans HC5.out.2.2.1, ((bcell2 hu).1 _ _ (by omega)).trans HC5.out.2.2.2.1, ((bcell2 hu).1 _ _ (by omega)).trans HC5.out.2.2.2.2.1, ((bcell2 hu).1 _ _ (by omega)).trans HC5.out.2.2.2.2.2⟩)
  have HL := Lib.hid (show ∀ u, Below w5.heap.size w5 u ∧ u.cell? ⟨w.heap.size, 0, none⟩ = some (.bool e0) ∧ u.cell? ⟨w.heap.size, 1, none⟩ = some (.int .u32 (n0 : Int)) ∧ u.cell? ⟨w.heap.size, 2, none⟩ = some (.bool q0) ∧ u.cell? ⟨w.heap.size + 1, 0, none⟩ = some (.bool e0) ∧ u.cell? ⟨w.heap.size + 1, 1, none⟩ = some (.int .u32 (n1 : Int)) ∧ u.cell? ⟨w.heap.size + 1, 2, none⟩ = some (.bool q1) → Calls Try.prog 8 #[] u fun x w' => x = .returned (.bool true) ∧ Below w5.heap.size w5 w' ∧ w'.cell? ⟨w.heap.size, 0, none⟩ = some (.bool e0) ∧ w'.cell? ⟨w.heap.size, 1, none⟩ = some (.int .u32 (n0 : Int)) ∧ w'.cell? ⟨w.heap.size, 2, none⟩ = some (.bool q0) ∧ w'.cell? ⟨w.heap.size + 1, 0, none⟩ = some (.bool e0) ∧ w'.cell? ⟨w.heap.size + 1, 1, none⟩ = some (.int .u32 (n1 : Int)) ∧ w'.cell? ⟨w.heap.size + 1, 2, none⟩ = some (.bool q1) from fun u hu => (live5 u).mono fun _ _ h => ⟨h.1, HS5.out _ (below_trans' hu.1 h.2)⟩)
  have HW := Lib.hid (show ∀ u, Below w5.heap.size w5 u ∧ u.cell? ⟨w.heap.size, 0, none⟩ = some (.bool e0) ∧ u.cell? ⟨w.heap.size, 1, none⟩ = some (.int .u32 (n0 : Int)) ∧ u.cell? ⟨w.heap.size, 2, none⟩ = some (.bool q0) ∧ u.cell? ⟨w.heap.size + 1, 0, none⟩ = some (.bool e0) ∧ u.cell? ⟨w.heap.size + 1, 1, none⟩ = some (.int .u32 (n1 : Int)) ∧ u.cell? ⟨w.heap.size + 1, 2, none⟩ = some (.bool q1) → Calls Try.prog 22 _ u fun x w' => x = .returned (.bool b) ∧ Below w5.heap.size w5 w' ∧ w'.cell? ⟨w.heap.size, 0, none⟩ = some (.bool e0) ∧ w'.cell? ⟨w.heap.size, 1, none⟩ = some (.int .u32 (n0 : Int)) ∧ w'.cell? ⟨w.heap.size, 2, none⟩ = some (.bool q0) ∧ w'.cell? ⟨w.heap.size + 1, 0, none⟩ = some (.bool e0) ∧ w'.cell? ⟨w.heap.size + 1, 1, none⟩ = some (.int .u32 (n1 : Int)) ∧ w'.cell? ⟨w.heap.size + 1, 2, none⟩ = some (.bool q1) from fun u hu => (HW.out u).mono fun _ _ h => ⟨h.1, HS5.out _ (below_trans' hu.1 h.2)⟩)
  clear sx sx5 sy hb4 hb5 h4 h5 k0 HX HY HS HB
  have HLXc := HLX.out
  have HLYc := HLY.out
  cases ra
  · have hx0 : X.length = 0 := HLXc
    rw [hx0]
    clear HLXc HLYc hx0
    go_wp2_with (fail)
    refine (HL.out _ (HS5.out _ (Below.refl _ _))).mono ?_
    rintro x w6 ⟨rfl, h6⟩
    have HE := Lib.hid (HB5.out.trans (h6.1.mono HB5.out.size))
    clear h6
    go_wp2_with (fail)
    go_ret
    exact ⟨rfl, HE.out⟩
  cases rb
  · have hx0 : ((X.length : Int) == 0) = false := by rw [beq_eq_false_iff_ne]; simp at HLXc; split at HLXc <;> omega
    have hy0 : Y.length = 0 := HLYc
    rw [hy0]
    clear HLXc HLYc hy0
    go_wp2_with (fail)
    refine (HL.out _ (HS5.out _ (Below.refl _ _))).mono ?_
    rintro x w6 ⟨rfl, h6⟩
    have HE := Lib.hid (HB5.out.trans (h6.1.mono HB5.out.size))
    clear h6
    go_wp2_with (fail)
    go_ret
    exact ⟨rfl, HE.out⟩
  have hx0 : ((X.length : Int) == 0) = false := by rw [beq_eq_false_iff_ne]; simp at HLXc; split at HLXc <;> omega
  have hy0 : ((Y.length : Int) == 0) = false := by rw [beq_eq_false_iff_ne]; simp at HLYc; split at HLYc <;> omega
  have hxl32 : X.length ≤ 32 := by simp at HLXc; split at HLXc <;> omega
  clear HLXc HLYc
  have hne0 : ¬ (e0 = e0 ∧ n0 = n1 ∧ q0 = q1) := fun h => hn h.2.1
  have hni : ¬ (n0 : Int) = (n1 : Int) := by omega
  go_wp2_with (fail)
  clear C5
  go_loopw [7] (fun i wr => ∃ j : Nat, i = .int .i64 j ∧ j ≤ X.length ∧ j ≤ Y.length ∧ (∀ k, k < j → X[k]?.getD 0 = Y[k]?.getD 0) ∧ Below w5.heap.size w5 wr) (fun i _ => X.length - (intOf i).toNat)
  case atStart => exact ⟨0, rfl, Nat.zero_le _, Nat.zero_le _, fun k hk => by omega, Below.refl _ _⟩
  case round =>
    obtain ⟨j, rfl, hjx, hjy, hpre, hbel⟩ := hrel
    have HPRE := Lib.hid hpre; have HBR := Lib.hid hbel
    clear hpre hbel
    have i0 : (0 : Int) ≤ (j : Int) := by omega
    by_cases hlx : j < X.length
    · by_cases hly : j < Y.length
      · obtain ⟨bx, ox, rfl, hbx, cx'⟩ := SX.out.at hlx
        obtain ⟨by', oy, rfl, hby, cy'⟩ := SY.out.at hly
        have CX := Lib.hid cx'; have CY := Lib.hid cy'
        obtain ⟨x, hx⟩ : ∃ x, x = X[j]?.getD 0 := ⟨_, rfl⟩
        obtain ⟨y, hy⟩ : ∃ y, y = Y[j]?.getD 0 := ⟨_, rfl⟩
        rw [← hx] at CX
        rw [← hy] at CY
        have ix : (j : Int) < (X.length : Int) := by omega
        have iy : (j : Int) < (Y.length : Int) := by omega
        have HXE := Lib.hid hx; have HYE := Lib.hid hy
        clear cx' cy' hx hy
        have k7 : (Below w5.heap.size w5 wr.drew ∧ wr.drew.cell? ⟨bx, ox + j, none⟩ = some (.int .u8 (x : Int)) ∧ wr.drew.cell? ⟨by', oy + j, none⟩ = some (.int .u8 (y : Int))) := ⟨HBR.out.drew, CX.out _ HBR.out.drew, CY.out _ HBR.out.drew⟩
        by_cases hxy : x = y
        · have hne : ((x : Int) != (y : Int)) = false := by rw [hxy]; simp
          have HN := Lib.hid (show ∀ k, k < j + 1 → X[k]?.getD 0 = Y[k]?.getD 0 from fun k hk => by
            by_cases e : k = j
            · rw [e, ← HXE.out, ← HYE.out]; exact hxy
            · exact HPRE.out k (by omega))
          clear hxy
          go_wp2_with (fail)
          go_region_held3 (fun w' => Below w5.heap.size w5 w' ∧ w'.cell? ⟨bx, ox + j, none⟩ = some (.int .u8 (x : Int)) ∧ w'.cell? ⟨by', oy + j, none⟩ = some (.int .u8 (y : Int))) (assumption) (fail)
          clear k7
          have HBD := Lib.hid HBR.out.drew
          go_wp2_with (fail)
          go_roundw
          case rel => exact ⟨j + 1, by simp, by omega, by omega, HN.out, HBD.out⟩
          case measure => simp [intOf]; omega
        · have hne : ((x : Int) != (y : Int)) = true := by rw [bne_iff_ne]; omega
          have hw := HFW.out j (by trivial) (by trivial) hlx hly HPRE.out (by rw [← HXE.out, ← HYE.out]; exact hxy)
          rw [← HXE.out] at hw
          have hbx0 : ((x : Int) == 0) = b := by rw [hw, Bool.eq_iff_iff]; simp
          have hbb : (b == b) = true := by simp
          clear hxy hw
          go_wp2_with (fail)
          go_region_held3 (fun w' => Below w5.heap.size w5 w' ∧ w'.cell? ⟨bx, ox + j, none⟩ = some (.int .u8 (x : Int)) ∧ w'.cell? ⟨by', oy + j, none⟩ = some (.int .u8 (y : Int))) (assumption) (fail)
          clear k7
          have HBD := Lib.hid HBR.out.drew
          go_wp2_with (fail)
          have k8 := HS5.out _ HBD.out.drew
          have k9 := CX.out _ HBD.out.drew
          have HL8 := Lib.hid (show ∀ u, ((Below w5.heap.size w5 u ∧ u.cell? ⟨w.heap.size, 0, none⟩ = some (.bool e0) ∧ u.cell? ⟨w.heap.size, 1, none⟩ = some (.int .u32 (n0 : Int)) ∧ u.cell? ⟨w.heap.size, 2, none⟩ = some (.bool q0) ∧ u.cell? ⟨w.heap.size + 1, 0, none⟩ = some (.bool e0) ∧ u.cell? ⟨w.heap.size + 1, 1, none⟩ = some (.int .u32 (n1 : Int)) ∧ u.cell? ⟨w.heap.size + 1, 2, none⟩ = some (.bool q1)) ∧ u.cell? ⟨bx, ox + j, none⟩ = some (.int .u8 (x : Int))) → Calls Try.prog 8 #[] u fun x' w' => x' = .returned (.bool true) ∧ ((Below w5.heap.size w5 w' ∧ w'.cell? ⟨w.heap.size, 0, none⟩ = some (.bool e0) ∧ w'.cell? ⟨w.heap.size, 1, none⟩ = some (.int .u32 (n0 : Int)) ∧ w'.cell? ⟨w.heap.size, 2, none⟩ = some (.bool q0) ∧ w'.cell? ⟨w.heap.size + 1, 0, none⟩ = some (.bool e0) ∧ w'.cell? ⟨w.heap.size + 1, 1, none⟩ = some (.int .u32 (n1 : Int)) ∧ w'.cell? ⟨w.heap.size + 1, 2, none⟩ = some (.bool q1)) ∧ w'.cell? ⟨bx, ox + j, none⟩ = some (.int .u8 (x : Int))) from fun u hu => (HL.out u hu.1).mono fun _ _ h => ⟨h.1, h.2, CX.out _ h.2.1⟩)
          have HW8 := Lib.hid (show ∀ u, ((Below w5.heap.size w5 u ∧ u.cell? ⟨w.heap.size, 0, none⟩ = some (.bool e0) ∧ u.cell? ⟨w.heap.size, 1, none⟩ = some (.int .u32 (n0 : Int)) ∧ u.cell? ⟨w.heap.size, 2, none⟩ = some (.bool q0) ∧ u.cell? ⟨w.heap.size + 1, 0, none⟩ = some (.bool e0) ∧ u.cell? ⟨w.heap.size + 1, 1, none⟩ = some (.int .u32 (n1 : Int)) ∧ u.cell? ⟨w.heap.size + 1, 2, none⟩ = some (.bool q1)) ∧ u.cell? ⟨bx, ox + j, none⟩ = some (.int .u8 (x : Int))) → Calls Try.prog 22 _ u fun x' w' => x' = .returned (.bool b) ∧ ((Below w5.heap.size w5 w' ∧ w'.cell? ⟨w.heap.size, 0, none⟩ = some (.bool e0) ∧ w'.cell? ⟨w.heap.size, 1, none⟩ = some (.int .u32 (n0 : Int)) ∧ w'.cell? ⟨w.heap.size, 2, none⟩ = some (.bool q0) ∧ w'.cell? ⟨w.heap.size + 1, 0, none⟩ = some (.bool e0) ∧ w'.cell? ⟨w.heap.size + 1, 1, none⟩ = some (.int .u32 (n1 : Int)) ∧ w'.cell? ⟨w.heap.size + 1, 2, none⟩ = some (.bool q1)) ∧ w'.cell? ⟨bx, ox + j, none⟩ = some (.int .u8 (x : Int))) from fun u hu => (HW.out u hu.1).mono fun _ _ h => ⟨h.1, h.2, CX.out _ h.2.1⟩)
          have k10 : ((Below w5.heap.size w5 wr.drew.drew ∧ wr.drew.drew.cell? ⟨w.heap.size, 0, none⟩ = some (.bool e0) ∧ wr.drew.drew.cell? ⟨w.heap.size, 1, none⟩ = some (.int .u32 (n0 : Int)) ∧ wr.drew.drew.cell? ⟨w.heap.size, 2, none⟩ = some (.bool q0) ∧ wr.drew.drew.cell? ⟨w.heap.size + 1, 0, none⟩ = some (.bool e0) ∧ wr.drew.drew.cell? ⟨w.heap.size + 1, 1, none⟩ = some (.int .u32 (n1 : Int)) ∧ wr.drew.drew.cell? ⟨w.heap.size + 1, 2, none⟩ = some (.bool q1)) ∧ wr.drew.drew.cell? ⟨bx, ox + j, none⟩ = some (.int .u8 (x : Int))) := ⟨k8, k9⟩
          go_region_held3 (fun w' => (Below w5.heap.size w5 w' ∧ w'.cell? ⟨w.heap.size, 0, none⟩ = some (.bool e0) ∧ w'.cell? ⟨w.heap.size, 1, none⟩ = some (.int .u32 (n0 : Int)) ∧ w'.cell? ⟨w.heap.size, 2, none⟩ = some (.bool q0) ∧ w'.cell? ⟨w.heap.size + 1, 0, none⟩ = some (.bool e0) ∧ w'.cell? ⟨w.heap.size + 1, 1, none⟩ = some (.int .u32 (n1 : Int)) ∧ w'.cell? ⟨w.heap.size + 1, 2, none⟩ = some (.bool q1)) ∧ w'.cell? ⟨bx, ox + j, none⟩ = some (.int .u8 (x : Int))) (assumption) (first | (go_at_call 8; refine (HL8.out _ (by assumption)).mono ?_; rintro x' w8 ⟨rfl, h8⟩) | (go_at_call 22; refine (HW8.out _ (by assumption)).mono ?_; rintro x' w9 ⟨rfl, h9⟩))
          have HE := Lib.hid (HB5.out.trans (h9.1.1.mono HB5.out.size))
          clear h8 h9 k8 k9 k10
          go_wp2_with (fail)
          go_ret
          exact ⟨rfl, HE.out⟩
      · exfalso
        exact hne0 (HSM.out (by trivial) (by trivial) (fun i a b => HPRE.out i (by omega)))
    · exfalso
      exact hne0 (HSM.out (by trivial) (by trivial) (fun i a b => HPRE.out i (by omega)))
set_option maxHeartbeats 4000000 in
theorem walk_ask (e0 : Bool) (n0 : Nat) (q0 : Bool) (h0 : n0 < 4294967296) (w : World) :
    Calls Try.prog 6 #[asksV e0 n0 q0, asksV e0 n0 (!q0)] w fun e w' => e = .returned (.bool true) ∧ Below w.heap.size w w' := by
  obtain ⟨ra, rad⟩ : ∃ b, b = rightI e0 n0 := ⟨_, rfl⟩
  obtain ⟨rb, rbd⟩ : ∃ b, b = rightI e0 n0 := ⟨_, rfl⟩
  unfold asksV
  go_enter Try.func6, Try.ntmps6
  go_wp2_with (fail)
  obtain ⟨wr, hwr⟩ : ∃ wr, wr = ((w.alloc (.cells #[.bool e0, .int .u32 (n0 : Int), .bool q0] 38)).alloc (.cells #[.bool e0, .int .u32 (n0 : Int), .bool (!q0)] 38)) := ⟨_, rfl⟩
  have HB := Lib.hid (show Below w.heap.size w wr by rw [hwr]; exact ((Below.refl _ w).alloc (Nat.le_refl _) _).alloc (by simp) _)
  have hsz : w.heap.size + 2 ≤ wr.heap.size := by rw [hwr]; simp
  have T0 := tri_cells w (.bool e0) (.int .u32 (n0 : Int)) (.bool q0) 38
  have T1 := tri_cells (w.alloc (.cells #[.bool e0, .int .u32 (n0 : Int), .bool q0] 38)) (.bool e0) (.int .u32 (n0 : Int)) (.bool (!q0)) 38
  rw [World.size_alloc, ← hwr] at T1
  have up1 : Below (w.heap.size + 1) (w.alloc (.cells #[.bool e0, .int .u32 (n0 : Int), .bool q0] 38)) wr := by rw [hwr]; exact (Below.refl _ _).alloc (by simp) _
  have U0 : ∀ o, wr.cell? ⟨w.heap.size, o, none⟩ = (w.alloc (.cells #[.bool e0, .int .u32 (n0 : Int), .bool q0] 38)).cell? ⟨w.heap.size, o, none⟩ := fun o => up1.cell (p := ⟨w.heap.size, o, none⟩) (Nat.lt_succ_self _)
  have HS := Lib.hid (show ∀ u, Below wr.heap.size wr u → Below wr.heap.size wr u ∧ u.cell? ⟨w.heap.size, 0, none⟩ = some (.bool e0) ∧ u.cell? ⟨w.heap.size, 1, none⟩ = some (.int .u32 (n0 : Int)) ∧ u.cell? ⟨w.heap.size, 2, none⟩ = some (.bool q0) ∧ u.cell? ⟨w.heap.size + 1, 0, none⟩ = some (.bool e0) ∧ u.cell? ⟨w.heap.size + 1, 1, none⟩ = some (.int .u32 (n0 : Int)) ∧ u.cell? ⟨w.heap.size + 1, 2, none⟩ = some (.bool (!q0)) from fun u hu => ⟨hu, ((bcell2 hu).1 _ _ (by omega)).trans ((U0 0).trans T0.1), ((bcell2 hu).1 _ _ (by omega)).trans ((U0 1).trans T0.2.1), ((bcell2 hu).1 _ _ (by omega)).trans ((U0 2).trans T0.2.2), ((bcell2 hu).1 _ _ (by omega)).trans T1.1, ((bcell2 hu).1 _ _ (by omega)).trans T1.2.1, ((bcell2 hu).1 _ _ (by omega)).trans T1.2.2⟩)
  rw [← hwr]
  clear hwr T0 T1 up1 U0 hsz
  have HX := Lib.hid (show ∀ u, Below wr.heap.size wr u ∧ u.cell? ⟨w.heap.size, 0, none⟩ = some (.bool e0) ∧ u.cell? ⟨w.heap.size, 1, none⟩ = some (.int .u32 (n0 : Int)) ∧ u.cell? ⟨w.heap.size, 2, none⟩ = some (.bool q0) ∧ u.cell? ⟨w.heap.size + 1, 0, none⟩ = some (.bool e0) ∧ u.cell? ⟨w.heap.size + 1, 1, none⟩ = some (.int .u32 (n0 : Int)) ∧ u.cell? ⟨w.heap.size + 1, 2, none⟩ = some (.bool (!q0)) → Calls Try.prog 16 #[.agg #[.bool e0, .int .u32 (n0 : Int)], .bool q0] u fun x w' => ∃ a c, x = .returned (.slice a (idBits e0 n0 q0).length c) ∧ Str w'.heap.size w' (.slice a (idBits e0 n0 q0).length c) (idBits e0 n0 q0) ∧ Below u.heap.size u w' ∧ Below wr.heap.size wr w' ∧ w'.cell? ⟨w.heap.size, 0, none⟩ = some (.bool e0) ∧ w'.cell? ⟨w.heap.size, 1, none⟩ = some (.int .u32 (n0 : Int)) ∧ w'.cell? ⟨w.heap.size, 2, none⟩ = some (.bool q0) ∧ w'.cell? ⟨w.heap.size + 1, 0, none⟩ = some (.bool e0) ∧ w'.cell? ⟨w.heap.size + 1, 1, none⟩ = some (.int .u32 (n0 : Int)) ∧ w'.cell? ⟨w.heap.size + 1, 2, none⟩ = some (.bool (!q0)) from fun u hu => (idbits_any e0 n0 q0 h0 u).mono (by
    rintro x w' ⟨v, rfl, ho, hb⟩
    obtain ⟨a, c, rfl⟩ := ho.shape
    exact ⟨a, c, rfl, ho.str, hb, HS.out _ (below_trans' hu.1 hb)⟩))
  have HY := Lib.hid (show ∀ u, Below wr.heap.size wr u ∧ u.cell? ⟨w.heap.size, 0, none⟩ = some (.bool e0) ∧ u.cell? ⟨w.heap.size, 1, none⟩ = some (.int .u32 (n0 : Int)) ∧ u.cell? ⟨w.heap.size, 2, none⟩ = some (.bool q0) ∧ u.cell? ⟨w.heap.size + 1, 0, none⟩ = some (.bool e0) ∧ u.cell? ⟨w.heap.size + 1, 1, none⟩ = some (.int .u32 (n0 : Int)) ∧ u.cell? ⟨w.heap.size + 1, 2, none⟩ = some (.bool (!q0)) → Calls Try.prog 16 #[.agg #[.bool e0, .int .u32 (n0 : Int)], .bool (!q0)] u fun x w' => ∃ a c, x = .returned (.slice a (idBits e0 n0 (!q0)).length c) ∧ Str w'.heap.size w' (.slice a (idBits e0 n0 (!q0)).length c) (idBits e0 n0 (!q0)) ∧ Below u.heap.size u w' ∧ Below wr.heap.size wr w' ∧ w'.cell? ⟨w.heap.size, 0, none⟩ = some (.bool e0) ∧ w'.cell? ⟨w.heap.size, 1, none⟩ = some (.int .u32 (n0 : Int)) ∧ w'.cell? ⟨w.heap.size, 2, none⟩ = some (.bool q0) ∧ w'.cell? ⟨w.heap.size + 1, 0, none⟩ = some (.bool e0) ∧ w'.cell? ⟨w.heap.size + 1, 1, none⟩ = some (.int .u32 (n0 : Int)) ∧ w'.cell? ⟨w.heap.size + 1, 2, none⟩ = some (.bool (!q0)) from fun u hu => (idbits_any e0 n0 (!q0) h0 u).mono (by
    rintro x w' ⟨v, rfl, ho, hb⟩
    obtain ⟨a, c, rfl⟩ := ho.shape
    exact ⟨a, c, rfl, ho.str, hb, HS.out _ (below_trans' hu.1 hb)⟩))
  have HW := Lib.hid (fun u => wins_any e0 n0 q0 e0 n0 (!q0) h0 h0 u)
  obtain ⟨b, hbd⟩ : ∃ b, b = winsI e0 n0 q0 e0 n0 (!q0) := ⟨_, rfl⟩
  rw [← hbd] at HW
  unfold identV at HW
  have HFW := Lib.hid (fun i (a : ra = true) (b : rb = true) => first_wins (e := e0) (n := n0) (r := q0) (f := e0) (m := n0) (s := (!q0)) (i := i) (rad.symm.trans a) (rbd.symm.trans b))
  have HSM := Lib.hid (fun (a : ra = true) (b : rb = true) => idBits_same (e := e0) (n := n0) (r := q0) (f := e0) (m := n0) (s := (!q0)) (rad.symm.trans a) (rbd.symm.trans b))
  rw [← hbd] at HFW
  have HLX := Lib.hid (show (idBits e0 n0 q0).length = if ra then (if e0 then 32 else 13) else 0 by
    cases hr : ra
    · unfold idBits; rw [← rad, hr]; rfl
    · rw [idBits_length e0 n0 q0 (rad.symm.trans hr)]; rfl)
  have HLY := Lib.hid (show (idBits e0 n0 (!q0)).length = if rb then (if e0 then 32 else 13) else 0 by
    cases hr : rb
    · unfold idBits; rw [← rbd, hr]; rfl
    · rw [idBits_length e0 n0 (!q0) (rbd.symm.trans hr)]; rfl)
  have HLE := Lib.hid (show ∀ x ∈ idBits e0 n0 q0, x ≤ 1 from idBits_le _ _ _)
  obtain ⟨X, hX⟩ : ∃ X, X = idBits e0 n0 q0 := ⟨_, rfl⟩
  obtain ⟨Y, hY⟩ : ∃ Y, Y = idBits e0 n0 (!q0) := ⟨_, rfl⟩
  rw [← hX] at HX HLX HLE
  rw [← hY] at HY HLY
  first | rw [← hX, ← hY] at HFW HSM | rw [← hX] at HFW HSM
  clear h0 rad rbd hbd hX hY
  have k0 := HS.out _ (Below.refl wr.heap.size wr).drew
  go_region_held3 (fun w' => Below wr.heap.size wr w' ∧ w'.cell? ⟨w.heap.size, 0, none⟩ = some (.bool e0) ∧ w'.cell? ⟨w.heap.size, 1, none⟩ = some (.int .u32 (n0 : Int)) ∧ w'.cell? ⟨w.heap.size, 2, none⟩ = some (.bool q0) ∧ w'.cell? ⟨w.heap.size + 1, 0, none⟩ = some (.bool e0) ∧ w'.cell? ⟨w.heap.size + 1, 1, none⟩ = some (.int .u32 (n0 : Int)) ∧ w'.cell? ⟨w.heap.size + 1, 2, none⟩ = some (.bool (!q0))) (assumption) (first | (go_at_call 16; have gg := h4; clear gg; refine (HY.out _ (by assumption)).mono ?_; rintro x w5 ⟨ay, cy, rfl, sy, hb5, h5⟩; have sx5 := sx.on hb5) | (go_at_call 16; refine (HX.out _ (by assumption)).mono ?_; rintro x w4 ⟨ax, cx, rfl, sx, hb4, h4⟩))
  have SX := Lib.hid sx5
  have SY := Lib.hid sy
  have HB5 := Lib.hid (HB.out.trans (h5.1.mono HB.out.size))
  have hz5 : w.heap.size + 2 ≤ w5.heap.size := by have := h5.2.2.2.2.2.2; have := cell_lt h5.2.2.2.2.1; have h := h5.1.size; have h2 : w.heap.size + 1 < w5.heap.size := this; omega
  have C5 := h5.2
  have HC5 := Lib.hid C5
  have HS5 := Lib.hid (show ∀ u, Below w5.heap.size w5 u → Below w5.heap.size w5 u ∧ u.cell? ⟨w.heap.size, 0, none⟩ = some (.bool e0) ∧ u.cell? ⟨w.heap.size, 1, none⟩ = some (.int .u32 (n0 : Int)) ∧ u.cell? ⟨w.heap.size, 2, none⟩ = some (.bool q0) ∧ u.cell? ⟨w.heap.size + 1, 0, none⟩ = some (.bool e0) ∧ u.cell? ⟨w.heap.size + 1, 1, none⟩ = some (.int .u32 (n0 : Int)) ∧ u.cell? ⟨w.heap.size + 1, 2, none⟩ = some (.bool (!q0)) from fun u hu => ⟨hu, ((bcell2 hu).1 _ _ (by omega)).trans HC5.out.1, ((bcell2 hu).1 _ _ (by omega)).trans HC5.out.2.1, ((bcell2 hu).1 _ _ (by omega)).trans HC5.out.2.2.1, ((bcell2 hu).1 _ _ (by omega)).trans HC5.out.2.2.2.1, ((bcell2 hu).1 _ _ (by omega)).trans HC5.out.2.2.2.2.1, ((bcell2 hu).1 _ _ (by omega)).trans HC5.out.2.2.2.2.2⟩)
  have HL := Lib.hid (show ∀ u, Below w5.heap.size w5 u ∧ u.cell? ⟨w.heap.size, 0, none⟩ = some (.bool e0) ∧ u.cell? ⟨w.heap.size, 1, none⟩ = some (.int .u32 (n0 : Int)) ∧ u.cell? ⟨w.heap.size, 2, none⟩ = some (.bool q0) ∧ u.cell? ⟨w.heap.size + 1, 0, none⟩ = some (.bool e0) ∧ u.cell? ⟨w.heap.size + 1, 1, none⟩ = some (.int .u32 (n0 : Int)) ∧ u.cell? ⟨w.heap.size + 1, 2, none⟩ = some (.bool (!q0)) → Calls Try.prog 8 #[] u fun x w' => x = .returned (.bool true) ∧ Below w5.heap.size w5 w' ∧ w'.cell? ⟨w.heap.size, 0, none⟩ = some (.bool e0) ∧ w'.cell? ⟨w.heap.size, 1, none⟩ = some (.int .u32 (n0 : Int)) ∧ w'.cell? ⟨w.heap.size, 2, none⟩ = some (.bool q0) ∧ w'.cell? ⟨w.heap.size + 1, 0, none⟩ = some (.bool e0) ∧ w'.cell? ⟨w.heap.size + 1, 1, none⟩ = some (.int .u32 (n0 : Int)) ∧ w'.cell? ⟨w.heap.size + 1, 2, none⟩ = some (.bool (!q0)) from fun u hu => (live5 u).mono fun _ _ h => ⟨h.1, HS5.out _ (below_trans' hu.1 h.2)⟩)
  have HW := Lib.hid (show ∀ u, Below w5.heap.size w5 u ∧ u.cell? ⟨w.heap.size, 0, none⟩ = some (.bool e0) ∧ u.cell? ⟨w.heap.size, 1, none⟩ = some (.int .u32 (n0 : Int)) ∧ u.cell? ⟨w.heap.size, 2, none⟩ = some (.bool q0) ∧ u.cell? ⟨w.heap.size + 1, 0, none⟩ = some (.bool e0) ∧ u.cell? ⟨w.heap.size + 1, 1, none⟩ = some (.int .u32 (n0 : Int)) ∧ u.cell? ⟨w.heap.size + 1, 2, none⟩ = some (.bool (!q0)) → Calls Try.prog 22 _ u fun x w' => x = .returned (.bool b) ∧ Below w5.heap.size w5 w' ∧ w'.cell? ⟨w.heap.size, 0, none⟩ = some (.bool e0) ∧ w'.cell? ⟨w.heap.size, 1, none⟩ = some (.int .u32 (n0 : Int)) ∧ w'.cell? ⟨w.heap.size, 2, none⟩ = some (.bool q0) ∧ w'.cell? ⟨w.heap.size + 1, 0, none⟩ = some (.bool e0) ∧ w'.cell? ⟨w.heap.size + 1, 1, none⟩ = some (.int .u32 (n0 : Int)) ∧ w'.cell? ⟨w.heap.size + 1, 2, none⟩ = some (.bool (!q0)) from fun u hu => (HW.out u).mono fun _ _ h => ⟨h.1, HS5.out _ (below_trans' hu.1 h.2)⟩)
  clear sx sx5 sy hb4 hb5 h4 h5 k0 HX HY HS HB
  have HLXc := HLX.out
  have HLYc := HLY.out
  cases ra
  · have hx0 : X.length = 0 := HLXc
    rw [hx0]
    clear HLXc HLYc hx0
    go_wp2_with (fail)
    refine (HL.out _ (HS5.out _ (Below.refl _ _))).mono ?_
    rintro x w6 ⟨rfl, h6⟩
    have HE := Lib.hid (HB5.out.trans (h6.1.mono HB5.out.size))
    clear h6
    go_wp2_with (fail)
    go_ret
    exact ⟨rfl, HE.out⟩
  cases rb
  · have hx0 : ((X.length : Int) == 0) = false := by rw [beq_eq_false_iff_ne]; simp at HLXc; split at HLXc <;> omega
    have hy0 : Y.length = 0 := HLYc
    rw [hy0]
    clear HLXc HLYc hy0
    go_wp2_with (fail)
    refine (HL.out _ (HS5.out _ (Below.refl _ _))).mono ?_
    rintro x w6 ⟨rfl, h6⟩
    have HE := Lib.hid (HB5.out.trans (h6.1.mono HB5.out.size))
    clear h6
    go_wp2_with (fail)
    go_ret
    exact ⟨rfl, HE.out⟩
  have hx0 : ((X.length : Int) == 0) = false := by rw [beq_eq_false_iff_ne]; simp at HLXc; split at HLXc <;> omega
  have hy0 : ((Y.length : Int) == 0) = false := by rw [beq_eq_false_iff_ne]; simp at HLYc; split at HLYc <;> omega
  have hxl32 : X.length ≤ 32 := by simp at HLXc; split at HLXc <;> omega
  clear HLXc HLYc
  have hne0 : ¬ (e0 = e0 ∧ n0 = n0 ∧ q0 = (!q0)) := fun h => by have := h.2.2; cases q0 <;> cases this
  go_wp2_with (fail)
  clear C5
  go_loopw [7] (fun i wr => ∃ j : Nat, i = .int .i64 j ∧ j ≤ X.length ∧ j ≤ Y.length ∧ (∀ k, k < j → X[k]?.getD 0 = Y[k]?.getD 0) ∧ Below w5.heap.size w5 wr) (fun i _ => X.length - (intOf i).toNat)
  case atStart => exact ⟨0, rfl, Nat.zero_le _, Nat.zero_le _, fun k hk => by omega, Below.refl _ _⟩
  case round =>
    obtain ⟨j, rfl, hjx, hjy, hpre, hbel⟩ := hrel
    have HPRE := Lib.hid hpre; have HBR := Lib.hid hbel
    clear hpre hbel
    have i0 : (0 : Int) ≤ (j : Int) := by omega
    by_cases hlx : j < X.length
    · by_cases hly : j < Y.length
      · obtain ⟨bx, ox, rfl, hbx, cx'⟩ := SX.out.at hlx
        obtain ⟨by', oy, rfl, hby, cy'⟩ := SY.out.at hly
        have CX := Lib.hid cx'; have CY := Lib.hid cy'
        obtain ⟨x, hx⟩ : ∃ x, x = X[j]?.getD 0 := ⟨_, rfl⟩
        obtain ⟨y, hy⟩ : ∃ y, y = Y[j]?.getD 0 := ⟨_, rfl⟩
        rw [← hx] at CX
        rw [← hy] at CY
        have ix : (j : Int) < (X.length : Int) := by omega
        have iy : (j : Int) < (Y.length : Int) := by omega
        have HXE := Lib.hid hx; have HYE := Lib.hid hy
        clear cx' cy' hx hy
        have k7 : (Below w5.heap.size w5 wr.drew ∧ wr.drew.cell? ⟨bx, ox + j, none⟩ = some (.int .u8 (x : Int)) ∧ wr.drew.cell? ⟨by', oy + j, none⟩ = some (.int .u8 (y : Int))) := ⟨HBR.out.drew, CX.out _ HBR.out.drew, CY.out _ HBR.out.drew⟩
        by_cases hxy : x = y
        · have hne : ((x : Int) != (y : Int)) = false := by rw [hxy]; simp
          have HN := Lib.hid (show ∀ k, k < j + 1 → X[k]?.getD 0 = Y[k]?.getD 0 from fun k hk => by
            by_cases e : k = j
            · rw [e, ← HXE.out, ← HYE.out]; exact hxy
            · exact HPRE.out k (by omega))
          clear hxy
          go_wp2_with (fail)
          go_region_held3 (fun w' => Below w5.heap.size w5 w' ∧ w'.cell? ⟨bx, ox + j, none⟩ = some (.int .u8 (x : Int)) ∧ w'.cell? ⟨by', oy + j, none⟩ = some (.int .u8 (y : Int))) (assumption) (fail)
          clear k7
          have HBD := Lib.hid HBR.out.drew
          go_wp2_with (fail)
          go_roundw
          case rel => exact ⟨j + 1, by simp, by omega, by omega, HN.out, HBD.out⟩
          case measure => simp [intOf]; omega
        · have hne : ((x : Int) != (y : Int)) = true := by rw [bne_iff_ne]; omega
          have hw := HFW.out j (by trivial) (by trivial) hlx hly HPRE.out (by rw [← HXE.out, ← HYE.out]; exact hxy)
          rw [← HXE.out] at hw
          have hbx0 : ((x : Int) == 0) = b := by rw [hw, Bool.eq_iff_iff]; simp
          have hbb : (b == b) = true := by simp
          clear hxy hw
          go_wp2_with (fail)
          go_region_held3 (fun w' => Below w5.heap.size w5 w' ∧ w'.cell? ⟨bx, ox + j, none⟩ = some (.int .u8 (x : Int)) ∧ w'.cell? ⟨by', oy + j, none⟩ = some (.int .u8 (y : Int))) (assumption) (fail)
          clear k7
          have HBD := Lib.hid HBR.out.drew
          go_wp2_with (fail)
          have k8 := HS5.out _ HBD.out.drew
          have k9 := CX.out _ HBD.out.drew
          have HL8 := Lib.hid (show ∀ u, ((Below w5.heap.size w5 u ∧ u.cell? ⟨w.heap.size, 0, none⟩ = some (.bool e0) ∧ u.cell? ⟨w.heap.size, 1, none⟩ = some (.int .u32 (n0 : Int)) ∧ u.cell? ⟨w.heap.size, 2, none⟩ = some (.bool q0) ∧ u.cell? ⟨w.heap.size + 1, 0, none⟩ = some (.bool e0) ∧ u.cell? ⟨w.heap.size + 1, 1, none⟩ = some (.int .u32 (n0 : Int)) ∧ u.cell? ⟨w.heap.size + 1, 2, none⟩ = some (.bool (!q0))) ∧ u.cell? ⟨bx, ox + j, none⟩ = some (.int .u8 (x : Int))) → Calls Try.prog 8 #[] u fun x' w' => x' = .returned (.bool true) ∧ ((Below w5.heap.size w5 w' ∧ w'.cell? ⟨w.heap.size, 0, none⟩ = some (.bool e0) ∧ w'.cell? ⟨w.heap.size, 1, none⟩ = some (.int .u32 (n0 : Int)) ∧ w'.cell? ⟨w.heap.size, 2, none⟩ = some (.bool q0) ∧ w'.cell? ⟨w.heap.size + 1, 0, none⟩ = some (.bool e0) ∧ w'.cell? ⟨w.heap.size + 1, 1, none⟩ = some (.int .u32 (n0 : Int)) ∧ w'.cell? ⟨w.heap.size + 1, 2, none⟩ = some (.bool (!q0))) ∧ w'.cell? ⟨bx, ox + j, none⟩ = some (.int .u8 (x : Int))) from fun u hu => (HL.out u hu.1).mono fun _ _ h => ⟨h.1, h.2, CX.out _ h.2.1⟩)
          have HW8 := Lib.hid (show ∀ u, ((Below w5.heap.size w5 u ∧ u.cell? ⟨w.heap.size, 0, none⟩ = some (.bool e0) ∧ u.cell? ⟨w.heap.size, 1, none⟩ = some (.int .u32 (n0 : Int)) ∧ u.cell? ⟨w.heap.size, 2, none⟩ = some (.bool q0) ∧ u.cell? ⟨w.heap.size + 1, 0, none⟩ = some (.bool e0) ∧ u.cell? ⟨w.heap.size + 1, 1, none⟩ = some (.int .u32 (n0 : Int)) ∧ u.cell? ⟨w.heap.size + 1, 2, none⟩ = some (.bool (!q0))) ∧ u.cell? ⟨bx, ox + j, none⟩ = some (.int .u8 (x : Int))) → Calls Try.prog 22 _ u fun x' w' => x' = .returned (.bool b) ∧ ((Below w5.heap.size w5 w' ∧ w'.cell? ⟨w.heap.size, 0, none⟩ = some (.bool e0) ∧ w'.cell? ⟨w.heap.size, 1, none⟩ = some (.int .u32 (n0 : Int)) ∧ w'.cell? ⟨w.heap.size, 2, none⟩ = some (.bool q0) ∧ w'.cell? ⟨w.heap.size + 1, 0, none⟩ = some (.bool e0) ∧ w'.cell? ⟨w.heap.size + 1, 1, none⟩ = some (.int .u32 (n0 : Int)) ∧ w'.cell? ⟨w.heap.size + 1, 2, none⟩ = some (.bool (!q0))) ∧ w'.cell? ⟨bx, ox + j, none⟩ = some (.int .u8 (x : Int))) from fun u hu => (HW.out u hu.1).mono fun _ _ h => ⟨h.1, h.2, CX.out _ h.2.1⟩)
          have k10 : ((Below w5.heap.size w5 wr.drew.drew ∧ wr.drew.drew.cell? ⟨w.heap.size, 0, none⟩ = some (.bool e0) ∧ wr.drew.drew.cell? ⟨w.heap.size, 1, none⟩ = some (.int .u32 (n0 : Int)) ∧ wr.drew.drew.cell? ⟨w.heap.size, 2, none⟩ = some (.bool q0) ∧ wr.drew.drew.cell? ⟨w.heap.size + 1, 0, none⟩ = some (.bool e0) ∧ wr.drew.drew.cell? ⟨w.heap.size + 1, 1, none⟩ = some (.int .u32 (n0 : Int)) ∧ wr.drew.drew.cell? ⟨w.heap.size + 1, 2, none⟩ = some (.bool (!q0))) ∧ wr.drew.drew.cell? ⟨bx, ox + j, none⟩ = some (.int .u8 (x : Int))) := ⟨k8, k9⟩
          go_region_held3 (fun w' => (Below w5.heap.size w5 w' ∧ w'.cell? ⟨w.heap.size, 0, none⟩ = some (.bool e0) ∧ w'.cell? ⟨w.heap.size, 1, none⟩ = some (.int .u32 (n0 : Int)) ∧ w'.cell? ⟨w.heap.size, 2, none⟩ = some (.bool q0) ∧ w'.cell? ⟨w.heap.size + 1, 0, none⟩ = some (.bool e0) ∧ w'.cell? ⟨w.heap.size + 1, 1, none⟩ = some (.int .u32 (n0 : Int)) ∧ w'.cell? ⟨w.heap.size + 1, 2, none⟩ = some (.bool (!q0))) ∧ w'.cell? ⟨bx, ox + j, none⟩ = some (.int .u8 (x : Int))) (assumption) (first | (go_at_call 8; refine (HL8.out _ (by assumption)).mono ?_; rintro x' w8 ⟨rfl, h8⟩) | (go_at_call 22; refine (HW8.out _ (by assumption)).mono ?_; rintro x' w9 ⟨rfl, h9⟩))
          have HE := Lib.hid (HB5.out.trans (h9.1.1.mono HB5.out.size))
          clear h8 h9 k8 k9 k10
          go_wp2_with (fail)
          go_ret
          exact ⟨rfl, HE.out⟩
      · exfalso
        exact hne0 (HSM.out (by trivial) (by trivial) (fun i a b => HPRE.out i (by omega)))
    · exfalso
      exact hne0 (HSM.out (by trivial) (by trivial) (fun i a b => HPRE.out i (by omega)))
theorem walk (e0 : Bool) (n0 : Nat) (q0 : Bool) (e1 : Bool) (n1 : Nat) (q1 : Bool) (h0 : n0 < 4294967296) (h1 : n1 < 4294967296) (w : World) :
    Calls Try.prog 6 #[asksV e0 n0 q0, asksV e1 n1 q1] w fun e w' => e = .returned (.bool true) ∧ Below w.heap.size w w' := by
  by_cases he : e0 = e1
  · subst he
    by_cases hn : n0 = n1
    · subst hn
      by_cases hq : q0 = q1
      · subst hq
        exact walk_eq e0 n0 q0 h0 w
      · obtain rfl : q1 = !q0 := by cases q0 <;> cases q1 <;> first | rfl | exact absurd rfl hq
        exact walk_ask e0 n0 q0 h0 w
    · exact walk_num e0 n0 q0 n1 q1 hn h0 h1 w
  · obtain rfl : e1 = !e0 := by cases e0 <;> cases e1 <;> first | rfl | exact absurd rfl he
    exact walk_ext e0 n0 q0 n1 q1 h0 h1 w
set_option maxRecDepth 100000 in
theorem lifted (os : Os) (started : os.Started) (H : Type) (enc : TypeId × Value → H) :
    ReturnsInHanded {} Try.checked os 6 .any (Rows.identBitsSpec.pre6 enc Try.prog Try.f6 Rows.identBitsRow.domain false) (Rows.identBitsSpec.post enc Try.prog Try.f6 false true false false) := by
  refine returnsInHanded_of_change (C := Try.checked) own started (by kernel_rfl) Try.func6
    (ChangeSpec.witness6 (enc := enc) (C := Try.checked) false ⟨#[], #[.agg #[.bool false, .int .u32 0, .bool false], .agg #[.bool false, .int .u32 0, .bool false]], []⟩ 8 (by kernel_rfl) (by kernel_rfl) (by kernel_rfl) (by kernel_rfl)) ?_
  intro W base args ds gs before hval0 hW _ _
  have hval : ∀ (j : Nat) t v, Try.f6.params[j]? = some t → args[j]? = some v → Value.okWide Try.prog W .any base t v := hval0
  have hW' := hW
  obtain ⟨p, q, hA0, hV, rfl, hfz, hnd⟩ := hW
  have hA : DataW.TrodAll enc Try.prog W 0 (fun _ => true) true Try.f6.params.toList args.toList ds p := hA0
  rw [Try.params6] at hA hval
  obtain ⟨v0, vs0, d0, ds0, p0, q0, hargs, rfl, rfl, h0, r0⟩ := trodAll_cons hA
  obtain ⟨v1, vs1, d1, ds1, p1, q1, rfl, rfl, rfl, h1, r1⟩ := trodAll_cons r0
  obtain ⟨rfl, rfl, rfl⟩ := trodAll_nil r1
  obtain rfl : args = #[v0, v1] := by cases args; simp_all
  obtain ⟨rfl, rfl⟩ := trodVars_none hV
  have k0 := h0
  have lt0 : ∀ x ∈ p0, x.block < W.heap.size := by obtain ⟨m, hm⟩ := k0; exact DataW.trod_lt m _ _ _ hm
  obtain ⟨e0, n0, q0, rfl, w0⟩ := open_asks (hval 0 38 v0 rfl rfl) h0
  have k1 := h1
  have lt1 : ∀ x ∈ p1, x.block < W.heap.size := by obtain ⟨m, hm⟩ := k1; exact DataW.trod_lt m _ _ _ hm
  obtain ⟨e1, n1, q1, rfl, w1⟩ := open_asks (hval 1 38 v1 rfl rfl) h1
  clear hA0 hval0
  refine (walk e0 n0 q0 e1 n1 q1 w0 w1 W).mono fun e W' ⟨he, bel⟩ => ?_
  subst he
  exact ⟨_, rfl, _, _, _, [], _, [], hW', trodAll_mk1 (shut_bool Try.underlying4 _), (trodAll_cons_mk (Below.trod laidOut (by kernel_rfl) (of_decide_eq_true (by kernel_rfl)) k0 bel lt0) (trodAll_cons_mk (Below.trod laidOut (by kernel_rfl) (of_decide_eq_true (by kernel_rfl)) k1 bel lt1) trodAll_mk0)), rfl, bel.frame _, fun h => by cases h⟩
theorem over : Rows.identBitsRow.holds Try.pinned (OpenSpec.ofChange Rows.identBitsSpec) :=
  OpenClaim.holds_of_wide 6 Try.f6 rfl rfl rfl rfl rfl rfl rfl ⟨rfl, rfl, rfl, rfl, rfl⟩ rfl rfl rfl rfl rfl (by kernel_rfl) Try.func6 (by kernel_rfl)
    (of_decide_eq_true (by kernel_rfl)) (by unfold Func.isWrapper; first | (rw [if_pos (by decide +kernel)]; kernel_rfl) | (rw [if_neg (by decide +kernel)]; exact ⟨rfl, rfl⟩))
    (fun os started H enc _ => lifted os started H enc)
/-- The statement. -/
theorem proved : Rows.IdentBitsSaid := over
end Go.Proofs.Ytodeaddmachcjaa.identBits
