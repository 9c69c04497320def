/- The statement of P5.2 (IdentWins): which of two frames wins, as the document says. No conditions. -/
import Derived.Test.YtodeaddmachcjaaRows
import Derived.Test.YtodeaddmachcjaaOpn
import Derived.Test.YtodeaddmachcjaaIdl
import Derived.Test.YtodeaddmachcjaaIdb
import Derived.Deep.RegionHeld3
import Derived.WalkKit
import Derived.ProofKit
import Derived.OpenShut
import Derived.ShutString
import Derived.ChangeOld
import Derived.Below
namespace Go.Proofs.Ytodeaddmachcjaa.identWins
open Go.ChangeShapes Go.WideShapes Go.ChangeAt Go.RowKit
theorem own : ownKnob Try.prog.godebug = none := by kernel_rfl
theorem laidOut : laidOutB Try.prog = true := by kernel_rfl
theorem tri_cells (w : World) (x y z : Value) (T : TypeId) : (w.alloc (.cells #[x, y, z] T)).cell? ⟨w.heap.size, 0, none⟩ = some x ∧ (w.alloc (.cells #[x, y, z] T)).cell? ⟨w.heap.size, 1, none⟩ = some y ∧ (w.alloc (.cells #[x, y, z] T)).cell? ⟨w.heap.size, 2, none⟩ = some z := ⟨by simp, by simp, by simp⟩
set_option maxHeartbeats 1000000 in
theorem walk (e0 : Bool) (n0 : Nat) (r0 : Bool) (e1 : Bool) (n1 : Nat) (r1 : Bool) (w0 : n0 < 4294967296) (w1 : n1 < 4294967296) (w : World) :
    Calls Try.prog 4 #[asksV e0 n0 r0, asksV e1 n1 r1] w fun e w' => e = .returned (.bool true) ∧ Below w.heap.size w w' := by
  have HW := Lib.hid (fun u => wins_any e0 n0 r0 e1 n1 r1 w0 w1 u)
  have HV := Lib.hid (fun u => refWins_any e0 n0 r0 e1 n1 r1 w0 w1 u)
  obtain ⟨b, hb⟩ : ∃ b, b = winsI e0 n0 r0 e1 n1 r1 := ⟨_, rfl⟩
  rw [← hb] at HW HV
  clear hb w0 w1
  unfold identV at HW HV
  unfold asksV
  go_enter Try.func4, Try.ntmps4
  go_wp2_with (fail)
  obtain ⟨wr, hwr⟩ : ∃ wr, wr = ((w.alloc (.cells #[.bool e0, .int .u32 (n0 : Int), .bool r0] 38)).alloc (.cells #[.bool e1, .int .u32 (n1 : Int), .bool r1] 38)) := ⟨_, rfl⟩
  have HB := Lib.hid (show Below w.heap.size w wr by rw [hwr]; exact ((Below.refl _ w).alloc (Nat.le_refl _) _).alloc (by simp) _)
  have hsz : w.heap.size + 2 ≤ wr.heap.size := by rw [hwr]; simp
  have T1 := tri_cells (w.alloc (.cells #[.bool e0, .int .u32 (n0 : Int), .bool r0] 38)) (.bool e1) (.int .u32 (n1 : Int)) (.bool r1) 38
  rw [World.size_alloc, ← hwr] at T1
  have T0 := tri_cells w (.bool e0) (.int .u32 (n0 : Int)) (.bool r0) 38
  have hup : Below (w.heap.size + 1) (w.alloc (.cells #[.bool e0, .int .u32 (n0 : Int), .bool r0] 38)) wr := by rw [hwr]; exact (Below.refl _ _).alloc (by simp) _
  have C0 := (hup.cell (p := ⟨w.heap.size, 0, none⟩) (Nat.lt_succ_self _)).trans T0.1
  have C1 := (hup.cell (p := ⟨w.heap.size, 1, none⟩) (Nat.lt_succ_self _)).trans T0.2.1
  have C2 := (hup.cell (p := ⟨w.heap.size, 2, none⟩) (Nat.lt_succ_self _)).trans T0.2.2
  have HS := Lib.hid (show ∀ u, Below wr.heap.size wr u → Below wr.heap.size wr u ∧ u.cell? ⟨w.heap.size, 0, none⟩ = some (.bool e0) ∧ u.cell? ⟨w.heap.size, 1, none⟩ = some (.int .u32 (n0 : Int)) ∧ u.cell? ⟨w.heap.size, 2, none⟩ = some (.bool r0) ∧ u.cell? ⟨w.heap.size + 1, 0, none⟩ = some (.bool e1) ∧ u.cell? ⟨w.heap.size + 1, 1, none⟩ = some (.int .u32 (n1 : Int)) ∧ u.cell? ⟨w.heap.size + 1, 2, none⟩ = some (.bool r1) from fun u hu => ⟨hu, ((bcell2 hu).1 _ _ (by omega)).trans C0, ((bcell2 hu).1 _ _ (by omega)).trans C1, ((bcell2 hu).1 _ _ (by omega)).trans C2, ((bcell2 hu).1 _ _ (by omega)).trans T1.1, ((bcell2 hu).1 _ _ (by omega)).trans T1.2.1, ((bcell2 hu).1 _ _ (by omega)).trans T1.2.2⟩)
  rw [← hwr]
  clear hwr T0 T1 hup C0 C1 C2 hsz
  have HL := Lib.hid (show ∀ u, Below wr.heap.size wr u ∧ u.cell? ⟨w.heap.size, 0, none⟩ = some (.bool e0) ∧ u.cell? ⟨w.heap.size, 1, none⟩ = some (.int .u32 (n0 : Int)) ∧ u.cell? ⟨w.heap.size, 2, none⟩ = some (.bool r0) ∧ u.cell? ⟨w.heap.size + 1, 0, none⟩ = some (.bool e1) ∧ u.cell? ⟨w.heap.size + 1, 1, none⟩ = some (.int .u32 (n1 : Int)) ∧ u.cell? ⟨w.heap.size + 1, 2, none⟩ = some (.bool r1) → Calls Try.prog 8 #[] u fun x w' => x = .returned (.bool true) ∧ Below wr.heap.size wr w' ∧ w'.cell? ⟨w.heap.size, 0, none⟩ = some (.bool e0) ∧ w'.cell? ⟨w.heap.size, 1, none⟩ = some (.int .u32 (n0 : Int)) ∧ w'.cell? ⟨w.heap.size, 2, none⟩ = some (.bool r0) ∧ w'.cell? ⟨w.heap.size + 1, 0, none⟩ = some (.bool e1) ∧ w'.cell? ⟨w.heap.size + 1, 1, none⟩ = some (.int .u32 (n1 : Int)) ∧ w'.cell? ⟨w.heap.size + 1, 2, none⟩ = some (.bool r1) from fun u hu => (live5 u).mono fun _ _ h => ⟨h.1, HS.out _ (below_trans' hu.1 h.2)⟩)
  have HW := Lib.hid (show ∀ u, Below wr.heap.size wr u ∧ u.cell? ⟨w.heap.size, 0, none⟩ = some (.bool e0) ∧ u.cell? ⟨w.heap.size, 1, none⟩ = some (.int .u32 (n0 : Int)) ∧ u.cell? ⟨w.heap.size, 2, none⟩ = some (.bool r0) ∧ u.cell? ⟨w.heap.size + 1, 0, none⟩ = some (.bool e1) ∧ u.cell? ⟨w.heap.size + 1, 1, none⟩ = some (.int .u32 (n1 : Int)) ∧ u.cell? ⟨w.heap.size + 1, 2, none⟩ = some (.bool r1) → Calls Try.prog 22 _ u fun x w' => x = .returned (.bool b) ∧ Below wr.heap.size wr w' ∧ w'.cell? ⟨w.heap.size, 0, none⟩ = some (.bool e0) ∧ w'.cell? ⟨w.heap.size, 1, none⟩ = some (.int .u32 (n0 : Int)) ∧ w'.cell? ⟨w.heap.size, 2, none⟩ = some (.bool r0) ∧ w'.cell? ⟨w.heap.size + 1, 0, none⟩ = some (.bool e1) ∧ w'.cell? ⟨w.heap.size + 1, 1, none⟩ = some (.int .u32 (n1 : Int)) ∧ w'.cell? ⟨w.heap.size + 1, 2, none⟩ = some (.bool r1) from fun u hu => (HW.out u).mono fun _ _ h => ⟨h.1, HS.out _ (below_trans' hu.1 h.2)⟩)
  have HV := Lib.hid (show ∀ u, Below wr.heap.size wr u ∧ u.cell? ⟨w.heap.size, 0, none⟩ = some (.bool e0) ∧ u.cell? ⟨w.heap.size, 1, none⟩ = some (.int .u32 (n0 : Int)) ∧ u.cell? ⟨w.heap.size, 2, none⟩ = some (.bool r0) ∧ u.cell? ⟨w.heap.size + 1, 0, none⟩ = some (.bool e1) ∧ u.cell? ⟨w.heap.size + 1, 1, none⟩ = some (.int .u32 (n1 : Int)) ∧ u.cell? ⟨w.heap.size + 1, 2, none⟩ = some (.bool r1) → Calls Try.prog 23 _ u fun x w' => x = .returned (.bool b) ∧ Below wr.heap.size wr w' ∧ w'.cell? ⟨w.heap.size, 0, none⟩ = some (.bool e0) ∧ w'.cell? ⟨w.heap.size, 1, none⟩ = some (.int .u32 (n0 : Int)) ∧ w'.cell? ⟨w.heap.size, 2, none⟩ = some (.bool r0) ∧ w'.cell? ⟨w.heap.size + 1, 0, none⟩ = some (.bool e1) ∧ w'.cell? ⟨w.heap.size + 1, 1, none⟩ = some (.int .u32 (n1 : Int)) ∧ w'.cell? ⟨w.heap.size + 1, 2, none⟩ = some (.bool r1) from fun u hu => (HV.out u).mono fun _ _ h => ⟨h.1, HS.out _ (below_trans' hu.1 h.2)⟩)
  have h0 := HS.out _ (Below.refl wr.heap.size wr).drew
  have hbb : (b == b) = true := by simp
  go_region_held3 (fun w' => Below wr.heap.size wr w' ∧ w'.cell? ⟨w.heap.size, 0, none⟩ = some (.bool e0) ∧ w'.cell? ⟨w.heap.size, 1, none⟩ = some (.int .u32 (n0 : Int)) ∧ w'.cell? ⟨w.heap.size, 2, none⟩ = some (.bool r0) ∧ w'.cell? ⟨w.heap.size + 1, 0, none⟩ = some (.bool e1) ∧ w'.cell? ⟨w.heap.size + 1, 1, none⟩ = some (.int .u32 (n1 : Int)) ∧ w'.cell? ⟨w.heap.size + 1, 2, none⟩ = some (.bool r1)) (assumption) (first | (go_at_call 8; refine (HL.out _ (by assumption)).mono ?_; rintro x w3 ⟨rfl, h3⟩) | (go_at_call 22; refine (HW.out _ (by assumption)).mono ?_; rintro x w4 ⟨rfl, h4⟩) | (go_at_call 23; refine (HV.out _ (by assumption)).mono ?_; rintro x w5 ⟨rfl, h5⟩))
  have HE := Lib.hid (HB.out.trans (h5.1.mono (HB.out.size)))
  clear h3 h4 h5 h0
  go_wp2_with (fail)
  go_ret
  exact ⟨rfl, HE.out⟩
set_option maxRecDepth 100000 in
theorem lifted (os : Os) (started : os.Started) (H : Type) (enc : TypeId × Value → H) :
    ReturnsInHanded {} Try.checked os 4 .any (Rows.identWinsSpec.pre6 enc Try.prog Try.f4 Rows.identWinsRow.domain false) (Rows.identWinsSpec.post enc Try.prog Try.f4 false true false false) := by
  refine returnsInHanded_of_change (C := Try.checked) own started (by kernel_rfl) Try.func4
    (ChangeSpec.witness6 (enc := enc) (C := Try.checked) false ⟨#[], #[.agg #[.bool false, .int .u32 0, .bool false], .agg #[.bool false, .int .u32 0, .bool false]], []⟩ 8 (by kernel_rfl) (by kernel_rfl) (by kernel_rfl) (by kernel_rfl)) ?_
  intro W base args ds gs before hval0 hW _ _
  have hval : ∀ (j : Nat) t v, Try.f4.params[j]? = some t → args[j]? = some v → Value.okWide Try.prog W .any base t v := hval0
  have hW' := hW
  obtain ⟨p, q, hA0, hV, rfl, hfz, hnd⟩ := hW
  have hA : DataW.TrodAll enc Try.prog W 0 (fun _ => true) true Try.f4.params.toList args.toList ds p := hA0
  rw [Try.params4] at hA hval
  obtain ⟨v0, vs0, d0, ds0, p0, q0, hargs, rfl, rfl, h0, r0⟩ := trodAll_cons hA
  obtain ⟨v1, vs1, d1, ds1, p1, q1, rfl, rfl, rfl, h1, r1⟩ := trodAll_cons r0
  obtain ⟨rfl, rfl, rfl⟩ := trodAll_nil r1
  obtain rfl : args = #[v0, v1] := by cases args; simp_all
  obtain ⟨rfl, rfl⟩ := trodVars_none hV
  have k0 := h0
  have lt0 : ∀ x ∈ p0, x.block < W.heap.size := by obtain ⟨m, hm⟩ := k0; exact DataW.trod_lt m _ _ _ hm
  obtain ⟨e0, n0, q0, rfl, w0⟩ := open_asks (hval 0 38 v0 rfl rfl) h0
  have k1 := h1
  have lt1 : ∀ x ∈ p1, x.block < W.heap.size := by obtain ⟨m, hm⟩ := k1; exact DataW.trod_lt m _ _ _ hm
  obtain ⟨e1, n1, q1, rfl, w1⟩ := open_asks (hval 1 38 v1 rfl rfl) h1
  clear hA0 hval0
  refine (walk e0 n0 q0 e1 n1 q1 w0 w1 W).mono fun e W' ⟨he, bel⟩ => ?_
  subst he
  exact ⟨_, rfl, _, _, _, [], _, [], hW', trodAll_mk1 (shut_bool Try.underlying4 _), (trodAll_cons_mk (Below.trod laidOut (by kernel_rfl) (of_decide_eq_true (by kernel_rfl)) k0 bel lt0) (trodAll_cons_mk (Below.trod laidOut (by kernel_rfl) (of_decide_eq_true (by kernel_rfl)) k1 bel lt1) trodAll_mk0)), rfl, bel.frame _, fun h => by cases h⟩
theorem over : Rows.identWinsRow.holds Try.pinned (OpenSpec.ofChange Rows.identWinsSpec) :=
  OpenClaim.holds_of_wide 4 Try.f4 rfl rfl rfl rfl rfl rfl rfl ⟨rfl, rfl, rfl, rfl, rfl⟩ rfl rfl rfl rfl rfl (by kernel_rfl) Try.func4 (by kernel_rfl)
    (of_decide_eq_true (by kernel_rfl)) (by unfold Func.isWrapper; first | (rw [if_pos (by decide +kernel)]; kernel_rfl) | (rw [if_neg (by decide +kernel)]; exact ⟨rfl, rfl⟩))
    (fun os started H enc _ => lifted os started H enc)
/-- The statement. -/
theorem proved : Rows.IdentWinsSaid := over
end Go.Proofs.Ytodeaddmachcjaa.identWins
