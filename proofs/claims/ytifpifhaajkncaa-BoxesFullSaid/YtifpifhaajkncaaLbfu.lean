/- BoxesFull (P13.4): of every number of mailboxes, and which one: what is full takes no more, and loses nothing; what was taken can be put again, where it was. No conditions. -/
import Derived.Test.YtifpifhaajkncaaRows
import Derived.Test.YtifpifhaajkncaaBxf
import Derived.Test.YtifpifhaajkncaaOpg
import Derived.WalkKit
import Derived.ProofKit
import Derived.OpenShut
import Derived.ShutString
import Derived.ChangeOld
import Derived.Below
namespace Go.Proofs.Ytifpifhaajkncaa.boxesFull
open Go.ChangeShapes Go.WideShapes Go.ChangeAt Go.RowKit
theorem own : ownKnob Try.prog.godebug = none := by kernel_rfl
theorem laidOut : laidOutB Try.prog = true := by kernel_rfl
def pst (j : Nat) : PD := ⟨false, 0, false, 0, 0, 0, 0, 0, 0, 0, 0, 0, (j % 2 == 0), (j : Int)⟩
def p99 : PD := ⟨false, 0, false, 0, 0, 0, 0, 0, 0, 0, 0, 0, false, 99⟩
def ptw (j : Nat) : PD := ⟨false, 0, false, 0, 0, 0, 0, 0, 0, 0, 0, 0, false, (j : Int)⟩
def fullL (i : Nat) : List BD := (List.range 8).map fun j => if j < i then ⟨true, pst j⟩ else BD.zero
theorem fu_put : ∀ k : Fin 9, ∀ i : Fin 9, i.val < k.val → putF k.val (fullL i.val) (pst i.val) = ((i.val : Int), 0, fullL (i.val + 1)) := by decide +kernel
theorem fu_99 : ∀ k : Fin 9, 0 < k.val → putF k.val (fullL k.val) p99 = (-1, 6, fullL k.val) := by decide +kernel
theorem fu_tw : ∀ k : Fin 9, 0 < k.val → putF k.val (fullL k.val) (ptw (k.val - 1)) = (-1, 13, fullL k.val) := by decide +kernel
theorem fu_tk : ∀ k : Fin 9, ∀ i : Fin 9, i.val < k.val → takeF k.val (fullL k.val) (i.val : Int) = (pst i.val, 0, (fullL k.val).set i.val BD.zero) := by decide +kernel
theorem fu_bk : ∀ k : Fin 9, ∀ i : Fin 9, i.val < k.val → putF k.val ((fullL k.val).set i.val BD.zero) (pst i.val) = ((i.val : Int), 0, fullL k.val) := by decide +kernel
theorem fu_ln : ∀ k : Fin 9, lenF (fullL k.val) k.val = k.val := by decide +kernel
theorem fu_0 : fullL 0 = List.replicate 8 BD.zero := by decide +kernel
set_option maxRecDepth 100000 in
set_option maxHeartbeats 8000000 in
theorem walk (a0 a1 : Int) (w0 : (Lit.int .u8 a0).wf = true) (w1 : (Lit.int .u8 a1).wf = true) (w : World) :
    Calls Try.prog 5 #[.int .u8 a0, .int .u8 a1] w fun y w' => y = .returned (.bool true) ∧ Below w.heap.size w w' := by
  have ha := wfI8 w0
  have hb := wfI8 w1
  obtain ⟨k, hk⟩ : ∃ k : Nat, (k : Int) = a0 % 8 + 1 := ⟨(a0 % 8 + 1).toNat, by omega⟩
  have HK := Lib.hid (show 1 ≤ k ∧ k ≤ 8 by omega)
  have hk0 : (k : Int) ≠ 0 := by omega
  obtain ⟨at_, hat⟩ : ∃ at_ : Nat, (at_ : Int) = a1 % (k : Int) := ⟨(a1 % (k : Int)).toNat, by have := Int.emod_nonneg a1 hk0; omega⟩
  have HAT := Lib.hid (show at_ < k by have := Int.emod_lt_of_pos a1 (show (0 : Int) < (k : Int) by omega); omega)
  have q1 : Int.tmod a0 8 = a0 % 8 := Int.tmod_eq_emod_of_nonneg ha.1
  have q2 : a0 % 8 + 1 = (k : Int) := hk.symm
  have q3 : IntKind.i64.wrap (k : Int) = (k : Int) := by rw [IntKind.wrap_i64]; have := HK.out; omega
  have q4 : IntKind.i64.wrap a0 = a0 := by rw [IntKind.wrap_i64]; omega
  have q5 : IntKind.i64.wrap (a0 % 8) = a0 % 8 := by rw [IntKind.wrap_i64]; omega
  have q6 : IntKind.i64.wrap a1 = a1 := by rw [IntKind.wrap_i64]; omega
  have q7 : Int.tmod a1 (k : Int) = (at_ : Int) := by rw [Int.tmod_eq_emod_of_nonneg hb.1]; exact hat.symm
  have q8 : IntKind.i64.wrap (at_ : Int) = (at_ : Int) := by rw [IntKind.wrap_i64]; have := HAT.out; have := HK.out; omega
  have q9 : ((k : Int) == 0) = false := by rw [beq_eq_false_iff_ne]; exact hk0
  have q10 : IntKind.i64.wrap ((k : Int) - 1) = ((k - 1 : Nat) : Int) := by rw [IntKind.wrap_i64]; have := HK.out; omega
  have HNW := Lib.hid (new_any k HK.out.1 HK.out.2 w)
  rw [← fu_0] at HNW
  have HPU := Lib.hid (fun (i : Nat) (hi : i < k) => fu_put ⟨k, by have := HK.out; omega⟩ ⟨i, by have := HK.out; omega⟩ hi)
  have HP9 := Lib.hid (fu_99 ⟨k, by have := HK.out; omega⟩ HK.out.1)
  have HPT := Lib.hid (fu_tw ⟨k, by have := HK.out; omega⟩ HK.out.1)
  have HTK := Lib.hid (fu_tk ⟨k, by have := HK.out; omega⟩ ⟨at_, by have := HK.out; have := HAT.out; omega⟩ HAT.out)
  have HBK := Lib.hid (fu_bk ⟨k, by have := HK.out; omega⟩ ⟨at_, by have := HK.out; have := HAT.out; omega⟩ HAT.out)
  have HLN := Lib.hid (fu_ln ⟨k, by have := HK.out; omega⟩)
  simp only at HPU HP9 HPT HTK HBK HLN
  obtain ⟨B, hB⟩ : ∃ B, B = w.heap.size := ⟨_, rfl⟩
  have HBB := Lib.hid hB
  rw [← hB] at HNW
  clear hB ha hb w0 w1 hk hat
  go_enter Try.func5, Try.ntmps5
  go_wp2_with fail
  refine HNW.out.mono ?_
  rintro y w3 ⟨rfl, hx, hb⟩
  have HX3 := Lib.hid hx; have HB3 := Lib.hid (show Below w.heap.size w w3 by rw [← HBB.out]; exact hb)
  clear hx hb
  go_wp2_with fail
  go_loopw [8] (fun s8 wr => ∃ i : Nat, s8 = .int .i64 (i : Int) ∧ i ≤ k ∧ BxA wr B (fullL i) k ∧ Below w.heap.size w wr) (fun s8 _ => k - (intOf s8).toNat)
  case atStart => exact ⟨0, rfl, by omega, HX3.out, HB3.out⟩
  case round =>
    obtain ⟨i, rfl, hik, hx, hb⟩ := hrel
    have HX := Lib.hid hx; have HB := Lib.hid hb
    clear hx hb
    by_cases hlt : i < k
    · have i1 : (i : Int) < (k : Int) := by omega
      have HPP := Lib.hid (put_any B (fullL i) k (pst i) wr HX.out)
      rw [HPU.out i hlt] at HPP
      have r1 : Int.tmod (i : Int) 2 = ((i % 2 : Nat) : Int) := by rw [Int.tmod_eq_emod_of_nonneg (by omega)]; omega
      have r2 : IntKind.i64.wrap ((i % 2 : Nat) : Int) = ((i % 2 : Nat) : Int) := by rw [IntKind.wrap_i64]; omega
      obtain ⟨z, hz⟩ : ∃ z, z = (i % 2 == 0) := ⟨_, rfl⟩
      have r3 : (((i % 2 : Nat) : Int) == 0) = z := by rw [hz, Bool.eq_iff_iff, beq_iff_eq, beq_iff_eq]; omega
      have r4 : ((i : Int) % 2 == 0) = z := by rw [hz, Bool.eq_iff_iff, beq_iff_eq, beq_iff_eq]; omega
      unfold PD.V pst at HPP
      simp only at HPP
      rw [← hz] at HPP
      have HLT := Lib.hid hlt
      clear hz hlt
      go_wp2_with fail
      refine HPP.out.mono ?_
      rintro y w4 ⟨rfl, hx, hk⟩
      have HX4 := Lib.hid hx; have HB4 := Lib.hid (HB.out.trans (hk.belowN (by rw [HBB.out]; exact Nat.le_refl _) HB.out.size (fun g hg => by cases hg)))
      have kne : ((i : Int) != (i : Int)) = false := by simp
      clear hx hk
      go_wp2_with fail
      go_roundw
      case rel => exact ⟨i + 1, by simp, HLT.out, HX4.out, HB4.out⟩
      case measure => have := HLT.out; simp [intOf]; omega
    · obtain rfl : i = k := by omega
      have HPP := Lib.hid (put_any B (fullL i) i p99 wr HX.out)
      rw [HP9.out] at HPP
      unfold PD.V p99 at HPP
      simp only at HPP
      go_wp2_with fail
      refine HPP.out.mono ?_
      rintro y w4 ⟨rfl, hx, hk⟩
      have HX4 := Lib.hid hx; have HB4 := Lib.hid (HB.out.trans (hk.belowN (by rw [HBB.out]; exact Nat.le_refl _) HB.out.size (fun g hg => by cases hg)))
      have HPQ := Lib.hid (put_any B (fullL i) i (ptw (i - 1)) w4 hx)
      rw [HPT.out] at HPQ
      unfold PD.V ptw at HPQ
      simp only at HPQ
      clear hx hk HPP
      go_wp2_with fail
      refine HPQ.out.mono ?_
      rintro y w5 ⟨rfl, hx, hk⟩
      have HX5 := Lib.hid hx; have HB5 := Lib.hid (HB4.out.trans (hk.belowN (by rw [HBB.out]; exact Nat.le_refl _) HB4.out.size (fun g hg => by cases hg)))
      have HTT := Lib.hid (take_any B (fullL i) i (at_ : Int) w5 hx)
      rw [HTK.out] at HTT
      obtain ⟨z, hz⟩ : ∃ z, z = (at_ % 2 == 0) := ⟨_, rfl⟩
      unfold PD.V pst at HTT
      simp only at HTT
      rw [← hz] at HTT
      have HZ := Lib.hid hz
      clear hx hk HPQ hz
      go_wp2_with fail
      refine HTT.out.mono ?_
      rintro y w6 ⟨rfl, hx, hk⟩
      obtain ⟨W7, hW7⟩ : ∃ W7, W7 = w6.alloc (.cells #[.bool false, .int .u32 0, .bool false, .int .i64 0, .int .u8 0, .int .u8 0, .int .u8 0, .int .u8 0, .int .u8 0, .int .u8 0, .int .u8 0, .int .u8 0, .bool z, .int .i64 (at_ : Int)] 39) := ⟨_, rfl⟩
      have hb7 : Below w6.heap.size w6 W7 := by rw [hW7]; exact (Below.refl _ w6).alloc (Nat.le_refl _) _
      have HX7 := Lib.hid (hx.on hb7); have HB7 := Lib.hid (below_transG (HB5.out.trans (hk.belowN (by rw [HBB.out]; exact Nat.le_refl _) HB5.out.size (fun g hg => by cases hg))) hb7)
      have HS7 := Lib.hid (show Blk W7 w6.heap.size 39 [.bool false, .int .u32 0, .bool false, .int .i64 0, .int .u8 0, .int .u8 0, .int .u8 0, .int .u8 0, .int .u8 0, .int .u8 0, .int .u8 0, .int .u8 0, .bool z, .int .i64 (at_ : Int)] by rw [hW7]; exact Blk.new w6 _ [.bool false, .int .u32 0, .bool false, .int .i64 0, .int .u8 0, .int .u8 0, .int .u8 0, .int .u8 0, .int .u8 0, .int .u8 0, .int .u8 0, .int .u8 0, .bool z, .int .i64 (at_ : Int)])
      have HDB := Lib.hid (show B ≠ w6.heap.size by have := hx.lt; omega)
      clear hx hk hb7 HTT
      go_upto_region 15 with fail
      rw [← hW7]
      clear hW7
      obtain ⟨D, hD⟩ : ∃ D, D = w6.heap.size := ⟨_, rfl⟩
      rw [← hD] at HS7 HDB ⊢
      clear hD
      have HPR := Lib.hid (put_any B _ i (pst at_) W7 HX7.out)
      rw [HBK.out] at HPR
      unfold PD.V pst at HPR
      simp only at HPR
      rw [← HZ.out] at HPR
      have hS := HS7.out
      have d0 := hS.cellAt (i := 0) (by simp)
      have f0 := hS.frozenAt 0
      have d1 := hS.cellAt (i := 1) (by simp)
      have f1 := hS.frozenAt 1
      have d2 := hS.cellAt (i := 2) (by simp)
      have f2 := hS.frozenAt 2
      have d3 := hS.cellAt (i := 3) (by simp)
      have f3 := hS.frozenAt 3
      have d4 := hS.cellAt (i := 4) (by simp)
      have f4 := hS.frozenAt 4
      have d5 := hS.cellAt (i := 5) (by simp)
      have f5 := hS.frozenAt 5
      have d6 := hS.cellAt (i := 6) (by simp)
      have f6 := hS.frozenAt 6
      have d7 := hS.cellAt (i := 7) (by simp)
      have f7 := hS.frozenAt 7
      have d8 := hS.cellAt (i := 8) (by simp)
      have f8 := hS.frozenAt 8
      have d9 := hS.cellAt (i := 9) (by simp)
      have f9 := hS.frozenAt 9
      have d10 := hS.cellAt (i := 10) (by simp)
      have f10 := hS.frozenAt 10
      have d11 := hS.cellAt (i := 11) (by simp)
      have f11 := hS.frozenAt 11
      have d12 := hS.cellAt (i := 12) (by simp)
      have f12 := hS.frozenAt 12
      have d13 := hS.cellAt (i := 13) (by simp)
      have f13 := hS.frozenAt 13
      simp only [List.getElem_cons_zero, List.getElem_cons_succ] at d0 d1 d2 d3 d4 d5 d6 d7 d8 d9 d10 d11 d12 d13
      clear hS
      go_wp2_with fail
      refine HPR.out.mono ?_
      rintro y w8 ⟨rfl, hx, hk⟩
      have HX8 := Lib.hid hx; have HB8 := Lib.hid (HB7.out.trans (hk.belowN (by rw [HBB.out]; exact Nat.le_refl _) HB7.out.size (fun g hg => by cases hg)))
      have HS8 := Lib.hid (HS7.out.on (hk.block D HS7.out.lt (fun e => HDB.out e.symm) (by simp [Value.ownBlock])))
      clear hx hk HPR d0 d1 d2 d3 d4 d5 d6 d7 d8 d9 d10 d11 d12 d13 f0 f1 f2 f3 f4 f5 f6 f7 f8 f9 f10 f11 f12 f13
      go_wp2_with fail
      refine (live13 w8).mono ?_
      rintro y w9 ⟨rfl, hb⟩
      have HX9 := Lib.hid (HX8.out.on hb); have HB9 := Lib.hid (below_transG HB8.out hb)
      have hS := HS8.out.keep hb HS8.out.lt
      have d13 := hS.cellAt (i := 13) (by simp)
      simp only [List.getElem_cons_zero, List.getElem_cons_succ] at d13
      have HLE := Lib.hid (blen_any B _ i w9 HX9.out)
      rw [HLN.out] at HLE
      have kat : ((at_ : Int) == (at_ : Int)) = true := by simp
      have kkk : ((i : Int) == (i : Int)) = true := by simp
      clear hb hS
      go_wp2_with fail
      refine HLE.out.mono ?_
      rintro y w10 ⟨rfl, hb⟩
      have HB10 := Lib.hid (below_transG HB9.out hb)
      clear hb
      go_wp2_with fail
      go_ret
      exact ⟨rfl, HB10.out⟩
set_option maxRecDepth 100000 in
theorem lifted (os : Os) (started : os.Started) (H : Type) (enc : TypeId × Value → H) :
    ReturnsInHanded {} Try.checked os 5 .any (Rows.boxesFullSpec.pre6 enc Try.prog Try.f5 Rows.boxesFullRow.domain false) (Rows.boxesFullSpec.post enc Try.prog Try.f5 false true false false) := by
  refine returnsInHanded_of_change (C := Try.checked) own started (by kernel_rfl) Try.func5
    (ChangeSpec.witness6 (enc := enc) (C := Try.checked) false ⟨#[], #[.int .u8 0, .int .u8 0], []⟩ 8 (by kernel_rfl) (by kernel_rfl) (by kernel_rfl) (by kernel_rfl)) ?_
  intro W base args ds gs before hval0 hW _ _
  have hval : ∀ (j : Nat) t v, Try.f5.params[j]? = some t → args[j]? = some v → Value.okWide Try.prog W .any base t v := hval0
  have hW' := hW
  obtain ⟨p, q, hA0, hV, rfl, hfz, hnd⟩ := hW
  have hA : DataW.TrodAll enc Try.prog W 0 (fun _ => true) true Try.f5.params.toList args.toList ds p := hA0
  rw [Try.params5] at hA hval
  obtain ⟨v0, vs0, d0, ds0, p0, q0, hargs, rfl, rfl, h0, r0⟩ := trodAll_cons hA
  obtain ⟨v1, vs1, d1, ds1, p1, q1, rfl, rfl, rfl, h1, r1⟩ := trodAll_cons r0
  obtain ⟨rfl, rfl, rfl⟩ := trodAll_nil r1
  obtain rfl : args = #[v0, v1] := by cases args; simp_all
  obtain ⟨rfl, rfl⟩ := trodVars_none hV
  obtain ⟨a0, rfl, rfl, rfl, w0⟩ := open_int Try.underlying5 (hval 0 5 v0 rfl rfl) h0
  obtain ⟨a1, rfl, rfl, rfl, w1⟩ := open_int Try.underlying5 (hval 1 5 v1 rfl rfl) h1
  clear hA0 hval0
  refine (walk a0 a1 w0 w1 W).mono fun e W' ⟨he, bel⟩ => ?_
  subst he
  exact ⟨_, rfl, _, _, _, [], _, [], hW', trodAll_mk1 (shut_bool Try.underlying4 _), (trodAll_cons_mk (shut_int Try.underlying5 w0) (trodAll_cons_mk (shut_int Try.underlying5 w1) trodAll_mk0)), rfl, bel.frame _, fun h => by cases h⟩
theorem over : Rows.boxesFullRow.holds Try.pinned (OpenSpec.ofChange Rows.boxesFullSpec) :=
  OpenClaim.holds_of_wide 5 Try.f5 rfl rfl rfl rfl rfl rfl rfl ⟨rfl, rfl, rfl, rfl, rfl⟩ rfl rfl rfl rfl rfl (by kernel_rfl) Try.func5 (by kernel_rfl)
    (of_decide_eq_true (by kernel_rfl)) (by unfold Func.isWrapper; first | (rw [if_pos (by decide +kernel)]; kernel_rfl) | (rw [if_neg (by decide +kernel)]; exact ⟨rfl, rfl⟩))
    (fun os started H enc _ => lifted os started H enc)
/-- The statement. -/
theorem proved : Rows.BoxesFullSaid := over
end Go.Proofs.Ytifpifhaajkncaa.boxesFull
