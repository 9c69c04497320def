/- The statement that a number and the bits of both its halves are one holds: for every number of 64 bits the law answers true. No conditions. -/
import Derived.Test.YtggohojgmlchbaaRows
import Derived.Test.YtggohojgmlchbaaExl
import Derived.Test.YtggohojgmlchbaaSto
import Derived.WalkKit
import Derived.ProofKit
import Derived.OpenShut
import Derived.ShutString
import Derived.ChangeOld
import Derived.Below
namespace Go.Proofs.Ytggohojgmlchbaa.topNumbers
open Go.ChangeShapes Go.WideShapes Go.ChangeAt Go.RowKit
theorem own : ownKnob Try.prog.godebug = none := by kernel_rfl
theorem laidOut : laidOutB Try.prog = true := by kernel_rfl
theorem made_take {W : World} {b : Nat} {bs : List Nat} (k : Nat) (hk : k ≤ bs.length) (hl : bs.length ≤ 281474976710656) (hr : W.rowIs b 5 bs.length (fun j => .int .u8 ((bs[j]?.getD 0 : Nat) : Int))) : Str W.heap.size W (.slice (some ⟨b, 0, none⟩) k bs.length) (bs.take k) := by
  refine .inr ⟨b, 0, bs.length, by rw [List.length_take, Nat.min_eq_left hk], by rw [List.length_take]; omega, by omega, hr.lt, fun j hj => ?_⟩
  rw [List.length_take] at hj
  rw [Nat.zero_add, hr.cell (by omega), List.getElem?_take_of_lt (by omega)]
theorem made_drop {W : World} {b : Nat} {bs : List Nat} (k : Nat) (hk : k ≤ bs.length) (hl : bs.length ≤ 281474976710656) (hr : W.rowIs b 5 bs.length (fun j => .int .u8 ((bs[j]?.getD 0 : Nat) : Int))) : Str W.heap.size W (.slice (some ⟨b, k, none⟩) (bs.length - k) (bs.length - k)) (bs.drop k) := by
  refine .inr ⟨b, k, bs.length - k, by rw [List.length_drop], by rw [List.length_drop]; omega, by omega, hr.lt, fun j hj => ?_⟩
  rw [List.length_drop] at hj
  rw [hr.cell (by omega), List.getElem?_drop]
theorem mask62 (a : Nat) (ha : a < 18446744073709551616) : bits .and .u64 (a : Int) 4611686018427387903 = ((a % 4611686018427387904 : Nat) : Int) := by
  have h := bits_and_u64_nat a 4611686018427387903 ha (by omega)
  have e : a &&& 4611686018427387903 = a % 4611686018427387904 := Nat.and_two_pow_sub_one_eq_mod a 62
  rw [e] at h
  exact h
set_option maxHeartbeats 400000 in
theorem walk (a0 : Int) (w0 : (Lit.int .u64 a0).wf = true) (w : World) :
    Calls Try.prog 14 #[.int .u64 a0] w fun e w' => e = .returned (.bool true) ∧ Below w.heap.size w w' := by
  have h0 := wfu64 w0
  clear w0
  obtain ⟨n, rfl⟩ : ∃ n : Nat, a0 = n := ⟨a0.toNat, by omega⟩
  obtain ⟨m, hm⟩ : ∃ m, m = n % 4611686018427387904 := ⟨_, rfl⟩
  have em : bits .and .u64 (n : Int) 4611686018427387903 = (m : Int) := by rw [mask62 n (by omega), hm]
  have hmb : m < 4611686018427387904 := by omega
  clear hm
  go_enter Try.func14, Try.ntmps14
  go_wp2_with (fail)
  refine (of_yes m 64 (by omega) (by omega) (by omega) _).mono ?_
  rintro e w1 ⟨v, rfl, ⟨b, rfl, hbB, hbl, hrow⟩, hb1⟩
  have hl := ofB_length m 64
  have S1 := made_take 32 (by omega) hbl hrow
  have S2 := made_drop 32 (by omega) hbl hrow
  rw [ofB_take m 32 64 (by omega), hl] at S1
  rw [ofB_drop m 32 64, hl] at S2
  rw [hl]
  have HS1 := Lib.hid S1; have HS2 := Lib.hid S2; have HB1 := Lib.hid hb1
  clear S1 S2 hb1 hrow hl hbl
  obtain ⟨H, hH⟩ : ∃ H, H = m / 4294967296 := ⟨_, rfl⟩
  obtain ⟨L, hL⟩ : ∃ L, L = m % 4294967296 := ⟨_, rfl⟩
  have N1 := fun u hu => number_any (some ⟨b, 0, none⟩) 32 64 (ofB (m / 2 ^ (64 - 32)) 32) (by rw [ofB_length]; omega) u hu
  have N2 := fun u hu => number_any (some ⟨b, 32, none⟩) 32 32 (ofB m (64 - 32)) (by rw [ofB_length]; omega) u hu
  rw [bitsOf_ofB, numB_ofB _ _ (by omega), show m / 2 ^ (64 - 32) % 2 ^ 32 = H by omega] at N1
  rw [bitsOf_ofB, numB_ofB _ _ (by omega), show m % 2 ^ (64 - 32) = L by omega] at N2
  have hHb : H < 1073741824 := by omega
  have hLb : L < 4294967296 := by omega
  have M1 := fun u => mul_ex (H : Int) 4294967296 (by omega) (by omega) u
  have A1 := fun u => add_ex ((H : Int) * 4294967296) (L : Int) (by omega) (by omega) u
  rw [show (H : Int) * 4294967296 + (L : Int) = (m : Int) by omega] at A1
  unfold okV at M1 A1
  rw [fit_yes (by omega), cut_yes (by omega)] at M1 A1
  have G1 := Lib.hid N1; have G2 := Lib.hid N2; have G3 := Lib.hid M1; have G4 := Lib.hid A1
  clear N1 N2 M1 A1 hH hL
  go_wp2_with (fail)
  refine (G1.out _ HS1.out).mono ?_
  rintro e w2 ⟨rfl, hb2⟩
  have HS2b := Lib.hid ((HS2.out.below hb2).mono hb2.size)
  have HB2 := Lib.hid (HB1.out.trans (hb2.mono HB1.out.size)); clear hb2 HB1 HS1 HS2
  go_wp2_with (fail)
  refine (G3.out _).mono ?_
  rintro e w3 ⟨rfl, hb3⟩
  have HS3 := Lib.hid ((HS2b.out.below hb3).mono hb3.size)
  have HB3 := Lib.hid (HB2.out.trans (hb3.mono HB2.out.size)); clear hb3 HB2 HS2b
  go_wp2_with (fail)
  refine (G2.out _ HS3.out).mono ?_
  rintro e w4 ⟨rfl, hb4⟩
  have HB4 := Lib.hid (HB3.out.trans (hb4.mono HB3.out.size)); clear hb4 HB3 HS3
  go_wp2_with (fail)
  refine (G4.out _).mono ?_
  rintro e w5 ⟨rfl, rfl⟩
  go_wp2_with (fail)
  go_ret
  exact ⟨rfl, HB4.out⟩
set_option maxRecDepth 100000 in
theorem lifted (os : Os) (started : os.Started) (H : Type) (enc : TypeId × Value → H) :
    ReturnsInHanded {} Try.checked os 14 .any (Rows.topNumbersSpec.pre6 enc Try.prog Try.f14 Rows.topNumbersRow.domain false) (Rows.topNumbersSpec.post enc Try.prog Try.f14 false true false false) := by
  refine returnsInHanded_of_change (C := Try.checked) own started (by kernel_rfl) Try.func14
    (ChangeSpec.witness6 (enc := enc) (C := Try.checked) false ⟨#[], #[.int .u64 0], []⟩ 8 (by kernel_rfl) (by kernel_rfl) (by kernel_rfl) (by kernel_rfl)) ?_
  intro W base args ds gs before hval0 hW _ _
  have hval : ∀ (j : Nat) t v, Try.f14.params[j]? = some t → args[j]? = some v → Value.okWide Try.prog W .any base t v := hval0
  have hW' := hW
  obtain ⟨p, q, hA0, hV, rfl, hfz, hnd⟩ := hW
  have hA : DataW.TrodAll enc Try.prog W 0 (fun _ => true) true Try.f14.params.toList args.toList ds p := hA0
  rw [Try.params14] at hA hval
  obtain ⟨v0, vs0, d0, ds0, p0, q0, hargs, rfl, rfl, h0, r0⟩ := trodAll_cons hA
  obtain ⟨rfl, rfl, rfl⟩ := trodAll_nil r0
  obtain rfl : args = #[v0] := by cases args; simp_all
  obtain ⟨rfl, rfl⟩ := trodVars_none hV
  obtain ⟨a0, rfl, rfl, rfl, w0⟩ := open_int Try.underlying29 (hval 0 29 v0 rfl rfl) h0
  clear hA0 hval0
  refine (walk a0 w0 W).mono fun e W' ⟨he, bel⟩ => ?_
  subst he
  exact ⟨_, rfl, _, _, _, [], _, [], hW', trodAll_mk1 (shut_bool Try.underlying4 _), (trodAll_cons_mk (shut_int Try.underlying29 w0) trodAll_mk0), rfl, bel.frame _, fun h => by cases h⟩
theorem over : Rows.topNumbersRow.holds Try.pinned (OpenSpec.ofChange Rows.topNumbersSpec) :=
  OpenClaim.holds_of_wide 14 Try.f14 rfl rfl rfl rfl rfl rfl rfl ⟨rfl, rfl, rfl, rfl, rfl⟩ rfl rfl rfl rfl rfl (by kernel_rfl) Try.func14 (by kernel_rfl)
    (of_decide_eq_true (by kernel_rfl)) (by unfold Func.isWrapper; first | (rw [if_pos (by decide +kernel)]; kernel_rfl) | (rw [if_neg (by decide +kernel)]; exact ⟨rfl, rfl⟩))
    (fun os started H enc _ => lifted os started H enc)
/-- The statement. -/
theorem proved : Rows.TopNumbersSaid := over
end Go.Proofs.Ytggohojgmlchbaa.topNumbers
