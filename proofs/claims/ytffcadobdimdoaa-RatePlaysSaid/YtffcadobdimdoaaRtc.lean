/- slices.Sort at []int64, of at most nine numbers of an array: they are sorted in place. Conditions: there are not more. -/
import Derived.Test.YtffcadobdimdoaaRtm
import Derived.Test.YtffcadobdimdoaaGna
import Derived.Test.YtffcadobdimdoaaQui
import Derived.Test.YtffcadobdimdoaaShelf
import Derived.Test.YtffcadobdimdoaaBas
import Derived.Deep.Cut
import Derived.Deep.DeepCutAuto
import Derived.LoopTactic
import Derived.Lib.Hide
import Derived.Outline
import Derived.Deep.RegionHeld3
namespace Go.Proofs.Ytffcadobdimdoaa
open Go.RowKit
def cI (R : List Int) : List Value := R.map (Value.int .i64)
theorem cI_len (R : List Int) : (cI R).length = R.length := by simp [cI]
theorem cI_set (R : List Int) (i : Nat) (v : Int) : (cI R).set i (.int .i64 v) = cI (R.set i v) := by simp [cI, List.map_set]
theorem cI_at {w : World} {D : Nat} {T : TypeId} {R : List Int} (h : Blk w D T (cI R)) {i : Nat} (hi : i < R.length) : w.cell? ⟨D, i, none⟩ = some (.int .i64 (gI R i)) := by
  have h1 := h.cellAt (i := i) (by rw [cI_len]; exact hi)
  rw [h1]
  simp only [cI, List.getElem_map]
  unfold gI; rw [List.getElem?_eq_getElem hi]; rfl
theorem nan_any (x : Int) (w : World) : Calls Try.prog 164 #[.int .i64 x] w fun y w' => y = .returned (.bool false) ∧ w = w' := by
  have h : (x != x) = false := by simp
  go_enter Try.func164, Try.ntmps164
  go_wp2_with fail
  go_ret
  exact ⟨rfl, rfl⟩
theorem less_any (x y : Int) (w : World) : Calls Try.prog 146 #[.int .i64 x, .int .i64 y] w fun z w' => z = .returned (.bool (decide (x < y))) ∧ w = w' := by
  go_enter Try.func146, Try.ntmps146
  go_wp2_with fail
  refine (nan_any _ _).mono ?_
  rintro z w1 ⟨rfl, rfl⟩
  go_wp2_with fail
  go_ret
  exact ⟨rfl, rfl⟩

theorem Kp.drewK {B : Nat} {v : Value} {w w2 : World} (h : Kp B v w w2) : Kp B v w w2.drew := ⟨h.os, h.tape, h.output, h.size, h.block⟩
theorem meas_up {k i : Nat} (z : Int) (h : z = ((i + 1 : Nat) : Int)) (hik : i < k) : k - z.toNat < k - ((i : Nat) : Int).toNat := by
  rw [h, Int.toNat_natCast, Int.toNat_natCast]; omega
theorem meas_dn {j q : Nat} (z : Int) (h : z = (q : Int)) (hq : j = q + 1) : z.toNat < ((j : Nat) : Int).toNat := by
  rw [h, Int.toNat_natCast, Int.toNat_natCast]; omega
set_option maxRecDepth 100000 in
set_option maxHeartbeats 8000000 in
theorem isort_any (D k : Nat) (T : TypeId) (R : List Int) (hR : R.length = 9) (hk : k ≤ 9) (hk1 : 1 ≤ k) (w : World) (hB : Blk w D T (cI R)) : Calls Try.prog 140 #[.slice (some ⟨D, 0, none⟩) k 9, .int .i64 0, .int .i64 (k : Int)] w fun y w' => y = .returned (.tuple #[]) ∧ ∃ R', SrI R k k R' ∧ Blk w' D T (cI R') ∧ Kp D (.slice none 0 0) w w' := by
  have HB := Lib.hid hB; have HR := Lib.hid hR; have HK := Lib.hid (And.intro hk1 hk)
  clear hB hR hk hk1
  go_enter Try.func140, Try.ntmps140
  go_wp2_with fail
  go_loopw [6] (fun s6 wr => ∃ (i : Nat) (R1 : List Int), s6 = .int .i64 (i : Int) ∧ 1 ≤ i ∧ i ≤ k ∧ SrI R k i R1 ∧ Blk wr D T (cI R1) ∧ Kp D (.slice none 0 0) w wr) (fun s6 _ => k - (intOf s6).toNat)
  case atStart => exact ⟨1, R, rfl, by omega, HK.out.1, SrI.nought R k, HB.out, Kp.refl _ _ _⟩
  case round =>
    obtain ⟨i, R1, rfl, hi1, hik, hS, hB1, hK1⟩ := hrel
    have HS1 := Lib.hid hS; have HB1 := Lib.hid hB1; have HK1 := Lib.hid hK1; have HI := Lib.hid (And.intro hi1 hik)
    clear hS hB1 hK1 HB
    by_cases hgo : i < k
    · have i1 : (i : Int) < (k : Int) := by omega
      have HGO := Lib.hid hgo
      have HWI := Lib.hid (show wrap64 ((i : Int) + 1) = ((i + 1 : Nat) : Int) from (w64_in _ (by have := HK.out; omega)).trans (by omega))
      obtain ⟨wo, hwo⟩ : ∃ wo, wo = wr := ⟨_, rfl⟩
      rw [← hwo] at HB1 HK1 ⊢
      clear hwo hgo
      go_wp2_with fail
      go_loopw [7] (fun s7 wr => ∃ (j : Nat) (R2 : List Int), s7 = .int .i64 (j : Int) ∧ j ≤ i ∧ SrJ R k i j R2 ∧ Blk wr D T (cI R2) ∧ Kp D (.slice none 0 0) w wr) (fun s7 _ => (intOf s7).toNat)
      case atStart => exact ⟨i, R1, rfl, Nat.le_refl _, HS1.out.enter, HB1.out, HK1.out⟩
      case round =>
        obtain ⟨j, R2, rfl, hji, hS, hB2, hK2⟩ := hrel
        have HS2 := Lib.hid hS; have HB2 := Lib.hid hB2; have HK2 := Lib.hid hK2
        clear hS hB2 hK2
        by_cases hj : j = 0
        · have j1 : ¬ (0 : Int) < (j : Int) := by omega
          have j1n : ¬ 0 < j := by omega
          have HJ := Lib.hid hj
          clear hj
          go_upto_region 4 with fail
          refine wp_region_class (C := fun u => u = wr.drew) (by kernel_rfl) (by kernel_rfl) (rfl) ?_
          repeat
            with_reducible refine wpQuiet_step (fun K hK => ?_)
            first
              | (refine quiet_skip (by rfl) ?_; (with_reducible refine hK _ ?_); clear hK K)
              | (refine quiet_want (by rfl) ?_
                 apply Exists.intro
                 refine ⟨fun x hx => ?_, hK _ ?_⟩
                 (obtain _ := id hx; go_simp; first | done | rfl | (fail))
                 clear hK K)
            try simp only [Act.put, List.setIfInBounds_toArray, List.set_cons_zero, List.set_cons_succ]
          with_reducible refine wpQuiet_nil ?_
          intro wq hq
          obtain rfl := hq
          go_wp2_with fail
          go_roundw
          case rel => exact ⟨i + 1, R2, congrArg (Value.int .i64) HWI.out, by have := HI.out; omega, by have := HGO.out; omega, (HJ.out ▸ HS2.out).leave0, HB2.out, HK2.out.drewK⟩
          case measure =>
            obtain ⟨z, hz⟩ : ∃ z, z = wrap64 ((i : Int) + 1) := ⟨_, rfl⟩
            rw [← hz]
            exact meas_up z (hz.trans HWI.out) HGO.out
        · obtain ⟨q, hq⟩ : ∃ q, j = q + 1 := ⟨j - 1, by omega⟩
          have j1 : (0 : Int) < (j : Int) := by omega
          have j1n : 0 < j := by omega
          have j3n : j < k := by have := HGO.out; omega
          have j4n : q < k := by have := HGO.out; omega
          have j3 : (j : Int) < (k : Int) := by have := HGO.out; omega
          have j4 : (q : Int) < (k : Int) := by have := HGO.out; omega
          have HQ := Lib.hid hq; have HJI := Lib.hid hji
          have HC := Lib.hid (show ∀ x, Blk x D T (cI R2) → x.cell? ⟨D, j, none⟩ = some (.int .i64 (gI R2 j)) ∧ x.cell? ⟨D, q, none⟩ = some (.int .i64 (gI R2 q)) from fun x hx => ⟨cI_at hx (by rw [HS2.out.len, HR.out]; have := HK.out; have := HGO.out; omega), cI_at hx (by rw [HS2.out.len, HR.out]; have := HK.out; have := HGO.out; omega)⟩)
          have HJ2 := Lib.hid (show wrap64 ((j : Int) - 1) = (q : Int) from (w64_in _ (by have := HK.out; have := HI.out; omega)).trans (by omega))
          clear hj hji hq
          have j2 := HJ2.out
          have j2b : IntKind.i64.wrap ((j : Int) - 1) = (q : Int) := by rw [IntKind.wrap_i64]; have := HQ.out; have := HK.out; have := HI.out; have := HJI.out; omega
          have j5 : (0 : Int) ≤ (q : Int) := Int.natCast_nonneg _
          have j6 : (0 : Int) ≤ (j : Int) := Int.natCast_nonneg _
          go_upto_region 4 with fail
          obtain ⟨d0, d1⟩ := HC.out wr.drew HB2.out
          have hl := fun u => less_any (gI R2 j) (gI R2 q) u
          have HL := Lib.hid hl
          clear hl
          obtain ⟨X, hX⟩ : ∃ X, X = gI R2 j := ⟨_, rfl⟩
          obtain ⟨Y, hY⟩ : ∃ Y, Y = gI R2 q := ⟨_, rfl⟩
          rw [← hX, ← hY] at HL
          rw [← hX] at d0
          rw [← hY] at d1
          have HXY := Lib.hid (And.intro hX hY)
          clear hX hY HC
          have HD := Lib.hid (And.intro d0 d1)
          obtain ⟨c0, c1⟩ : wr.cell? ⟨D, j, none⟩ = some (.int .i64 X) ∧ wr.cell? ⟨D, q, none⟩ = some (.int .i64 Y) := ⟨d0, d1⟩
          refine wp_region_class (C := fun u => u = wr.drew) (by kernel_rfl) (by kernel_rfl) (rfl) ?_
          repeat
            with_reducible refine wpQuiet_step (fun K hK => ?_)
            first
              | (refine quiet_skip (by rfl) ?_; (with_reducible refine hK _ ?_); clear hK K)
              | (refine quiet_want (by rfl) ?_
                 apply Exists.intro
                 refine ⟨fun x hx => ?_, hK _ ?_⟩
                 (obtain rfl := id hx; go_simp; first | done | rfl | (go_at_call 146; exact (HL.out _).mono fun y w' ⟨h1, h2⟩ => ⟨h1, h2.symm⟩))
                 clear hK K)
            try simp only [Act.put, List.setIfInBounds_toArray, List.set_cons_zero, List.set_cons_succ]
          with_reducible refine wpQuiet_nil ?_
          intro wq hq
          clear c0 c1 d0 d1
          obtain rfl := hq
          by_cases hXY : X < Y
          · have hk : decide (X < Y) = true := decide_eq_true hXY
            have HLT := Lib.hid hXY
            rw [hk]
            clear hk hXY
            obtain ⟨d0, d1⟩ := HD.out
            have p0 : wr.drew.frozen? ⟨D, j, none⟩ = false := HB2.out.frozenAt j
            have p1 : wr.drew.frozen? ⟨D, q, none⟩ = false := HB2.out.frozenAt q
            have p2 : wr.frozen? ⟨D, j, none⟩ = false := HB2.out.frozenAt j
            have p3 : wr.frozen? ⟨D, q, none⟩ = false := HB2.out.frozenAt q
            have hb := HB2.out.put1 (i := j) (by rw [cI_len, HS2.out.len, HR.out]; have := HK.out; have := HGO.out; omega) (.int .i64 Y)
            rw [cI_set] at hb
            have c3 := cI_at hb (i := q) (by rw [List.length_set, HS2.out.len, HR.out]; have := HK.out; have := HGO.out; omega)
            rw [gI_set, if_neg (by have := HQ.out; omega), ← HXY.out.2] at c3
            clear hb
            go_upto_region 6 with fail
            go_region
            go_wp2_with fail
            go_roundw
            case rel =>
              have e0 := HXY.out.1; have e1 := HXY.out.2; have hq := HQ.out
              refine ⟨q, swapI R2 q, by first | rfl | exact congrArg (Value.int .i64) HJ2.out, by have := HJI.out; omega, ?_, ?_, ?_⟩
              · exact (hq ▸ HS2.out).swap (by have := HJI.out; omega) (by have := HGO.out; omega) (by have := HK.out; have := HR.out; omega) (by rw [← hq, ← e0, ← e1]; exact HLT.out)
              · have hb := (HB2.out.put1 (i := j) (by rw [cI_len, HS2.out.len, HR.out]; have := HK.out; have := HGO.out; omega) (.int .i64 Y)).put1 (i := q) (by rw [List.length_set, cI_len, HS2.out.len, HR.out]; have := HK.out; have := HGO.out; omega) (.int .i64 X)
                rw [cI_set, cI_set] at hb
                unfold swapI
                rw [← hq, ← e0, ← e1]
                exact hb
              · exact ((HK2.out.set j _).set q _).drewK.drewK
            case measure => exact meas_dn (q : Int) rfl HQ.out
          · have hk : decide (X < Y) = false := decide_eq_false hXY
            have HLT := Lib.hid hXY
            rw [hk]
            clear hk hXY
            go_wp2_with fail
            go_roundw
            case rel => exact ⟨i + 1, R2, congrArg (Value.int .i64) HWI.out, by have := HI.out; omega, by have := HGO.out; omega, (HQ.out ▸ HS2.out).leave (by have := HQ.out; have := HJI.out; omega) (by have h := HLT.out; rw [HXY.out.1, HXY.out.2] at h; rw [← HQ.out]; exact h), HB2.out, HK2.out.drewK⟩
            case measure =>
            obtain ⟨z, hz⟩ : ∃ z, z = wrap64 ((i : Int) + 1) := ⟨_, rfl⟩
            rw [← hz]
            exact meas_up z (hz.trans HWI.out) HGO.out
    · have i1 : ¬ (i : Int) < (k : Int) := by omega
      obtain rfl : i = k := by have := HI.out; omega
      go_wp2_with fail
      go_end0
      exact ⟨rfl, R1, HS1.out, HB1.out, HK1.out⟩
end Go.Proofs.Ytffcadobdimdoaa
