/- The document's own estimator of layer 18: Rate. Conditions: what it holds can be. -/
import Derived.Test.YtffcadobdimdoaaRti
namespace Go.Proofs.Ytffcadobdimdoaa
open Go.RowKit
theorem low_step (L : List Int) (X : Int) (j : Nat) (hj : j < L.length) : lowN (L.take (j + 1)) X = lowN (L.take j) X + (if gI L j < X then 1 else 0) := by
  unfold lowN gI
  rw [List.take_add_one, List.getElem?_eq_getElem hj, List.countP_append]
  simp
theorem eq_step (L : List Int) (X : Int) (j : Nat) (hj : j < L.length) : eqN (L.take (j + 1)) X = eqN (L.take j) X + (if gI L j = X then 1 else 0) := by
  unfold eqN gI
  rw [List.take_add_one, List.getElem?_eq_getElem hj, List.countP_append]
  simp
theorem low_le (L : List Int) (X : Int) (j : Nat) : lowN (L.take j) X ≤ L.length := by
  unfold lowN; exact Nat.le_trans List.countP_le_length (by rw [List.length_take]; omega)
theorem eq_le (L : List Int) (X : Int) (j : Nat) : eqN (L.take j) X ≤ L.length := by
  unfold eqN; exact Nat.le_trans List.countP_le_length (by rw [List.length_take]; omega)
theorem med_none {L : List Int} (h : L ≠ []) (hn : ∀ j, j < L.length → medB L (gI L j) = false) : False := by
  obtain ⟨v, hv, hm⟩ := mem_mem h
  obtain ⟨j, hj, rfl⟩ := List.getElem_of_mem hv
  have := hn j hj
  rw [show gI L j = L[j] by unfold gI; rw [List.getElem?_eq_getElem hj]; rfl, hm] at this
  cases this
theorem nxt {L : List Int} {i : Nat} (h : ∀ j, j < i → medB L (gI L j) = false) (h2 : medB L (gI L i) = false) : ∀ j, j < i + 1 → medB L (gI L j) = false := fun j hj => by
  by_cases e : j = i
  · rw [e]; exact h2
  · exact h j (by omega)
theorem gI_mem {L : List Int} {j : Nat} (hj : j < L.length) : gI L j ∈ L := by
  unfold gI; rw [List.getElem?_eq_getElem hj]; exact List.getElem_mem hj
set_option maxRecDepth 100000 in
set_option maxHeartbeats 8000000 in
theorem rrate_any (e : ES) (v : Value) (B : Nat) (w : World) (hE : EdA w B e v) : Calls Try.prog 24 #[.pointer (some ⟨B, 0, none⟩)] w fun y w' => y = .returned (.int .i64 (medX e.L)) ∧ Below w.heap.size w w' := by
  obtain ⟨nl, cap, ad, rfl, hl, hcap, hmx, hrow⟩ := hE.row
  have hl : e.L.length = nl := by rw [cI_len] at hl; omega
  subst hl
  have HE := Lib.hid (show ∀ u, Below w.heap.size w u → u.cell? ⟨B, 5, none⟩ = some (.slice ad e.L.length cap) from fun u hu => (hE.on hu).blk.cellAt (i := 5) (by simp))
  have HLN := Lib.hid (show e.L.length ≤ 9 by have h1 := hE.ok.ring.lm; have h2 := hE.ok.ring.m9; omega)
  obtain ⟨L, hL⟩ : ∃ L, L = e.L := ⟨_, rfl⟩
  rw [← hL] at HE HLN hrow ⊢
  by_cases h0 : L = []
  · subst h0
    have q5 := HE.out w (Below.refl _ _)
    simp only [List.length_nil] at q5
    rw [show medX [] = 1048576 from rfl]
    clear hrow hmx hcap hE hL
    go_enter Try.func24, Try.ntmps24
    go_wp2_with fail
    go_ret
    exact ⟨rfl, Below.refl _ _⟩
  obtain ⟨k, hk⟩ : ∃ k, k = L.length := ⟨_, rfl⟩
  have k1 : 1 ≤ k := by rw [hk]; exact List.length_pos_iff.2 h0
  obtain ⟨g, off, rfl, hcell⟩ : ∃ g off, ad = some ⟨g, off, none⟩ ∧ ∀ u, Below w.heap.size w u → ∀ j, j < k → u.cell? ⟨g, off + j, none⟩ = some (.int .i64 (gI L j)) := by
    rcases hrow with ⟨_, h9⟩ | ⟨g, off, rfl, hg, _, hc⟩
    · exfalso; rw [← hL] at hcap; omega
    · refine ⟨g, off, rfl, fun u hu j hj => (hu.cell (p := ⟨g, off + j, none⟩) hg).trans (hc j _ ?_)⟩
      unfold cI gI
      rw [List.getElem?_map, List.getElem?_eq_getElem (by rw [← hk]; exact hj)]
      rfl
  rw [← hk] at HE HLN
  have HC := Lib.hid hcell
  have HK := Lib.hid (And.intro hk k1)
  have HNE := Lib.hid h0
  clear hrow hmx hcap hE hL hcell hk h0
  obtain ⟨R, hR⟩ : ∃ R, R = medX L := ⟨_, rfl⟩
  rw [← hR]
  have HR := Lib.hid hR
  clear hR
  have k2 : ¬ (k : Int) = 0 := by omega
  have k3 : ((k : Int) == 0) = false := by rw [beq_eq_false_iff_ne]; exact k2
  have k4 : ¬ k = 0 := by omega
  obtain ⟨m, hm⟩ : ∃ m, m = (k - 1) / 2 := ⟨_, rfl⟩
  have HM := Lib.hid hm
  have k9 : k ≤ 9 := HLN.out
  have k0 : 0 ≤ (k : Int) := by omega
  have q5 := HE.out w (Below.refl _ _)
  go_enter Try.func24, Try.ntmps24
  go_wp2_with fail
  rw [show ((k : Int) - 1) / 2 = (m : Int) by omega]
  clear hm q5
  go_loopw [4] (fun s4 wr => ∃ i : Nat, s4 = .int .i64 (i : Int) ∧ i ≤ k ∧ (∀ j, j < i → medB L (gI L j) = false) ∧ Below w.heap.size w wr) (fun s4 _ => k - (intOf s4).toNat)
  case atStart => exact ⟨0, rfl, by omega, fun j hj => by omega, Below.refl _ _⟩
  case round =>
    obtain ⟨i, rfl, hik, hno, hb⟩ := hrel
    have HNO := Lib.hid hno; have HB := Lib.hid hb
    clear hno hb
    by_cases hi : i < k
    · have i1 : (i : Int) < (k : Int) := by omega
      have i2 : (0 : Int) ≤ (i : Int) := by omega
      have HI := Lib.hid hi
      obtain ⟨X, hX⟩ : ∃ X, X = gI L i := ⟨_, rfl⟩
      have HX := Lib.hid hX
      clear hX
      have q5 := HE.out wr HB.out
      obtain ⟨w1, hw1⟩ : ∃ w1, w1 = wr := ⟨_, rfl⟩
      rw [← hw1] at HB q5 ⊢
      clear hw1
      go_wp2_with fail
      clear q5
      go_loopw [5, 6, 7] (fun s5 s6 s7 wr => ∃ j : Nat, s7 = .int .i64 (j : Int) ∧ s5 = .int .i64 ((lowN (L.take j) X : Nat) : Int) ∧ s6 = .int .i64 ((eqN (L.take j) X : Nat) : Int) ∧ j ≤ k ∧ Below w.heap.size w wr) (fun _ _ s7 _ => k - (intOf s7).toNat)
      case atStart => exact ⟨0, rfl, rfl, rfl, by omega, HB.out⟩
      case round =>
        obtain ⟨j, rfl, rfl, rfl, hjk, hb⟩ := hrel
        have HB2 := Lib.hid hb
        clear hb
        by_cases hj : j < k
        · have j1 : (j : Int) < (k : Int) := by omega
          have j2 : (0 : Int) ≤ (j : Int) := by omega
          have HJ := Lib.hid hj
          obtain ⟨Y, hY⟩ : ∃ Y, Y = gI L j := ⟨_, rfl⟩
          obtain ⟨p, hp⟩ : ∃ p, p = lowN (L.take j) X := ⟨_, rfl⟩
          obtain ⟨q, hq0⟩ : ∃ q, q = eqN (L.take j) X := ⟨_, rfl⟩
          have hp9 : p ≤ 9 := by have := low_le L X j; have := HLN.out; have := HK.out; omega
          have hq9 : q ≤ 9 := by have := eq_le L X j; have := HLN.out; have := HK.out; omega
          have f1 : (p : Int) + 1 = ((p + 1 : Nat) : Int) := by omega
          have f2 : (q : Int) + 1 = ((q + 1 : Nat) : Int) := by omega
          have f3 : (j : Int) + 1 = ((j + 1 : Nat) : Int) := by omega
          have HF := Lib.hid (And.intro f1 (And.intro f2 f3))
          have HS := Lib.hid (And.intro (low_step L X j (by rw [← HK.out.1]; exact hj)) (eq_step L X j (by rw [← HK.out.1]; exact hj)))
          rw [← hY, ← hp, ← hq0] at HS
          rw [← hp, ← hq0]
          have q5 := HE.out wr HB2.out
          have ci : wr.cell? ⟨g, off + i, none⟩ = some (.int .i64 X) := by rw [HX.out]; exact HC.out wr HB2.out i HI.out
          have cj : wr.cell? ⟨g, off + j, none⟩ = some (.int .i64 Y) := by rw [hY]; exact HC.out wr HB2.out j HJ.out
          clear hp hq0 hY f1 f2 f3
          go_upto_region 11 with fail
          refine wp_region_class (C := fun u => u = wr.drew) (by kernel_rfl) (by kernel_rfl) (rfl) ?_
          repeat
            with_reducible refine wpQuiet_step (fun K hK => ?_)
            first
              | (refine quiet_skip (by rfl) ?_; (with_reducible refine hK _ ?_); clear hK K)
              | (refine quiet_want (by rfl) ?_
                 apply Exists.intro
                 refine ⟨fun x hx => ?_, hK _ ?_⟩
                 (obtain rfl := id hx; go_simp; first | done | rfl | (fail))
                 clear hK K)
            try simp only [Act.put, List.setIfInBounds_toArray, List.set_cons_zero, List.set_cons_succ]
          with_reducible refine wpQuiet_nil ?_
          intro wq hq
          obtain rfl := hq
          have hcs : (Y < X ∧ ¬ Y = X) ∨ (¬ Y < X ∧ Y = X) ∨ (¬ Y < X ∧ ¬ Y = X) := by omega
          rcases hcs with ⟨y1, y2⟩ | ⟨y1, y2⟩ | ⟨y1, y2⟩
          · have y3 : (Y == X) = false := by rw [beq_eq_false_iff_ne]; exact y2
            have yd : decide (Y < X) = true := decide_eq_true y1
            have HP := Lib.hid (show Value.int .i64 ((p : Int) + 1) = Value.int .i64 ((lowN (L.take (j + 1)) X : Nat) : Int) from congrArg (Value.int .i64) (HF.out.1.trans (congrArg Int.ofNat (by rw [HS.out.1, if_pos y1]))))
            have HQ := Lib.hid (show Value.int .i64 (((q : Nat) : Int)) = Value.int .i64 ((eqN (L.take (j + 1)) X : Nat) : Int) from congrArg (Value.int .i64) (congrArg Int.ofNat (by rw [HS.out.2, if_neg y2]; rfl)))
            go_upto_region 13 with fail
            refine wp_region_class (C := fun u => u = wr.drew.drew) (by kernel_rfl) (by kernel_rfl) (rfl) ?_
            repeat
              with_reducible refine wpQuiet_step (fun K hK => ?_)
              first
                | (refine quiet_skip (by rfl) ?_; (with_reducible refine hK _ ?_); clear hK K)
                | (refine quiet_want (by rfl) ?_
                   apply Exists.intro
                   refine ⟨fun x hx => ?_, hK _ ?_⟩
                   (obtain rfl := id hx; go_simp; first | done | rfl | (fail))
                   clear hK K)
              try simp only [Act.put, List.setIfInBounds_toArray, List.set_cons_zero, List.set_cons_succ]
            with_reducible refine wpQuiet_nil ?_
            intro wq hq
            obtain rfl := hq
            go_wp2_with fail
            go_roundw
            case rel => exact ⟨j + 1, congrArg (Value.int .i64) HF.out.2.2, HP.out, HQ.out, by have := HJ.out; omega, HB2.out.drew.drew⟩
            case measure => exact meas_up ((j : Int) + 1) HF.out.2.2 HJ.out
          · have y3 : (Y == X) = true := by rw [beq_iff_eq]; exact y2
            have yd : decide (Y < X) = false := decide_eq_false y1
            have HP := Lib.hid (show Value.int .i64 (((p : Nat) : Int)) = Value.int .i64 ((lowN (L.take (j + 1)) X : Nat) : Int) from congrArg (Value.int .i64) (congrArg Int.ofNat (by rw [HS.out.1, if_neg y1]; rfl)))
            have HQ := Lib.hid (show Value.int .i64 ((q : Int) + 1) = Value.int .i64 ((eqN (L.take (j + 1)) X : Nat) : Int) from congrArg (Value.int .i64) (HF.out.2.1.trans (congrArg Int.ofNat (by rw [HS.out.2, if_pos y2]))))
            go_upto_region 13 with fail
            refine wp_region_class (C := fun u => u = wr.drew.drew) (by kernel_rfl) (by kernel_rfl) (rfl) ?_
            repeat
              with_reducible refine wpQuiet_step (fun K hK => ?_)
              first
                | (refine quiet_skip (by rfl) ?_; (with_reducible refine hK _ ?_); clear hK K)
                | (refine quiet_want (by rfl) ?_
                   apply Exists.intro
                   refine ⟨fun x hx => ?_, hK _ ?_⟩
                   (obtain rfl := id hx; go_simp; first | done | rfl | (fail))
                   clear hK K)
              try simp only [Act.put, List.setIfInBounds_toArray, List.set_cons_zero, List.set_cons_succ]
            with_reducible refine wpQuiet_nil ?_
            intro wq hq
            obtain rfl := hq
            go_wp2_with fail
            go_roundw
            case rel => exact ⟨j + 1, congrArg (Value.int .i64) HF.out.2.2, HP.out, HQ.out, by have := HJ.out; omega, HB2.out.drew.drew⟩
            case measure => exact meas_up ((j : Int) + 1) HF.out.2.2 HJ.out
          · have y3 : (Y == X) = false := by rw [beq_eq_false_iff_ne]; exact y2
            have yd : decide (Y < X) = false := decide_eq_false y1
            have HP := Lib.hid (show Value.int .i64 (((p : Nat) : Int)) = Value.int .i64 ((lowN (L.take (j + 1)) X : Nat) : Int) from congrArg (Value.int .i64) (congrArg Int.ofNat (by rw [HS.out.1, if_neg y1]; rfl)))
            have HQ := Lib.hid (show Value.int .i64 (((q : Nat) : Int)) = Value.int .i64 ((eqN (L.take (j + 1)) X : Nat) : Int) from congrArg (Value.int .i64) (congrArg Int.ofNat (by rw [HS.out.2, if_neg y2]; rfl)))
            go_upto_region 13 with fail
            refine wp_region_class (C := fun u => u = wr.drew.drew) (by kernel_rfl) (by kernel_rfl) (rfl) ?_
            repeat
              with_reducible refine wpQuiet_step (fun K hK => ?_)
              first
                | (refine quiet_skip (by rfl) ?_; (with_reducible refine hK _ ?_); clear hK K)
                | (refine quiet_want (by rfl) ?_
                   apply Exists.intro
                   refine ⟨fun x hx => ?_, hK _ ?_⟩
                   (obtain rfl := id hx; go_simp; first | done | rfl | (fail))
                   clear hK K)
              try simp only [Act.put, List.setIfInBounds_toArray, List.set_cons_zero, List.set_cons_succ]
            with_reducible refine wpQuiet_nil ?_
            intro wq hq
            obtain rfl := hq
            go_wp2_with fail
            go_roundw
            case rel => exact ⟨j + 1, congrArg (Value.int .i64) HF.out.2.2, HP.out, HQ.out, by have := HJ.out; omega, HB2.out.drew.drew⟩
            case measure => exact meas_up ((j : Int) + 1) HF.out.2.2 HJ.out
        · have j1 : ¬ (j : Int) < (k : Int) := by omega
          obtain rfl : j = k := by omega
          have HBM := Lib.hid (show medB L X = (decide (lowN L X ≤ m) && decide (m < lowN L X + eqN L X)) by unfold medB; rw [← HK.out.1, ← HM.out])
          rw [show L.take j = L from by rw [HK.out.1]; exact List.take_length]
          have hp9 : lowN L X ≤ 9 := by have := low_le L X L.length; rw [List.take_length] at this; have := HLN.out; have := HK.out; omega
          have hq9 : eqN L X ≤ 9 := by have := eq_le L X L.length; rw [List.take_length] at this; have := HLN.out; have := HK.out; omega
          obtain ⟨p, hp⟩ : ∃ p, p = lowN L X := ⟨_, rfl⟩
          obtain ⟨q, hq0⟩ : ∃ q, q = eqN L X := ⟨_, rfl⟩
          rw [← hp] at HBM hp9
          rw [← hq0] at HBM hq9
          rw [← hp, ← hq0]
          clear hp hq0
          have q5 := HE.out wr HB2.out
          have ci : wr.cell? ⟨g, off + i, none⟩ = some (.int .i64 X) := by rw [HX.out]; exact HC.out wr HB2.out i HI.out
          have f1 : wrap64 ((p : Int) + (q : Int)) = (p : Int) + (q : Int) := w64_in _ (by omega)
          have hcs : (p ≤ m ∧ m < p + q) ∨ (p ≤ m ∧ ¬ m < p + q) ∨ ¬ p ≤ m := by omega
          rcases hcs with ⟨z1, z2⟩ | ⟨z1, z2⟩ | z1
          · have z3 : (p : Int) ≤ (m : Int) := by omega
            have z4 : (m : Int) < (p : Int) + (q : Int) := by omega
            go_wp2_with fail
            go_ret
            rw [show R = X from HR.out.trans (medX_of (v := X) (by rw [HBM.out, decide_eq_true z1, decide_eq_true z2]; rfl) (by rw [HX.out]; exact gI_mem (by rw [← HK.out.1]; exact HI.out)))]
            exact ⟨rfl, HB2.out⟩
          all_goals
            have hno : medB L X = false := by rw [HBM.out]; first | (rw [decide_eq_false z2]; exact Bool.and_false _) | (rw [decide_eq_false z1]; exact Bool.false_and _)
            have HN2 := Lib.hid hno
            clear hno
            have HI1 := Lib.hid (show (i : Int) + 1 = ((i + 1 : Nat) : Int) by omega)
            first
              | (have z3 : (p : Int) ≤ (m : Int) := by omega
                 have z4 : ¬ (m : Int) < (p : Int) + (q : Int) := by omega
                 go_wp2_with fail
                 go_roundw)
              | (have z3 : ¬ (p : Int) ≤ (m : Int) := by omega
                 go_wp2_with fail
                 go_roundw)
          case rel => exact ⟨i + 1, congrArg (Value.int .i64) HI1.out, by have := HI.out; omega, nxt HNO.out (by rw [← HX.out]; exact HN2.out), HB2.out⟩
          case measure => exact meas_up ((i : Int) + 1) HI1.out HI.out
          case rel => exact ⟨i + 1, congrArg (Value.int .i64) HI1.out, by have := HI.out; omega, nxt HNO.out (by rw [← HX.out]; exact HN2.out), HB2.out⟩
          case measure => exact meas_up ((i : Int) + 1) HI1.out HI.out
    · have i1 : ¬ (i : Int) < (k : Int) := by omega
      exfalso
      obtain rfl : i = k := by omega
      exact med_none HNE.out (fun j hj => HNO.out j (by rw [HK.out.1]; exact hj))
end Go.Proofs.Ytffcadobdimdoaa
