/- StreamRanks (P25.4): of two streams without deadlines in their identifiers the one that is due sooner is sent ahead. Conditions: none but the divisor's table, which the card ties. -/
import Derived.Test.YtolhckahphmffaaDoorRows
import Derived.Test.YtolhckahphmffaaDoorSnc
import Derived.Test.YtolhckahphmffaaDoorSmt
import Derived.Test.YtolhckahphmffaaDoorSmp
import Derived.Test.YtolhckahphmffaaDoorCla
import Derived.Test.YtolhckahphmffaaDoorOpr
import Derived.Test.YtolhckahphmffaaDoorCrt
import Derived.WalkKit
import Derived.ProofKit
import Derived.OpenShut
import Derived.ShutString
import Derived.ChangeOld
import Derived.Below
namespace Go.Proofs.YtolhckahphmffaaDoor.streamRanks
open Go.ChangeShapes Go.WideShapes Go.ChangeAt Go.RowKit
theorem own : ownKnob Tryd.prog.godebug = none := by kernel_rfl
theorem laidOut : laidOutB Tryd.prog = true := by kernel_rfl
theorem countP_lt {p q : Sm → Bool} : ∀ {l : List Sm} (_ : ∀ x ∈ l, p x = true → q x = true) {a : Sm} (_ : a ∈ l) (_ : p a = false) (_ : q a = true), l.countP p < l.countP q
  | [], _, a, ha, _, _ => by cases ha
  | x :: l, h, a, ha, hp, hq => by
    have hm : l.countP p ≤ l.countP q := List.countP_mono_left (fun y hy => h y (List.mem_cons_of_mem _ hy))
    rw [List.countP_cons, List.countP_cons]
    rcases List.mem_cons.1 ha with e | e
    · subst e
      rw [hp, hq]
      simp only [Bool.false_eq_true, if_false, if_true]
      omega
    · have h1 := countP_lt (fun y hy => h y (List.mem_cons_of_mem _ hy)) e hp hq
      by_cases h2 : p x = true
      · rw [h2, h x List.mem_cons_self h2]
        simp only [if_true]
        omega
      · rw [if_neg h2]
        split <;> omega
theorem rank_lt {D : List Sm} {x y : Sm} (hx : x ∈ D) (h : x.d < y.d) : rankN D x < rankN D y := by
  unfold rankN
  refine countP_lt (fun z _ hz => ?_) hx ?_ ?_
  · have h1 := of_decide_eq_true hz
    rw [cfS_lt] at h1
    exact decide_eq_true (by rw [cfS_lt]; omega)
  · exact decide_eq_false (by rw [cfS_lt]; omega)
  · exact decide_eq_true (by rw [cfS_lt]; omega)
/-- Two of the ranked ones that are of DmClass, of which the first is due sooner. -/
theorem ranks_two {F : List Sm} (hF : F.length ≤ 6) (hr : ∀ x ∈ F, x.right = 0) {i k : Nat} (hi : i < (F.map (rkD F)).length) (hk : k < (F.map (rkD F)).length) (hci : ((F.map (rkD F))[i]).c = 2) (hck : ((F.map (rkD F))[k]).c = 2) (hd : ((F.map (rkD F))[i]).d < ((F.map (rkD F))[k]).d) :
    ((F.map (rkD F))[i]).s < ((F.map (rkD F))[k]).s ∧ ((F.map (rkD F))[i]).right = 0 ∧ ((F.map (rkD F))[k]).right = 0 := by
  have hi' : i < F.length := by simpa using hi
  have hk' : k < F.length := by simpa using hk
  rw [List.getElem_map] at hci hd ⊢
  rw [List.getElem_map] at hck hd ⊢
  obtain ⟨x, hx⟩ : ∃ x, x = F[i] := ⟨_, rfl⟩
  obtain ⟨y, hy⟩ : ∃ x, x = F[k] := ⟨_, rfl⟩
  have hxm : x ∈ F := by rw [hx]; exact List.getElem_mem _
  have hym : y ∈ F := by rw [hy]; exact List.getElem_mem _
  rw [← hx] at hci hd ⊢
  rw [← hy] at hck hd ⊢
  have hcs : ∀ z : Sm, (rkD F z).c = 2 → z.c = 2 := fun z hz => by
    rw [rkD_rank] at hz
    split at hz
    · assumption
    · exact hz
  have hcx := hcs x hci
  have hcy := hcs y hck
  have ex : rkD F x = putS x (rkI (dmL F) x) := by rw [rkD_rank, if_pos hcx]
  have ey : rkD F y = putS y (rkI (dmL F) y) := by rw [rkD_rank, if_pos hcy]
  rw [ex, ey] at hd ⊢
  have hd' : x.d < y.d := hd
  have hxD : x ∈ dmL F := by unfold dmL; exact List.mem_filter.2 ⟨hxm, by simpa using hcx⟩
  have hlt := rank_lt hxD hd'
  have hle : ∀ z, rankN (dmL F) z ≤ 6 := fun z => by
    have h1 : rankN (dmL F) z ≤ (dmL F).length := List.countP_le_length
    have h2 := dm_len F
    omega
  have h1 := hle x
  have h2 := hle y
  have e1 : rkI (dmL F) x = (rankN (dmL F) x : Int) := by unfold rkI; rw [if_pos (by omega)]
  have e2 : rkI (dmL F) y = (rankN (dmL F) y : Int) := by unfold rkI; rw [if_pos (by omega)]
  have hright : ∀ (z : Sm) (r : Int), z.right = 0 → z.c = 2 → 0 ≤ r ∧ r ≤ 255 → (putS z r).right = 0 := fun z r hz hc h => by
    have h3 := rightS_d hz
    unfold Sm.right putS rightS rightL inS
    simp only
    rw [if_neg, if_neg, if_neg, if_neg, if_neg]
    all_goals
      rw [decide_eq_false_iff_not]
      omega
  refine ⟨?_, hright x _ (hr x hxm) hcx (by rw [e1]; omega), hright y _ (hr y hym) hcy (by rw [e2]; omega)⟩
  show rkI (dmL F) x < rkI (dmL F) y
  rw [e1, e2]
  omega
theorem few_right {L : List Sm} {x : Sm} (h : x ∈ fewL L) : x.right = 0 := by
  obtain ⟨j, hj, rfl⟩ := List.getElem_of_mem h
  have hj6 : j < 6 := by have h2 := hj; unfold fewL at h2; rw [fewK_len] at h2; omega
  unfold fewL at hj ⊢
  rw [fewK_at j hj]
  exact (stF_right _ (by omega)).1
theorem Sts.spot {n₀ : Nat} {W : World} {a : Option Addr} {len cap : Nat} {L : List Sm} (h : Sts n₀ W (.slice a len cap) L) (h0 : 0 < L.length) : ∃ g off, a = some ⟨g, off, none⟩ ∧ g < n₀ ∧ ∀ j (hj : j < L.length) i u, (L[j].C)[i]? = some u → W.cell? ⟨g, off + j * 7 + i, none⟩ = some u := by
  rcases h with ⟨_, _, _, e⟩ | ⟨g, off, _, e, hg, hc⟩
  · rw [e] at h0; cases h0
  · injection e with e1 _ _
    exact ⟨g, off, e1, hg, hc⟩
set_option maxRecDepth 2000000 in
set_option maxHeartbeats 8000000 in
theorem walk (a : Option Addr) (len cap : Nat) (L : List Sm) (w : World) (hw : L.length = len ∧ (∀ s ∈ L, s.wf) ∧ Rd w 7 (.slice a len cap) (L.flatMap Sm.C)) (h0 : 0 < w.heap.size) (hT : Tab w) : Calls Tryd.prog 4 #[.slice a len cap] w fun y w' => y = .returned (.bool true) ∧ Below w.heap.size w w' := by
  have hI := Sts.of_rd hw.2.2 hw.1
  have HTX := Lib.hid (show ∀ x, Below w.heap.size w x → 0 < x.heap.size ∧ Tab x from fun x hx => ⟨Nat.lt_of_lt_of_le h0 hx.size, hT.on hx h0⟩)
  have HFEW := Lib.hid (show ∀ u, Below w.heap.size w u → _ from fun u (hu : Below w.heap.size w u) => sfew_any a len cap L u ((hI.below hu).mono hu.size))
  clear hT h0 hI hw
  obtain ⟨F, hF⟩ : ∃ F, F = fewL L := ⟨_, rfl⟩
  have HFR := Lib.hid (show ∀ x ∈ F, x.right = 0 from fun x hx => by rw [hF] at hx; exact few_right hx)
  have HL6 := Lib.hid (show F.length ≤ 6 by rw [hF]; unfold fewL; rw [fewK_len]; omega)
  rw [← hF] at HFEW
  clear hF
  go_enter Tryd.func4, Tryd.ntmps4
  go_wp2_with fail
  refine (HFEW.out _ (Below.refl _ _)).mono ?_
  rintro e w1 ⟨v, rfl, hrow, hb1⟩
  obtain ⟨hq_, hS, a0, c0, rfl⟩ := Sts.of_own hrow
  clear hq_
  have HS := Lib.hid hS; have HB1 := Lib.hid hb1
  clear hS hb1 hrow
  go_wp2_with fail
  refine (sranked3_any a0 F.length c0 F (by have := HL6.out; omega) w1 HS.out).mono ?_
  rintro e w2 ⟨v, rfl, hrow, hb2⟩
  obtain ⟨hq_, hS2, a2, c2, rfl⟩ := Sts.of_own hrow
  clear hq_
  have HS2 := Lib.hid hS2; have HB2 := Lib.hid (below_transG HB1.out hb2)
  clear hS2 hb2 hrow
  dsimp only
  obtain ⟨NF, hNF⟩ : ∃ N, N = (F.map (rkD F)).length := ⟨_, rfl⟩
  rw [← hNF]
  have HNF := Lib.hid hNF
  clear hNF
  go_wp2_with fail
  obtain ⟨R, hR⟩ : ∃ R, R = F.map (rkD F) := ⟨_, rfl⟩
  have HRR := Lib.hid (show ∀ i k (hi : i < R.length) (hk : k < R.length), R[i].c = 2 → R[k].c = 2 → R[i].d < R[k].d → R[i].s < R[k].s ∧ R[i].right = 0 ∧ R[k].right = 0 from fun i k hi hk h1 h2 h3 => by subst hR; exact ranks_two HL6.out HFR.out hi hk h1 h2 h3)
  obtain ⟨N, hN⟩ : ∃ N, N = F.length := ⟨_, rfl⟩
  have HN := Lib.hid (show N = R.length by rw [hR, List.length_map, hN])
  have HFN := Lib.hid hN
  have hN6 : N ≤ 6 := by have h1 := HL6.out; omega
  rw [← hR] at HS2
  obtain rfl : N = NF := by rw [HNF.out, List.length_map, hN]
  clear hN hR
  go_loopw [4] (fun i wr => ∃ I : Nat, i = .int .i64 (I : Int) ∧ I ≤ N ∧ Below w2.heap.size w2 wr) (fun i _ => N - (intOf i).toNat)
  case atStart => exact ⟨0, rfl, by omega, by first | exact Below.refl _ _ | exact (Below.refl _ _).drew⟩
  case round =>
    obtain ⟨i, rfl, hi, hB⟩ := hrel
    have HB := Lib.hid hB
    clear hB
    have i3 : (0 : Int) ≤ (i : Int) := by omega
    by_cases hlt : i < N
    · have i1 : (i : Int) < (N : Int) := by omega
      go_wp2_with fail
      go_loopw [5] (fun k wr => ∃ J : Nat, k = .int .i64 (J : Int) ∧ J ≤ N ∧ Below w2.heap.size w2 wr) (fun k _ => N - (intOf k).toNat)
      case atStart => exact ⟨0, rfl, by omega, by first | exact HB.out | exact HB.out.drew⟩
      case round =>
        obtain ⟨k, rfl, hk, hB⟩ := hrel
        have HB3 := Lib.hid hB
        clear hB HB
        have j3 : (0 : Int) ≤ (k : Int) := by omega
        by_cases hlt2 : k < N
        · have j1 : (k : Int) < (N : Int) := by omega
          have hiR : i < R.length := by have := HN.out; omega
          have hkR : k < R.length := by have := HN.out; omega
          obtain ⟨g, off, rfl, hg, hc⟩ := Sts.spot HS2.out (show 0 < R.length by omega)
          have hrr := HRR.out i k hiR hkR
          obtain ⟨y, hy⟩ : ∃ y, y = R[i] := ⟨_, rfl⟩
          obtain ⟨z, hz⟩ : ∃ y, y = R[k] := ⟨_, rfl⟩
          have HCI := Lib.hid (show ∀ u, Below w2.heap.size w2 u → ∀ q v, (y.C)[q]? = some v → u.cell? ⟨g, off + i * 7 + q, none⟩ = some v from fun u hu q v hv => (hu.cell (p := ⟨g, off + i * 7 + q, none⟩) hg).trans (hc i hiR q v (by rw [← hy]; exact hv)))
          have HCK := Lib.hid (show ∀ u, Below w2.heap.size w2 u → ∀ q v, (z.C)[q]? = some v → u.cell? ⟨g, off + k * 7 + q, none⟩ = some v from fun u hu q v hv => (hu.cell (p := ⟨g, off + k * 7 + q, none⟩) hg).trans (hc k hkR q v (by rw [← hz]; exact hv)))
          rw [← hy, ← hz] at hrr
          have HZ := Lib.hid (show ∀ x, Below wr.heap.size wr x → Below wr.heap.size wr x ∧ x.cell? ⟨g, off + i * 7 + 2, none⟩ = some (.int .i64 y.c) ∧ x.cell? ⟨g, off + i * 7 + 4, none⟩ = some (.int .i64 y.d) ∧ x.cell? ⟨g, off + i * 7 + 5, none⟩ = some (.int .i64 y.s) ∧ x.cell? ⟨g, off + k * 7 + 2, none⟩ = some (.int .i64 z.c) ∧ x.cell? ⟨g, off + k * 7 + 4, none⟩ = some (.int .i64 z.d) ∧ x.cell? ⟨g, off + k * 7 + 5, none⟩ = some (.int .i64 z.s) from fun x hx => by
            have hbx := HB3.out.trans (hx.mono HB3.out.size)
            exact ⟨hx, HCI.out x hbx 2 _ rfl, HCI.out x hbx 4 _ rfl, HCI.out x hbx 5 _ rfl, HCK.out x hbx 2 _ rfl, HCK.out x hbx 4 _ rfl, HCK.out x hbx 5 _ rfl⟩)
          clear hc hy hz hg hiR hkR
          by_cases hcy : y.c = 2
          · by_cases hcz : z.c = 2
            · by_cases hd : z.d ≤ y.d
              · have HD := Lib.hid hd
                rw [hcy, hcz] at HZ
                clear hrr
                go_upto_region 8 with fail
                refine wp_region_class (C := fun x => Below wr.heap.size wr x ∧ x.cell? ⟨g, off + i * 7 + 2, none⟩ = some (.int .i64 2) ∧ x.cell? ⟨g, off + i * 7 + 4, none⟩ = some (.int .i64 y.d) ∧ x.cell? ⟨g, off + i * 7 + 5, none⟩ = some (.int .i64 y.s) ∧ x.cell? ⟨g, off + k * 7 + 2, none⟩ = some (.int .i64 2) ∧ x.cell? ⟨g, off + k * 7 + 4, none⟩ = some (.int .i64 z.d) ∧ x.cell? ⟨g, off + k * 7 + 5, none⟩ = some (.int .i64 z.s)) (by kernel_rfl) (by kernel_rfl) (HZ.out _ (Below.refl _ _).drew) ?_
                repeat
                  with_reducible refine wpQuiet_step (fun K hK => ?_)
                  first
                    | (refine quiet_skip (by rfl) ?_; (with_reducible refine hK _ ?_); clear hK K)
                    | (refine quiet_want (by rfl) ?_
                       apply Exists.intro
                       refine ⟨fun x hx => ?_, hK _ ?_⟩
                       (obtain ⟨_, hx1, hx2, hx3, hx4, hx5, hx6⟩ := id hx; go_simp; first | done | rfl | (fail))
                       clear hK K)
                  try simp only [Act.put, List.setIfInBounds_toArray, List.set_cons_zero, List.set_cons_succ]
                with_reducible refine wpQuiet_nil ?_
                intro wq hq
                have HB7 := Lib.hid (HB3.out.trans (hq.1.mono HB3.out.size))
                obtain ⟨W7, hW7⟩ : ∃ W7, W7 = wq := ⟨_, rfl⟩
                rw [← hW7]; rw [← hW7] at HB7
                clear hq HZ hW7 
                go_wp2_with fail
                go_roundw
                case rel => exact ⟨k + 1, by simp, by omega, by first | exact HB7.out | exact HB7.out.drew⟩
                case measure => simp [intOf]; omega
              · have hd2 : y.d < z.d := by omega
                obtain ⟨hs, hr1, hr2⟩ := hrr hcy hcz hd2
                have HLY := Lib.hid (fun u => slab_any y.i y.n y.c y.p y.d y.s y.b 0 0 1 u)
                have HLZ := Lib.hid (fun u => slab_any z.i z.n z.c z.p z.d z.s z.b 0 0 1 u)
                have q1 : qmayB 1 [0, 0] = true := by decide
                unfold labV at HLY HLZ
                rw [if_pos (show rightS y.i y.n y.c y.p y.d y.s y.b = 0 from hr1), if_pos q1] at HLY
                rw [if_pos (show rightS z.i z.n z.c z.p z.d z.s z.b = 0 from hr2), if_pos q1] at HLZ
                rw [show slotL y.c y.s (slotX 0 0 1) = y.s by unfold slotL; rw [if_neg (by omega)], hcy] at HLY
                rw [show slotL z.c z.s (slotX 0 0 1) = z.s by unfold slotL; rw [if_neg (by omega)], hcz] at HLZ
                have HN3 := Lib.hid (fun u => r23before_any 2 y.s y.i y.n 2 z.s z.i z.n u)
                rw [show befL 2 y.s y.i y.n 2 z.s z.i z.n = true by rw [befL_1 (by omega)]; exact decide_eq_true hs] at HN3
                have HNS := Lib.hid (show ¬ z.s ≤ y.s by omega)
                rw [hcy, hcz] at HZ
                have HCI2 := Lib.hid (show ∀ u, Below wr.heap.size wr u → ∀ q v, (y.C)[q]? = some v → u.cell? ⟨g, off + i * 7 + q, none⟩ = some v from fun u hu => HCI.out u (HB3.out.trans (hu.mono HB3.out.size)))
                have HCK2 := Lib.hid (show ∀ u, Below wr.heap.size wr u → ∀ q v, (z.C)[q]? = some v → u.cell? ⟨g, off + k * 7 + q, none⟩ = some v from fun u hu => HCK.out u (HB3.out.trans (hu.mono HB3.out.size)))
                clear hr1 hr2 q1
                go_upto_region 8 with fail
                refine wp_region_class (C := fun x => Below wr.heap.size wr x ∧ x.cell? ⟨g, off + i * 7 + 2, none⟩ = some (.int .i64 2) ∧ x.cell? ⟨g, off + i * 7 + 4, none⟩ = some (.int .i64 y.d) ∧ x.cell? ⟨g, off + i * 7 + 5, none⟩ = some (.int .i64 y.s) ∧ x.cell? ⟨g, off + k * 7 + 2, none⟩ = some (.int .i64 2) ∧ x.cell? ⟨g, off + k * 7 + 4, none⟩ = some (.int .i64 z.d) ∧ x.cell? ⟨g, off + k * 7 + 5, none⟩ = some (.int .i64 z.s)) (by kernel_rfl) (by kernel_rfl) (HZ.out _ (Below.refl _ _).drew) ?_
                repeat
                  with_reducible refine wpQuiet_step (fun K hK => ?_)
                  first
                    | (refine quiet_skip (by rfl) ?_; (with_reducible refine hK _ ?_); clear hK K)
                    | (refine quiet_want (by rfl) ?_
                       apply Exists.intro
                       refine ⟨fun x hx => ?_, hK _ ?_⟩
                       (obtain ⟨_, hx1, hx2, hx3, hx4, hx5, hx6⟩ := id hx; go_simp; first | done | rfl | (fail))
                       clear hK K)
                  try simp only [Act.put, List.setIfInBounds_toArray, List.set_cons_zero, List.set_cons_succ]
                with_reducible refine wpQuiet_nil ?_
                intro wq hq
                obtain ⟨W7, hW7⟩ : ∃ W7, W7 = wq := ⟨_, rfl⟩
                have HBW := Lib.hid (show Below wr.heap.size wr W7 by rw [hW7]; exact hq.1)
                rw [← hW7]
                clear hq hW7
                have hcy7 := HCI2.out W7 HBW.out
                have hcz7 := HCK2.out W7 HBW.out
                have p0 : W7.cell? ⟨g, off + i * 7, none⟩ = some (.int .i64 y.i) := hcy7 0 _ rfl
                have p1 : W7.cell? ⟨g, off + i * 7 + 1, none⟩ = some (.int .i64 y.n) := hcy7 1 _ rfl
                have p2 : W7.cell? ⟨g, off + i * 7 + 2, none⟩ = some (.int .i64 2) := hcy7 2 _ (by rw [← hcy]; rfl)
                have p3 : W7.cell? ⟨g, off + i * 7 + 3, none⟩ = some (.int .i64 y.p) := hcy7 3 _ rfl
                have p4 : W7.cell? ⟨g, off + i * 7 + 4, none⟩ = some (.int .i64 y.d) := hcy7 4 _ rfl
                have p5 : W7.cell? ⟨g, off + i * 7 + 5, none⟩ = some (.int .i64 y.s) := hcy7 5 _ rfl
                have p6 : W7.cell? ⟨g, off + i * 7 + 6, none⟩ = some (.int .i64 y.b) := hcy7 6 _ rfl
                clear hcy7 hcz7
                go_upto_region 9 with fail
                go_wp2_with fail
                refine (HLY.out _).mono ?_
                rintro y w8 ⟨rfl, hb⟩
                have HB8 := Lib.hid (below_transG HBW.out hb)
                clear hb
                go_upto_region 10 with fail
                obtain ⟨W9, hW9⟩ : ∃ W, W = (w8.alloc (.cells #[.int .i64 2, .int .i64 y.s, .int .i64 y.i, .int .i64 y.n] 38)) := ⟨_, rfl⟩
                have hbel_ : Below wr.heap.size wr W9 := by rw [hW9]; exact (HB8.out.alloc HB8.out.size _)
                have h_y_ : Blk W9 w8.heap.size 38 [.int .i64 2, .int .i64 y.s, .int .i64 y.i, .int .i64 y.n] := by rw [hW9]; exact (blk_at (w8) w8.heap.size (by rfl) 38 [.int .i64 2, .int .i64 y.s, .int .i64 y.i, .int .i64 y.n]).keep (Below.refl (w8.heap.size + 1) _) (by omega)
                rw [← hW9]
                have HB9 := Lib.hid hbel_
                have Hy_9 := Lib.hid h_y_
                clear hbel_ hW9  h_y_
                clear p0 p1 p2 p3 p4 p5 p6
                have hcz7 := HCK2.out W9 HB9.out
                have p0 : W9.cell? ⟨g, off + k * 7, none⟩ = some (.int .i64 z.i) := hcz7 0 _ rfl
                have p1 : W9.cell? ⟨g, off + k * 7 + 1, none⟩ = some (.int .i64 z.n) := hcz7 1 _ rfl
                have p2 : W9.cell? ⟨g, off + k * 7 + 2, none⟩ = some (.int .i64 2) := hcz7 2 _ (by rw [← hcz]; rfl)
                have p3 : W9.cell? ⟨g, off + k * 7 + 3, none⟩ = some (.int .i64 z.p) := hcz7 3 _ rfl
                have p4 : W9.cell? ⟨g, off + k * 7 + 4, none⟩ = some (.int .i64 z.d) := hcz7 4 _ rfl
                have p5 : W9.cell? ⟨g, off + k * 7 + 5, none⟩ = some (.int .i64 z.s) := hcz7 5 _ rfl
                have p6 : W9.cell? ⟨g, off + k * 7 + 6, none⟩ = some (.int .i64 z.b) := hcz7 6 _ rfl
                clear hcz7
                go_wp2_with fail
                refine (HLZ.out _).mono ?_
                rintro y w10 ⟨rfl, hb⟩
                have HB10 := Lib.hid (below_transG HB9.out hb)
                have Hy_10 := Lib.hid (Hy_9.out.keep hb Hy_9.out.lt)
                clear hb
                go_upto_region 11 with fail
                obtain ⟨W11, hW11⟩ : ∃ W, W = (w10.alloc (.cells #[.int .i64 2, .int .i64 z.s, .int .i64 z.i, .int .i64 z.n] 38)) := ⟨_, rfl⟩
                have hbel_ : Below wr.heap.size wr W11 := by rw [hW11]; exact (HB10.out.alloc HB10.out.size _)
                have h_y_ : Blk W11 w8.heap.size 38 [.int .i64 2, .int .i64 y.s, .int .i64 y.i, .int .i64 y.n] := by rw [hW11]; exact Hy_10.out.keep ((Below.refl w10.heap.size w10).alloc (Nat.le_refl _) _) Hy_10.out.lt
                have h_z_ : Blk W11 w10.heap.size 38 [.int .i64 2, .int .i64 z.s, .int .i64 z.i, .int .i64 z.n] := by rw [hW11]; exact (blk_at (w10) w10.heap.size (by rfl) 38 [.int .i64 2, .int .i64 z.s, .int .i64 z.i, .int .i64 z.n]).keep (Below.refl (w10.heap.size + 1) _) (by omega)
                rw [← hW11]
                have HB11 := Lib.hid hbel_
                have Hy_11 := Lib.hid h_y_
                have Hz_11 := Lib.hid h_z_
                clear hbel_ hW11 h_y_ h_z_
                clear p0 p1 p2 p3 p4 p5 p6
                have HZ9 := Lib.hid (show ∀ x, Below W11.heap.size W11 x → Below W11.heap.size W11 x ∧ x.cell? ⟨g, off + i * 7 + 5, none⟩ = some (.int .i64 y.s) ∧ x.cell? ⟨g, off + k * 7 + 5, none⟩ = some (.int .i64 z.s) ∧ x.cell? ⟨w8.heap.size, 0, none⟩ = some (.int .i64 2) ∧ x.cell? ⟨w8.heap.size, 1, none⟩ = some (.int .i64 y.s) ∧ x.cell? ⟨w8.heap.size, 2, none⟩ = some (.int .i64 y.i) ∧ x.cell? ⟨w8.heap.size, 3, none⟩ = some (.int .i64 y.n) ∧ x.cell? ⟨w10.heap.size, 0, none⟩ = some (.int .i64 2) ∧ x.cell? ⟨w10.heap.size, 1, none⟩ = some (.int .i64 z.s) ∧ x.cell? ⟨w10.heap.size, 2, none⟩ = some (.int .i64 z.i) ∧ x.cell? ⟨w10.heap.size, 3, none⟩ = some (.int .i64 z.n) from fun x hx => ⟨hx, HCI2.out x (below_transG HB11.out hx) 5 _ rfl, HCK2.out x (below_transG HB11.out hx) 5 _ rfl, (Hy_11.out.keep hx Hy_11.out.lt).cellAt (i := 0) (by simp), (Hy_11.out.keep hx Hy_11.out.lt).cellAt (i := 1) (by simp), (Hy_11.out.keep hx Hy_11.out.lt).cellAt (i := 2) (by simp), (Hy_11.out.keep hx Hy_11.out.lt).cellAt (i := 3) (by simp), (Hz_11.out.keep hx Hz_11.out.lt).cellAt (i := 0) (by simp), (Hz_11.out.keep hx Hz_11.out.lt).cellAt (i := 1) (by simp), (Hz_11.out.keep hx Hz_11.out.lt).cellAt (i := 2) (by simp), (Hz_11.out.keep hx Hz_11.out.lt).cellAt (i := 3) (by simp)⟩)
                have hns : decide (z.s ≤ y.s) = false := decide_eq_false (by have := HNS.out; omega)
                refine wp_region_class (C := fun x => Below W11.heap.size W11 x ∧ x.cell? ⟨g, off + i * 7 + 5, none⟩ = some (.int .i64 y.s) ∧ x.cell? ⟨g, off + k * 7 + 5, none⟩ = some (.int .i64 z.s) ∧ x.cell? ⟨w8.heap.size, 0, none⟩ = some (.int .i64 2) ∧ x.cell? ⟨w8.heap.size, 1, none⟩ = some (.int .i64 y.s) ∧ x.cell? ⟨w8.heap.size, 2, none⟩ = some (.int .i64 y.i) ∧ x.cell? ⟨w8.heap.size, 3, none⟩ = some (.int .i64 y.n) ∧ x.cell? ⟨w10.heap.size, 0, none⟩ = some (.int .i64 2) ∧ x.cell? ⟨w10.heap.size, 1, none⟩ = some (.int .i64 z.s) ∧ x.cell? ⟨w10.heap.size, 2, none⟩ = some (.int .i64 z.i) ∧ x.cell? ⟨w10.heap.size, 3, none⟩ = some (.int .i64 z.n)) (by kernel_rfl) (by kernel_rfl) (HZ9.out _ (Below.refl _ _).drew) ?_
                repeat
                  with_reducible refine wpQuiet_step (fun K hK => ?_)
                  first
                    | (refine quiet_skip (by rfl) ?_; (with_reducible refine hK _ ?_); clear hK K)
                    | (refine quiet_want (by rfl) ?_
                       apply Exists.intro
                       refine ⟨fun x hx => ?_, hK _ ?_⟩
                       (obtain ⟨_, hx1, hx2, hx3, hx4, hx5, hx6, hx7, hx8, hx9, hx10⟩ := id hx; go_simp; first | done | rfl | (first | (go_at_call 27; with_reducible exact Calls.mono (HN3.out _) (fun y w' hh => ⟨hh.1, HZ9.out _ (below_transG hx.1 hh.2)⟩))))
                       clear hK K)
                  try simp only [Act.put, List.setIfInBounds_toArray, List.set_cons_zero, List.set_cons_succ]
                with_reducible refine wpQuiet_nil ?_
                intro wq hq
                have HB9 := Lib.hid (HB3.out.trans ((below_transG HB11.out hq.1).mono HB3.out.size))
                obtain ⟨W9, hW9⟩ : ∃ W9, W9 = wq := ⟨_, rfl⟩
                rw [← hW9]; rw [← hW9] at HB9
                clear hq HZ9 hW9
                go_wp2_with fail
                go_roundw
                case rel => exact ⟨k + 1, by simp, by omega, by first | exact HB9.out | exact HB9.out.drew⟩
                case measure => simp [intOf]; omega
            · have k2 : (z.c != 2) = true := by simpa using hcz
              rw [hcy] at HZ
              clear hrr
              go_upto_region 8 with fail
              refine wp_region_class (C := fun x => Below wr.heap.size wr x ∧ x.cell? ⟨g, off + i * 7 + 2, none⟩ = some (.int .i64 2) ∧ x.cell? ⟨g, off + i * 7 + 4, none⟩ = some (.int .i64 y.d) ∧ x.cell? ⟨g, off + i * 7 + 5, none⟩ = some (.int .i64 y.s) ∧ x.cell? ⟨g, off + k * 7 + 2, none⟩ = some (.int .i64 z.c) ∧ x.cell? ⟨g, off + k * 7 + 4, none⟩ = some (.int .i64 z.d) ∧ x.cell? ⟨g, off + k * 7 + 5, none⟩ = some (.int .i64 z.s)) (by kernel_rfl) (by kernel_rfl) (HZ.out _ (Below.refl _ _).drew) ?_
              repeat
                with_reducible refine wpQuiet_step (fun K hK => ?_)
                first
                  | (refine quiet_skip (by rfl) ?_; (with_reducible refine hK _ ?_); clear hK K)
                  | (refine quiet_want (by rfl) ?_
                     apply Exists.intro
                     refine ⟨fun x hx => ?_, hK _ ?_⟩
                     (obtain ⟨_, hx1, hx2, hx3, hx4, hx5, hx6⟩ := id hx; go_simp; first | done | rfl | (fail))
                     clear hK K)
                try simp only [Act.put, List.setIfInBounds_toArray, List.set_cons_zero, List.set_cons_succ]
              with_reducible refine wpQuiet_nil ?_
              intro wq hq
              have HB7 := Lib.hid (HB3.out.trans (hq.1.mono HB3.out.size))
              obtain ⟨W7, hW7⟩ : ∃ W7, W7 = wq := ⟨_, rfl⟩
              rw [← hW7]; rw [← hW7] at HB7
              clear hq HZ hW7 
              go_wp2_with fail
              go_roundw
              case rel => exact ⟨k + 1, by simp, by omega, by first | exact HB7.out | exact HB7.out.drew⟩
              case measure => simp [intOf]; omega
          · have k1 : (y.c != 2) = true := by simpa using hcy
            clear hrr
            go_upto_region 8 with fail
            refine wp_region_class (C := fun x => Below wr.heap.size wr x ∧ x.cell? ⟨g, off + i * 7 + 2, none⟩ = some (.int .i64 y.c) ∧ x.cell? ⟨g, off + i * 7 + 4, none⟩ = some (.int .i64 y.d) ∧ x.cell? ⟨g, off + i * 7 + 5, none⟩ = some (.int .i64 y.s) ∧ x.cell? ⟨g, off + k * 7 + 2, none⟩ = some (.int .i64 z.c) ∧ x.cell? ⟨g, off + k * 7 + 4, none⟩ = some (.int .i64 z.d) ∧ x.cell? ⟨g, off + k * 7 + 5, none⟩ = some (.int .i64 z.s)) (by kernel_rfl) (by kernel_rfl) (HZ.out _ (Below.refl _ _).drew) ?_
            repeat
              with_reducible refine wpQuiet_step (fun K hK => ?_)
              first
                | (refine quiet_skip (by rfl) ?_; (with_reducible refine hK _ ?_); clear hK K)
                | (refine quiet_want (by rfl) ?_
                   apply Exists.intro
                   refine ⟨fun x hx => ?_, hK _ ?_⟩
                   (obtain ⟨_, hx1, hx2, hx3, hx4, hx5, hx6⟩ := id hx; go_simp; first | done | rfl | (fail))
                   clear hK K)
              try simp only [Act.put, List.setIfInBounds_toArray, List.set_cons_zero, List.set_cons_succ]
            with_reducible refine wpQuiet_nil ?_
            intro wq hq
            have HB7 := Lib.hid (HB3.out.trans (hq.1.mono HB3.out.size))
            obtain ⟨W7, hW7⟩ : ∃ W7, W7 = wq := ⟨_, rfl⟩
            rw [← hW7]; rw [← hW7] at HB7
            clear hq HZ hW7 
            go_wp2_with fail
            go_roundw
            case rel => exact ⟨k + 1, by simp, by omega, by first | exact HB7.out | exact HB7.out.drew⟩
            case measure => simp [intOf]; omega
        · have j1 : ¬ (k : Int) < (N : Int) := by omega
          go_wp2_with fail
          go_roundw
          case rel => exact ⟨i + 1, by simp, by omega, by first | exact HB3.out | exact HB3.out.drew⟩
          case measure => simp [intOf]; omega
    · have i1 : ¬ (i : Int) < (N : Int) := by omega
      have HB2W := Lib.hid (HB2.out.trans (HB.out.mono HB2.out.size))
      go_wp2_with fail
      refine (live25 _ (HTX.out _ HB2W.out).1 (HTX.out _ HB2W.out).2).mono ?_
      rintro e w4 ⟨rfl, hb4⟩
      have HB4 := Lib.hid (below_transG HB2W.out hb4)
      clear hb4
      go_wp2_with fail
      refine (HFEW.out _ HB4.out).mono ?_
      rintro e w5 ⟨v, rfl, hrow, hb5⟩
      obtain ⟨hq_, _, a5, c5, rfl⟩ := Sts.of_own hrow
      clear hq_
      have HB5 := Lib.hid (below_transG HB4.out hb5)
      have e1 : ((N : Int) == (F.length : Int)) = true := by rw [HFN.out]; simp
      clear hb5 hrow
      go_wp2_with fail
      go_ret
      exact ⟨rfl, by first | exact HB5.out | exact HB5.out.drew⟩
theorem door_met (os : Os) (args : Array Value) : laidMetH Tryd.prog laidD ((World.doorLaid Tryd.prog 400 os).forCall (fun _ _ => 0) ⟨#[], args, []⟩).memory :=
  laidMetH_of_parts3 (fuel := 8) (laidMet_of_run' 8 (by kernel_rfl) (by kernel_rfl)) (by kernel_rfl) (by kernel_rfl)
set_option maxRecDepth 100000 in
theorem lifted (os : Os) (started : os.Started) (H : Type) (enc : TypeId × Value → H) :
    ReturnsInHanded {} Tryd.checked os 4 .any (fun w args => (Rows.streamRanksSpec.pre enc Tryd.prog Tryd.f4 [] false w args ∧ laidMetH Tryd.prog laidD w) ∧ sizedMet enc Tryd.prog Tryd.f4 (OpenSpec.ofChange Rows.streamRanksSpec) false w args)
      (Rows.streamRanksSpec.post enc Tryd.prog Tryd.f4 false true false false) := by
  refine returnsInHanded_of_change_and (C := Tryd.checked) (X := fun w _ => laidMetH Tryd.prog laidD w) (fun _ _ _ hh h => h.of_heap hh) own started (by kernel_rfl) Tryd.func4
    (ChangeSpec.witness_shaped (enc := enc) (C := Tryd.checked) (os := os) (X := fun w _ => laidMetH Tryd.prog laidD w) false (World.doorLaid Tryd.prog 400 os) #[.slice none 0 0] 8 rfl (World.shaped_of_RefB (by kernel_rfl) (by kernel_rfl)) (by kernel_rfl) (by kernel_rfl) (by kernel_rfl) (door_met os _)) ?_
  intro W base args ds gs before hval0 hW _ _ hL _
  have hval : ∀ (j : Nat) t v, Tryd.f4.params[j]? = some t → args[j]? = some v → Value.okWide Tryd.prog W .any base t v := hval0
  have hW' := hW
  obtain ⟨p, q, hA0, hV, rfl, hfz, hnd⟩ := hW
  have hA : DataW.TrodAll enc Tryd.prog W 0 (fun _ => true) true Tryd.f4.params.toList args.toList ds p := hA0
  rw [Tryd.params4] at hA hval
  obtain ⟨v0, vs0, d0, ds0, p0, q0, hargs, rfl, rfl, h0, r0⟩ := trodAll_cons hA
  obtain ⟨rfl, rfl, rfl⟩ := trodAll_nil r0
  obtain rfl : args = #[v0] := by cases args; simp_all
  obtain ⟨rfl, rfl⟩ := trodVars_none hV
  obtain ⟨a0, len0, cap0, rfl⟩ := okWide_slice Tryd.underlying22 (hval 0 22 v0 rfl rfl)
  have k0 := h0
  have lt0 : ∀ x ∈ p0, x.block < W.heap.size := by obtain ⟨m, hm⟩ := k0; exact DataW.trod_lt m _ _ _ hm
  obtain ⟨L0, wl0, ww0, wr0⟩ : ∃ L : List Sm, L.length = len0 ∧ (∀ s ∈ L, Sm.wf s) ∧ Rd W 7 (.slice a0 len0 cap0) (L.flatMap Sm.C) := by
    obtain ⟨fuel, hf⟩ := h0
    exact open_rows Sm.C Sm.wf 7 (by decide) Tryd.underlying22 (by kernel_rfl) (fun _ => rfl) (fun _ _ _ => streamG) (by simpa [Value.cells] using hf)
  clear hA0 hval0
  obtain ⟨hTab, hsz0⟩ := tab_of_laid hL
  refine (walk a0 len0 cap0 L0 W ⟨wl0, ww0, wr0⟩ hsz0 hTab).mono fun e W' ⟨he, bel⟩ => ?_
  subst he
  exact ⟨_, rfl, _, _, _, [], _, [], hW', trodAll_mk1 (shut_bool Tryd.underlying4 _), (trodAll_cons_mk (Below.trod laidOut (by kernel_rfl) (of_decide_eq_true (by kernel_rfl)) k0 bel lt0) trodAll_mk0), rfl, bel.frame _, fun h => by cases h⟩
theorem over : Rows.streamRanksRow.holds Tryd.pinned (OpenSpec.ofChange Rows.streamRanksSpec) :=
  OpenClaim.holds_of_wide 4 Tryd.f4 rfl rfl rfl rfl rfl rfl rfl ⟨rfl, rfl, rfl, rfl, rfl⟩ rfl rfl rfl rfl rfl (by kernel_rfl) Tryd.func4 (by kernel_rfl)
    (of_decide_eq_true (by kernel_rfl)) (by unfold Func.isWrapper; first | (rw [if_pos (by decide +kernel)]; kernel_rfl) | (rw [if_neg (by decide +kernel)]; exact ⟨rfl, rfl⟩))
    (fun os started H enc _ => lifted os started H enc)
/-- The statement: the row, and what it lists tied to the program's text. -/
theorem proved : Rows.StreamRanksCardSaid :=
  Claim7.holds_tied_plain_at .later [] [.data] true _ false
    over (fun _ h => by cases h) (by kernel_rfl) (fun _ h => by cases h) streamRanks_row_tie rfl ⟨rfl, rfl⟩ (by kernel_rfl) rfl
    (fun f fn hf hfn => by
      obtain rfl : f = 4 := Option.some.inj ((show Tryd.prog.funcNamed "bellbuoy/bellbuoylaw25.StreamRanks" = some 4 by kernel_rfl).symm.trans hf) |>.symm
      obtain rfl : fn = Tryd.f4 := (Option.some.inj (Tryd.func4.symm.trans hfn)).symm
      exact ⟨by kernel_rfl, fun j t ht => by
        rw [Tryd.params4] at ht
        have hm : t ∈ [22] := by simpa using Array.mem_of_getElem? ht
        have hall : ([22].all fun u => !Tryd.prog.wantsStandIn u) = true := by kernel_rfl
        exact (show Tryd.prog.wantsStandIn t = false by simpa using List.all_eq_true.1 hall t hm)⟩)
    (by kernel_rfl)
end Go.Proofs.YtolhckahphmffaaDoor.streamRanks
