/- RankOne (P21.4): whatever was ahead, behind the window just the best node that is on is master, and stays so, though so many turns are lost. No conditions. -/
import Derived.Test.YthgoaijfpdnolaaRows
import Derived.Test.YthgoaijfpdnolaaKnm
import Derived.Test.YthgoaijfpdnolaaRko
import Derived.Test.YthgoaijfpdnolaaOpr
import Derived.Lib.SmallJoins
import Derived.WalkKit
import Derived.ProofKit
import Derived.OpenShut
import Derived.ShutString
import Derived.ChangeOld
import Derived.Below
namespace Go.Proofs.Ythgoaijfpdnolaa.rankOne
open Go.ChangeShapes Go.WideShapes Go.ChangeAt Go.RowKit
theorem own : ownKnob Try.prog.godebug = none := by kernel_rfl
theorem laidOut : laidOutB Try.prog = true := by kernel_rfl
/-- What a slice of numbers of 16 bits holds. -/
def Row16 (w : World) (a : Option Addr) (len cap : Nat) (zs : List Int) : Prop :=
  (a = none ∧ len = 0 ∧ cap = 0 ∧ zs = []) ∨
  ∃ x, a = some x ∧ len ≤ cap ∧ cap ≤ maxLen ∧ zs.length = cap ∧ (∀ i, i < zs.length → w.cell? (x.add i) = some (.int .u16 (zs.getD i 0))) ∧ ∀ n ∈ zs, (Lit.int .u16 n).wf = true
theorem wfu16 {a : Int} (h : (Lit.int .u16 a).wf = true) : 0 ≤ a ∧ a ≤ 65535 := by
  simp [Lit.wf, IntKind.min, IntKind.max, IntKind.bits, IntKind.signed] at h
  omega
/-- The first of a row of numbers of 16 bits. -/
theorem row16_list {w : World} {a : Option Addr} {len cap : Nat} {zs : List Int} (h : Row16 w a len cap zs) (n : Nat) (hn : n ≤ len) : len ≤ cap ∧ cap ≤ maxLen ∧ ∃ K : List Int, K.length = n ∧ ∀ j (hj : j < K.length), (∃ g off, a = some ⟨g, off, none⟩ ∧ g < w.heap.size ∧ w.cell? ⟨g, off + j, none⟩ = some (.int .u16 K[j])) ∧ 0 ≤ K[j] ∧ K[j] ≤ 65535 := by
  rcases h with ⟨rfl, rfl, rfl, rfl⟩ | ⟨x, rfl, hl, hm, hz, hc, hwf⟩
  · exact ⟨Nat.le_refl _, by unfold maxLen; omega, [], by simp; omega, fun j hj => absurd hj (by simp)⟩
  · refine ⟨hl, hm, zs.take n, by rw [List.length_take]; omega, fun j hj => ?_⟩
    rw [List.length_take] at hj
    have hj2 : j < zs.length := by omega
    have e : (zs.take n)[j]'(by rw [List.length_take]; exact hj) = zs[j] := List.getElem_take
    rw [e]
    have h1 := hc j hj2
    rw [List.getD_eq_getElem?_getD, List.getElem?_eq_getElem hj2, Option.getD_some] at h1
    obtain ⟨b, off, spot⟩ := x
    have hc0 := hc 0 (by omega)
    have hspot : spot = none := by simpa [Addr.add] using World.cell?_spot hc0
    subst hspot
    rw [Addr.add_lit] at h1
    exact ⟨⟨b, off, rfl, cell_ltG h1, h1⟩, wfu16 (hwf _ (List.getElem_mem _))⟩
/-- How many of the turns that are lost are so from a tick on. -/
def restN (K : List Int) (T t : Int) : Nat := K.countP (fun z => decide (t ≤ z % T))
def awayB (K : List Int) (T t : Int) (i : Nat) : Bool := (K.take i).any (fun z => z % T == t)
theorem rest_le (K : List Int) (T t : Int) : restN K T t ≤ K.length := List.countP_le_length
theorem rest_mono (K : List Int) (T t : Int) : restN K T (t + 1) ≤ restN K T t := List.countP_mono_left (fun z _ h => by
  have := of_decide_eq_true h
  exact decide_eq_true (by omega))
theorem rest_away (K : List Int) (T t : Int) (h : K.any (fun z => z % T == t) = true) : restN K T (t + 1) + 1 ≤ restN K T t := by
  induction K with
  | nil => cases h
  | cons z K ih =>
    unfold restN at ih ⊢
    rw [List.countP_cons, List.countP_cons]
    rw [List.any_cons, Bool.or_eq_true] at h
    rcases h with h | h
    · have h1 : z % T = t := by simpa using h
      rw [if_neg (by simp; omega), if_pos (by simp; omega)]
      have := rest_mono K T t
      unfold restN at this
      omega
    · have h2 := ih h
      by_cases h3 : t + 1 ≤ z % T
      · rw [if_pos (by simp; omega), if_pos (by simp; omega)]; omega
      · rw [if_neg (by simp; omega)]; omega
theorem away_succ (K : List Int) (T t : Int) (i : Nat) (hi : i < K.length) : awayB K T t (i + 1) = (awayB K T t i || (K[i] % T == t)) := by
  unfold awayB
  rw [List.take_succ_eq_append_getElem hi, List.any_append]
  simp
/-- The best node from a place on. -/
def bestI (st : Fs) (j : Nat) (x : Int) : Prop := (x = -1 ∧ ∀ i, j ≤ i → i < 5 → st i = none) ∨ ∃ q : Nat, x = (q : Int) ∧ j ≤ q ∧ q < 5 ∧ (∃ d, st q = some d) ∧ ∀ i, j ≤ i → i < q → st i = none
set_option maxRecDepth 100000 in
set_option maxHeartbeats 16000000 in
theorem walk (b s p : Int) (a1 : Option Addr) (len1 cap1 : Nat) (L : List A21) (a2 : Option Addr) (len2 cap2 : Nat) (zs : List Int) (w : World) (_ : (Lit.int .i64 b).wf = true) (_ : (Lit.int .i64 s).wf = true) (_ : (Lit.int .i64 p).wf = true) (w1 : L.length = len1 ∧ (∀ s ∈ L, s.wf) ∧ Rd w 3 (.slice a1 len1 cap1) (L.flatMap A21.C)) (w2_ : Row16 w a2 len2 cap2 zs) :
    Calls Try.prog 11 #[.agg #[.int .i64 b, .int .i64 s, .int .i64 p], .slice a1 len1 cap1, .slice a2 len2 cap2] w fun y w' => y = .returned (.bool true) ∧ Below w.heap.size w w' := by
  obtain ⟨rfl, _, hL⟩ := w1
  have HLR := Lib.hid hL
  clear hL
  obtain ⟨n2, hn2⟩ : ∃ n2, n2 = min len2 4 := ⟨_, rfl⟩
  obtain ⟨hlc, hcm, K, hK1, hK2⟩ := row16_list w2_ n2 (by omega)
  have hn4 : n2 ≤ 4 := by omega
  have HK := Lib.hid hK2
  have HKL := Lib.hid hK1
  clear w2_ hK2 hK1
  obtain ⟨W0, hW0⟩ : ∃ W, W = w.alloc (.cells #[.int .i64 b, .int .i64 s, .int .i64 p] 34) := ⟨_, rfl⟩
  have HA0 := Lib.hid (show Blk W0 w.heap.size 34 [.int .i64 b, .int .i64 s, .int .i64 p] by rw [hW0]; exact Blk.new w 34 [.int .i64 b, .int .i64 s, .int .i64 p])
  have HB0 := Lib.hid (show Below w.heap.size w W0 by rw [hW0]; exact (Below.refl _ w).alloc (Nat.le_refl _) _)
  have HSM := Lib.hid (fun u => lw_small b s p (n2 : Int) (by omega) u)
  obtain ⟨hrc, hp5, hb12⟩ := sm_rc b s p (n2 : Int) (by omega)
  obtain ⟨B0, hB0⟩ : ∃ x, x = smB b (n2 : Int) := ⟨_, rfl⟩
  obtain ⟨S0, hS0⟩ : ∃ x, x = smS s := ⟨_, rfl⟩
  obtain ⟨P0, hP0⟩ : ∃ x, x = smP p := ⟨_, rfl⟩
  rw [← hB0, ← hS0, ← hP0] at HSM hrc
  rw [← hP0] at hp5
  rw [← hB0] at hb12
  have HRC := Lib.hid hrc
  have HP5 := Lib.hid (show 1 ≤ P0 ∧ P0 ≤ 5 ∧ ((n2 : Int) + 2) * 6 ≤ B0 by have := hrc.p1; omega)
  have HOP := Lib.hid (fun u => fd_open_yes B0 S0 P0 5 (rc_rightR hrc) (by omega) u)
  clear hB0 hS0 hP0 hrc hp5 hb12
  go_enter Try.func11, Try.ntmps11
  go_upto_region 1 with fail
  rw [← hW0]
  clear hW0
  go_upto_if 20 with fail
  go_cut [2] (fun s2 wx => s2 = .slice a2 n2 cap2 ∧ wx = W0)
  case first =>
    by_cases h4 : 4 < len2
    · have i1 : (4 : Int) < (len2 : Int) := by omega
      have i2 : 4 ≤ cap2 := by omega
      have HE := Lib.hid (show n2 = 4 by omega)
      go_wp2_with fail
      go_meet
      exact ⟨by rw [HE.out], rfl⟩
    · have i1 : ¬ (4 : Int) < (len2 : Int) := by omega
      have HE := Lib.hid (show n2 = len2 by omega)
      go_wp2_with fail
      go_meet
      exact ⟨by rw [HE.out], rfl⟩
  case rest =>
  obtain ⟨rfl, hwc⟩ := hcut
  subst hwc
  clear hn2 hlc hcm
  obtain ⟨C, hC⟩ : ∃ C, C = w.heap.size := ⟨_, rfl⟩
  rw [← hC] at HA0 ⊢
  have c0 := HA0.out.cellAt (i := 0) (by simp); have c1 := HA0.out.cellAt (i := 1) (by simp); have c2 := HA0.out.cellAt (i := 2) (by simp)
  have HCW := Lib.hid hC
  clear hC
  go_wp2_with fail
  refine (HSM.out _).mono ?_
  rintro y w2 ⟨rfl, hb⟩
  have HB2 := Lib.hid (below_transG HB0.out hb)
  have HA2 := Lib.hid (HA0.out.keep hb HA0.out.lt)
  clear hb c0 c1 c2 HA0 HB0
  have c0 : w2.cell? ⟨C, 0, none⟩ = some (.int .i64 b) := HA2.out.cellAt (i := 0) (by simp)
  have c1 : w2.cell? ⟨C, 1, none⟩ = some (.int .i64 s) := HA2.out.cellAt (i := 1) (by simp)
  have c2 : w2.cell? ⟨C, 2, none⟩ = some (.int .i64 p) := HA2.out.cellAt (i := 2) (by simp)
  have f0 : w2.frozen? ⟨C, 0, none⟩ = false := HA2.out.frozenAt 0
  have f1 : w2.frozen? ⟨C, 1, none⟩ = false := HA2.out.frozenAt 1
  have f2 : w2.frozen? ⟨C, 2, none⟩ = false := HA2.out.frozenAt 2
  have hcl := HA2.out.lt
  have HA3 := Lib.hid (((HA2.out.put1 (i := 0) (by simp) (.int .i64 B0)).put1 (i := 1) (by simp) (.int .i64 S0)).put1 (i := 2) (by simp) (.int .i64 P0))
  have HB3 := Lib.hid (((HB2.out.setCell (p := ⟨C, 0, none⟩) (by have := HCW.out; show w.heap.size ≤ C; omega) (.int .i64 B0)).setCell (p := ⟨C, 1, none⟩) (by have := HCW.out; show w.heap.size ≤ C; omega) (.int .i64 S0)).setCell (p := ⟨C, 2, none⟩) (by have := HCW.out; show w.heap.size ≤ C; omega) (.int .i64 P0))
  go_upto_region 4 with fail
  obtain ⟨w3, hw3⟩ : ∃ w3, w3 = (((w2.setCell ⟨C, 0, none⟩ (.int .i64 B0)).setCell ⟨C, 1, none⟩ (.int .i64 S0)).setCell ⟨C, 2, none⟩ (.int .i64 P0)) := ⟨_, rfl⟩
  rw [← hw3] at HA3 HB3 ⊢
  clear c0 c1 c2 f0 f1 f2 hcl hw3 HA2 HB2
  have HA4 := Lib.hid (show Blk w3 C 34 [.int .i64 B0, .int .i64 S0, .int .i64 P0] from HA3.out)
  clear HA3
  have c0 := HA4.out.cellAt (i := 0) (by simp); have c1 := HA4.out.cellAt (i := 1) (by simp); have c2 := HA4.out.cellAt (i := 2) (by simp)
  go_wp2_with fail
  refine (HOP.out _).mono ?_
  rintro y w4 ⟨A, NB, pk, rfl, hF, hS, hb⟩
  have HF := Lib.hid hF; have HS := Lib.hid hS; have HB := Lib.hid hb
  have HCL := Lib.hid HA4.out.lt
  have HCC := Lib.hid (show ∀ u, Below w3.heap.size w3 u → u.cell? ⟨C, 0, none⟩ = some (.int .i64 B0) ∧ u.cell? ⟨C, 1, none⟩ = some (.int .i64 S0) ∧ u.cell? ⟨C, 2, none⟩ = some (.int .i64 P0) from fun u hu => ⟨(HA4.out.keep hu HA4.out.lt).cellAt (i := 0) (by simp), (HA4.out.keep hu HA4.out.lt).cellAt (i := 1) (by simp), (HA4.out.keep hu HA4.out.lt).cellAt (i := 2) (by simp)⟩)
  obtain ⟨st0, hst0⟩ : ∃ st0, st0 = newS 5 := ⟨_, rfl⟩
  rw [← hst0] at HF HS
  clear hF hS hb c0 c1 c2 hst0 HSM HOP
  go_wp2_with fail
  go_loopw [10] (fun s8 wr => ∃ (i : Nat) (pk : Nat → Nat) (st : Fs) (ta : Option Addr) (tc : Nat) (told : List Int), s8 = .int .i64 (i : Int) ∧ i ≤ 40 ∧ FA wr A NB B0 S0 P0 5 pk st ta tc told ∧ (∀ j, FC.S A NB 5 pk st j → w3.heap.size ≤ j) ∧ Below w3.heap.size w3 wr) (fun s8 _ => 40 - (intOf s8).toNat)
  case atStart => exact ⟨0, pk, st0, none, 0, [], rfl, by omega, HF.out, HS.out, HB.out⟩
  case round =>
    clear HF HS HB
    obtain ⟨i, pk, st, ta, tc, told, rfl, hi40, hF, hS, hB⟩ := hrel
    have HF := Lib.hid hF; have HS := Lib.hid hS; have HB := Lib.hid hB
    clear hF hS hB
    by_cases hgo : i < L.length ∧ i < 40
    · have hlt := hgo.1
      have i1 : (i : Int) < (L.length : Int) := by omega
      have i2 : (i : Int) < 40 := by have := hgo.2; omega
      have i3 : (0 : Int) ≤ (i : Int) := by omega
      obtain ⟨g, off, rfl, hg, hcell⟩ := rd_at A21.C 3 (fun _ => rfl) HLR.out hlt (by decide)
      obtain ⟨x, hx⟩ : ∃ x, x = L[i] := ⟨_, rfl⟩
      rw [← hx] at hcell
      clear hx
      obtain ⟨kd, k, m⟩ := x
      have hbw := HB3.out.trans (HB.out.mono HB3.out.size)
      have hcw : ∀ j v, (A21.C ⟨kd, k, m⟩)[j]? = some v → wr.cell? ⟨g, off + i * 3 + j, none⟩ = some v := fun j v h => (hbw.cell (p := ⟨g, off + i * 3 + j, none⟩) hg).trans (hcell j v h)
      have e0 : wr.cell? ⟨g, off + i * 3, none⟩ = some (.int .i64 kd) := hcw 0 _ rfl
      have e1 : wr.cell? ⟨g, off + i * 3 + 1, none⟩ = some (.int .i64 k) := hcw 1 _ rfl
      have e2 : wr.cell? ⟨g, off + i * 3 + 2, none⟩ = some (.int .i64 m) := hcw 2 _ rfl
      have HD := Lib.hid (lw_do HF.out kd k m)
      have HGO := Lib.hid (show i < 40 from hgo.2)
      clear hcw hbw hcell
      go_wp2_with fail
      refine HD.out.mono ?_
      rintro y w5 ⟨rfl, pk', st', ta', tc', told', hF5, hS5, hFo⟩
      have HF5 := Lib.hid hF5
      have HS6 := Lib.hid (show ∀ j, FC.S A NB 5 pk' st' j → w3.heap.size ≤ j from fun j hj => by rcases hS5 j hj with h | h; exact HS.out j h; have := HB.out.size; omega)
      have HB5 := Lib.hid (HB.out.trans (hFo.below HS.out HB.out.size))
      clear hF5 hS5 hFo e0 e1 e2
      go_wp2_with fail
      go_roundw
      case rel => exact ⟨i + 1, pk', st', ta', tc', told', by simp, by have := HGO.out; omega, HF5.out, HS6.out, HB5.out⟩
      case measure => have := HGO.out; simp [intOf]; omega
    have hT : ((i : Int) < (L.length : Int) ∧ ¬ (i : Int) < 40) ∨ ¬ (i : Int) < (L.length : Int) := by omega
    clear hgo
    have HAL := Lib.hid (fun k => fd_alive HF.out.c k)
    have HPL := Lib.hid (fun u => lw_plain B0 S0 P0 u)
    have HWI := Lib.hid (fun u => rrk_window B0 S0 P0 5 (n2 : Int) u)
    have hwb : windB B0 S0 P0 5 (n2 : Int) = true := by unfold windB; rw [rc_rightR HRC.out, inR_yes (by omega), inR_yes (by omega)]; rfl
    have hwx : windX B0 S0 P0 5 (n2 : Int) = waitI B0 S0 4 + ((n2 : Int) + 3) * P0 + 4 := by unfold windX; rw [hwb]; rfl
    obtain ⟨_, hw2, hw3, _⟩ := wind_in hwb
    obtain ⟨WV, hWV⟩ : ∃ WV, WV = windX B0 S0 P0 5 (n2 : Int) := ⟨_, rfl⟩
    rw [← hWV] at HWI hwx
    obtain ⟨T3, hT3⟩ : ∃ T3, T3 = 3 * WV := ⟨_, rfl⟩
    have HWVI := Lib.hid (show WV = waitI B0 S0 4 + ((n2 : Int) + 3) * P0 + 4 from hwx)
    have HT3 := Lib.hid (show T3 = 3 * WV ∧ 5 ≤ WV ∧ T3 ≤ 1000000 by
      have h4 : waitI B0 S0 (5 - 1) = waitI B0 S0 4 := rfl
      rw [h4] at hw2
      omega)
    have HTW := Lib.hid (show wrap64 (3 * WV) = T3 by rw [hT3]; exact w64_in _ (by have := HT3.out; omega))
    clear hwb hwx hw2 hw3 hWV hT3
    rcases hT with ⟨i1, i2⟩ | i1
    all_goals
      go_wp2_with fail
      go_loopw [11, 12] (fun s11 s12 wx => ∃ (j : Nat) (x k : Int), s12 = .int .i64 k ∧ k = (j : Int) - 1 ∧ j ≤ 5 ∧ s11 = .int .i64 x ∧ bestI st j x ∧ wx = wr) (fun _ s12 _ => (intOf s12 + 1).toNat)
      case atStart => exact ⟨5, -1, 4, rfl, rfl, by omega, rfl, .inl ⟨rfl, fun i h1 h2 => by omega⟩, rfl⟩
      case round =>
        obtain ⟨j, x, k, rfl, hkj, hj5, rfl, hbest, hwx⟩ := hrel
        subst hwx
        have HBE := Lib.hid hbest
        clear hbest
        by_cases hj : 1 ≤ j
        · obtain ⟨j', rfl⟩ : ∃ j', j = j' + 1 := ⟨j - 1, by omega⟩
          obtain rfl : k = (j' : Int) := by omega
          have k1 : (0 : Int) ≤ (j' : Int) := by omega
          have hw1 : wrap64 ((j' : Int) - 1) = (j' : Int) - 1 := w64_in _ (by omega)
          have HA := Lib.hid (HAL.out (j' : Int))
          rw [show aliveB 5 st (j' : Int) = (st j').isSome by unfold aliveB; rw [inR_yes (by omega), Int.toNat_natCast]; rfl] at HA
          have HJ5 := Lib.hid (show j' < 5 by omega)
          clear hkj hj
          cases hs : st j' with
          | none =>
            rw [hs] at HA
            have HS := Lib.hid hs
            clear hs
            go_wp2_with fail
            refine HA.out.mono ?_
            rintro y wz ⟨rfl, rfl⟩
            go_wp2_with fail
            go_roundw
            case rel => exact ⟨j', x, _, rfl, rfl, by omega, rfl, by
              rcases HBE.out with ⟨e, h⟩ | ⟨q, e, h1, h2, h3, h4⟩
              · exact .inl ⟨e, fun i h5 h6 => by by_cases h7 : i = j'; rw [h7]; exact HS.out; exact h i (by omega) h6⟩
              · exact .inr ⟨q, e, by omega, h2, h3, fun i h5 h6 => by by_cases h7 : i = j'; rw [h7]; exact HS.out; exact h4 i (by omega) h6⟩, by first | rfl | trivial⟩
            case measure => first | (simp [intOf]; done) | (simp [intOf]; omega)
          | some d =>
            rw [hs] at HA
            have HS := Lib.hid hs
            clear hs
            go_wp2_with fail
            refine HA.out.mono ?_
            rintro y wz ⟨rfl, rfl⟩
            go_wp2_with fail
            go_roundw
            case rel => exact ⟨j', (j' : Int), _, rfl, rfl, by omega, rfl, .inr ⟨j', rfl, by omega, HJ5.out, ⟨d, HS.out⟩, (fun i h5 h6 => by omega)⟩, by first | rfl | trivial⟩
            case measure => first | (simp [intOf]; done) | (simp [intOf]; omega)
        obtain rfl : j = 0 := by omega
        obtain rfl : k = -1 := by omega
        have cc := HCC.out _ HB.out
        obtain ⟨c0, c1, c2⟩ := cc
        clear hkj hj HAL
        have HJ0 := Lib.hid (show (x = -1 ∧ ∀ i, i < 5 → st i = none) ∨ ∃ q : Nat, x = (q : Int) ∧ q < 5 ∧ I1 B0 S0 P0 5 q (n2 : Int) (WV - 1) 0 (restN K T3 0 : Nat) st told from by
          rcases HBE.out with ⟨e, h⟩ | ⟨q, e, _, h2, ⟨d, hd⟩, h4⟩
          · exact .inl ⟨e, fun i hi => h i (by omega) hi⟩
          · refine .inr ⟨q, e, h2, (I1.begins (L := (n2 : Int)) HF.out.fi HRC.out h2 (fun i hi => h4 i (by omega) hi) hd ?_).mono HRC.out.p1.1 (by have := rest_le K T3 0; have := HKL.out; omega)⟩
            have h5 := HRC.out.waitMono (j := q) (k := 4) (by omega)
            have h6 : waitI B0 S0 ((4 : Nat) : Int) = waitI B0 S0 4 := rfl
            have h7 := HWVI.out
            have h8 : ((n2 : Int) + 3) * P0 = (n2 : Int) * P0 + 3 * P0 := Int.add_mul _ _ _
            have h9 := HP5.out
            omega)
        go_wp2_with fail
        refine (HPL.out _).mono ?_
        rintro y w6 ⟨rfl, hb⟩
        have HF6 := Lib.hid (HF.out.on hb); have HB6 := Lib.hid (HB.out.trans (hb.mono HB.out.size))
        clear hb c0 c1 c2 HBE
        go_wp2_with fail
        refine (HWI.out _).mono ?_
        rintro y w7 ⟨rfl, hb⟩
        have HF7 := Lib.hid (HF6.out.on hb); have HB7 := Lib.hid (HB6.out.trans (hb.mono HB6.out.size))
        clear hb HF6 HB6 HF HB
        have HXB := Lib.hid (show x = -1 ∨ (0 ≤ x ∧ x < 5) by rcases HJ0.out with ⟨e, _⟩ | ⟨q, e, h, _⟩; exact .inl e; exact .inr (by omega))
        go_wp2_with fail
        go_loopw [14] (fun s14 wr => ∃ (t : Nat) (st' : Fs) (ta' : Option Addr) (tc' : Nat) (told' : List Int), s14 = .int .i64 (t : Int) ∧ (t : Int) ≤ T3 ∧ FA wr A NB B0 S0 P0 5 pk st' ta' tc' told' ∧ (∀ j, FC.S A NB 5 pk st' j → w3.heap.size ≤ j) ∧ ((x = -1 ∧ ∀ i, i < 5 → st' i = none) ∨ ∃ q : Nat, x = (q : Int) ∧ q < 5 ∧ I1 B0 S0 P0 5 q (n2 : Int) (WV - 1) (t : Int) (restN K T3 t : Nat) st' told') ∧ Below w3.heap.size w3 wr) (fun s14 _ => T3.toNat - (intOf s14).toNat)
        case atStart => exact ⟨0, st, ta, tc, told, rfl, by have := HT3.out; omega, HF7.out, HS.out, HJ0.out, HB7.out⟩
        case round =>
          clear HF7 HB7 HS HJ0
          obtain ⟨t, st2, ta2, tc2, td2, rfl, htT, hF, hS, hJ, hB⟩ := hrel
          have HF := Lib.hid hF; have HS := Lib.hid hS; have HJ := Lib.hid hJ; have HB := Lib.hid hB
          clear hF hS hJ hB
          have hw := HTW.out
          have htb : (t : Int) ≤ 1000000 := by have := HT3.out; omega
          by_cases hlt : (t : Int) < T3
          · have HBW := Lib.hid (HB3.out.trans (HB.out.mono HB3.out.size))
            go_wp2_with fail
            go_loopw [15, 16] (fun s15 s16 wx => ∃ i : Nat, s16 = .int .i64 (i : Int) ∧ i ≤ n2 ∧ s15 = .bool (awayB K T3 t i) ∧ wx = wr) (fun _ s16 _ => n2 - (intOf s16).toNat)
            case atStart => exact ⟨0, rfl, by omega, rfl, rfl⟩
            case round =>
              obtain ⟨i, rfl, hi, rfl, hwx⟩ := hrel
              subst hwx
              by_cases hil : i < n2
              · have j1 : (i : Int) < (n2 : Int) := by omega
                have j2 : (0 : Int) ≤ (i : Int) := by omega
                have hiK : i < K.length := by rw [HKL.out]; exact hil
                obtain ⟨⟨g, off, hag, hg, hc⟩, hz0, hz1⟩ := HK.out i hiK
                subst hag
                have HAS := Lib.hid (away_succ K T3 t i hiK)
                obtain ⟨z, hz⟩ : ∃ z, z = K[i] := ⟨_, rfl⟩
                rw [← hz] at hc hz0 hz1 HAS
                have e1 := (HBW.out.cell (p := ⟨g, off + i, none⟩) hg).trans hc
                have hzw : wrap64 z = z := w64_in _ (by omega)
                have hT0 : ¬ T3 = 0 := by have := HT3.out; omega
                obtain ⟨v, hv⟩ : ∃ v, v = z % T3 := ⟨_, rfl⟩
                have hm1 : z % T3 = v := hv.symm
                have hm2 : z.tmod T3 = v := by rw [Int.tmod_eq_emod_of_nonneg hz0]; exact hm1
                rw [← hv] at HAS
                obtain ⟨aw, haw⟩ : ∃ aw, aw = awayB K T3 t i := ⟨_, rfl⟩
                rw [← haw] at HAS ⊢
                obtain ⟨c, hcc⟩ : ∃ c, c = (v == (t : Int)) := ⟨_, rfl⟩
                rw [← hcc] at HAS
                have hc2 := hcc.symm
                have hn4b := hn4
                clear hz hv hc haw hcc hiK
                cases aw
                all_goals
                  go_wp2_with fail
                  go_roundw
                  case rel => exact ⟨i + 1, by simp, by omega, by rw [HAS.out]; first | rfl | simp, by first | rfl | trivial⟩
                  case measure => first | (simp [intOf]; done) | (simp [intOf]; omega)
              obtain rfl : n2 = i := by omega
              obtain ⟨v, hv⟩ : ∃ v, v = awayB K T3 t n2 := ⟨_, rfl⟩
              rw [← hv]
              have hvv : v = K.any (fun z => z % T3 == (t : Int)) := by rw [hv]; unfold awayB; rw [List.take_of_length_le (by rw [HKL.out]; exact Nat.le_refl _)]
              have HTK := Lib.hid (fd_tick HF.out v)
              obtain ⟨st3, hst3⟩ : ∃ st3, st3 = tkS B0 S0 P0 (hearI v td2) st2 := ⟨_, rfl⟩
              obtain ⟨td3, htd3⟩ : ∃ td3, td3 = pickI 5 (tellB B0 S0 P0 (hearI v td2) st2) := ⟨_, rfl⟩
              have HJ3 := Lib.hid (show (x = -1 ∧ ∀ i, i < 5 → st3 i = none) ∨ ∃ q : Nat, x = (q : Int) ∧ q < 5 ∧ I1 B0 S0 P0 5 q (n2 : Int) (WV - 1) ((t : Int) + 1) (restN K T3 ((t : Int) + 1) : Nat) st3 td3 from by
                rcases HJ.out with ⟨e, h⟩ | ⟨q, e, h2, h⟩
                · exact .inl ⟨e, fun i hi => by rw [hst3]; exact tkS_none (h i hi)⟩
                · refine .inr ⟨q, e, h2, ?_⟩
                  have h5 := HRC.out.waitMono (j := q) (k := 4) (by omega)
                  have h6 : waitI B0 S0 ((4 : Nat) : Int) = waitI B0 S0 4 := rfl
                  have h7 := HWVI.out
                  have h8 : ((n2 : Int) + 3) * P0 = (n2 : Int) * P0 + 3 * P0 := Int.add_mul _ _ _
                  have h9 := HP5.out
                  have h10 : ((n2 : Int) + 1) * P0 ≤ ((n2 : Int) + 1) * 5 := Int.mul_le_mul_of_nonneg_left h9.2.1 (by omega)
                  have h11 := rest_le K T3 t
                  have h12 := rest_mono K T3 t
                  have h13 := HKL.out
                  rw [hst3, htd3]
                  cases v with
                  | true =>
                    have h14 := rest_away K T3 t hvv.symm
                    exact (h.mono (a' := ((restN K T3 ((t : Int) + 1) : Nat) : Int) + 1) HRC.out.p1.1 (by omega)).step HRC.out h2 (by omega) (by omega) (by omega) (by omega) (by omega) [] (.inr ⟨rfl, rfl⟩)
                  | false =>
                    exact (h.mono (a' := ((restN K T3 ((t : Int) + 1) : Nat) : Int)) HRC.out.p1.1 (by omega)).step HRC.out h2 (by omega) (by omega) (by omega) (by omega) (by omega) td2 (.inl ⟨rfl, rfl⟩))
              have HMM := Lib.hid (show WV ≤ (t : Int) → (x = -1 → pickI 5 (mastB st3) = []) ∧ (0 ≤ x → pickI 5 (mastB st3) = [x]) from fun hge => by
                rcases HJ3.out with ⟨e, h⟩ | ⟨q, e, h2, h⟩
                · exact ⟨fun _ => pick_none (fun i hi => by unfold mastB; rw [h i hi]), fun h0 => by omega⟩
                · refine ⟨fun h0 => by omega, fun _ => ?_⟩
                  have h5 := HRC.out.waitMono (j := q) (k := 4) (by omega)
                  have h6 : waitI B0 S0 ((4 : Nat) : Int) = waitI B0 S0 4 := rfl
                  have h7 := HWVI.out
                  have h8 : 0 ≤ ((n2 : Int) + 3) * P0 := Int.mul_nonneg (by omega) (by have := HP5.out; omega)
                  rw [e]
                  exact h.masters HRC.out h2 (by omega) (by omega) (by omega))
              rw [← hst3, ← htd3] at HTK
              have HST := Lib.hid (show ∀ j, FC.S A NB 5 pk st3 j → FC.S A NB 5 pk st2 j from fun j hj => by rw [hst3] at hj; exact S_tick.1 hj)
              clear hv hvv hst3 htd3 HJ
              go_wp2_with fail
              refine HTK.out.mono ?_
              rintro y w8 ⟨rfl, ya, yc, hF8, hFo8⟩
              have HF8 := Lib.hid hF8
              have HB8 := Lib.hid (HB.out.trans (hFo8.below HS.out HB.out.size))
              have HS9 := Lib.hid (show ∀ j, FC.S A NB 5 pk st3 j → w3.heap.size ≤ j from fun j hj => HS.out j (HST.out j hj))
              have HMS := Lib.hid (fd_masters HF8.out)
              clear hF8 hFo8 HTK
              by_cases hge : WV ≤ (t : Int)
              · rcases HXB.out with hx | ⟨hx0, hx5⟩
                · rw [(HMM.out hge).1 hx] at HMS
                  subst hx
                  go_wp2_with fail
                  refine HMS.out.mono ?_
                  rintro y w9 ⟨ma, mc, rfl, _, _, hb⟩
                  have HF9 := Lib.hid (HF8.out.on hb); have HB9 := Lib.hid (HB8.out.trans (hb.mono HB8.out.size))
                  clear hb HMS
                  go_wp2_with fail
                  go_roundw
                  case rel => exact ⟨t + 1, st3, ya, yc, td3, by simp, by omega, HF9.out, HS9.out, by rw [show ((t + 1 : Nat) : Int) = (t : Int) + 1 by omega]; exact HJ3.out, HB9.out⟩
                  case measure => simp [intOf]; omega
                · rw [(HMM.out hge).2 hx0] at HMS
                  have x1 : ¬ x < 0 := by omega
                  go_wp2_with fail
                  refine HMS.out.mono ?_
                  rintro y w9 ⟨ma, mc, rfl, hI, _, hb⟩
                  have HF9 := Lib.hid (HF8.out.on hb); have HB9 := Lib.hid (HB8.out.trans (hb.mono HB8.out.size))
                  obtain ⟨mg, mo, hma, hmg, hm0⟩ := hI 0 (by simp)
                  subst hma
                  have m0 : w9.cell? ⟨mg, mo, none⟩ = some (.int .i64 x) := hm0
                  have x2 : (x != x) = false := by simp
                  clear hb HMS hI hmg hm0
                  go_wp2_with fail
                  go_roundw
                  case rel => exact ⟨t + 1, st3, ya, yc, td3, by simp, by omega, HF9.out, HS9.out, by rw [show ((t + 1 : Nat) : Int) = (t : Int) + 1 by omega]; exact HJ3.out, HB9.out⟩
                  case measure => simp [intOf]; omega
              · go_wp2_with fail
                refine HMS.out.mono ?_
                rintro y w9 ⟨ma, mc, rfl, _, _, hb⟩
                have HF9 := Lib.hid (HF8.out.on hb); have HB9 := Lib.hid (HB8.out.trans (hb.mono HB8.out.size))
                clear hb HMS
                go_wp2_with fail
                go_roundw
                case rel => exact ⟨t + 1, st3, ya, yc, td3, by simp, by omega, HF9.out, HS9.out, by rw [show ((t + 1 : Nat) : Int) = (t : Int) + 1 by omega]; exact HJ3.out, HB9.out⟩
                case measure => simp [intOf]; omega
          · go_wp2_with fail
            refine (live21 _).mono ?_
            rintro y w10 ⟨rfl, hb⟩
            have HBz := Lib.hid (below_transG (HB3.out.trans (HB.out.mono HB3.out.size)) hb)
            clear hb
            go_wp2_with fail
            go_ret
            exact ⟨rfl, HBz.out⟩
set_option maxRecDepth 100000 in
theorem lifted (os : Os) (started : os.Started) (H : Type) (enc : TypeId × Value → H) :
    ReturnsInHanded {} Try.checked os 11 .any (Rows.rankOneSpec.pre6 enc Try.prog Try.f11 Rows.rankOneRow.domain false) (Rows.rankOneSpec.post enc Try.prog Try.f11 false true false false) := by
  refine returnsInHanded_of_change (C := Try.checked) own started (by kernel_rfl) Try.func11
    (ChangeSpec.witness6 (enc := enc) (C := Try.checked) false ⟨#[], #[.agg #[.int .i64 0, .int .i64 0, .int .i64 0], .slice none 0 0, .slice none 0 0], []⟩ 8 (by kernel_rfl) (by kernel_rfl) (by kernel_rfl) (by kernel_rfl)) ?_
  intro W base args ds gs before hval0 hW _ _
  have hval : ∀ (j : Nat) t v, Try.f11.params[j]? = some t → args[j]? = some v → Value.okWide Try.prog W .any base t v := hval0
  have hW' := hW
  obtain ⟨p, q, hA0, hV, rfl, hfz, hnd⟩ := hW
  have hA : DataW.TrodAll enc Try.prog W 0 (fun _ => true) true Try.f11.params.toList args.toList ds p := hA0
  rw [Try.params11] at hA hval
  obtain ⟨v0, vs0, d0, ds0, p0, q0, hargs, rfl, rfl, h0, r0⟩ := trodAll_cons hA
  obtain ⟨v1, vs1, d1, ds1, p1, q1, rfl, rfl, rfl, h1, r1⟩ := trodAll_cons r0
  obtain ⟨v2, vs2, d2, ds2, p2, q2, rfl, rfl, rfl, h2, r2⟩ := trodAll_cons r1
  obtain ⟨rfl, rfl, rfl⟩ := trodAll_nil r2
  obtain rfl : args = #[v0, v1, v2] := by cases args; simp_all
  obtain ⟨rfl, rfl⟩ := trodVars_none hV
  have k0 := h0
  have lt0 : ∀ x ∈ p0, x.block < W.heap.size := by obtain ⟨m, hm⟩ := k0; exact DataW.trod_lt m _ _ _ hm
  obtain ⟨ca0, cb0, cc0, ya0, yb0, yc0, n0, rfl, rfl, rfl, ta0, tb0, tc0⟩ := Joins.open_agg3 Try.underlying34 (by kernel_rfl) (by kernel_rfl) (hval 0 34 v0 rfl rfl) h0
  obtain ⟨xa0, hxa0, rfl, wa0⟩ := DataW.trod_int Try.underlying3 ta0
  obtain ⟨xb0, hxb0, rfl, wb0⟩ := DataW.trod_int Try.underlying3 tb0
  obtain ⟨xc0, hxc0, rfl, wc0⟩ := DataW.trod_int Try.underlying3 tc0
  obtain rfl : ca0 = .int .i64 xa0 := by simpa using hxa0
  obtain rfl : cb0 = .int .i64 xb0 := by simpa using hxb0
  obtain rfl : cc0 = .int .i64 xc0 := by simpa using hxc0
  obtain ⟨a1, len1, cap1, rfl⟩ := okWide_slice Try.underlying60 (hval 1 60 v1 rfl rfl)
  have k1 := h1
  have lt1 : ∀ x ∈ p1, x.block < W.heap.size := by obtain ⟨m, hm⟩ := k1; exact DataW.trod_lt m _ _ _ hm
  obtain ⟨L1, wl1, ww1, wr1⟩ : ∃ L : List A21, L.length = len1 ∧ (∀ s ∈ L, A21.wf s) ∧ Rd W 3 (.slice a1 len1 cap1) (L.flatMap A21.C) := by
    obtain ⟨fuel, hf⟩ := h1
    exact open_rows A21.C A21.wf 3 (by decide) Try.underlying60 (by kernel_rfl) (fun _ => rfl) (fun _ _ _ => act21G) (by simpa [Value.cells] using hf)
  obtain ⟨a2, len2, cap2, rfl⟩ := okWide_slice Try.underlying79 (hval 2 79 v2 rfl rfl)
  have k2 := h2
  have lt2 : ∀ x ∈ p2, x.block < W.heap.size := by obtain ⟨m, hm⟩ := k2; exact DataW.trod_lt m _ _ _ hm
  obtain ⟨z2, w2⟩ : ∃ zs, Row16 W a2 len2 cap2 zs := by
    obtain ⟨fuel, hf⟩ := h2
    rcases open_ints Try.underlying79 Try.underlying82 (by kernel_rfl) hf with ⟨hcs, _⟩ | ⟨x, l, c, zs, hcs, _, hl, hm, hz, _, hcell, hwz⟩
    · simp [Value.cells] at hcs
      obtain ⟨rfl, rfl, rfl⟩ := hcs
      exact ⟨[], .inl ⟨rfl, rfl, rfl, rfl⟩⟩
    · simp [Value.cells] at hcs
      obtain ⟨rfl, rfl, rfl⟩ := hcs
      exact ⟨zs, .inr ⟨_, rfl, hl, hm, by simpa using hz, hcell, hwz⟩⟩
  clear hA0 hval0
  refine (walk xa0 xb0 xc0 a1 len1 cap1 L1 a2 len2 cap2 z2 W wa0 wb0 wc0 ⟨wl1, ww1, wr1⟩ w2).mono fun e W' ⟨he, bel⟩ => ?_
  subst he
  exact ⟨_, rfl, _, _, _, [], _, [], hW', trodAll_mk1 (shut_bool Try.underlying4 _), (trodAll_cons_mk (Below.trod laidOut (by kernel_rfl) (of_decide_eq_true (by kernel_rfl)) k0 bel lt0) (trodAll_cons_mk (Below.trod laidOut (by kernel_rfl) (of_decide_eq_true (by kernel_rfl)) k1 bel lt1) (trodAll_cons_mk (Below.trod laidOut (by kernel_rfl) (of_decide_eq_true (by kernel_rfl)) k2 bel lt2) trodAll_mk0))), rfl, bel.frame _, fun h => by cases h⟩
theorem over : Rows.rankOneRow.holds Try.pinned (OpenSpec.ofChange Rows.rankOneSpec) :=
  OpenClaim.holds_of_wide 11 Try.f11 rfl rfl rfl rfl rfl rfl rfl ⟨rfl, rfl, rfl, rfl, rfl⟩ rfl rfl rfl rfl rfl (by kernel_rfl) Try.func11 (by kernel_rfl)
    (of_decide_eq_true (by kernel_rfl)) (by unfold Func.isWrapper; first | (rw [if_pos (by decide +kernel)]; kernel_rfl) | (rw [if_neg (by decide +kernel)]; exact ⟨rfl, rfl⟩))
    (fun os started H enc _ => lifted os started H enc)
/-- The statement. -/
theorem proved : Rows.RankOneSaid := over
end Go.Proofs.Ythgoaijfpdnolaa.rankOne
