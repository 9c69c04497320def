/- Package edf: those that come by some time. Conditions: there are at most so many. -/
import Derived.Test.YtbcccffjlkphpaaEdn
namespace Go.Proofs.Ytbcccffjlkphpaa
open Go.RowKit Go.Shelf Go.Sort
set_option linter.unusedSimpArgs false
set_option linter.unusedVariables false
attribute [local go_sem] Oper.semAt_some
theorem CO.slice {W : World} {b1 : Nat} {v : Value} {C : List PJ} (h : CO W b1 v C) : ∃ a c, v = .slice a C.length c := by
  rcases h with ⟨a, c, e, e2⟩ | ⟨G, off, cap, e, _⟩
  · exact ⟨a, c, by rw [e2]; exact e⟩
  · exact ⟨_, _, e⟩
/-- The first one of those to come. -/
theorem CO.first {W : World} {b1 : Nat} {v : Value} {C : List PJ} (h : CO W b1 v C) (h0 : 0 < C.length) : ∃ G off cap, v = .slice (some ⟨G, off, none⟩) C.length cap ∧ C.length ≤ cap ∧ G < b1 ∧ (∀ i u, (C[0].C)[i]? = some u → W.cell? ⟨G, off + i, none⟩ = some u) ∧ CO W b1 (.slice (some ⟨G, off + 5, none⟩) (C.length - 1) (cap - 1)) (C.drop 1) := by
  rcases h with ⟨a, c, e, e2⟩ | ⟨G, off, cap, e, hc, hg, hb, hh⟩
  · rw [e2] at h0; cases h0
  · refine ⟨G, off, cap, e, hc, hg, fun i u hu => ?_, .inr ⟨G, off + 5, cap - 1, by rw [List.length_drop], by rw [List.length_drop]; omega, hg, hb, fun j hj i u hu => ?_⟩⟩
    · have := hh 0 h0 i u hu
      simpa using this
    · rw [List.length_drop] at hj
      rw [List.getElem_drop] at hu
      have := hh (1 + j) (by omega) i u hu
      rw [show off + (1 + j) * 5 + i = off + 5 + j * 5 + i by omega] at this
      exact this
def lenAt (B : Nat) (W : World) : Nat := match W.cell? ⟨B, 2, none⟩ with | some (.slice _ n _) => n | _ => 0
/-- Till when those are let come. -/
def comeT (H C : List PJ) (now : Int) : Int := if H = [] then (match C with | [] => now | x :: _ => max now x.j.r) else now
/-- What has come by some time. -/
def ComeR (b1 B : Nat) (len : Int) (H C : List PJ) (t : Int) (W w' : World) : Prop := ∃ k H' vH' vC', H'.Perm (H ++ C.take k) ∧ HP len H' H'.length ∧ (∀ x ∈ C.take k, x.j.r ≤ t) ∧ (∀ h0 : k < C.length, t < C[k].j.r) ∧ PW w' b1 B len H' (C.drop k) vH' vC' ∧ Ch b1 B W w'
set_option maxRecDepth 100000 in
set_option maxHeartbeats 8000000 in
theorem come_any {W : World} {b1 B : Nat} {len : Int} {H C : List PJ} {vH vC : Value} (h : PW W b1 B len H C vH vC) (hH : HP len H H.length) (hbig : H.length + C.length ≤ 1000) (now t : Int) (ht : t = comeT H C now) : Calls Try.prog 26 #[.pointer (some ⟨B, 0, none⟩), .int .i64 now] W fun e w' => e = .returned (.int .i64 t) ∧ ComeR b1 B len H C t W w' := by
  have HW := Lib.hid h; have HHP := Lib.hid hH; have HT := Lib.hid ht
  have HL := Lib.hid (plen_any h)
  obtain ⟨a0, c0, hvc⟩ := h.co.slice
  have b2 : W.cell? ⟨B, 2, none⟩ = some (.slice a0 C.length c0) := by rw [← hvc]; exact h.blk.cellAt (i := 2) (by simp)
  obtain ⟨M, hM⟩ : ∃ n, n = H.length := ⟨_, rfl⟩
  obtain ⟨N, hN⟩ : ∃ n, n = C.length := ⟨_, rfl⟩
  rw [← hM] at HL
  rw [← hN] at b2
  have HMM := Lib.hid hM; have HNN := Lib.hid hN
  clear h hH ht hvc
  have hsplit : (M = 0 ∧ 0 < N) ∨ (M ≠ 0 ∨ N = 0) := by omega
  rcases hsplit with ⟨hm, hn⟩ | hmn
  · obtain ⟨G0, off, cap, hv2, hcap, _, hcell, _⟩ := HW.out.co.first (by omega)
    obtain ⟨x, hx⟩ : ∃ x, x = C[0] := ⟨_, rfl⟩
    rw [← hx] at hcell
    have ht : t = max now x.j.r := by
      rw [HT.out]
      unfold comeT
      rw [if_pos (List.eq_nil_of_length_eq_zero (by omega))]
      cases C with
      | nil => simp at hN; omega
      | cons y C => rw [hx]; rfl
    clear b2
    have b2 : W.cell? ⟨B, 2, none⟩ = some (.slice (some ⟨G0, off, none⟩) N cap) := by rw [hN, ← hv2]; exact HW.out.blk.cellAt (i := 2) (by simp)
    have f1 : W.cell? ⟨G0, off + 1, none⟩ = some (.int .i64 x.j.r) := hcell 1 _ rfl
    have n0 : (0 : Int) < (N : Int) := by omega
    rw [hm] at HL
    have HTT := Lib.hid ht
    clear hM hN HT hv2 hcell hx ht hcap
    go_enter Try.func26, Try.ntmps26
    go_wp2_with fail
    refine HL.out.mono ?_
    rintro y w1 ⟨rfl, e1⟩
    have e1' := e1.symm
    subst e1'
    clear e1
    go_wp2_with fail
    rw [← HTT.out]
    clear f1 b2 n0 hm hn
    go_loopw [] (fun wr => ∃ (k : Nat) (G : List PJ) (v1 v2 : Value), k ≤ C.length ∧ G.Perm (H ++ C.take k) ∧ HP len G G.length ∧ (∀ x ∈ C.take k, x.j.r ≤ t) ∧ PW wr b1 B len G (C.drop k) v1 v2 ∧ Ch b1 B W wr) (fun wr => lenAt B wr)
    case atStart => exact ⟨0, H, vH, vC, by omega, by simp, HHP.out, by simp, by first | exact HW.out | exact HW.out.on (Below.refl _ _).drew, by first | exact Ch.refl _ _ _ | exact Ch.of_below (Below.refl _ _).drew⟩
    case round =>
      obtain ⟨k, G, v1, v2, hk, hp, hh, hr, hP, hC⟩ := hrel
      have HK := Lib.hid hk; have HPE := Lib.hid hp; have HHG := Lib.hid hh; have HR := Lib.hid hr; have HPW := Lib.hid hP; have HCH := Lib.hid hC
      have hGl : G.length ≤ 1000 := by have := hp.length_eq; simp at this; omega
      clear hk hp hh hr hC
      by_cases hlt : k < C.length
      · have hd0 : 0 < (C.drop k).length := by rw [List.length_drop]; omega
        obtain ⟨G0, off, cap, hv2, hcap, _, hcell, hco⟩ := hP.co.first hd0
        obtain ⟨x, hx⟩ : ∃ x, x = (C.drop k)[0] := ⟨_, rfl⟩
        have hxk : x = C[k] := by rw [hx]; simp
        rw [← hx] at hcell
        have HXK := Lib.hid hxk; have HCO := Lib.hid hco
        obtain ⟨m, hm⟩ : ∃ m, m + 1 = (C.drop k).length := ⟨(C.drop k).length - 1, by omega⟩
        have HM2 := Lib.hid hm
        rw [← hm] at hv2 hcap
        have c2 : wr.cell? ⟨B, 2, none⟩ = some (.slice (some ⟨G0, off, none⟩) (m + 1) cap) := by rw [← hv2]; exact hP.blk.cellAt (i := 2) (by simp)
        have f0 : wr.cell? ⟨G0, off, none⟩ = some (.int .i64 x.j.s) := hcell 0 _ rfl
        have f1 : wr.cell? ⟨G0, off + 1, none⟩ = some (.int .i64 x.j.r) := hcell 1 _ rfl
        have f2 : wr.cell? ⟨G0, off + 2, none⟩ = some (.int .i64 x.j.d) := hcell 2 _ rfl
        have f3 : wr.cell? ⟨G0, off + 3, none⟩ = some (.int .i64 x.j.c) := hcell 3 _ rfl
        have f4 : wr.cell? ⟨G0, off + 4, none⟩ = some (.int .i64 (x.k : Int)) := hcell 4 _ rfl
        have m0 : (0 : Int) < ((m + 1 : Nat) : Int) := by omega
        have HPU := Lib.hid (hpush_any hP HHG.out (by omega) x)
        have HV2 := Lib.hid hv2; have HCAP := Lib.hid hcap
        unfold PJ.v at HPU
        clear hP hcell hco hx hxk hm hv2
        by_cases hr : x.j.r ≤ t
        · have HRX := Lib.hid hr
          go_wp2_with fail
          refine HPU.out.mono ?_
          rintro y w2 ⟨rfl, G', v1', hp', hh', hP2, hC2⟩
          have HPE2 := Lib.hid hp'; have HHG2 := Lib.hid hh'; have HPW2 := Lib.hid hP2; have HCH2 := Lib.hid (HCH.out.trans hC2)
          have d2 : w2.cell? ⟨B, 2, none⟩ = some (.slice (some ⟨G0, off, none⟩) (m + 1) cap) := by rw [← HV2.out]; exact hP2.blk.cellAt (i := 2) (by simp)
          have e2 : w2.frozen? ⟨B, 2, none⟩ = false := hP2.blk.frozenAt 2
          have hcap2 : (1 : Int) ≤ (cap : Int) := by omega
          have g1 : (1 : Int) ≤ ((m + 1 : Nat) : Int) := by omega
          have g2 : ((m + 1 : Nat) : Int) ≤ (cap : Int) := by omega
          clear hp' hh' hP2 hC2 c2 f0 f1 f2 f3 f4 hr
          obtain ⟨Z, hZ⟩ : ∃ Z, Z = w2.setCell ⟨B, 2, none⟩ (.slice (if cap = 1 then some ⟨G0, off, none⟩ else some ⟨G0, off + 5, none⟩) m (cap - 1)) := ⟨_, rfl⟩
          have hdk : (C.drop k).drop 1 = C.drop (k + 1) := by rw [List.drop_drop]
          have hZC : Ch b1 B w2 Z := by rw [hZ]; exact Ch.setB b1 B w2 2 _
          have hZP : PW Z b1 B len G' (C.drop (k + 1)) v1' (.slice (if cap = 1 then some ⟨G0, off, none⟩ else some ⟨G0, off + 5, none⟩) m (cap - 1)) := by
            have hb := HPW2.out.blk.put1 (i := 2) (by simp) (.slice (if cap = 1 then some ⟨G0, off, none⟩ else some ⟨G0, off + 5, none⟩) m (cap - 1))
            rw [hZ]
            refine ⟨hb, HPW2.out.lt, Nat.le_trans HPW2.out.sz (by simp), own_setB HPW2.out.row HPW2.out.lt 2 _, ?_⟩
            have hl1 : (C.drop (k + 1)).length = m := by have := HM2.out; rw [List.length_drop] at this ⊢; omega
            by_cases hc1 : cap = 1
            · rw [if_pos hc1]
              have hm0 : m = 0 := by have := HCAP.out; omega
              exact .inl ⟨_, _, by rw [hm0], List.eq_nil_of_length_eq_zero (by rw [hl1, hm0])⟩
            · rw [if_neg hc1]
              obtain ⟨G1, off1, cap1, ev, _, _, _, hco⟩ := HPW2.out.co.first (by rw [← HM2.out]; omega)
              rw [HV2.out] at ev
              injection ev with ev1 ev2 ev3
              injection ev1 with ev1
              injection ev1 with ev4 ev5 _
              subst ev3 ev4 ev5
              rw [hdk, ← HM2.out, show m + 1 - 1 = m by omega] at hco
              exact hco.keep (Ch.setB b1 B w2 2 _) (fun _ hl' => absurd rfl (blk_ne HPW2.out.blk hl' (by decide)))
          have HZP := Lib.hid hZP; have HZC := Lib.hid (HCH2.out.trans hZC)
          have HTK := Lib.hid (show C.take (k + 1) = C.take k ++ [x] by rw [HXK.out]; exact List.take_succ_eq_append_getElem hlt)
          have HLA := Lib.hid (show lenAt B Z < lenAt B wr by
            have c3 : Z.cell? ⟨B, 2, none⟩ = some (.slice (if cap = 1 then some ⟨G0, off, none⟩ else some ⟨G0, off + 5, none⟩) m (cap - 1)) := hZP.blk.cellAt (i := 2) (by simp)
            have c4 : wr.cell? ⟨B, 2, none⟩ = some (.slice (some ⟨G0, off, none⟩) (m + 1) cap) := by rw [← HV2.out]; exact HPW.out.blk.cellAt (i := 2) (by simp)
            unfold lenAt
            rw [c3, c4]
            simp)
          clear hZC hZP hdk
          go_wp2_with fail
          rw [← hZ]
          clear hZ
          go_roundw
          case rel => exact ⟨k + 1, G', v1', _, by omega, by rw [HTK.out, ← List.append_assoc]; exact HPE2.out.trans (HPE.out.append_right _), HHG2.out, fun z hz => by
            rw [HTK.out, List.mem_append, List.mem_singleton] at hz
            rcases hz with hz | rfl
            · exact HR.out z hz
            · exact HRX.out, HZP.out, HZC.out⟩
          case measure => exact HLA.out
        · have HRX := Lib.hid (show t < x.j.r by omega)
          go_wp2_with fail
          go_ret
          exact ⟨rfl, k, G, v1, v2, HPE.out, HHG.out, HR.out, fun h0 => by rw [← HXK.out]; exact HRX.out, HPW.out, HCH.out⟩
      · have hd0 : C.drop k = [] := List.drop_eq_nil_of_le (by omega)
        obtain ⟨a2, c2, hv2⟩ := hP.co.slice
        have hv2' : v2 = .slice a2 0 c2 := by rw [hv2, hd0]; rfl
        have c2 : wr.cell? ⟨B, 2, none⟩ = some (.slice a2 0 c2) := by rw [← hv2']; exact hP.blk.cellAt (i := 2) (by simp)
        clear hP hd0 hv2 hv2'
        go_wp2_with fail
        go_ret
        exact ⟨rfl, k, G, v1, v2, HPE.out, HHG.out, HR.out, fun h0 => absurd h0 hlt, HPW.out, HCH.out⟩
  · have ht : t = now := by
      rw [HT.out]
      unfold comeT
      rcases hmn with h1 | h1
      · rw [if_neg (fun e => h1 (by rw [hM, e]; rfl))]
      · have : C = [] := List.eq_nil_of_length_eq_zero (by omega)
        rw [this]; split <;> rfl
    subst ht
    have k1 : ((M : Int) == 0) = decide (M = 0) := by
      by_cases e : M = 0
      · rw [e]; rfl
      · rw [decide_eq_false e]; exact beq_eq_false_iff_ne.2 (by omega)
    clear hM hN HT
    go_enter Try.func26, Try.ntmps26
    go_wp2_with fail
    refine HL.out.mono ?_
    rintro y w1 ⟨rfl, e1⟩
    have e1' := e1.symm
    subst e1'
    clear e1
    by_cases e : M = 0
    · have hn0 : N = 0 := by rcases hmn with h1 | h1 <;> omega
      subst e
      subst hn0
      go_wp2_with fail
      clear b2 k1
      go_loopw [] (fun wr => ∃ (k : Nat) (G : List PJ) (v1 v2 : Value), k ≤ C.length ∧ G.Perm (H ++ C.take k) ∧ HP len G G.length ∧ (∀ x ∈ C.take k, x.j.r ≤ t) ∧ PW wr b1 B len G (C.drop k) v1 v2 ∧ Ch b1 B W wr) (fun wr => lenAt B wr)
      case atStart => exact ⟨0, H, vH, vC, by omega, by simp, HHP.out, by simp, by first | exact HW.out | exact HW.out.on (Below.refl _ _).drew, by first | exact Ch.refl _ _ _ | exact Ch.of_below (Below.refl _ _).drew⟩
      case round =>
        obtain ⟨k, G, v1, v2, hk, hp, hh, hr, hP, hC⟩ := hrel
        have HK := Lib.hid hk; have HPE := Lib.hid hp; have HHG := Lib.hid hh; have HR := Lib.hid hr; have HPW := Lib.hid hP; have HCH := Lib.hid hC
        have hGl : G.length ≤ 1000 := by have := hp.length_eq; simp at this; omega
        clear hk hp hh hr hC
        by_cases hlt : k < C.length
        · have hd0 : 0 < (C.drop k).length := by rw [List.length_drop]; omega
          obtain ⟨G0, off, cap, hv2, hcap, _, hcell, hco⟩ := hP.co.first hd0
          obtain ⟨x, hx⟩ : ∃ x, x = (C.drop k)[0] := ⟨_, rfl⟩
          have hxk : x = C[k] := by rw [hx]; simp
          rw [← hx] at hcell
          have HXK := Lib.hid hxk; have HCO := Lib.hid hco
          obtain ⟨m, hm⟩ : ∃ m, m + 1 = (C.drop k).length := ⟨(C.drop k).length - 1, by omega⟩
          have HM2 := Lib.hid hm
          rw [← hm] at hv2 hcap
          have c2 : wr.cell? ⟨B, 2, none⟩ = some (.slice (some ⟨G0, off, none⟩) (m + 1) cap) := by rw [← hv2]; exact hP.blk.cellAt (i := 2) (by simp)
          have f0 : wr.cell? ⟨G0, off, none⟩ = some (.int .i64 x.j.s) := hcell 0 _ rfl
          have f1 : wr.cell? ⟨G0, off + 1, none⟩ = some (.int .i64 x.j.r) := hcell 1 _ rfl
          have f2 : wr.cell? ⟨G0, off + 2, none⟩ = some (.int .i64 x.j.d) := hcell 2 _ rfl
          have f3 : wr.cell? ⟨G0, off + 3, none⟩ = some (.int .i64 x.j.c) := hcell 3 _ rfl
          have f4 : wr.cell? ⟨G0, off + 4, none⟩ = some (.int .i64 (x.k : Int)) := hcell 4 _ rfl
          have m0 : (0 : Int) < ((m + 1 : Nat) : Int) := by omega
          have HPU := Lib.hid (hpush_any hP HHG.out (by omega) x)
          have HV2 := Lib.hid hv2; have HCAP := Lib.hid hcap
          unfold PJ.v at HPU
          clear hP hcell hco hx hxk hm hv2
          by_cases hr : x.j.r ≤ t
          · have HRX := Lib.hid hr
            go_wp2_with fail
            refine HPU.out.mono ?_
            rintro y w2 ⟨rfl, G', v1', hp', hh', hP2, hC2⟩
            have HPE2 := Lib.hid hp'; have HHG2 := Lib.hid hh'; have HPW2 := Lib.hid hP2; have HCH2 := Lib.hid (HCH.out.trans hC2)
            have d2 : w2.cell? ⟨B, 2, none⟩ = some (.slice (some ⟨G0, off, none⟩) (m + 1) cap) := by rw [← HV2.out]; exact hP2.blk.cellAt (i := 2) (by simp)
            have e2 : w2.frozen? ⟨B, 2, none⟩ = false := hP2.blk.frozenAt 2
            have hcap2 : (1 : Int) ≤ (cap : Int) := by omega
            have g1 : (1 : Int) ≤ ((m + 1 : Nat) : Int) := by omega
            have g2 : ((m + 1 : Nat) : Int) ≤ (cap : Int) := by omega
            clear hp' hh' hP2 hC2 c2 f0 f1 f2 f3 f4 hr
            obtain ⟨Z, hZ⟩ : ∃ Z, Z = w2.setCell ⟨B, 2, none⟩ (.slice (if cap = 1 then some ⟨G0, off, none⟩ else some ⟨G0, off + 5, none⟩) m (cap - 1)) := ⟨_, rfl⟩
            have hdk : (C.drop k).drop 1 = C.drop (k + 1) := by rw [List.drop_drop]
            have hZC : Ch b1 B w2 Z := by rw [hZ]; exact Ch.setB b1 B w2 2 _
            have hZP : PW Z b1 B len G' (C.drop (k + 1)) v1' (.slice (if cap = 1 then some ⟨G0, off, none⟩ else some ⟨G0, off + 5, none⟩) m (cap - 1)) := by
              have hb := HPW2.out.blk.put1 (i := 2) (by simp) (.slice (if cap = 1 then some ⟨G0, off, none⟩ else some ⟨G0, off + 5, none⟩) m (cap - 1))
              rw [hZ]
              refine ⟨hb, HPW2.out.lt, Nat.le_trans HPW2.out.sz (by simp), own_setB HPW2.out.row HPW2.out.lt 2 _, ?_⟩
              have hl1 : (C.drop (k + 1)).length = m := by have := HM2.out; rw [List.length_drop] at this ⊢; omega
              by_cases hc1 : cap = 1
              · rw [if_pos hc1]
                have hm0 : m = 0 := by have := HCAP.out; omega
                exact .inl ⟨_, _, by rw [hm0], List.eq_nil_of_length_eq_zero (by rw [hl1, hm0])⟩
              · rw [if_neg hc1]
                obtain ⟨G1, off1, cap1, ev, _, _, _, hco⟩ := HPW2.out.co.first (by rw [← HM2.out]; omega)
                rw [HV2.out] at ev
                injection ev with ev1 ev2 ev3
                injection ev1 with ev1
                injection ev1 with ev4 ev5 _
                subst ev3 ev4 ev5
                rw [hdk, ← HM2.out, show m + 1 - 1 = m by omega] at hco
                exact hco.keep (Ch.setB b1 B w2 2 _) (fun _ hl' => absurd rfl (blk_ne HPW2.out.blk hl' (by decide)))
            have HZP := Lib.hid hZP; have HZC := Lib.hid (HCH2.out.trans hZC)
            have HTK := Lib.hid (show C.take (k + 1) = C.take k ++ [x] by rw [HXK.out]; exact List.take_succ_eq_append_getElem hlt)
            have HLA := Lib.hid (show lenAt B Z < lenAt B wr by
              have c3 : Z.cell? ⟨B, 2, none⟩ = some (.slice (if cap = 1 then some ⟨G0, off, none⟩ else some ⟨G0, off + 5, none⟩) m (cap - 1)) := hZP.blk.cellAt (i := 2) (by simp)
              have c4 : wr.cell? ⟨B, 2, none⟩ = some (.slice (some ⟨G0, off, none⟩) (m + 1) cap) := by rw [← HV2.out]; exact HPW.out.blk.cellAt (i := 2) (by simp)
              unfold lenAt
              rw [c3, c4]
              simp)
            clear hZC hZP hdk
            go_wp2_with fail
            rw [← hZ]
            clear hZ
            go_roundw
            case rel => exact ⟨k + 1, G', v1', _, by omega, by rw [HTK.out, ← List.append_assoc]; exact HPE2.out.trans (HPE.out.append_right _), HHG2.out, fun z hz => by
              rw [HTK.out, List.mem_append, List.mem_singleton] at hz
              rcases hz with hz | rfl
              · exact HR.out z hz
              · exact HRX.out, HZP.out, HZC.out⟩
            case measure => exact HLA.out
          · have HRX := Lib.hid (show t < x.j.r by omega)
            go_wp2_with fail
            go_ret
            exact ⟨rfl, k, G, v1, v2, HPE.out, HHG.out, HR.out, fun h0 => by rw [← HXK.out]; exact HRX.out, HPW.out, HCH.out⟩
        · have hd0 : C.drop k = [] := List.drop_eq_nil_of_le (by omega)
          obtain ⟨a2, c2, hv2⟩ := hP.co.slice
          have hv2' : v2 = .slice a2 0 c2 := by rw [hv2, hd0]; rfl
          have c2 : wr.cell? ⟨B, 2, none⟩ = some (.slice a2 0 c2) := by rw [← hv2']; exact hP.blk.cellAt (i := 2) (by simp)
          clear hP hd0 hv2 hv2'
          go_wp2_with fail
          go_ret
          exact ⟨rfl, k, G, v1, v2, HPE.out, HHG.out, HR.out, fun h0 => absurd h0 hlt, HPW.out, HCH.out⟩
    · have k2 : ((M : Int) == 0) = false := beq_eq_false_iff_ne.2 (by omega)
      clear k1
      go_wp2_with fail
      clear b2 k2
      go_loopw [] (fun wr => ∃ (k : Nat) (G : List PJ) (v1 v2 : Value), k ≤ C.length ∧ G.Perm (H ++ C.take k) ∧ HP len G G.length ∧ (∀ x ∈ C.take k, x.j.r ≤ t) ∧ PW wr b1 B len G (C.drop k) v1 v2 ∧ Ch b1 B W wr) (fun wr => lenAt B wr)
      case atStart => exact ⟨0, H, vH, vC, by omega, by simp, HHP.out, by simp, by first | exact HW.out | exact HW.out.on (Below.refl _ _).drew, by first | exact Ch.refl _ _ _ | exact Ch.of_below (Below.refl _ _).drew⟩
      case round =>
        obtain ⟨k, G, v1, v2, hk, hp, hh, hr, hP, hC⟩ := hrel
        have HK := Lib.hid hk; have HPE := Lib.hid hp; have HHG := Lib.hid hh; have HR := Lib.hid hr; have HPW := Lib.hid hP; have HCH := Lib.hid hC
        have hGl : G.length ≤ 1000 := by have := hp.length_eq; simp at this; omega
        clear hk hp hh hr hC
        by_cases hlt : k < C.length
        · have hd0 : 0 < (C.drop k).length := by rw [List.length_drop]; omega
          obtain ⟨G0, off, cap, hv2, hcap, _, hcell, hco⟩ := hP.co.first hd0
          obtain ⟨x, hx⟩ : ∃ x, x = (C.drop k)[0] := ⟨_, rfl⟩
          have hxk : x = C[k] := by rw [hx]; simp
          rw [← hx] at hcell
          have HXK := Lib.hid hxk; have HCO := Lib.hid hco
          obtain ⟨m, hm⟩ : ∃ m, m + 1 = (C.drop k).length := ⟨(C.drop k).length - 1, by omega⟩
          have HM2 := Lib.hid hm
          rw [← hm] at hv2 hcap
          have c2 : wr.cell? ⟨B, 2, none⟩ = some (.slice (some ⟨G0, off, none⟩) (m + 1) cap) := by rw [← hv2]; exact hP.blk.cellAt (i := 2) (by simp)
          have f0 : wr.cell? ⟨G0, off, none⟩ = some (.int .i64 x.j.s) := hcell 0 _ rfl
          have f1 : wr.cell? ⟨G0, off + 1, none⟩ = some (.int .i64 x.j.r) := hcell 1 _ rfl
          have f2 : wr.cell? ⟨G0, off + 2, none⟩ = some (.int .i64 x.j.d) := hcell 2 _ rfl
          have f3 : wr.cell? ⟨G0, off + 3, none⟩ = some (.int .i64 x.j.c) := hcell 3 _ rfl
          have f4 : wr.cell? ⟨G0, off + 4, none⟩ = some (.int .i64 (x.k : Int)) := hcell 4 _ rfl
          have m0 : (0 : Int) < ((m + 1 : Nat) : Int) := by omega
          have HPU := Lib.hid (hpush_any hP HHG.out (by omega) x)
          have HV2 := Lib.hid hv2; have HCAP := Lib.hid hcap
          unfold PJ.v at HPU
          clear hP hcell hco hx hxk hm hv2
          by_cases hr : x.j.r ≤ t
          · have HRX := Lib.hid hr
            go_wp2_with fail
            refine HPU.out.mono ?_
            rintro y w2 ⟨rfl, G', v1', hp', hh', hP2, hC2⟩
            have HPE2 := Lib.hid hp'; have HHG2 := Lib.hid hh'; have HPW2 := Lib.hid hP2; have HCH2 := Lib.hid (HCH.out.trans hC2)
            have d2 : w2.cell? ⟨B, 2, none⟩ = some (.slice (some ⟨G0, off, none⟩) (m + 1) cap) := by rw [← HV2.out]; exact hP2.blk.cellAt (i := 2) (by simp)
            have e2 : w2.frozen? ⟨B, 2, none⟩ = false := hP2.blk.frozenAt 2
            have hcap2 : (1 : Int) ≤ (cap : Int) := by omega
            have g1 : (1 : Int) ≤ ((m + 1 : Nat) : Int) := by omega
            have g2 : ((m + 1 : Nat) : Int) ≤ (cap : Int) := by omega
            clear hp' hh' hP2 hC2 c2 f0 f1 f2 f3 f4 hr
            obtain ⟨Z, hZ⟩ : ∃ Z, Z = w2.setCell ⟨B, 2, none⟩ (.slice (if cap = 1 then some ⟨G0, off, none⟩ else some ⟨G0, off + 5, none⟩) m (cap - 1)) := ⟨_, rfl⟩
            have hdk : (C.drop k).drop 1 = C.drop (k + 1) := by rw [List.drop_drop]
            have hZC : Ch b1 B w2 Z := by rw [hZ]; exact Ch.setB b1 B w2 2 _
            have hZP : PW Z b1 B len G' (C.drop (k + 1)) v1' (.slice (if cap = 1 then some ⟨G0, off, none⟩ else some ⟨G0, off + 5, none⟩) m (cap - 1)) := by
              have hb := HPW2.out.blk.put1 (i := 2) (by simp) (.slice (if cap = 1 then some ⟨G0, off, none⟩ else some ⟨G0, off + 5, none⟩) m (cap - 1))
              rw [hZ]
              refine ⟨hb, HPW2.out.lt, Nat.le_trans HPW2.out.sz (by simp), own_setB HPW2.out.row HPW2.out.lt 2 _, ?_⟩
              have hl1 : (C.drop (k + 1)).length = m := by have := HM2.out; rw [List.length_drop] at this ⊢; omega
              by_cases hc1 : cap = 1
              · rw [if_pos hc1]
                have hm0 : m = 0 := by have := HCAP.out; omega
                exact .inl ⟨_, _, by rw [hm0], List.eq_nil_of_length_eq_zero (by rw [hl1, hm0])⟩
              · rw [if_neg hc1]
                obtain ⟨G1, off1, cap1, ev, _, _, _, hco⟩ := HPW2.out.co.first (by rw [← HM2.out]; omega)
                rw [HV2.out] at ev
                injection ev with ev1 ev2 ev3
                injection ev1 with ev1
                injection ev1 with ev4 ev5 _
                subst ev3 ev4 ev5
                rw [hdk, ← HM2.out, show m + 1 - 1 = m by omega] at hco
                exact hco.keep (Ch.setB b1 B w2 2 _) (fun _ hl' => absurd rfl (blk_ne HPW2.out.blk hl' (by decide)))
            have HZP := Lib.hid hZP; have HZC := Lib.hid (HCH2.out.trans hZC)
            have HTK := Lib.hid (show C.take (k + 1) = C.take k ++ [x] by rw [HXK.out]; exact List.take_succ_eq_append_getElem hlt)
            have HLA := Lib.hid (show lenAt B Z < lenAt B wr by
              have c3 : Z.cell? ⟨B, 2, none⟩ = some (.slice (if cap = 1 then some ⟨G0, off, none⟩ else some ⟨G0, off + 5, none⟩) m (cap - 1)) := hZP.blk.cellAt (i := 2) (by simp)
              have c4 : wr.cell? ⟨B, 2, none⟩ = some (.slice (some ⟨G0, off, none⟩) (m + 1) cap) := by rw [← HV2.out]; exact HPW.out.blk.cellAt (i := 2) (by simp)
              unfold lenAt
              rw [c3, c4]
              simp)
            clear hZC hZP hdk
            go_wp2_with fail
            rw [← hZ]
            clear hZ
            go_roundw
            case rel => exact ⟨k + 1, G', v1', _, by omega, by rw [HTK.out, ← List.append_assoc]; exact HPE2.out.trans (HPE.out.append_right _), HHG2.out, fun z hz => by
              rw [HTK.out, List.mem_append, List.mem_singleton] at hz
              rcases hz with hz | rfl
              · exact HR.out z hz
              · exact HRX.out, HZP.out, HZC.out⟩
            case measure => exact HLA.out
          · have HRX := Lib.hid (show t < x.j.r by omega)
            go_wp2_with fail
            go_ret
            exact ⟨rfl, k, G, v1, v2, HPE.out, HHG.out, HR.out, fun h0 => by rw [← HXK.out]; exact HRX.out, HPW.out, HCH.out⟩
        · have hd0 : C.drop k = [] := List.drop_eq_nil_of_le (by omega)
          obtain ⟨a2, c2, hv2⟩ := hP.co.slice
          have hv2' : v2 = .slice a2 0 c2 := by rw [hv2, hd0]; rfl
          have c2 : wr.cell? ⟨B, 2, none⟩ = some (.slice a2 0 c2) := by rw [← hv2']; exact hP.blk.cellAt (i := 2) (by simp)
          clear hP hd0 hv2 hv2'
          go_wp2_with fail
          go_ret
          exact ⟨rfl, k, G, v1, v2, HPE.out, HHG.out, HR.out, fun h0 => absurd h0 hlt, HPW.out, HCH.out⟩
end Go.Proofs.Ytbcccffjlkphpaa
