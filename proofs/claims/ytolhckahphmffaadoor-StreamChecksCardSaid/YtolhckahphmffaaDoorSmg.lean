/- The document's own answer of layer 25: what is wrong with several streams. Conditions: there are at most so many as memory holds. -/
import Derived.Test.YtolhckahphmffaaDoorSmf
namespace Go.Proofs.YtolhckahphmffaaDoor
open Go.RowKit Go.Shelf
set_option maxRecDepth 100000 in
set_option maxHeartbeats 8000000 in
theorem rscheck_any (a : Option Addr) (n cap : Nat) (L : List Sm) (len : Int) (hreach : L.length ≤ 4611686018427387904) (w : World) (hI : Sts w.heap.size w (.slice a n cap) L) :
    Calls Tryd.prog 13 #[.slice a n cap, .int .i64 len] w fun y w' => y = .returned (.tuple #[.int .i64 (checkV L len).1, .int .i64 (checkV L len).2]) ∧ Below w.heap.size w w' := by
  obtain rfl := hI.len
  have HI := Lib.hid hI
  have HCELL := Lib.hid (show ∀ u, Below w.heap.size w u → ∀ k (hk : k < L.length), ∃ g off, a = some ⟨g, off, none⟩ ∧ ∀ i v, (L[k].C)[i]? = some v → u.cell? ⟨g, off + k * 7 + i, none⟩ = some v from fun u hu k hk => by
    rcases hI with ⟨_, _, _, e⟩ | ⟨g, off, _, e, hg, hc⟩
    · rw [e] at hk; cases hk
    · injection e with e1 _ _
      exact ⟨g, off, e1, fun i v hv => (hu.cell (p := ⟨g, off + k * 7 + i, none⟩) hg).trans (hc k hk i v hv)⟩)
  have HFD := Lib.hid (fun id u (h : Below w.heap.size w u) => rsfind_any a L.length cap L id hreach u ((hI.below h).mono h.size))
  clear hI
  obtain ⟨V0, V1, hV⟩ : ∃ V0 V1, (V0, V1) = checkV L len := ⟨_, _, rfl⟩
  rw [← hV]
  have HV := Lib.hid hV
  clear hV
  dsimp only
  by_cases hl : 64 < L.length
  · have i1 : (64 : Int) < (L.length : Int) := by omega
    have HF := Lib.hid (show V0 = 0 ∧ V1 = 11 by
      have e := HV.out
      unfold checkV at e
      rw [if_pos hl] at e
      injection e with e1 e2
      exact ⟨e1, e2⟩)
    go_enter Tryd.func13, Tryd.ntmps13
    go_wp2_with fail
    go_ret2
    exact ⟨by rw [HF.out.1, HF.out.2]; rfl, by first | exact Below.refl _ _ | exact (Below.refl _ _).drew⟩
  have i1 : ¬ (64 : Int) < (L.length : Int) := by omega
  rcases inS_cases len 1 1073741824 with ⟨h, e⟩ | ⟨h, h2, e⟩ | ⟨h, h2, e⟩
  · have HF := Lib.hid (show V0 = 0 ∧ V1 = 1 by
      have e0 := HV.out
      unfold checkV at e0
      rw [if_neg hl, if_pos e] at e0
      injection e0 with e1 e2
      exact ⟨e1, e2⟩)
    clear e
    go_enter Tryd.func13, Tryd.ntmps13
    go_wp2_with fail
    go_ret2
    exact ⟨by rw [HF.out.1, HF.out.2]; rfl, by first | exact Below.refl _ _ | exact (Below.refl _ _).drew⟩
  · have HF := Lib.hid (show V0 = 0 ∧ V1 = 1 by
      have e0 := HV.out
      unfold checkV at e0
      rw [if_neg hl, if_pos e] at e0
      injection e0 with e1 e2
      exact ⟨e1, e2⟩)
    clear e
    have g2 : ¬ len < 1 := by omega
    go_enter Tryd.func13, Tryd.ntmps13
    go_wp2_with fail
    go_ret2
    exact ⟨by rw [HF.out.1, HF.out.2]; rfl, by first | exact Below.refl _ _ | exact (Below.refl _ _).drew⟩
  have HV2 := Lib.hid (show (V0, V1) = chkV L len [0, 1, 2] by
    have e0 := HV.out
    unfold checkV at e0
    rw [if_neg hl, if_neg (by rw [e]; decide)] at e0
    exact e0)
  clear e HV
  have g2 : ¬ len < 1 := by omega
  have g3 : ¬ 1073741824 < len := by omega
  go_enter Tryd.func13, Tryd.ntmps13
  go_wp2_with fail
  go_loopw [6] (fun i wr => ∃ k : Nat, i = .int .i64 (k : Int) ∧ k ≤ L.length ∧ (∀ j, j < k → flB L len 0 j = 0) ∧ Below w.heap.size w wr) (fun i _ => L.length - (intOf i).toNat)
  case atStart => exact ⟨0, rfl, by omega, fun j h => by omega, by first | exact Below.refl _ _ | exact (Below.refl _ _).drew⟩
  case round =>
    obtain ⟨k, rfl, hk, hno, hB⟩ := hrel
    have HB := Lib.hid hB; have HNO := Lib.hid hno
    clear hno hB
    by_cases hlt : k < L.length
    · have i2 : (k : Int) < (L.length : Int) := by omega
      have i3 : (0 : Int) ≤ (k : Int) := by omega
      obtain ⟨g, off, rfl, hc⟩ := HCELL.out wr HB.out k hlt
      obtain ⟨x, hx⟩ : ∃ x, x = L[k] := ⟨_, rfl⟩
      rw [← hx] at hc
      have HX := Lib.hid (show L.getD k sm0 = x by rw [getD_at hlt, hx])
      have q0 : wr.cell? ⟨g, off + k * 7, none⟩ = some (.int .i64 x.i) := hc 0 _ rfl
      have q1 : wr.cell? ⟨g, off + k * 7 + 1, none⟩ = some (.int .i64 x.n) := hc 1 _ rfl
      have q2 : wr.cell? ⟨g, off + k * 7 + 2, none⟩ = some (.int .i64 x.c) := hc 2 _ rfl
      have q3 : wr.cell? ⟨g, off + k * 7 + 3, none⟩ = some (.int .i64 x.p) := hc 3 _ rfl
      have q4 : wr.cell? ⟨g, off + k * 7 + 4, none⟩ = some (.int .i64 x.d) := hc 4 _ rfl
      have q5 : wr.cell? ⟨g, off + k * 7 + 5, none⟩ = some (.int .i64 x.s) := hc 5 _ rfl
      have q6 : wr.cell? ⟨g, off + k * 7 + 6, none⟩ = some (.int .i64 x.b) := hc 6 _ rfl
      clear hc hx
      have HC := Lib.hid (fun u => rsright_any x.i x.n x.c x.p x.d x.s x.b u)
      obtain ⟨e, he⟩ : ∃ e, e = rightS x.i x.n x.c x.p x.d x.s x.b := ⟨_, rfl⟩
      rw [← he] at HC
      have HE := Lib.hid (show flB L len 0 k = e by show (L.getD k sm0).right = e; rw [HX.out, he]; rfl)
      clear he
      by_cases h0 : e = 0
      · have HZ := Lib.hid (show flB L len 0 k = 0 by rw [HE.out, h0])
        subst h0
        go_wp2_with fail
        refine (HC.out _).mono ?_
        rintro y w1 ⟨rfl, hb⟩
        have HB1 := Lib.hid (below_transG HB.out hb)
        clear hb
        go_wp2_with fail
        go_roundw
        case rel => exact ⟨k + 1, by simp, by omega, fun j h => by
          by_cases hjk : j < k
          · exact HNO.out j hjk
          · obtain rfl : j = k := by omega
            exact HZ.out, by first | exact HB1.out | exact HB1.out.drew⟩
        case measure => simp [intOf]; omega
      · have hprev : ∀ p, p < 0 → ∀ i, i < L.length → flB L len p i = 0 := by
          intro p hp i hi
          omega
        have HF := Lib.hid (show V0 = (k : Int) ∧ V1 = e by
          have e0 := HV2.out
          rw [chk_at (q := 0) (x := k) (by omega) hlt (by rw [HE.out]; exact h0) HNO.out hprev, HE.out] at e0
          injection e0 with e1 e2
          exact ⟨e1, e2⟩)
        clear hprev
        have k0 : (e == 0) = false := by rw [beq_eq_false_iff_ne]; exact h0
        clear h0
        go_wp2_with fail
        refine (HC.out _).mono ?_
        rintro y w1 ⟨rfl, hb⟩
        have HB1 := Lib.hid (below_transG HB.out hb)
        clear hb
        go_wp2_with fail
        go_ret2
        exact ⟨by rw [HF.out.1, HF.out.2]; rfl, by first | exact HB1.out | exact HB1.out.drew⟩
    · have i2 : ¬ (k : Int) < (L.length : Int) := by omega
      obtain rfl : k = L.length := by omega
      have HP0 := HNO; have HBL0 := HB
      clear hk hlt
      go_wp2_with fail
      go_loopw [8] (fun i wr => ∃ k : Nat, i = .int .i64 (k : Int) ∧ k ≤ L.length ∧ (∀ j, j < k → flB L len 1 j = 0) ∧ Below w.heap.size w wr) (fun i _ => L.length - (intOf i).toNat)
      case atStart => exact ⟨0, rfl, by omega, fun j h => by omega, by first | exact HBL0.out | exact (HBL0.out).drew⟩
      case round =>
        obtain ⟨k, rfl, hk, hno, hB⟩ := hrel
        have HB := Lib.hid hB; have HNO := Lib.hid hno
        clear hno hB
        by_cases hlt : k < L.length
        · have i2 : (k : Int) < (L.length : Int) := by omega
          have i3 : (0 : Int) ≤ (k : Int) := by omega
          obtain ⟨g, off, rfl, hc⟩ := HCELL.out wr HB.out k hlt
          obtain ⟨x, hx⟩ : ∃ x, x = L[k] := ⟨_, rfl⟩
          rw [← hx] at hc
          have HX := Lib.hid (show L.getD k sm0 = x by rw [getD_at hlt, hx])
          have q0 : wr.cell? ⟨g, off + k * 7, none⟩ = some (.int .i64 x.i) := hc 0 _ rfl
          clear hc hx
          have HC := Lib.hid (HFD.out x.i)
          obtain ⟨e, he⟩ : ∃ e, e = findI L x.i := ⟨_, rfl⟩
          rw [← he] at HC
          have HE := Lib.hid (show flB L len 1 k = if e < (k : Int) then 13 else 0 by show (if findI L (L.getD k sm0).i < (k : Int) then (13 : Int) else 0) = _; rw [HX.out, he])
          clear he
          by_cases h0 : ¬ e < (k : Int)
          · have HZ := Lib.hid (show flB L len 1 k = 0 by rw [HE.out, if_neg h0])
            go_wp2_with fail
            refine (HC.out _ HB.out).mono ?_
            rintro y w1 ⟨rfl, hb⟩
            have HB1 := Lib.hid (below_transG HB.out hb)
            clear hb
            go_wp2_with fail
            go_roundw
            case rel => exact ⟨k + 1, by simp, by omega, fun j h => by
              by_cases hjk : j < k
              · exact HNO.out j hjk
              · obtain rfl : j = k := by omega
                exact HZ.out, by first | exact HB1.out | exact HB1.out.drew⟩
            case measure => simp [intOf]; omega
          · have h0 : e < (k : Int) := by omega
            have hprev : ∀ p, p < 1 → ∀ i, i < L.length → flB L len p i = 0 := by
              intro p hp i hi
              obtain rfl : p = 0 := by omega
              exact HP0.out i hi
            have HF := Lib.hid (show V0 = (k : Int) ∧ V1 = 13 by
              have e0 := HV2.out
              rw [chk_at (q := 1) (x := k) (by omega) hlt (by rw [HE.out]; rw [if_pos h0]; decide) HNO.out hprev, HE.out] at e0
              rw [if_pos h0] at e0
              injection e0 with e1 e2
              exact ⟨e1, e2⟩)
            clear hprev
            go_wp2_with fail
            refine (HC.out _ HB.out).mono ?_
            rintro y w1 ⟨rfl, hb⟩
            have HB1 := Lib.hid (below_transG HB.out hb)
            clear hb
            go_wp2_with fail
            go_ret2
            exact ⟨by rw [HF.out.1, HF.out.2]; rfl, by first | exact HB1.out | exact HB1.out.drew⟩
        · have i2 : ¬ (k : Int) < (L.length : Int) := by omega
          obtain rfl : k = L.length := by omega
          have HP1 := HNO; have HBL1 := HB
          clear hk hlt
          go_wp2_with fail
          go_loopw [9] (fun i wr => ∃ k : Nat, i = .int .i64 (k : Int) ∧ k ≤ L.length ∧ (∀ j, j < k → flB L len 2 j = 0) ∧ Below w.heap.size w wr) (fun i _ => L.length - (intOf i).toNat)
          case atStart => exact ⟨0, rfl, by omega, fun j h => by omega, by first | exact HBL1.out | exact (HBL1.out).drew⟩
          case round =>
            obtain ⟨k, rfl, hk, hno, hB⟩ := hrel
            have HB := Lib.hid hB; have HNO := Lib.hid hno
            clear hno hB
            by_cases hlt : k < L.length
            · have i2 : (k : Int) < (L.length : Int) := by omega
              have i3 : (0 : Int) ≤ (k : Int) := by omega
              obtain ⟨g, off, rfl, hc⟩ := HCELL.out wr HB.out k hlt
              obtain ⟨x, hx⟩ : ∃ x, x = L[k] := ⟨_, rfl⟩
              rw [← hx] at hc
              have HX := Lib.hid (show L.getD k sm0 = x by rw [getD_at hlt, hx])
              have q2 : wr.cell? ⟨g, off + k * 7 + 2, none⟩ = some (.int .i64 x.c) := hc 2 _ rfl
              have q4 : wr.cell? ⟨g, off + k * 7 + 4, none⟩ = some (.int .i64 x.d) := hc 4 _ rfl
              clear hc hx
              have HE := Lib.hid (show flB L len 2 k = if x.c = 1 ∧ x.d < len then 9 else 0 by show (if (L.getD k sm0).c = 1 ∧ (L.getD k sm0).d < len then (9 : Int) else 0) = _; rw [HX.out])
              have HB1 := HB
              by_cases h0 : ¬ (x.c = 1 ∧ x.d < len)
              · have HZ := Lib.hid (show flB L len 2 k = 0 by rw [HE.out, if_neg h0])
                by_cases h1 : x.c = 1
                · have k0 : (x.c == 1) = true := by rw [h1]; rfl
                  have k1 : ¬ x.d < len := fun z => h0 ⟨h1, z⟩
                  clear h1 h0
                  go_wp2_with fail
                  go_roundw
                  case rel => exact ⟨k + 1, by simp, by omega, fun j h => by
                    by_cases hjk : j < k
                    · exact HNO.out j hjk
                    · obtain rfl : j = k := by omega
                      exact HZ.out, by first | exact HB1.out | exact HB1.out.drew⟩
                  case measure => simp [intOf]; omega
                · have k0 : (x.c == 1) = false := by rw [beq_eq_false_iff_ne]; exact h1
                  clear h1 h0
                  go_wp2_with fail
                  go_roundw
                  case rel => exact ⟨k + 1, by simp, by omega, fun j h => by
                    by_cases hjk : j < k
                    · exact HNO.out j hjk
                    · obtain rfl : j = k := by omega
                      exact HZ.out, by first | exact HB1.out | exact HB1.out.drew⟩
                  case measure => simp [intOf]; omega
              · have h0 : x.c = 1 ∧ x.d < len := by omega
                have hprev : ∀ p, p < 2 → ∀ i, i < L.length → flB L len p i = 0 := by
                  intro p hp i hi
                  obtain rfl | rfl : p = 0 ∨ p = 1 := by omega
                  · exact HP0.out i hi
                  · exact HP1.out i hi
                have HF := Lib.hid (show V0 = (k : Int) ∧ V1 = 9 by
                  have e0 := HV2.out
                  rw [chk_at (q := 2) (x := k) (by omega) hlt (by rw [HE.out]; rw [if_pos h0]; decide) HNO.out hprev, HE.out] at e0
                  rw [if_pos h0] at e0
                  injection e0 with e1 e2
                  exact ⟨e1, e2⟩)
                clear hprev
                have k0 : (x.c == 1) = true := by rw [h0.1]; rfl
                have k1 : x.d < len := h0.2
                clear h0
                go_wp2_with fail
                go_ret2
                exact ⟨by rw [HF.out.1, HF.out.2]; rfl, by first | exact HB1.out | exact HB1.out.drew⟩
            · have i2 : ¬ (k : Int) < (L.length : Int) := by omega
              obtain rfl : k = L.length := by omega
              have HP2 := HNO; have HBL2 := HB
              clear hk hlt
              go_wp2_with fail
              have HF := Lib.hid (show V0 = (L.length : Int) ∧ V1 = 0 by
                have e0 := HV2.out
                rw [chk_all (fun p hp i hi => by
                  obtain rfl | rfl | rfl : p = 0 ∨ p = 1 ∨ p = 2 := by omega
                  · exact HP0.out i hi
                  · exact HP1.out i hi
                  · exact HP2.out i hi)] at e0
                injection e0 with e1 e2
                exact ⟨e1, e2⟩)
              go_ret2
              exact ⟨by rw [HF.out.1, HF.out.2]; rfl, by first | exact HBL2.out | exact HBL2.out.drew⟩
end Go.Proofs.YtolhckahphmffaaDoor
