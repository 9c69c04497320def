/- The statement of P9.3 and P9.5 (SpeakAlone): who hears what it sends, and an answer, is done; without one it is not, in the slot; and who listens has the frame. Conditions: the divisor's cells hold what the program's own text lays in them (tied). -/
import Derived.Test.YtmfnkfiocnngeaaDoorRows
import Derived.Test.YtmfnkfiocnngeaaDoorSpk
import Derived.Test.YtmfnkfiocnngeaaDoorLrd
import Derived.Test.YtmfnkfiocnngeaaDoorOpe
import Derived.Test.YtmfnkfiocnngeaaDoorBat
import Derived.WalkKit
import Derived.ProofKit
import Derived.OpenShut
import Derived.ShutString
import Derived.ChangeOld
import Derived.Below
namespace Go.Proofs.YtmfnkfiocnngeaaDoor.speakAlone
open Go.ChangeShapes Go.WideShapes Go.ChangeAt Go.RowKit
theorem own : ownKnob Tryd.prog.godebug = none := by kernel_rfl
theorem laidOut : laidOutB Tryd.prog = true := by kernel_rfl
theorem spa_kpv {w w' : World} {B D C : Nat} {fr : List Value} {L : List PB} {k : Nat} {on : Bool} {v : Value} (h : SPA w B D fr L k on) (hk : Kp C v w w') (hB : B ≠ C) (hD : D ≠ C) (hvB : v.ownBlock ≠ some B) (hvD : v.ownBlock ≠ some D) : SPA w' B D fr L k on :=
  ⟨h.blk.on (hk.block B h.blk.lt hB hvB), h.parts.on (hk.block D h.parts.lt hD hvD), h.fr12, h.ne⟩
theorem rs_hear_len (s : RS) (x : Nat) : (s.hear x).1.bs.length ≤ s.bs.length + 1 := by
  unfold RS.hear RS.told
  (repeat' split) <;> simp only [List.length_append, List.length_cons, List.length_nil] <;> omega
theorem rs_run_len (l : List Nat) : ∀ s : RS, (s.run l).bs.length ≤ s.bs.length + l.length := by
  induction l with
  | nil => intro s; exact Nat.le_refl _
  | cons x l ih =>
    intro s
    have h1 := ih (s.hear x).1
    have h2 := rs_hear_len s x
    show ((s.hear x).1.run l).bs.length ≤ _
    rw [List.length_cons]
    omega
theorem ra_kpn {w w' : World} {BR C : Nat} {s : RS} {v : Value} (h : RA w BR s v) (hk : Kp C (.slice none 0 0) w w') (hC : C < BR) : RA w' BR s v :=
  ⟨h.blk.on (hk.block BR h.lt (by omega) (by rw [ownN]; simp)), hk.ow h.own (fun e => by have := h.own.ge C e; omega) (fun k _ e => by rw [ownN] at e; exact absurd e (by simp)), h.frf⟩
set_option maxRecDepth 100000 in
set_option maxHeartbeats 16000000 in
theorem walk (e0 : Bool) (n0 : Nat) (q0 : Bool) (l0 : Int) (x0 : List Nat) (a1 : Bool) (w0 : n0 < 4294967296 ∧ x0.length = 8 ∧ ∀ y ∈ x0, y < 256) (w : World) (h0 : 1 < w.heap.size) (hT : Tab w) :
    Calls Tryd.prog 8 #[frameV e0 n0 q0 l0 x0, .bool a1] w fun e w' => e = .returned (.bool true) ∧ Below w.heap.size w w' := by
  obtain ⟨hn0, hx0, hb0⟩ := w0
  obtain ⟨W0, hW0⟩ : ∃ W0, W0 = w.alloc (.cells ((frameC e0 n0 q0 l0 x0).toArray) 27) := ⟨_, rfl⟩
  have hbW : Below w.heap.size w W0 := by rw [hW0]; exact (Below.refl _ w).alloc (Nat.le_refl _) _
  have HBW := Lib.hid hbW
  have HSZ := Lib.hid (show w.heap.size < W0.heap.size by rw [hW0]; simp)
  have HLV := Lib.hid (fun u (hu : Below W0.heap.size W0 u) => live9 u (by have := hu.size; have := HSZ.out; omega) ((hT.onB hbW h0).onB hu (by have := HSZ.out; omega)))
  have HFA0 := Lib.hid (show FrameAt W0 w.heap.size e0 n0 q0 l0 x0 by rw [hW0]; exact FrameAt.new w _ e0 n0 q0 l0 x0 hx0)
  by_cases hok : rightF e0 n0 q0 l0 x0 = 0
  · obtain ⟨m, rfl⟩ : ∃ m : Nat, l0 = m := by
      by_cases hneg : l0 < 0
      · exfalso
        unfold rightF at hok
        split at hok
        · exact absurd hok (by decide)
        · rw [if_pos (.inl hneg)] at hok; exact absurd hok (by decide)
      · exact ⟨l0.toNat, by omega⟩
    obtain ⟨x0, x1, x2, x3, x4, x5, x6, x7, rfl⟩ := eight hx0
    have HFA := HFA0
    have HNW := Lib.hid (fun u (hu : Below W0.heap.size W0 u) => snew_yes e0 n0 hn0 q0 m [x0, x1, x2, x3, x4, x5, x6, x7] rfl hb0 hok u (by have := hu.size; have := HSZ.out; omega) ((hT.onB hbW h0).onB hu (by have := HSZ.out; omega)))
    have hlong := enc_long hok
    have hel := encB_length (e := e0) (n := n0) (r := q0) (len := m) (data := [x0, x1, x2, x3, x4, x5, x6, x7])
    obtain ⟨N, hN⟩ : ∃ N, N = (encB e0 n0 q0 m [x0, x1, x2, x3, x4, x5, x6, x7]).length := ⟨_, rfl⟩
    rw [← hN] at hlong hel
    have HEN := Lib.hid (show ∀ u, Calls Tryd.prog 29 #[.agg #[.bool e0, .int .u32 (n0 : Int), .bool q0, .int .i64 (m : Int), .int .u8 (x0 : Int), .int .u8 (x1 : Int), .int .u8 (x2 : Int), .int .u8 (x3 : Int), .int .u8 (x4 : Int), .int .u8 (x5 : Int), .int .u8 (x6 : Int), .int .u8 (x7 : Int)]] u fun x w' => ∃ a cap, x = .returned (.slice a N cap) ∧ Below u.heap.size u w' from fun u => (refEnc_yes e0 n0 hn0 q0 m [x0, x1, x2, x3, x4, x5, x6, x7] rfl hb0 hok u).mono fun x w' h => by
      obtain ⟨v, rfl, ho, hb⟩ := h
      obtain ⟨a, cap, rfl⟩ := ho.shape
      rw [← hN]
      exact ⟨a, cap, rfl, hb⟩)
    obtain ⟨SA, hSA⟩ : ∃ SA, SA = stuffB (bodyB e0 n0 q0 m [x0, x1, x2, x3, x4, x5, x6, x7]) := ⟨_, rfl⟩
    obtain ⟨M, hM⟩ : ∃ M, M = 1 + (idBits e0 n0 q0).length := ⟨_, rfl⟩
    obtain ⟨E, hE⟩ : ∃ E, E = slotB e0 n0 q0 m [x0, x1, x2, x3, x4, x5, x6, x7] 0 := ⟨_, rfl⟩
    obtain ⟨PL, hPL⟩ : ∃ PL, PL = partsB M SA := ⟨_, rfl⟩
    have hrun := frame_run hok rfl hb0 0 (by decide)
    obtain ⟨_, s1, _, _, _, _, hp5, hvl, hfr, hhh, _⟩ := hrun
    have hfin := (LR.run E).frame
    rw [← hE] at hvl hfr hhh
    rw [hvl] at hfin
    have HFIN := Lib.hid (show (RS0.run E).ok = true ∧ (RS0.run E).fr = frameC e0 n0 q0 (m : Int) [x0, x1, x2, x3, x4, x5, x6, x7] from ⟨hfin.1.symm, by rw [← hfin.2 rfl, hfr]⟩)
    rw [← hSA, ← hM, ← hPL] at HNW
    rw [← hSA] at hel
    have hat : ∀ k, k ≤ 9 → E[SA.length + k]?.getD 0 = if k = 1 then 0 else 1 := fun k hk => by rw [hE, hSA]; exact slotB_at e0 n0 q0 m [x0, x1, x2, x3, x4, x5, x6, x7] 0 k hk
    have hEl : E.length = N := by rw [hE, slotB_length, ← hSA]; exact hel.symm
    have hE0 : ∀ j, j < SA.length → E[j]?.getD 0 = SA[j]?.getD 0 := fun j hj => by
      rw [hE]
      unfold slotB
      rw [← hSA, List.getElem?_append_left hj]
    have hpl : PL.length = N := by rw [hPL, partsB_length]; exact hel.symm
    obtain ⟨a9, ha9⟩ : ∃ a9, a9 = N - 9 := ⟨_, rfl⟩
    obtain ⟨a1', ha1⟩ : ∃ a1', a1' = N - 1 := ⟨_, rfl⟩
    have HGEN := Lib.hid (show ∀ j, j < N → j ≠ a9 → j ≠ a1' → ∃ x a e, PL[j]? = some ⟨x, a, e, false, false⟩ ∧ E[j]?.getD 0 = x from fun j hj h9 h1 => by
      rw [hPL, partsB_get _ _ (by omega)]
      by_cases hk : j < SA.length
      · obtain ⟨b1, s1, l1⟩ := part_bit M SA j hk
        exact ⟨SA[j]?.getD 0, _, _, congrArg some (pb_eq _ ⟨b1, rfl, rfl, s1, l1⟩), hE0 j hk⟩
      · refine ⟨1, false, false, ?_, ?_⟩
        · unfold partAt
          rw [if_neg hk, decide_eq_false (by omega), decide_eq_false (by omega)]
        · have h := hat (j - SA.length) (by omega)
          rw [show SA.length + (j - SA.length) = j by omega, if_neg (by omega)] at h
          exact h)
    have HSL := Lib.hid (show PL[a9]? = some ⟨1, false, false, true, false⟩ ∧ E[a9]?.getD 0 = 0 by
      refine ⟨?_, ?_⟩
      · rw [hPL, partsB_get _ _ (by omega)]
        unfold partAt
        rw [if_neg (by omega), decide_eq_true (by omega), decide_eq_false (by omega)]
      · have h := hat 1 (by omega)
        rw [show SA.length + 1 = a9 by omega, if_pos rfl] at h
        exact h)
    have HLS := Lib.hid (show PL[a1']? = some ⟨1, false, false, false, true⟩ ∧ E[a1']?.getD 0 = 1 by
      refine ⟨?_, ?_⟩
      · rw [hPL, partsB_get _ _ (by omega)]
        unfold partAt
        rw [if_neg (by omega), decide_eq_false (by omega), decide_eq_true (by omega)]
      · have h := hat 9 (by omega)
        rw [show SA.length + 9 = a1' by omega, if_neg (by omega)] at h
        exact h)
    have HHD := Lib.hid (show ∀ j, (RS0.run (E.take j)).bs.length ≤ 900 from fun j => by
      have h1 := rs_run_len (E.take j) RS0
      have h2 : RS0.bs.length = 0 := rfl
      rw [List.length_take] at h1
      omega)
    have HLO := Lib.hid (show 44 ≤ N ∧ N ≤ 160 from ⟨hlong.1, hlong.2.1⟩)
    have HEL := Lib.hid hEl; have HPN := Lib.hid hpl
    have HPL := Lib.hid (show PL.length ≤ 1000 by omega)
    have i0 : ((N : Int) == 0) = false := by rw [beq_eq_false_iff_ne]; omega
    have heq : ∀ u : World, Sem.run Tryd.prog (Op.equalIn 9999 25 (.agg #[.int .u8 (x0 : Int), .int .u8 (x1 : Int), .int .u8 (x2 : Int), .int .u8 (x3 : Int), .int .u8 (x4 : Int), .int .u8 (x5 : Int), .int .u8 (x6 : Int), .int .u8 (x7 : Int)]) (.agg #[.int .u8 (x0 : Int), .int .u8 (x1 : Int), .int .u8 (x2 : Int), .int .u8 (x3 : Int), .int .u8 (x4 : Int), .int .u8 (x5 : Int), .int .u8 (x6 : Int), .int .u8 (x7 : Int)])) u = .ok true u := fun u => frame_same 9997 x0 x1 x2 x3 x4 x5 x6 x7 u
    have hs9 : IntKind.i64.wrap ((N : Int) - 9) = (a9 : Int) := by rw [IntKind.wrap_i64]; omega
    have hs1 : IntKind.i64.wrap ((N : Int) - 1) = (a1' : Int) := by rw [IntKind.wrap_i64]; omega
    have HA9 := Lib.hid (show a9 + 9 = N by omega); have HA1 := Lib.hid (show a1' + 1 = N by omega)
    obtain ⟨c0, c1, c2, c3, c4, c5, c6, c7, c8, c9, c10, c11⟩ := HFA.out.cells
    simp only [frameV, frameC, List.map] at HNW hW0 ⊢
    clear hlong hel hN hSA hM hE hPL hp5 hvl hfr hhh hfin hat hEl hE0 hpl ha9 ha1 hok hx0 hb0 hn0 h0 hT hbW
    go_enter Tryd.func8, Tryd.ntmps8
    go_upto_region 1 with fail
    rw [← hW0]
    clear hW0
    go_wp2_with fail
    refine (HNW.out _ (Below.refl _ _)).mono ?_
    rintro y w2 ⟨B, D, rfl, hBB, hDD, hs, hb⟩
    obtain ⟨FR, hFR⟩ : ∃ FR, FR = frameC e0 n0 q0 (m : Int) [x0, x1, x2, x3, x4, x5, x6, x7] := ⟨_, rfl⟩
    simp only [frameC, List.map] at hFR
    rw [← hFR] at hs
    clear hFR
    have H1 := Lib.hid hs; have HB := Lib.hid hb; have HF2 := Lib.hid (HFA.out.keep hb HSZ.out)
    have HBD := Lib.hid (show W0.heap.size ≤ B ∧ W0.heap.size ≤ D from ⟨hBB, hDD⟩)
    obtain ⟨c0, c1, c2, c3, c4, c5, c6, c7, c8, c9, c10, c11⟩ := HF2.out.cells
    clear hs hb hBB hDD
    go_wp2_with fail
    refine (HEN.out _).mono ?_
    rintro x w3 ⟨va, vc, rfl, hb⟩
    have H1 := Lib.hid (H1.out.keep hb); have HB := Lib.hid (below_trans' HB.out hb)
    clear hb c0 c1 c2 c3 c4 c5 c6 c7 c8 c9 c10 c11
    go_wp2_with fail
    refine (rnew_any _).mono ?_
    rintro x w4 ⟨rfl, hra, hw4⟩
    have hb : Below w3.heap.size w3 w4 := by rw [hw4]; exact (Below.refl _ _).alloc (Nat.le_refl _) _
    obtain ⟨BR, hBR⟩ : ∃ BR, BR = w3.heap.size := ⟨_, rfl⟩
    have HNE := Lib.hid (show B < BR ∧ D < BR ∧ W0.heap.size ≤ B ∧ W0.heap.size ≤ D ∧ w.heap.size < W0.heap.size by
      have h1 := H1.out.blk.lt; have h2 := H1.out.parts.lt; have h3 := HBD.out; have h4 := HSZ.out
      omega)
    have H1 := Lib.hid (H1.out.keep hb); have HB := Lib.hid (below_trans' HB.out hb)
    rw [← hBR] at hra ⊢
    have H2 := Lib.hid hra
    clear hb hra hw4 hBR
    cases a1
    · go_wp2_with fail
      go_loopw [9] (fun i wr => ∃ (j : Nat) (v' : Value), j ≤ N ∧ i = .int .i64 (j : Int) ∧ SPA wr B D FR PL j (decide (j < N)) ∧ RA wr BR (RS0.run (E.take j)) v' ∧ Below W0.heap.size W0 wr) (fun i _ => N - (intOf i).toNat)
      case atStart => exact ⟨0, _, Nat.zero_le _, rfl, by rw [decide_eq_true (show 0 < N by have := HLO.out; omega)]; exact H1.out, H2.out, HB.out⟩
      case round =>
        clear H1 H2 HB
        obtain ⟨j, v', hj, rfl, h1, h2, hb⟩ := hrel
        have H2 := Lib.hid h2; have HB := Lib.hid hb
        have HLO' := HLO.out
        by_cases hlt : j < N
        · rw [decide_eq_true hlt] at h1
          have H1 := Lib.hid h1
          have HLT := Lib.hid hlt
          have i1 : (j : Int) < (N : Int) := by omega
          have hw : IntKind.i64.wrap ((j : Int) + 1) = (j : Int) + 1 := by rw [IntKind.wrap_i64]; omega
          have HRL := Lib.hid (HHD.out j)
          have HRUN := Lib.hid (show RS0.run (E.take (j + 1)) = ((RS0.run (E.take j)).hear (E[j]?.getD 0)).1 by
            have hl2 : j < E.length := by rw [HEL.out]; exact HLT.out
            rw [List.take_succ_eq_append_getElem hl2, RS.run_snoc]
            congr 2
            simp [hl2])
          clear h1 h2 hb
          have HA9' := HA9.out; have HA1' := HA1.out; have HNE' := HNE.out
          by_cases h9 : j = a9
          · have k9 : ((j : Int) == (a9 : Int)) = true := by rw [beq_iff_eq]; omega
            have HP := Lib.hid (show PL[j]? = some ⟨1, false, false, true, false⟩ by rw [h9]; exact HSL.out.1)
            have hx : E[j]?.getD 0 = 0 := by rw [h9]; exact HSL.out.2
            have HK1 := Lib.hid (show j + 1 < PL.length by rw [HPN.out]; omega)
            clear hx h9 hlt hj HLO' HA9' HA1' HNE'
            go_wp2_with fail
            refine (sbit_on B D _ _ j 1 false false true false HP.out _ H1.out).mono ?_
            rintro y v1 ⟨rfl, hs, hb⟩
            have H1 := Lib.hid hs; have HB := Lib.hid (below_trans' HB.out hb)
            clear hs hb
            go_wp2_with fail
            refine (HLV.out _ HB.out).mono ?_
            rintro x v2 ⟨rfl, hb⟩
            have H1 := Lib.hid (H1.out.keep hb); have HB := Lib.hid (below_trans' HB.out hb)
            clear hb
            go_wp2_with fail
            refine (shd_kp B D _ _ j 1 false false true false HP.out HPL.out 1 4 (by decide) (fun _ => HK1.out) _ H1.out).mono ?_
            rintro y v3 ⟨rfl, hs, hk⟩
            have HB := Lib.hid (HB.out.trans ((kp_low hk (Nat.le_of_lt H1.out.ltOf)).mono HNE.out.2.2.1))
            clear hs hk
            go_wp2_with fail
            go_ret
            exact ⟨rfl, HBW.out.trans (HB.out.mono HBW.out.size)⟩
          · have k9 : ((j : Int) == (a9 : Int)) = false := by rw [beq_eq_false_iff_ne]; omega
            by_cases h1' : j = a1'
            · have k1 : ((j : Int) == (a1' : Int)) = true := by rw [beq_iff_eq]; omega
              have HP := Lib.hid (show PL[j]? = some ⟨1, false, false, false, true⟩ by rw [h1']; exact HLS.out.1)
              have hx : E[j]?.getD 0 = 1 := by rw [h1']; exact HLS.out.2
              have HON := Lib.hid (show decide (j + 1 < N) = false from decide_eq_false (by omega))
              rw [hx] at HRUN
              clear hx h9 h1' hlt hj HLO' HA9' HA1' HNE'
              go_wp2_with fail
              refine (sbit_on B D _ _ j 1 false false false true HP.out _ H1.out).mono ?_
              rintro y v1 ⟨rfl, hs, hb⟩
              have H1 := Lib.hid hs; have H2 := Lib.hid (H2.out.on hb); have HB := Lib.hid (below_trans' HB.out hb)
              clear hs hb
              go_wp2_with fail
              have HEAR := Lib.hid (rhear_any BR (RS0.run (E.take j)) v' 1 HRL.out v1 H2.out)
              refine HEAR.out.mono ?_
              rintro y v2 ⟨v'', rfl, hra, hk, hnx⟩
              have H1 := Lib.hid (spa_kpv H1.out hk (by have := HNE.out; omega) (by have := HNE.out; omega) (fun e => by have := H2.out.own.ge B e; have := HNE.out; omega) (fun e => by have := H2.out.own.ge D e; have := HNE.out; omega))
              have HB := Lib.hid (HB.out.trans ((hk.below (Nat.le_of_lt H2.out.lt) (fun k e => by have := H2.out.own.ge k e; omega)).mono (by have := HNE.out; omega)))
              have H2 := Lib.hid hra
              clear hk hnx hra HEAR
              go_wp2_with fail
              refine (shd_kp B D _ _ j 1 false false false true HP.out HPL.out 1 5 (by decide) (fun h => absurd h (by decide)) _ H1.out).mono ?_
              rintro y v3 ⟨rfl, hs, hk⟩
              have H2 := Lib.hid (ra_kpn H2.out hk (by have := HNE.out; omega))
              have HB := Lib.hid (HB.out.trans ((kp_low hk (Nat.le_of_lt H1.out.ltOf)).mono HNE.out.2.2.1))
              have H1 := Lib.hid hs
              clear hs hk
              go_wp2_with fail
              refine (psent_any B D _ _ (j + 1) false _ H1.out).mono ?_
              rintro y v4 ⟨rfl, rfl⟩
              go_wp2_with fail
              go_roundw
              case rel => exact ⟨j + 1, v'', HLT.out, by simp, by rw [HON.out]; exact H1.out, by rw [HRUN.out]; exact H2.out, HB.out⟩
              case measure => have := HLT.out; simp [intOf]; omega
            · have k1 : ((j : Int) == (a1' : Int)) = false := by rw [beq_eq_false_iff_ne]; omega
              obtain ⟨x, a, e, hp, hx⟩ := HGEN.out j hlt h9 h1'
              have HP := Lib.hid hp
              have HK1 := Lib.hid (show j + 1 < PL.length by rw [HPN.out]; omega)
              have HON := Lib.hid (show decide (j + 1 < N) = true from decide_eq_true (by omega))
              rw [hx] at HRUN
              clear hp hx h9 h1' hlt hj HLO' HA9' HA1' HNE'
              go_wp2_with fail
              refine (sbit_on B D _ _ j x a e false false HP.out _ H1.out).mono ?_
              rintro y v1 ⟨rfl, hs, hb⟩
              have H1 := Lib.hid hs; have H2 := Lib.hid (H2.out.on hb); have HB := Lib.hid (below_trans' HB.out hb)
              clear hs hb
              go_wp2_with fail
              have HEAR := Lib.hid (rhear_any BR (RS0.run (E.take j)) v' x HRL.out v1 H2.out)
              refine HEAR.out.mono ?_
              rintro y v2 ⟨v'', rfl, hra, hk, hnx⟩
              have H1 := Lib.hid (spa_kpv H1.out hk (by have := HNE.out; omega) (by have := HNE.out; omega) (fun e => by have := H2.out.own.ge B e; have := HNE.out; omega) (fun e => by have := H2.out.own.ge D e; have := HNE.out; omega))
              have HB := Lib.hid (HB.out.trans ((hk.below (Nat.le_of_lt H2.out.lt) (fun k e => by have := H2.out.own.ge k e; omega)).mono (by have := HNE.out; omega)))
              have H2 := Lib.hid hra
              clear hk hnx hra HEAR
              go_wp2_with fail
              refine (shd_kp B D _ _ j x a e false false HP.out HPL.out x 0 (by simp [verd]) (fun _ => HK1.out) _ H1.out).mono ?_
              rintro y v3 ⟨rfl, hs, hk⟩
              have H2 := Lib.hid (ra_kpn H2.out hk (by have := HNE.out; omega))
              have HB := Lib.hid (HB.out.trans ((kp_low hk (Nat.le_of_lt H1.out.ltOf)).mono HNE.out.2.2.1))
              have H1 := Lib.hid hs
              clear hs hk
              go_wp2_with fail
              refine (psent_any B D _ _ (j + 1) true _ H1.out).mono ?_
              rintro y v4 ⟨rfl, rfl⟩
              go_wp2_with fail
              go_roundw
              case rel => exact ⟨j + 1, v'', HLT.out, by simp, by rw [HON.out]; exact H1.out, by rw [HRUN.out]; exact H2.out, HB.out⟩
              case measure => have := HLT.out; simp [intOf]; omega
        · obtain rfl : j = N := by omega
          have i1 : ¬ (j : Int) < (j : Int) := by omega
          have HBL := Lib.hid (show BR < wr.heap.size from h2.lt)
          have hra : RA wr BR (RS0.run E) v' := by
            have h := h2
            rw [List.take_of_length_le (by rw [HEL.out]; exact Nat.le_refl _)] at h
            exact h
          obtain ⟨hok1, hfr1⟩ := HFIN.out
          have HFM := Lib.hid (rframe_any BR (RS0.run E) v' wr hra)
          rw [hok1, hfr1] at HFM
          simp only [frameC, List.map, if_true] at HFM
          have HFr := Lib.hid (HFA.out.keep hb HSZ.out)
          clear hlt hj h1 h2 hra hok1 hfr1 HLO'
          go_wp2_with fail
          refine HFM.out.mono ?_
          rintro x w7 ⟨rfl, hb7⟩
          have HB7 := Lib.hid (below_trans' HB.out hb7)
          have HF7 := Lib.hid (HFr.out.keep hb7 (by have := HBL.out; have := HNE.out; omega))
          have hs7 := hb7.size
          obtain ⟨W8, hW8⟩ : ∃ W8, W8 = w7.alloc (.cells #[.bool e0, .int .u32 (n0 : Int), .bool q0, .int .i64 (m : Int), .int .u8 (x0 : Int), .int .u8 (x1 : Int), .int .u8 (x2 : Int), .int .u8 (x3 : Int), .int .u8 (x4 : Int), .int .u8 (x5 : Int), .int .u8 (x6 : Int), .int .u8 (x7 : Int)] 27) := ⟨_, rfl⟩
          have ha8 : Below w7.heap.size w7 W8 := by rw [hW8]; exact (Below.refl _ _).alloc (Nat.le_refl _) _
          have HB8 := Lib.hid (below_trans' HB7.out ha8)
          have HF8 := Lib.hid (HF7.out.keep ha8 (by have := HBL.out; have := HNE.out; omega))
          have HG8 := Lib.hid (show FrameAt W8 w7.heap.size e0 n0 q0 (m : Int) [x0, x1, x2, x3, x4, x5, x6, x7] by rw [hW8]; exact FrameAt.new w7 27 e0 n0 q0 (m : Int) [x0, x1, x2, x3, x4, x5, x6, x7] rfl)
          have HSZ8 := Lib.hid (show w.heap.size < w7.heap.size ∧ w7.heap.size < W8.heap.size by rw [hW8]; simp; have := HBL.out; have := HNE.out; omega)
          clear hb7 ha8 hs7
          go_upto_region 20 with fail
          rw [← hW8]
          clear hW8
          obtain ⟨D8, hD8⟩ : ∃ D8, D8 = w7.heap.size := ⟨_, rfl⟩
          rw [← hD8] at HG8 HSZ8 ⊢
          clear hD8
          go_wp2_with fail
          refine (HLV.out _ HB8.out).mono ?_
          rintro x wz ⟨rfl, hbz⟩
          have HBZ := Lib.hid (below_trans' HB8.out hbz)
          obtain ⟨c0, c1, c2, c3, c4, c5, c6, c7, c8, c9, c10, c11⟩ := (HF8.out.keep hbz (by have := HSZ8.out; omega)).cells
          obtain ⟨k0, k1, k2, k3, k4, k5, k6, k7, k8, k9, k10, k11⟩ := (HG8.out.keep hbz HSZ8.out.2).cells
          clear hbz
          go_wp2_with fail
          go_ret
          exact ⟨rfl, HBW.out.trans (HBZ.out.mono HBW.out.size)⟩
    · go_wp2_with fail
      go_loopw [9] (fun i wr => ∃ (j : Nat) (v' : Value), j ≤ N ∧ i = .int .i64 (j : Int) ∧ SPA wr B D FR PL j (decide (j < N)) ∧ RA wr BR (RS0.run (E.take j)) v' ∧ Below W0.heap.size W0 wr) (fun i _ => N - (intOf i).toNat)
      case atStart => exact ⟨0, _, Nat.zero_le _, rfl, by rw [decide_eq_true (show 0 < N by have := HLO.out; omega)]; exact H1.out, H2.out, HB.out⟩
      case round =>
        clear H1 H2 HB
        obtain ⟨j, v', hj, rfl, h1, h2, hb⟩ := hrel
        have H2 := Lib.hid h2; have HB := Lib.hid hb
        have HLO' := HLO.out
        by_cases hlt : j < N
        · rw [decide_eq_true hlt] at h1
          have H1 := Lib.hid h1
          have HLT := Lib.hid hlt
          have i1 : (j : Int) < (N : Int) := by omega
          have hw : IntKind.i64.wrap ((j : Int) + 1) = (j : Int) + 1 := by rw [IntKind.wrap_i64]; omega
          have HRL := Lib.hid (HHD.out j)
          have HRUN := Lib.hid (show RS0.run (E.take (j + 1)) = ((RS0.run (E.take j)).hear (E[j]?.getD 0)).1 by
            have hl2 : j < E.length := by rw [HEL.out]; exact HLT.out
            rw [List.take_succ_eq_append_getElem hl2, RS.run_snoc]
            congr 2
            simp [hl2])
          clear h1 h2 hb
          have HA9' := HA9.out; have HA1' := HA1.out; have HNE' := HNE.out
          by_cases h9 : j = a9
          · have k9 : ((j : Int) == (a9 : Int)) = true := by rw [beq_iff_eq]; omega
            have HP := Lib.hid (show PL[j]? = some ⟨1, false, false, true, false⟩ by rw [h9]; exact HSL.out.1)
            have hx : E[j]?.getD 0 = 0 := by rw [h9]; exact HSL.out.2
            have HK1 := Lib.hid (show j + 1 < PL.length by rw [HPN.out]; omega)
            have k1 : ((j : Int) == (a1' : Int)) = false := by rw [beq_eq_false_iff_ne]; omega
            have HON := Lib.hid (show decide (j + 1 < N) = true from decide_eq_true (by omega))
            rw [hx] at HRUN
            clear hx h9 hlt hj HLO' HA9' HA1' HNE'
            go_wp2_with fail
            refine (sbit_on B D _ _ j 1 false false true false HP.out _ H1.out).mono ?_
            rintro y v1 ⟨rfl, hs, hb⟩
            have H1 := Lib.hid hs; have H2 := Lib.hid (H2.out.on hb); have HB := Lib.hid (below_trans' HB.out hb)
            clear hs hb
            go_wp2_with fail
            have HEAR := Lib.hid (rhear_any BR (RS0.run (E.take j)) v' 0 HRL.out v1 H2.out)
            refine HEAR.out.mono ?_
            rintro y v2 ⟨v'', rfl, hra, hk, hnx⟩
            have H1 := Lib.hid (spa_kpv H1.out hk (by have := HNE.out; omega) (by have := HNE.out; omega) (fun e => by have := H2.out.own.ge B e; have := HNE.out; omega) (fun e => by have := H2.out.own.ge D e; have := HNE.out; omega))
            have HB := Lib.hid (HB.out.trans ((hk.below (Nat.le_of_lt H2.out.lt) (fun k e => by have := H2.out.own.ge k e; omega)).mono (by have := HNE.out; omega)))
            have H2 := Lib.hid hra
            clear hk hnx hra HEAR
            go_wp2_with fail
            refine (shd_kp B D _ _ j 1 false false true false HP.out HPL.out 0 0 (by decide) (fun _ => HK1.out) _ H1.out).mono ?_
            rintro y v3 ⟨rfl, hs, hk⟩
            have H2 := Lib.hid (ra_kpn H2.out hk (by have := HNE.out; omega))
            have HB := Lib.hid (HB.out.trans ((kp_low hk (Nat.le_of_lt H1.out.ltOf)).mono HNE.out.2.2.1))
            have H1 := Lib.hid hs
            clear hs hk
            go_wp2_with fail
            refine (psent_any B D _ _ (j + 1) true _ H1.out).mono ?_
            rintro y v4 ⟨rfl, rfl⟩
            go_wp2_with fail
            go_roundw
            case rel => exact ⟨j + 1, v'', HLT.out, by simp, by rw [HON.out]; exact H1.out, by rw [HRUN.out]; exact H2.out, HB.out⟩
            case measure => have := HLT.out; simp [intOf]; omega
          · have k9 : ((j : Int) == (a9 : Int)) = false := by rw [beq_eq_false_iff_ne]; omega
            by_cases h1' : j = a1'
            · have k1 : ((j : Int) == (a1' : Int)) = true := by rw [beq_iff_eq]; omega
              have HP := Lib.hid (show PL[j]? = some ⟨1, false, false, false, true⟩ by rw [h1']; exact HLS.out.1)
              have hx : E[j]?.getD 0 = 1 := by rw [h1']; exact HLS.out.2
              have HON := Lib.hid (show decide (j + 1 < N) = false from decide_eq_false (by omega))
              rw [hx] at HRUN
              clear hx h9 h1' hlt hj HLO' HA9' HA1' HNE'
              go_wp2_with fail
              refine (sbit_on B D _ _ j 1 false false false true HP.out _ H1.out).mono ?_
              rintro y v1 ⟨rfl, hs, hb⟩
              have H1 := Lib.hid hs; have H2 := Lib.hid (H2.out.on hb); have HB := Lib.hid (below_trans' HB.out hb)
              clear hs hb
              go_wp2_with fail
              have HEAR := Lib.hid (rhear_any BR (RS0.run (E.take j)) v' 1 HRL.out v1 H2.out)
              refine HEAR.out.mono ?_
              rintro y v2 ⟨v'', rfl, hra, hk, hnx⟩
              have H1 := Lib.hid (spa_kpv H1.out hk (by have := HNE.out; omega) (by have := HNE.out; omega) (fun e => by have := H2.out.own.ge B e; have := HNE.out; omega) (fun e => by have := H2.out.own.ge D e; have := HNE.out; omega))
              have HB := Lib.hid (HB.out.trans ((hk.below (Nat.le_of_lt H2.out.lt) (fun k e => by have := H2.out.own.ge k e; omega)).mono (by have := HNE.out; omega)))
              have H2 := Lib.hid hra
              clear hk hnx hra HEAR
              go_wp2_with fail
              refine (shd_kp B D _ _ j 1 false false false true HP.out HPL.out 1 5 (by decide) (fun h => absurd h (by decide)) _ H1.out).mono ?_
              rintro y v3 ⟨rfl, hs, hk⟩
              have H2 := Lib.hid (ra_kpn H2.out hk (by have := HNE.out; omega))
              have HB := Lib.hid (HB.out.trans ((kp_low hk (Nat.le_of_lt H1.out.ltOf)).mono HNE.out.2.2.1))
              have H1 := Lib.hid hs
              clear hs hk
              go_wp2_with fail
              refine (psent_any B D _ _ (j + 1) false _ H1.out).mono ?_
              rintro y v4 ⟨rfl, rfl⟩
              go_wp2_with fail
              go_roundw
              case rel => exact ⟨j + 1, v'', HLT.out, by simp, by rw [HON.out]; exact H1.out, by rw [HRUN.out]; exact H2.out, HB.out⟩
              case measure => have := HLT.out; simp [intOf]; omega
            · have k1 : ((j : Int) == (a1' : Int)) = false := by rw [beq_eq_false_iff_ne]; omega
              obtain ⟨x, a, e, hp, hx⟩ := HGEN.out j hlt h9 h1'
              have HP := Lib.hid hp
              have HK1 := Lib.hid (show j + 1 < PL.length by rw [HPN.out]; omega)
              have HON := Lib.hid (show decide (j + 1 < N) = true from decide_eq_true (by omega))
              rw [hx] at HRUN
              clear hp hx h9 h1' hlt hj HLO' HA9' HA1' HNE'
              go_wp2_with fail
              refine (sbit_on B D _ _ j x a e false false HP.out _ H1.out).mono ?_
              rintro y v1 ⟨rfl, hs, hb⟩
              have H1 := Lib.hid hs; have H2 := Lib.hid (H2.out.on hb); have HB := Lib.hid (below_trans' HB.out hb)
              clear hs hb
              go_wp2_with fail
              have HEAR := Lib.hid (rhear_any BR (RS0.run (E.take j)) v' x HRL.out v1 H2.out)
              refine HEAR.out.mono ?_
              rintro y v2 ⟨v'', rfl, hra, hk, hnx⟩
              have H1 := Lib.hid (spa_kpv H1.out hk (by have := HNE.out; omega) (by have := HNE.out; omega) (fun e => by have := H2.out.own.ge B e; have := HNE.out; omega) (fun e => by have := H2.out.own.ge D e; have := HNE.out; omega))
              have HB := Lib.hid (HB.out.trans ((hk.below (Nat.le_of_lt H2.out.lt) (fun k e => by have := H2.out.own.ge k e; omega)).mono (by have := HNE.out; omega)))
              have H2 := Lib.hid hra
              clear hk hnx hra HEAR
              go_wp2_with fail
              refine (shd_kp B D _ _ j x a e false false HP.out HPL.out x 0 (by simp [verd]) (fun _ => HK1.out) _ H1.out).mono ?_
              rintro y v3 ⟨rfl, hs, hk⟩
              have H2 := Lib.hid (ra_kpn H2.out hk (by have := HNE.out; omega))
              have HB := Lib.hid (HB.out.trans ((kp_low hk (Nat.le_of_lt H1.out.ltOf)).mono HNE.out.2.2.1))
              have H1 := Lib.hid hs
              clear hs hk
              go_wp2_with fail
              refine (psent_any B D _ _ (j + 1) true _ H1.out).mono ?_
              rintro y v4 ⟨rfl, rfl⟩
              go_wp2_with fail
              go_roundw
              case rel => exact ⟨j + 1, v'', HLT.out, by simp, by rw [HON.out]; exact H1.out, by rw [HRUN.out]; exact H2.out, HB.out⟩
              case measure => have := HLT.out; simp [intOf]; omega
        · obtain rfl : j = N := by omega
          have i1 : ¬ (j : Int) < (j : Int) := by omega
          have HBL := Lib.hid (show BR < wr.heap.size from h2.lt)
          have hra : RA wr BR (RS0.run E) v' := by
            have h := h2
            rw [List.take_of_length_le (by rw [HEL.out]; exact Nat.le_refl _)] at h
            exact h
          obtain ⟨hok1, hfr1⟩ := HFIN.out
          have HFM := Lib.hid (rframe_any BR (RS0.run E) v' wr hra)
          rw [hok1, hfr1] at HFM
          simp only [frameC, List.map, if_true] at HFM
          have HFr := Lib.hid (HFA.out.keep hb HSZ.out)
          clear hlt hj h1 h2 hra hok1 hfr1 HLO'
          go_wp2_with fail
          refine HFM.out.mono ?_
          rintro x w7 ⟨rfl, hb7⟩
          have HB7 := Lib.hid (below_trans' HB.out hb7)
          have HF7 := Lib.hid (HFr.out.keep hb7 (by have := HBL.out; have := HNE.out; omega))
          have hs7 := hb7.size
          obtain ⟨W8, hW8⟩ : ∃ W8, W8 = w7.alloc (.cells #[.bool e0, .int .u32 (n0 : Int), .bool q0, .int .i64 (m : Int), .int .u8 (x0 : Int), .int .u8 (x1 : Int), .int .u8 (x2 : Int), .int .u8 (x3 : Int), .int .u8 (x4 : Int), .int .u8 (x5 : Int), .int .u8 (x6 : Int), .int .u8 (x7 : Int)] 27) := ⟨_, rfl⟩
          have ha8 : Below w7.heap.size w7 W8 := by rw [hW8]; exact (Below.refl _ _).alloc (Nat.le_refl _) _
          have HB8 := Lib.hid (below_trans' HB7.out ha8)
          have HF8 := Lib.hid (HF7.out.keep ha8 (by have := HBL.out; have := HNE.out; omega))
          have HG8 := Lib.hid (show FrameAt W8 w7.heap.size e0 n0 q0 (m : Int) [x0, x1, x2, x3, x4, x5, x6, x7] by rw [hW8]; exact FrameAt.new w7 27 e0 n0 q0 (m : Int) [x0, x1, x2, x3, x4, x5, x6, x7] rfl)
          have HSZ8 := Lib.hid (show w.heap.size < w7.heap.size ∧ w7.heap.size < W8.heap.size by rw [hW8]; simp; have := HBL.out; have := HNE.out; omega)
          clear hb7 ha8 hs7
          go_upto_region 20 with fail
          rw [← hW8]
          clear hW8
          obtain ⟨D8, hD8⟩ : ∃ D8, D8 = w7.heap.size := ⟨_, rfl⟩
          rw [← hD8] at HG8 HSZ8 ⊢
          clear hD8
          go_wp2_with fail
          refine (HLV.out _ HB8.out).mono ?_
          rintro x wz ⟨rfl, hbz⟩
          have HBZ := Lib.hid (below_trans' HB8.out hbz)
          obtain ⟨c0, c1, c2, c3, c4, c5, c6, c7, c8, c9, c10, c11⟩ := (HF8.out.keep hbz (by have := HSZ8.out; omega)).cells
          obtain ⟨k0, k1, k2, k3, k4, k5, k6, k7, k8, k9, k10, k11⟩ := (HG8.out.keep hbz HSZ8.out.2).cells
          clear hbz
          go_wp2_with fail
          go_ret
          exact ⟨rfl, HBW.out.trans (HBZ.out.mono HBW.out.size)⟩
  · have HEN := Lib.hid (fun u => refEnc_no e0 n0 q0 l0 x0 hx0 hok u)
    have HNW := Lib.hid (fun u => snew_no e0 n0 q0 l0 x0 hx0 _ rfl hok u)
    obtain ⟨x0, x1, x2, x3, x4, x5, x6, x7, rfl⟩ := eight hx0
    obtain ⟨c0, c1, c2, c3, c4, c5, c6, c7, c8, c9, c10, c11⟩ := HFA0.out.cells
    simp only [frameV, frameC, List.map] at HEN HNW hW0 ⊢
    clear hok hx0 hb0 hn0 h0 hT hbW
    go_enter Tryd.func8, Tryd.ntmps8
    go_upto_region 1 with fail
    rw [← hW0]
    clear hW0
    go_wp2_with fail
    refine (HNW.out _).mono ?_
    rintro x wa ⟨rfl, hb⟩
    have HBa := Lib.hid hb
    obtain ⟨c0, c1, c2, c3, c4, c5, c6, c7, c8, c9, c10, c11⟩ := (HFA0.out.keep hb HSZ.out).cells
    clear hb
    go_wp2_with fail
    refine (HEN.out _).mono ?_
    rintro x wb ⟨rfl, hb⟩
    have HBb := Lib.hid (below_trans' HBa.out hb)
    clear hb
    go_wp2_with fail
    refine (HLV.out _ HBb.out).mono ?_
    rintro x wd ⟨rfl, hb⟩
    have HBd := Lib.hid (below_trans' HBb.out hb)
    clear hb
    go_wp2_with fail
    go_ret
    exact ⟨rfl, HBW.out.trans (HBd.out.mono HBW.out.size)⟩
theorem door_met (os : Os) (args : Array Value) : laidMetH Tryd.prog laidD ((World.doorLaid Tryd.prog 400 os).forCall (fun _ _ => 0) ⟨#[], args, []⟩).memory :=
  laidMetH_of_parts3 (fuel := 8) (laidMet_of_run' 8 (by kernel_rfl) (by kernel_rfl)) (by kernel_rfl) (by kernel_rfl)
set_option maxRecDepth 100000 in
theorem lifted (os : Os) (started : os.Started) (H : Type) (enc : TypeId × Value → H) :
    ReturnsInHanded {} Tryd.checked os 8 .any (fun w args => (Rows.speakAloneSpec.pre enc Tryd.prog Tryd.f8 [] false w args ∧ laidMetH Tryd.prog laidD w) ∧ sizedMet enc Tryd.prog Tryd.f8 (OpenSpec.ofChange Rows.speakAloneSpec) false w args)
      (Rows.speakAloneSpec.post enc Tryd.prog Tryd.f8 false true false false) := by
  refine returnsInHanded_of_change_and (C := Tryd.checked) (X := fun w _ => laidMetH Tryd.prog laidD w) (fun _ _ _ hh h => h.of_heap hh) own started (by kernel_rfl) Tryd.func8
    (ChangeSpec.witness_shaped (enc := enc) (C := Tryd.checked) (os := os) (X := fun w _ => laidMetH Tryd.prog laidD w) false (World.doorLaid Tryd.prog 400 os) #[.agg #[.bool false, .int .u32 0, .bool false, .int .i64 0, .int .u8 0, .int .u8 0, .int .u8 0, .int .u8 0, .int .u8 0, .int .u8 0, .int .u8 0, .int .u8 0], .bool false] 8 rfl (World.shaped_of_RefB (by kernel_rfl) (by kernel_rfl)) (by kernel_rfl) (by kernel_rfl) (by kernel_rfl) (door_met os _)) ?_
  intro W base args ds gs before hval0 hW _ _ hL _
  have hval : ∀ (j : Nat) t v, Tryd.f8.params[j]? = some t → args[j]? = some v → Value.okWide Tryd.prog W .any base t v := hval0
  have hW' := hW
  obtain ⟨p, q, hA0, hV, rfl, hfz, hnd⟩ := hW
  have hA : DataW.TrodAll enc Tryd.prog W 0 (fun _ => true) true Tryd.f8.params.toList args.toList ds p := hA0
  rw [Tryd.params8] at hA hval
  obtain ⟨v0, vs0, d0, ds0, p0, q0, hargs, rfl, rfl, h0, r0⟩ := trodAll_cons hA
  obtain ⟨v1, vs1, d1, ds1, p1, q1, rfl, rfl, rfl, h1, r1⟩ := trodAll_cons r0
  obtain ⟨rfl, rfl, rfl⟩ := trodAll_nil r1
  obtain rfl : args = #[v0, v1] := by cases args; simp_all
  obtain ⟨rfl, rfl⟩ := trodVars_none hV
  have k0 := h0
  have lt0 : ∀ x ∈ p0, x.block < W.heap.size := by obtain ⟨m, hm⟩ := k0; exact DataW.trod_lt m _ _ _ hm
  obtain ⟨e0, n0, q0, l0, x0, rfl, w0⟩ := open_frame (hval 0 27 v0 rfl rfl) h0
  obtain ⟨a1, rfl, rfl, rfl⟩ := open_bool Tryd.underlying4 (hval 1 4 v1 rfl rfl) h1
  clear hA0 hval0
  obtain ⟨hTab, hsz0⟩ := tab_of_laid hL
  refine (walk e0 n0 q0 l0 x0 a1 w0 W hsz0 hTab).mono fun e W' ⟨he, bel⟩ => ?_
  subst he
  exact ⟨_, rfl, _, _, _, [], _, [], hW', trodAll_mk1 (shut_bool Tryd.underlying4 _), (trodAll_cons_mk (Below.trod laidOut (by kernel_rfl) (of_decide_eq_true (by kernel_rfl)) k0 bel lt0) (trodAll_cons_mk (shut_bool Tryd.underlying4 _) trodAll_mk0)), rfl, bel.frame _, fun h => by cases h⟩
theorem over : Rows.speakAloneRow.holds Tryd.pinned (OpenSpec.ofChange Rows.speakAloneSpec) :=
  OpenClaim.holds_of_wide 8 Tryd.f8 rfl rfl rfl rfl rfl rfl rfl ⟨rfl, rfl, rfl, rfl, rfl⟩ rfl rfl rfl rfl rfl (by kernel_rfl) Tryd.func8 (by kernel_rfl)
    (of_decide_eq_true (by kernel_rfl)) (by unfold Func.isWrapper; first | (rw [if_pos (by decide +kernel)]; kernel_rfl) | (rw [if_neg (by decide +kernel)]; exact ⟨rfl, rfl⟩))
    (fun os started H enc _ => lifted os started H enc)
/-- The statement: the row, and what it lists tied to the program's text. -/
theorem proved : Rows.SpeakAloneCardSaid :=
  Claim7.holds_tied_plain_at .later [] [.data] true _ true
    over (fun _ h => by cases h) (by kernel_rfl) (fun _ h => by cases h) speakAlone_row_tie rfl ⟨rfl, rfl⟩ (by kernel_rfl) rfl
    (fun f fn hf hfn => by
      obtain rfl : f = 8 := Option.some.inj ((show Tryd.prog.funcNamed "bellbuoy/bellbuoylaw09.SpeakAlone" = some 8 by kernel_rfl).symm.trans hf) |>.symm
      obtain rfl : fn = Tryd.f8 := (Option.some.inj (Tryd.func8.symm.trans hfn)).symm
      exact ⟨by kernel_rfl, fun j t ht => by
        rw [Tryd.params8] at ht
        have hm : t ∈ [27, 4] := by simpa using Array.mem_of_getElem? ht
        have hall : ([27, 4].all fun u => !Tryd.prog.wantsStandIn u) = true := by kernel_rfl
        exact (show Tryd.prog.wantsStandIn t = false by simpa using List.all_eq_true.1 hall t hm)⟩)
    (by kernel_rfl)
end Go.Proofs.YtmfnkfiocnngeaaDoor.speakAlone
