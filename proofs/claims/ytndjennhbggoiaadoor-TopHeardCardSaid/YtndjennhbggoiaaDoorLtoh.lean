/- The statement of TopHeard (E1): frames one behind the other on the wire are heard, one by one, as they are. Conditions: the divisor's cells hold what the program's own text lays in them (tied). -/
import Derived.Test.YtndjennhbggoiaaDoorRows
import Derived.Test.YtndjennhbggoiaaDoorToh
import Derived.Test.YtndjennhbggoiaaDoorBat
import Derived.WalkKit
import Derived.ProofKit
import Derived.OpenShut
import Derived.ShutString
import Derived.ChangeOld
import Derived.Below
namespace Go.Proofs.YtndjennhbggoiaaDoor.topHeard
open Go.ChangeShapes Go.WideShapes Go.ChangeAt Go.RowKit
theorem own : ownKnob Tryd.prog.godebug = none := by kernel_rfl
theorem laidOut : laidOutB Tryd.prog = true := by kernel_rfl
set_option maxRecDepth 100000 in
set_option maxHeartbeats 16000000 in
theorem walk (a1 : Option Addr) (len cap : Nat) (w : World) (w1 : FrRow w a1 len ∧ cap ≤ maxLen ∧ len ≤ cap) (h0 : 0 < w.heap.size) (hT : Tab w) :
    Calls Tryd.prog 12 #[.slice a1 len cap] w fun e w' => e = .returned (.bool true) ∧ Below w.heap.size w w' := by
  obtain ⟨hrow, hcm, hlc⟩ := w1
  obtain ⟨eb, eo, q, hcells⟩ : ∃ (eb eo : Nat) (q : Nat → FT), ∀ j, j < len → a1 = some ⟨eb, eo, none⟩ ∧ eb < w.heap.size ∧ FT.Ok (q j) ∧ ∀ k, k < 12 → w.cell? ⟨eb, eo + j * 12 + k, none⟩ = (frameC (q j).1 (q j).2.1 (q j).2.2.1 (q j).2.2.2.1 (q j).2.2.2.2)[k]? := by
    rcases hrow with h | ⟨b, off, rfl, hb, hall⟩
    · exact ⟨0, 0, fun _ => (false, 0, false, 0, []), fun j hj => by omega⟩
    · have each : ∀ j, j < len → ∃ t : FT, FT.Ok t ∧ ∀ k, k < 12 → w.cell? ⟨b, off + j * 12 + k, none⟩ = (frameC t.1 t.2.1 t.2.2.1 t.2.2.2.1 t.2.2.2.2)[k]? := fun j hj => by
        obtain ⟨e, n, r, l, x, h1, h2, h3, h4⟩ := hall j hj
        exact ⟨(e, n, r, l, x), ⟨h1, h2, h3⟩, h4⟩
      haveI : Inhabited FT := ⟨(false, 0, false, 0, [])⟩
      obtain ⟨q, hq⟩ := Deep.choose_lt each
      exact ⟨b, off, q, fun j hj => ⟨rfl, hb, (hq j hj).1, (hq j hj).2⟩⟩
  have HQ := Lib.hid (fun j (hj : j < len) => ((⟨(hcells j hj).2.2.1, (hcells j hj).2.2.2⟩ : FT.Ok (q j) ∧ _)))
  have HA1 := Lib.hid (fun j (hj : j < len) => (hcells j hj).1)
  have HEB0 := Lib.hid (fun j (hj : j < len) => (hcells j hj).2.1)
  obtain ⟨K, hK⟩ : ∃ K, K = min len 6 := ⟨_, rfl⟩
  have hK6 : K ≤ 6 := by omega
  have hKl : K ≤ len := by omega
  have HKD := Lib.hid (show ∀ j : Nat, j < K ↔ j < len ∧ j < 6 from fun j => by omega)
  have HCL := Lib.hid (show (catW q K).length ≤ 960 from Nat.le_trans (catW_len q K) (by omega))
  have hlcap : (len : Int) ≤ 9223372036854775807 := by have : cap ≤ 9223372036854775807 := hcm; omega
  obtain ⟨i0, hi, hz0, hz1', hz2⟩ := info_parts info_u8
  have HG0 := Lib.hid h0; have HTT := Lib.hid hT; have HK6 := Lib.hid hK6; have HKL := Lib.hid hKl
  clear hrow hcells hK hK6 hKl hcm hlc h0 hT
  go_enter Tryd.func12, Tryd.ntmps12
  go_wp2_with fail
  go_loopw [3, 4] (fun v i wr => ∃ j : Nat, j ≤ K ∧ i = .int .i64 j ∧ Ow w.heap.size wr v (catW q j) ∧ Below w.heap.size w wr) (fun _ i _ => K - (intOf i).toNat)
  case atStart => exact ⟨0, Nat.zero_le _, rfl, Ow.nil _ _, Below.refl _ _⟩
  case round =>
    obtain ⟨j, hj, rfl, hov, hbe⟩ := hrel
    have HJ := Lib.hid hj; have HOV := Lib.hid hov; have HBE := Lib.hid hbe
    obtain ⟨va, vc, rfl⟩ := hov.shape
    clear hov hj hbe
    by_cases hjk : j < K
    · obtain ⟨hjl, hj6⟩ := (HKD.out j).1 hjk
      have HJK := Lib.hid hjk
      obtain rfl := HA1.out j hjl
      have HEB := Lib.hid (HEB0.out j hjl)
      obtain ⟨⟨hn, hx8, hxb⟩, hcell⟩ := HQ.out j hjl
      obtain ⟨T, hT0⟩ : ∃ T, T = q j := ⟨_, rfl⟩
      rw [← hT0] at hn hx8 hxb hcell
      have HTQ := Lib.hid hT0
      obtain ⟨te, tn, tq, tl, tx⟩ := T
      simp only at hn hx8 hxb hcell
      obtain ⟨x0, x1, x2, x3, x4, x5, x6, x7, rfl⟩ := eight hx8
      have hLF := fun u => lawFrame_any te tn hn tq tl [x0, x1, x2, x3, x4, x5, x6, x7] rfl u
      obtain ⟨D, hD⟩ : ∃ D, D = FT.d (te, tn, tq, tl, [x0, x1, x2, x3, x4, x5, x6, x7]) := ⟨_, rfl⟩
      have hD8 : D.length = 8 := by rw [hD]; exact FT.d8 _
      rw [show trimD [x0, x1, x2, x3, x4, x5, x6, x7] tq (cutL tl) 8 = D from hD.symm] at hLF
      have hrt := FT.right (te, tn, tq, tl, [x0, x1, x2, x3, x4, x5, x6, x7])
      rw [← hD] at hrt
      obtain ⟨N, hN⟩ : ∃ N, N = FT.n (te, tn, tq, tl, [x0, x1, x2, x3, x4, x5, x6, x7]) := ⟨_, rfl⟩
      obtain ⟨M, hM⟩ : ∃ M, M = FT.m (te, tn, tq, tl, [x0, x1, x2, x3, x4, x5, x6, x7]) := ⟨_, rfl⟩
      rw [show cutN te tn = N from hN.symm, show cutL tl = M from hM.symm] at hLF
      rw [← hN, ← hM] at hrt
      have hXd : FT.wire (te, tn, tq, tl, [x0, x1, x2, x3, x4, x5, x6, x7]) = encB te N tq M D := by unfold FT.wire; rw [← hN, ← hM, ← hD]
      have hN32 : N < 4294967296 := by rw [hN]; exact FT.n_lt _
      have hDb : ∀ y ∈ D, y < 256 := by rw [hD]; exact trimD_lt hxb _ _ _
      obtain ⟨d0, d1, d2, d3, d4, d5, d6, d7, rfl⟩ := eight hD8
      simp only [frameV, frameC, List.map] at hLF
      have HLF := Lib.hid hLF; have HRT := Lib.hid hrt; have HXD := Lib.hid hXd; have HDB := Lib.hid hDb; have HN32 := Lib.hid hN32
      have HCE := Lib.hid hcell
      have i1 : (j : Int) < (len : Int) := by omega
      have i2 : (j : Int) < 6 := by omega
      have i3 : (0 : Int) ≤ (j : Int) := by omega
      have hw : IntKind.i64.wrap ((j : Int) + 1) = (j : Int) + 1 := by rw [IntKind.wrap_i64]; omega
      have e0 : wr.cell? ⟨eb, eo + j * 12, none⟩ = some (.bool te) := (HBE.out.cell (p := ⟨eb, eo + j * 12 + 0, none⟩) HEB.out).trans ((HCE.out 0 (by decide)).trans rfl)
      have e1 : wr.cell? ⟨eb, eo + j * 12 + 1, none⟩ = some (.int .u32 (tn : Int)) := (HBE.out.cell (p := ⟨eb, eo + j * 12 + 1, none⟩) HEB.out).trans ((HCE.out 1 (by decide)).trans rfl)
      have e2 : wr.cell? ⟨eb, eo + j * 12 + 2, none⟩ = some (.bool tq) := (HBE.out.cell (p := ⟨eb, eo + j * 12 + 2, none⟩) HEB.out).trans ((HCE.out 2 (by decide)).trans rfl)
      have e3 : wr.cell? ⟨eb, eo + j * 12 + 3, none⟩ = some (.int .i64 tl) := (HBE.out.cell (p := ⟨eb, eo + j * 12 + 3, none⟩) HEB.out).trans ((HCE.out 3 (by decide)).trans rfl)
      have e4 : wr.cell? ⟨eb, eo + j * 12 + 4, none⟩ = some (.int .u8 (x0 : Int)) := (HBE.out.cell (p := ⟨eb, eo + j * 12 + 4, none⟩) HEB.out).trans ((HCE.out 4 (by decide)).trans rfl)
      have e5 : wr.cell? ⟨eb, eo + j * 12 + 5, none⟩ = some (.int .u8 (x1 : Int)) := (HBE.out.cell (p := ⟨eb, eo + j * 12 + 5, none⟩) HEB.out).trans ((HCE.out 5 (by decide)).trans rfl)
      have e6 : wr.cell? ⟨eb, eo + j * 12 + 6, none⟩ = some (.int .u8 (x2 : Int)) := (HBE.out.cell (p := ⟨eb, eo + j * 12 + 6, none⟩) HEB.out).trans ((HCE.out 6 (by decide)).trans rfl)
      have e7 : wr.cell? ⟨eb, eo + j * 12 + 7, none⟩ = some (.int .u8 (x3 : Int)) := (HBE.out.cell (p := ⟨eb, eo + j * 12 + 7, none⟩) HEB.out).trans ((HCE.out 7 (by decide)).trans rfl)
      have e8 : wr.cell? ⟨eb, eo + j * 12 + 8, none⟩ = some (.int .u8 (x4 : Int)) := (HBE.out.cell (p := ⟨eb, eo + j * 12 + 8, none⟩) HEB.out).trans ((HCE.out 8 (by decide)).trans rfl)
      have e9 : wr.cell? ⟨eb, eo + j * 12 + 9, none⟩ = some (.int .u8 (x5 : Int)) := (HBE.out.cell (p := ⟨eb, eo + j * 12 + 9, none⟩) HEB.out).trans ((HCE.out 9 (by decide)).trans rfl)
      have e10 : wr.cell? ⟨eb, eo + j * 12 + 10, none⟩ = some (.int .u8 (x6 : Int)) := (HBE.out.cell (p := ⟨eb, eo + j * 12 + 10, none⟩) HEB.out).trans ((HCE.out 10 (by decide)).trans rfl)
      have e11 : wr.cell? ⟨eb, eo + j * 12 + 11, none⟩ = some (.int .u8 (x7 : Int)) := (HBE.out.cell (p := ⟨eb, eo + j * 12 + 11, none⟩) HEB.out).trans ((HCE.out 11 (by decide)).trans rfl)
      clear hn hx8 hxb hcell hLF hrt hXd hDb hN32 hN hM hD hT0 hjl hj6 hjk hD8
      go_wp2_with fail
      refine (HLF.out _).mono ?_
      rintro x w2 ⟨rfl, hb⟩
      have HB2 := Lib.hid (HBE.out.trans (hb.mono HBE.out.size))
      have HOV2 := Lib.hid (HOV.out.on hb)
      clear hb e0 e1 e2 e3 e4 e5 e6 e7 e8 e9 e10 e11
      go_wp2_with fail
      have HEN := Lib.hid (encode_yes te N HN32.out tq M [d0, d1, d2, d3, d4, d5, d6, d7] rfl HDB.out HRT.out w2 (Nat.lt_of_lt_of_le HG0.out HB2.out.size) (HTT.out.onB HB2.out HG0.out))
      have hlo := enc_long HRT.out
      obtain ⟨X, hX⟩ : ∃ X, X = encB te N tq M [d0, d1, d2, d3, d4, d5, d6, d7] := ⟨_, rfl⟩
      rw [← hX] at HEN hlo
      have HXX := Lib.hid (show FT.wire (q j) = X by rw [← HTQ.out, HXD.out, hX])
      clear hX
      simp only [frameV, frameC, List.map] at HEN
      refine HEN.out.mono ?_
      rintro x w3 ⟨v3, rfl, ho, hb⟩
      obtain ⟨xa, xc, rfl⟩ := ho.shape
      obtain ⟨xg, rfl, hnw⟩ := Ow.news ho (by omega)
      have HB3 := Lib.hid (HB2.out.trans (hb.mono HB2.out.size))
      have HOV3 := Lib.hid (HOV2.out.on hb)
      have HNW := Lib.hid hnw
      have HCJ := Lib.hid (Nat.le_trans (catW_len q j) (by have := HJ.out; have := HK6.out; omega : 160 * j ≤ 960))
      obtain ⟨L, hL⟩ : ∃ L, L = X.length := ⟨_, rfl⟩
      rw [← hL] at hlo ⊢
      have i5 : ¬ (L : Int) < 44 := by have := hlo.1; omega
      have hnl : (X.map (fun n : Nat => Value.int .u8 ((n : Nat) : Int))).length = L * 1 := by rw [List.length_map, hL]; omega
      have HLL := Lib.hid hL
      have HLO := Lib.hid hlo
      clear hb ho hnw hL hlo HEN
      go_wp2_with (at_builtin; refine wpList_append_own _ rfl _ _ 28 rfl w.heap.size 5 i0 (.int .u8 0) 1 1 Tryd.underlying28 hi hz0 hz1' hz2 rfl (by decide) _ _ _ rfl HOV3.out.own ⟨xg, 0, none⟩ L xc (X.map (fun n : Nat => Value.int .u8 ((n : Nat) : Int))) rfl hnl HNW.out ?c2 ?c3 ?c4 ?c5 ?_)
      case c2 => intro u hu; obtain ⟨n, _, rfl⟩ := List.mem_map.1 hu; rfl
      case c3 => unfold maxLen; have := HCJ.out; have := HLO.out.2.1; omega
      case c4 => have := HCJ.out; have := HLO.out.2.1; omega
      case c5 => exact HB3.out.size
      intro v4 w4 hown4 hgrow4 _
      have HO4 := Lib.hid (show Ow w.heap.size w4 v4 (catW q (j + 1)) by
        rw [catW, HXX.out]
        unfold Ow
        rw [List.length_append, List.map_append, ← HLL.out]
        exact hown4)
      have HB4 := Lib.hid (HB3.out.trans ((Below.refl _ w3).grown hgrow4 HB3.out.size HOV3.out.ge))
      clear hown4 hgrow4
      go_wp2_with fail
      go_roundw
      case rel => exact ⟨j + 1, HJK.out, by simp, HO4.out, HB4.out⟩
      case measure => have := HJK.out; simp [intOf]; omega
    · obtain rfl : j = K := by have := HJ.out; omega
      have HNJ := Lib.hid (show ¬ (j < len ∧ j < 6) from fun h => hjk ((HKD.out j).2 h))
      have parts : (¬ (j : Int) < (len : Int)) ∨ ((j : Int) < (len : Int) ∧ ¬ (j : Int) < 6) := by have := HNJ.out; omega
      obtain ⟨w2, hw2⟩ : ∃ w2, w2 = wr := ⟨_, rfl⟩
      rw [← hw2] at HOV HBE ⊢
      clear hjk hw2
      obtain ⟨TL, hTL⟩ : ∃ TL, TL = (catW q j).length := ⟨_, rfl⟩
      have HTL := Lib.hid hTL
      rw [← hTL] at HOV ⊢
      clear hTL
      rcases parts with p1 | ⟨p1, p2⟩
      · go_wp2_with fail
        go_loopw [6, 7] (fun at' i wr => ∃ c : Nat, c ≤ j ∧ i = .int .i64 c ∧ at' = .int .i64 (((catW q c).length : Nat) : Int) ∧ Below w2.heap.size w2 wr) (fun _ i _ => j - (intOf i).toNat)
        case atStart => exact ⟨0, Nat.zero_le _, rfl, rfl, Below.refl _ _⟩
        case round =>
          obtain ⟨c, hc, rfl, rfl, hbw⟩ := hrel
          have HBW := Lib.hid hbw; have HC := Lib.hid hc
          have HBR := Lib.hid (show Below w.heap.size w wr from HBE.out.trans (hbw.mono HBE.out.size))
          clear hbw hc
          obtain ⟨A, hA⟩ : ∃ A, A = (catW q c).length := ⟨_, rfl⟩
          have HA := Lib.hid hA
          rw [← hA]
          clear hA
          by_cases hcj : c < j
          · have HCK := Lib.hid hcj
            have hjl : c < len := ((HKD.out c).1 hcj).1
            have hj6 : c < 6 := ((HKD.out c).1 hcj).2
            have HA1c := HA1.out c hjl
            have HEB := Lib.hid (HEB0.out c hjl)
            obtain ⟨⟨hn, hx8, hxb⟩, hcell⟩ := HQ.out c hjl
            obtain ⟨T, hT0⟩ : ∃ T, T = q c := ⟨_, rfl⟩
            rw [← hT0] at hn hx8 hxb hcell
            have HTQ := Lib.hid hT0
            obtain ⟨te, tn, tq, tl, tx⟩ := T
            simp only at hn hx8 hxb hcell
            obtain ⟨x0, x1, x2, x3, x4, x5, x6, x7, rfl⟩ := eight hx8
            have hLF := fun u => lawFrame_any te tn hn tq tl [x0, x1, x2, x3, x4, x5, x6, x7] rfl u
            obtain ⟨D, hD⟩ : ∃ D, D = FT.d (te, tn, tq, tl, [x0, x1, x2, x3, x4, x5, x6, x7]) := ⟨_, rfl⟩
            have hD8 : D.length = 8 := by rw [hD]; exact FT.d8 _
            rw [show trimD [x0, x1, x2, x3, x4, x5, x6, x7] tq (cutL tl) 8 = D from hD.symm] at hLF
            have hrt := FT.right (te, tn, tq, tl, [x0, x1, x2, x3, x4, x5, x6, x7])
            rw [← hD] at hrt
            obtain ⟨N, hN⟩ : ∃ N, N = FT.n (te, tn, tq, tl, [x0, x1, x2, x3, x4, x5, x6, x7]) := ⟨_, rfl⟩
            obtain ⟨M, hM⟩ : ∃ M, M = FT.m (te, tn, tq, tl, [x0, x1, x2, x3, x4, x5, x6, x7]) := ⟨_, rfl⟩
            rw [show cutN te tn = N from hN.symm, show cutL tl = M from hM.symm] at hLF
            rw [← hN, ← hM] at hrt
            have hXd : FT.wire (te, tn, tq, tl, [x0, x1, x2, x3, x4, x5, x6, x7]) = encB te N tq M D := by unfold FT.wire; rw [← hN, ← hM, ← hD]
            have hN32 : N < 4294967296 := by rw [hN]; exact FT.n_lt _
            have hDb : ∀ y ∈ D, y < 256 := by rw [hD]; exact trimD_lt hxb _ _ _
            obtain ⟨d0, d1, d2, d3, d4, d5, d6, d7, rfl⟩ := eight hD8
            simp only [frameV, frameC, List.map] at hLF
            have HLF := Lib.hid hLF; have HRT := Lib.hid hrt; have HXD := Lib.hid hXd; have HDB := Lib.hid hDb; have HN32 := Lib.hid hN32
            have HCE := Lib.hid hcell
            obtain ⟨X, hX⟩ : ∃ X, X = encB te N tq M [d0, d1, d2, d3, d4, d5, d6, d7] := ⟨_, rfl⟩
            have HXX := Lib.hid (show FT.wire (q c) = X by rw [← HTQ.out, HXD.out, hX])
            have hlo := enc_long HRT.out
            have hpl := fun k => frame_place HRT.out rfl HDB.out 1 (by decide) k
            have hrunE := frame_run HRT.out rfl HDB.out 1 (by decide)
            rw [slotB_enc, ← hX] at hpl hrunE
            rw [← hX] at hlo
            obtain ⟨_, s1, _, _, _, _, hp5, hvl, hfr, hhh, _⟩ := hrunE
            obtain ⟨L, hL⟩ : ∃ L, L = X.length := ⟨_, rfl⟩
            rw [← hL] at hlo hpl
            have HPL := Lib.hid hpl; have HP5 := Lib.hid hp5; have HVL := Lib.hid hvl; have HFR := Lib.hid hfr; have HLO := Lib.hid hlo; have HLX := Lib.hid hL
            have HCAT := Lib.hid (fun k (hk : k < L) => by
              have h := catW_at q c j k HCK.out (by rw [HXX.out, ← HLX.out]; exact hk)
              rw [← HA.out, HXX.out] at h
              exact h)
            have HTJ := Lib.hid (show A + L = (catW q (c + 1)).length by rw [catW, List.length_append, HXX.out, ← HA.out, ← HLX.out])
            have HTLJ := Lib.hid (show TL ≤ 960 from by have := HCL.out; have := HTL.out; omega)
            have i1 : (c : Int) < (len : Int) := by omega
            have i2 : (c : Int) < 6 := by omega
            have i3 : (0 : Int) ≤ (c : Int) := by omega
            have hw : IntKind.i64.wrap ((c : Int) + 1) = (c : Int) + 1 := by rw [IntKind.wrap_i64]; omega
            have heq : ∀ u : World, Sem.run Tryd.prog (Op.equalIn 9999 25 (.agg #[.int .u8 (d0 : Int), .int .u8 (d1 : Int), .int .u8 (d2 : Int), .int .u8 (d3 : Int), .int .u8 (d4 : Int), .int .u8 (d5 : Int), .int .u8 (d6 : Int), .int .u8 (d7 : Int)]) (.agg #[.int .u8 (d0 : Int), .int .u8 (d1 : Int), .int .u8 (d2 : Int), .int .u8 (d3 : Int), .int .u8 (d4 : Int), .int .u8 (d5 : Int), .int .u8 (d6 : Int), .int .u8 (d7 : Int)])) u = .ok true u := fun u => frame_same 9997 d0 d1 d2 d3 d4 d5 d6 d7 u
            clear hn hx8 hxb hcell hLF hrt hXd hDb hN32 hN hM hD hT0 hjl hj6 hcj hD8 hX hlo hpl hp5 hvl hfr hhh hL
            go_wp2_with fail
            refine (lnew_any _).mono ?_
            rintro x w3 ⟨rfl, hla, hw3⟩
            obtain ⟨B1, hB1⟩ : ∃ B1, B1 = wr.heap.size := ⟨_, rfl⟩
            rw [← hB1] at hla ⊢
            have HBW3 := Lib.hid (show Below w2.heap.size w2 w3 by rw [hw3]; exact HBW.out.alloc HBW.out.size _)
            have HB3 := Lib.hid (show Below w.heap.size w w3 by rw [hw3]; exact HBR.out.alloc HBR.out.size _)
            have HLA3 := Lib.hid hla
            have HBB := Lib.hid (show w2.heap.size ≤ B1 by rw [hB1]; exact HBW.out.size)
            have HBB0 := Lib.hid (show w.heap.size ≤ B1 by rw [hB1]; exact HBR.out.size)
            clear hla hw3 hB1
            go_wp2_with fail
            go_loopw [6] (fun at' wx => ∃ (k : Nat) (v' : Value), k ≤ L ∧ at' = .int .i64 ((A + k : Nat) : Int) ∧ Hr w3 B1 X k wx v') (fun at' _ => A + L - (intOf at').toNat)
            case atStart => exact ⟨0, _, Nat.zero_le _, rfl, Hr.start HLA3.out⟩
            case round =>
              obtain ⟨k, v', hk, rfl, hhr⟩ := hrel
              have HHR := Lib.hid hhr; have HK := Lib.hid hk
              have hge := hhr.ge HLA3.out.lt
              have HBWx := Lib.hid (HBW3.out.trans (hge.mono HBB.out))
              have HBx := Lib.hid (HB3.out.trans (hge.mono HBB0.out))
              have HOX := Lib.hid (HOV.out.on HBWx.out)
              have HPC := Lib.hid (lplace_any B1 (LS0.run (X.take k)) v' wr hhr.la)
              obtain ⟨p, hp⟩ : ∃ p, p = (LS0.run (X.take k)).p := ⟨_, rfl⟩
              rw [← hp] at HPC
              have HPP := Lib.hid hp
              obtain ⟨ak, hak⟩ : ∃ ak, ak = A + k := ⟨_, rfl⟩
              rw [← hak]
              have HAK := Lib.hid hak
              clear hhr hk hge hp hak
              by_cases hkl : k < L
              · have j5 : ((p : Int) != 5) = true := by
                  have := HPL.out k hkl
                  rw [← HPP.out] at this
                  simp; omega
                have hcat := HCAT.out k hkl
                rw [← HAK.out, ← HTL.out] at hcat
                have i5 : (ak : Int) < (TL : Int) := by have := hcat.1; omega
                have i6 : (0 : Int) ≤ (ak : Int) := by omega
                have hwa : IntKind.i64.wrap ((ak : Int) + 1) = ((ak + 1 : Nat) : Int) := by rw [IntKind.wrap_i64]; have := hcat.1; have := HTLJ.out; omega
                have hsx := HOX.out.str
                obtain ⟨bk, off, rfl, hbk, hcc⟩ := hsx.at hcat.1
                have c0 := hcc _ (Below.refl _ _)
                rw [hcat.2] at c0
                have HST := Lib.hid (Hr.step HHR.out (by rw [← HLX.out]; exact hkl) (by rw [← HLX.out]; have := HLO.out.2.1; omega) (Nat.lt_of_lt_of_le HG0.out HBB0.out) HLA3.out.lt (HTT.out.onB HB3.out HG0.out))
                obtain ⟨ev, hev⟩ : ∃ ev, ev = ((LS0.run (X.take k)).hear (X[k]?.getD 0)).2 := ⟨_, rfl⟩
                obtain ⟨y, hy⟩ : ∃ y, y = X[k]?.getD 0 := ⟨_, rfl⟩
                rw [← hev, ← hy] at HST
                rw [← hy] at c0
                have HKL2 := Lib.hid hkl
                clear hcat hsx hcc hev hy hkl
                go_wp2_with fail
                refine HPC.out.mono ?_
                rintro y' w4 ⟨rfl, rfl⟩
                go_wp2_with fail
                refine HST.out.mono ?_
                rintro y' w4 ⟨v2, rfl, h3⟩
                have H3 := Lib.hid h3
                clear h3 c0
                go_wp2_with fail
                go_roundw
                case rel => exact ⟨k + 1, v2, HKL2.out, by rw [HAK.out, show ((A + k : Nat) : Int) + 1 = ((A + (k + 1) : Nat) : Int) by omega], H3.out⟩
                case measure => have := HKL2.out; have := HAK.out; simp [intOf]; omega
              · obtain rfl : k = L := by have := HK.out; omega
                have hX5 : X.take k = X := List.take_of_length_le (by rw [HLX.out]; exact Nat.le_refl _)
                have j5 : ((p : Int) != 5) = false := by
                  have := HPP.out
                  rw [hX5, HP5.out] at this
                  rw [this]; rfl
                have hla : LA wr B1 (LS0.run X) v' := by have h := HHR.out.la; rw [hX5] at h; exact h
                have HFM := Lib.hid (lframe_any B1 (LS0.run X) v' wr ⟨te, N, tq, M, d0, d1, d2, d3, d4, d5, d6, d7, HFR.out⟩ hla)
                rw [HVL.out, HFR.out] at HFM
                simp only [frameC, List.map, if_true] at HFM
                clear hla hX5 hkl
                go_wp2_with fail
                refine HPC.out.mono ?_
                rintro y' w4 ⟨rfl, rfl⟩
                go_wp2_with fail
                refine HFM.out.mono ?_
                rintro x w5 ⟨rfl, hb5⟩
                obtain ⟨W6, hW6⟩ : ∃ W6, W6 = w5.alloc (.cells #[.bool te, .int .u32 (N : Int), .bool tq, .int .i64 (M : Int), .int .u8 (d0 : Int), .int .u8 (d1 : Int), .int .u8 (d2 : Int), .int .u8 (d3 : Int), .int .u8 (d4 : Int), .int .u8 (d5 : Int), .int .u8 (d6 : Int), .int .u8 (d7 : Int)] 27) := ⟨_, rfl⟩
                have ha6 : Below wr.heap.size wr W6 := by rw [hW6]; exact hb5.alloc hb5.size _
                have HB6 := Lib.hid (below_trans' HBx.out ha6)
                have HBW6 := Lib.hid (HBWx.out.trans (ha6.mono HBWx.out.size))
                have HG6 := Lib.hid (show FrameAt W6 w5.heap.size te N tq (M : Int) [d0, d1, d2, d3, d4, d5, d6, d7] by rw [hW6]; exact FrameAt.new w5 27 te N tq (M : Int) [d0, d1, d2, d3, d4, d5, d6, d7] rfl)
                have hn6 : w5.heap.size < W6.heap.size := by rw [hW6]; simp
                clear hb5 ha6
                go_upto_region 18 with fail
                rw [← hW6]
                clear hW6
                obtain ⟨D, hD⟩ : ∃ D, D = w5.heap.size := ⟨_, rfl⟩
                rw [← hD] at HG6 hn6 ⊢
                clear hD
                have HSX := Lib.hid (show ∀ u, Below W6.heap.size W6 u → (Below W6.heap.size W6 u ∧ u.cell? ⟨D, 0, none⟩ = some (.bool te) ∧ u.cell? ⟨D, 1, none⟩ = some (.int .u32 (N : Int)) ∧ u.cell? ⟨D, 2, none⟩ = some (.bool tq) ∧ u.cell? ⟨D, 3, none⟩ = some (.int .i64 (M : Int)) ∧ u.cell? ⟨D, 4, none⟩ = some (.int .u8 (d0 : Int)) ∧ u.cell? ⟨D, 5, none⟩ = some (.int .u8 (d1 : Int)) ∧ u.cell? ⟨D, 6, none⟩ = some (.int .u8 (d2 : Int)) ∧ u.cell? ⟨D, 7, none⟩ = some (.int .u8 (d3 : Int)) ∧ u.cell? ⟨D, 8, none⟩ = some (.int .u8 (d4 : Int)) ∧ u.cell? ⟨D, 9, none⟩ = some (.int .u8 (d5 : Int)) ∧ u.cell? ⟨D, 10, none⟩ = some (.int .u8 (d6 : Int)) ∧ u.cell? ⟨D, 11, none⟩ = some (.int .u8 (d7 : Int)) ∧ u.cell? ⟨eb, eo + c * 12, none⟩ = some (.bool te) ∧ u.cell? ⟨eb, eo + c * 12 + 1, none⟩ = some (.int .u32 (tn : Int)) ∧ u.cell? ⟨eb, eo + c * 12 + 2, none⟩ = some (.bool tq) ∧ u.cell? ⟨eb, eo + c * 12 + 3, none⟩ = some (.int .i64 tl) ∧ u.cell? ⟨eb, eo + c * 12 + 4, none⟩ = some (.int .u8 (x0 : Int)) ∧ u.cell? ⟨eb, eo + c * 12 + 5, none⟩ = some (.int .u8 (x1 : Int)) ∧ u.cell? ⟨eb, eo + c * 12 + 6, none⟩ = some (.int .u8 (x2 : Int)) ∧ u.cell? ⟨eb, eo + c * 12 + 7, none⟩ = some (.int .u8 (x3 : Int)) ∧ u.cell? ⟨eb, eo + c * 12 + 8, none⟩ = some (.int .u8 (x4 : Int)) ∧ u.cell? ⟨eb, eo + c * 12 + 9, none⟩ = some (.int .u8 (x5 : Int)) ∧ u.cell? ⟨eb, eo + c * 12 + 10, none⟩ = some (.int .u8 (x6 : Int)) ∧ u.cell? ⟨eb, eo + c * 12 + 11, none⟩ = some (.int .u8 (x7 : Int))) from fun u hu => by
                  obtain ⟨f0, f1, f2, f3, f4, f5, f6, f7, f8, f9, f10, f11⟩ := (HG6.out.keep hu hn6).cells
                  have hbu : Below w.heap.size w u := below_trans' HB6.out hu
                  exact ⟨hu, f0, f1, f2, f3, f4, f5, f6, f7, f8, f9, f10, f11, (hbu.cell (p := ⟨eb, eo + c * 12 + 0, none⟩) HEB.out).trans ((HCE.out 0 (by decide)).trans rfl), (hbu.cell (p := ⟨eb, eo + c * 12 + 1, none⟩) HEB.out).trans ((HCE.out 1 (by decide)).trans rfl), (hbu.cell (p := ⟨eb, eo + c * 12 + 2, none⟩) HEB.out).trans ((HCE.out 2 (by decide)).trans rfl), (hbu.cell (p := ⟨eb, eo + c * 12 + 3, none⟩) HEB.out).trans ((HCE.out 3 (by decide)).trans rfl), (hbu.cell (p := ⟨eb, eo + c * 12 + 4, none⟩) HEB.out).trans ((HCE.out 4 (by decide)).trans rfl), (hbu.cell (p := ⟨eb, eo + c * 12 + 5, none⟩) HEB.out).trans ((HCE.out 5 (by decide)).trans rfl), (hbu.cell (p := ⟨eb, eo + c * 12 + 6, none⟩) HEB.out).trans ((HCE.out 6 (by decide)).trans rfl), (hbu.cell (p := ⟨eb, eo + c * 12 + 7, none⟩) HEB.out).trans ((HCE.out 7 (by decide)).trans rfl), (hbu.cell (p := ⟨eb, eo + c * 12 + 8, none⟩) HEB.out).trans ((HCE.out 8 (by decide)).trans rfl), (hbu.cell (p := ⟨eb, eo + c * 12 + 9, none⟩) HEB.out).trans ((HCE.out 9 (by decide)).trans rfl), (hbu.cell (p := ⟨eb, eo + c * 12 + 10, none⟩) HEB.out).trans ((HCE.out 10 (by decide)).trans rfl), (hbu.cell (p := ⟨eb, eo + c * 12 + 11, none⟩) HEB.out).trans ((HCE.out 11 (by decide)).trans rfl)⟩)
                have HLS := Lib.hid (show ∀ u, (Below W6.heap.size W6 u ∧ u.cell? ⟨D, 0, none⟩ = some (.bool te) ∧ u.cell? ⟨D, 1, none⟩ = some (.int .u32 (N : Int)) ∧ u.cell? ⟨D, 2, none⟩ = some (.bool tq) ∧ u.cell? ⟨D, 3, none⟩ = some (.int .i64 (M : Int)) ∧ u.cell? ⟨D, 4, none⟩ = some (.int .u8 (d0 : Int)) ∧ u.cell? ⟨D, 5, none⟩ = some (.int .u8 (d1 : Int)) ∧ u.cell? ⟨D, 6, none⟩ = some (.int .u8 (d2 : Int)) ∧ u.cell? ⟨D, 7, none⟩ = some (.int .u8 (d3 : Int)) ∧ u.cell? ⟨D, 8, none⟩ = some (.int .u8 (d4 : Int)) ∧ u.cell? ⟨D, 9, none⟩ = some (.int .u8 (d5 : Int)) ∧ u.cell? ⟨D, 10, none⟩ = some (.int .u8 (d6 : Int)) ∧ u.cell? ⟨D, 11, none⟩ = some (.int .u8 (d7 : Int)) ∧ u.cell? ⟨eb, eo + c * 12, none⟩ = some (.bool te) ∧ u.cell? ⟨eb, eo + c * 12 + 1, none⟩ = some (.int .u32 (tn : Int)) ∧ u.cell? ⟨eb, eo + c * 12 + 2, none⟩ = some (.bool tq) ∧ u.cell? ⟨eb, eo + c * 12 + 3, none⟩ = some (.int .i64 tl) ∧ u.cell? ⟨eb, eo + c * 12 + 4, none⟩ = some (.int .u8 (x0 : Int)) ∧ u.cell? ⟨eb, eo + c * 12 + 5, none⟩ = some (.int .u8 (x1 : Int)) ∧ u.cell? ⟨eb, eo + c * 12 + 6, none⟩ = some (.int .u8 (x2 : Int)) ∧ u.cell? ⟨eb, eo + c * 12 + 7, none⟩ = some (.int .u8 (x3 : Int)) ∧ u.cell? ⟨eb, eo + c * 12 + 8, none⟩ = some (.int .u8 (x4 : Int)) ∧ u.cell? ⟨eb, eo + c * 12 + 9, none⟩ = some (.int .u8 (x5 : Int)) ∧ u.cell? ⟨eb, eo + c * 12 + 10, none⟩ = some (.int .u8 (x6 : Int)) ∧ u.cell? ⟨eb, eo + c * 12 + 11, none⟩ = some (.int .u8 (x7 : Int))) → Calls Tryd.prog 46 #[.agg #[.bool te, .int .u32 (tn : Int), .bool tq, .int .i64 tl, .int .u8 (x0 : Int), .int .u8 (x1 : Int), .int .u8 (x2 : Int), .int .u8 (x3 : Int), .int .u8 (x4 : Int), .int .u8 (x5 : Int), .int .u8 (x6 : Int), .int .u8 (x7 : Int)]] u fun x w' => x = .returned (.agg #[.bool te, .int .u32 (N : Int), .bool tq, .int .i64 (M : Int), .int .u8 (d0 : Int), .int .u8 (d1 : Int), .int .u8 (d2 : Int), .int .u8 (d3 : Int), .int .u8 (d4 : Int), .int .u8 (d5 : Int), .int .u8 (d6 : Int), .int .u8 (d7 : Int)]) ∧ (Below W6.heap.size W6 w' ∧ w'.cell? ⟨D, 0, none⟩ = some (.bool te) ∧ w'.cell? ⟨D, 1, none⟩ = some (.int .u32 (N : Int)) ∧ w'.cell? ⟨D, 2, none⟩ = some (.bool tq) ∧ w'.cell? ⟨D, 3, none⟩ = some (.int .i64 (M : Int)) ∧ w'.cell? ⟨D, 4, none⟩ = some (.int .u8 (d0 : Int)) ∧ w'.cell? ⟨D, 5, none⟩ = some (.int .u8 (d1 : Int)) ∧ w'.cell? ⟨D, 6, none⟩ = some (.int .u8 (d2 : Int)) ∧ w'.cell? ⟨D, 7, none⟩ = some (.int .u8 (d3 : Int)) ∧ w'.cell? ⟨D, 8, none⟩ = some (.int .u8 (d4 : Int)) ∧ w'.cell? ⟨D, 9, none⟩ = some (.int .u8 (d5 : Int)) ∧ w'.cell? ⟨D, 10, none⟩ = some (.int .u8 (d6 : Int)) ∧ w'.cell? ⟨D, 11, none⟩ = some (.int .u8 (d7 : Int)) ∧ w'.cell? ⟨eb, eo + c * 12, none⟩ = some (.bool te) ∧ w'.cell? ⟨eb, eo + c * 12 + 1, none⟩ = some (.int .u32 (tn : Int)) ∧ w'.cell? ⟨eb, eo + c * 12 + 2, none⟩ = some (.bool tq) ∧ w'.cell? ⟨eb, eo + c * 12 + 3, none⟩ = some (.int .i64 tl) ∧ w'.cell? ⟨eb, eo + c * 12 + 4, none⟩ = some (.int .u8 (x0 : Int)) ∧ w'.cell? ⟨eb, eo + c * 12 + 5, none⟩ = some (.int .u8 (x1 : Int)) ∧ w'.cell? ⟨eb, eo + c * 12 + 6, none⟩ = some (.int .u8 (x2 : Int)) ∧ w'.cell? ⟨eb, eo + c * 12 + 7, none⟩ = some (.int .u8 (x3 : Int)) ∧ w'.cell? ⟨eb, eo + c * 12 + 8, none⟩ = some (.int .u8 (x4 : Int)) ∧ w'.cell? ⟨eb, eo + c * 12 + 9, none⟩ = some (.int .u8 (x5 : Int)) ∧ w'.cell? ⟨eb, eo + c * 12 + 10, none⟩ = some (.int .u8 (x6 : Int)) ∧ w'.cell? ⟨eb, eo + c * 12 + 11, none⟩ = some (.int .u8 (x7 : Int))) from fun u hu => (HLF.out u).mono fun _ _ h => ⟨h.1, HSX.out _ (below_trans' hu.1 h.2)⟩)
                have k0 := HSX.out _ (Below.refl W6.heap.size W6).drew
                subst HA1c
                go_region_held3 (fun u => (Below W6.heap.size W6 u ∧ u.cell? ⟨D, 0, none⟩ = some (.bool te) ∧ u.cell? ⟨D, 1, none⟩ = some (.int .u32 (N : Int)) ∧ u.cell? ⟨D, 2, none⟩ = some (.bool tq) ∧ u.cell? ⟨D, 3, none⟩ = some (.int .i64 (M : Int)) ∧ u.cell? ⟨D, 4, none⟩ = some (.int .u8 (d0 : Int)) ∧ u.cell? ⟨D, 5, none⟩ = some (.int .u8 (d1 : Int)) ∧ u.cell? ⟨D, 6, none⟩ = some (.int .u8 (d2 : Int)) ∧ u.cell? ⟨D, 7, none⟩ = some (.int .u8 (d3 : Int)) ∧ u.cell? ⟨D, 8, none⟩ = some (.int .u8 (d4 : Int)) ∧ u.cell? ⟨D, 9, none⟩ = some (.int .u8 (d5 : Int)) ∧ u.cell? ⟨D, 10, none⟩ = some (.int .u8 (d6 : Int)) ∧ u.cell? ⟨D, 11, none⟩ = some (.int .u8 (d7 : Int)) ∧ u.cell? ⟨eb, eo + c * 12, none⟩ = some (.bool te) ∧ u.cell? ⟨eb, eo + c * 12 + 1, none⟩ = some (.int .u32 (tn : Int)) ∧ u.cell? ⟨eb, eo + c * 12 + 2, none⟩ = some (.bool tq) ∧ u.cell? ⟨eb, eo + c * 12 + 3, none⟩ = some (.int .i64 tl) ∧ u.cell? ⟨eb, eo + c * 12 + 4, none⟩ = some (.int .u8 (x0 : Int)) ∧ u.cell? ⟨eb, eo + c * 12 + 5, none⟩ = some (.int .u8 (x1 : Int)) ∧ u.cell? ⟨eb, eo + c * 12 + 6, none⟩ = some (.int .u8 (x2 : Int)) ∧ u.cell? ⟨eb, eo + c * 12 + 7, none⟩ = some (.int .u8 (x3 : Int)) ∧ u.cell? ⟨eb, eo + c * 12 + 8, none⟩ = some (.int .u8 (x4 : Int)) ∧ u.cell? ⟨eb, eo + c * 12 + 9, none⟩ = some (.int .u8 (x5 : Int)) ∧ u.cell? ⟨eb, eo + c * 12 + 10, none⟩ = some (.int .u8 (x6 : Int)) ∧ u.cell? ⟨eb, eo + c * 12 + 11, none⟩ = some (.int .u8 (x7 : Int)))) (assumption) (first | (go_at_call 46; refine (HLS.out _ (by assumption)).mono ?_; rintro x w7 ⟨rfl, hx7⟩))
                have HB7 := Lib.hid (HBW6.out.trans (hx7.1.mono HBW6.out.size))
                clear hx7 k0 hn6
                go_wp2_with fail
                go_roundw
                case rel => exact ⟨c + 1, HCK.out, by simp, by rw [HAK.out, HTJ.out], HB7.out⟩
                case measure => have := HCK.out; simp [intOf]; omega
          · obtain rfl : c = j := by have := HC.out; omega
            obtain rfl : A = TL := by rw [HA.out, HTL.out]
            clear hcj
            have HEN := Lib.hid (fun u (hu : Below w.heap.size w u) => encode_yes false 0 (by decide) false 0 [0, 0, 0, 0, 0, 0, 0, 0] rfl (by decide) zero_right0 u (Nat.lt_of_lt_of_le HG0.out hu.size) (HTT.out.onB hu HG0.out))
            obtain ⟨Z, hZ⟩ : ∃ Z, Z = encB false 0 false 0 [0, 0, 0, 0, 0, 0, 0, 0] := ⟨_, rfl⟩
            have hzl := zero_long
            rw [← hZ] at HEN hzl
            obtain ⟨ZL, hZL⟩ : ∃ ZL, ZL = Z.length := ⟨_, rfl⟩
            rw [← hZL] at hzl
            have i9 : (44 : Int) < (ZL : Int) := by omega
            have HZL := Lib.hid hZL
            simp only [frameV, frameC, List.map] at HEN
            clear hZ hZL hzl
            go_wp2_with fail
            refine (lnew_any _).mono ?_
            rintro x w3 ⟨rfl, hla, hw3⟩
            have HB3 := Lib.hid (show Below w.heap.size w w3 by rw [hw3]; exact HBR.out.alloc HBR.out.size _)
            have HPC := Lib.hid (lplace_any _ _ _ _ hla)
            clear hla hw3
            go_wp2_with fail
            refine HPC.out.mono ?_
            rintro y' w4 ⟨rfl, rfl⟩
            have HEZ := Lib.hid (HEN.out _ HB3.out)
            go_wp2_with fail
            refine HEZ.out.mono ?_
            rintro x w5 ⟨v, rfl, ho, hb⟩
            obtain ⟨va, vc', rfl⟩ := ho.shape
            rw [← HZL.out]
            have HB5 := Lib.hid (below_trans' HB3.out hb)
            clear ho hb
            go_wp2_with fail
            go_ret
            exact ⟨rfl, HB5.out⟩
      · go_wp2_with fail
        go_loopw [6, 7] (fun at' i wr => ∃ c : Nat, c ≤ j ∧ i = .int .i64 c ∧ at' = .int .i64 (((catW q c).length : Nat) : Int) ∧ Below w2.heap.size w2 wr) (fun _ i _ => j - (intOf i).toNat)
        case atStart => exact ⟨0, Nat.zero_le _, rfl, rfl, Below.refl _ _⟩
        case round =>
          obtain ⟨c, hc, rfl, rfl, hbw⟩ := hrel
          have HBW := Lib.hid hbw; have HC := Lib.hid hc
          have HBR := Lib.hid (show Below w.heap.size w wr from HBE.out.trans (hbw.mono HBE.out.size))
          clear hbw hc
          obtain ⟨A, hA⟩ : ∃ A, A = (catW q c).length := ⟨_, rfl⟩
          have HA := Lib.hid hA
          rw [← hA]
          clear hA
          by_cases hcj : c < j
          · have HCK := Lib.hid hcj
            have hjl : c < len := ((HKD.out c).1 hcj).1
            have hj6 : c < 6 := ((HKD.out c).1 hcj).2
            have HA1c := HA1.out c hjl
            have HEB := Lib.hid (HEB0.out c hjl)
            obtain ⟨⟨hn, hx8, hxb⟩, hcell⟩ := HQ.out c hjl
            obtain ⟨T, hT0⟩ : ∃ T, T = q c := ⟨_, rfl⟩
            rw [← hT0] at hn hx8 hxb hcell
            have HTQ := Lib.hid hT0
            obtain ⟨te, tn, tq, tl, tx⟩ := T
            simp only at hn hx8 hxb hcell
            obtain ⟨x0, x1, x2, x3, x4, x5, x6, x7, rfl⟩ := eight hx8
            have hLF := fun u => lawFrame_any te tn hn tq tl [x0, x1, x2, x3, x4, x5, x6, x7] rfl u
            obtain ⟨D, hD⟩ : ∃ D, D = FT.d (te, tn, tq, tl, [x0, x1, x2, x3, x4, x5, x6, x7]) := ⟨_, rfl⟩
            have hD8 : D.length = 8 := by rw [hD]; exact FT.d8 _
            rw [show trimD [x0, x1, x2, x3, x4, x5, x6, x7] tq (cutL tl) 8 = D from hD.symm] at hLF
            have hrt := FT.right (te, tn, tq, tl, [x0, x1, x2, x3, x4, x5, x6, x7])
            rw [← hD] at hrt
            obtain ⟨N, hN⟩ : ∃ N, N = FT.n (te, tn, tq, tl, [x0, x1, x2, x3, x4, x5, x6, x7]) := ⟨_, rfl⟩
            obtain ⟨M, hM⟩ : ∃ M, M = FT.m (te, tn, tq, tl, [x0, x1, x2, x3, x4, x5, x6, x7]) := ⟨_, rfl⟩
            rw [show cutN te tn = N from hN.symm, show cutL tl = M from hM.symm] at hLF
            rw [← hN, ← hM] at hrt
            have hXd : FT.wire (te, tn, tq, tl, [x0, x1, x2, x3, x4, x5, x6, x7]) = encB te N tq M D := by unfold FT.wire; rw [← hN, ← hM, ← hD]
            have hN32 : N < 4294967296 := by rw [hN]; exact FT.n_lt _
            have hDb : ∀ y ∈ D, y < 256 := by rw [hD]; exact trimD_lt hxb _ _ _
            obtain ⟨d0, d1, d2, d3, d4, d5, d6, d7, rfl⟩ := eight hD8
            simp only [frameV, frameC, List.map] at hLF
            have HLF := Lib.hid hLF; have HRT := Lib.hid hrt; have HXD := Lib.hid hXd; have HDB := Lib.hid hDb; have HN32 := Lib.hid hN32
            have HCE := Lib.hid hcell
            obtain ⟨X, hX⟩ : ∃ X, X = encB te N tq M [d0, d1, d2, d3, d4, d5, d6, d7] := ⟨_, rfl⟩
            have HXX := Lib.hid (show FT.wire (q c) = X by rw [← HTQ.out, HXD.out, hX])
            have hlo := enc_long HRT.out
            have hpl := fun k => frame_place HRT.out rfl HDB.out 1 (by decide) k
            have hrunE := frame_run HRT.out rfl HDB.out 1 (by decide)
            rw [slotB_enc, ← hX] at hpl hrunE
            rw [← hX] at hlo
            obtain ⟨_, s1, _, _, _, _, hp5, hvl, hfr, hhh, _⟩ := hrunE
            obtain ⟨L, hL⟩ : ∃ L, L = X.length := ⟨_, rfl⟩
            rw [← hL] at hlo hpl
            have HPL := Lib.hid hpl; have HP5 := Lib.hid hp5; have HVL := Lib.hid hvl; have HFR := Lib.hid hfr; have HLO := Lib.hid hlo; have HLX := Lib.hid hL
            have HCAT := Lib.hid (fun k (hk : k < L) => by
              have h := catW_at q c j k HCK.out (by rw [HXX.out, ← HLX.out]; exact hk)
              rw [← HA.out, HXX.out] at h
              exact h)
            have HTJ := Lib.hid (show A + L = (catW q (c + 1)).length by rw [catW, List.length_append, HXX.out, ← HA.out, ← HLX.out])
            have HTLJ := Lib.hid (show TL ≤ 960 from by have := HCL.out; have := HTL.out; omega)
            have i1 : (c : Int) < (len : Int) := by omega
            have i2 : (c : Int) < 6 := by omega
            have i3 : (0 : Int) ≤ (c : Int) := by omega
            have hw : IntKind.i64.wrap ((c : Int) + 1) = (c : Int) + 1 := by rw [IntKind.wrap_i64]; omega
            have heq : ∀ u : World, Sem.run Tryd.prog (Op.equalIn 9999 25 (.agg #[.int .u8 (d0 : Int), .int .u8 (d1 : Int), .int .u8 (d2 : Int), .int .u8 (d3 : Int), .int .u8 (d4 : Int), .int .u8 (d5 : Int), .int .u8 (d6 : Int), .int .u8 (d7 : Int)]) (.agg #[.int .u8 (d0 : Int), .int .u8 (d1 : Int), .int .u8 (d2 : Int), .int .u8 (d3 : Int), .int .u8 (d4 : Int), .int .u8 (d5 : Int), .int .u8 (d6 : Int), .int .u8 (d7 : Int)])) u = .ok true u := fun u => frame_same 9997 d0 d1 d2 d3 d4 d5 d6 d7 u
            clear hn hx8 hxb hcell hLF hrt hXd hDb hN32 hN hM hD hT0 hjl hj6 hcj hD8 hX hlo hpl hp5 hvl hfr hhh hL
            go_wp2_with fail
            refine (lnew_any _).mono ?_
            rintro x w3 ⟨rfl, hla, hw3⟩
            obtain ⟨B1, hB1⟩ : ∃ B1, B1 = wr.heap.size := ⟨_, rfl⟩
            rw [← hB1] at hla ⊢
            have HBW3 := Lib.hid (show Below w2.heap.size w2 w3 by rw [hw3]; exact HBW.out.alloc HBW.out.size _)
            have HB3 := Lib.hid (show Below w.heap.size w w3 by rw [hw3]; exact HBR.out.alloc HBR.out.size _)
            have HLA3 := Lib.hid hla
            have HBB := Lib.hid (show w2.heap.size ≤ B1 by rw [hB1]; exact HBW.out.size)
            have HBB0 := Lib.hid (show w.heap.size ≤ B1 by rw [hB1]; exact HBR.out.size)
            clear hla hw3 hB1
            go_wp2_with fail
            go_loopw [6] (fun at' wx => ∃ (k : Nat) (v' : Value), k ≤ L ∧ at' = .int .i64 ((A + k : Nat) : Int) ∧ Hr w3 B1 X k wx v') (fun at' _ => A + L - (intOf at').toNat)
            case atStart => exact ⟨0, _, Nat.zero_le _, rfl, Hr.start HLA3.out⟩
            case round =>
              obtain ⟨k, v', hk, rfl, hhr⟩ := hrel
              have HHR := Lib.hid hhr; have HK := Lib.hid hk
              have hge := hhr.ge HLA3.out.lt
              have HBWx := Lib.hid (HBW3.out.trans (hge.mono HBB.out))
              have HBx := Lib.hid (HB3.out.trans (hge.mono HBB0.out))
              have HOX := Lib.hid (HOV.out.on HBWx.out)
              have HPC := Lib.hid (lplace_any B1 (LS0.run (X.take k)) v' wr hhr.la)
              obtain ⟨p, hp⟩ : ∃ p, p = (LS0.run (X.take k)).p := ⟨_, rfl⟩
              rw [← hp] at HPC
              have HPP := Lib.hid hp
              obtain ⟨ak, hak⟩ : ∃ ak, ak = A + k := ⟨_, rfl⟩
              rw [← hak]
              have HAK := Lib.hid hak
              clear hhr hk hge hp hak
              by_cases hkl : k < L
              · have j5 : ((p : Int) != 5) = true := by
                  have := HPL.out k hkl
                  rw [← HPP.out] at this
                  simp; omega
                have hcat := HCAT.out k hkl
                rw [← HAK.out, ← HTL.out] at hcat
                have i5 : (ak : Int) < (TL : Int) := by have := hcat.1; omega
                have i6 : (0 : Int) ≤ (ak : Int) := by omega
                have hwa : IntKind.i64.wrap ((ak : Int) + 1) = ((ak + 1 : Nat) : Int) := by rw [IntKind.wrap_i64]; have := hcat.1; have := HTLJ.out; omega
                have hsx := HOX.out.str
                obtain ⟨bk, off, rfl, hbk, hcc⟩ := hsx.at hcat.1
                have c0 := hcc _ (Below.refl _ _)
                rw [hcat.2] at c0
                have HST := Lib.hid (Hr.step HHR.out (by rw [← HLX.out]; exact hkl) (by rw [← HLX.out]; have := HLO.out.2.1; omega) (Nat.lt_of_lt_of_le HG0.out HBB0.out) HLA3.out.lt (HTT.out.onB HB3.out HG0.out))
                obtain ⟨ev, hev⟩ : ∃ ev, ev = ((LS0.run (X.take k)).hear (X[k]?.getD 0)).2 := ⟨_, rfl⟩
                obtain ⟨y, hy⟩ : ∃ y, y = X[k]?.getD 0 := ⟨_, rfl⟩
                rw [← hev, ← hy] at HST
                rw [← hy] at c0
                have HKL2 := Lib.hid hkl
                clear hcat hsx hcc hev hy hkl
                go_wp2_with fail
                refine HPC.out.mono ?_
                rintro y' w4 ⟨rfl, rfl⟩
                go_wp2_with fail
                refine HST.out.mono ?_
                rintro y' w4 ⟨v2, rfl, h3⟩
                have H3 := Lib.hid h3
                clear h3 c0
                go_wp2_with fail
                go_roundw
                case rel => exact ⟨k + 1, v2, HKL2.out, by rw [HAK.out, show ((A + k : Nat) : Int) + 1 = ((A + (k + 1) : Nat) : Int) by omega], H3.out⟩
                case measure => have := HKL2.out; have := HAK.out; simp [intOf]; omega
              · obtain rfl : k = L := by have := HK.out; omega
                have hX5 : X.take k = X := List.take_of_length_le (by rw [HLX.out]; exact Nat.le_refl _)
                have j5 : ((p : Int) != 5) = false := by
                  have := HPP.out
                  rw [hX5, HP5.out] at this
                  rw [this]; rfl
                have hla : LA wr B1 (LS0.run X) v' := by have h := HHR.out.la; rw [hX5] at h; exact h
                have HFM := Lib.hid (lframe_any B1 (LS0.run X) v' wr ⟨te, N, tq, M, d0, d1, d2, d3, d4, d5, d6, d7, HFR.out⟩ hla)
                rw [HVL.out, HFR.out] at HFM
                simp only [frameC, List.map, if_true] at HFM
                clear hla hX5 hkl
                go_wp2_with fail
                refine HPC.out.mono ?_
                rintro y' w4 ⟨rfl, rfl⟩
                go_wp2_with fail
                refine HFM.out.mono ?_
                rintro x w5 ⟨rfl, hb5⟩
                obtain ⟨W6, hW6⟩ : ∃ W6, W6 = w5.alloc (.cells #[.bool te, .int .u32 (N : Int), .bool tq, .int .i64 (M : Int), .int .u8 (d0 : Int), .int .u8 (d1 : Int), .int .u8 (d2 : Int), .int .u8 (d3 : Int), .int .u8 (d4 : Int), .int .u8 (d5 : Int), .int .u8 (d6 : Int), .int .u8 (d7 : Int)] 27) := ⟨_, rfl⟩
                have ha6 : Below wr.heap.size wr W6 := by rw [hW6]; exact hb5.alloc hb5.size _
                have HB6 := Lib.hid (below_trans' HBx.out ha6)
                have HBW6 := Lib.hid (HBWx.out.trans (ha6.mono HBWx.out.size))
                have HG6 := Lib.hid (show FrameAt W6 w5.heap.size te N tq (M : Int) [d0, d1, d2, d3, d4, d5, d6, d7] by rw [hW6]; exact FrameAt.new w5 27 te N tq (M : Int) [d0, d1, d2, d3, d4, d5, d6, d7] rfl)
                have hn6 : w5.heap.size < W6.heap.size := by rw [hW6]; simp
                clear hb5 ha6
                go_upto_region 18 with fail
                rw [← hW6]
                clear hW6
                obtain ⟨D, hD⟩ : ∃ D, D = w5.heap.size := ⟨_, rfl⟩
                rw [← hD] at HG6 hn6 ⊢
                clear hD
                have HSX := Lib.hid (show ∀ u, Below W6.heap.size W6 u → (Below W6.heap.size W6 u ∧ u.cell? ⟨D, 0, none⟩ = some (.bool te) ∧ u.cell? ⟨D, 1, none⟩ = some (.int .u32 (N : Int)) ∧ u.cell? ⟨D, 2, none⟩ = some (.bool tq) ∧ u.cell? ⟨D, 3, none⟩ = some (.int .i64 (M : Int)) ∧ u.cell? ⟨D, 4, none⟩ = some (.int .u8 (d0 : Int)) ∧ u.cell? ⟨D, 5, none⟩ = some (.int .u8 (d1 : Int)) ∧ u.cell? ⟨D, 6, none⟩ = some (.int .u8 (d2 : Int)) ∧ u.cell? ⟨D, 7, none⟩ = some (.int .u8 (d3 : Int)) ∧ u.cell? ⟨D, 8, none⟩ = some (.int .u8 (d4 : Int)) ∧ u.cell? ⟨D, 9, none⟩ = some (.int .u8 (d5 : Int)) ∧ u.cell? ⟨D, 10, none⟩ = some (.int .u8 (d6 : Int)) ∧ u.cell? ⟨D, 11, none⟩ = some (.int .u8 (d7 : Int)) ∧ u.cell? ⟨eb, eo + c * 12, none⟩ = some (.bool te) ∧ u.cell? ⟨eb, eo + c * 12 + 1, none⟩ = some (.int .u32 (tn : Int)) ∧ u.cell? ⟨eb, eo + c * 12 + 2, none⟩ = some (.bool tq) ∧ u.cell? ⟨eb, eo + c * 12 + 3, none⟩ = some (.int .i64 tl) ∧ u.cell? ⟨eb, eo + c * 12 + 4, none⟩ = some (.int .u8 (x0 : Int)) ∧ u.cell? ⟨eb, eo + c * 12 + 5, none⟩ = some (.int .u8 (x1 : Int)) ∧ u.cell? ⟨eb, eo + c * 12 + 6, none⟩ = some (.int .u8 (x2 : Int)) ∧ u.cell? ⟨eb, eo + c * 12 + 7, none⟩ = some (.int .u8 (x3 : Int)) ∧ u.cell? ⟨eb, eo + c * 12 + 8, none⟩ = some (.int .u8 (x4 : Int)) ∧ u.cell? ⟨eb, eo + c * 12 + 9, none⟩ = some (.int .u8 (x5 : Int)) ∧ u.cell? ⟨eb, eo + c * 12 + 10, none⟩ = some (.int .u8 (x6 : Int)) ∧ u.cell? ⟨eb, eo + c * 12 + 11, none⟩ = some (.int .u8 (x7 : Int))) from fun u hu => by
                  obtain ⟨f0, f1, f2, f3, f4, f5, f6, f7, f8, f9, f10, f11⟩ := (HG6.out.keep hu hn6).cells
                  have hbu : Below w.heap.size w u := below_trans' HB6.out hu
                  exact ⟨hu, f0, f1, f2, f3, f4, f5, f6, f7, f8, f9, f10, f11, (hbu.cell (p := ⟨eb, eo + c * 12 + 0, none⟩) HEB.out).trans ((HCE.out 0 (by decide)).trans rfl), (hbu.cell (p := ⟨eb, eo + c * 12 + 1, none⟩) HEB.out).trans ((HCE.out 1 (by decide)).trans rfl), (hbu.cell (p := ⟨eb, eo + c * 12 + 2, none⟩) HEB.out).trans ((HCE.out 2 (by decide)).trans rfl), (hbu.cell (p := ⟨eb, eo + c * 12 + 3, none⟩) HEB.out).trans ((HCE.out 3 (by decide)).trans rfl), (hbu.cell (p := ⟨eb, eo + c * 12 + 4, none⟩) HEB.out).trans ((HCE.out 4 (by decide)).trans rfl), (hbu.cell (p := ⟨eb, eo + c * 12 + 5, none⟩) HEB.out).trans ((HCE.out 5 (by decide)).trans rfl), (hbu.cell (p := ⟨eb, eo + c * 12 + 6, none⟩) HEB.out).trans ((HCE.out 6 (by decide)).trans rfl), (hbu.cell (p := ⟨eb, eo + c * 12 + 7, none⟩) HEB.out).trans ((HCE.out 7 (by decide)).trans rfl), (hbu.cell (p := ⟨eb, eo + c * 12 + 8, none⟩) HEB.out).trans ((HCE.out 8 (by decide)).trans rfl), (hbu.cell (p := ⟨eb, eo + c * 12 + 9, none⟩) HEB.out).trans ((HCE.out 9 (by decide)).trans rfl), (hbu.cell (p := ⟨eb, eo + c * 12 + 10, none⟩) HEB.out).trans ((HCE.out 10 (by decide)).trans rfl), (hbu.cell (p := ⟨eb, eo + c * 12 + 11, none⟩) HEB.out).trans ((HCE.out 11 (by decide)).trans rfl)⟩)
                have HLS := Lib.hid (show ∀ u, (Below W6.heap.size W6 u ∧ u.cell? ⟨D, 0, none⟩ = some (.bool te) ∧ u.cell? ⟨D, 1, none⟩ = some (.int .u32 (N : Int)) ∧ u.cell? ⟨D, 2, none⟩ = some (.bool tq) ∧ u.cell? ⟨D, 3, none⟩ = some (.int .i64 (M : Int)) ∧ u.cell? ⟨D, 4, none⟩ = some (.int .u8 (d0 : Int)) ∧ u.cell? ⟨D, 5, none⟩ = some (.int .u8 (d1 : Int)) ∧ u.cell? ⟨D, 6, none⟩ = some (.int .u8 (d2 : Int)) ∧ u.cell? ⟨D, 7, none⟩ = some (.int .u8 (d3 : Int)) ∧ u.cell? ⟨D, 8, none⟩ = some (.int .u8 (d4 : Int)) ∧ u.cell? ⟨D, 9, none⟩ = some (.int .u8 (d5 : Int)) ∧ u.cell? ⟨D, 10, none⟩ = some (.int .u8 (d6 : Int)) ∧ u.cell? ⟨D, 11, none⟩ = some (.int .u8 (d7 : Int)) ∧ u.cell? ⟨eb, eo + c * 12, none⟩ = some (.bool te) ∧ u.cell? ⟨eb, eo + c * 12 + 1, none⟩ = some (.int .u32 (tn : Int)) ∧ u.cell? ⟨eb, eo + c * 12 + 2, none⟩ = some (.bool tq) ∧ u.cell? ⟨eb, eo + c * 12 + 3, none⟩ = some (.int .i64 tl) ∧ u.cell? ⟨eb, eo + c * 12 + 4, none⟩ = some (.int .u8 (x0 : Int)) ∧ u.cell? ⟨eb, eo + c * 12 + 5, none⟩ = some (.int .u8 (x1 : Int)) ∧ u.cell? ⟨eb, eo + c * 12 + 6, none⟩ = some (.int .u8 (x2 : Int)) ∧ u.cell? ⟨eb, eo + c * 12 + 7, none⟩ = some (.int .u8 (x3 : Int)) ∧ u.cell? ⟨eb, eo + c * 12 + 8, none⟩ = some (.int .u8 (x4 : Int)) ∧ u.cell? ⟨eb, eo + c * 12 + 9, none⟩ = some (.int .u8 (x5 : Int)) ∧ u.cell? ⟨eb, eo + c * 12 + 10, none⟩ = some (.int .u8 (x6 : Int)) ∧ u.cell? ⟨eb, eo + c * 12 + 11, none⟩ = some (.int .u8 (x7 : Int))) → Calls Tryd.prog 46 #[.agg #[.bool te, .int .u32 (tn : Int), .bool tq, .int .i64 tl, .int .u8 (x0 : Int), .int .u8 (x1 : Int), .int .u8 (x2 : Int), .int .u8 (x3 : Int), .int .u8 (x4 : Int), .int .u8 (x5 : Int), .int .u8 (x6 : Int), .int .u8 (x7 : Int)]] u fun x w' => x = .returned (.agg #[.bool te, .int .u32 (N : Int), .bool tq, .int .i64 (M : Int), .int .u8 (d0 : Int), .int .u8 (d1 : Int), .int .u8 (d2 : Int), .int .u8 (d3 : Int), .int .u8 (d4 : Int), .int .u8 (d5 : Int), .int .u8 (d6 : Int), .int .u8 (d7 : Int)]) ∧ (Below W6.heap.size W6 w' ∧ w'.cell? ⟨D, 0, none⟩ = some (.bool te) ∧ w'.cell? ⟨D, 1, none⟩ = some (.int .u32 (N : Int)) ∧ w'.cell? ⟨D, 2, none⟩ = some (.bool tq) ∧ w'.cell? ⟨D, 3, none⟩ = some (.int .i64 (M : Int)) ∧ w'.cell? ⟨D, 4, none⟩ = some (.int .u8 (d0 : Int)) ∧ w'.cell? ⟨D, 5, none⟩ = some (.int .u8 (d1 : Int)) ∧ w'.cell? ⟨D, 6, none⟩ = some (.int .u8 (d2 : Int)) ∧ w'.cell? ⟨D, 7, none⟩ = some (.int .u8 (d3 : Int)) ∧ w'.cell? ⟨D, 8, none⟩ = some (.int .u8 (d4 : Int)) ∧ w'.cell? ⟨D, 9, none⟩ = some (.int .u8 (d5 : Int)) ∧ w'.cell? ⟨D, 10, none⟩ = some (.int .u8 (d6 : Int)) ∧ w'.cell? ⟨D, 11, none⟩ = some (.int .u8 (d7 : Int)) ∧ w'.cell? ⟨eb, eo + c * 12, none⟩ = some (.bool te) ∧ w'.cell? ⟨eb, eo + c * 12 + 1, none⟩ = some (.int .u32 (tn : Int)) ∧ w'.cell? ⟨eb, eo + c * 12 + 2, none⟩ = some (.bool tq) ∧ w'.cell? ⟨eb, eo + c * 12 + 3, none⟩ = some (.int .i64 tl) ∧ w'.cell? ⟨eb, eo + c * 12 + 4, none⟩ = some (.int .u8 (x0 : Int)) ∧ w'.cell? ⟨eb, eo + c * 12 + 5, none⟩ = some (.int .u8 (x1 : Int)) ∧ w'.cell? ⟨eb, eo + c * 12 + 6, none⟩ = some (.int .u8 (x2 : Int)) ∧ w'.cell? ⟨eb, eo + c * 12 + 7, none⟩ = some (.int .u8 (x3 : Int)) ∧ w'.cell? ⟨eb, eo + c * 12 + 8, none⟩ = some (.int .u8 (x4 : Int)) ∧ w'.cell? ⟨eb, eo + c * 12 + 9, none⟩ = some (.int .u8 (x5 : Int)) ∧ w'.cell? ⟨eb, eo + c * 12 + 10, none⟩ = some (.int .u8 (x6 : Int)) ∧ w'.cell? ⟨eb, eo + c * 12 + 11, none⟩ = some (.int .u8 (x7 : Int))) from fun u hu => (HLF.out u).mono fun _ _ h => ⟨h.1, HSX.out _ (below_trans' hu.1 h.2)⟩)
                have k0 := HSX.out _ (Below.refl W6.heap.size W6).drew
                subst HA1c
                go_region_held3 (fun u => (Below W6.heap.size W6 u ∧ u.cell? ⟨D, 0, none⟩ = some (.bool te) ∧ u.cell? ⟨D, 1, none⟩ = some (.int .u32 (N : Int)) ∧ u.cell? ⟨D, 2, none⟩ = some (.bool tq) ∧ u.cell? ⟨D, 3, none⟩ = some (.int .i64 (M : Int)) ∧ u.cell? ⟨D, 4, none⟩ = some (.int .u8 (d0 : Int)) ∧ u.cell? ⟨D, 5, none⟩ = some (.int .u8 (d1 : Int)) ∧ u.cell? ⟨D, 6, none⟩ = some (.int .u8 (d2 : Int)) ∧ u.cell? ⟨D, 7, none⟩ = some (.int .u8 (d3 : Int)) ∧ u.cell? ⟨D, 8, none⟩ = some (.int .u8 (d4 : Int)) ∧ u.cell? ⟨D, 9, none⟩ = some (.int .u8 (d5 : Int)) ∧ u.cell? ⟨D, 10, none⟩ = some (.int .u8 (d6 : Int)) ∧ u.cell? ⟨D, 11, none⟩ = some (.int .u8 (d7 : Int)) ∧ u.cell? ⟨eb, eo + c * 12, none⟩ = some (.bool te) ∧ u.cell? ⟨eb, eo + c * 12 + 1, none⟩ = some (.int .u32 (tn : Int)) ∧ u.cell? ⟨eb, eo + c * 12 + 2, none⟩ = some (.bool tq) ∧ u.cell? ⟨eb, eo + c * 12 + 3, none⟩ = some (.int .i64 tl) ∧ u.cell? ⟨eb, eo + c * 12 + 4, none⟩ = some (.int .u8 (x0 : Int)) ∧ u.cell? ⟨eb, eo + c * 12 + 5, none⟩ = some (.int .u8 (x1 : Int)) ∧ u.cell? ⟨eb, eo + c * 12 + 6, none⟩ = some (.int .u8 (x2 : Int)) ∧ u.cell? ⟨eb, eo + c * 12 + 7, none⟩ = some (.int .u8 (x3 : Int)) ∧ u.cell? ⟨eb, eo + c * 12 + 8, none⟩ = some (.int .u8 (x4 : Int)) ∧ u.cell? ⟨eb, eo + c * 12 + 9, none⟩ = some (.int .u8 (x5 : Int)) ∧ u.cell? ⟨eb, eo + c * 12 + 10, none⟩ = some (.int .u8 (x6 : Int)) ∧ u.cell? ⟨eb, eo + c * 12 + 11, none⟩ = some (.int .u8 (x7 : Int)))) (assumption) (first | (go_at_call 46; refine (HLS.out _ (by assumption)).mono ?_; rintro x w7 ⟨rfl, hx7⟩))
                have HB7 := Lib.hid (HBW6.out.trans (hx7.1.mono HBW6.out.size))
                clear hx7 k0 hn6
                go_wp2_with fail
                go_roundw
                case rel => exact ⟨c + 1, HCK.out, by simp, by rw [HAK.out, HTJ.out], HB7.out⟩
                case measure => have := HCK.out; simp [intOf]; omega
          · obtain rfl : c = j := by have := HC.out; omega
            obtain rfl : A = TL := by rw [HA.out, HTL.out]
            clear hcj
            have HEN := Lib.hid (fun u (hu : Below w.heap.size w u) => encode_yes false 0 (by decide) false 0 [0, 0, 0, 0, 0, 0, 0, 0] rfl (by decide) zero_right0 u (Nat.lt_of_lt_of_le HG0.out hu.size) (HTT.out.onB hu HG0.out))
            obtain ⟨Z, hZ⟩ : ∃ Z, Z = encB false 0 false 0 [0, 0, 0, 0, 0, 0, 0, 0] := ⟨_, rfl⟩
            have hzl := zero_long
            rw [← hZ] at HEN hzl
            obtain ⟨ZL, hZL⟩ : ∃ ZL, ZL = Z.length := ⟨_, rfl⟩
            rw [← hZL] at hzl
            have i9 : (44 : Int) < (ZL : Int) := by omega
            have HZL := Lib.hid hZL
            simp only [frameV, frameC, List.map] at HEN
            clear hZ hZL hzl
            go_wp2_with fail
            refine (lnew_any _).mono ?_
            rintro x w3 ⟨rfl, hla, hw3⟩
            have HB3 := Lib.hid (show Below w.heap.size w w3 by rw [hw3]; exact HBR.out.alloc HBR.out.size _)
            have HPC := Lib.hid (lplace_any _ _ _ _ hla)
            clear hla hw3
            go_wp2_with fail
            refine HPC.out.mono ?_
            rintro y' w4 ⟨rfl, rfl⟩
            have HEZ := Lib.hid (HEN.out _ HB3.out)
            go_wp2_with fail
            refine HEZ.out.mono ?_
            rintro x w5 ⟨v, rfl, ho, hb⟩
            obtain ⟨va, vc', rfl⟩ := ho.shape
            rw [← HZL.out]
            have HB5 := Lib.hid (below_trans' HB3.out hb)
            clear ho hb
            go_wp2_with fail
            go_ret
            exact ⟨rfl, HB5.out⟩
theorem door_met (os : Os) (args : Array Value) : laidMetH Tryd.prog laidD ((World.doorLaid Tryd.prog 400 os).forCall (fun _ _ => 0) ⟨#[], args, []⟩).memory :=
  laidMetH_of_parts3 (fuel := 8) (laidMet_of_run' 8 (by kernel_rfl) (by kernel_rfl)) (by kernel_rfl) (by kernel_rfl)
set_option maxRecDepth 100000 in
theorem lifted (os : Os) (started : os.Started) (H : Type) (enc : TypeId × Value → H) :
    ReturnsInHanded {} Tryd.checked os 12 .any (fun w args => (Rows.topHeardSpec.pre enc Tryd.prog Tryd.f12 [] false w args ∧ laidMetH Tryd.prog laidD w) ∧ sizedMet enc Tryd.prog Tryd.f12 (OpenSpec.ofChange Rows.topHeardSpec) false w args)
      (Rows.topHeardSpec.post enc Tryd.prog Tryd.f12 false true false false) := by
  refine returnsInHanded_of_change_and (C := Tryd.checked) (X := fun w _ => laidMetH Tryd.prog laidD w) (fun _ _ _ hh h => h.of_heap hh) own started (by kernel_rfl) Tryd.func12
    (ChangeSpec.witness_shaped (enc := enc) (C := Tryd.checked) (os := os) (X := fun w _ => laidMetH Tryd.prog laidD w) false (World.doorLaid Tryd.prog 400 os) #[.slice none 0 0] 8 rfl (World.shaped_of_RefB (by kernel_rfl) (by kernel_rfl)) (by kernel_rfl) (by kernel_rfl) (by kernel_rfl) (door_met os _)) ?_
  intro W base args ds gs before hval0 hW _ _ hL _
  have hval : ∀ (j : Nat) t v, Tryd.f12.params[j]? = some t → args[j]? = some v → Value.okWide Tryd.prog W .any base t v := hval0
  have hW' := hW
  obtain ⟨p, q, hA0, hV, rfl, hfz, hnd⟩ := hW
  have hA : DataW.TrodAll enc Tryd.prog W 0 (fun _ => true) true Tryd.f12.params.toList args.toList ds p := hA0
  rw [Tryd.params12] at hA hval
  obtain ⟨v0, vs0, d0, ds0, p0, q0, hargs, rfl, rfl, h0, r0⟩ := trodAll_cons hA
  obtain ⟨rfl, rfl, rfl⟩ := trodAll_nil r0
  obtain rfl : args = #[v0] := by cases args; simp_all
  obtain ⟨rfl, rfl⟩ := trodVars_none hV
  obtain ⟨a0, len0, cap0, rfl⟩ := okWide_slice Tryd.underlying56 (hval 0 56 v0 rfl rfl)
  have k0 := h0
  have lt0 : ∀ x ∈ p0, x.block < W.heap.size := by obtain ⟨m, hm⟩ := k0; exact DataW.trod_lt m _ _ _ hm
  obtain ⟨w0, cm0, lc0⟩ : FrRow W a0 len0 ∧ cap0 ≤ maxLen ∧ len0 ≤ cap0 := by
    obtain ⟨fuel, hf⟩ := h0
    exact open_frames (by simpa [Value.cells] using hf)
  clear hA0 hval0
  obtain ⟨hTab, hsz0⟩ := tab_of_laid hL
  refine (walk a0 len0 cap0 W ⟨w0, cm0, lc0⟩ hsz0 hTab).mono fun e W' ⟨he, bel⟩ => ?_
  subst he
  exact ⟨_, rfl, _, _, _, [], _, [], hW', trodAll_mk1 (shut_bool Tryd.underlying4 _), (trodAll_cons_mk (Below.trod laidOut (by kernel_rfl) (of_decide_eq_true (by kernel_rfl)) k0 bel lt0) trodAll_mk0), rfl, bel.frame _, fun h => by cases h⟩
theorem over : Rows.topHeardRow.holds Tryd.pinned (OpenSpec.ofChange Rows.topHeardSpec) :=
  OpenClaim.holds_of_wide 12 Tryd.f12 rfl rfl rfl rfl rfl rfl rfl ⟨rfl, rfl, rfl, rfl, rfl⟩ rfl rfl rfl rfl rfl (by kernel_rfl) Tryd.func12 (by kernel_rfl)
    (of_decide_eq_true (by kernel_rfl)) (by unfold Func.isWrapper; first | (rw [if_pos (by decide +kernel)]; kernel_rfl) | (rw [if_neg (by decide +kernel)]; exact ⟨rfl, rfl⟩))
    (fun os started H enc _ => lifted os started H enc)
/-- The statement: the row, and what it lists tied to the program's text. -/
theorem proved : Rows.TopHeardCardSaid :=
  Claim7.holds_tied_plain_at .later [] [.data] true _ true
    over (fun _ h => by cases h) (by kernel_rfl) (fun _ h => by cases h) topHeard_row_tie rfl ⟨rfl, rfl⟩ (by kernel_rfl) rfl
    (fun f fn hf hfn => by
      obtain rfl : f = 12 := Option.some.inj ((show Tryd.prog.funcNamed "bellbuoy/bellbuoytop.TopHeard" = some 12 by kernel_rfl).symm.trans hf) |>.symm
      obtain rfl : fn = Tryd.f12 := (Option.some.inj (Tryd.func12.symm.trans hfn)).symm
      exact ⟨by kernel_rfl, fun j t ht => by
        rw [Tryd.params12] at ht
        have hm : t ∈ [56] := by simpa using Array.mem_of_getElem? ht
        have hall : ([56].all fun u => !Tryd.prog.wantsStandIn u) = true := by kernel_rfl
        exact (show Tryd.prog.wantsStandIn t = false by simpa using List.all_eq_true.1 hall t hm)⟩)
    (by kernel_rfl)
end Go.Proofs.YtndjennhbggoiaaDoor.topHeard
