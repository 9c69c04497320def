/- SlaveOnce (P20.4): each time that is told is of a turn that was heard ahead, of the same rank and round, the last one there was; no turn tells twice: of every words. No conditions. -/
import Derived.Test.YtmlnobiakfapcaaRows
import Derived.Deep.DeepCutAuto
import Derived.Test.YtmlnobiakfapcaaSlq
import Derived.Test.YtmlnobiakfapcaaOpw
import Derived.WalkKit
import Derived.ProofKit
import Derived.OpenShut
import Derived.ShutString
import Derived.ChangeOld
import Derived.Below
namespace Go.Proofs.Ytmlnobiakfapcaa.slaveOnce
open Go.ChangeShapes Go.WideShapes Go.ChangeAt Go.RowKit
theorem own : ownKnob Try.prog.godebug = none := by kernel_rfl
theorem laidOut : laidOutB Try.prog = true := by kernel_rfl
/-- Which turn is noted. -/
def SO (L : List HD) (i : Nat) (k : Bool) (r n c tu : Int) : Prop := (k = false ∧ tu = -1) ∨ (k = true ∧ ∃ j, ∃ h : j < L.length, tu = (j : Int) ∧ j < i ∧ L[j].r = r ∧ L[j].n = n ∧ L[j].c = c)
theorem SO.up {L : List HD} {i : Nat} {k : Bool} {r n c tu : Int} (h : SO L i k r n c tu) : SO L (i + 1) k r n c tu := by
  rcases h with h | ⟨h, j, hj, h1, h2, h3⟩
  · exact .inl h
  · exact .inr ⟨h, j, hj, h1, by omega, h3⟩
set_option maxRecDepth 100000 in
set_option maxHeartbeats 16000000 in
theorem walk (a0 : Option Addr) (len0 cap0 : Nat) (L : List HD) (w : World) (w0 : L.length = len0 ∧ (∀ s ∈ L, s.wf) ∧ Rd w 5 (.slice a0 len0 cap0) (L.flatMap HD.C)) :
    Calls Try.prog 10 #[.slice a0 len0 cap0] w fun y w' => y = .returned (.bool true) ∧ Below w.heap.size w w' := by
  obtain ⟨rfl, _, hL⟩ := w0
  have HLR := Lib.hid hL
  clear hL
  go_enter Try.func10, Try.ntmps10
  go_wp2_with fail
  refine (slnew_any _).mono ?_
  rintro y w1 ⟨B, rfl, hO, hBB, hb⟩
  have HBB := Lib.hid hBB; have HM1 := Lib.hid hO; have HB1 := Lib.hid hb
  clear hO hBB hb
  go_wp2_with fail
  go_loopw [5, 4] (fun s5 s4 wr => ∃ (i : Nat) (k : Bool) (r n c tu : Int), s5 = .int .i64 (i : Int) ∧ s4 = .int .i64 tu ∧ i ≤ 60 ∧ Blk wr B 128 [.bool k, .bool false, .int .i64 r, .int .i64 n, .int .i64 0, .int .i64 c] ∧ SO L i k r n c tu ∧ Below w.heap.size w wr) (fun s5 _ _ => 60 - (intOf s5).toNat)
  case atStart => exact ⟨0, false, 0, 0, 0, -1, rfl, rfl, by omega, HM1.out, .inl ⟨rfl, rfl⟩, HB1.out⟩
  case round =>
    obtain ⟨i, k, r, n, c, tu, rfl, rfl, hi60, hM, hS, hB⟩ := hrel
    have HM := Lib.hid hM; have HS := Lib.hid hS; have HB := Lib.hid hB
    clear hM hS hB
    by_cases hgo : i < L.length ∧ i < 60
    · have hlt := hgo.1
      have HGO := Lib.hid hgo
      have i1 : (i : Int) < (L.length : Int) := by omega
      have i2 : (i : Int) < 60 := by have := hgo.2; omega
      have i3 : (0 : Int) ≤ (i : Int) := by omega
      have HLR2 := Lib.hid (fun j (hj : j < L.length) => rd_at HD.C 5 (fun _ => rfl) HLR.out hj (by decide))
      obtain ⟨g, off, rfl, hg, hcell⟩ := HLR2.out i hlt
      have HALL := Lib.hid (show ∀ j (hj : j < L.length), ∀ u v, (HD.C L[j])[u]? = some v → w.cell? ⟨g, off + j * 5 + u, none⟩ = some v from fun j hj => by
        obtain ⟨g', off', e, _, hc⟩ := HLR2.out j hj
        cases e
        exact hc)
      obtain ⟨s, hs⟩ : ∃ s, s = L[i] := ⟨_, rfl⟩
      rw [← hs] at hcell
      have HLI := Lib.hid (show ∃ h : i < L.length, s = L[i] from ⟨hlt, hs⟩)
      have HG := Lib.hid hg
      clear hs hgo hlt HLR2
      obtain ⟨f, a, b, t, d⟩ := s
      have hcw : ∀ X, Below w.heap.size w X → ∀ j u, (HD.C ⟨f, a, b, t, d⟩)[j]? = some u → X.cell? ⟨g, off + i * 5 + j, none⟩ = some u := fun X hX j u h => (hX.cell (p := ⟨g, off + i * 5 + j, none⟩) hg).trans (hcell j u h)
      have HCW := Lib.hid hcw
      clear hcell hcw hg
      have HH := Lib.hid (fun (u : World) h => slhear_any k r n c f a b t d B u h)
      obtain ⟨tb, htb⟩ : ∃ x, x = tellB k r n f a b t := ⟨_, rfl⟩
      obtain ⟨nb, hnb⟩ : ∃ x, x = noteB f a b t := ⟨_, rfl⟩
      rw [← htb, ← hnb] at HH
      obtain ⟨v1, hv1⟩ : ∃ x, x = if tb then c else 0 := ⟨_, rfl⟩
      obtain ⟨v2, hv2⟩ : ∃ x, x = if tb then t else 0 := ⟨_, rfl⟩
      obtain ⟨ml, hml⟩ : ∃ x : List Value, x = if nb then [.bool true, .bool false, .int .i64 a, .int .i64 b, .int .i64 0, .int .i64 d] else if tb then [.bool false, .bool false, .int .i64 0, .int .i64 0, .int .i64 0, .int .i64 0] else [.bool k, .bool false, .int .i64 r, .int .i64 n, .int .i64 0, .int .i64 c] := ⟨_, rfl⟩
      rw [← hv1, ← hv2, ← hml] at HH
      have HV := Lib.hid (And.intro hv1 (And.intro hv2 hml))
      clear hv1 hv2 hml
      have HTB := Lib.hid htb; have HNB := Lib.hid hnb
      clear htb hnb
      have HBW := HB
      have e0 : wr.cell? ⟨g, off + i * 5, none⟩ = some (.bool f) := HCW.out wr HBW.out 0 _ rfl
      have e1 : wr.cell? ⟨g, off + i * 5 + 1, none⟩ = some (.int .i64 a) := HCW.out wr HBW.out 1 _ rfl
      have e2 : wr.cell? ⟨g, off + i * 5 + 2, none⟩ = some (.int .i64 b) := HCW.out wr HBW.out 2 _ rfl
      have e3 : wr.cell? ⟨g, off + i * 5 + 3, none⟩ = some (.int .i64 t) := HCW.out wr HBW.out 3 _ rfl
      have e4 : wr.cell? ⟨g, off + i * 5 + 4, none⟩ = some (.int .i64 d) := HCW.out wr HBW.out 4 _ rfl
      have d0 : wr.drew.cell? ⟨g, off + i * 5, none⟩ = some (.bool f) := HCW.out wr HBW.out 0 _ rfl
      have d1 : wr.drew.cell? ⟨g, off + i * 5 + 1, none⟩ = some (.int .i64 a) := HCW.out wr HBW.out 1 _ rfl
      have d2 : wr.drew.cell? ⟨g, off + i * 5 + 2, none⟩ = some (.int .i64 b) := HCW.out wr HBW.out 2 _ rfl
      have d3 : wr.drew.cell? ⟨g, off + i * 5 + 3, none⟩ = some (.int .i64 t) := HCW.out wr HBW.out 3 _ rfl
      have d4 : wr.drew.cell? ⟨g, off + i * 5 + 4, none⟩ = some (.int .i64 d) := HCW.out wr HBW.out 4 _ rfl
      clear HBW
      go_upto_region 6 with fail
      go_cut [5, 4, 6, 7, 8] (fun s5 s4 s6 s7 s8 wx => s5 = .int .i64 (i : Int) ∧ s4 = .int .i64 tu ∧ s6 = .int .i64 v1 ∧ s7 = .int .i64 v2 ∧ s8 = .bool tb ∧ Blk wx B 128 ml ∧ Below w.heap.size w wx)
      case first =>
        go_region_with (go_at_call 46; refine (HH.out _ (by first | exact HM.out | exact HM.out.keep (Below.refl _ _).drew HM.out.lt)).mono ?_; rintro y w2 ⟨rfl, hm, hk⟩; have hb := HB.out.drew.trans (hk.belowN HBB.out (show w.heap.size ≤ wr.drew.heap.size from HB.out.size) (fun k e => by cases e)))
        all_goals (go_wp2_with fail; go_meet; exact ⟨rfl, rfl, rfl, rfl, rfl, hm, hb⟩)
      case rest =>
      obtain ⟨w2, hw2⟩ : ∃ w2, w2 = wc := ⟨_, rfl⟩
      rw [← hw2] at hcut ⊢
      obtain ⟨rfl, rfl, rfl, rfl, rfl, hm, hb⟩ := hcut
      have HB2 := Lib.hid hb
      have HMm := Lib.hid hm
      clear hb hm hw2 HH e0 e1 e2 e3 e4 d0 d1 d2 d3 d4
      have HBW := HB2
      cases tb
      case false =>
        obtain rfl : v1 = 0 := by rw [HV.out.1]; rfl
        obtain rfl : v2 = 0 := by rw [HV.out.2.1]; rfl
        cases f
        case true =>
          obtain rfl : nb = false := by rw [HNB.out]; unfold noteB; simp
          have HM2 := Lib.hid (show Blk w2 B 128 [.bool k, .bool false, .int .i64 r, .int .i64 n, .int .i64 0, .int .i64 c] by have h := HMm.out; rw [HV.out.2.2] at h; exact h)
          clear HV HMm HNB HTB
          have e0 : w2.cell? ⟨g, off + i * 5, none⟩ = some (.bool true) := HCW.out w2 HBW.out 0 _ rfl
          have e1 : w2.cell? ⟨g, off + i * 5 + 1, none⟩ = some (.int .i64 a) := HCW.out w2 HBW.out 1 _ rfl
          have e2 : w2.cell? ⟨g, off + i * 5 + 2, none⟩ = some (.int .i64 b) := HCW.out w2 HBW.out 2 _ rfl
          have e3 : w2.cell? ⟨g, off + i * 5 + 3, none⟩ = some (.int .i64 t) := HCW.out w2 HBW.out 3 _ rfl
          have e4 : w2.cell? ⟨g, off + i * 5 + 4, none⟩ = some (.int .i64 d) := HCW.out w2 HBW.out 4 _ rfl
          have d0 : w2.drew.cell? ⟨g, off + i * 5, none⟩ = some (.bool true) := HCW.out w2 HBW.out 0 _ rfl
          have d1 : w2.drew.cell? ⟨g, off + i * 5 + 1, none⟩ = some (.int .i64 a) := HCW.out w2 HBW.out 1 _ rfl
          have d2 : w2.drew.cell? ⟨g, off + i * 5 + 2, none⟩ = some (.int .i64 b) := HCW.out w2 HBW.out 2 _ rfl
          have d3 : w2.drew.cell? ⟨g, off + i * 5 + 3, none⟩ = some (.int .i64 t) := HCW.out w2 HBW.out 3 _ rfl
          have d4 : w2.drew.cell? ⟨g, off + i * 5 + 4, none⟩ = some (.int .i64 d) := HCW.out w2 HBW.out 4 _ rfl
          go_upto_region 7 with fail
          go_region
          go_wp2_with fail
          go_roundw
          case rel => exact ⟨i + 1, k, r, n, c, tu, by simp, rfl, by have := HGO.out; omega, HM2.out, HS.out.up, HB2.out.drew⟩
          case measure => have := HGO.out; simp [intOf]; omega
        case false =>
          obtain ⟨rg, hrg⟩ : ∃ x, x = rightW false a b t := ⟨_, rfl⟩
          have HRR := Lib.hid (fun (u : World) => rslright_any false a b t u)
          rw [← hrg] at HRR
          have HNB2 := Lib.hid (show nb = rg by rw [HNB.out]; unfold noteB; rw [← hrg]; cases rg <;> rfl)
          clear hrg
          have e0 : w2.cell? ⟨g, off + i * 5, none⟩ = some (.bool false) := HCW.out w2 HBW.out 0 _ rfl
          have e1 : w2.cell? ⟨g, off + i * 5 + 1, none⟩ = some (.int .i64 a) := HCW.out w2 HBW.out 1 _ rfl
          have e2 : w2.cell? ⟨g, off + i * 5 + 2, none⟩ = some (.int .i64 b) := HCW.out w2 HBW.out 2 _ rfl
          have e3 : w2.cell? ⟨g, off + i * 5 + 3, none⟩ = some (.int .i64 t) := HCW.out w2 HBW.out 3 _ rfl
          have e4 : w2.cell? ⟨g, off + i * 5 + 4, none⟩ = some (.int .i64 d) := HCW.out w2 HBW.out 4 _ rfl
          have d0 : w2.drew.cell? ⟨g, off + i * 5, none⟩ = some (.bool false) := HCW.out w2 HBW.out 0 _ rfl
          have d1 : w2.drew.cell? ⟨g, off + i * 5 + 1, none⟩ = some (.int .i64 a) := HCW.out w2 HBW.out 1 _ rfl
          have d2 : w2.drew.cell? ⟨g, off + i * 5 + 2, none⟩ = some (.int .i64 b) := HCW.out w2 HBW.out 2 _ rfl
          have d3 : w2.drew.cell? ⟨g, off + i * 5 + 3, none⟩ = some (.int .i64 t) := HCW.out w2 HBW.out 3 _ rfl
          have d4 : w2.drew.cell? ⟨g, off + i * 5 + 4, none⟩ = some (.int .i64 d) := HCW.out w2 HBW.out 4 _ rfl
          cases rg
          case true =>
            obtain rfl : nb = true := HNB2.out
            have HM2 := Lib.hid (show Blk w2 B 128 [.bool true, .bool false, .int .i64 a, .int .i64 b, .int .i64 0, .int .i64 d] by have h := HMm.out; rw [HV.out.2.2] at h; exact h)
            clear HV HMm HNB HTB HNB2
            go_upto_region 7 with fail
            go_region
            go_wp2_with fail
            refine (plain20_any false a b t _).mono ?_
            rintro y w3 ⟨rfl, hb⟩
            have HB3 := Lib.hid (below_transG HB2.out.drew hb); have HM3 := Lib.hid (HM2.out.keep (Below.trans (Below.refl _ _).drew hb) HM2.out.lt)
            clear hb
            go_wp2_with fail
            refine (HRR.out _).mono ?_
            rintro y w4 ⟨rfl, hb⟩
            have HB4 := Lib.hid (below_transG HB3.out hb); have HM4 := Lib.hid (HM3.out.keep hb HM3.out.lt)
            clear hb
            go_wp2_with fail
            go_roundw
            case rel => exact ⟨i + 1, true, a, b, d, (i : Int), by simp, rfl, by have := HGO.out; omega, HM4.out, .inr ⟨rfl, i, HLI.out.1, rfl, by omega, by rw [← HLI.out.2], by rw [← HLI.out.2], by rw [← HLI.out.2]⟩, HB4.out⟩
            case measure => have := HGO.out; simp [intOf]; omega
          case false =>
            obtain rfl : nb = false := HNB2.out
            have HM2 := Lib.hid (show Blk w2 B 128 [.bool k, .bool false, .int .i64 r, .int .i64 n, .int .i64 0, .int .i64 c] by have h := HMm.out; rw [HV.out.2.2] at h; exact h)
            clear HV HMm HNB HTB HNB2
            go_upto_region 7 with fail
            go_region
            go_wp2_with fail
            refine (plain20_any false a b t _).mono ?_
            rintro y w3 ⟨rfl, hb⟩
            have HB3 := Lib.hid (below_transG HB2.out.drew hb); have HM3 := Lib.hid (HM2.out.keep (Below.trans (Below.refl _ _).drew hb) HM2.out.lt)
            clear hb
            go_wp2_with fail
            refine (HRR.out _).mono ?_
            rintro y w4 ⟨rfl, hb⟩
            have HB4 := Lib.hid (below_transG HB3.out hb); have HM4 := Lib.hid (HM3.out.keep hb HM3.out.lt)
            clear hb
            go_wp2_with fail
            go_roundw
            case rel => exact ⟨i + 1, k, r, n, c, tu, by simp, rfl, by have := HGO.out; omega, HM4.out, HS.out.up, HB4.out⟩
            case measure => have := HGO.out; simp [intOf]; omega
      case true =>
        obtain rfl : v1 = c := by rw [HV.out.1]; rfl
        obtain rfl : v2 = t := by rw [HV.out.2.1]; rfl
        obtain ⟨h1, rfl, rfl, rfl, rfl⟩ := of_decide_eq_true HTB.out.symm
        obtain rfl : nb = false := by rw [HNB.out]; unfold noteB; simp
        have HM2 := Lib.hid (show Blk w2 B 128 [.bool false, .bool false, .int .i64 0, .int .i64 0, .int .i64 0, .int .i64 0] by have h := HMm.out; rw [HV.out.2.2] at h; exact h)
        obtain ⟨j, hj, rfl, hji, hr, hn, hc⟩ : ∃ j, ∃ h : j < L.length, tu = (j : Int) ∧ j < i ∧ L[j].r = r ∧ L[j].n = n ∧ L[j].c = v1 := by
          rcases HS.out with ⟨h, _⟩ | ⟨_, h⟩
          · cases h
          · exact h
        have c1 : w2.cell? ⟨g, off + j * 5 + 1, none⟩ = some (.int .i64 r) := (HB2.out.cell (p := ⟨g, off + j * 5 + 1, none⟩) HG.out).trans (HALL.out j hj 1 _ (by rw [← hr]; rfl))
        have c2 : w2.cell? ⟨g, off + j * 5 + 2, none⟩ = some (.int .i64 n) := (HB2.out.cell (p := ⟨g, off + j * 5 + 2, none⟩) HG.out).trans (HALL.out j hj 2 _ (by rw [← hn]; rfl))
        have c4 : w2.cell? ⟨g, off + j * 5 + 4, none⟩ = some (.int .i64 v1) := (HB2.out.cell (p := ⟨g, off + j * 5 + 4, none⟩) HG.out).trans (HALL.out j hj 4 _ (by rw [← hc]; rfl))
        have j1 : (j : Int) < (L.length : Int) := by omega
        have j2 : (0 : Int) ≤ (j : Int) := by omega
        have j3 : ¬ (j : Int) < 0 := by omega
        clear HV HMm HNB HTB hr hn hc hj hji h1 HS
        have e0 : w2.cell? ⟨g, off + i * 5, none⟩ = some (.bool true) := HCW.out w2 HBW.out 0 _ rfl
        have e1 : w2.cell? ⟨g, off + i * 5 + 1, none⟩ = some (.int .i64 r) := HCW.out w2 HBW.out 1 _ rfl
        have e2 : w2.cell? ⟨g, off + i * 5 + 2, none⟩ = some (.int .i64 n) := HCW.out w2 HBW.out 2 _ rfl
        have e3 : w2.cell? ⟨g, off + i * 5 + 3, none⟩ = some (.int .i64 v2) := HCW.out w2 HBW.out 3 _ rfl
        have e4 : w2.cell? ⟨g, off + i * 5 + 4, none⟩ = some (.int .i64 d) := HCW.out w2 HBW.out 4 _ rfl
        go_upto_region 7 with fail
        go_region
        go_wp2_with fail
        go_roundw
        case rel => exact ⟨i + 1, false, 0, 0, 0, (-1), by simp, rfl, by have := HGO.out; omega, HM2.out, .inl ⟨rfl, rfl⟩, HB2.out.drew⟩
        case measure => have := HGO.out; simp [intOf]; omega
    · have HGX := Lib.hid hgo
      have hT : ((i : Int) < (L.length : Int) ∧ ¬ (i : Int) < 60) ∨ ¬ (i : Int) < (L.length : Int) := by omega
      clear hgo
      rcases hT with ⟨i1, i2⟩ | i1
      all_goals
        go_wp2_with fail
        refine (live20 _).mono ?_
        rintro y w5 ⟨rfl, hb⟩
        have HBz := Lib.hid (below_transG HB.out hb)
        clear hb
        go_wp2_with fail
        go_ret
        exact ⟨rfl, HBz.out⟩
set_option maxRecDepth 100000 in
theorem lifted (os : Os) (started : os.Started) (H : Type) (enc : TypeId × Value → H) :
    ReturnsInHanded {} Try.checked os 10 .any (Rows.slaveOnceSpec.pre6 enc Try.prog Try.f10 Rows.slaveOnceRow.domain false) (Rows.slaveOnceSpec.post enc Try.prog Try.f10 false true false false) := by
  refine returnsInHanded_of_change (C := Try.checked) own started (by kernel_rfl) Try.func10
    (ChangeSpec.witness6 (enc := enc) (C := Try.checked) false ⟨#[], #[.slice none 0 0], []⟩ 8 (by kernel_rfl) (by kernel_rfl) (by kernel_rfl) (by kernel_rfl)) ?_
  intro W base args ds gs before hval0 hW _ _
  have hval : ∀ (j : Nat) t v, Try.f10.params[j]? = some t → args[j]? = some v → Value.okWide Try.prog W .any base t v := hval0
  have hW' := hW
  obtain ⟨p, q, hA0, hV, rfl, hfz, hnd⟩ := hW
  have hA : DataW.TrodAll enc Try.prog W 0 (fun _ => true) true Try.f10.params.toList args.toList ds p := hA0
  rw [Try.params10] at hA hval
  obtain ⟨v0, vs0, d0, ds0, p0, q0, hargs, rfl, rfl, h0, r0⟩ := trodAll_cons hA
  obtain ⟨rfl, rfl, rfl⟩ := trodAll_nil r0
  obtain rfl : args = #[v0] := by cases args; simp_all
  obtain ⟨rfl, rfl⟩ := trodVars_none hV
  obtain ⟨a0, len0, cap0, rfl⟩ := okWide_slice Try.underlying80 (hval 0 80 v0 rfl rfl)
  have k0 := h0
  have lt0 : ∀ x ∈ p0, x.block < W.heap.size := by obtain ⟨m, hm⟩ := k0; exact DataW.trod_lt m _ _ _ hm
  obtain ⟨L0, wl0, ww0, wr0⟩ : ∃ L : List HD, L.length = len0 ∧ (∀ s ∈ L, HD.wf s) ∧ Rd W 5 (.slice a0 len0 cap0) (L.flatMap HD.C) := by
    obtain ⟨fuel, hf⟩ := h0
    exact open_rows HD.C HD.wf 5 (by decide) Try.underlying80 (by kernel_rfl) (fun _ => rfl) (fun _ _ _ => heardG) (by simpa [Value.cells] using hf)
  clear hA0 hval0
  refine (walk a0 len0 cap0 L0 W ⟨wl0, ww0, wr0⟩).mono fun e W' ⟨he, bel⟩ => ?_
  subst he
  exact ⟨_, rfl, _, _, _, [], _, [], hW', trodAll_mk1 (shut_bool Try.underlying4 _), (trodAll_cons_mk (Below.trod laidOut (by kernel_rfl) (of_decide_eq_true (by kernel_rfl)) k0 bel lt0) trodAll_mk0), rfl, bel.frame _, fun h => by cases h⟩
theorem over : Rows.slaveOnceRow.holds Try.pinned (OpenSpec.ofChange Rows.slaveOnceSpec) :=
  OpenClaim.holds_of_wide 10 Try.f10 rfl rfl rfl rfl rfl rfl rfl ⟨rfl, rfl, rfl, rfl, rfl⟩ rfl rfl rfl rfl rfl (by kernel_rfl) Try.func10 (by kernel_rfl)
    (of_decide_eq_true (by kernel_rfl)) (by unfold Func.isWrapper; first | (rw [if_pos (by decide +kernel)]; kernel_rfl) | (rw [if_neg (by decide +kernel)]; exact ⟨rfl, rfl⟩))
    (fun os started H enc _ => lifted os started H enc)
/-- The statement. -/
theorem proved : Rows.SlaveOnceSaid := over
end Go.Proofs.Ytmlnobiakfapcaa.slaveOnce
