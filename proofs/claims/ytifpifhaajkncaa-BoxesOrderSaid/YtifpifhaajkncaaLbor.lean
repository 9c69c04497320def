/- BoxesOrder (P13.3): of every list of frames: posts that are taken by the best one, again and again, come in the order in which they win. No conditions. -/
import Derived.Test.YtifpifhaajkncaaRows
import Derived.Test.YtifpifhaajkncaaBxg
import Derived.Test.YtifpifhaajkncaaBat
import Derived.WalkKit
import Derived.ProofKit
import Derived.OpenShut
import Derived.ShutString
import Derived.ChangeOld
import Derived.Below
namespace Go.Proofs.Ytifpifhaajkncaa.boxesOrder
open Go.ChangeShapes Go.WideShapes Go.ChangeAt Go.RowKit
theorem own : ownKnob Try.prog.godebug = none := by kernel_rfl
theorem laidOut : laidOutB Try.prog = true := by kernel_rfl
theorem frame11_pfx (s : FD) (hn : s.n < 4294967296) (i : Nat) (w : World) : Calls Try.prog 27 #[.agg #[.bool s.e, .int .u32 (s.n : Int), .bool s.q, .int .i64 s.l, .int .u8 (s.x0 : Int), .int .u8 (s.x1 : Int), .int .u8 (s.x2 : Int), .int .u8 (s.x3 : Int), .int .u8 (s.x4 : Int), .int .u8 (s.x5 : Int), .int .u8 (s.x6 : Int), .int .u8 (s.x7 : Int)]] w fun y w' => y = .returned (.agg #[.bool (pfx s i).e, .int .u32 ((pfx s i).n : Int), .bool (pfx s i).q, .int .i64 (pfx s i).l, .int .u8 ((pfx s i).x0 : Int), .int .u8 ((pfx s i).x1 : Int), .int .u8 ((pfx s i).x2 : Int), .int .u8 ((pfx s i).x3 : Int), .int .u8 ((pfx s i).x4 : Int), .int .u8 ((pfx s i).x5 : Int), .int .u8 ((pfx s i).x6 : Int), .int .u8 ((pfx s i).x7 : Int)]) ∧ Below w.heap.size w w' :=
  frame11_any s.e s.n hn s.q s.l s.x0 s.x1 s.x2 s.x3 s.x4 s.x5 s.x6 s.x7 w
set_option maxRecDepth 100000 in
set_option maxHeartbeats 8000000 in
theorem walk (a : Option Addr) (len cap : Nat) (L : List FD) (w : World) (w0 : L.length = len ∧ (∀ s ∈ L, s.wf) ∧ Rd w 12 (.slice a len cap) (L.flatMap FD.C)) :
    Calls Try.prog 4 #[.slice a len cap] w fun y w' => y = .returned (.bool true) ∧ Below w.heap.size w w' := by
  obtain ⟨rfl, hwf, hRd⟩ := w0
  have HRD := Lib.hid hRd; have HWF := Lib.hid hwf
  have HNW := Lib.hid (new_any 8 (by decide) (by decide) w)
  obtain ⟨B, hB⟩ : ∃ B, B = w.heap.size := ⟨_, rfl⟩
  have HBB := Lib.hid hB
  rw [← hB] at HNW
  clear hRd hwf hB
  go_enter Try.func4, Try.ntmps4
  go_wp2_with fail
  refine HNW.out.mono ?_
  rintro y w3 ⟨rfl, hx, hb⟩
  have HX3 := Lib.hid hx; have HB3 := Lib.hid (show Below w.heap.size w w3 by rw [← HBB.out]; exact hb)
  clear hx hb
  go_wp2_with fail
  go_loopw [5, 6] (fun s5 s6 wr => ∃ (i : Nat) (M : List BD), s5 = .int .i64 (i : Int) ∧ s6 = .int .i64 (i : Int) ∧ i ≤ 8 ∧ PI M i ∧ BxA wr B M 8 ∧ Below w.heap.size w wr) (fun _ s6 _ => 8 - (intOf s6).toNat)
  case atStart => exact ⟨0, _, rfl, rfl, by omega, PI.zero, HX3.out, HB3.out⟩
  case round =>
    obtain ⟨i, M, rfl, rfl, hi8, hp, hx, hb⟩ := hrel
    have HP := Lib.hid hp; have HX := Lib.hid hx; have HB := Lib.hid hb
    clear hp hx hb
    by_cases hgo : i < L.length ∧ i < 8
    · have hlt := hgo.1
      have i1 : (i : Int) < (L.length : Int) := by omega
      have i2 : (i : Int) < 8 := by have := hgo.2; omega
      have i3 : (0 : Int) ≤ (i : Int) := by omega
      have HI8 := Lib.hid hgo.2
      obtain ⟨g, off, rfl, hg, hcell⟩ := rd_fd HRD.out hlt
      obtain ⟨s, hs⟩ : ∃ s, s = L[i] := ⟨_, rfl⟩
      rw [← hs] at hcell
      have HN := Lib.hid (show s.n < 4294967296 by rw [hs]; exact HWF.out _ (List.getElem_mem _))
      have hcw : ∀ j u, s.C[j]? = some u → wr.cell? ⟨g, off + i * 12 + j, none⟩ = some u := fun j u h => (HB.out.cell (p := ⟨g, off + i * 12 + j, none⟩) hg).trans (hcell j u h)
      have HFR := Lib.hid (fun u => frame11_pfx s HN.out i u)
      have HPU := Lib.hid (fun u hu => put_any B M 8 (pfx s i) u (HX.out.on hu))
      rw [HP.out.put HI8.out (pfx s i) (pfx_right s i) rfl] at HPU
      have HPN := Lib.hid (HP.out.next HI8.out (pfx s i) rfl (fixN_lt _ _))
      obtain ⟨P, hP⟩ : ∃ P, P = pfx s i := ⟨_, rfl⟩
      have HT := Lib.hid (show P.tag = (i : Int) ∧ P.once = false by rw [hP]; exact ⟨rfl, rfl⟩)
      rw [← hP] at HFR HPU HPN
      clear hs hP hcell hgo hlt
      obtain ⟨e, n, q, l, x0, x1, x2, x3, x4, x5, x6, x7, once, tag⟩ := P
      obtain ⟨rfl, rfl⟩ := HT.out
      unfold PD.V at HPU
      simp only at HFR HPU HPN
      obtain ⟨se, sn, sq, sl, sx0, sx1, sx2, sx3, sx4, sx5, sx6, sx7⟩ := s
      simp only at HFR
      have e0 : wr.cell? ⟨g, off + i * 12, none⟩ = some (.bool se) := hcw 0 _ rfl
      have e1 : wr.cell? ⟨g, off + i * 12 + 1, none⟩ = some (.int .u32 (sn : Int)) := hcw 1 _ rfl
      have e2 : wr.cell? ⟨g, off + i * 12 + 2, none⟩ = some (.bool sq) := hcw 2 _ rfl
      have e3 : wr.cell? ⟨g, off + i * 12 + 3, none⟩ = some (.int .i64 sl) := hcw 3 _ rfl
      have e4 : wr.cell? ⟨g, off + i * 12 + 4, none⟩ = some (.int .u8 (sx0 : Int)) := hcw 4 _ rfl
      have e5 : wr.cell? ⟨g, off + i * 12 + 5, none⟩ = some (.int .u8 (sx1 : Int)) := hcw 5 _ rfl
      have e6 : wr.cell? ⟨g, off + i * 12 + 6, none⟩ = some (.int .u8 (sx2 : Int)) := hcw 6 _ rfl
      have e7 : wr.cell? ⟨g, off + i * 12 + 7, none⟩ = some (.int .u8 (sx3 : Int)) := hcw 7 _ rfl
      have e8 : wr.cell? ⟨g, off + i * 12 + 8, none⟩ = some (.int .u8 (sx4 : Int)) := hcw 8 _ rfl
      have e9 : wr.cell? ⟨g, off + i * 12 + 9, none⟩ = some (.int .u8 (sx5 : Int)) := hcw 9 _ rfl
      have e10 : wr.cell? ⟨g, off + i * 12 + 10, none⟩ = some (.int .u8 (sx6 : Int)) := hcw 10 _ rfl
      have e11 : wr.cell? ⟨g, off + i * 12 + 11, none⟩ = some (.int .u8 (sx7 : Int)) := hcw 11 _ rfl
      clear hcw HT
      go_wp2_with fail
      refine (HFR.out _).mono ?_
      rintro y w4 ⟨rfl, hb⟩
      have HB4 := Lib.hid hb
      clear hb e0 e1 e2 e3 e4 e5 e6 e7 e8 e9 e10 e11
      go_wp2_with fail
      refine (HPU.out _ HB4.out).mono ?_
      rintro y w5 ⟨rfl, hx, hk⟩
      have HX5 := Lib.hid hx; have HB5 := Lib.hid ((below_transG HB.out HB4.out).trans (hk.belowN (by rw [HBB.out]; exact Nat.le_refl _) (below_transG HB.out HB4.out).size (fun g hg => by cases hg)))
      clear hx hk
      go_wp2_with fail
      go_roundw
      case rel => exact ⟨i + 1, _, by simp, by simp, HI8.out, HPN.out, HX5.out, HB5.out⟩
      case measure => have := HI8.out; simp [intOf]; omega
    · have hT : ((i : Int) < (L.length : Int) ∧ ¬ (i : Int) < 8) ∨ ¬ (i : Int) < (L.length : Int) := by omega
      have HO0 := Lib.hid (HP.out.oi hi8)
      clear hgo
      rcases hT with ⟨i1, i2⟩ | i1
      all_goals
        go_wp2_with fail
        obtain ⟨wo, hwo⟩ : ∃ wo, wo = wr := ⟨_, rfl⟩
        rw [← hwo] at HX HB ⊢
        clear hwo
        go_loopw [9, 10] (fun s9 s10 wr => ∃ (j last : Nat) (M : List BD), s10 = .int .i64 (j : Int) ∧ s9 = .int .u32 (last : Int) ∧ j ≤ i ∧ OI M (i - j) last ∧ BxA wr B M 8 ∧ Below w.heap.size w wr) (fun _ s10 _ => i - (intOf s10).toNat)
        case atStart => exact ⟨0, 0, _, rfl, rfl, by omega, HO0.out, HX.out, HB.out⟩
        case round =>
          obtain ⟨j, last, M2, rfl, rfl, hj, ho, hx, hb⟩ := hrel
          have HO := Lib.hid ho; have HY := Lib.hid hx; have HC := Lib.hid hb
          clear ho hx hb
          by_cases hji : j < i
          · have i3 : (j : Int) < (i : Int) := by omega
            have hst := OI.step (m := i - (j + 1)) (by rw [show i - (j + 1) + 1 = i - j by omega]; exact HO.out)
            obtain ⟨b, hb8, hbest, htake, hlast, hn, hoi⟩ := hst
            have HOI := Lib.hid hoi
            have HBE := Lib.hid (best_any B M2 8 HO.out.small wr HY.out)
            rw [hbest] at HBE
            have HTK := Lib.hid (fun u hu => take_any B M2 8 (b : Int) u (HY.out.on hu))
            rw [htake] at HTK
            have HKE := Lib.hid (fun u => refKey_any (bxAt M2 b).p.e (bxAt M2 b).p.n (bxAt M2 b).p.q hn u)
            obtain ⟨ky, hky⟩ : ∃ ky, ky = keyP (bxAt M2 b).p := ⟨_, rfl⟩
            rw [show idKey (bxAt M2 b).p.e (bxAt M2 b).p.n (bxAt M2 b).p.q = ky by rw [hky]; rfl] at HKE
            rw [← hky] at HOI hlast
            obtain ⟨⟨e, n, q, l, x0, x1, x2, x3, x4, x5, x6, x7, once, tag⟩, hp⟩ : ∃ p, p = (bxAt M2 b).p := ⟨_, rfl⟩
            rw [← hp] at HTK HKE
            unfold PD.V at HTK
            unfold identV at HKE
            simp only at HTK HKE
            have i4 : ¬ (ky : Int) < (last : Int) := by omega
            have HJI := Lib.hid hji
            clear hbest htake hlast hn hoi hky hp hb8 hji
            go_wp2_with fail
            refine HBE.out.mono ?_
            rintro y w6 ⟨rfl, hb⟩
            have HB6 := Lib.hid hb
            clear hb
            go_wp2_with fail
            refine (HTK.out _ HB6.out).mono ?_
            rintro y w7 ⟨rfl, hx, hk⟩
            obtain ⟨W8, hW8⟩ : ∃ W8, W8 = w7.alloc (.cells #[.bool e, .int .u32 (n : Int), .bool q, .int .i64 l, .int .u8 (x0 : Int), .int .u8 (x1 : Int), .int .u8 (x2 : Int), .int .u8 (x3 : Int), .int .u8 (x4 : Int), .int .u8 (x5 : Int), .int .u8 (x6 : Int), .int .u8 (x7 : Int), .bool once, .int .i64 tag] 39) := ⟨_, rfl⟩
            have hb8 : Below w7.heap.size w7 W8 := by rw [hW8]; exact (Below.refl _ w7).alloc (Nat.le_refl _) _
            have HX8 := Lib.hid (hx.on hb8); have HB8 := Lib.hid (below_transG ((below_transG HC.out HB6.out).trans (hk.belowN (by rw [HBB.out]; exact Nat.le_refl _) (below_transG HC.out HB6.out).size (fun g hg => by cases hg))) hb8)
            have hS := (show Blk W8 w7.heap.size 39 [.bool e, .int .u32 (n : Int), .bool q, .int .i64 l, .int .u8 (x0 : Int), .int .u8 (x1 : Int), .int .u8 (x2 : Int), .int .u8 (x3 : Int), .int .u8 (x4 : Int), .int .u8 (x5 : Int), .int .u8 (x6 : Int), .int .u8 (x7 : Int), .bool once, .int .i64 tag] by rw [hW8]; exact Blk.new w7 _ [.bool e, .int .u32 (n : Int), .bool q, .int .i64 l, .int .u8 (x0 : Int), .int .u8 (x1 : Int), .int .u8 (x2 : Int), .int .u8 (x3 : Int), .int .u8 (x4 : Int), .int .u8 (x5 : Int), .int .u8 (x6 : Int), .int .u8 (x7 : Int), .bool once, .int .i64 tag])
            clear hx hk hb8
            go_upto_region 17 with fail
            rw [← hW8]
            clear hW8
            have d0 := hS.cellAt (i := 0) (by simp)
            have f0 := hS.frozenAt 0
            have d1 := hS.cellAt (i := 1) (by simp)
            have f1 := hS.frozenAt 1
            have d2 := hS.cellAt (i := 2) (by simp)
            have f2 := hS.frozenAt 2
            have d3 := hS.cellAt (i := 3) (by simp)
            have f3 := hS.frozenAt 3
            have d4 := hS.cellAt (i := 4) (by simp)
            have f4 := hS.frozenAt 4
            have d5 := hS.cellAt (i := 5) (by simp)
            have f5 := hS.frozenAt 5
            have d6 := hS.cellAt (i := 6) (by simp)
            have f6 := hS.frozenAt 6
            have d7 := hS.cellAt (i := 7) (by simp)
            have f7 := hS.frozenAt 7
            have d8 := hS.cellAt (i := 8) (by simp)
            have f8 := hS.frozenAt 8
            have d9 := hS.cellAt (i := 9) (by simp)
            have f9 := hS.frozenAt 9
            have d10 := hS.cellAt (i := 10) (by simp)
            have f10 := hS.frozenAt 10
            have d11 := hS.cellAt (i := 11) (by simp)
            have f11 := hS.frozenAt 11
            have d12 := hS.cellAt (i := 12) (by simp)
            have f12 := hS.frozenAt 12
            have d13 := hS.cellAt (i := 13) (by simp)
            have f13 := hS.frozenAt 13
            simp only [List.getElem_cons_zero, List.getElem_cons_succ] at d0 d1 d2 d3 d4 d5 d6 d7 d8 d9 d10 d11 d12 d13
            clear hS
            go_wp2_with fail
            refine (HKE.out _).mono ?_
            rintro y w9 ⟨rfl, hb⟩
            have HX9 := Lib.hid (HX8.out.on hb); have HB9 := Lib.hid (below_transG HB8.out hb)
            clear hb d0 d1 d2 d3 d4 d5 d6 d7 d8 d9 d10 d11 d12 d13 f0 f1 f2 f3 f4 f5 f6 f7 f8 f9 f10 f11 f12 f13
            go_wp2_with fail
            go_roundw
            case rel => exact ⟨j + 1, ky, _, by simp, rfl, HJI.out, HOI.out, HX9.out, HB9.out⟩
            case measure => have := HJI.out; simp [intOf]; omega
          · obtain rfl : j = i := by omega
            have HO2 := Lib.hid (show OI M2 0 last by rw [← Nat.sub_self j]; exact HO.out)
            have HS2 := HO2.out.small
            have HM0 := HO2.out.many
            have HBD := Lib.hid HO2.out.done
            have HLE := Lib.hid (fun u hu => blen_any B M2 8 u (HY.out.on hu))
            rw [HM0] at HLE
            have HBE := Lib.hid (fun u hu => best_any B M2 8 HS2 u (HY.out.on hu))
            rw [HBD.out] at HBE
            clear HM0 HS2
            go_wp2_with fail
            refine (live13 _).mono ?_
            rintro y w6 ⟨rfl, hb⟩
            have HB6 := Lib.hid hb
            clear hb
            go_wp2_with fail
            refine (HLE.out _ HB6.out).mono ?_
            rintro y w7 ⟨rfl, hb⟩
            have HB7 := Lib.hid (below_transG HB6.out hb)
            clear hb
            have z0 : (((0 : Nat) : Int) == 0) = true := rfl
            go_wp2_with fail
            refine (HBE.out _ HB7.out).mono ?_
            rintro y w8 ⟨rfl, hb⟩
            have HB8 := Lib.hid (below_transG HC.out (below_transG HB7.out hb))
            clear hb
            go_wp2_with fail
            go_ret
            exact ⟨rfl, HB8.out⟩
set_option maxRecDepth 100000 in
theorem lifted (os : Os) (started : os.Started) (H : Type) (enc : TypeId × Value → H) :
    ReturnsInHanded {} Try.checked os 4 .any (Rows.boxesOrderSpec.pre6 enc Try.prog Try.f4 Rows.boxesOrderRow.domain false) (Rows.boxesOrderSpec.post enc Try.prog Try.f4 false true false false) := by
  refine returnsInHanded_of_change (C := Try.checked) own started (by kernel_rfl) Try.func4
    (ChangeSpec.witness6 (enc := enc) (C := Try.checked) false ⟨#[], #[.slice none 0 0], []⟩ 8 (by kernel_rfl) (by kernel_rfl) (by kernel_rfl) (by kernel_rfl)) ?_
  intro W base args ds gs before hval0 hW _ _
  have hval : ∀ (j : Nat) t v, Try.f4.params[j]? = some t → args[j]? = some v → Value.okWide Try.prog W .any base t v := hval0
  have hW' := hW
  obtain ⟨p, q, hA0, hV, rfl, hfz, hnd⟩ := hW
  have hA : DataW.TrodAll enc Try.prog W 0 (fun _ => true) true Try.f4.params.toList args.toList ds p := hA0
  rw [Try.params4] at hA hval
  obtain ⟨v0, vs0, d0, ds0, p0, q0, hargs, rfl, rfl, h0, r0⟩ := trodAll_cons hA
  obtain ⟨rfl, rfl, rfl⟩ := trodAll_nil r0
  obtain rfl : args = #[v0] := by cases args; simp_all
  obtain ⟨rfl, rfl⟩ := trodVars_none hV
  obtain ⟨a0, len0, cap0, rfl⟩ := okWide_slice Try.underlying55 (hval 0 55 v0 rfl rfl)
  have k0 := h0
  have lt0 : ∀ x ∈ p0, x.block < W.heap.size := by obtain ⟨m, hm⟩ := k0; exact DataW.trod_lt m _ _ _ hm
  obtain ⟨L0, wl0, ww0, wr0⟩ : ∃ L : List FD, L.length = len0 ∧ (∀ s ∈ L, FD.wf s) ∧ Rd W 12 (.slice a0 len0 cap0) (L.flatMap FD.C) := by
    obtain ⟨fuel, hf⟩ := h0
    exact open_rows FD.C FD.wf 12 (by decide) Try.underlying55 (by kernel_rfl) (fun _ => rfl) (fun _ _ _ => frameDG) (by simpa [Value.cells] using hf)
  clear hA0 hval0
  refine (walk a0 len0 cap0 L0 W ⟨wl0, ww0, wr0⟩).mono fun e W' ⟨he, bel⟩ => ?_
  subst he
  exact ⟨_, rfl, _, _, _, [], _, [], hW', trodAll_mk1 (shut_bool Try.underlying4 _), (trodAll_cons_mk (Below.trod laidOut (by kernel_rfl) (of_decide_eq_true (by kernel_rfl)) k0 bel lt0) trodAll_mk0), rfl, bel.frame _, fun h => by cases h⟩
theorem over : Rows.boxesOrderRow.holds Try.pinned (OpenSpec.ofChange Rows.boxesOrderSpec) :=
  OpenClaim.holds_of_wide 4 Try.f4 rfl rfl rfl rfl rfl rfl rfl ⟨rfl, rfl, rfl, rfl, rfl⟩ rfl rfl rfl rfl rfl (by kernel_rfl) Try.func4 (by kernel_rfl)
    (of_decide_eq_true (by kernel_rfl)) (by unfold Func.isWrapper; first | (rw [if_pos (by decide +kernel)]; kernel_rfl) | (rw [if_neg (by decide +kernel)]; exact ⟨rfl, rfl⟩))
    (fun os started H enc _ => lifted os started H enc)
/-- The statement. -/
theorem proved : Rows.BoxesOrderSaid := over
end Go.Proofs.Ytifpifhaajkncaa.boxesOrder
