/- The statement of P8.1 and P8.2 (ListenHears): whatever bits are heard, a listener tells of each what the document asks, and what comes next, and what was heard. Conditions: the divisor's cells hold what the program's own text lays in them (tied). -/
import Derived.Test.YtndjennhbggoiaaDoorRows
import Derived.Test.YtndjennhbggoiaaDoorLij
import Derived.Test.YtndjennhbggoiaaDoorLre
import Derived.Test.YtndjennhbggoiaaDoorBat
import Derived.WalkKit
import Derived.ProofKit
import Derived.OpenShut
import Derived.ShutString
import Derived.ChangeOld
import Derived.Below
namespace Go.Proofs.YtndjennhbggoiaaDoor.listenHears
open Go.ChangeShapes Go.WideShapes Go.ChangeAt Go.RowKit
theorem own : ownKnob Tryd.prog.godebug = none := by kernel_rfl
theorem laidOut : laidOutB Tryd.prog = true := by kernel_rfl
set_option maxRecDepth 100000 in
set_option maxHeartbeats 16000000 in
theorem walk (a1 : Option Addr) (len1 cap1 : Nat) (z1 : List Int) (w : World) (w1 : IsRow w a1 len1 cap1 z1) (h0 : 0 < w.heap.size) (hT : Tab w) :
    Calls Tryd.prog 9 #[.slice a1 len1 cap1] w fun e w' => e = .returned (.bool true) ∧ Below w.heap.size w w' := by
  obtain ⟨bs0, _, hI⟩ := isRow_str w1
  have HFW := Lib.hid (few3_any a1 len1 cap1 bs0 w hI)
  have HLV := Lib.hid (fun u (hu : Below w.heap.size w u) => live8 u (Nat.lt_of_lt_of_le h0 hu.size) (hT.onB hu h0))
  obtain ⟨bs, hbs⟩ : ∃ bs, bs = bs0.take 200 := ⟨_, rfl⟩
  have hl : bs.length ≤ 200 := by rw [hbs, List.length_take]; omega
  rw [← hbs] at HFW
  have hrun : ∀ j, (bs.take j).length ≤ 200 := fun j => by rw [List.length_take]; omega
  have hrs : ∀ l : List Nat, (RS0.run l).bs.length ≤ l.length := fun l => by
    have e := (LR.run l).heard
    have := (LS.run_ok LS0 0 LS0_ok l).h
    omega
  have HSM := Lib.hid (show ∀ (BL BR j : Nat) (v vr : Value) (u : World), H3 w u BL BR (LS0.run (bs.take j)) (RS0.run (bs.take j)) v vr → Calls Tryd.prog 38 #[.pointer (some ⟨BL, 0, none⟩), .pointer (some ⟨BR, 0, none⟩)] u fun y w' => y = .returned (.bool true) ∧ H3 w w' BL BR (LS0.run (bs.take j)) (RS0.run (bs.take j)) v vr from fun BL BR j v vr u h => by
    have hr := LR.run (bs.take j)
    refine (same8_any BL BR _ _ v vr hr.place hr.good hr.frame hr.heard (LS.run_ok LS0 0 LS0_ok (bs.take j)).fr (by have := hrs (bs.take j); have := hrun j; omega) u h.la h.ra).mono ?_
    rintro y w' ⟨rfl, hb⟩
    exact ⟨rfl, h.on hb⟩)
  have HSL := Lib.hid (show ∀ (BL BR j : Nat) (v vr : Value) (u : World) (x : Nat), H3 w u BL BR (LS0.run (bs.take j)) (RS0.run (bs.take j)) v vr → Calls Tryd.prog 39 #[.pointer (some ⟨BL, 0, none⟩), .int .u8 (x : Int)] u fun y w' => ∃ v', y = .returned (.int .i64 (((LS0.run (bs.take j)).hear x).2 : Nat)) ∧ H3 w w' BL BR ((LS0.run (bs.take j)).hear x).1 (RS0.run (bs.take j)) v' vr from fun BL BR j v vr u x h =>
    h.hearL (LS.run_ok LS0 0 LS0_ok (bs.take j)) (by have := hrun j; omega) x h0 hT)
  have HSR := Lib.hid (show ∀ (BL BR j : Nat) (v vr : Value) (u : World) (s : LS) (x : Nat), H3 w u BL BR s (RS0.run (bs.take j)) v vr → Calls Tryd.prog 40 #[.pointer (some ⟨BR, 0, none⟩), .int .u8 (x : Int)] u fun y w' => ∃ vr', y = .returned (.int .i64 (((LS0.run (bs.take j)).hear x).2 : Nat)) ∧ H3 w w' BL BR s ((RS0.run (bs.take j)).hear x).1 v vr' from fun BL BR j v vr u s x h => by
    rw [((LR.run (bs.take j)).step x).1]
    exact h.hearR (by have := hrs (bs.take j); have := hrun j; omega) x)
  have HNXT := Lib.hid (show ∀ j, j < bs.length → ((LS0.run (bs.take j)).hear (bs[j]?.getD 0)).1 = LS0.run (bs.take (j + 1)) ∧ ((RS0.run (bs.take j)).hear (bs[j]?.getD 0)).1 = RS0.run (bs.take (j + 1)) from fun j hj => by
    refine ⟨(LS.run_take _ _ _ hj).symm, ?_⟩
    rw [← RS.run_snoc]
    congr 1
    rw [List.take_add_one, List.getElem?_eq_getElem hj]
    rfl)
  have HL := Lib.hid hl
  clear hI hbs hl h0 hT w1 hrun hrs
  go_enter Tryd.func9, Tryd.ntmps9
  go_wp2_with fail
  refine HFW.out.mono ?_
  rintro x w2 ⟨⟨a, l, cc, rfl, hs⟩, rfl⟩
  have HS := Lib.hid hs
  have HLEN := Lib.hid hs.len
  clear hs HFW
  go_wp2_with fail
  refine (lnew_any _).mono ?_
  rintro x w3 ⟨rfl, hla, hw3⟩
  have hb3 : Below w.heap.size w w3 := by rw [hw3]; exact (Below.refl _ w).alloc (Nat.le_refl _) _
  have HB3 := Lib.hid hb3; have HLA := Lib.hid hla
  clear hb3 hla hw3
  go_wp2_with fail
  refine (rnew_any _).mono ?_
  rintro x w4 ⟨rfl, hra, hw4⟩
  have HH := Lib.hid (show H3 w w4 w.heap.size w3.heap.size (LS0.run (bs.take 0)) (RS0.run (bs.take 0)) (.slice none 0 0) (.slice none 0 0) from by
    have hb : Below w3.heap.size w3 w4 := by rw [hw4]; exact (Below.refl _ _).alloc (Nat.le_refl _) _
    exact ⟨HLA.out.on hb, hra, HB3.out.trans (hb.mono HB3.out.size), fun k e => absurd e (by rw [own_none]; simp), by rw [own_none]; simp, Nat.le_refl _, HLA.out.lt⟩)
  obtain ⟨BL, hBL⟩ : ∃ BL, BL = w.heap.size := ⟨_, rfl⟩
  obtain ⟨BR, hBR⟩ : ∃ BR, BR = w3.heap.size := ⟨_, rfl⟩
  have HH' := Lib.hid (show H3 w w4 BL BR (LS0.run (bs.take 0)) (RS0.run (bs.take 0)) (.slice none 0 0) (.slice none 0 0) by rw [hBL, hBR]; exact HH.out)
  rw [← hBR]
  have HBL := Lib.hid hBL
  have HSM0 := Lib.hid (HSM.out BL BR 0 _ _ _ HH'.out)
  rw [hBL] at HSM0 HH'
  clear hra hw4 hBL hBR HH HLA
  go_wp2_with fail
  refine HSM0.out.mono ?_
  rintro x w5 ⟨rfl, h5⟩
  have H5 := Lib.hid h5
  clear h5 HSM0
  go_wp2_with fail
  go_loopw [5] (fun i wr => ∃ (j : Nat) (v vr : Value), j ≤ l ∧ i = .int .i64 j ∧ H3 w wr w.heap.size BR (LS0.run (bs.take j)) (RS0.run (bs.take j)) v vr) (fun i _ => l - (intOf i).toNat)
  case atStart => exact ⟨0, _, _, Nat.zero_le _, rfl, H5.out⟩
  case round =>
    obtain ⟨j, v, vr, hj, rfl, h3⟩ := hrel
    have HR := Lib.hid h3; have HJ := Lib.hid hj
    have HBr := Lib.hid h3.below
    clear hj h3
    by_cases hlt : j < l
    · have i1 : (j : Int) < (l : Int) := by omega
      have i2 : (0 : Int) ≤ (j : Int) := by omega
      have hw : IntKind.i64.wrap ((j : Int) + 1) = (j : Int) + 1 := by rw [IntKind.wrap_i64]; have := HL.out; have := HLEN.out; omega
      obtain ⟨bk, off, rfl, hbk, hc⟩ := HS.out.at hlt
      obtain ⟨y, hy⟩ : ∃ y, y = bs[j]?.getD 0 := ⟨_, rfl⟩
      obtain ⟨n1, n2⟩ := HNXT.out j (by rw [← HLEN.out]; exact hlt)
      rw [← hy] at hc n1 n2
      obtain ⟨ev, hev⟩ : ∃ ev, ev = ((LS0.run (bs.take j)).hear y).2 := ⟨_, rfl⟩
      have HC := Lib.hid hc
      have HSS := Lib.hid (show ∀ u, Below w.heap.size w u → (Below w.heap.size w u ∧ u.cell? ⟨bk, off + j, none⟩ = some (.int .u8 (y : Int))) from fun u hu => ⟨hu, HC.out _ hu⟩)
      have HQ1 := Lib.hid (show ∀ u, H3 w u w.heap.size BR (LS0.run (bs.take j)) (RS0.run (bs.take j)) v vr → Calls Tryd.prog 39 #[.pointer (some ⟨w.heap.size, 0, none⟩), .int .u8 (y : Int)] u fun e w' => ∃ v', e = .returned (.int .i64 (ev : Int)) ∧ H3 w w' w.heap.size BR (LS0.run (bs.take (j + 1))) (RS0.run (bs.take j)) v' vr ∧ (Below w.heap.size w w' ∧ w'.cell? ⟨bk, off + j, none⟩ = some (.int .u8 (y : Int))) from fun u h => by
        have h := HSL.out w.heap.size BR j v vr u y h
        rw [← hev, n1] at h
        exact h.mono (fun e w' ⟨v', he, hh⟩ => ⟨v', he, hh, HSS.out _ hh.below⟩))
      have HQ2 := Lib.hid (show ∀ u v', H3 w u w.heap.size BR (LS0.run (bs.take (j + 1))) (RS0.run (bs.take j)) v' vr → Calls Tryd.prog 40 #[.pointer (some ⟨BR, 0, none⟩), .int .u8 (y : Int)] u fun e w' => ∃ vr', e = .returned (.int .i64 (ev : Int)) ∧ H3 w w' w.heap.size BR (LS0.run (bs.take (j + 1))) (RS0.run (bs.take (j + 1))) v' vr' ∧ (Below w.heap.size w w' ∧ w'.cell? ⟨bk, off + j, none⟩ = some (.int .u8 (y : Int))) from fun u v' h => by
        have h := HSR.out w.heap.size BR j v' vr u _ y h
        rw [← hev, n2] at h
        exact h.mono (fun e w' ⟨vr', he, hh⟩ => ⟨vr', he, hh, HSS.out _ hh.below⟩))
      have HQ3 := Lib.hid (show ∀ u v' vr', H3 w u w.heap.size BR (LS0.run (bs.take (j + 1))) (RS0.run (bs.take (j + 1))) v' vr' → Calls Tryd.prog 38 #[.pointer (some ⟨w.heap.size, 0, none⟩), .pointer (some ⟨BR, 0, none⟩)] u fun e w' => e = .returned (.bool true) ∧ H3 w w' w.heap.size BR (LS0.run (bs.take (j + 1))) (RS0.run (bs.take (j + 1))) v' vr' ∧ (Below w.heap.size w w' ∧ w'.cell? ⟨bk, off + j, none⟩ = some (.int .u8 (y : Int))) from fun u v' vr' h =>
        (HSM.out w.heap.size BR (j + 1) v' vr' u h).mono (fun e w' ⟨he, hh⟩ => ⟨he, hh, HSS.out _ hh.below⟩))
      have kne : ((ev : Int) != (ev : Int)) = false := by simp
      have k7 := HSS.out _ HBr.out
      have k8 := HSS.out _ HBr.out.drew
      have HLT := Lib.hid hlt
      clear hc hy hev n1 n2 hlt
      go_wp2_with fail
      go_cut [42] (fun s42 wx => s42 = .bool false ∧ ∃ v' vr', H3 w wx w.heap.size BR (LS0.run (bs.take (j + 1))) (RS0.run (bs.take (j + 1))) v' vr')
      case first =>
        go_region_held3 (fun u => (Below w.heap.size w u ∧ u.cell? ⟨bk, off + j, none⟩ = some (.int .u8 (y : Int)))) (first | (with_reducible assumption) | (with_reducible exact HSS.out _ (by assumption))) (first | (go_at_call 39; refine (HQ1.out _ (by first | exact HR.out | exact HR.out.on (Below.refl _ _).drew)).mono ?_; rintro e6 w6 ⟨v6, rfl, h6, h6S⟩) | (go_at_call 40; refine (HQ2.out _ _ (by first | exact h6 | exact h6.on (Below.refl _ _).drew)).mono ?_; rintro e7 w7 ⟨v7, rfl, h7, h7S⟩) | (go_at_call 38; refine (HQ3.out _ _ _ (by first | exact h7 | exact h7.on (Below.refl _ _).drew)).mono ?_; rintro e8 w8 ⟨rfl, h8, h8S⟩))
        all_goals (go_wp2_with fail; go_meet; exact ⟨rfl, _, _, h8⟩)
      case rest =>
      obtain ⟨rfl, v', vr', h9⟩ := hcut
      have H9 := Lib.hid h9
      clear h9 k7 k8
      go_wp2_with fail
      go_roundw
      case rel => exact ⟨j + 1, v', vr', HLT.out, by simp, H9.out⟩
      case measure => have := HLT.out; simp [intOf]; omega
    · obtain rfl : j = l := by have := HJ.out; omega
      have i1 : ¬ (j : Int) < (j : Int) := by omega
      clear hlt
      go_wp2_with fail
      refine (HLV.out _ HBr.out).mono ?_
      rintro x wz ⟨rfl, hbz⟩
      have HBZ := Lib.hid (below_trans' HBr.out hbz)
      clear hbz
      go_wp2_with fail
      go_ret
      exact ⟨rfl, HBZ.out⟩
theorem door_met (os : Os) (args : Array Value) : laidMetH Tryd.prog laidD ((World.doorLaid Tryd.prog 400 os).forCall (fun _ _ => 0) ⟨#[], args, []⟩).memory :=
  laidMetH_of_parts3 (fuel := 8) (laidMet_of_run' 8 (by kernel_rfl) (by kernel_rfl)) (by kernel_rfl) (by kernel_rfl)
set_option maxRecDepth 100000 in
theorem lifted (os : Os) (started : os.Started) (H : Type) (enc : TypeId × Value → H) :
    ReturnsInHanded {} Tryd.checked os 9 .any (fun w args => (Rows.listenHearsSpec.pre enc Tryd.prog Tryd.f9 [] false w args ∧ laidMetH Tryd.prog laidD w) ∧ sizedMet enc Tryd.prog Tryd.f9 (OpenSpec.ofChange Rows.listenHearsSpec) false w args)
      (Rows.listenHearsSpec.post enc Tryd.prog Tryd.f9 false true false false) := by
  refine returnsInHanded_of_change_and (C := Tryd.checked) (X := fun w _ => laidMetH Tryd.prog laidD w) (fun _ _ _ hh h => h.of_heap hh) own started (by kernel_rfl) Tryd.func9
    (ChangeSpec.witness_shaped (enc := enc) (C := Tryd.checked) (os := os) (X := fun w _ => laidMetH Tryd.prog laidD w) false (World.doorLaid Tryd.prog 400 os) #[.slice none 0 0] 8 rfl (World.shaped_of_RefB (by kernel_rfl) (by kernel_rfl)) (by kernel_rfl) (by kernel_rfl) (by kernel_rfl) (door_met os _)) ?_
  intro W base args ds gs before hval0 hW _ _ hL _
  have hval : ∀ (j : Nat) t v, Tryd.f9.params[j]? = some t → args[j]? = some v → Value.okWide Tryd.prog W .any base t v := hval0
  have hW' := hW
  obtain ⟨p, q, hA0, hV, rfl, hfz, hnd⟩ := hW
  have hA : DataW.TrodAll enc Tryd.prog W 0 (fun _ => true) true Tryd.f9.params.toList args.toList ds p := hA0
  rw [Tryd.params9] at hA hval
  obtain ⟨v0, vs0, d0, ds0, p0, q0, hargs, rfl, rfl, h0, r0⟩ := trodAll_cons hA
  obtain ⟨rfl, rfl, rfl⟩ := trodAll_nil r0
  obtain rfl : args = #[v0] := by cases args; simp_all
  obtain ⟨rfl, rfl⟩ := trodVars_none hV
  obtain ⟨a0, len0, cap0, rfl⟩ := okWide_slice Tryd.underlying28 (hval 0 28 v0 rfl rfl)
  have k0 := h0
  have lt0 : ∀ x ∈ p0, x.block < W.heap.size := by obtain ⟨m, hm⟩ := k0; exact DataW.trod_lt m _ _ _ hm
  obtain ⟨z0, w0⟩ : ∃ zs, IsRow W a0 len0 cap0 zs := by
    obtain ⟨fuel, hf⟩ := h0
    rcases open_ints Tryd.underlying28 Tryd.underlying5 (by kernel_rfl) hf with ⟨hcs, _⟩ | ⟨x, l, c, zs, hcs, _, hl, hm, hz, _, hcell, hwz⟩
    · simp [Value.cells] at hcs
      obtain ⟨rfl, rfl, rfl⟩ := hcs
      exact ⟨[], .inl ⟨rfl, rfl, rfl, rfl⟩⟩
    · simp [Value.cells] at hcs
      obtain ⟨rfl, rfl, rfl⟩ := hcs
      exact ⟨zs, .inr ⟨_, rfl, hl, hm, by simpa using hz, hcell, hwz⟩⟩
  clear hA0 hval0
  obtain ⟨hTab, hsz0⟩ := tab_of_laid hL
  refine (walk a0 len0 cap0 z0 W w0 hsz0 hTab).mono fun e W' ⟨he, bel⟩ => ?_
  subst he
  exact ⟨_, rfl, _, _, _, [], _, [], hW', trodAll_mk1 (shut_bool Tryd.underlying4 _), (trodAll_cons_mk (Below.trod laidOut (by kernel_rfl) (of_decide_eq_true (by kernel_rfl)) k0 bel lt0) trodAll_mk0), rfl, bel.frame _, fun h => by cases h⟩
theorem over : Rows.listenHearsRow.holds Tryd.pinned (OpenSpec.ofChange Rows.listenHearsSpec) :=
  OpenClaim.holds_of_wide 9 Tryd.f9 rfl rfl rfl rfl rfl rfl rfl ⟨rfl, rfl, rfl, rfl, rfl⟩ rfl rfl rfl rfl rfl (by kernel_rfl) Tryd.func9 (by kernel_rfl)
    (of_decide_eq_true (by kernel_rfl)) (by unfold Func.isWrapper; first | (rw [if_pos (by decide +kernel)]; kernel_rfl) | (rw [if_neg (by decide +kernel)]; exact ⟨rfl, rfl⟩))
    (fun os started H enc _ => lifted os started H enc)
/-- The statement: the row, and what it lists tied to the program's text. -/
theorem proved : Rows.ListenHearsCardSaid :=
  Claim7.holds_tied_plain_at .later [] [.data] true _ true
    over (fun _ h => by cases h) (by kernel_rfl) (fun _ h => by cases h) listenHears_row_tie rfl ⟨rfl, rfl⟩ (by kernel_rfl) rfl
    (fun f fn hf hfn => by
      obtain rfl : f = 9 := Option.some.inj ((show Tryd.prog.funcNamed "bellbuoy/bellbuoylaw08.ListenHears" = some 9 by kernel_rfl).symm.trans hf) |>.symm
      obtain rfl : fn = Tryd.f9 := (Option.some.inj (Tryd.func9.symm.trans hfn)).symm
      exact ⟨by kernel_rfl, fun j t ht => by
        rw [Tryd.params9] at ht
        have hm : t ∈ [28] := by simpa using Array.mem_of_getElem? ht
        have hall : ([28].all fun u => !Tryd.prog.wantsStandIn u) = true := by kernel_rfl
        exact (show Tryd.prog.wantsStandIn t = false by simpa using List.all_eq_true.1 hall t hm)⟩)
    (by kernel_rfl)
end Go.Proofs.YtndjennhbggoiaaDoor.listenHears
