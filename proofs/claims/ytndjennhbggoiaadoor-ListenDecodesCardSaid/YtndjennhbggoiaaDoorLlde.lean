/- The statement of P8.4 and P8.5 (ListenDecodes): what is told bad is what is refused of the bits as a whole, at the same one, but for the last one. Conditions: the divisor's cells hold what the program's own text lays in them (tied). -/
import Derived.Test.YtndjennhbggoiaaDoorRows
import Derived.Test.YtndjennhbggoiaaDoorLij
import Derived.Test.YtndjennhbggoiaaDoorLik
import Derived.Test.YtndjennhbggoiaaDoorBat
import Derived.WalkKit
import Derived.ProofKit
import Derived.OpenShut
import Derived.ShutString
import Derived.ChangeOld
import Derived.Below
namespace Go.Proofs.YtndjennhbggoiaaDoor.listenDecodes
open Go.ChangeShapes Go.WideShapes Go.ChangeAt Go.RowKit
theorem own : ownKnob Tryd.prog.godebug = none := by kernel_rfl
theorem laidOut : laidOutB Tryd.prog = true := by kernel_rfl
set_option maxRecDepth 100000 in
set_option maxHeartbeats 16000000 in
theorem walk (a1 : Option Addr) (len1 cap1 : Nat) (z1 : List Int) (w : World) (w1 : IsRow w a1 len1 cap1 z1) (h0 : 0 < w.heap.size) (hT : Tab w) :
    Calls Tryd.prog 11 #[.slice a1 len1 cap1] w fun e w' => e = .returned (.bool true) ∧ Below w.heap.size w w' := by
  obtain ⟨bs0, _, hI⟩ := isRow_str w1
  have HFW := Lib.hid (few3_any a1 len1 cap1 bs0 w hI)
  have HLV := Lib.hid (fun u (hu : Below w.heap.size w u) => live8 u (Nat.lt_of_lt_of_le h0 hu.size) (hT.onB hu h0))
  obtain ⟨bs, hbs⟩ : ∃ bs, bs = bs0.take 200 := ⟨_, rfl⟩
  have hl : bs.length ≤ 200 := by rw [hbs, List.length_take]; omega
  rw [← hbs] at HFW
  obtain ⟨e, n, q, m, data, hdc, hd8, _⟩ := dc_form (bitsOf bs)
  have HFI := Lib.hid (fits_all bs)
  obtain ⟨p, hp⟩ : ∃ p, p = (decB (bitsOf bs)).2.1 := ⟨_, rfl⟩
  obtain ⟨c, hc⟩ : ∃ c, c = (decB (bitsOf bs)).1 := ⟨_, rfl⟩
  have hp200 : p ≤ 1000 := by have := dec_at bs; omega
  rw [← hp, ← hc] at hdc HFI
  obtain ⟨x0, x1, x2, x3, x4, x5, x6, x7, rfl⟩ := eight hd8
  simp only [frameV, frameC, List.map] at hdc
  have HRD := Lib.hid (show ∀ u, ∀ a l c', Str u.heap.size u (.slice a l c') bs → Calls Tryd.prog 34 #[.slice a l c'] u fun x w' => x = .returned (.tuple #[.agg #[.bool e, .int .u32 (n : Int), .bool q, .int .i64 (m : Int), .int .u8 (x0 : Int), .int .u8 (x1 : Int), .int .u8 (x2 : Int), .int .u8 (x3 : Int), .int .u8 (x4 : Int), .int .u8 (x5 : Int), .int .u8 (x6 : Int), .int .u8 (x7 : Int)], .int .i64 (p : Nat), .int .i64 (c : Nat)]) ∧ Below u.heap.size u w' from fun u a l c' hs => by
    have h := ref7Decode_any a l c' bs (by omega) u hs
    rw [hdc] at h
    exact h)
  have HL := Lib.hid hl; have HG0 := Lib.hid h0; have HTT := Lib.hid hT
  obtain ⟨p1, hp1⟩ : ∃ p1, p1 = (p : Int) - 1 := ⟨_, rfl⟩
  have hw1 : IntKind.i64.wrap ((p : Int) - 1) = p1 := by rw [IntKind.wrap_i64]; omega
  have HP1 := Lib.hid hp1
  clear hI hbs hl hdc hp hc hd8 h0 hT w1 hp1
  go_enter Tryd.func11, Tryd.ntmps11
  go_wp2_with fail
  refine HFW.out.mono ?_
  rintro x w2 ⟨⟨a, l, cc, rfl, hs⟩, rfl⟩
  have HS := Lib.hid hs
  have HLEN := Lib.hid hs.len
  clear hs HFW
  go_wp2_with fail
  refine (HRD.out _ a l cc HS.out).mono ?_
  rintro x w3 ⟨rfl, hb3⟩
  have HB3 := Lib.hid (show Below w.heap.size w (w3.alloc (.cells #[.bool e, .int .u32 (n : Int), .bool q, .int .i64 (m : Int), .int .u8 (x0 : Int), .int .u8 (x1 : Int), .int .u8 (x2 : Int), .int .u8 (x3 : Int), .int .u8 (x4 : Int), .int .u8 (x5 : Int), .int .u8 (x6 : Int), .int .u8 (x7 : Int)] 27)) from hb3.alloc hb3.size _)
  obtain ⟨W4, hW4⟩ : ∃ W4, W4 = w3.alloc (.cells #[.bool e, .int .u32 (n : Int), .bool q, .int .i64 (m : Int), .int .u8 (x0 : Int), .int .u8 (x1 : Int), .int .u8 (x2 : Int), .int .u8 (x3 : Int), .int .u8 (x4 : Int), .int .u8 (x5 : Int), .int .u8 (x6 : Int), .int .u8 (x7 : Int)] 27) := ⟨_, rfl⟩
  rw [← hW4] at HB3
  clear hb3 HRD
  go_upto_region 3 with fail
  rw [← hW4]
  clear hW4
  go_wp2_with fail
  refine (lnew_any _).mono ?_
  rintro x w5 ⟨rfl, hla, hw5⟩
  obtain ⟨B1, hB1⟩ : ∃ B1, B1 = W4.heap.size := ⟨_, rfl⟩
  rw [← hB1] at hla ⊢
  have HB5 := Lib.hid (show Below w.heap.size w w5 by rw [hw5]; exact HB3.out.alloc HB3.out.size _)
  have HLA5 := Lib.hid hla
  have HBB := Lib.hid (show w.heap.size ≤ B1 by rw [hB1]; exact HB3.out.size)
  clear hla hw5 hB1
  go_wp2_with fail
  go_loopw [7, 8, 9, 10] (fun tv wv vv i wr => ∃ (j : Nat) (v' : Value), j ≤ l ∧ i = .int .i64 j ∧ (tv = .int .i64 (((tells bs j).1 : Nat) : Int) ∧ wv = .int .i64 (tells bs j).2.1 ∧ vv = .bool (tells bs j).2.2) ∧ Hr w5 B1 bs j wr v') (fun _ _ _ i _ => l - (intOf i).toNat)
  case atStart => exact ⟨0, _, Nat.zero_le _, rfl, ⟨rfl, rfl, rfl⟩, Hr.start HLA5.out⟩
  case round =>
    obtain ⟨j, v', hj, rfl, ⟨rfl, rfl, rfl⟩, hhr⟩ := hrel
    have HHR := Lib.hid hhr; have HJ := Lib.hid hj
    have hge := hhr.ge HLA5.out.lt
    have HBr := Lib.hid (show Below w.heap.size w wr from HB5.out.trans (hge.mono HBB.out))
    have HSr := Lib.hid ((HS.out.below HBr.out).mono HBr.out.size)
    obtain ⟨tv, htv⟩ : ∃ tv, tv = (tells bs j).1 := ⟨_, rfl⟩
    obtain ⟨wv, hwv⟩ : ∃ wv, wv = (tells bs j).2.1 := ⟨_, rfl⟩
    obtain ⟨vv, hvv⟩ : ∃ vv, vv = (tells bs j).2.2 := ⟨_, rfl⟩
    have HTV := Lib.hid (show tells bs j = (tv, wv, vv) by rw [htv, hwv, hvv])
    rw [← htv, ← hwv, ← hvv]
    clear hhr hj hge htv hwv hvv
    by_cases hlt : j < l
    · have i1 : (j : Int) < (l : Int) := by omega
      have i2 : (0 : Int) ≤ (j : Int) := by omega
      have hw : IntKind.i64.wrap ((j : Int) + 1) = (j : Int) + 1 := by rw [IntKind.wrap_i64]; have := HL.out; have := HLEN.out; omega
      obtain ⟨bk, off, rfl, hbk, hc⟩ := HSr.out.at hlt
      have c0 := hc _ (Below.refl _ _)
      have HST := Lib.hid (Hr.step HHR.out (by rw [← HLEN.out]; exact hlt) (by have := HL.out; omega) (Nat.lt_of_lt_of_le HG0.out HBB.out) HLA5.out.lt (HTT.out.onB HB5.out HG0.out))
      obtain ⟨ev, hev⟩ : ∃ ev, ev = evL bs j := ⟨_, rfl⟩
      rw [show ((LS0.run (bs.take j)).hear (bs[j]?.getD 0)).2 = ev from hev.symm] at HST
      have HTN := Lib.hid (show tells bs (j + 1) = tell (tv, wv, vv) j ev by
        show tell (tells bs j) j (evL bs j) = _
        rw [HTV.out, hev])
      have HON := Lib.hid (show ev ≠ 0 → ev ≠ 4 → tv = 0 from fun h1 h2 => by
        have := HFI.out.1 j (by rw [← HLEN.out]; exact hlt) (by rw [← hev]; exact h1) (by rw [← hev]; exact h2)
        rw [HTV.out] at this
        exact this)
      obtain ⟨y, hy⟩ : ∃ y, y = bs[j]?.getD 0 := ⟨_, rfl⟩
      rw [← hy] at c0 HST
      have HLT := Lib.hid hlt
      clear hc hy hlt hev
      have hways : ev = 4 ∨ ev = 0 ∨ (ev ≠ 4 ∧ ev ≠ 0) := by omega
      rcases hways with h4 | h4 | ⟨h4, h5⟩
      · have k4 : ((ev : Int) == 4) = true := by rw [h4]; rfl
        have HNX := Lib.hid (show tells bs (j + 1) = (tv, wv, true) by rw [HTN.out, h4]; rfl)
        clear h4
        go_wp2_with fail
        refine HST.out.mono ?_
        rintro y' w6 ⟨v2, rfl, h3⟩
        have H3 := Lib.hid h3
        clear h3 c0
        go_wp2_with fail
        go_roundw
        case rel => exact ⟨j + 1, v2, HLT.out, by simp, by rw [HNX.out]; exact ⟨rfl, rfl, rfl⟩, H3.out⟩
        case measure => have := HLT.out; simp [intOf]; omega
      · have k4 : ((ev : Int) == 4) = false := by rw [h4]; rfl
        have k0 : ((ev : Int) != 0) = false := by rw [h4]; rfl
        have HNX := Lib.hid (show tells bs (j + 1) = (tv, wv, vv) by rw [HTN.out, h4]; rfl)
        clear h4
        go_wp2_with fail
        refine HST.out.mono ?_
        rintro y' w6 ⟨v2, rfl, h3⟩
        have H3 := Lib.hid h3
        clear h3 c0
        go_wp2_with fail
        go_roundw
        case rel => exact ⟨j + 1, v2, HLT.out, by simp, by rw [HNX.out]; exact ⟨rfl, rfl, rfl⟩, H3.out⟩
        case measure => have := HLT.out; simp [intOf]; omega
      · have k4 : ((ev : Int) == 4) = false := by rw [beq_eq_false_iff_ne]; omega
        have k0 : ((ev : Int) != 0) = true := by simp; omega
        have kt : ((tv : Int) != 0) = false := by rw [HON.out h5 h4]; rfl
        have HNX := Lib.hid (show tells bs (j + 1) = (ev, (j : Int), vv) by rw [HTN.out]; unfold tell; rw [if_neg h4, if_neg h5])
        clear h4 h5
        go_wp2_with fail
        refine HST.out.mono ?_
        rintro y' w6 ⟨v2, rfl, h3⟩
        have H3 := Lib.hid h3
        clear h3 c0
        go_wp2_with fail
        go_roundw
        case rel => exact ⟨j + 1, v2, HLT.out, by simp, by rw [HNX.out]; exact ⟨rfl, rfl, rfl⟩, H3.out⟩
        case measure => have := HLT.out; simp [intOf]; omega
    · obtain rfl : j = l := by have := HJ.out; omega
      have i1 : ¬ (j : Int) < (j : Int) := by omega
      obtain ⟨_, hcs, f0, f2, f4, f5, f3⟩ := HFI.out
      rw [← HLEN.out, HTV.out] at f0 f2 f4 f5 f3
      have HF0 := Lib.hid f0; have HF2 := Lib.hid f2; have HF4 := Lib.hid f4; have HF5 := Lib.hid f5; have HF3 := Lib.hid f3
      clear f0 f2 f4 f5 f3 hlt
      rcases hcs with rfl | rfl | rfl | rfl | rfl
      · obtain ⟨_, h⟩ := HF0.out rfl
        injection h with h1 h
        injection h with h2 h3
        rw [← HP1.out] at h2
        subst h1 h2 h3
        go_wp2_with fail
        refine (HLV.out _ HBr.out).mono ?_
        rintro x wz ⟨rfl, hbz⟩
        have HBZ := Lib.hid (below_trans' HBr.out hbz)
        clear hbz
        go_wp2_with fail
        go_ret
        exact ⟨rfl, HBZ.out⟩
      · have h1 : tv = 0 := HF2.out rfl
        subst h1
        go_wp2_with fail
        refine (HLV.out _ HBr.out).mono ?_
        rintro x wz ⟨rfl, hbz⟩
        have HBZ := Lib.hid (below_trans' HBr.out hbz)
        clear hbz
        go_wp2_with fail
        go_ret
        exact ⟨rfl, HBZ.out⟩
      · have h := HF3.out rfl
        have h' : (tv = 2 ∧ wv = (p : Int) ∧ vv = false) ∨ (tv = 6 ∧ wv = (p : Int) ∧ vv = true) := by
          rcases h with h | h <;> injection h with h1 h <;> injection h with h2 h3
          · exact .inl ⟨h1, h2, h3⟩
          · exact .inr ⟨h1, h2, h3⟩
        clear h
        rcases h' with ⟨rfl, rfl, rfl⟩ | ⟨rfl, rfl, rfl⟩
        · go_wp2_with fail
          refine (HLV.out _ HBr.out).mono ?_
          rintro x wz ⟨rfl, hbz⟩
          have HBZ := Lib.hid (below_trans' HBr.out hbz)
          clear hbz
          go_wp2_with fail
          go_ret
          exact ⟨rfl, HBZ.out⟩
        · go_wp2_with fail
          refine (HLV.out _ HBr.out).mono ?_
          rintro x wz ⟨rfl, hbz⟩
          have HBZ := Lib.hid (below_trans' HBr.out hbz)
          clear hbz
          go_wp2_with fail
          go_ret
          exact ⟨rfl, HBZ.out⟩
      · have h := HF4.out rfl
        injection h with h1 h
        injection h with h2 h3
        subst h1 h2 h3
        go_wp2_with fail
        refine (HLV.out _ HBr.out).mono ?_
        rintro x wz ⟨rfl, hbz⟩
        have HBZ := Lib.hid (below_trans' HBr.out hbz)
        clear hbz
        go_wp2_with fail
        go_ret
        exact ⟨rfl, HBZ.out⟩
      · have h := HF5.out rfl
        injection h with h1 h
        injection h with h2 h3
        subst h1 h2 h3
        go_wp2_with fail
        refine (HLV.out _ HBr.out).mono ?_
        rintro x wz ⟨rfl, hbz⟩
        have HBZ := Lib.hid (below_trans' HBr.out hbz)
        clear hbz
        go_wp2_with fail
        go_ret
        exact ⟨rfl, HBZ.out⟩
theorem door_met (os : Os) (args : Array Value) : laidMetH Tryd.prog laidD ((World.doorLaid Tryd.prog 400 os).forCall (fun _ _ => 0) ⟨#[], args, []⟩).memory :=
  laidMetH_of_parts3 (fuel := 8) (laidMet_of_run' 8 (by kernel_rfl) (by kernel_rfl)) (by kernel_rfl) (by kernel_rfl)
set_option maxRecDepth 100000 in
theorem lifted (os : Os) (started : os.Started) (H : Type) (enc : TypeId × Value → H) :
    ReturnsInHanded {} Tryd.checked os 11 .any (fun w args => (Rows.listenDecodesSpec.pre enc Tryd.prog Tryd.f11 [] false w args ∧ laidMetH Tryd.prog laidD w) ∧ sizedMet enc Tryd.prog Tryd.f11 (OpenSpec.ofChange Rows.listenDecodesSpec) false w args)
      (Rows.listenDecodesSpec.post enc Tryd.prog Tryd.f11 false true false false) := by
  refine returnsInHanded_of_change_and (C := Tryd.checked) (X := fun w _ => laidMetH Tryd.prog laidD w) (fun _ _ _ hh h => h.of_heap hh) own started (by kernel_rfl) Tryd.func11
    (ChangeSpec.witness_shaped (enc := enc) (C := Tryd.checked) (os := os) (X := fun w _ => laidMetH Tryd.prog laidD w) false (World.doorLaid Tryd.prog 400 os) #[.slice none 0 0] 8 rfl (World.shaped_of_RefB (by kernel_rfl) (by kernel_rfl)) (by kernel_rfl) (by kernel_rfl) (by kernel_rfl) (door_met os _)) ?_
  intro W base args ds gs before hval0 hW _ _ hL _
  have hval : ∀ (j : Nat) t v, Tryd.f11.params[j]? = some t → args[j]? = some v → Value.okWide Tryd.prog W .any base t v := hval0
  have hW' := hW
  obtain ⟨p, q, hA0, hV, rfl, hfz, hnd⟩ := hW
  have hA : DataW.TrodAll enc Tryd.prog W 0 (fun _ => true) true Tryd.f11.params.toList args.toList ds p := hA0
  rw [Tryd.params11] at hA hval
  obtain ⟨v0, vs0, d0, ds0, p0, q0, hargs, rfl, rfl, h0, r0⟩ := trodAll_cons hA
  obtain ⟨rfl, rfl, rfl⟩ := trodAll_nil r0
  obtain rfl : args = #[v0] := by cases args; simp_all
  obtain ⟨rfl, rfl⟩ := trodVars_none hV
  obtain ⟨a0, len0, cap0, rfl⟩ := okWide_slice Tryd.underlying28 (hval 0 28 v0 rfl rfl)
  have k0 := h0
  have lt0 : ∀ x ∈ p0, x.block < W.heap.size := by obtain ⟨m, hm⟩ := k0; exact DataW.trod_lt m _ _ _ hm
  obtain ⟨z0, w0⟩ : ∃ zs, IsRow W a0 len0 cap0 zs := by
    obtain ⟨fuel, hf⟩ := h0
    rcases open_ints Tryd.underlying28 Tryd.underlying5 (by kernel_rfl) hf with ⟨hcs, _⟩ | ⟨x, l, c, zs, hcs, _, hl, hm, hz, _, hcell, hwz⟩
    · simp [Value.cells] at hcs
      obtain ⟨rfl, rfl, rfl⟩ := hcs
      exact ⟨[], .inl ⟨rfl, rfl, rfl, rfl⟩⟩
    · simp [Value.cells] at hcs
      obtain ⟨rfl, rfl, rfl⟩ := hcs
      exact ⟨zs, .inr ⟨_, rfl, hl, hm, by simpa using hz, hcell, hwz⟩⟩
  clear hA0 hval0
  obtain ⟨hTab, hsz0⟩ := tab_of_laid hL
  refine (walk a0 len0 cap0 z0 W w0 hsz0 hTab).mono fun e W' ⟨he, bel⟩ => ?_
  subst he
  exact ⟨_, rfl, _, _, _, [], _, [], hW', trodAll_mk1 (shut_bool Tryd.underlying4 _), (trodAll_cons_mk (Below.trod laidOut (by kernel_rfl) (of_decide_eq_true (by kernel_rfl)) k0 bel lt0) trodAll_mk0), rfl, bel.frame _, fun h => by cases h⟩
theorem over : Rows.listenDecodesRow.holds Tryd.pinned (OpenSpec.ofChange Rows.listenDecodesSpec) :=
  OpenClaim.holds_of_wide 11 Tryd.f11 rfl rfl rfl rfl rfl rfl rfl ⟨rfl, rfl, rfl, rfl, rfl⟩ rfl rfl rfl rfl rfl (by kernel_rfl) Tryd.func11 (by kernel_rfl)
    (of_decide_eq_true (by kernel_rfl)) (by unfold Func.isWrapper; first | (rw [if_pos (by decide +kernel)]; kernel_rfl) | (rw [if_neg (by decide +kernel)]; exact ⟨rfl, rfl⟩))
    (fun os started H enc _ => lifted os started H enc)
/-- The statement: the row, and what it lists tied to the program's text. -/
theorem proved : Rows.ListenDecodesCardSaid :=
  Claim7.holds_tied_plain_at .later [] [.data] true _ true
    over (fun _ h => by cases h) (by kernel_rfl) (fun _ h => by cases h) listenDecodes_row_tie rfl ⟨rfl, rfl⟩ (by kernel_rfl) rfl
    (fun f fn hf hfn => by
      obtain rfl : f = 11 := Option.some.inj ((show Tryd.prog.funcNamed "bellbuoy/bellbuoylaw08.ListenDecodes" = some 11 by kernel_rfl).symm.trans hf) |>.symm
      obtain rfl : fn = Tryd.f11 := (Option.some.inj (Tryd.func11.symm.trans hfn)).symm
      exact ⟨by kernel_rfl, fun j t ht => by
        rw [Tryd.params11] at ht
        have hm : t ∈ [28] := by simpa using Array.mem_of_getElem? ht
        have hall : ([28].all fun u => !Tryd.prog.wantsStandIn u) = true := by kernel_rfl
        exact (show Tryd.prog.wantsStandIn t = false by simpa using List.all_eq_true.1 hall t hm)⟩)
    (by kernel_rfl)
end Go.Proofs.YtndjennhbggoiaaDoor.listenDecodes
