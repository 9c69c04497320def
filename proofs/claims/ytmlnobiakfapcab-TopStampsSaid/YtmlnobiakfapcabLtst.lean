/- TopStamps (E2): a frame that was got has the count of its first bit, and of its end; both are told again by their lowest bits: of every ticks, first bit, and length. No conditions. -/
import Derived.Test.YtmlnobiakfapcabRows
import Derived.Test.YtmlnobiakfapcabCad
import Derived.Deep.RegionHeld3
import Derived.Deep.DeepCutAuto
import Derived.WalkKit
import Derived.ProofKit
import Derived.OpenShut
import Derived.ShutString
import Derived.ChangeOld
import Derived.Below
namespace Go.Proofs.Ytmlnobiakfapcab.topStamps
open Go.ChangeShapes Go.WideShapes Go.ChangeAt Go.RowKit
theorem own : ownKnob Try.prog.godebug = none := by kernel_rfl
theorem laidOut : laidOutB Try.prog = true := by kernel_rfl
theorem store17 {W : World} {H : Nat} (h : Blk W H 43 [.bool false, .bool false, .bool false, .bool false, .int .i64 0, .bool false, .int .u32 0, .bool false, .int .i64 0, .int .u8 0, .int .u8 0, .int .u8 0, .int .u8 0, .int .u8 0, .int .u8 0, .int .u8 0, .int .u8 0]) : ∃ W6, W6 = (((((((((((((((((W.setCell ⟨H, 0, none⟩ (.bool false)).setCell ⟨H, 1, none⟩ (.bool false)).setCell ⟨H, 2, none⟩ (.bool false)).setCell ⟨H, 3, none⟩ (.bool true)).setCell ⟨H, 4, none⟩ (.int .i64 0)).setCell ⟨H, 5, none⟩ (.bool false)).setCell ⟨H, 6, none⟩ (.int .u32 0)).setCell ⟨H, 7, none⟩ (.bool false)).setCell ⟨H, 8, none⟩ (.int .i64 0)).setCell ⟨H, 9, none⟩ (.int .u8 0)).setCell ⟨H, 10, none⟩ (.int .u8 0)).setCell ⟨H, 11, none⟩ (.int .u8 0)).setCell ⟨H, 12, none⟩ (.int .u8 0)).setCell ⟨H, 13, none⟩ (.int .u8 0)).setCell ⟨H, 14, none⟩ (.int .u8 0)).setCell ⟨H, 15, none⟩ (.int .u8 0)).setCell ⟨H, 16, none⟩ (.int .u8 0)) ∧ Blk W6 H 43 [.bool false, .bool false, .bool false, .bool true, .int .i64 0, .bool false, .int .u32 0, .bool false, .int .i64 0, .int .u8 0, .int .u8 0, .int .u8 0, .int .u8 0, .int .u8 0, .int .u8 0, .int .u8 0, .int .u8 0] ∧ W6.heap.size = W.heap.size ∧ (∀ g, g ≠ H → W6.heap[g]? = W.heap[g]?) ∧ Below H W W6 := by
  refine ⟨_, rfl, ?_, by simp only [setCell_sizeG], fun g hg => ?_, (((((((((((((((((Below.refl H W).setCell (p := ⟨H, 0, none⟩) (Nat.le_refl H) (.bool false)).setCell (p := ⟨H, 1, none⟩) (Nat.le_refl H) (.bool false)).setCell (p := ⟨H, 2, none⟩) (Nat.le_refl H) (.bool false)).setCell (p := ⟨H, 3, none⟩) (Nat.le_refl H) (.bool true)).setCell (p := ⟨H, 4, none⟩) (Nat.le_refl H) (.int .i64 0)).setCell (p := ⟨H, 5, none⟩) (Nat.le_refl H) (.bool false)).setCell (p := ⟨H, 6, none⟩) (Nat.le_refl H) (.int .u32 0)).setCell (p := ⟨H, 7, none⟩) (Nat.le_refl H) (.bool false)).setCell (p := ⟨H, 8, none⟩) (Nat.le_refl H) (.int .i64 0)).setCell (p := ⟨H, 9, none⟩) (Nat.le_refl H) (.int .u8 0)).setCell (p := ⟨H, 10, none⟩) (Nat.le_refl H) (.int .u8 0)).setCell (p := ⟨H, 11, none⟩) (Nat.le_refl H) (.int .u8 0)).setCell (p := ⟨H, 12, none⟩) (Nat.le_refl H) (.int .u8 0)).setCell (p := ⟨H, 13, none⟩) (Nat.le_refl H) (.int .u8 0)).setCell (p := ⟨H, 14, none⟩) (Nat.le_refl H) (.int .u8 0)).setCell (p := ⟨H, 15, none⟩) (Nat.le_refl H) (.int .u8 0)).setCell (p := ⟨H, 16, none⟩) (Nat.le_refl H) (.int .u8 0)⟩
  · have h2 := (((((((((((((((((h.put1 (i := 0) (by simp) (.bool false)).put1 (i := 1) (by simp) (.bool false)).put1 (i := 2) (by simp) (.bool false)).put1 (i := 3) (by simp) (.bool true)).put1 (i := 4) (by simp) (.int .i64 0)).put1 (i := 5) (by simp) (.bool false)).put1 (i := 6) (by simp) (.int .u32 0)).put1 (i := 7) (by simp) (.bool false)).put1 (i := 8) (by simp) (.int .i64 0)).put1 (i := 9) (by simp) (.int .u8 0)).put1 (i := 10) (by simp) (.int .u8 0)).put1 (i := 11) (by simp) (.int .u8 0)).put1 (i := 12) (by simp) (.int .u8 0)).put1 (i := 13) (by simp) (.int .u8 0)).put1 (i := 14) (by simp) (.int .u8 0)).put1 (i := 15) (by simp) (.int .u8 0)).put1 (i := 16) (by simp) (.int .u8 0))
    exact h2
  · rw [Below.heap_setCell _ ⟨H, 16, none⟩ _ g hg, Below.heap_setCell _ ⟨H, 15, none⟩ _ g hg, Below.heap_setCell _ ⟨H, 14, none⟩ _ g hg, Below.heap_setCell _ ⟨H, 13, none⟩ _ g hg, Below.heap_setCell _ ⟨H, 12, none⟩ _ g hg, Below.heap_setCell _ ⟨H, 11, none⟩ _ g hg, Below.heap_setCell _ ⟨H, 10, none⟩ _ g hg, Below.heap_setCell _ ⟨H, 9, none⟩ _ g hg, Below.heap_setCell _ ⟨H, 8, none⟩ _ g hg, Below.heap_setCell _ ⟨H, 7, none⟩ _ g hg, Below.heap_setCell _ ⟨H, 6, none⟩ _ g hg, Below.heap_setCell _ ⟨H, 5, none⟩ _ g hg, Below.heap_setCell _ ⟨H, 4, none⟩ _ g hg, Below.heap_setCell _ ⟨H, 3, none⟩ _ g hg, Below.heap_setCell _ ⟨H, 2, none⟩ _ g hg, Below.heap_setCell _ ⟨H, 1, none⟩ _ g hg, Below.heap_setCell _ ⟨H, 0, none⟩ _ g hg]
theorem meas_ts {k i : Nat} (z : Int) (h : z = ((i + 1 : Nat) : Int)) (hik : i ≤ k) : k + 1 - z.toNat < k + 1 - ((i : Nat) : Int).toNat := by
  rw [h, Int.toNat_natCast, Int.toNat_natCast]; omega
theorem below_of2 {N : Nat} {w W y : World} (h : Below N w W) (hN : N ≤ W.heap.size) (hy : Below W.heap.size W y) : Below N w y := h.trans (hy.mono hN)
theorem back_t {now d P s : Int} (_hP : 0 < P) (h0 : 0 ≤ d) (h1 : d < P) (hs : s = (now - d) % P) : (now - s) % P = d := by
  have e := Int.mul_ediv_add_emod (now - d) P
  have e2 : now - s = d + P * ((now - d) / P) := by rw [hs]; omega
  rw [e2, Int.add_mul_emod_self_left, Int.emod_eq_of_lt h0 h1]
set_option maxRecDepth 100000 in
set_option maxHeartbeats 64000000 in
theorem walk (a0 : Option Addr) (len0 cap0 : Nat) (z0 : List Int) (a1 a2 : Int) (w : World) (w0 : RowI .u16 w a0 len0 cap0 z0) (w1 : (Lit.int .u8 a1).wf = true) (w2 : (Lit.int .u8 a2).wf = true) :
    Calls Try.prog 3 #[.slice a0 len0 cap0, .int .u8 a1, .int .u8 a2] w fun y w' => y = .returned (.bool true) ∧ Below w.heap.size w w' := by
  obtain ⟨hrow, _, _⟩ := rowI_at w0
  have HROW := Lib.hid hrow
  have hr1 : 0 ≤ a1 ∧ a1 ≤ 255 := by
    simp [Lit.wf, IntKind.min, IntKind.max, IntKind.bits, IntKind.signed] at w1
    omega
  have hr2 : 0 ≤ a2 ∧ a2 ≤ 255 := by
    simp [Lit.wf, IntKind.min, IntKind.max, IntKind.bits, IntKind.signed] at w2
    omega
  have hwa : wrap64 a1 = a1 := w64_in _ (by omega)
  have hwb : wrap64 a2 = a2 := w64_in _ (by omega)
  obtain ⟨fr, hfr⟩ : ∃ fr : Nat, (fr : Int) = a1.tmod 20 := ⟨(a1.tmod 20).toNat, by rw [Int.tmod_eq_emod_of_nonneg hr1.1]; omega⟩
  obtain ⟨lg, hlg⟩ : ∃ lg : Nat, (lg : Int) = a2.tmod 20 := ⟨(a2.tmod 20).toNat, by rw [Int.tmod_eq_emod_of_nonneg hr2.1]; omega⟩
  have hfr2 : fr < 20 := by rw [Int.tmod_eq_emod_of_nonneg hr1.1] at hfr; omega
  have hlg2 : lg < 20 := by rw [Int.tmod_eq_emod_of_nonneg hr2.1] at hlg; omega
  have hf1 : a1.tmod 20 = (fr : Int) := hfr.symm
  have hf2 : a2.tmod 20 = (lg : Int) := hlg.symm
  obtain ⟨mm, hmm⟩ : ∃ mm : Nat, mm = fr + lg := ⟨_, rfl⟩
  obtain ⟨en, hen⟩ : ∃ en : Nat, en = mm + 1 := ⟨_, rfl⟩
  have hs1 : wrap64 ((fr : Int) + (lg : Int)) = (mm : Int) := (w64_in ((fr : Int) + (lg : Int)) (by clear hf1 hf2 hwa hwb hfr hlg; omega)).trans (by clear hf1 hf2 hwa hwb hfr hlg; omega)
  have hs2 : wrap64 ((mm : Int) + 1) = (en : Int) := (w64_in ((mm : Int) + 1) (by clear hf1 hf2 hwa hwb hfr hlg hs1; omega)).trans (by clear hf1 hf2 hwa hwb hfr hlg hs1; omega)
  have HFE := Lib.hid (show fr < en by clear hf1 hf2 hwa hwb hfr hlg hs1 hs2; omega)
  have HEN := Lib.hid (show en ≤ 40 ∧ en ≤ fr + 20 by clear hf1 hf2 hwa hwb hfr hlg hs1 hs2; omega)
  have HN := Lib.hid (cnew_any 1 2 (by decide) (by decide) (by decide) (by decide) [] none 0 0 (by decide) w (rd_nil w) (fun g hg => by cases hg))
  have HO := Lib.hid (fun y => onew_yes 1000 999 (by decide) (by decide +kernel) y)
  clear hrow w0 w1 w2 hr1 hr2 hfr hlg hfr2 hlg2 hmm hen
  go_enter Try.func3, Try.ntmps3
  go_wp2_with fail
  refine HN.out.mono ?_
  rintro y w1 ⟨K, rfl, B, I, fv, hC, hF, hb⟩
  have HC1 := Lib.hid hC; have HF1 := Lib.hid hF; have HB1 := Lib.hid hb
  clear hC hF hb HN
  go_wp2_with fail
  refine (HO.out _).mono ?_
  rintro y w2 ⟨O, rfl, hO, hOO, hb⟩
  have HO2 := Lib.hid hO; have HOO := Lib.hid hOO; have HC2 := Lib.hid (HC1.out.on hb); have HB2 := Lib.hid (below_transG HB1.out hb)
  clear hO hOO hb HO
  obtain ⟨W3, hW3⟩ : ∃ W3, W3 = w2.alloc (.cells #[.int .i64 0, .int .i64 0] 32) := ⟨_, rfl⟩
  obtain ⟨M, hM⟩ : ∃ M, M = w2.heap.size := ⟨_, rfl⟩
  have hb3 : Below w2.heap.size w2 W3 := by rw [hW3]; exact (Below.refl _ w2).alloc (Nat.le_refl _) _
  have hM3 := (show Blk W3 M 32 [.int .i64 0, .int .i64 0] by rw [hW3, hM]; exact Blk.new w2 _ [.int .i64 0, .int .i64 0])
  have HB3 := Lib.hid (below_transG HB2.out hb3)
  have hl1 := HO2.out.lt
  have hl2 := HB1.out.size
  have hl3 := HB2.out.size
  have hl4 := HOO.out
  have HI3 := Lib.hid (show TW w.heap.size W3 K B I O M fv (.slice none 0 0) (.slice none 0 0) (CD.new 1 2 []) 0 false 0 0 from ⟨HC2.out.on hb3, HO2.out.on hb3, hM3, HF1.out, by omega, by omega, by omega, fun hf => by have := HC1.out.lt hf; omega, fun hf => by have := HC2.out.lt hf; omega, by have := hb3.size; omega⟩)
  clear hb3 hM3 hl1 hl2 hl3 hl4
  go_upto_region 7 with fail
  rw [← hW3, ← hM]
  clear hW3 hM HC1 HF1 HB1 HO2 HOO HC2 HB2
  go_wp2_with fail
  rw [hs2]
  clear hs2
  go_loopw [14] (fun s14 wr => ∃ (i : Nat) (s : CD) (c : Int) (u : Bool) (m0 m1 : Int) (v : Value), s14 = .int .i64 (i : Int) ∧ i ≤ en + 1 ∧ TW w.heap.size wr K B I O M fv v (.slice none 0 0) (s) (c) u (m0) (m1) ∧ TI fr en i s c m0 m1 ∧ Below w.heap.size w wr) (fun s14 _ => en + 1 - (intOf s14).toNat)
  case atStart => exact ⟨0, _, 0, false, 0, 0, _, rfl, by omega, HI3.out, TI.zero fr en, HB3.out⟩
  case round =>
    obtain ⟨i, s, c, u, m0, m1, v, rfl, hi, hI, hT, hB⟩ := hrel
    have HI := Lib.hid hI; have HT := Lib.hid hT; have HB := Lib.hid hB
    clear hI hT hB HI3 HB3 hs1 hf1 hf2 hwa hwb
    by_cases hgo : i ≤ en
    · have i1 : (i : Int) ≤ (en : Int) := by omega
      have HLE := Lib.hid hgo
      have HIW := Lib.hid (show wrap64 ((i : Int) + 1) = ((i + 1 : Nat) : Int) from (w64_in ((i : Int) + 1) (by have := HEN.out; omega)).trans (by omega))
      clear hi hgo
      have hiw0 : wrap64 (i : Int) = (i : Int) := w64_in (i : Int) (by have := HLE.out; have := HEN.out; omega)
      go_upto_if 65 with fail
      go_cut [14, 15] (fun s14 s15 wx => s14 = .int .i64 (i : Int) ∧ (∃ t, s15 = .int .i64 t ∧ 0 ≤ t ∧ t ≤ 65535) ∧ wx = wr)
      case first =>
        by_cases hl : i < len0
        · rcases HROW.out with h0 | ⟨g, off, rfl, hg, hrows⟩
          · omega
          obtain ⟨t, ht, hcell⟩ := hrows i hl
          have hcell0 := hcell wr HB.out
          have HTT := Lib.hid (show 0 ≤ t ∧ t ≤ 65535 by
            simp [Lit.wf, IntKind.min, IntKind.max, IntKind.bits, IntKind.signed] at ht
            omega)
          have htw : wrap64 t = t := w64_in _ (by have := HTT.out; omega)
          have i4 : (i : Int) < (len0 : Int) := by omega
          have i3 : (0 : Int) ≤ (i : Int) := by omega
          clear ht hrows hcell
          go_wp2_with fail
          go_meet
          first | exact ⟨rfl, ⟨t, rfl, HTT.out⟩, rfl⟩ | exact ⟨rfl, ⟨t, congrArg (Value.int .i64) htw, HTT.out⟩, rfl⟩
        · have i4 : ¬ (i : Int) < (len0 : Int) := by omega
          go_wp2_with fail
          go_meet
          exact ⟨rfl, ⟨(i : Int), rfl, by have := HLE.out; have := HEN.out; omega⟩, rfl⟩
      case rest =>
      obtain ⟨rfl, ⟨t, rfl, htt⟩, hwr⟩ := hcut
      rw [hwr]
      have HTT := Lib.hid htt
      clear htt hwr hiw0
      have hcb : 0 ≤ c ∧ c ≤ 2752470 := by
        have h1 := HT.out.c0; have h2 := HT.out.c1; have h3 := HLE.out; have h4 := HEN.out; omega
      have HST := HI.out.step t (by have := HTT.out; omega)
      have hse := step_ok (n := 1000) (d := 999) (c := c) (t := t) (u := u) (by have := HTT.out; omega) (by have := HTT.out; omega)
      rw [hse.1, hse.2.1] at HST
      obtain ⟨c1, hc1⟩ : ∃ c1, c1 = c + t := ⟨_, rfl⟩
      obtain ⟨u1, hu1⟩ : ∃ u1, u1 = stepU 1000 999 c u t := ⟨_, rfl⟩
      rw [← hc1, ← hu1] at HST
      have HSTH := Lib.hid HST
      have HCE := Lib.hid hc1
      clear HST hse hcb hc1 hu1
      have hpos : i < fr ∨ i = fr ∨ (fr < i ∧ i < en) ∨ i = en := by have := HLE.out; omega
      rcases hpos with hp | hp | hp | hp
      · as_aux_lemma =>
          have HPOS := Lib.hid hp
          clear hp
          go_wp2_with fail
          refine HSTH.out.mono ?_
          rintro y w4 ⟨rfl, h4, h5⟩
          have HI4 := Lib.hid h4; have HB4 := Lib.hid (HB.out.trans h5)
          clear h4 h5 HSTH HI HB
          go_upto_region 15 with fail
          have hpx := HPOS.out
          have hfx := HFE.out
          obtain ⟨W5, hW5⟩ : ∃ W5, W5 = w4.alloc (.cells #[.bool false, .bool false, .bool false, .bool false, .int .i64 0, .bool false, .int .u32 0, .bool false, .int .i64 0, .int .u8 0, .int .u8 0, .int .u8 0, .int .u8 0, .int .u8 0, .int .u8 0, .int .u8 0, .int .u8 0] 43) := ⟨_, rfl⟩
          obtain ⟨H, hH⟩ : ∃ H, H = w4.heap.size := ⟨_, rfl⟩
          have hb5 : Below w4.heap.size w4 W5 := by rw [hW5]; exact (Below.refl _ w4).alloc (Nat.le_refl _) _
          have hS5 := (show Blk W5 H 43 [.bool false, .bool false, .bool false, .bool false, .int .i64 0, .bool false, .int .u32 0, .bool false, .int .i64 0, .int .u8 0, .int .u8 0, .int .u8 0, .int .u8 0, .int .u8 0, .int .u8 0, .int .u8 0, .int .u8 0] by rw [hW5, hH]; exact Blk.new w4 _ [.bool false, .bool false, .bool false, .bool false, .int .i64 0, .bool false, .int .u32 0, .bool false, .int .i64 0, .int .u8 0, .int .u8 0, .int .u8 0, .int .u8 0, .int .u8 0, .int .u8 0, .int .u8 0, .int .u8 0])
          have HI5 := Lib.hid (HI4.out.on hb5); have HB5 := Lib.hid (HB4.out.trans (hb5.mono HI4.out.sz)); have HS5 := Lib.hid hS5
          have HHF := Lib.hid (show ¬ footC K B I fv v (.slice none 0 0) H ∧ H ≠ O ∧ H ≠ M from ⟨fun hf => by have := HI4.out.ca.lt hf; omega, by have := HI4.out.os.lt; omega, by have := HI4.out.mks.lt; omega⟩)
          have HHN := Lib.hid (show w.heap.size ≤ H by rw [hH]; exact HI4.out.sz)
          clear hb5 hS5
          have j1 : ¬ (fr : Int) ≤ (i : Int) := by omega
          have j2 : ((i : Int) == (fr : Int)) = false := by rw [beq_eq_false_iff_ne]; omega
          have j3 : ((i : Int) == (en : Int)) = false := by rw [beq_eq_false_iff_ne]; omega
          have HTI := Lib.hid (HT.out.next HFE.out HLE.out t HTT.out 1 (by rw [decide_eq_false (by have := HPOS.out; omega)]; rfl) false (by rw [decide_eq_false (by have := HPOS.out; omega)]) m0 m1 (by rw [if_neg (by have := HPOS.out; omega)]) (by rw [if_neg (by have := HPOS.out; omega)]))
          rw [← HCE.out] at HTI
          have hiw := HIW.out
          clear hpx hfx
          go_upto_region 16 with fail
          rw [← hW5, ← hH]
          clear hW5 hH
          as_aux_lemma =>
            have d0 : W5.cell? ⟨H, 0, none⟩ = some (.bool false) := HS5.out.cellAt (i := 0) (by simp)
            have d1 : W5.cell? ⟨H, 1, none⟩ = some (.bool false) := HS5.out.cellAt (i := 1) (by simp)
            have d2 : W5.cell? ⟨H, 2, none⟩ = some (.bool false) := HS5.out.cellAt (i := 2) (by simp)
            have d3 : W5.cell? ⟨H, 3, none⟩ = some (.bool false) := HS5.out.cellAt (i := 3) (by simp)
            have d4 : W5.cell? ⟨H, 4, none⟩ = some (.int .i64 0) := HS5.out.cellAt (i := 4) (by simp)
            have d5 : W5.cell? ⟨H, 5, none⟩ = some (.bool false) := HS5.out.cellAt (i := 5) (by simp)
            have d6 : W5.cell? ⟨H, 6, none⟩ = some (.int .u32 0) := HS5.out.cellAt (i := 6) (by simp)
            have d7 : W5.cell? ⟨H, 7, none⟩ = some (.bool false) := HS5.out.cellAt (i := 7) (by simp)
            have d8 : W5.cell? ⟨H, 8, none⟩ = some (.int .i64 0) := HS5.out.cellAt (i := 8) (by simp)
            have d9 : W5.cell? ⟨H, 9, none⟩ = some (.int .u8 0) := HS5.out.cellAt (i := 9) (by simp)
            have d10 : W5.cell? ⟨H, 10, none⟩ = some (.int .u8 0) := HS5.out.cellAt (i := 10) (by simp)
            have d11 : W5.cell? ⟨H, 11, none⟩ = some (.int .u8 0) := HS5.out.cellAt (i := 11) (by simp)
            have d12 : W5.cell? ⟨H, 12, none⟩ = some (.int .u8 0) := HS5.out.cellAt (i := 12) (by simp)
            have d13 : W5.cell? ⟨H, 13, none⟩ = some (.int .u8 0) := HS5.out.cellAt (i := 13) (by simp)
            have d14 : W5.cell? ⟨H, 14, none⟩ = some (.int .u8 0) := HS5.out.cellAt (i := 14) (by simp)
            have d15 : W5.cell? ⟨H, 15, none⟩ = some (.int .u8 0) := HS5.out.cellAt (i := 15) (by simp)
            have d16 : W5.cell? ⟨H, 16, none⟩ = some (.int .u8 0) := HS5.out.cellAt (i := 16) (by simp)
            have HIx := HI5; have HBx := HB5; have HSx := HS5
            have HTK := Lib.hid (show ∀ y, Below W5.heap.size W5 y → Calls Try.prog 12 #[.pointer (some ⟨K, 0, none⟩), .agg #[.bool false, .bool false, .bool false, .bool false, .int .i64 0, .bool false, .int .u32 0, .bool false, .int .i64 0, .int .u8 0, .int .u8 0, .int .u8 0, .int .u8 0, .int .u8 0, .int .u8 0, .int .u8 0, .int .u8 0], .int .i64 1, .int .i64 c1] y fun z w' => z = .returned (.tuple #[]) ∧ (w'.cell? ⟨H, 0, none⟩ = some (.bool false) ∧ w'.cell? ⟨H, 1, none⟩ = some (.bool false) ∧ w'.cell? ⟨H, 2, none⟩ = some (.bool false) ∧ w'.cell? ⟨H, 3, none⟩ = some (.bool false) ∧ w'.cell? ⟨H, 4, none⟩ = some (.int .i64 0) ∧ w'.cell? ⟨H, 5, none⟩ = some (.bool false) ∧ w'.cell? ⟨H, 6, none⟩ = some (.int .u32 0) ∧ w'.cell? ⟨H, 7, none⟩ = some (.bool false) ∧ w'.cell? ⟨H, 8, none⟩ = some (.int .i64 0) ∧ w'.cell? ⟨H, 9, none⟩ = some (.int .u8 0) ∧ w'.cell? ⟨H, 10, none⟩ = some (.int .u8 0) ∧ w'.cell? ⟨H, 11, none⟩ = some (.int .u8 0) ∧ w'.cell? ⟨H, 12, none⟩ = some (.int .u8 0) ∧ w'.cell? ⟨H, 13, none⟩ = some (.int .u8 0) ∧ w'.cell? ⟨H, 14, none⟩ = some (.int .u8 0) ∧ w'.cell? ⟨H, 15, none⟩ = some (.int .u8 0) ∧ w'.cell? ⟨H, 16, none⟩ = some (.int .u8 0)) ∧ ∃ v', TW w.heap.size w' K B I O M fv v' (.slice none 0 0) (calmF s false 1 c1 (sdM (markF s 1 c1) c1)) (c1) u1 (m0) (m1) ∧ Below w.heap.size w w' from fun y hy => by
              have hI := HIx.out.on hy
              refine (took_calm K B I fv v (.slice none 0 0) s false 1 c1 false 0 false 0 0 0 0 0 0 0 0 0 (sdM (markF s 1 c1) c1) rfl y hI.ca).mono ?_
              rintro z w' ⟨h1, v', h2, h3, h4⟩
              obtain ⟨g1, g2⟩ := hI.call h2 h3 h4
              have hH := HSx.out.keep hy HSx.out.lt
              have hH2 := hH.on (h3.block H hH.lt HHF.out.1)
              exact ⟨h1, ⟨hH2.cellAt (i := 0) (by simp), hH2.cellAt (i := 1) (by simp), hH2.cellAt (i := 2) (by simp), hH2.cellAt (i := 3) (by simp), hH2.cellAt (i := 4) (by simp), hH2.cellAt (i := 5) (by simp), hH2.cellAt (i := 6) (by simp), hH2.cellAt (i := 7) (by simp), hH2.cellAt (i := 8) (by simp), hH2.cellAt (i := 9) (by simp), hH2.cellAt (i := 10) (by simp), hH2.cellAt (i := 11) (by simp), hH2.cellAt (i := 12) (by simp), hH2.cellAt (i := 13) (by simp), hH2.cellAt (i := 14) (by simp), hH2.cellAt (i := 15) (by simp), hH2.cellAt (i := 16) (by simp)⟩, v', g1, (below_of2 HBx.out HIx.out.sz hy).trans g2⟩)
            have HCN := Lib.hid (show ∀ y, Below W5.heap.size W5 y → Calls Try.prog 11 #[.pointer (some ⟨O, 0, none⟩)] y fun z w' => z = .returned (.int .i64 c1) ∧ y = w' from fun y hy => ocount_any 1000 999 c1 u1 O y (HIx.out.on hy).os)
            have HZ := Lib.hid (show (W5.cell? ⟨H, 0, none⟩ = some (.bool false) ∧ W5.cell? ⟨H, 1, none⟩ = some (.bool false) ∧ W5.cell? ⟨H, 2, none⟩ = some (.bool false) ∧ W5.cell? ⟨H, 3, none⟩ = some (.bool false) ∧ W5.cell? ⟨H, 4, none⟩ = some (.int .i64 0) ∧ W5.cell? ⟨H, 5, none⟩ = some (.bool false) ∧ W5.cell? ⟨H, 6, none⟩ = some (.int .u32 0) ∧ W5.cell? ⟨H, 7, none⟩ = some (.bool false) ∧ W5.cell? ⟨H, 8, none⟩ = some (.int .i64 0) ∧ W5.cell? ⟨H, 9, none⟩ = some (.int .u8 0) ∧ W5.cell? ⟨H, 10, none⟩ = some (.int .u8 0) ∧ W5.cell? ⟨H, 11, none⟩ = some (.int .u8 0) ∧ W5.cell? ⟨H, 12, none⟩ = some (.int .u8 0) ∧ W5.cell? ⟨H, 13, none⟩ = some (.int .u8 0) ∧ W5.cell? ⟨H, 14, none⟩ = some (.int .u8 0) ∧ W5.cell? ⟨H, 15, none⟩ = some (.int .u8 0) ∧ W5.cell? ⟨H, 16, none⟩ = some (.int .u8 0)) from ⟨d0, d1, d2, d3, d4, d5, d6, d7, d8, d9, d10, d11, d12, d13, d14, d15, d16⟩)
            clear d0 d1 d2 d3 d4 d5 d6 d7 d8 d9 d10 d11 d12 d13 d14 d15 d16
            clear HIx HBx HSx HI5 HB5 HS5 HI4 HB4 HHF HHN HT HTT HCE
            go_upto_region 23 with fail
            as_aux_lemma =>
              refine wp_region_held_drew (S := fun y => (y.cell? ⟨H, 0, none⟩ = some (.bool false) ∧ y.cell? ⟨H, 1, none⟩ = some (.bool false) ∧ y.cell? ⟨H, 2, none⟩ = some (.bool false) ∧ y.cell? ⟨H, 3, none⟩ = some (.bool false) ∧ y.cell? ⟨H, 4, none⟩ = some (.int .i64 0) ∧ y.cell? ⟨H, 5, none⟩ = some (.bool false) ∧ y.cell? ⟨H, 6, none⟩ = some (.int .u32 0) ∧ y.cell? ⟨H, 7, none⟩ = some (.bool false) ∧ y.cell? ⟨H, 8, none⟩ = some (.int .i64 0) ∧ y.cell? ⟨H, 9, none⟩ = some (.int .u8 0) ∧ y.cell? ⟨H, 10, none⟩ = some (.int .u8 0) ∧ y.cell? ⟨H, 11, none⟩ = some (.int .u8 0) ∧ y.cell? ⟨H, 12, none⟩ = some (.int .u8 0) ∧ y.cell? ⟨H, 13, none⟩ = some (.int .u8 0) ∧ y.cell? ⟨H, 14, none⟩ = some (.int .u8 0) ∧ y.cell? ⟨H, 15, none⟩ = some (.int .u8 0) ∧ y.cell? ⟨H, 16, none⟩ = some (.int .u8 0))) (by kernel_rfl) HZ.out (fun hHeld => ?_)
              refine wpAnyH_take (i := 0) (oi := _) (v := ?_) rfl (by kernel_rfl) (by kernel_rfl) (by kernel_rfl) (fun _ _ _ h => h) (Or.inl ⟨by rfl, ?_⟩) (by assumption) ?_
              rotate_left
              · intro x hSx
                try dsimp only at hSx
                obtain ⟨_, hSx1⟩ := hSx
                go_simp
                first | done | with_reducible rfl
              try simp only [Act.put, List.setIfInBounds_toArray, List.set_cons_zero, List.set_cons_succ]
              refine wpAnyH_take (i := 1) (oi := _) (v := ?_) rfl (by kernel_rfl) (by kernel_rfl) (by kernel_rfl) (fun _ _ _ h => h) (Or.inl ⟨by rfl, ?_⟩) (by assumption) ?_
              rotate_left
              · intro x hSx
                try dsimp only at hSx
                obtain ⟨_, hSx1⟩ := hSx
                go_simp
                first | done | with_reducible rfl
              try simp only [Act.put, List.setIfInBounds_toArray, List.set_cons_zero, List.set_cons_succ]
              refine wpAnyH_take (i := 2) (oi := _) (v := ?_) rfl (by kernel_rfl) (by kernel_rfl) (by kernel_rfl) (fun _ _ _ h => h) (Or.inl ⟨by rfl, ?_⟩) (by assumption) ?_
              rotate_left
              · intro x hSx
                try dsimp only at hSx
                obtain ⟨_, hSx1⟩ := hSx
                go_simp
                first | done | with_reducible rfl
              try simp only [Act.put, List.setIfInBounds_toArray, List.set_cons_zero, List.set_cons_succ]
              refine wpAnyH_take (i := 3) (oi := _) (v := ?_) rfl (by kernel_rfl) (by kernel_rfl) (by kernel_rfl) (fun _ _ _ h => h) (Or.inl ⟨by rfl, ?_⟩) (by assumption) ?_
              rotate_left
              · intro x hSx
                try dsimp only at hSx
                obtain ⟨_, hSx1⟩ := hSx
                go_simp
                first | done | with_reducible rfl
              try simp only [Act.put, List.setIfInBounds_toArray, List.set_cons_zero, List.set_cons_succ]
              refine wpAnyH_ready (rs := [4]) (by kernel_rfl) (by simp) ?_
              refine AllReadyH.cons (o := _) rfl (fun K hK => ?_) AllReadyH.nil
              go_simp
              refine (HCN.out _ (Below.refl _ _).drew).mono ?_
              rintro e8 w8 ⟨rfl, rfl⟩
              go_wp2_with fail
              refine hK.out _ _ HZ.out (fun hHeld => ?_)
              clear hK K
              try simp only [Act.put, List.setIfInBounds_toArray, List.set_cons_zero, List.set_cons_succ]
              refine wpAnyH_ready (rs := [5]) (by kernel_rfl) (by simp) ?_
              refine AllReadyH.cons (o := _) rfl (fun K hK => ?_) AllReadyH.nil
              go_simp
              refine (HTK.out _ (Below.refl _ _).drew).mono ?_
              rintro y w6 ⟨rfl, h6S, v', h6, h7⟩
              go_wp2_with fail
              refine hK.out _ _ h6S (fun hHeld => ?_)
              clear hK K
              try simp only [Act.put, List.setIfInBounds_toArray, List.set_cons_zero, List.set_cons_succ]
              refine wpAnyH_class (C := fun y' => y' = w6) 6 _ rfl (by kernel_rfl) (by rfl) (by kernel_rfl) (fun y' hy => hy ▸ h6S) rfl ?_
              try simp only [List.drop_succ_cons, List.drop_zero]
              with_reducible refine wpQuiet_nil ?_
              intro wq hq
              obtain rfl := hq
              have HIz := Lib.hid h6; have HBz := Lib.hid h7
              clear h6 h7 HZ HTK HCN h6S
              go_wp2_with fail
              go_roundw
              clear hiw
              case rel => exact ⟨i + 1, _, c1, u1, m0, m1, v', by first | rfl | exact congrArg (Value.int .i64) HIW.out, by have := HLE.out; omega, HIz.out, HTI.out, HBz.out⟩
              case measure =>
                obtain ⟨z, hz⟩ : ∃ z, z = wrap64 ((i : Int) + 1) := ⟨_, rfl⟩
                first
                  | (rw [← hz]; exact meas_ts z (hz.trans HIW.out) HLE.out)
                  | exact meas_ts _ rfl HLE.out
      · as_aux_lemma =>
          have HPOS := Lib.hid hp
          clear hp
          go_wp2_with fail
          refine HSTH.out.mono ?_
          rintro y w4 ⟨rfl, h4, h5⟩
          have HI4 := Lib.hid h4; have HB4 := Lib.hid (HB.out.trans h5)
          clear h4 h5 HSTH HI HB
          go_upto_region 15 with fail
          have hpx := HPOS.out
          have hfx := HFE.out
          obtain ⟨W5, hW5⟩ : ∃ W5, W5 = w4.alloc (.cells #[.bool false, .bool false, .bool false, .bool false, .int .i64 0, .bool false, .int .u32 0, .bool false, .int .i64 0, .int .u8 0, .int .u8 0, .int .u8 0, .int .u8 0, .int .u8 0, .int .u8 0, .int .u8 0, .int .u8 0] 43) := ⟨_, rfl⟩
          obtain ⟨H, hH⟩ : ∃ H, H = w4.heap.size := ⟨_, rfl⟩
          have hb5 : Below w4.heap.size w4 W5 := by rw [hW5]; exact (Below.refl _ w4).alloc (Nat.le_refl _) _
          have hS5 := (show Blk W5 H 43 [.bool false, .bool false, .bool false, .bool false, .int .i64 0, .bool false, .int .u32 0, .bool false, .int .i64 0, .int .u8 0, .int .u8 0, .int .u8 0, .int .u8 0, .int .u8 0, .int .u8 0, .int .u8 0, .int .u8 0] by rw [hW5, hH]; exact Blk.new w4 _ [.bool false, .bool false, .bool false, .bool false, .int .i64 0, .bool false, .int .u32 0, .bool false, .int .i64 0, .int .u8 0, .int .u8 0, .int .u8 0, .int .u8 0, .int .u8 0, .int .u8 0, .int .u8 0, .int .u8 0])
          have HI5 := Lib.hid (HI4.out.on hb5); have HB5 := Lib.hid (HB4.out.trans (hb5.mono HI4.out.sz)); have HS5 := Lib.hid hS5
          have HHF := Lib.hid (show ¬ footC K B I fv v (.slice none 0 0) H ∧ H ≠ O ∧ H ≠ M from ⟨fun hf => by have := HI4.out.ca.lt hf; omega, by have := HI4.out.os.lt; omega, by have := HI4.out.mks.lt; omega⟩)
          have HHN := Lib.hid (show w.heap.size ≤ H by rw [hH]; exact HI4.out.sz)
          clear hb5 hS5
          have j1 : (fr : Int) ≤ (i : Int) := by omega
          have j2 : ((i : Int) == (fr : Int)) = true := by rw [beq_iff_eq]; omega
          have j3 : ((i : Int) == (en : Int)) = false := by rw [beq_eq_false_iff_ne]; omega
          have HTI := Lib.hid (HT.out.next HFE.out HLE.out t HTT.out 2 (by rw [decide_eq_true (by have := HPOS.out; omega)]; rfl) false (by rw [decide_eq_false (by have := HPOS.out; omega)]) (c + t) m1 (by rw [if_pos HPOS.out]) (by rw [if_neg (by have := HPOS.out; omega)]))
          rw [← HCE.out] at HTI
          have hiw := HIW.out
          clear hpx hfx
          go_upto_region 16 with fail
          rw [← hW5, ← hH]
          clear hW5 hH
          as_aux_lemma =>
            have d0 : W5.cell? ⟨H, 0, none⟩ = some (.bool false) := HS5.out.cellAt (i := 0) (by simp)
            have d1 : W5.cell? ⟨H, 1, none⟩ = some (.bool false) := HS5.out.cellAt (i := 1) (by simp)
            have d2 : W5.cell? ⟨H, 2, none⟩ = some (.bool false) := HS5.out.cellAt (i := 2) (by simp)
            have d3 : W5.cell? ⟨H, 3, none⟩ = some (.bool false) := HS5.out.cellAt (i := 3) (by simp)
            have d4 : W5.cell? ⟨H, 4, none⟩ = some (.int .i64 0) := HS5.out.cellAt (i := 4) (by simp)
            have d5 : W5.cell? ⟨H, 5, none⟩ = some (.bool false) := HS5.out.cellAt (i := 5) (by simp)
            have d6 : W5.cell? ⟨H, 6, none⟩ = some (.int .u32 0) := HS5.out.cellAt (i := 6) (by simp)
            have d7 : W5.cell? ⟨H, 7, none⟩ = some (.bool false) := HS5.out.cellAt (i := 7) (by simp)
            have d8 : W5.cell? ⟨H, 8, none⟩ = some (.int .i64 0) := HS5.out.cellAt (i := 8) (by simp)
            have d9 : W5.cell? ⟨H, 9, none⟩ = some (.int .u8 0) := HS5.out.cellAt (i := 9) (by simp)
            have d10 : W5.cell? ⟨H, 10, none⟩ = some (.int .u8 0) := HS5.out.cellAt (i := 10) (by simp)
            have d11 : W5.cell? ⟨H, 11, none⟩ = some (.int .u8 0) := HS5.out.cellAt (i := 11) (by simp)
            have d12 : W5.cell? ⟨H, 12, none⟩ = some (.int .u8 0) := HS5.out.cellAt (i := 12) (by simp)
            have d13 : W5.cell? ⟨H, 13, none⟩ = some (.int .u8 0) := HS5.out.cellAt (i := 13) (by simp)
            have d14 : W5.cell? ⟨H, 14, none⟩ = some (.int .u8 0) := HS5.out.cellAt (i := 14) (by simp)
            have d15 : W5.cell? ⟨H, 15, none⟩ = some (.int .u8 0) := HS5.out.cellAt (i := 15) (by simp)
            have d16 : W5.cell? ⟨H, 16, none⟩ = some (.int .u8 0) := HS5.out.cellAt (i := 16) (by simp)
            go_upto_region 19 with fail
            go_wp2_with fail
            refine (ocount_any 1000 999 c1 u1 O W5 HI5.out.os).mono ?_
            rintro y w5 ⟨rfl, rfl⟩
            have hst := HI5.out.set 0 c1 c1 m1 rfl (by omega)
            have hmc := HI5.out.mks
            have q0 : W5.cell? ⟨M, 0, none⟩ = some (.int .i64 m0) := hmc.cellAt (i := 0) (by simp)
            have q0f : W5.frozen? ⟨M, 0, none⟩ = false := hmc.frozenAt 0
            obtain ⟨W6, hW6⟩ : ∃ W6, W6 = W5.setCell ⟨M, 0, none⟩ (.int .i64 c1) := ⟨_, rfl⟩
            have hS6 := HS5.out.puts (C := M) (fun e => HHF.out.2.2 e.symm) 0 (.int .i64 c1)
            rw [← hW6] at hst hS6
            have HIx := Lib.hid hst.1; have HBx := Lib.hid (HB5.out.trans hst.2); have HSx := Lib.hid hS6
            clear hst hmc d0 d1 d2 d3 d4 d5 d6 d7 d8 d9 d10 d11 d12 d13 d14 d15 d16
            go_upto_region 20 with fail
            rw [← hW6]
            clear hW6 q0 q0f
            have d0 : W6.cell? ⟨H, 0, none⟩ = some (.bool false) := hS6.cellAt (i := 0) (by simp)
            have d1 : W6.cell? ⟨H, 1, none⟩ = some (.bool false) := hS6.cellAt (i := 1) (by simp)
            have d2 : W6.cell? ⟨H, 2, none⟩ = some (.bool false) := hS6.cellAt (i := 2) (by simp)
            have d3 : W6.cell? ⟨H, 3, none⟩ = some (.bool false) := hS6.cellAt (i := 3) (by simp)
            have d4 : W6.cell? ⟨H, 4, none⟩ = some (.int .i64 0) := hS6.cellAt (i := 4) (by simp)
            have d5 : W6.cell? ⟨H, 5, none⟩ = some (.bool false) := hS6.cellAt (i := 5) (by simp)
            have d6 : W6.cell? ⟨H, 6, none⟩ = some (.int .u32 0) := hS6.cellAt (i := 6) (by simp)
            have d7 : W6.cell? ⟨H, 7, none⟩ = some (.bool false) := hS6.cellAt (i := 7) (by simp)
            have d8 : W6.cell? ⟨H, 8, none⟩ = some (.int .i64 0) := hS6.cellAt (i := 8) (by simp)
            have d9 : W6.cell? ⟨H, 9, none⟩ = some (.int .u8 0) := hS6.cellAt (i := 9) (by simp)
            have d10 : W6.cell? ⟨H, 10, none⟩ = some (.int .u8 0) := hS6.cellAt (i := 10) (by simp)
            have d11 : W6.cell? ⟨H, 11, none⟩ = some (.int .u8 0) := hS6.cellAt (i := 11) (by simp)
            have d12 : W6.cell? ⟨H, 12, none⟩ = some (.int .u8 0) := hS6.cellAt (i := 12) (by simp)
            have d13 : W6.cell? ⟨H, 13, none⟩ = some (.int .u8 0) := hS6.cellAt (i := 13) (by simp)
            have d14 : W6.cell? ⟨H, 14, none⟩ = some (.int .u8 0) := hS6.cellAt (i := 14) (by simp)
            have d15 : W6.cell? ⟨H, 15, none⟩ = some (.int .u8 0) := hS6.cellAt (i := 15) (by simp)
            have d16 : W6.cell? ⟨H, 16, none⟩ = some (.int .u8 0) := hS6.cellAt (i := 16) (by simp)
            clear hS6
            have HTK := Lib.hid (show ∀ y, Below W6.heap.size W6 y → Calls Try.prog 12 #[.pointer (some ⟨K, 0, none⟩), .agg #[.bool false, .bool false, .bool false, .bool false, .int .i64 0, .bool false, .int .u32 0, .bool false, .int .i64 0, .int .u8 0, .int .u8 0, .int .u8 0, .int .u8 0, .int .u8 0, .int .u8 0, .int .u8 0, .int .u8 0], .int .i64 2, .int .i64 c1] y fun z w' => z = .returned (.tuple #[]) ∧ (w'.cell? ⟨H, 0, none⟩ = some (.bool false) ∧ w'.cell? ⟨H, 1, none⟩ = some (.bool false) ∧ w'.cell? ⟨H, 2, none⟩ = some (.bool false) ∧ w'.cell? ⟨H, 3, none⟩ = some (.bool false) ∧ w'.cell? ⟨H, 4, none⟩ = some (.int .i64 0) ∧ w'.cell? ⟨H, 5, none⟩ = some (.bool false) ∧ w'.cell? ⟨H, 6, none⟩ = some (.int .u32 0) ∧ w'.cell? ⟨H, 7, none⟩ = some (.bool false) ∧ w'.cell? ⟨H, 8, none⟩ = some (.int .i64 0) ∧ w'.cell? ⟨H, 9, none⟩ = some (.int .u8 0) ∧ w'.cell? ⟨H, 10, none⟩ = some (.int .u8 0) ∧ w'.cell? ⟨H, 11, none⟩ = some (.int .u8 0) ∧ w'.cell? ⟨H, 12, none⟩ = some (.int .u8 0) ∧ w'.cell? ⟨H, 13, none⟩ = some (.int .u8 0) ∧ w'.cell? ⟨H, 14, none⟩ = some (.int .u8 0) ∧ w'.cell? ⟨H, 15, none⟩ = some (.int .u8 0) ∧ w'.cell? ⟨H, 16, none⟩ = some (.int .u8 0)) ∧ ∃ v', TW w.heap.size w' K B I O M fv v' (.slice none 0 0) (calmF s false 2 c1 (sdM (markF s 2 c1) c1)) (c1) u1 (c1) (m1) ∧ Below w.heap.size w w' from fun y hy => by
              have hI := HIx.out.on hy
              refine (took_calm K B I fv v (.slice none 0 0) s false 2 c1 false 0 false 0 0 0 0 0 0 0 0 0 (sdM (markF s 2 c1) c1) rfl y hI.ca).mono ?_
              rintro z w' ⟨h1, v', h2, h3, h4⟩
              obtain ⟨g1, g2⟩ := hI.call h2 h3 h4
              have hH := HSx.out.keep hy HSx.out.lt
              have hH2 := hH.on (h3.block H hH.lt HHF.out.1)
              exact ⟨h1, ⟨hH2.cellAt (i := 0) (by simp), hH2.cellAt (i := 1) (by simp), hH2.cellAt (i := 2) (by simp), hH2.cellAt (i := 3) (by simp), hH2.cellAt (i := 4) (by simp), hH2.cellAt (i := 5) (by simp), hH2.cellAt (i := 6) (by simp), hH2.cellAt (i := 7) (by simp), hH2.cellAt (i := 8) (by simp), hH2.cellAt (i := 9) (by simp), hH2.cellAt (i := 10) (by simp), hH2.cellAt (i := 11) (by simp), hH2.cellAt (i := 12) (by simp), hH2.cellAt (i := 13) (by simp), hH2.cellAt (i := 14) (by simp), hH2.cellAt (i := 15) (by simp), hH2.cellAt (i := 16) (by simp)⟩, v', g1, (below_of2 HBx.out HIx.out.sz hy).trans g2⟩)
            have HCN := Lib.hid (show ∀ y, Below W6.heap.size W6 y → Calls Try.prog 11 #[.pointer (some ⟨O, 0, none⟩)] y fun z w' => z = .returned (.int .i64 c1) ∧ y = w' from fun y hy => ocount_any 1000 999 c1 u1 O y (HIx.out.on hy).os)
            have HZ := Lib.hid (show (W6.cell? ⟨H, 0, none⟩ = some (.bool false) ∧ W6.cell? ⟨H, 1, none⟩ = some (.bool false) ∧ W6.cell? ⟨H, 2, none⟩ = some (.bool false) ∧ W6.cell? ⟨H, 3, none⟩ = some (.bool false) ∧ W6.cell? ⟨H, 4, none⟩ = some (.int .i64 0) ∧ W6.cell? ⟨H, 5, none⟩ = some (.bool false) ∧ W6.cell? ⟨H, 6, none⟩ = some (.int .u32 0) ∧ W6.cell? ⟨H, 7, none⟩ = some (.bool false) ∧ W6.cell? ⟨H, 8, none⟩ = some (.int .i64 0) ∧ W6.cell? ⟨H, 9, none⟩ = some (.int .u8 0) ∧ W6.cell? ⟨H, 10, none⟩ = some (.int .u8 0) ∧ W6.cell? ⟨H, 11, none⟩ = some (.int .u8 0) ∧ W6.cell? ⟨H, 12, none⟩ = some (.int .u8 0) ∧ W6.cell? ⟨H, 13, none⟩ = some (.int .u8 0) ∧ W6.cell? ⟨H, 14, none⟩ = some (.int .u8 0) ∧ W6.cell? ⟨H, 15, none⟩ = some (.int .u8 0) ∧ W6.cell? ⟨H, 16, none⟩ = some (.int .u8 0)) from ⟨d0, d1, d2, d3, d4, d5, d6, d7, d8, d9, d10, d11, d12, d13, d14, d15, d16⟩)
            clear d0 d1 d2 d3 d4 d5 d6 d7 d8 d9 d10 d11 d12 d13 d14 d15 d16
            clear HIx HBx HSx HI5 HB5 HS5 HI4 HB4 HHF HHN HT HTT HCE
            go_upto_region 23 with fail
            as_aux_lemma =>
              refine wp_region_held_drew (S := fun y => (y.cell? ⟨H, 0, none⟩ = some (.bool false) ∧ y.cell? ⟨H, 1, none⟩ = some (.bool false) ∧ y.cell? ⟨H, 2, none⟩ = some (.bool false) ∧ y.cell? ⟨H, 3, none⟩ = some (.bool false) ∧ y.cell? ⟨H, 4, none⟩ = some (.int .i64 0) ∧ y.cell? ⟨H, 5, none⟩ = some (.bool false) ∧ y.cell? ⟨H, 6, none⟩ = some (.int .u32 0) ∧ y.cell? ⟨H, 7, none⟩ = some (.bool false) ∧ y.cell? ⟨H, 8, none⟩ = some (.int .i64 0) ∧ y.cell? ⟨H, 9, none⟩ = some (.int .u8 0) ∧ y.cell? ⟨H, 10, none⟩ = some (.int .u8 0) ∧ y.cell? ⟨H, 11, none⟩ = some (.int .u8 0) ∧ y.cell? ⟨H, 12, none⟩ = some (.int .u8 0) ∧ y.cell? ⟨H, 13, none⟩ = some (.int .u8 0) ∧ y.cell? ⟨H, 14, none⟩ = some (.int .u8 0) ∧ y.cell? ⟨H, 15, none⟩ = some (.int .u8 0) ∧ y.cell? ⟨H, 16, none⟩ = some (.int .u8 0))) (by kernel_rfl) HZ.out (fun hHeld => ?_)
              refine wpAnyH_take (i := 0) (oi := _) (v := ?_) rfl (by kernel_rfl) (by kernel_rfl) (by kernel_rfl) (fun _ _ _ h => h) (Or.inl ⟨by rfl, ?_⟩) (by assumption) ?_
              rotate_left
              · intro x hSx
                try dsimp only at hSx
                obtain ⟨_, hSx1⟩ := hSx
                go_simp
                first | done | with_reducible rfl
              try simp only [Act.put, List.setIfInBounds_toArray, List.set_cons_zero, List.set_cons_succ]
              refine wpAnyH_take (i := 1) (oi := _) (v := ?_) rfl (by kernel_rfl) (by kernel_rfl) (by kernel_rfl) (fun _ _ _ h => h) (Or.inl ⟨by rfl, ?_⟩) (by assumption) ?_
              rotate_left
              · intro x hSx
                try dsimp only at hSx
                obtain ⟨_, hSx1⟩ := hSx
                go_simp
                first | done | with_reducible rfl
              try simp only [Act.put, List.setIfInBounds_toArray, List.set_cons_zero, List.set_cons_succ]
              refine wpAnyH_take (i := 2) (oi := _) (v := ?_) rfl (by kernel_rfl) (by kernel_rfl) (by kernel_rfl) (fun _ _ _ h => h) (Or.inl ⟨by rfl, ?_⟩) (by assumption) ?_
              rotate_left
              · intro x hSx
                try dsimp only at hSx
                obtain ⟨_, hSx1⟩ := hSx
                go_simp
                first | done | with_reducible rfl
              try simp only [Act.put, List.setIfInBounds_toArray, List.set_cons_zero, List.set_cons_succ]
              refine wpAnyH_take (i := 3) (oi := _) (v := ?_) rfl (by kernel_rfl) (by kernel_rfl) (by kernel_rfl) (fun _ _ _ h => h) (Or.inl ⟨by rfl, ?_⟩) (by assumption) ?_
              rotate_left
              · intro x hSx
                try dsimp only at hSx
                obtain ⟨_, hSx1⟩ := hSx
                go_simp
                first | done | with_reducible rfl
              try simp only [Act.put, List.setIfInBounds_toArray, List.set_cons_zero, List.set_cons_succ]
              refine wpAnyH_ready (rs := [4]) (by kernel_rfl) (by simp) ?_
              refine AllReadyH.cons (o := _) rfl (fun K hK => ?_) AllReadyH.nil
              go_simp
              refine (HCN.out _ (Below.refl _ _).drew).mono ?_
              rintro e8 w8 ⟨rfl, rfl⟩
              go_wp2_with fail
              refine hK.out _ _ HZ.out (fun hHeld => ?_)
              clear hK K
              try simp only [Act.put, List.setIfInBounds_toArray, List.set_cons_zero, List.set_cons_succ]
              refine wpAnyH_ready (rs := [5]) (by kernel_rfl) (by simp) ?_
              refine AllReadyH.cons (o := _) rfl (fun K hK => ?_) AllReadyH.nil
              go_simp
              refine (HTK.out _ (Below.refl _ _).drew).mono ?_
              rintro y w6 ⟨rfl, h6S, v', h6, h7⟩
              go_wp2_with fail
              refine hK.out _ _ h6S (fun hHeld => ?_)
              clear hK K
              try simp only [Act.put, List.setIfInBounds_toArray, List.set_cons_zero, List.set_cons_succ]
              refine wpAnyH_class (C := fun y' => y' = w6) 6 _ rfl (by kernel_rfl) (by rfl) (by kernel_rfl) (fun y' hy => hy ▸ h6S) rfl ?_
              try simp only [List.drop_succ_cons, List.drop_zero]
              with_reducible refine wpQuiet_nil ?_
              intro wq hq
              obtain rfl := hq
              have HIz := Lib.hid h6; have HBz := Lib.hid h7
              clear h6 h7 HZ HTK HCN h6S
              go_wp2_with fail
              go_roundw
              clear hiw
              case rel => exact ⟨i + 1, _, c1, u1, c1, m1, v', by first | rfl | exact congrArg (Value.int .i64) HIW.out, by have := HLE.out; omega, HIz.out, HTI.out, HBz.out⟩
              case measure =>
                obtain ⟨z, hz⟩ : ∃ z, z = wrap64 ((i : Int) + 1) := ⟨_, rfl⟩
                first
                  | (rw [← hz]; exact meas_ts z (hz.trans HIW.out) HLE.out)
                  | exact meas_ts _ rfl HLE.out
      · as_aux_lemma =>
          have HPOS := Lib.hid hp
          clear hp
          go_wp2_with fail
          refine HSTH.out.mono ?_
          rintro y w4 ⟨rfl, h4, h5⟩
          have HI4 := Lib.hid h4; have HB4 := Lib.hid (HB.out.trans h5)
          clear h4 h5 HSTH HI HB
          go_upto_region 15 with fail
          have hpx := HPOS.out
          have hfx := HFE.out
          obtain ⟨W5, hW5⟩ : ∃ W5, W5 = w4.alloc (.cells #[.bool false, .bool false, .bool false, .bool false, .int .i64 0, .bool false, .int .u32 0, .bool false, .int .i64 0, .int .u8 0, .int .u8 0, .int .u8 0, .int .u8 0, .int .u8 0, .int .u8 0, .int .u8 0, .int .u8 0] 43) := ⟨_, rfl⟩
          obtain ⟨H, hH⟩ : ∃ H, H = w4.heap.size := ⟨_, rfl⟩
          have hb5 : Below w4.heap.size w4 W5 := by rw [hW5]; exact (Below.refl _ w4).alloc (Nat.le_refl _) _
          have hS5 := (show Blk W5 H 43 [.bool false, .bool false, .bool false, .bool false, .int .i64 0, .bool false, .int .u32 0, .bool false, .int .i64 0, .int .u8 0, .int .u8 0, .int .u8 0, .int .u8 0, .int .u8 0, .int .u8 0, .int .u8 0, .int .u8 0] by rw [hW5, hH]; exact Blk.new w4 _ [.bool false, .bool false, .bool false, .bool false, .int .i64 0, .bool false, .int .u32 0, .bool false, .int .i64 0, .int .u8 0, .int .u8 0, .int .u8 0, .int .u8 0, .int .u8 0, .int .u8 0, .int .u8 0, .int .u8 0])
          have HI5 := Lib.hid (HI4.out.on hb5); have HB5 := Lib.hid (HB4.out.trans (hb5.mono HI4.out.sz)); have HS5 := Lib.hid hS5
          have HHF := Lib.hid (show ¬ footC K B I fv v (.slice none 0 0) H ∧ H ≠ O ∧ H ≠ M from ⟨fun hf => by have := HI4.out.ca.lt hf; omega, by have := HI4.out.os.lt; omega, by have := HI4.out.mks.lt; omega⟩)
          have HHN := Lib.hid (show w.heap.size ≤ H by rw [hH]; exact HI4.out.sz)
          clear hb5 hS5
          have j1 : (fr : Int) ≤ (i : Int) := by omega
          have j2 : ((i : Int) == (fr : Int)) = false := by rw [beq_eq_false_iff_ne]; omega
          have j3 : ((i : Int) == (en : Int)) = false := by rw [beq_eq_false_iff_ne]; omega
          have HTI := Lib.hid (HT.out.next HFE.out HLE.out t HTT.out 2 (by rw [decide_eq_true (by have := HPOS.out; omega)]; rfl) false (by rw [decide_eq_false (by have := HPOS.out; omega)]) m0 m1 (by rw [if_neg (by have := HPOS.out; omega)]) (by rw [if_neg (by have := HPOS.out; omega)]))
          rw [← HCE.out] at HTI
          have hiw := HIW.out
          clear hpx hfx
          go_upto_region 16 with fail
          rw [← hW5, ← hH]
          clear hW5 hH
          as_aux_lemma =>
            have d0 : W5.cell? ⟨H, 0, none⟩ = some (.bool false) := HS5.out.cellAt (i := 0) (by simp)
            have d1 : W5.cell? ⟨H, 1, none⟩ = some (.bool false) := HS5.out.cellAt (i := 1) (by simp)
            have d2 : W5.cell? ⟨H, 2, none⟩ = some (.bool false) := HS5.out.cellAt (i := 2) (by simp)
            have d3 : W5.cell? ⟨H, 3, none⟩ = some (.bool false) := HS5.out.cellAt (i := 3) (by simp)
            have d4 : W5.cell? ⟨H, 4, none⟩ = some (.int .i64 0) := HS5.out.cellAt (i := 4) (by simp)
            have d5 : W5.cell? ⟨H, 5, none⟩ = some (.bool false) := HS5.out.cellAt (i := 5) (by simp)
            have d6 : W5.cell? ⟨H, 6, none⟩ = some (.int .u32 0) := HS5.out.cellAt (i := 6) (by simp)
            have d7 : W5.cell? ⟨H, 7, none⟩ = some (.bool false) := HS5.out.cellAt (i := 7) (by simp)
            have d8 : W5.cell? ⟨H, 8, none⟩ = some (.int .i64 0) := HS5.out.cellAt (i := 8) (by simp)
            have d9 : W5.cell? ⟨H, 9, none⟩ = some (.int .u8 0) := HS5.out.cellAt (i := 9) (by simp)
            have d10 : W5.cell? ⟨H, 10, none⟩ = some (.int .u8 0) := HS5.out.cellAt (i := 10) (by simp)
            have d11 : W5.cell? ⟨H, 11, none⟩ = some (.int .u8 0) := HS5.out.cellAt (i := 11) (by simp)
            have d12 : W5.cell? ⟨H, 12, none⟩ = some (.int .u8 0) := HS5.out.cellAt (i := 12) (by simp)
            have d13 : W5.cell? ⟨H, 13, none⟩ = some (.int .u8 0) := HS5.out.cellAt (i := 13) (by simp)
            have d14 : W5.cell? ⟨H, 14, none⟩ = some (.int .u8 0) := HS5.out.cellAt (i := 14) (by simp)
            have d15 : W5.cell? ⟨H, 15, none⟩ = some (.int .u8 0) := HS5.out.cellAt (i := 15) (by simp)
            have d16 : W5.cell? ⟨H, 16, none⟩ = some (.int .u8 0) := HS5.out.cellAt (i := 16) (by simp)
            have HIx := HI5; have HBx := HB5; have HSx := HS5
            have HTK := Lib.hid (show ∀ y, Below W5.heap.size W5 y → Calls Try.prog 12 #[.pointer (some ⟨K, 0, none⟩), .agg #[.bool false, .bool false, .bool false, .bool false, .int .i64 0, .bool false, .int .u32 0, .bool false, .int .i64 0, .int .u8 0, .int .u8 0, .int .u8 0, .int .u8 0, .int .u8 0, .int .u8 0, .int .u8 0, .int .u8 0], .int .i64 2, .int .i64 c1] y fun z w' => z = .returned (.tuple #[]) ∧ (w'.cell? ⟨H, 0, none⟩ = some (.bool false) ∧ w'.cell? ⟨H, 1, none⟩ = some (.bool false) ∧ w'.cell? ⟨H, 2, none⟩ = some (.bool false) ∧ w'.cell? ⟨H, 3, none⟩ = some (.bool false) ∧ w'.cell? ⟨H, 4, none⟩ = some (.int .i64 0) ∧ w'.cell? ⟨H, 5, none⟩ = some (.bool false) ∧ w'.cell? ⟨H, 6, none⟩ = some (.int .u32 0) ∧ w'.cell? ⟨H, 7, none⟩ = some (.bool false) ∧ w'.cell? ⟨H, 8, none⟩ = some (.int .i64 0) ∧ w'.cell? ⟨H, 9, none⟩ = some (.int .u8 0) ∧ w'.cell? ⟨H, 10, none⟩ = some (.int .u8 0) ∧ w'.cell? ⟨H, 11, none⟩ = some (.int .u8 0) ∧ w'.cell? ⟨H, 12, none⟩ = some (.int .u8 0) ∧ w'.cell? ⟨H, 13, none⟩ = some (.int .u8 0) ∧ w'.cell? ⟨H, 14, none⟩ = some (.int .u8 0) ∧ w'.cell? ⟨H, 15, none⟩ = some (.int .u8 0) ∧ w'.cell? ⟨H, 16, none⟩ = some (.int .u8 0)) ∧ ∃ v', TW w.heap.size w' K B I O M fv v' (.slice none 0 0) (calmF s false 2 c1 (sdM (markF s 2 c1) c1)) (c1) u1 (m0) (m1) ∧ Below w.heap.size w w' from fun y hy => by
              have hI := HIx.out.on hy
              refine (took_calm K B I fv v (.slice none 0 0) s false 2 c1 false 0 false 0 0 0 0 0 0 0 0 0 (sdM (markF s 2 c1) c1) rfl y hI.ca).mono ?_
              rintro z w' ⟨h1, v', h2, h3, h4⟩
              obtain ⟨g1, g2⟩ := hI.call h2 h3 h4
              have hH := HSx.out.keep hy HSx.out.lt
              have hH2 := hH.on (h3.block H hH.lt HHF.out.1)
              exact ⟨h1, ⟨hH2.cellAt (i := 0) (by simp), hH2.cellAt (i := 1) (by simp), hH2.cellAt (i := 2) (by simp), hH2.cellAt (i := 3) (by simp), hH2.cellAt (i := 4) (by simp), hH2.cellAt (i := 5) (by simp), hH2.cellAt (i := 6) (by simp), hH2.cellAt (i := 7) (by simp), hH2.cellAt (i := 8) (by simp), hH2.cellAt (i := 9) (by simp), hH2.cellAt (i := 10) (by simp), hH2.cellAt (i := 11) (by simp), hH2.cellAt (i := 12) (by simp), hH2.cellAt (i := 13) (by simp), hH2.cellAt (i := 14) (by simp), hH2.cellAt (i := 15) (by simp), hH2.cellAt (i := 16) (by simp)⟩, v', g1, (below_of2 HBx.out HIx.out.sz hy).trans g2⟩)
            have HCN := Lib.hid (show ∀ y, Below W5.heap.size W5 y → Calls Try.prog 11 #[.pointer (some ⟨O, 0, none⟩)] y fun z w' => z = .returned (.int .i64 c1) ∧ y = w' from fun y hy => ocount_any 1000 999 c1 u1 O y (HIx.out.on hy).os)
            have HZ := Lib.hid (show (W5.cell? ⟨H, 0, none⟩ = some (.bool false) ∧ W5.cell? ⟨H, 1, none⟩ = some (.bool false) ∧ W5.cell? ⟨H, 2, none⟩ = some (.bool false) ∧ W5.cell? ⟨H, 3, none⟩ = some (.bool false) ∧ W5.cell? ⟨H, 4, none⟩ = some (.int .i64 0) ∧ W5.cell? ⟨H, 5, none⟩ = some (.bool false) ∧ W5.cell? ⟨H, 6, none⟩ = some (.int .u32 0) ∧ W5.cell? ⟨H, 7, none⟩ = some (.bool false) ∧ W5.cell? ⟨H, 8, none⟩ = some (.int .i64 0) ∧ W5.cell? ⟨H, 9, none⟩ = some (.int .u8 0) ∧ W5.cell? ⟨H, 10, none⟩ = some (.int .u8 0) ∧ W5.cell? ⟨H, 11, none⟩ = some (.int .u8 0) ∧ W5.cell? ⟨H, 12, none⟩ = some (.int .u8 0) ∧ W5.cell? ⟨H, 13, none⟩ = some (.int .u8 0) ∧ W5.cell? ⟨H, 14, none⟩ = some (.int .u8 0) ∧ W5.cell? ⟨H, 15, none⟩ = some (.int .u8 0) ∧ W5.cell? ⟨H, 16, none⟩ = some (.int .u8 0)) from ⟨d0, d1, d2, d3, d4, d5, d6, d7, d8, d9, d10, d11, d12, d13, d14, d15, d16⟩)
            clear d0 d1 d2 d3 d4 d5 d6 d7 d8 d9 d10 d11 d12 d13 d14 d15 d16
            clear HIx HBx HSx HI5 HB5 HS5 HI4 HB4 HHF HHN HT HTT HCE
            go_upto_region 23 with fail
            as_aux_lemma =>
              refine wp_region_held_drew (S := fun y => (y.cell? ⟨H, 0, none⟩ = some (.bool false) ∧ y.cell? ⟨H, 1, none⟩ = some (.bool false) ∧ y.cell? ⟨H, 2, none⟩ = some (.bool false) ∧ y.cell? ⟨H, 3, none⟩ = some (.bool false) ∧ y.cell? ⟨H, 4, none⟩ = some (.int .i64 0) ∧ y.cell? ⟨H, 5, none⟩ = some (.bool false) ∧ y.cell? ⟨H, 6, none⟩ = some (.int .u32 0) ∧ y.cell? ⟨H, 7, none⟩ = some (.bool false) ∧ y.cell? ⟨H, 8, none⟩ = some (.int .i64 0) ∧ y.cell? ⟨H, 9, none⟩ = some (.int .u8 0) ∧ y.cell? ⟨H, 10, none⟩ = some (.int .u8 0) ∧ y.cell? ⟨H, 11, none⟩ = some (.int .u8 0) ∧ y.cell? ⟨H, 12, none⟩ = some (.int .u8 0) ∧ y.cell? ⟨H, 13, none⟩ = some (.int .u8 0) ∧ y.cell? ⟨H, 14, none⟩ = some (.int .u8 0) ∧ y.cell? ⟨H, 15, none⟩ = some (.int .u8 0) ∧ y.cell? ⟨H, 16, none⟩ = some (.int .u8 0))) (by kernel_rfl) HZ.out (fun hHeld => ?_)
              refine wpAnyH_take (i := 0) (oi := _) (v := ?_) rfl (by kernel_rfl) (by kernel_rfl) (by kernel_rfl) (fun _ _ _ h => h) (Or.inl ⟨by rfl, ?_⟩) (by assumption) ?_
              rotate_left
              · intro x hSx
                try dsimp only at hSx
                obtain ⟨_, hSx1⟩ := hSx
                go_simp
                first | done | with_reducible rfl
              try simp only [Act.put, List.setIfInBounds_toArray, List.set_cons_zero, List.set_cons_succ]
              refine wpAnyH_take (i := 1) (oi := _) (v := ?_) rfl (by kernel_rfl) (by kernel_rfl) (by kernel_rfl) (fun _ _ _ h => h) (Or.inl ⟨by rfl, ?_⟩) (by assumption) ?_
              rotate_left
              · intro x hSx
                try dsimp only at hSx
                obtain ⟨_, hSx1⟩ := hSx
                go_simp
                first | done | with_reducible rfl
              try simp only [Act.put, List.setIfInBounds_toArray, List.set_cons_zero, List.set_cons_succ]
              refine wpAnyH_take (i := 2) (oi := _) (v := ?_) rfl (by kernel_rfl) (by kernel_rfl) (by kernel_rfl) (fun _ _ _ h => h) (Or.inl ⟨by rfl, ?_⟩) (by assumption) ?_
              rotate_left
              · intro x hSx
                try dsimp only at hSx
                obtain ⟨_, hSx1⟩ := hSx
                go_simp
                first | done | with_reducible rfl
              try simp only [Act.put, List.setIfInBounds_toArray, List.set_cons_zero, List.set_cons_succ]
              refine wpAnyH_take (i := 3) (oi := _) (v := ?_) rfl (by kernel_rfl) (by kernel_rfl) (by kernel_rfl) (fun _ _ _ h => h) (Or.inl ⟨by rfl, ?_⟩) (by assumption) ?_
              rotate_left
              · intro x hSx
                try dsimp only at hSx
                obtain ⟨_, hSx1⟩ := hSx
                go_simp
                first | done | with_reducible rfl
              try simp only [Act.put, List.setIfInBounds_toArray, List.set_cons_zero, List.set_cons_succ]
              refine wpAnyH_ready (rs := [4]) (by kernel_rfl) (by simp) ?_
              refine AllReadyH.cons (o := _) rfl (fun K hK => ?_) AllReadyH.nil
              go_simp
              refine (HCN.out _ (Below.refl _ _).drew).mono ?_
              rintro e8 w8 ⟨rfl, rfl⟩
              go_wp2_with fail
              refine hK.out _ _ HZ.out (fun hHeld => ?_)
              clear hK K
              try simp only [Act.put, List.setIfInBounds_toArray, List.set_cons_zero, List.set_cons_succ]
              refine wpAnyH_ready (rs := [5]) (by kernel_rfl) (by simp) ?_
              refine AllReadyH.cons (o := _) rfl (fun K hK => ?_) AllReadyH.nil
              go_simp
              refine (HTK.out _ (Below.refl _ _).drew).mono ?_
              rintro y w6 ⟨rfl, h6S, v', h6, h7⟩
              go_wp2_with fail
              refine hK.out _ _ h6S (fun hHeld => ?_)
              clear hK K
              try simp only [Act.put, List.setIfInBounds_toArray, List.set_cons_zero, List.set_cons_succ]
              refine wpAnyH_class (C := fun y' => y' = w6) 6 _ rfl (by kernel_rfl) (by rfl) (by kernel_rfl) (fun y' hy => hy ▸ h6S) rfl ?_
              try simp only [List.drop_succ_cons, List.drop_zero]
              with_reducible refine wpQuiet_nil ?_
              intro wq hq
              obtain rfl := hq
              have HIz := Lib.hid h6; have HBz := Lib.hid h7
              clear h6 h7 HZ HTK HCN h6S
              go_wp2_with fail
              go_roundw
              clear hiw
              case rel => exact ⟨i + 1, _, c1, u1, m0, m1, v', by first | rfl | exact congrArg (Value.int .i64) HIW.out, by have := HLE.out; omega, HIz.out, HTI.out, HBz.out⟩
              case measure =>
                obtain ⟨z, hz⟩ : ∃ z, z = wrap64 ((i : Int) + 1) := ⟨_, rfl⟩
                first
                  | (rw [← hz]; exact meas_ts z (hz.trans HIW.out) HLE.out)
                  | exact meas_ts _ rfl HLE.out
      · have HPOS := Lib.hid hp
        clear hp
        go_wp2_with fail
        refine HSTH.out.mono ?_
        rintro y w4 ⟨rfl, h4, h5⟩
        have HI4 := Lib.hid h4; have HB4 := Lib.hid (HB.out.trans h5)
        clear h4 h5 HSTH HI HB
        go_upto_region 15 with fail
        have hpx := HPOS.out
        have hfx := HFE.out
        obtain ⟨W5, hW5⟩ : ∃ W5, W5 = w4.alloc (.cells #[.bool false, .bool false, .bool false, .bool false, .int .i64 0, .bool false, .int .u32 0, .bool false, .int .i64 0, .int .u8 0, .int .u8 0, .int .u8 0, .int .u8 0, .int .u8 0, .int .u8 0, .int .u8 0, .int .u8 0] 43) := ⟨_, rfl⟩
        obtain ⟨H, hH⟩ : ∃ H, H = w4.heap.size := ⟨_, rfl⟩
        have hb5 : Below w4.heap.size w4 W5 := by rw [hW5]; exact (Below.refl _ w4).alloc (Nat.le_refl _) _
        have hS5 := (show Blk W5 H 43 [.bool false, .bool false, .bool false, .bool false, .int .i64 0, .bool false, .int .u32 0, .bool false, .int .i64 0, .int .u8 0, .int .u8 0, .int .u8 0, .int .u8 0, .int .u8 0, .int .u8 0, .int .u8 0, .int .u8 0] by rw [hW5, hH]; exact Blk.new w4 _ [.bool false, .bool false, .bool false, .bool false, .int .i64 0, .bool false, .int .u32 0, .bool false, .int .i64 0, .int .u8 0, .int .u8 0, .int .u8 0, .int .u8 0, .int .u8 0, .int .u8 0, .int .u8 0, .int .u8 0])
        have HI5 := Lib.hid (HI4.out.on hb5); have HB5 := Lib.hid (HB4.out.trans (hb5.mono HI4.out.sz)); have HS5 := Lib.hid hS5
        have HHF := Lib.hid (show ¬ footC K B I fv v (.slice none 0 0) H ∧ H ≠ O ∧ H ≠ M from ⟨fun hf => by have := HI4.out.ca.lt hf; omega, by have := HI4.out.os.lt; omega, by have := HI4.out.mks.lt; omega⟩)
        have HHN := Lib.hid (show w.heap.size ≤ H by rw [hH]; exact HI4.out.sz)
        clear hb5 hS5
        have j1 : (fr : Int) ≤ (i : Int) := by omega
        have j2 : ((i : Int) == (fr : Int)) = false := by rw [beq_eq_false_iff_ne]; omega
        have j3 : ((i : Int) == (en : Int)) = true := by rw [beq_iff_eq]; omega
        have HTI := Lib.hid (HT.out.next HFE.out HLE.out t HTT.out 2 (by rw [decide_eq_true (by have := HPOS.out; omega)]; rfl) true (by rw [decide_eq_true (by have := HPOS.out; omega)]) m0 (c + t) (by rw [if_neg (by have := HPOS.out; omega)]) (by rw [if_pos HPOS.out]))
        rw [← HCE.out] at HTI
        have hiw := HIW.out
        clear hpx hfx
        go_upto_region 16 with fail
        rw [← hW5, ← hH]
        clear hW5 hH

        have d0 : W5.cell? ⟨H, 0, none⟩ = some (.bool false) := HS5.out.cellAt (i := 0) (by simp)
        have d1 : W5.cell? ⟨H, 1, none⟩ = some (.bool false) := HS5.out.cellAt (i := 1) (by simp)
        have d2 : W5.cell? ⟨H, 2, none⟩ = some (.bool false) := HS5.out.cellAt (i := 2) (by simp)
        have d3 : W5.cell? ⟨H, 3, none⟩ = some (.bool false) := HS5.out.cellAt (i := 3) (by simp)
        have d4 : W5.cell? ⟨H, 4, none⟩ = some (.int .i64 0) := HS5.out.cellAt (i := 4) (by simp)
        have d5 : W5.cell? ⟨H, 5, none⟩ = some (.bool false) := HS5.out.cellAt (i := 5) (by simp)
        have d6 : W5.cell? ⟨H, 6, none⟩ = some (.int .u32 0) := HS5.out.cellAt (i := 6) (by simp)
        have d7 : W5.cell? ⟨H, 7, none⟩ = some (.bool false) := HS5.out.cellAt (i := 7) (by simp)
        have d8 : W5.cell? ⟨H, 8, none⟩ = some (.int .i64 0) := HS5.out.cellAt (i := 8) (by simp)
        have d9 : W5.cell? ⟨H, 9, none⟩ = some (.int .u8 0) := HS5.out.cellAt (i := 9) (by simp)
        have d10 : W5.cell? ⟨H, 10, none⟩ = some (.int .u8 0) := HS5.out.cellAt (i := 10) (by simp)
        have d11 : W5.cell? ⟨H, 11, none⟩ = some (.int .u8 0) := HS5.out.cellAt (i := 11) (by simp)
        have d12 : W5.cell? ⟨H, 12, none⟩ = some (.int .u8 0) := HS5.out.cellAt (i := 12) (by simp)
        have d13 : W5.cell? ⟨H, 13, none⟩ = some (.int .u8 0) := HS5.out.cellAt (i := 13) (by simp)
        have d14 : W5.cell? ⟨H, 14, none⟩ = some (.int .u8 0) := HS5.out.cellAt (i := 14) (by simp)
        have d15 : W5.cell? ⟨H, 15, none⟩ = some (.int .u8 0) := HS5.out.cellAt (i := 15) (by simp)
        have d16 : W5.cell? ⟨H, 16, none⟩ = some (.int .u8 0) := HS5.out.cellAt (i := 16) (by simp)
        have f0 : W5.frozen? ⟨H, 0, none⟩ = false := HS5.out.frozenAt 0
        have f1 : W5.frozen? ⟨H, 1, none⟩ = false := HS5.out.frozenAt 1
        have f2 : W5.frozen? ⟨H, 2, none⟩ = false := HS5.out.frozenAt 2
        have f3 : W5.frozen? ⟨H, 3, none⟩ = false := HS5.out.frozenAt 3
        have f4 : W5.frozen? ⟨H, 4, none⟩ = false := HS5.out.frozenAt 4
        have f5 : W5.frozen? ⟨H, 5, none⟩ = false := HS5.out.frozenAt 5
        have f6 : W5.frozen? ⟨H, 6, none⟩ = false := HS5.out.frozenAt 6
        have f7 : W5.frozen? ⟨H, 7, none⟩ = false := HS5.out.frozenAt 7
        have f8 : W5.frozen? ⟨H, 8, none⟩ = false := HS5.out.frozenAt 8
        have f9 : W5.frozen? ⟨H, 9, none⟩ = false := HS5.out.frozenAt 9
        have f10 : W5.frozen? ⟨H, 10, none⟩ = false := HS5.out.frozenAt 10
        have f11 : W5.frozen? ⟨H, 11, none⟩ = false := HS5.out.frozenAt 11
        have f12 : W5.frozen? ⟨H, 12, none⟩ = false := HS5.out.frozenAt 12
        have f13 : W5.frozen? ⟨H, 13, none⟩ = false := HS5.out.frozenAt 13
        have f14 : W5.frozen? ⟨H, 14, none⟩ = false := HS5.out.frozenAt 14
        have f15 : W5.frozen? ⟨H, 15, none⟩ = false := HS5.out.frozenAt 15
        have f16 : W5.frozen? ⟨H, 16, none⟩ = false := HS5.out.frozenAt 16
        obtain ⟨W6, hW6, hS6, hsz, hbk, hbe⟩ := store17 HS5.out
        have HI6 := Lib.hid (show TW w.heap.size W6 K B I O M fv v (.slice none 0 0) (s) (c1) u1 (m0) (m1) from ⟨HI5.out.ca.moved (by omega) (fun g hf => hbk g (fun e => HHF.out.1 (e ▸ hf))), HI5.out.os.moved (hbk O (fun e => HHF.out.2.1 e.symm)), HI5.out.mks.on (hbk M (fun e => HHF.out.2.2 e.symm)), HI5.out.low, HI5.out.lo, HI5.out.lm, HI5.out.om, HI5.out.fo, HI5.out.fm, by rw [hsz]; exact HI5.out.sz⟩)
        have HB6 := Lib.hid (HB5.out.trans (hbe.mono HHN.out)); have HS6 := Lib.hid hS6
        clear hS6 hsz hbk hbe
        go_upto_region 22 with fail
        rw [← hW6]
        clear hW6 d0 d1 d2 d3 d4 d5 d6 d7 d8 d9 d10 d11 d12 d13 d14 d15 d16 f0 f1 f2 f3 f4 f5 f6 f7 f8 f9 f10 f11 f12 f13 f14 f15 f16
        as_aux_lemma =>
          go_wp2_with fail
          refine (ocount_any 1000 999 c1 u1 O W6 HI6.out.os).mono ?_
          rintro y w5 ⟨rfl, rfl⟩
          have hst := HI6.out.set 1 c1 m0 c1 rfl (by omega)
          have hmc := HI6.out.mks
          have q0 : W6.cell? ⟨M, 1, none⟩ = some (.int .i64 m1) := hmc.cellAt (i := 1) (by simp)
          have q0f : W6.frozen? ⟨M, 1, none⟩ = false := hmc.frozenAt 1
          obtain ⟨W7, hW7⟩ : ∃ W7, W7 = W6.setCell ⟨M, 1, none⟩ (.int .i64 c1) := ⟨_, rfl⟩
          have hS7 := HS6.out.puts (C := M) (fun e => HHF.out.2.2 e.symm) 1 (.int .i64 c1)
          rw [← hW7] at hst hS7
          have HIx := Lib.hid hst.1; have HBx := Lib.hid (HB6.out.trans hst.2); have HSx := Lib.hid hS7
          clear hst hmc
          go_upto_region 23 with fail
          rw [← hW7]
          clear hW7 q0 q0f
          have d0 : W7.cell? ⟨H, 0, none⟩ = some (.bool false) := hS7.cellAt (i := 0) (by simp)
          have d1 : W7.cell? ⟨H, 1, none⟩ = some (.bool false) := hS7.cellAt (i := 1) (by simp)
          have d2 : W7.cell? ⟨H, 2, none⟩ = some (.bool false) := hS7.cellAt (i := 2) (by simp)
          have d3 : W7.cell? ⟨H, 3, none⟩ = some (.bool true) := hS7.cellAt (i := 3) (by simp)
          have d4 : W7.cell? ⟨H, 4, none⟩ = some (.int .i64 0) := hS7.cellAt (i := 4) (by simp)
          have d5 : W7.cell? ⟨H, 5, none⟩ = some (.bool false) := hS7.cellAt (i := 5) (by simp)
          have d6 : W7.cell? ⟨H, 6, none⟩ = some (.int .u32 0) := hS7.cellAt (i := 6) (by simp)
          have d7 : W7.cell? ⟨H, 7, none⟩ = some (.bool false) := hS7.cellAt (i := 7) (by simp)
          have d8 : W7.cell? ⟨H, 8, none⟩ = some (.int .i64 0) := hS7.cellAt (i := 8) (by simp)
          have d9 : W7.cell? ⟨H, 9, none⟩ = some (.int .u8 0) := hS7.cellAt (i := 9) (by simp)
          have d10 : W7.cell? ⟨H, 10, none⟩ = some (.int .u8 0) := hS7.cellAt (i := 10) (by simp)
          have d11 : W7.cell? ⟨H, 11, none⟩ = some (.int .u8 0) := hS7.cellAt (i := 11) (by simp)
          have d12 : W7.cell? ⟨H, 12, none⟩ = some (.int .u8 0) := hS7.cellAt (i := 12) (by simp)
          have d13 : W7.cell? ⟨H, 13, none⟩ = some (.int .u8 0) := hS7.cellAt (i := 13) (by simp)
          have d14 : W7.cell? ⟨H, 14, none⟩ = some (.int .u8 0) := hS7.cellAt (i := 14) (by simp)
          have d15 : W7.cell? ⟨H, 15, none⟩ = some (.int .u8 0) := hS7.cellAt (i := 15) (by simp)
          have d16 : W7.cell? ⟨H, 16, none⟩ = some (.int .u8 0) := hS7.cellAt (i := 16) (by simp)
          clear hS7
          have HTK := Lib.hid (show ∀ y, Below W7.heap.size W7 y → Calls Try.prog 12 #[.pointer (some ⟨K, 0, none⟩), .agg #[.bool false, .bool false, .bool false, .bool true, .int .i64 0, .bool false, .int .u32 0, .bool false, .int .i64 0, .int .u8 0, .int .u8 0, .int .u8 0, .int .u8 0, .int .u8 0, .int .u8 0, .int .u8 0, .int .u8 0], .int .i64 2, .int .i64 c1] y fun z w' => z = .returned (.tuple #[]) ∧ (w'.cell? ⟨H, 0, none⟩ = some (.bool false) ∧ w'.cell? ⟨H, 1, none⟩ = some (.bool false) ∧ w'.cell? ⟨H, 2, none⟩ = some (.bool false) ∧ w'.cell? ⟨H, 3, none⟩ = some (.bool true) ∧ w'.cell? ⟨H, 4, none⟩ = some (.int .i64 0) ∧ w'.cell? ⟨H, 5, none⟩ = some (.bool false) ∧ w'.cell? ⟨H, 6, none⟩ = some (.int .u32 0) ∧ w'.cell? ⟨H, 7, none⟩ = some (.bool false) ∧ w'.cell? ⟨H, 8, none⟩ = some (.int .i64 0) ∧ w'.cell? ⟨H, 9, none⟩ = some (.int .u8 0) ∧ w'.cell? ⟨H, 10, none⟩ = some (.int .u8 0) ∧ w'.cell? ⟨H, 11, none⟩ = some (.int .u8 0) ∧ w'.cell? ⟨H, 12, none⟩ = some (.int .u8 0) ∧ w'.cell? ⟨H, 13, none⟩ = some (.int .u8 0) ∧ w'.cell? ⟨H, 14, none⟩ = some (.int .u8 0) ∧ w'.cell? ⟨H, 15, none⟩ = some (.int .u8 0) ∧ w'.cell? ⟨H, 16, none⟩ = some (.int .u8 0)) ∧ ∃ v', TW w.heap.size w' K B I O M fv v' (.slice none 0 0) (calmF s true 2 c1 (sdM (markF s 2 c1) c1)) (c1) u1 (m0) (c1) ∧ Below w.heap.size w w' from fun y hy => by
            have hI := HIx.out.on hy
            refine (took_calm K B I fv v (.slice none 0 0) s true 2 c1 false 0 false 0 0 0 0 0 0 0 0 0 (sdM (markF s 2 c1) c1) rfl y hI.ca).mono ?_
            rintro z w' ⟨h1, v', h2, h3, h4⟩
            obtain ⟨g1, g2⟩ := hI.call h2 h3 h4
            have hH := HSx.out.keep hy HSx.out.lt
            have hH2 := hH.on (h3.block H hH.lt HHF.out.1)
            exact ⟨h1, ⟨hH2.cellAt (i := 0) (by simp), hH2.cellAt (i := 1) (by simp), hH2.cellAt (i := 2) (by simp), hH2.cellAt (i := 3) (by simp), hH2.cellAt (i := 4) (by simp), hH2.cellAt (i := 5) (by simp), hH2.cellAt (i := 6) (by simp), hH2.cellAt (i := 7) (by simp), hH2.cellAt (i := 8) (by simp), hH2.cellAt (i := 9) (by simp), hH2.cellAt (i := 10) (by simp), hH2.cellAt (i := 11) (by simp), hH2.cellAt (i := 12) (by simp), hH2.cellAt (i := 13) (by simp), hH2.cellAt (i := 14) (by simp), hH2.cellAt (i := 15) (by simp), hH2.cellAt (i := 16) (by simp)⟩, v', g1, (below_of2 HBx.out HIx.out.sz hy).trans g2⟩)
          have HCN := Lib.hid (show ∀ y, Below W7.heap.size W7 y → Calls Try.prog 11 #[.pointer (some ⟨O, 0, none⟩)] y fun z w' => z = .returned (.int .i64 c1) ∧ y = w' from fun y hy => ocount_any 1000 999 c1 u1 O y (HIx.out.on hy).os)
          have HZ := Lib.hid (show (W7.cell? ⟨H, 0, none⟩ = some (.bool false) ∧ W7.cell? ⟨H, 1, none⟩ = some (.bool false) ∧ W7.cell? ⟨H, 2, none⟩ = some (.bool false) ∧ W7.cell? ⟨H, 3, none⟩ = some (.bool true) ∧ W7.cell? ⟨H, 4, none⟩ = some (.int .i64 0) ∧ W7.cell? ⟨H, 5, none⟩ = some (.bool false) ∧ W7.cell? ⟨H, 6, none⟩ = some (.int .u32 0) ∧ W7.cell? ⟨H, 7, none⟩ = some (.bool false) ∧ W7.cell? ⟨H, 8, none⟩ = some (.int .i64 0) ∧ W7.cell? ⟨H, 9, none⟩ = some (.int .u8 0) ∧ W7.cell? ⟨H, 10, none⟩ = some (.int .u8 0) ∧ W7.cell? ⟨H, 11, none⟩ = some (.int .u8 0) ∧ W7.cell? ⟨H, 12, none⟩ = some (.int .u8 0) ∧ W7.cell? ⟨H, 13, none⟩ = some (.int .u8 0) ∧ W7.cell? ⟨H, 14, none⟩ = some (.int .u8 0) ∧ W7.cell? ⟨H, 15, none⟩ = some (.int .u8 0) ∧ W7.cell? ⟨H, 16, none⟩ = some (.int .u8 0)) from ⟨d0, d1, d2, d3, d4, d5, d6, d7, d8, d9, d10, d11, d12, d13, d14, d15, d16⟩)
          clear d0 d1 d2 d3 d4 d5 d6 d7 d8 d9 d10 d11 d12 d13 d14 d15 d16
          clear HIx HBx HSx HI5 HB5 HS5 HI4 HB4 HHF HHN HT HTT HCE HI6 HB6 HS6
          go_upto_region 23 with fail
          as_aux_lemma =>
            refine wp_region_held_drew (S := fun y => (y.cell? ⟨H, 0, none⟩ = some (.bool false) ∧ y.cell? ⟨H, 1, none⟩ = some (.bool false) ∧ y.cell? ⟨H, 2, none⟩ = some (.bool false) ∧ y.cell? ⟨H, 3, none⟩ = some (.bool true) ∧ y.cell? ⟨H, 4, none⟩ = some (.int .i64 0) ∧ y.cell? ⟨H, 5, none⟩ = some (.bool false) ∧ y.cell? ⟨H, 6, none⟩ = some (.int .u32 0) ∧ y.cell? ⟨H, 7, none⟩ = some (.bool false) ∧ y.cell? ⟨H, 8, none⟩ = some (.int .i64 0) ∧ y.cell? ⟨H, 9, none⟩ = some (.int .u8 0) ∧ y.cell? ⟨H, 10, none⟩ = some (.int .u8 0) ∧ y.cell? ⟨H, 11, none⟩ = some (.int .u8 0) ∧ y.cell? ⟨H, 12, none⟩ = some (.int .u8 0) ∧ y.cell? ⟨H, 13, none⟩ = some (.int .u8 0) ∧ y.cell? ⟨H, 14, none⟩ = some (.int .u8 0) ∧ y.cell? ⟨H, 15, none⟩ = some (.int .u8 0) ∧ y.cell? ⟨H, 16, none⟩ = some (.int .u8 0))) (by kernel_rfl) HZ.out (fun hHeld => ?_)
            refine wpAnyH_take (i := 0) (oi := _) (v := ?_) rfl (by kernel_rfl) (by kernel_rfl) (by kernel_rfl) (fun _ _ _ h => h) (Or.inl ⟨by rfl, ?_⟩) (by assumption) ?_
            rotate_left
            · intro x hSx
              try dsimp only at hSx
              obtain ⟨_, hSx1⟩ := hSx
              go_simp
              first | done | with_reducible rfl
            try simp only [Act.put, List.setIfInBounds_toArray, List.set_cons_zero, List.set_cons_succ]
            refine wpAnyH_take (i := 1) (oi := _) (v := ?_) rfl (by kernel_rfl) (by kernel_rfl) (by kernel_rfl) (fun _ _ _ h => h) (Or.inl ⟨by rfl, ?_⟩) (by assumption) ?_
            rotate_left
            · intro x hSx
              try dsimp only at hSx
              obtain ⟨_, hSx1⟩ := hSx
              go_simp
              first | done | with_reducible rfl
            try simp only [Act.put, List.setIfInBounds_toArray, List.set_cons_zero, List.set_cons_succ]
            refine wpAnyH_take (i := 2) (oi := _) (v := ?_) rfl (by kernel_rfl) (by kernel_rfl) (by kernel_rfl) (fun _ _ _ h => h) (Or.inl ⟨by rfl, ?_⟩) (by assumption) ?_
            rotate_left
            · intro x hSx
              try dsimp only at hSx
              obtain ⟨_, hSx1⟩ := hSx
              go_simp
              first | done | with_reducible rfl
            try simp only [Act.put, List.setIfInBounds_toArray, List.set_cons_zero, List.set_cons_succ]
            refine wpAnyH_take (i := 3) (oi := _) (v := ?_) rfl (by kernel_rfl) (by kernel_rfl) (by kernel_rfl) (fun _ _ _ h => h) (Or.inl ⟨by rfl, ?_⟩) (by assumption) ?_
            rotate_left
            · intro x hSx
              try dsimp only at hSx
              obtain ⟨_, hSx1⟩ := hSx
              go_simp
              first | done | with_reducible rfl
            try simp only [Act.put, List.setIfInBounds_toArray, List.set_cons_zero, List.set_cons_succ]
            refine wpAnyH_ready (rs := [4]) (by kernel_rfl) (by simp) ?_
            refine AllReadyH.cons (o := _) rfl (fun K hK => ?_) AllReadyH.nil
            go_simp
            refine (HCN.out _ (Below.refl _ _).drew).mono ?_
            rintro e8 w8 ⟨rfl, rfl⟩
            go_wp2_with fail
            refine hK.out _ _ HZ.out (fun hHeld => ?_)
            clear hK K
            try simp only [Act.put, List.setIfInBounds_toArray, List.set_cons_zero, List.set_cons_succ]
            refine wpAnyH_ready (rs := [5]) (by kernel_rfl) (by simp) ?_
            refine AllReadyH.cons (o := _) rfl (fun K hK => ?_) AllReadyH.nil
            go_simp
            refine (HTK.out _ (Below.refl _ _).drew).mono ?_
            rintro y w6 ⟨rfl, h6S, v', h6, h7⟩
            go_wp2_with fail
            refine hK.out _ _ h6S (fun hHeld => ?_)
            clear hK K
            try simp only [Act.put, List.setIfInBounds_toArray, List.set_cons_zero, List.set_cons_succ]
            refine wpAnyH_class (C := fun y' => y' = w6) 6 _ rfl (by kernel_rfl) (by rfl) (by kernel_rfl) (fun y' hy => hy ▸ h6S) rfl ?_
            try simp only [List.drop_succ_cons, List.drop_zero]
            with_reducible refine wpQuiet_nil ?_
            intro wq hq
            obtain rfl := hq
            have HIz := Lib.hid h6; have HBz := Lib.hid h7
            clear h6 h7 HZ HTK HCN h6S
            go_wp2_with fail
            go_roundw
            clear hiw
            case rel => exact ⟨i + 1, _, c1, u1, m0, c1, v', by first | rfl | exact congrArg (Value.int .i64) HIW.out, by have := HLE.out; omega, HIz.out, HTI.out, HBz.out⟩
            case measure =>
              obtain ⟨z, hz⟩ : ∃ z, z = wrap64 ((i : Int) + 1) := ⟨_, rfl⟩
              first
                | (rw [← hz]; exact meas_ts z (hz.trans HIW.out) HLE.out)
                | exact meas_ts _ rfl HLE.out
    · have i1 : ¬ (i : Int) ≤ (en : Int) := by omega
      have hie : i = en + 1 := by omega
      have hq : s.Q = sdM m0 m1 :: [] := HT.out.q.trans (if_neg (by omega))
      have HQ := Lib.hid hq
      have HNB := Lib.hid (show 0 ≤ m0 ∧ m0 ≤ c ∧ c - m0 < 16777216 ∧ c ≤ 2752470 ∧ m1 = c by
        have h1 := HT.out.m0c (by have := HFE.out; omega); have h2 := HT.out.m0k (by have := HFE.out; omega); have h3 := HT.out.m00; have h4 := HT.out.c1; have h5 := HT.out.last (by omega); have h6 := HEN.out
        exact ⟨h3, h1, by omega, by omega, h5⟩)
      obtain ⟨st, hst⟩ : ∃ z, z = stampI m0 24 := ⟨_, rfl⟩
      have ht24 : turnN 24 = 16777216 := by decide
      have hst2 : st = m0 % 16777216 := by rw [hst]; unfold stampI; rw [ht24]; rfl
      have hback : (c - st) % 16777216 = c - m0 := back_t (d := c - m0) (by decide) (by have := HNB.out; omega) (by have := HNB.out; omega) (by rw [hst2]; congr 1; omega)
      have hstb : 0 ≤ st ∧ st < 16777216 := by rw [hst2]; exact ⟨Int.emod_nonneg _ (by decide), Int.emod_lt_of_pos _ (by decide)⟩
      have HSP := Lib.hid (fun y => osc_stamp m0 24 y)
      rw [← hst] at HSP
      have HEX := Lib.hid (show ∀ y, Calls Try.prog 14 #[.int .i64 c, .int .u64 st, .int .i64 24] y fun z w' => z = .returned (.tuple #[.int .i64 m0, .bool true]) ∧ y = w' from fun y => by
        have he : expO c st 24 = true := by unfold expO; rw [ht24]; exact decide_eq_true ⟨by have := HNB.out; omega, hstb.2, by show (c - st) % 16777216 ≤ c; rw [hback]; have := HNB.out; omega⟩
        have hx : expX c st 24 = m0 := by unfold expX; rw [he, if_pos rfl, ht24]; show c - (c - st) % 16777216 = m0; rw [hback]; omega
        have := osc_expand c st 24 (by have := HNB.out; omega) (by omega) y
        rw [he, hx] at this
        exact this)
      clear hst hst2 hback hstb ht24 hq hi hie
      go_wp2_with fail
      refine (cread_some K B I fv v (.slice none 0 0) s false 0 false 0 0 0 0 0 0 0 0 0 m0 m1 [] HQ.out _ HI.out.ca).mono ?_
      rintro y w5 ⟨rfl, v', h1, h2, h3⟩
      obtain ⟨g1, g2⟩ := HI.out.call h1 h2 h3
      have HI5 := Lib.hid g1; have HB5 := Lib.hid (HB.out.trans g2)
      clear h1 h2 h3 g1 g2 HI HB HT
      go_upto_region 25 with fail
      obtain ⟨W6, hW6⟩ : ∃ W6, W6 = w5.alloc (.cells #[.bool false, .int .u32 0, .bool false, .int .i64 0, .int .u8 0, .int .u8 0, .int .u8 0, .int .u8 0, .int .u8 0, .int .u8 0, .int .u8 0, .int .u8 0, .int .i64 m0, .int .i64 m1] 48) := ⟨_, rfl⟩
      obtain ⟨S, hS⟩ : ∃ S, S = w5.heap.size := ⟨_, rfl⟩
      have hb6 : Below w5.heap.size w5 W6 := by rw [hW6]; exact (Below.refl _ w5).alloc (Nat.le_refl _) _
      have hS6 := (show Blk W6 S 48 [.bool false, .int .u32 0, .bool false, .int .i64 0, .int .u8 0, .int .u8 0, .int .u8 0, .int .u8 0, .int .u8 0, .int .u8 0, .int .u8 0, .int .u8 0, .int .i64 m0, .int .i64 m1] by rw [hW6, hS]; exact Blk.new w5 _ [.bool false, .int .u32 0, .bool false, .int .i64 0, .int .u8 0, .int .u8 0, .int .u8 0, .int .u8 0, .int .u8 0, .int .u8 0, .int .u8 0, .int .u8 0, .int .i64 m0, .int .i64 m1])
      rw [← hW6, ← hS]
      have HI6 := Lib.hid (HI5.out.on hb6); have HB6 := Lib.hid (HB5.out.trans (hb6.mono HI5.out.sz)); have HS6 := Lib.hid hS6
      clear hb6 hS6 hW6 hS HI5 HB5
      have HZ := Lib.hid (show ∀ y, Below W6.heap.size W6 y → Below W6.heap.size W6 y ∧ y.cell? ⟨S, 12, none⟩ = some (.int .i64 m0) from fun y hy => ⟨hy, (HS6.out.keep hy HS6.out.lt).cellAt (i := 12) (by simp)⟩)
      refine wp_region_class (C := fun y => Below W6.heap.size W6 y ∧ y.cell? ⟨S, 12, none⟩ = some (.int .i64 m0)) (by kernel_rfl) (by kernel_rfl) (HZ.out _ (Below.refl _ _).drew) ?_
      repeat
        with_reducible refine wpQuiet_step (fun K hK => ?_)
        first
          | (refine quiet_skip (by rfl) ?_; (with_reducible refine hK _ ?_); clear hK K)
          | (refine quiet_want (by rfl) ?_
             apply Exists.intro
             refine ⟨fun x hx => ?_, hK _ ?_⟩
             (obtain ⟨_, hx1⟩ := id hx; go_simp; first | done | rfl | (first | (go_at_call 11; exact (ocount_any 1000 999 c u O _ (HI6.out.on hx.1).os).mono fun y w' ⟨h1, h2⟩ => ⟨h1, h2 ▸ hx⟩) | (go_at_call 15; exact (HSP.out _).mono fun y w' ⟨h1, h2⟩ => ⟨h1, h2 ▸ hx⟩) | (go_at_call 14; exact (HEX.out _).mono fun y w' ⟨h1, h2⟩ => ⟨h1, h2 ▸ hx⟩)))
             clear hK K)
        try simp only [Act.put, List.setIfInBounds_toArray, List.set_cons_zero, List.set_cons_succ]
      with_reducible refine wpQuiet_nil ?_
      intro wq hq
      have HI7 := Lib.hid (HI6.out.on hq.1); have HB7 := Lib.hid (HB6.out.trans (hq.1.mono HI6.out.sz)); have HS7 := Lib.hid (HS6.out.keep hq.1 HS6.out.lt)
      clear hq HZ HI6 HB6 HS6
      have d12 : wq.cell? ⟨S, 12, none⟩ = some (.int .i64 m0) := HS7.out.cellAt (i := 12) (by simp)
      have d13 : wq.cell? ⟨S, 13, none⟩ = some (.int .i64 m1) := HS7.out.cellAt (i := 13) (by simp)
      have e0 : wq.cell? ⟨M, 0, none⟩ = some (.int .i64 m0) := HI7.out.mks.cellAt (i := 0) (by simp)
      have e1 : wq.cell? ⟨M, 1, none⟩ = some (.int .i64 m1) := HI7.out.mks.cellAt (i := 1) (by simp)
      have k0 : (m0 == m0) = true := by simp
      have k1 : (m1 == m1) = true := by simp
      go_wp2_with fail
      go_ret
      exact ⟨rfl, HB7.out⟩
set_option maxRecDepth 100000 in
theorem lifted (os : Os) (started : os.Started) (H : Type) (enc : TypeId × Value → H) :
    ReturnsInHanded {} Try.checked os 3 .any (Rows.topStampsSpec.pre6 enc Try.prog Try.f3 Rows.topStampsRow.domain false) (Rows.topStampsSpec.post enc Try.prog Try.f3 false true false false) := by
  refine returnsInHanded_of_change (C := Try.checked) own started (by kernel_rfl) Try.func3
    (ChangeSpec.witness6 (enc := enc) (C := Try.checked) false ⟨#[], #[.slice none 0 0, .int .u8 0, .int .u8 0], []⟩ 8 (by kernel_rfl) (by kernel_rfl) (by kernel_rfl) (by kernel_rfl)) ?_
  intro W base args ds gs before hval0 hW _ _
  have hval : ∀ (j : Nat) t v, Try.f3.params[j]? = some t → args[j]? = some v → Value.okWide Try.prog W .any base t v := hval0
  have hW' := hW
  obtain ⟨p, q, hA0, hV, rfl, hfz, hnd⟩ := hW
  have hA : DataW.TrodAll enc Try.prog W 0 (fun _ => true) true Try.f3.params.toList args.toList ds p := hA0
  rw [Try.params3] at hA hval
  obtain ⟨v0, vs0, d0, ds0, p0, q0, hargs, rfl, rfl, h0, r0⟩ := trodAll_cons hA
  obtain ⟨v1, vs1, d1, ds1, p1, q1, rfl, rfl, rfl, h1, r1⟩ := trodAll_cons r0
  obtain ⟨v2, vs2, d2, ds2, p2, q2, rfl, rfl, rfl, h2, r2⟩ := trodAll_cons r1
  obtain ⟨rfl, rfl, rfl⟩ := trodAll_nil r2
  obtain rfl : args = #[v0, v1, v2] := by cases args; simp_all
  obtain ⟨rfl, rfl⟩ := trodVars_none hV
  obtain ⟨a0, len0, cap0, rfl⟩ := okWide_slice Try.underlying22 (hval 0 22 v0 rfl rfl)
  have k0 := h0
  have lt0 : ∀ x ∈ p0, x.block < W.heap.size := by obtain ⟨m, hm⟩ := k0; exact DataW.trod_lt m _ _ _ hm
  obtain ⟨z0, w0⟩ : ∃ zs, RowI .u16 W a0 len0 cap0 zs := by
    obtain ⟨fuel, hf⟩ := h0
    rcases open_ints Try.underlying22 Try.underlying33 (by kernel_rfl) hf with ⟨hcs, _⟩ | ⟨x, l, c, zs, hcs, _, hl, hm, hz, _, hcell, hwz⟩
    · simp [Value.cells] at hcs
      obtain ⟨rfl, rfl, rfl⟩ := hcs
      exact ⟨[], .inl ⟨rfl, rfl, rfl, rfl⟩⟩
    · simp [Value.cells] at hcs
      obtain ⟨rfl, rfl, rfl⟩ := hcs
      exact ⟨zs, .inr ⟨_, rfl, hl, hm, by simpa using hz, hcell, hwz⟩⟩
  obtain ⟨a1, rfl, rfl, rfl, w1⟩ := open_int Try.underlying5 (hval 1 5 v1 rfl rfl) h1
  obtain ⟨a2, rfl, rfl, rfl, w2⟩ := open_int Try.underlying5 (hval 2 5 v2 rfl rfl) h2
  clear hA0 hval0
  refine (walk a0 len0 cap0 z0 a1 a2 W w0 w1 w2).mono fun e W' ⟨he, bel⟩ => ?_
  subst he
  exact ⟨_, rfl, _, _, _, [], _, [], hW', trodAll_mk1 (shut_bool Try.underlying4 _), (trodAll_cons_mk (Below.trod laidOut (by kernel_rfl) (of_decide_eq_true (by kernel_rfl)) k0 bel lt0) (trodAll_cons_mk (shut_int Try.underlying5 w1) (trodAll_cons_mk (shut_int Try.underlying5 w2) trodAll_mk0))), rfl, bel.frame _, fun h => by cases h⟩
theorem over : Rows.topStampsRow.holds Try.pinned (OpenSpec.ofChange Rows.topStampsSpec) :=
  OpenClaim.holds_of_wide 3 Try.f3 rfl rfl rfl rfl rfl rfl rfl ⟨rfl, rfl, rfl, rfl, rfl⟩ rfl rfl rfl rfl rfl (by kernel_rfl) Try.func3 (by kernel_rfl)
    (of_decide_eq_true (by kernel_rfl)) (by unfold Func.isWrapper; first | (rw [if_pos (by decide +kernel)]; kernel_rfl) | (rw [if_neg (by decide +kernel)]; exact ⟨rfl, rfl⟩))
    (fun os started H enc _ => lifted os started H enc)
/-- The statement. -/
theorem proved : Rows.TopStampsSaid := over
end Go.Proofs.Ytmlnobiakfapcab.topStamps
