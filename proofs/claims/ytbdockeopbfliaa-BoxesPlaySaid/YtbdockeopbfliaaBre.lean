/- The document's own boxes: the best one. Conditions: identifiers are of 32 bits. -/
import Derived.Test.YtbdockeopbfliaaBrc
import Derived.Test.YtbdockeopbfliaaBxg
import Derived.Test.YtbdockeopbfliaaBat
import Derived.Test.YtbdockeopbfliaaQui
namespace Go.Proofs.Ytbdockeopbfliaa
open Go.RowKit
set_option linter.unusedSimpArgs false
set_option linter.unusedVariables false
set_option maxRecDepth 2000000 in
set_option maxHeartbeats 16000000 in
theorem rbbest_any (B P H : Nat) (L : List BD) (m : Nat) (hn : ∀ j, j < m → (bxAt L j).p.n < 4294967296) (w : World) (h : RB w B P H L m) : Calls Try.prog 13 #[.pointer (some ⟨B, 0, none⟩)] w fun y w' => y = .returned (.int .i64 (bestF L m)) ∧ Below w.heap.size w w' := by
  have HR := Lib.hid (show ∀ u, Below w.heap.size w u → RB u B P H L m from fun u hu => h.on hu)
  have HN := Lib.hid hn
  have hm8 := h.r8
  clear h hn
  go_enter Try.func13, Try.ntmps13
  go_wp2_with fail
  go_loopw [3, 4] (fun s3 s4 wr => ∃ k : Nat, s4 = .int .i64 (k : Int) ∧ k ≤ m ∧ s3 = .int .i64 (bestS L k).1 ∧ Below w.heap.size w wr) (fun _ s4 _ => m - (intOf s4).toNat)
  case atStart => exact ⟨0, rfl, by omega, rfl, by first | exact Below.refl _ _ | exact (Below.refl _ _).drew⟩
  case round =>
    obtain ⟨k, rfl, hk, rfl, hB⟩ := hrel
    have HB := Lib.hid hB
    have g0 := (HR.out wr hB).c0
    have g1 := (HR.out wr hB).c1
    clear hB
    have i2 : (0 : Int) ≤ (k : Int) := by omega
    by_cases hlt : k < m
    · have i1 : (k : Int) < (m : Int) := by omega
      have i3 : wrap64 ((k : Int) + 1) = (k : Int) + 1 := by unfold wrap64; omega
      have HKM := Lib.hid hlt
      have HLS := Lib.hid (show bestS L (k + 1) = if (bxAt L k).full = true ∧ keyP (bxAt L k).p < (bestS L k).2 then ((k : Int), keyP (bxAt L k).p) else bestS L k from rfl)
      have hnk := HN.out k hlt
      by_cases hf : (bxAt L k).full = true
      · have HF := Lib.hid hf.symm
        rcases best_spec L k with ⟨a, a1, a2, a3, _⟩ | ⟨a2, _⟩
        · rw [a2] at HLS ⊢
          have j1 : ¬ (a : Int) < 0 := by omega
          have j2 : (0 : Int) ≤ (a : Int) := by omega
          have j3 : (a : Int) < (m : Int) := by omega
          have HAM := Lib.hid (show a < m by omega)
          have hna := HN.out a (by omega)
          have KK := Lib.hid (fun u => refKey_any (bxAt L k).p.e (bxAt L k).p.n (bxAt L k).p.q hnk u)
          have KA := Lib.hid (fun u => refKey_any (bxAt L a).p.e (bxAt L a).p.n (bxAt L a).p.q hna u)
          obtain ⟨ky, hky⟩ : ∃ ky, ky = keyP (bxAt L k).p := ⟨_, rfl⟩
          obtain ⟨kz, hkz⟩ : ∃ kz, kz = keyP (bxAt L a).p := ⟨_, rfl⟩
          rw [show idKey (bxAt L k).p.e (bxAt L k).p.n (bxAt L k).p.q = ky by rw [hky]; rfl] at KK
          rw [show idKey (bxAt L a).p.e (bxAt L a).p.n (bxAt L a).p.q = kz by rw [hkz]; rfl] at KA
          rw [← hky, ← hkz, hf] at HLS
          rw [← hkz]
          obtain ⟨e, he⟩ : ∃ e, e = (bxAt L k).p.e := ⟨_, rfl⟩
          obtain ⟨n, hn⟩ : ∃ n, n = (bxAt L k).p.n := ⟨_, rfl⟩
          obtain ⟨q, hq⟩ : ∃ q, q = (bxAt L k).p.q := ⟨_, rfl⟩
          obtain ⟨ae, hae⟩ : ∃ ae, ae = (bxAt L a).p.e := ⟨_, rfl⟩
          obtain ⟨an, han⟩ : ∃ an, an = (bxAt L a).p.n := ⟨_, rfl⟩
          obtain ⟨aq, haq⟩ : ∃ aq, aq = (bxAt L a).p.q := ⟨_, rfl⟩
          have HEK := Lib.hid (show e = (bxAt L k).p.e ∧ n = (bxAt L k).p.n ∧ q = (bxAt L k).p.q from ⟨he, hn, hq⟩)
          have HEA := Lib.hid (show ae = (bxAt L a).p.e ∧ an = (bxAt L a).p.n ∧ aq = (bxAt L a).p.q from ⟨hae, han, haq⟩)
          rw [← he, ← hn, ← hq] at KK
          rw [← hae, ← han, ← haq] at KA
          unfold identV at KK KA
          clear hky hkz hnk hna hf a2 a3 he hn hq hae han haq
          by_cases hlk : ky < kz
          · have i9 : (ky : Int) < (kz : Int) := by omega
            have HE := Lib.hid (show bestS L (k + 1) = ((k : Int), ky) by rw [HLS.out, if_pos ⟨rfl, hlk⟩])
            clear hlk
            have HZ := Lib.hid (show ∀ u, Below wr.heap.size wr u → Below wr.heap.size wr u ∧ u.cell? ⟨B, 0, none⟩ = some (.slice (some ⟨P, 0, none⟩) m m) ∧ u.cell? ⟨B, 1, none⟩ = some (.slice (some ⟨H, 0, none⟩) m m) ∧ u.cell? ⟨H, k, none⟩ = some (.bool true) ∧ u.cell? ⟨P, k * 14, none⟩ = some (.bool e) ∧ u.cell? ⟨P, k * 14 + 1, none⟩ = some (.int .u32 (n : Int)) ∧ u.cell? ⟨P, k * 14 + 2, none⟩ = some (.bool q) ∧ u.cell? ⟨P, a * 14, none⟩ = some (.bool ae) ∧ u.cell? ⟨P, a * 14 + 1, none⟩ = some (.int .u32 (an : Int)) ∧ u.cell? ⟨P, a * 14 + 2, none⟩ = some (.bool aq) from fun u hx => ⟨hx, (HR.out u (HB.out.trans (hx.mono HB.out.size))).c0, (HR.out u (HB.out.trans (hx.mono HB.out.size))).c1, by rw [HF.out]; exact (HR.out u (HB.out.trans (hx.mono HB.out.size))).full HKM.out, by rw [HEK.out.1]; exact (HR.out u (HB.out.trans (hx.mono HB.out.size))).post (j := k) HKM.out (i := 0) rfl, by rw [HEK.out.2.1]; exact (HR.out u (HB.out.trans (hx.mono HB.out.size))).post (j := k) HKM.out (i := 1) rfl, by rw [HEK.out.2.2]; exact (HR.out u (HB.out.trans (hx.mono HB.out.size))).post (j := k) HKM.out (i := 2) rfl, by rw [HEA.out.1]; exact (HR.out u (HB.out.trans (hx.mono HB.out.size))).post (j := a) HAM.out (i := 0) rfl, by rw [HEA.out.2.1]; exact (HR.out u (HB.out.trans (hx.mono HB.out.size))).post (j := a) HAM.out (i := 1) rfl, by rw [HEA.out.2.2]; exact (HR.out u (HB.out.trans (hx.mono HB.out.size))).post (j := a) HAM.out (i := 2) rfl⟩)
            go_upto_region 5 with fail
            refine wp_region_class (C := fun x_ => Below wr.heap.size wr x_ ∧ x_.cell? ⟨B, 0, none⟩ = some (.slice (some ⟨P, 0, none⟩) m m) ∧ x_.cell? ⟨B, 1, none⟩ = some (.slice (some ⟨H, 0, none⟩) m m) ∧ x_.cell? ⟨H, k, none⟩ = some (.bool true) ∧ x_.cell? ⟨P, k * 14, none⟩ = some (.bool e) ∧ x_.cell? ⟨P, k * 14 + 1, none⟩ = some (.int .u32 (n : Int)) ∧ x_.cell? ⟨P, k * 14 + 2, none⟩ = some (.bool q) ∧ x_.cell? ⟨P, a * 14, none⟩ = some (.bool ae) ∧ x_.cell? ⟨P, a * 14 + 1, none⟩ = some (.int .u32 (an : Int)) ∧ x_.cell? ⟨P, a * 14 + 2, none⟩ = some (.bool aq)) (by kernel_rfl) (by kernel_rfl) (HZ.out _ (Below.refl _ _).drew) ?_
            repeat
              with_reducible refine wpQuiet_step (fun K hK => ?_)
              first
                | (refine quiet_skip (by rfl) ?_; (with_reducible refine hK _ ?_); clear hK K)
                | (refine quiet_want (by rfl) ?_
                   apply Exists.intro
                   refine ⟨fun xw hx => ?_, hK _ ?_⟩
                   (obtain ⟨_, hx1, hx2, hx3, hx4, hx5, hx6, hx7, hx8, hx9⟩ := id hx; go_simp; first | done | rfl | (first | (go_at_call 28; with_reducible exact Calls.mono (KK.out xw) (fun y w' hh => ⟨hh.1, HZ.out _ (below_transG hx.1 hh.2)⟩)) | (go_at_call 28; with_reducible exact Calls.mono (KA.out xw) (fun y w' hh => ⟨hh.1, HZ.out _ (below_transG hx.1 hh.2)⟩))))
                   clear hK K)
              try simp only [Act.put, List.setIfInBounds_toArray, List.set_cons_zero, List.set_cons_succ]
            with_reducible refine wpQuiet_nil ?_
            intro wq hq
            have HB5 := Lib.hid (HB.out.trans (hq.1.mono HB.out.size))
            clear hq
            go_wp2_with fail
            go_roundw
            case rel => exact ⟨k + 1, by simp, by omega, by rw [HE.out], by first | exact HB5.out | exact HB5.out.drew⟩
            case measure => simp [intOf]; omega
          · have i9 : ¬ (ky : Int) < (kz : Int) := by omega
            have HE := Lib.hid (show bestS L (k + 1) = ((a : Int), kz) by rw [HLS.out, if_neg (fun h => hlk h.2)])
            clear hlk
            have HZ := Lib.hid (show ∀ u, Below wr.heap.size wr u → Below wr.heap.size wr u ∧ u.cell? ⟨B, 0, none⟩ = some (.slice (some ⟨P, 0, none⟩) m m) ∧ u.cell? ⟨B, 1, none⟩ = some (.slice (some ⟨H, 0, none⟩) m m) ∧ u.cell? ⟨H, k, none⟩ = some (.bool true) ∧ u.cell? ⟨P, k * 14, none⟩ = some (.bool e) ∧ u.cell? ⟨P, k * 14 + 1, none⟩ = some (.int .u32 (n : Int)) ∧ u.cell? ⟨P, k * 14 + 2, none⟩ = some (.bool q) ∧ u.cell? ⟨P, a * 14, none⟩ = some (.bool ae) ∧ u.cell? ⟨P, a * 14 + 1, none⟩ = some (.int .u32 (an : Int)) ∧ u.cell? ⟨P, a * 14 + 2, none⟩ = some (.bool aq) from fun u hx => ⟨hx, (HR.out u (HB.out.trans (hx.mono HB.out.size))).c0, (HR.out u (HB.out.trans (hx.mono HB.out.size))).c1, by rw [HF.out]; exact (HR.out u (HB.out.trans (hx.mono HB.out.size))).full HKM.out, by rw [HEK.out.1]; exact (HR.out u (HB.out.trans (hx.mono HB.out.size))).post (j := k) HKM.out (i := 0) rfl, by rw [HEK.out.2.1]; exact (HR.out u (HB.out.trans (hx.mono HB.out.size))).post (j := k) HKM.out (i := 1) rfl, by rw [HEK.out.2.2]; exact (HR.out u (HB.out.trans (hx.mono HB.out.size))).post (j := k) HKM.out (i := 2) rfl, by rw [HEA.out.1]; exact (HR.out u (HB.out.trans (hx.mono HB.out.size))).post (j := a) HAM.out (i := 0) rfl, by rw [HEA.out.2.1]; exact (HR.out u (HB.out.trans (hx.mono HB.out.size))).post (j := a) HAM.out (i := 1) rfl, by rw [HEA.out.2.2]; exact (HR.out u (HB.out.trans (hx.mono HB.out.size))).post (j := a) HAM.out (i := 2) rfl⟩)
            go_upto_region 5 with fail
            refine wp_region_class (C := fun x_ => Below wr.heap.size wr x_ ∧ x_.cell? ⟨B, 0, none⟩ = some (.slice (some ⟨P, 0, none⟩) m m) ∧ x_.cell? ⟨B, 1, none⟩ = some (.slice (some ⟨H, 0, none⟩) m m) ∧ x_.cell? ⟨H, k, none⟩ = some (.bool true) ∧ x_.cell? ⟨P, k * 14, none⟩ = some (.bool e) ∧ x_.cell? ⟨P, k * 14 + 1, none⟩ = some (.int .u32 (n : Int)) ∧ x_.cell? ⟨P, k * 14 + 2, none⟩ = some (.bool q) ∧ x_.cell? ⟨P, a * 14, none⟩ = some (.bool ae) ∧ x_.cell? ⟨P, a * 14 + 1, none⟩ = some (.int .u32 (an : Int)) ∧ x_.cell? ⟨P, a * 14 + 2, none⟩ = some (.bool aq)) (by kernel_rfl) (by kernel_rfl) (HZ.out _ (Below.refl _ _).drew) ?_
            repeat
              with_reducible refine wpQuiet_step (fun K hK => ?_)
              first
                | (refine quiet_skip (by rfl) ?_; (with_reducible refine hK _ ?_); clear hK K)
                | (refine quiet_want (by rfl) ?_
                   apply Exists.intro
                   refine ⟨fun xw hx => ?_, hK _ ?_⟩
                   (obtain ⟨_, hx1, hx2, hx3, hx4, hx5, hx6, hx7, hx8, hx9⟩ := id hx; go_simp; first | done | rfl | (first | (go_at_call 28; with_reducible exact Calls.mono (KK.out xw) (fun y w' hh => ⟨hh.1, HZ.out _ (below_transG hx.1 hh.2)⟩)) | (go_at_call 28; with_reducible exact Calls.mono (KA.out xw) (fun y w' hh => ⟨hh.1, HZ.out _ (below_transG hx.1 hh.2)⟩))))
                   clear hK K)
              try simp only [Act.put, List.setIfInBounds_toArray, List.set_cons_zero, List.set_cons_succ]
            with_reducible refine wpQuiet_nil ?_
            intro wq hq
            have HB5 := Lib.hid (HB.out.trans (hq.1.mono HB.out.size))
            clear hq
            go_wp2_with fail
            go_roundw
            case rel => exact ⟨k + 1, by simp, by omega, by rw [HE.out], by first | exact HB5.out | exact HB5.out.drew⟩
            case measure => simp [intOf]; omega
        · rw [a2] at HLS ⊢
          have hkl : keyP (bxAt L k).p < 4294967296 := idKey_lt _ _ _
          have HE := Lib.hid (show bestS L (k + 1) = ((k : Int), keyP (bxAt L k).p) by rw [HLS.out, if_pos ⟨hf, hkl⟩])
          have i9 : (-1 : Int) < 0 := by omega
          clear hkl hnk hf a2
          have HZ := Lib.hid (show ∀ u, Below wr.heap.size wr u → Below wr.heap.size wr u ∧ u.cell? ⟨B, 0, none⟩ = some (.slice (some ⟨P, 0, none⟩) m m) ∧ u.cell? ⟨B, 1, none⟩ = some (.slice (some ⟨H, 0, none⟩) m m) ∧ u.cell? ⟨H, k, none⟩ = some (.bool true) from fun u hx => ⟨hx, (HR.out u (HB.out.trans (hx.mono HB.out.size))).c0, (HR.out u (HB.out.trans (hx.mono HB.out.size))).c1, by rw [HF.out]; exact (HR.out u (HB.out.trans (hx.mono HB.out.size))).full HKM.out⟩)
          go_upto_region 5 with fail
          refine wp_region_class (C := fun x_ => Below wr.heap.size wr x_ ∧ x_.cell? ⟨B, 0, none⟩ = some (.slice (some ⟨P, 0, none⟩) m m) ∧ x_.cell? ⟨B, 1, none⟩ = some (.slice (some ⟨H, 0, none⟩) m m) ∧ x_.cell? ⟨H, k, none⟩ = some (.bool true)) (by kernel_rfl) (by kernel_rfl) (HZ.out _ (Below.refl _ _).drew) ?_
          repeat
            with_reducible refine wpQuiet_step (fun K hK => ?_)
            first
              | (refine quiet_skip (by rfl) ?_; (with_reducible refine hK _ ?_); clear hK K)
              | (refine quiet_want (by rfl) ?_
                 apply Exists.intro
                 refine ⟨fun xw hx => ?_, hK _ ?_⟩
                 (obtain ⟨_, hx1, hx2, hx3⟩ := id hx; go_simp; first | done | rfl | (fail))
                 clear hK K)
            try simp only [Act.put, List.setIfInBounds_toArray, List.set_cons_zero, List.set_cons_succ]
          with_reducible refine wpQuiet_nil ?_
          intro wq hq
          have HB5 := Lib.hid (HB.out.trans (hq.1.mono HB.out.size))
          clear hq
          go_wp2_with fail
          go_roundw
          case rel => exact ⟨k + 1, by simp, by omega, by rw [HE.out], by first | exact HB5.out | exact HB5.out.drew⟩
          case measure => simp [intOf]; omega
      · have hf : (bxAt L k).full = false := by simpa using hf
        have HF := Lib.hid hf.symm
        have HE := Lib.hid (show bestS L (k + 1) = bestS L k by rw [HLS.out, if_neg (by rw [hf]; simp)])
        clear hf hnk
        have HZ := Lib.hid (show ∀ u, Below wr.heap.size wr u → Below wr.heap.size wr u ∧ u.cell? ⟨B, 0, none⟩ = some (.slice (some ⟨P, 0, none⟩) m m) ∧ u.cell? ⟨B, 1, none⟩ = some (.slice (some ⟨H, 0, none⟩) m m) ∧ u.cell? ⟨H, k, none⟩ = some (.bool false) from fun u hx => ⟨hx, (HR.out u (HB.out.trans (hx.mono HB.out.size))).c0, (HR.out u (HB.out.trans (hx.mono HB.out.size))).c1, by rw [HF.out]; exact (HR.out u (HB.out.trans (hx.mono HB.out.size))).full HKM.out⟩)
        go_upto_region 5 with fail
        refine wp_region_class (C := fun x_ => Below wr.heap.size wr x_ ∧ x_.cell? ⟨B, 0, none⟩ = some (.slice (some ⟨P, 0, none⟩) m m) ∧ x_.cell? ⟨B, 1, none⟩ = some (.slice (some ⟨H, 0, none⟩) m m) ∧ x_.cell? ⟨H, k, none⟩ = some (.bool false)) (by kernel_rfl) (by kernel_rfl) (HZ.out _ (Below.refl _ _).drew) ?_
        repeat
          with_reducible refine wpQuiet_step (fun K hK => ?_)
          first
            | (refine quiet_skip (by rfl) ?_; (with_reducible refine hK _ ?_); clear hK K)
            | (refine quiet_want (by rfl) ?_
               apply Exists.intro
               refine ⟨fun xw hx => ?_, hK _ ?_⟩
               (obtain ⟨_, hx1, hx2, hx3⟩ := id hx; go_simp; first | done | rfl | (fail))
               clear hK K)
          try simp only [Act.put, List.setIfInBounds_toArray, List.set_cons_zero, List.set_cons_succ]
        with_reducible refine wpQuiet_nil ?_
        intro wq hq
        have HB5 := Lib.hid (HB.out.trans (hq.1.mono HB.out.size))
        clear hq
        go_wp2_with fail
        go_roundw
        case rel => exact ⟨k + 1, by simp, by omega, by rw [HE.out], by first | exact HB5.out | exact HB5.out.drew⟩
        case measure => simp [intOf]; omega
    · obtain rfl : k = m := by omega
      go_wp2_with fail
      go_ret
      exact ⟨rfl, by first | exact HB.out | exact HB.out.drew⟩
end Go.Proofs.Ytbdockeopbfliaa
