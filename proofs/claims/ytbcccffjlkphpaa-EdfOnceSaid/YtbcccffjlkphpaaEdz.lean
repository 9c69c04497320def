/- The walk of EdfOnce. Conditions: none. -/
import Derived.Test.YtbcccffjlkphpaaEdy
import Derived.Test.YtbcccffjlkphpaaEdd
namespace Go.Proofs.Ytbcccffjlkphpaa
open Go.RowKit Go.Shelf
set_option linter.unusedSimpArgs false
set_option linter.unusedVariables false
theorem jobL_len (L : List Jb) : (jobL L).length ≤ 40 := by
  unfold jobL jobK
  rw [List.length_map, List.length_take]
  omega
theorem jobL_right (L : List Jb) : ∀ i, i < (jobL L).length → rightJ ((jobL L).getD i jb0) = true := fun i hi => by
  rw [List.getD_eq_getElem?_getD, List.getElem?_eq_getElem hi]
  have h : (jobL L)[i] ∈ jobL L := List.getElem_mem hi
  obtain ⟨x, _, e⟩ := List.mem_map.1 h
  rw [Option.getD_some, ← e]
  exact (jbF_right x).1
theorem jobs_may {N : Int} {J : List Jb} (hn : 1 ≤ N ∧ N ≤ 65536) (hl : J.length ≤ 40) (hr : ∀ i, i < J.length → rightJ (J.getD i jb0) = true) : mayJ N J = 0 := by
  have h1 : inB N 1 1073741824 = true := by
    rcases inB_cases N 1 1073741824 with ⟨h, _⟩ | ⟨_, h, _⟩ | ⟨_, _, h⟩
    · omega
    · omega
    · exact h
  unfold mayJ
  rw [if_neg (by rw [h1]; decide), if_neg (by omega), if_pos]
  rw [List.all_eq_true]
  intro x hx
  obtain ⟨i, hi, e⟩ := List.getElem_of_mem hx
  have := hr i hi
  rw [List.getD_eq_getElem?_getD, List.getElem?_eq_getElem hi, Option.getD_some, e] at this
  exact this
set_option maxRecDepth 2000000 in
set_option maxHeartbeats 16000000 in
theorem lonce_any (a : Option Addr) (len cap : Nat) (L : List Jb) (n : Int) (w : World) (hL : L.length = len ∧ (∀ s ∈ L, s.wf) ∧ Rd w 4 (.slice a len cap) (L.flatMap Jb.C)) (wn : (Lit.int .u16 n).wf = true) : Calls Try.prog 5 #[.slice a len cap, .int .u16 n] w fun y w' => y = .returned (.bool true) ∧ Below w.heap.size w w' := by
  have w2_ : 0 ≤ n ∧ n ≤ 65535 := by
    have h : IntKind.u16.min ≤ n ∧ n ≤ IntKind.u16.max := by simpa [Lit.wf] using wn
    exact h
  have c1 : IntKind.i64.wrap n = n := by rw [IntKind.wrap_i64]; omega
  obtain ⟨N, hN⟩ : ∃ N, N = n + 1 := ⟨_, rfl⟩
  have c2 : wrap64 (n + 1) = N := by rw [hN]; unfold wrap64; omega
  have HNB := Lib.hid (show 1 ≤ N ∧ N ≤ 65536 by omega)
  have HJ := Lib.hid (ljobs_any a len cap L w (Jbs.ofRdJ hL.2.2 hL.1))
  have HLV := Lib.hid live27
  clear hL wn w2_ hN
  go_enter Try.func5, Try.ntmps5
  go_wp2_with fail
  refine HJ.out.mono ?_
  rintro y w1 ⟨v1, rfl, hown, hb⟩
  obtain ⟨J, hJ⟩ : ∃ J, J = jobL L := ⟨_, rfl⟩
  rw [← hJ] at hown
  have HRJ := Lib.hid (show ∀ i, i < J.length → rightJ (J.getD i jb0) = true by rw [hJ]; exact jobL_right L)
  have HJL := Lib.hid (show J.length ≤ 40 by rw [hJ]; exact jobL_len L)
  obtain ⟨_, hjb, a1, cap1, rfl⟩ := Jbs.ofOwnJ hown
  have HJB := Lib.hid hjb; have HB1 := Lib.hid hb
  clear hown hjb hb hJ
  have HRUN := Lib.hid (jrun_any a1 J.length cap1 J N w1 HJB.out)
  go_wp2_with fail
  refine HRUN.out.mono ?_
  rintro y w2 ⟨hc, hb⟩
  have HB2 := Lib.hid (below_transE HB1.out hb HB1.out.size)
  have HJB2 := Lib.hid (HJB.out.on hb)
  have hm0 : mayJ N J = 0 := jobs_may HNB.out HJL.out HRJ.out
  rcases hc with ⟨h1, _⟩ | ⟨_, S, v2, rfl, ht, hl, ho⟩
  · exact absurd hm0 h1
  obtain ⟨a2, cap2, rfl, hsc⟩ := sent_at ho
  have HT := Lib.hid ht; have HL := Lib.hid hl; have HSC := Lib.hid hsc
  rw [← hl]
  clear hm0 hb ht hl ho hsc c1 c2
  obtain ⟨M, hM⟩ : ∃ M, M = S.length := ⟨_, rfl⟩
  have HM := Lib.hid hM
  rw [← hM]
  clear hM
  have hmk := make_bools M (by have h1 := HM.out; have h2 := HL.out; have h3 := HJL.out; omega)
  have HBJ := Lib.hid (HJB2.out)
  go_wp2_with fail
  obtain ⟨w3, hw3⟩ : ∃ u, u = w2.alloc (.cells (bitD M []).toArray 4) := ⟨_, rfl⟩
  have HK3 := Lib.hid (show Below w2.heap.size w2 w3 by rw [hw3]; exact (Below.refl _ _).alloc (Nat.le_refl _) _)
  have HG3 := Lib.hid (show Blk w3 w2.heap.size 4 (bitD M []) by rw [hw3]; exact Blk.new _ _ _)
  rw [← hw3]
  clear hw3 hmk
  obtain ⟨G, hG⟩ : ∃ G, G = w2.heap.size := ⟨_, rfl⟩
  have HGE := Lib.hid hG
  rw [← hG]
  rw [← hG] at HG3
  clear hG
  go_loopw [8, 9] (fun v i wr => ∃ k : Nat, v = .int .i64 (nowS (S.take k)) ∧ i = .int .i64 (k : Int) ∧ k ≤ M ∧ Blk wr G 4 (bitD M ((S.take k).map Sn.j)) ∧ Below w2.heap.size w2 wr) (fun _ i _ => M - (intOf i).toNat)
  case atStart => exact ⟨0, rfl, rfl, by omega, HG3.out, by first | exact HK3.out | exact HK3.out.drew⟩
  case round =>
    obtain ⟨k, rfl, rfl, hk, hgr, hbr⟩ := hrel
    have HBR := Lib.hid hbr; have HGR := Lib.hid hgr
    clear hbr hgr
    have i3 : (0 : Int) ≤ (k : Int) := by omega
    have hM40 : M ≤ 40 := by have h1 := HM.out; have h2 := HL.out; have h3 := HJL.out; omega
    have x3 : wrap64 ((k : Int) + 1) = (k : Int) + 1 := by unfold wrap64; omega
    by_cases hlt : k < M
    · have i1 : (k : Int) < (M : Int) := by omega
      have hMS := HM.out
      obtain ⟨x, hx⟩ : ∃ x, x = S[k]'(by omega) := ⟨_, rfl⟩
      obtain ⟨g, rfl, hg, hcx⟩ := HSC.out k (by omega)
      rw [← hx] at hcx
      obtain ⟨hnx, hen⟩ := HT.out k (by omega)
      rw [← hx] at hnx hen
      have hxb := hnx.hb
      obtain ⟨g1, off1, rfl, hg1, hcj⟩ := HJB2.out.spot (by omega)
      obtain ⟨p, hp⟩ : ∃ p, p = J.getD x.j jb0 := ⟨_, rfl⟩
      rw [← hp] at hen
      have hcp := hcj x.j hxb
      rw [show J[x.j] = p by rw [hp, List.getD_eq_getElem?_getD, List.getElem?_eq_getElem hxb, Option.getD_some]] at hcp
      have hrp : rightJ p = true := by rw [hp]; exact HRJ.out x.j hxb
      obtain ⟨Ds, hDs⟩ : ∃ D, D = (S.take k).map Sn.j := ⟨_, rfl⟩
      obtain ⟨la, hla⟩ : ∃ D, D = nowS (S.take k) := ⟨_, rfl⟩
      have HDN := Lib.hid (show (S.take (k + 1)).map Sn.j = Ds ++ [x.j] by rw [hDs, List.take_succ_eq_append_getElem (by omega), List.map_append, ← hx]; rfl)
      have HLN := Lib.hid (show nowS (S.take (k + 1)) = x.a + p.c by rw [List.take_succ_eq_append_getElem (by omega), nowS_snoc, ← hx, hen])
      rw [← hDs, ← hla] at hnx
      rw [← hDs] at HGR
      rw [← hla]
      have HNX := Lib.hid hnx
      have hbd : (S.length : Int) = (M : Int) := by omega
      have HWF := Lib.hid (show (0 ≤ x.a ∧ x.a ≤ 100000000000000000) ∧ (1 ≤ p.c ∧ p.c ≤ 100000000000) ∧ 0 ≤ p.r from by have h1 := HT.out.bound HRJ.out (k := k) (by omega); rw [← hx] at h1; have h2 := rightJ_in hrp; omega)
      have HK := Lib.hid (show ∀ W, Below w2.heap.size w2 W → Blk W G 4 (bitD M Ds) → W.cell? ⟨g, k * 3, none⟩ = some (.int .i64 (x.j : Int)) ∧ W.cell? ⟨g, k * 3 + 1, none⟩ = some (.int .i64 x.a) ∧ W.cell? ⟨g, k * 3 + 2, none⟩ = some (.int .i64 (x.a + p.c)) ∧ W.cell? ⟨g1, off1 + x.j * 4 + 1, none⟩ = some (.int .i64 p.r) ∧ W.cell? ⟨g1, off1 + x.j * 4 + 3, none⟩ = some (.int .i64 p.c) ∧ W.cell? ⟨G, x.j, none⟩ = some (.bool false) from fun W hb hgb => ⟨(hb.cell (p := ⟨g, k * 3, none⟩) hg).trans (hcx 0 _ rfl), (hb.cell (p := ⟨g, k * 3 + 1, none⟩) hg).trans (hcx 1 _ rfl), by have hq_ := (hb.cell (p := ⟨g, k * 3 + 2, none⟩) hg).trans (hcx 2 _ rfl); rw [hen] at hq_; exact hq_, (hb.cell (p := ⟨g1, off1 + x.j * 4 + 1, none⟩) hg1).trans (hcp 1 _ rfl), (hb.cell (p := ⟨g1, off1 + x.j * 4 + 3, none⟩) hg1).trans (hcp 3 _ rfl), by have hq_ := hgb.cellAt (i := x.j) (by rw [bitD_len]; have := HL.out; omega); rw [bitD_get, decide_eq_false HNX.out.nd] at hq_; exact hq_⟩)
      have n1 : ¬ (x.j : Int) < 0 := by omega
      have n2 : ¬ (M : Int) ≤ (x.j : Int) := by have := HL.out; omega
      have n5 : (x.j : Int) < (M : Int) := by omega
      have n7 : (0 : Int) ≤ (x.j : Int) := by omega
      have n8 : ¬ x.a < la := by have := hnx.hn; omega
      have n9 : ¬ x.a < p.r := by have := hnx.hr; rw [← hp] at this; omega
      have n10 : (IntKind.i64.wrap (x.a + p.c - x.a) != p.c) = false := by
        have e : IntKind.i64.wrap (x.a + p.c - x.a) = p.c := by have := HWF.out; rw [IntKind.wrap_i64]; omega
        rw [e]; simp
      have HBS := Lib.hid hcj; have HG1 := Lib.hid hg1
      have HX1 := Lib.hid (show ∀ W, Below w2.heap.size w2 W → W.cell? ⟨g, k * 3 + 1, none⟩ = some (.int .i64 x.a) from fun W hb => (hb.cell (p := ⟨g, k * 3 + 1, none⟩) hg).trans (hcx 1 _ rfl))
      have HX2 := Lib.hid (show ∀ W, Below w2.heap.size w2 W → W.cell? ⟨g, k * 3 + 2, none⟩ = some (.int .i64 (x.a + p.c)) from fun W hb => by have hq_ := (hb.cell (p := ⟨g, k * 3 + 2, none⟩) hg).trans (hcx 2 _ rfl); rw [hen] at hq_; exact hq_)
      clear hcx hcj hcp hxb hx hp hMS hg hg1 hen hrp hDs hla hnx hbd
      obtain ⟨xc0, xc1, xc2, pc1, pc3, bc⟩ := HK.out _ HBR.out HGR.out
      go_upto_region 11 with fail
      clear xc0 xc1 xc2 pc1 pc3 bc
      have HZ := Lib.hid (show ∀ u, Below wr.heap.size wr u → Below wr.heap.size wr u ∧ u.cell? ⟨g, k * 3, none⟩ = some (.int .i64 (x.j : Int)) ∧ u.cell? ⟨g, k * 3 + 1, none⟩ = some (.int .i64 x.a) ∧ u.cell? ⟨g, k * 3 + 2, none⟩ = some (.int .i64 (x.a + p.c)) ∧ u.cell? ⟨g1, off1 + x.j * 4 + 1, none⟩ = some (.int .i64 p.r) ∧ u.cell? ⟨g1, off1 + x.j * 4 + 3, none⟩ = some (.int .i64 p.c) ∧ u.cell? ⟨G, x.j, none⟩ = some (.bool false) from fun u hb => ⟨hb, HK.out u (HBR.out.trans (hb.mono HBR.out.size)) (HGR.out.keep hb HGR.out.lt)⟩)
      refine wp_region_class (C := fun x_ => Below wr.heap.size wr x_ ∧ x_.cell? ⟨g, k * 3, none⟩ = some (.int .i64 (x.j : Int)) ∧ x_.cell? ⟨g, k * 3 + 1, none⟩ = some (.int .i64 x.a) ∧ x_.cell? ⟨g, k * 3 + 2, none⟩ = some (.int .i64 (x.a + p.c)) ∧ x_.cell? ⟨g1, off1 + x.j * 4 + 1, none⟩ = some (.int .i64 p.r) ∧ x_.cell? ⟨g1, off1 + x.j * 4 + 3, none⟩ = some (.int .i64 p.c) ∧ x_.cell? ⟨G, x.j, none⟩ = some (.bool false)) (by kernel_rfl) (by kernel_rfl) (HZ.out _ (Below.refl _ _).drew) ?_
      repeat
        with_reducible refine wpQuiet_step (fun K hK => ?_)
        first
          | (refine quiet_skip (by rfl) ?_; (with_reducible refine hK _ ?_); clear hK K)
          | (refine quiet_want (by rfl) ?_
             apply Exists.intro
             refine ⟨fun xw hx => ?_, hK _ ?_⟩
             (obtain ⟨_, hx1, hx2, hx3, hx4, hx5, hx6⟩ := id hx; go_simp; first | done | rfl | (fail))
             clear hK K)
        try simp only [Act.put, List.setIfInBounds_toArray, List.set_cons_zero, List.set_cons_succ]
      with_reducible refine wpQuiet_nil ?_
      intro wq hq
      have HB5 := Lib.hid hq.1
      clear hq n10
      go_wp2_with fail
      go_loopw [11] (fun i wx => ∃ m : Nat, i = .int .i64 (m : Int) ∧ m ≤ M ∧ Below wr.heap.size wr wx) (fun i _ => M - (intOf i).toNat)
      case atStart => exact ⟨0, rfl, by omega, by first | exact HB5.out | exact HB5.out.drew⟩
      case round =>
        obtain ⟨m, rfl, hmM, hbx⟩ := hrel
        have HBX := Lib.hid hbx
        have HGX := Lib.hid (HGR.out.keep hbx HGR.out.lt)
        have HBY := Lib.hid (HBR.out.trans (hbx.mono HBR.out.size))
        clear hbx
        have j1 : (0 : Int) ≤ (m : Int) := by omega
        have j2 : wrap64 ((m : Int) + 1) = (m : Int) + 1 := by unfold wrap64; omega
        by_cases hlt2 : m < M
        · have j3 : (m : Int) < (M : Int) := by omega
          have hmJ : m < J.length := by have h1 := HM.out; have h2 := HL.out; omega
          obtain ⟨q, hq⟩ : ∃ q, q = J.getD m jb0 := ⟨_, rfl⟩
          have hqe : J[m] = q := by rw [hq, List.getD_eq_getElem?_getD, List.getElem?_eq_getElem hmJ, Option.getD_some]
          have HQR := Lib.hid (show (J[m].C)[1]? = some (.int .i64 q.r) by rw [hqe]; rfl)
          have hdb := HGX.out.cellAt (i := m) (by rw [bitD_len]; omega)
          rw [bitD_get] at hdb
          have HK2 := Lib.hid (HK.out _ HBR.out HGR.out)
          by_cases hin : m ∈ Ds
          · rw [decide_eq_true hin] at hdb
            have HDE := Lib.hid (decide_eq_true hin)
            clear hin hq hqe
            have HDB := Lib.hid (show some (Value.bool (decide (m ∈ Ds))) = some (.bool true) by rw [HDE.out])
            have HZ := Lib.hid (show ∀ u, Below wr.heap.size wr u → Below wr.heap.size wr u ∧ u.cell? ⟨G, m, none⟩ = some (.bool true) from fun u hx => ⟨hx, (by have hq_ := (HGX.out.keep hx HGX.out.lt).cellAt (i := m) (by rw [bitD_len]; exact hlt2); rw [bitD_get] at hq_; exact hq_.trans (HDB.out))⟩)
            clear hdb HK2
            go_upto_region 16 with fail
            refine wp_region_class (C := fun x_ => Below wr.heap.size wr x_ ∧ x_.cell? ⟨G, m, none⟩ = some (.bool true)) (by kernel_rfl) (by kernel_rfl) (HZ.out _ (Below.refl _ _).drew) ?_
            repeat
              with_reducible refine wpQuiet_step (fun K hK => ?_)
              first
                | (refine quiet_skip (by rfl) ?_; (with_reducible refine hK _ ?_); clear hK K)
                | (refine quiet_want (by rfl) ?_
                   apply Exists.intro
                   refine ⟨fun xw hx => ?_, hK _ ?_⟩
                   (obtain ⟨_, hx1⟩ := id hx; go_simp; first | done | rfl | (fail))
                   clear hK K)
              try simp only [Act.put, List.setIfInBounds_toArray, List.set_cons_zero, List.set_cons_succ]
            with_reducible refine wpQuiet_nil ?_
            intro wq hq
            have HB6 := Lib.hid (HBX.out.trans (hq.1.mono HBX.out.size))
            clear hq
            go_wp2_with fail
            go_roundw
            case rel => exact ⟨m + 1, by simp, by omega, by first | exact HB6.out | exact HB6.out.drew⟩
            case measure => simp [intOf]; omega
          · rw [decide_eq_false hin] at hdb
            have HDE := Lib.hid (decide_eq_false hin)
            by_cases hla : la < x.a
            · have j4 : ¬ q.r < x.a := by have := HNX.out.hm hla m hmJ hin; rw [← hq] at this; omega
              clear hin hq hqe
              have HDB := Lib.hid (show some (Value.bool (decide (m ∈ Ds))) = some (.bool false) by rw [HDE.out])
              have HZ := Lib.hid (show ∀ u, Below wr.heap.size wr u → Below wr.heap.size wr u ∧ u.cell? ⟨G, m, none⟩ = some (.bool false) ∧ u.cell? ⟨g, k * 3 + 1, none⟩ = some (.int .i64 x.a) ∧ u.cell? ⟨g1, off1 + m * 4 + 1, none⟩ = some (.int .i64 q.r) from fun u hx => ⟨hx, (by have hq_ := (HGX.out.keep hx HGX.out.lt).cellAt (i := m) (by rw [bitD_len]; exact hlt2); rw [bitD_get] at hq_; exact hq_.trans (HDB.out)), (HX1.out _ (HBY.out.trans (hx.mono HBY.out.size))), ((HBY.out.trans (hx.mono HBY.out.size)).cell (p := ⟨g1, off1 + m * 4 + 1, none⟩) HG1.out |>.trans (HBS.out m hmJ 1 _ HQR.out))⟩)
              clear hdb HK2
              go_upto_region 16 with fail
              refine wp_region_class (C := fun x_ => Below wr.heap.size wr x_ ∧ x_.cell? ⟨G, m, none⟩ = some (.bool false) ∧ x_.cell? ⟨g, k * 3 + 1, none⟩ = some (.int .i64 x.a) ∧ x_.cell? ⟨g1, off1 + m * 4 + 1, none⟩ = some (.int .i64 q.r)) (by kernel_rfl) (by kernel_rfl) (HZ.out _ (Below.refl _ _).drew) ?_
              repeat
                with_reducible refine wpQuiet_step (fun K hK => ?_)
                first
                  | (refine quiet_skip (by rfl) ?_; (with_reducible refine hK _ ?_); clear hK K)
                  | (refine quiet_want (by rfl) ?_
                     apply Exists.intro
                     refine ⟨fun xw hx => ?_, hK _ ?_⟩
                     (obtain ⟨_, hx1, hx2, hx3⟩ := id hx; go_simp; first | done | rfl | (fail))
                     clear hK K)
                try simp only [Act.put, List.setIfInBounds_toArray, List.set_cons_zero, List.set_cons_succ]
              with_reducible refine wpQuiet_nil ?_
              intro wq hq
              have HB6 := Lib.hid (HBX.out.trans (hq.1.mono HBX.out.size))
              clear hq
              go_wp2_with fail
              go_roundw
              case rel => exact ⟨m + 1, by simp, by omega, by first | exact HB6.out | exact HB6.out.drew⟩
              case measure => simp [intOf]; omega
            · clear hin hq hqe
              have HDB := Lib.hid (show some (Value.bool (decide (m ∈ Ds))) = some (.bool false) by rw [HDE.out])
              have HZ := Lib.hid (show ∀ u, Below wr.heap.size wr u → Below wr.heap.size wr u ∧ u.cell? ⟨G, m, none⟩ = some (.bool false) ∧ u.cell? ⟨g, k * 3 + 1, none⟩ = some (.int .i64 x.a) from fun u hx => ⟨hx, (by have hq_ := (HGX.out.keep hx HGX.out.lt).cellAt (i := m) (by rw [bitD_len]; exact hlt2); rw [bitD_get] at hq_; exact hq_.trans (HDB.out)), (HX1.out _ (HBY.out.trans (hx.mono HBY.out.size)))⟩)
              clear hdb HK2
              go_upto_region 16 with fail
              refine wp_region_class (C := fun x_ => Below wr.heap.size wr x_ ∧ x_.cell? ⟨G, m, none⟩ = some (.bool false) ∧ x_.cell? ⟨g, k * 3 + 1, none⟩ = some (.int .i64 x.a)) (by kernel_rfl) (by kernel_rfl) (HZ.out _ (Below.refl _ _).drew) ?_
              repeat
                with_reducible refine wpQuiet_step (fun K hK => ?_)
                first
                  | (refine quiet_skip (by rfl) ?_; (with_reducible refine hK _ ?_); clear hK K)
                  | (refine quiet_want (by rfl) ?_
                     apply Exists.intro
                     refine ⟨fun xw hx => ?_, hK _ ?_⟩
                     (obtain ⟨_, hx1, hx2⟩ := id hx; go_simp; first | done | rfl | (fail))
                     clear hK K)
                try simp only [Act.put, List.setIfInBounds_toArray, List.set_cons_zero, List.set_cons_succ]
              with_reducible refine wpQuiet_nil ?_
              intro wq hq
              have HB6 := Lib.hid (HBX.out.trans (hq.1.mono HBX.out.size))
              clear hq
              go_wp2_with fail
              go_roundw
              case rel => exact ⟨m + 1, by simp, by omega, by first | exact HB6.out | exact HB6.out.drew⟩
              case measure => simp [intOf]; omega
        · have j3 : ¬ (m : Int) < (M : Int) := by omega
          have qf : wr.frozen? ⟨G, x.j, none⟩ = false := HGX.out.frozenAt x.j
          have qc : wr.cell? ⟨G, x.j, none⟩ = some (.bool false) := by
            have hq_ := HGX.out.cellAt (i := x.j) (by rw [bitD_len]; omega)
            rw [bitD_get, decide_eq_false HNX.out.nd] at hq_
            exact hq_
          go_upto_region 19 with fail
          obtain ⟨w4, hw4⟩ : ∃ u, u = wr.setCell ⟨G, x.j, none⟩ (.bool true) := ⟨_, rfl⟩
          have HG4 := Lib.hid (show Blk w4 G 4 (bitD M (Ds ++ [x.j])) by rw [hw4, ← bitD_set]; exact HGX.out.put1 (i := x.j) (by rw [bitD_len]; omega) _)
          have HB4 := Lib.hid (show Below w2.heap.size w2 w4 by rw [hw4]; exact HBY.out.setCell (p := ⟨G, x.j, none⟩) (Nat.le_of_eq HGE.out.symm) _)
          have z1 : w4.cell? ⟨g, k * 3 + 2, none⟩ = some (.int .i64 (x.a + p.c)) := HX2.out _ HB4.out
          rw [← hw4]
          clear hw4 qf qc
          go_wp2_with fail
          go_roundw
          case rel => exact ⟨k + 1, by rw [HLN.out], by simp, by omega, by rw [HDN.out]; exact HG4.out, HB4.out⟩
          case measure => simp [intOf]; omega
    · have i1 : ¬ (k : Int) < (M : Int) := by omega
      have HB3 := Lib.hid (HB2.out.trans (HBR.out.mono HB2.out.size))
      go_wp2_with fail
      refine (HLV.out _).mono ?_
      rintro y w9 ⟨rfl, hb⟩
      have HB9 := Lib.hid (below_transE HB3.out hb HB3.out.size)
      clear hb
      go_wp2_with fail
      go_ret
      exact ⟨rfl, HB9.out⟩

end Go.Proofs.Ytbcccffjlkphpaa
