/- EdfFirst (P27.4): whenever a job is begun, none that came by then is ahead of it. No conditions. -/
import Derived.Test.YtodkohjmghpolaaRows
import Derived.Test.YtodkohjmghpolaaEdx
import Derived.Test.YtodkohjmghpolaaEdd
import Derived.WalkKit
import Derived.ProofKit
import Derived.OpenShut
import Derived.ShutString
import Derived.ChangeOld
import Derived.Below
namespace Go.Proofs.Ytodkohjmghpolaa.edfFirst
open Go.ChangeShapes Go.WideShapes Go.ChangeAt Go.RowKit
theorem own : ownKnob Try.prog.godebug = none := by kernel_rfl
theorem laidOut : laidOutB Try.prog = true := by kernel_rfl
set_option linter.unusedSimpArgs false
set_option linter.unusedVariables false
theorem Jb.all (x : Jb) : x.C.toArray.all (·.oneCell') = true := by simp [Jb.C, Value.oneCell']
theorem putL_whole {z p : List Value} (h : p.length = z.length) : putL z 0 p = p := by
  apply List.ext_getElem?
  intro t
  rw [putL_get (by omega)]
  by_cases e : t < p.length
  · rw [if_pos (by omega)]; congr 1
  · rw [if_neg (by omega), List.getElem?_eq_none (by omega), List.getElem?_eq_none (by omega)]
theorem two_put {W : World} {B1 B2 : Nat} {T : TypeId} {z p q : List Value} (h1 : Blk W B1 T z) (h2 : Blk W B2 T z) (hne : B1 ≠ B2) (hz : z.length = 4) (hp : p.length = 4) (hq : q.length = 4) : W.there B1 0 4 ∧ (W.setCells B1 0 p).there B2 0 4 ∧ Blk ((W.setCells B1 0 p).setCells B2 0 q) B1 T p ∧ Blk ((W.setCells B1 0 p).setCells B2 0 q) B2 T q := by
  have k1 := Blk.sets p 0 W z h1 (by omega)
  rw [putL_whole (by omega)] at k1
  have k2 := h2.setsO (fun e => hne e.symm) 0 p
  have k3 := Blk.sets q 0 _ z k2 (by omega)
  rw [putL_whole (by omega)] at k3
  exact ⟨there_of h1 (by omega), there_of k2 (by omega), k1.setsO hne 0 q, k3⟩
theorem two_made (W : World) (T : TypeId) (p q : List Value) (hp : p.length = 4) (hq : q.length = 4) : let V := (W.alloc (.cells #[.int .i64 0, .int .i64 0, .int .i64 0, .int .i64 0] T)).alloc (.cells #[.int .i64 0, .int .i64 0, .int .i64 0, .int .i64 0] T)
    (V.there W.heap.size 0 4 ∧ (V.setCells W.heap.size 0 p).there (W.heap.size + 1) 0 4 ∧ Blk ((V.setCells W.heap.size 0 p).setCells (W.heap.size + 1) 0 q) W.heap.size T p ∧ Blk ((V.setCells W.heap.size 0 p).setCells (W.heap.size + 1) 0 q) (W.heap.size + 1) T q) ∧
    (V.there (W.heap.size + 1) 0 4 ∧ (V.setCells (W.heap.size + 1) 0 p).there W.heap.size 0 4 ∧ Blk ((V.setCells (W.heap.size + 1) 0 p).setCells W.heap.size 0 q) (W.heap.size + 1) T p ∧ Blk ((V.setCells (W.heap.size + 1) 0 p).setCells W.heap.size 0 q) W.heap.size T q) := by
  intro V
  have h1 : Blk V W.heap.size T [.int .i64 0, .int .i64 0, .int .i64 0, .int .i64 0] := (Blk.new W T [.int .i64 0, .int .i64 0, .int .i64 0, .int .i64 0]).keep ((Below.refl _ _).alloc (Nat.le_refl _) _) (by simp only [World.size_alloc]; omega)
  have h2 : Blk V (W.heap.size + 1) T [.int .i64 0, .int .i64 0, .int .i64 0, .int .i64 0] := blk_at _ (W.heap.size + 1) (by simp only [World.size_alloc]) T [.int .i64 0, .int .i64 0, .int .i64 0, .int .i64 0]
  exact ⟨two_put h1 h2 (by omega) rfl hp hq, two_put h2 h1 (by omega) rfl hp hq⟩
theorem jobL_len (L : List Jb) : (jobL L).length ≤ 40 := by
  unfold jobL jobK
  rw [List.length_map, List.length_take]
  omega
theorem jobL_right (L : List Jb) : ∀ i, i < (jobL L).length → rightJ ((jobL L).getD i jb0) = true := fun i hi => by
  rw [List.getD_eq_getElem?_getD, List.getElem?_eq_getElem hi]
  have h : (jobL L)[i] ∈ jobL L := List.getElem_mem hi
  obtain ⟨x, _, e⟩ := List.mem_map.1 h
  rw [Option.getD_some, ← e]
  exact (jbF_right x).1
theorem jobs_may {N : Int} {J : List Jb} (hn : 1 ≤ N ∧ N ≤ 65536) (hl : J.length ≤ 40) (hr : ∀ i, i < J.length → rightJ (J.getD i jb0) = true) : mayJ N J = 0 := by
  have h1 : inB N 1 1073741824 = true := by
    rcases inB_cases N 1 1073741824 with ⟨h, _⟩ | ⟨_, h, _⟩ | ⟨_, _, h⟩
    · omega
    · omega
    · exact h
  unfold mayJ
  rw [if_neg (by rw [h1]; decide), if_neg (by omega), if_pos]
  rw [List.all_eq_true]
  intro x hx
  obtain ⟨i, hi, e⟩ := List.getElem_of_mem hx
  have := hr i hi
  rw [List.getD_eq_getElem?_getD, List.getElem?_eq_getElem hi, Option.getD_some, e] at this
  exact this
set_option maxRecDepth 2000000 in
set_option maxHeartbeats 16000000 in
theorem walk (a : Option Addr) (len cap : Nat) (L : List Jb) (n : Int) (w : World) (hL : L.length = len ∧ (∀ s ∈ L, s.wf) ∧ Rd w 4 (.slice a len cap) (L.flatMap Jb.C)) (wn : (Lit.int .u16 n).wf = true) : Calls Try.prog 6 #[.slice a len cap, .int .u16 n] w fun y w' => y = .returned (.bool true) ∧ Below w.heap.size w w' := by
  have w2_ : 0 ≤ n ∧ n ≤ 65535 := by
    have h : IntKind.u16.min ≤ n ∧ n ≤ IntKind.u16.max := by simpa [Lit.wf] using wn
    exact h
  have c1 : IntKind.i64.wrap n = n := by rw [IntKind.wrap_i64]; omega
  obtain ⟨N, hN⟩ : ∃ N, N = n + 1 := ⟨_, rfl⟩
  have c2 : wrap64 (n + 1) = N := by rw [hN]; unfold wrap64; omega
  have HNB := Lib.hid (show 1 ≤ N ∧ N ≤ 65536 by omega)
  have HJ := Lib.hid (ljobs_any a len cap L w (Jbs.ofRdJ hL.2.2 hL.1))
  have HLV := Lib.hid live27
  clear hL wn w2_ hN
  go_enter Try.func6, Try.ntmps6
  go_wp2_with fail
  refine HJ.out.mono ?_
  rintro y w1 ⟨v1, rfl, hown, hb⟩
  obtain ⟨J, hJ⟩ : ∃ J, J = jobL L := ⟨_, rfl⟩
  rw [← hJ] at hown
  have HRJ := Lib.hid (show ∀ i, i < J.length → rightJ (J.getD i jb0) = true by rw [hJ]; exact jobL_right L)
  have HJL := Lib.hid (show J.length ≤ 40 by rw [hJ]; exact jobL_len L)
  obtain ⟨_, hjb, a1, cap1, rfl⟩ := Jbs.ofOwnJ hown
  have HJB := Lib.hid hjb; have HB1 := Lib.hid hb
  clear hown hjb hb hJ
  have HRUN := Lib.hid (jrun_any a1 J.length cap1 J N w1 HJB.out)
  go_wp2_with fail
  refine HRUN.out.mono ?_
  rintro y w2 ⟨hc, hb⟩
  have HB2 := Lib.hid (below_transE HB1.out hb HB1.out.size)
  have HJB2 := Lib.hid (HJB.out.on hb)
  have hm0 : mayJ N J = 0 := jobs_may HNB.out HJL.out HRJ.out
  rcases hc with ⟨h1, _⟩ | ⟨_, S, v2, rfl, ht, hl, ho⟩
  · exact absurd hm0 h1
  obtain ⟨a2, cap2, rfl, hsc⟩ := sent_at ho
  have HT := Lib.hid ht; have HL := Lib.hid hl; have HSC := Lib.hid hsc
  rw [← hl]
  clear hm0 hb ht hl ho hsc
  obtain ⟨M, hM⟩ : ∃ M, M = S.length := ⟨_, rfl⟩
  have HM := Lib.hid hM
  rw [← hM]
  clear hM
  go_wp2_with fail
  go_loopw [8] (fun i wr => ∃ k : Nat, i = .int .i64 (k : Int) ∧ k ≤ M ∧ Below w2.heap.size w2 wr) (fun i _ => M - (intOf i).toNat)
  case atStart => exact ⟨0, rfl, by omega, by first | exact Below.refl _ _ | exact (Below.refl _ _).drew⟩
  case round =>
    obtain ⟨k, rfl, hk, hbr⟩ := hrel
    have HBR := Lib.hid hbr
    clear hbr
    have i3 : (0 : Int) ≤ (k : Int) := by omega
    have hM40 : M ≤ 40 := by have h1 := HM.out; have h2 := HL.out; have h3 := HJL.out; omega
    have x3 : wrap64 ((k : Int) + 1) = (k : Int) + 1 := by unfold wrap64; omega
    by_cases hlt : k < M
    · have i1 : (k : Int) < (M : Int) := by omega
      go_wp2_with fail
      go_loopw [9] (fun i wr2 => ∃ m : Nat, i = .int .i64 (m : Int) ∧ k < m ∧ m ≤ M ∧ Below w2.heap.size w2 wr2) (fun i _ => M - (intOf i).toNat)
      case atStart => exact ⟨k + 1, by simp, by omega, by omega, by first | exact HBR.out | exact HBR.out.drew⟩
      case round =>
        obtain ⟨m, rfl, hkm, hmM, hbr2⟩ := hrel
        have HBX := Lib.hid hbr2
        clear hbr2
        have i4 : (0 : Int) ≤ (m : Int) := by omega
        have x4 : wrap64 ((m : Int) + 1) = (m : Int) + 1 := by unfold wrap64; omega
        by_cases hlt2 : m < M
        · have i2 : (m : Int) < (M : Int) := by omega
          have hMS := HM.out
          obtain ⟨x, hx⟩ : ∃ x, x = S[k]'(by omega) := ⟨_, rfl⟩
          obtain ⟨y, hy⟩ : ∃ x, x = S[m]'(by omega) := ⟨_, rfl⟩
          obtain ⟨g, rfl, hg, hcx⟩ := HSC.out k (by omega)
          obtain ⟨g', e', _, hcy⟩ := HSC.out m (by omega)
          obtain rfl : g = g' := by injection e' with e'; injection e'
          clear e'
          rw [← hx] at hcx; rw [← hy] at hcy
          have hxb := (HT.out k (by omega)).1.hb
          have hyb := (HT.out m (by omega)).1.hb
          rw [← hx] at hxb; rw [← hy] at hyb
          obtain ⟨g1, off1, rfl, hg1, hcj⟩ := HJB2.out.spot (by omega)
          obtain ⟨p, hp⟩ : ∃ p, p = J.getD x.j jb0 := ⟨_, rfl⟩
          obtain ⟨q, hq⟩ : ∃ p, p = J.getD y.j jb0 := ⟨_, rfl⟩
          have hcp := hcj x.j hxb; have hcq := hcj y.j hyb
          rw [show J[x.j] = p by rw [hp, List.getD_eq_getElem?_getD, List.getElem?_eq_getElem hxb, Option.getD_some]] at hcp
          rw [show J[y.j] = q by rw [hq, List.getD_eq_getElem?_getD, List.getElem?_eq_getElem hyb, Option.getD_some]] at hcq
          have HAH := Lib.hid (show q.r ≤ x.a → aheadJ q p N = false by rw [hq, hp, hy, hx]; exact HT.out.noneAhead (by have := HNB.out; omega) HRJ.out hkm (by omega))
          have HRA := Lib.hid (rahead_any q p N)
          unfold Jb.v at HRA
          have HK := Lib.hid (show ∀ W, Below w2.heap.size w2 W → W.cell? ⟨g, k * 3, none⟩ = some (.int .i64 (x.j : Int)) ∧ W.cell? ⟨g, k * 3 + 1, none⟩ = some (.int .i64 x.a) ∧ W.cell? ⟨g, m * 3, none⟩ = some (.int .i64 (y.j : Int)) ∧ W.cell? ⟨g, m * 3 + 1, none⟩ = some (.int .i64 y.a) ∧ W.cell? ⟨g1, off1 + x.j * 4, none⟩ = some (.int .i64 p.s) ∧ W.cell? ⟨g1, off1 + x.j * 4 + 1, none⟩ = some (.int .i64 p.r) ∧ W.cell? ⟨g1, off1 + x.j * 4 + 2, none⟩ = some (.int .i64 p.d) ∧ W.cell? ⟨g1, off1 + x.j * 4 + 3, none⟩ = some (.int .i64 p.c) ∧ W.cell? ⟨g1, off1 + y.j * 4, none⟩ = some (.int .i64 q.s) ∧ W.cell? ⟨g1, off1 + y.j * 4 + 1, none⟩ = some (.int .i64 q.r) ∧ W.cell? ⟨g1, off1 + y.j * 4 + 2, none⟩ = some (.int .i64 q.d) ∧ W.cell? ⟨g1, off1 + y.j * 4 + 3, none⟩ = some (.int .i64 q.c) from fun W hb => ⟨(hb.cell (p := ⟨g, k * 3, none⟩) hg).trans (hcx 0 _ rfl), (hb.cell (p := ⟨g, k * 3 + 1, none⟩) hg).trans (hcx 1 _ rfl), (hb.cell (p := ⟨g, m * 3, none⟩) hg).trans (hcy 0 _ rfl), (hb.cell (p := ⟨g, m * 3 + 1, none⟩) hg).trans (hcy 1 _ rfl), (hb.cell (p := ⟨g1, off1 + x.j * 4, none⟩) hg1).trans (hcp 0 _ rfl), (hb.cell (p := ⟨g1, off1 + x.j * 4 + 1, none⟩) hg1).trans (hcp 1 _ rfl), (hb.cell (p := ⟨g1, off1 + x.j * 4 + 2, none⟩) hg1).trans (hcp 2 _ rfl), (hb.cell (p := ⟨g1, off1 + x.j * 4 + 3, none⟩) hg1).trans (hcp 3 _ rfl), (hb.cell (p := ⟨g1, off1 + y.j * 4, none⟩) hg1).trans (hcq 0 _ rfl), (hb.cell (p := ⟨g1, off1 + y.j * 4 + 1, none⟩) hg1).trans (hcq 1 _ rfl), (hb.cell (p := ⟨g1, off1 + y.j * 4 + 2, none⟩) hg1).trans (hcq 2 _ rfl), (hb.cell (p := ⟨g1, off1 + y.j * 4 + 3, none⟩) hg1).trans (hcq 3 _ rfl)⟩)
          have n1 : ¬ (x.j : Int) < 0 := by omega
          have n2 : ¬ (M : Int) ≤ (x.j : Int) := by have := HL.out; omega
          have n3 : ¬ (y.j : Int) < 0 := by omega
          have n4 : ¬ (M : Int) ≤ (y.j : Int) := by have := HL.out; omega
          have n5 : (x.j : Int) < (M : Int) := by omega
          have n6 : (y.j : Int) < (M : Int) := by omega
          have n7 : (0 : Int) ≤ (x.j : Int) := by omega
          have n8 : (0 : Int) ≤ (y.j : Int) := by omega
          clear hcx hcy hcj hcp hcq hxb hyb hx hy hp hq hMS hg hg1
          obtain ⟨xc0, xc1, yc0, yc1, pc0, pc1, pc2, pc3, qc0, qc1, qc2, qc3⟩ := HK.out _ HBX.out
          go_upto_region 14 with fail
          clear xc0 xc1 yc0 yc1 pc0 pc1 pc2 pc3 qc0 qc1 qc2 qc3
          go_cut [10, 11] (fun v10 v11 wx => ∃ B1 B2, v10 = .pointer (some ⟨B1, 0, none⟩) ∧ v11 = .pointer (some ⟨B2, 0, none⟩) ∧ Blk wx B1 42 p.C ∧ Blk wx B2 42 q.C ∧ Below w2.heap.size w2 wx)
          case first =>
            have HSW := Lib.hid (show ∀ u, Below w2.heap.size w2 u → True ∧ u.cell? ⟨g, k * 3, none⟩ = some (.int .i64 (x.j : Int)) ∧ u.cell? ⟨g, k * 3 + 1, none⟩ = some (.int .i64 x.a) ∧ u.cell? ⟨g, m * 3, none⟩ = some (.int .i64 (y.j : Int)) ∧ u.cell? ⟨g, m * 3 + 1, none⟩ = some (.int .i64 y.a) ∧ u.cell? ⟨g1, off1 + x.j * 4, none⟩ = some (.int .i64 p.s) ∧ u.cell? ⟨g1, off1 + x.j * 4 + 1, none⟩ = some (.int .i64 p.r) ∧ u.cell? ⟨g1, off1 + x.j * 4 + 2, none⟩ = some (.int .i64 p.d) ∧ u.cell? ⟨g1, off1 + x.j * 4 + 3, none⟩ = some (.int .i64 p.c) ∧ u.cell? ⟨g1, off1 + y.j * 4, none⟩ = some (.int .i64 q.s) ∧ u.cell? ⟨g1, off1 + y.j * 4 + 1, none⟩ = some (.int .i64 q.r) ∧ u.cell? ⟨g1, off1 + y.j * 4 + 2, none⟩ = some (.int .i64 q.d) ∧ u.cell? ⟨g1, off1 + y.j * 4 + 3, none⟩ = some (.int .i64 q.c) from fun u hb => ⟨trivial, HK.out u hb⟩)
            refine wp_region_held_drew (S := fun u => True ∧ u.cell? ⟨g, k * 3, none⟩ = some (.int .i64 (x.j : Int)) ∧ u.cell? ⟨g, k * 3 + 1, none⟩ = some (.int .i64 x.a) ∧ u.cell? ⟨g, m * 3, none⟩ = some (.int .i64 (y.j : Int)) ∧ u.cell? ⟨g, m * 3 + 1, none⟩ = some (.int .i64 y.a) ∧ u.cell? ⟨g1, off1 + x.j * 4, none⟩ = some (.int .i64 p.s) ∧ u.cell? ⟨g1, off1 + x.j * 4 + 1, none⟩ = some (.int .i64 p.r) ∧ u.cell? ⟨g1, off1 + x.j * 4 + 2, none⟩ = some (.int .i64 p.d) ∧ u.cell? ⟨g1, off1 + x.j * 4 + 3, none⟩ = some (.int .i64 p.c) ∧ u.cell? ⟨g1, off1 + y.j * 4, none⟩ = some (.int .i64 q.s) ∧ u.cell? ⟨g1, off1 + y.j * 4 + 1, none⟩ = some (.int .i64 q.r) ∧ u.cell? ⟨g1, off1 + y.j * 4 + 2, none⟩ = some (.int .i64 q.d) ∧ u.cell? ⟨g1, off1 + y.j * 4 + 3, none⟩ = some (.int .i64 q.c)) (by kernel_rfl) (HSW.out _ HBX.out.drew) (fun hHeld => ?_)
            obtain ⟨wd, hwd⟩ : ∃ u, u = wr.drew := ⟨_, rfl⟩
            rw [← hwd] at hHeld ⊢
            have HBD := Lib.hid (show Below w2.heap.size w2 wd by rw [hwd]; exact HBX.out.drew)
            clear hwd
            refine wpAnyH_take (i := 0) (oi := _) (v := ?_) rfl (by kernel_rfl) (by kernel_rfl) (by kernel_rfl) (fun _ _ _ h => h) (Or.inl ⟨by rfl, ?_⟩) (by assumption) ?_
            rotate_left
            · intro x hSx
              try dsimp only at hSx
              obtain ⟨_, hSx0, hSx1, hSx2, hSx3, hSx4, hSx5, hSx6, hSx7, hSx8, hSx9, hSx10, hSx11⟩ := hSx
              go_simp
              first | done | with_reducible rfl
            try simp only [Act.put, List.setIfInBounds_toArray, List.set_cons_zero, List.set_cons_succ]
            refine wpAnyH_take (i := 1) (oi := _) (v := ?_) rfl (by kernel_rfl) (by kernel_rfl) (by kernel_rfl) (fun _ _ _ h => h) (Or.inl ⟨by rfl, ?_⟩) (by assumption) ?_
            rotate_left
            · intro x hSx
              try dsimp only at hSx
              obtain ⟨_, hSx0, hSx1, hSx2, hSx3, hSx4, hSx5, hSx6, hSx7, hSx8, hSx9, hSx10, hSx11⟩ := hSx
              go_simp
              first | done | with_reducible rfl
            try simp only [Act.put, List.setIfInBounds_toArray, List.set_cons_zero, List.set_cons_succ]
            refine wpAnyH_take (i := 2) (oi := _) (v := ?_) rfl (by kernel_rfl) (by kernel_rfl) (by kernel_rfl) (fun _ _ _ h => h) (Or.inl ⟨by rfl, ?_⟩) (by assumption) ?_
            rotate_left
            · intro x hSx
              try dsimp only at hSx
              obtain ⟨_, hSx0, hSx1, hSx2, hSx3, hSx4, hSx5, hSx6, hSx7, hSx8, hSx9, hSx10, hSx11⟩ := hSx
              go_simp
              first | done | with_reducible rfl
            try simp only [Act.put, List.setIfInBounds_toArray, List.set_cons_zero, List.set_cons_succ]
            refine wpAnyH_take (i := 3) (oi := _) (v := ?_) rfl (by kernel_rfl) (by kernel_rfl) (by kernel_rfl) (fun _ _ _ h => h) (Or.inl ⟨by rfl, ?_⟩) (by assumption) ?_
            rotate_left
            · intro x hSx
              try dsimp only at hSx
              obtain ⟨_, hSx0, hSx1, hSx2, hSx3, hSx4, hSx5, hSx6, hSx7, hSx8, hSx9, hSx10, hSx11⟩ := hSx
              go_simp
              first | done | with_reducible rfl
            try simp only [Act.put, List.setIfInBounds_toArray, List.set_cons_zero, List.set_cons_succ]
            refine wpAnyH_take (i := 4) (oi := _) (v := ?_) rfl (by kernel_rfl) (by kernel_rfl) (by kernel_rfl) (fun _ _ _ h => h) (Or.inl ⟨by rfl, ?_⟩) (by assumption) ?_
            rotate_left
            · intro x hSx
              try dsimp only at hSx
              obtain ⟨_, hSx0, hSx1, hSx2, hSx3, hSx4, hSx5, hSx6, hSx7, hSx8, hSx9, hSx10, hSx11⟩ := hSx
              go_simp
              first | done | with_reducible rfl
            try simp only [Act.put, List.setIfInBounds_toArray, List.set_cons_zero, List.set_cons_succ]
            refine wpAnyH_take (i := 5) (oi := _) (v := ?_) rfl (by kernel_rfl) (by kernel_rfl) (by kernel_rfl) (fun _ _ _ h => h) (Or.inl ⟨by rfl, ?_⟩) (by assumption) ?_
            rotate_left
            · intro x hSx
              try dsimp only at hSx
              obtain ⟨_, hSx0, hSx1, hSx2, hSx3, hSx4, hSx5, hSx6, hSx7, hSx8, hSx9, hSx10, hSx11⟩ := hSx
              go_simp
              first | done | with_reducible rfl
            try simp only [Act.put, List.setIfInBounds_toArray, List.set_cons_zero, List.set_cons_succ]
            refine wpAnyH_take (i := 6) (oi := _) (v := ?_) rfl (by kernel_rfl) (by kernel_rfl) (by kernel_rfl) (fun _ _ _ h => h) (Or.inl ⟨by rfl, ?_⟩) (by assumption) ?_
            rotate_left
            · intro x hSx
              try dsimp only at hSx
              obtain ⟨_, hSx0, hSx1, hSx2, hSx3, hSx4, hSx5, hSx6, hSx7, hSx8, hSx9, hSx10, hSx11⟩ := hSx
              go_simp
              first | done | with_reducible rfl
            try simp only [Act.put, List.setIfInBounds_toArray, List.set_cons_zero, List.set_cons_succ]
            refine wpAnyH_take (i := 7) (oi := _) (v := ?_) rfl (by kernel_rfl) (by kernel_rfl) (by kernel_rfl) (fun _ _ _ h => h) (Or.inl ⟨by rfl, ?_⟩) (by assumption) ?_
            rotate_left
            · intro x hSx
              try dsimp only at hSx
              obtain ⟨_, hSx0, hSx1, hSx2, hSx3, hSx4, hSx5, hSx6, hSx7, hSx8, hSx9, hSx10, hSx11⟩ := hSx
              go_simp
              first | done | with_reducible rfl
            try simp only [Act.put, List.setIfInBounds_toArray, List.set_cons_zero, List.set_cons_succ]
            refine wpAnyH_take (i := 8) (oi := _) (v := ?_) rfl (by kernel_rfl) (by kernel_rfl) (by kernel_rfl) (fun _ _ _ h => h) (Or.inl ⟨by rfl, ?_⟩) (by assumption) ?_
            rotate_left
            · intro x hSx
              try dsimp only at hSx
              obtain ⟨_, hSx0, hSx1, hSx2, hSx3, hSx4, hSx5, hSx6, hSx7, hSx8, hSx9, hSx10, hSx11⟩ := hSx
              go_simp
              first | done | with_reducible rfl
            try simp only [Act.put, List.setIfInBounds_toArray, List.set_cons_zero, List.set_cons_succ]
            refine wpAnyH_take (i := 9) (oi := _) (v := ?_) rfl (by kernel_rfl) (by kernel_rfl) (by kernel_rfl) (fun _ _ _ h => h) (Or.inl ⟨by rfl, ?_⟩) (by assumption) ?_
            rotate_left
            · intro x hSx
              try dsimp only at hSx
              obtain ⟨_, hSx0, hSx1, hSx2, hSx3, hSx4, hSx5, hSx6, hSx7, hSx8, hSx9, hSx10, hSx11⟩ := hSx
              go_simp
              first | done | with_reducible rfl
            try simp only [Act.put, List.setIfInBounds_toArray, List.set_cons_zero, List.set_cons_succ]
            refine wpAnyH_take (i := 10) (oi := _) (v := ?_) rfl (by kernel_rfl) (by kernel_rfl) (by kernel_rfl) (fun _ _ _ h => h) (Or.inl ⟨by rfl, ?_⟩) (by assumption) ?_
            rotate_left
            · intro x hSx
              try dsimp only at hSx
              obtain ⟨_, hSx0, hSx1, hSx2, hSx3, hSx4, hSx5, hSx6, hSx7, hSx8, hSx9, hSx10, hSx11⟩ := hSx
              go_simp
              first | done | with_reducible rfl
            try simp only [Act.put, List.setIfInBounds_toArray, List.set_cons_zero, List.set_cons_succ]
            refine wpAnyH_take (i := 11) (oi := _) (v := ?_) rfl (by kernel_rfl) (by kernel_rfl) (by kernel_rfl) (fun _ _ _ h => h) (Or.inl ⟨by rfl, ?_⟩) (by assumption) ?_
            rotate_left
            · intro x hSx
              try dsimp only at hSx
              obtain ⟨_, hSx0, hSx1, hSx2, hSx3, hSx4, hSx5, hSx6, hSx7, hSx8, hSx9, hSx10, hSx11⟩ := hSx
              go_simp
              first | done | with_reducible rfl
            try simp only [Act.put, List.setIfInBounds_toArray, List.set_cons_zero, List.set_cons_succ]
            refine wpAnyH_take (i := 12) (oi := _) (v := ?_) rfl (by kernel_rfl) (by kernel_rfl) (by kernel_rfl) (fun _ _ _ h => h) (Or.inl ⟨by rfl, ?_⟩) (by assumption) ?_
            rotate_left
            · intro x hSx
              try dsimp only at hSx
              obtain ⟨_, hSx0, hSx1, hSx2, hSx3, hSx4, hSx5, hSx6, hSx7, hSx8, hSx9, hSx10, hSx11⟩ := hSx
              go_simp
              first | done | with_reducible rfl
            try simp only [Act.put, List.setIfInBounds_toArray, List.set_cons_zero, List.set_cons_succ]
            refine wpAnyH_take (i := 13) (oi := _) (v := ?_) rfl (by kernel_rfl) (by kernel_rfl) (by kernel_rfl) (fun _ _ _ h => h) (Or.inl ⟨by rfl, ?_⟩) (by assumption) ?_
            rotate_left
            · intro x hSx
              try dsimp only at hSx
              obtain ⟨_, hSx0, hSx1, hSx2, hSx3, hSx4, hSx5, hSx6, hSx7, hSx8, hSx9, hSx10, hSx11⟩ := hSx
              go_simp
              first | done | with_reducible rfl
            try simp only [Act.put, List.setIfInBounds_toArray, List.set_cons_zero, List.set_cons_succ]
            refine wpAnyH_take (i := 14) (oi := _) (v := ?_) rfl (by kernel_rfl) (by kernel_rfl) (by kernel_rfl) (fun _ _ _ h => h) (Or.inl ⟨by rfl, ?_⟩) (by assumption) ?_
            rotate_left
            · intro x hSx
              try dsimp only at hSx
              obtain ⟨_, hSx0, hSx1, hSx2, hSx3, hSx4, hSx5, hSx6, hSx7, hSx8, hSx9, hSx10, hSx11⟩ := hSx
              go_simp
              first | done | with_reducible rfl
            try simp only [Act.put, List.setIfInBounds_toArray, List.set_cons_zero, List.set_cons_succ]
            refine wpAnyH_take (i := 15) (oi := _) (v := ?_) rfl (by kernel_rfl) (by kernel_rfl) (by kernel_rfl) (fun _ _ _ h => h) (Or.inl ⟨by rfl, ?_⟩) (by assumption) ?_
            rotate_left
            · intro x hSx
              try dsimp only at hSx
              obtain ⟨_, hSx0, hSx1, hSx2, hSx3, hSx4, hSx5, hSx6, hSx7, hSx8, hSx9, hSx10, hSx11⟩ := hSx
              go_simp
              first | done | with_reducible rfl
            try simp only [Act.put, List.setIfInBounds_toArray, List.set_cons_zero, List.set_cons_succ]
            have HT2 := Lib.hid (two_made wd 42 p.C q.C rfl rfl)
            have HB2A := Lib.hid ((HBD.out.alloc HBD.out.size (.cells #[.int .i64 0, .int .i64 0, .int .i64 0, .int .i64 0] 42)).alloc (by have := HBD.out.size; simp only [World.size_alloc]; omega) (.cells #[.int .i64 0, .int .i64 0, .int .i64 0, .int .i64 0] 42))
            have HB1A := Lib.hid (HBD.out.alloc HBD.out.size (.cells #[.int .i64 0, .int .i64 0, .int .i64 0, .int .i64 0] 42))
            refine wpAnyH_ready (rs := [16, 17]) (by kernel_rfl) (by simp) ?_
            refine AllReadyH.cons (o := _) rfl (fun K hK => ?_) (AllReadyH.cons (o := _) rfl (fun K hK => ?_) AllReadyH.nil)
            · go_simp
              refine hK.out _ _ (HSW.out _ HB1A.out) (fun hHeld => ?_)
              clear hK K hHeld
              try simp only [Act.put, List.setIfInBounds_toArray, List.set_cons_zero, List.set_cons_succ]
              have hHeld := HSW.out _ HB1A.out
              refine wpAnyH_ready (rs := [17]) (by kernel_rfl) (by simp) ?_
              refine AllReadyH.cons (o := _) rfl (fun K hK => ?_) AllReadyH.nil
              go_simp
              refine hK.out _ _ (HSW.out _ HB2A.out) (fun hHeld => ?_)
              clear hK K hHeld
              try simp only [Act.put, List.setIfInBounds_toArray, List.set_cons_zero, List.set_cons_succ]
              have hHeld := HSW.out _ HB2A.out
              have HB3A := Lib.hid (Go.below_setCells (by have := HBD.out.size; omega) p.C 0 _ HB2A.out : Below w2.heap.size w2 (((wd.alloc (.cells #[.int .i64 0, .int .i64 0, .int .i64 0, .int .i64 0] 42)).alloc (.cells #[.int .i64 0, .int .i64 0, .int .i64 0, .int .i64 0] 42)).setCells wd.heap.size 0 p.C))
              have HB4A := Lib.hid (Go.below_setCells (by have := HBD.out.size; omega) q.C 0 _ HB3A.out : Below w2.heap.size w2 ((((wd.alloc (.cells #[.int .i64 0, .int .i64 0, .int .i64 0, .int .i64 0] 42)).alloc (.cells #[.int .i64 0, .int .i64 0, .int .i64 0, .int .i64 0] 42)).setCells wd.heap.size 0 p.C).setCells (wd.heap.size + 1) 0 q.C))
              refine wpAnyH_ready (rs := [18]) (by kernel_rfl) (by simp) ?_
              refine AllReadyH.cons (o := _) rfl (fun K hK => ?_) AllReadyH.nil
              rw [if_pos (by rfl)]
              refine wp_store_mid 42 _ _ rfl wd.heap.size 0 p.C.toArray rfl rfl HT2.out.1.1 (by kernel_rfl) (Jb.all p) ?_
              refine hK.out _ _ (HSW.out _ HB3A.out) (fun hHeld => ?_)
              clear hK K hHeld
              try simp only [Act.put, List.setIfInBounds_toArray, List.set_cons_zero, List.set_cons_succ]
              have hHeld := HSW.out _ HB3A.out
              refine wpAnyH_ready (rs := [19]) (by kernel_rfl) (by simp) ?_
              refine AllReadyH.cons (o := _) rfl (fun K hK => ?_) AllReadyH.nil
              rw [if_pos (by rfl)]
              refine wp_store_mid 42 _ _ rfl (wd.heap.size + 1) 0 q.C.toArray rfl rfl HT2.out.1.2.1 (by kernel_rfl) (Jb.all q) ?_
              refine hK.out _ _ (HSW.out _ HB4A.out) (fun hHeld => ?_)
              clear hK K hHeld
              try simp only [Act.put, List.setIfInBounds_toArray, List.set_cons_zero, List.set_cons_succ]
              have hHeld := HSW.out _ HB4A.out
              refine ⟨by kernel_rfl, ?_⟩
              go_wp2_with fail
              go_meet
              exact ⟨_, _, rfl, rfl, HT2.out.1.2.2.1, HT2.out.1.2.2.2, HB4A.out⟩
            · go_simp
              refine hK.out _ _ (HSW.out _ HB1A.out) (fun hHeld => ?_)
              clear hK K hHeld
              try simp only [Act.put, List.setIfInBounds_toArray, List.set_cons_zero, List.set_cons_succ]
              have hHeld := HSW.out _ HB1A.out
              refine wpAnyH_ready (rs := [16]) (by kernel_rfl) (by simp) ?_
              refine AllReadyH.cons (o := _) rfl (fun K hK => ?_) AllReadyH.nil
              go_simp
              refine hK.out _ _ (HSW.out _ HB2A.out) (fun hHeld => ?_)
              clear hK K hHeld
              try simp only [Act.put, List.setIfInBounds_toArray, List.set_cons_zero, List.set_cons_succ]
              have hHeld := HSW.out _ HB2A.out
              have HB3A := Lib.hid (Go.below_setCells (by have := HBD.out.size; omega) p.C 0 _ HB2A.out : Below w2.heap.size w2 (((wd.alloc (.cells #[.int .i64 0, .int .i64 0, .int .i64 0, .int .i64 0] 42)).alloc (.cells #[.int .i64 0, .int .i64 0, .int .i64 0, .int .i64 0] 42)).setCells (wd.heap.size + 1) 0 p.C))
              have HB4A := Lib.hid (Go.below_setCells (by have := HBD.out.size; omega) q.C 0 _ HB3A.out : Below w2.heap.size w2 ((((wd.alloc (.cells #[.int .i64 0, .int .i64 0, .int .i64 0, .int .i64 0] 42)).alloc (.cells #[.int .i64 0, .int .i64 0, .int .i64 0, .int .i64 0] 42)).setCells (wd.heap.size + 1) 0 p.C).setCells wd.heap.size 0 q.C))
              refine wpAnyH_ready (rs := [18]) (by kernel_rfl) (by simp) ?_
              refine AllReadyH.cons (o := _) rfl (fun K hK => ?_) AllReadyH.nil
              rw [if_pos (by rfl)]
              refine wp_store_mid 42 _ _ rfl (wd.heap.size + 1) 0 p.C.toArray rfl rfl HT2.out.2.1 (by kernel_rfl) (Jb.all p) ?_
              refine hK.out _ _ (HSW.out _ HB3A.out) (fun hHeld => ?_)
              clear hK K hHeld
              try simp only [Act.put, List.setIfInBounds_toArray, List.set_cons_zero, List.set_cons_succ]
              have hHeld := HSW.out _ HB3A.out
              refine wpAnyH_ready (rs := [19]) (by kernel_rfl) (by simp) ?_
              refine AllReadyH.cons (o := _) rfl (fun K hK => ?_) AllReadyH.nil
              rw [if_pos (by rfl)]
              refine wp_store_mid 42 _ _ rfl wd.heap.size 0 q.C.toArray rfl rfl HT2.out.2.2.1 (by kernel_rfl) (Jb.all q) ?_
              refine hK.out _ _ (HSW.out _ HB4A.out) (fun hHeld => ?_)
              clear hK K hHeld
              try simp only [Act.put, List.setIfInBounds_toArray, List.set_cons_zero, List.set_cons_succ]
              have hHeld := HSW.out _ HB4A.out
              refine ⟨by kernel_rfl, ?_⟩
              go_wp2_with fail
              go_meet
              exact ⟨_, _, rfl, rfl, HT2.out.2.2.2.1, HT2.out.2.2.2.2, HB4A.out⟩
          case rest =>
          obtain ⟨W5, hw5⟩ : ∃ u, u = wc := ⟨_, rfl⟩
          rw [← hw5] at hcut ⊢
          obtain ⟨B1, B2, rfl, rfl, h1, h2, h3⟩ := hcut
          have H1 := Lib.hid h1; have H2 := Lib.hid h2; have H3 := Lib.hid h3
          clear h1 h2 h3 hw5
          have HZ := Lib.hid (show ∀ x_, Below W5.heap.size W5 x_ → Below W5.heap.size W5 x_ ∧ x_.cell? ⟨B1, 0, none⟩ = some (.int .i64 p.s) ∧ x_.cell? ⟨B1, 1, none⟩ = some (.int .i64 p.r) ∧ x_.cell? ⟨B1, 2, none⟩ = some (.int .i64 p.d) ∧ x_.cell? ⟨B1, 3, none⟩ = some (.int .i64 p.c) ∧ x_.cell? ⟨B2, 0, none⟩ = some (.int .i64 q.s) ∧ x_.cell? ⟨B2, 1, none⟩ = some (.int .i64 q.r) ∧ x_.cell? ⟨B2, 2, none⟩ = some (.int .i64 q.d) ∧ x_.cell? ⟨B2, 3, none⟩ = some (.int .i64 q.c) ∧ x_.cell? ⟨g, k * 3 + 1, none⟩ = some (.int .i64 x.a) from fun u hx => ⟨hx, (H1.out.keep hx H1.out.lt).cellAt (i := 0) (by simp [Jb.C]), (H1.out.keep hx H1.out.lt).cellAt (i := 1) (by simp [Jb.C]), (H1.out.keep hx H1.out.lt).cellAt (i := 2) (by simp [Jb.C]), (H1.out.keep hx H1.out.lt).cellAt (i := 3) (by simp [Jb.C]), (H2.out.keep hx H2.out.lt).cellAt (i := 0) (by simp [Jb.C]), (H2.out.keep hx H2.out.lt).cellAt (i := 1) (by simp [Jb.C]), (H2.out.keep hx H2.out.lt).cellAt (i := 2) (by simp [Jb.C]), (H2.out.keep hx H2.out.lt).cellAt (i := 3) (by simp [Jb.C]), (HK.out u (H3.out.trans (hx.mono H3.out.size))).2.1⟩)
          by_cases hle : q.r ≤ x.a
          · rw [HAH.out hle] at HRA
            go_upto_region 15 with fail
            refine wp_region_class (C := fun x_ => Below W5.heap.size W5 x_ ∧ x_.cell? ⟨B1, 0, none⟩ = some (.int .i64 p.s) ∧ x_.cell? ⟨B1, 1, none⟩ = some (.int .i64 p.r) ∧ x_.cell? ⟨B1, 2, none⟩ = some (.int .i64 p.d) ∧ x_.cell? ⟨B1, 3, none⟩ = some (.int .i64 p.c) ∧ x_.cell? ⟨B2, 0, none⟩ = some (.int .i64 q.s) ∧ x_.cell? ⟨B2, 1, none⟩ = some (.int .i64 q.r) ∧ x_.cell? ⟨B2, 2, none⟩ = some (.int .i64 q.d) ∧ x_.cell? ⟨B2, 3, none⟩ = some (.int .i64 q.c) ∧ x_.cell? ⟨g, k * 3 + 1, none⟩ = some (.int .i64 x.a)) (by kernel_rfl) (by kernel_rfl) (HZ.out _ (Below.refl _ _).drew) ?_
            repeat
              with_reducible refine wpQuiet_step (fun K hK => ?_)
              first
                | (refine quiet_skip (by rfl) ?_; (with_reducible refine hK _ ?_); clear hK K)
                | (refine quiet_want (by rfl) ?_
                   apply Exists.intro
                   refine ⟨fun xw hx => ?_, hK _ ?_⟩
                   (obtain ⟨_, hx1, hx2, hx3, hx4, hx5, hx6, hx7, hx8, hx9⟩ := id hx; go_simp; first | done | rfl | (first | (go_at_call 19; with_reducible exact Calls.mono (HRA.out xw) (fun y w' hh => ⟨hh.1, HZ.out _ (below_transG hx.1 hh.2)⟩))))
                   clear hK K)
              try simp only [Act.put, List.setIfInBounds_toArray, List.set_cons_zero, List.set_cons_succ]
            with_reducible refine wpQuiet_nil ?_
            intro wq hq
            have HB5 := Lib.hid (H3.out.trans (hq.1.mono H3.out.size))
            go_wp2_with fail
            go_roundw
            case rel => exact ⟨m + 1, by simp, by omega, by omega, by first | exact HB5.out | exact HB5.out.drew⟩
            case measure => simp [intOf]; omega
          · go_upto_region 15 with fail
            refine wp_region_class (C := fun x_ => Below W5.heap.size W5 x_ ∧ x_.cell? ⟨B1, 0, none⟩ = some (.int .i64 p.s) ∧ x_.cell? ⟨B1, 1, none⟩ = some (.int .i64 p.r) ∧ x_.cell? ⟨B1, 2, none⟩ = some (.int .i64 p.d) ∧ x_.cell? ⟨B1, 3, none⟩ = some (.int .i64 p.c) ∧ x_.cell? ⟨B2, 0, none⟩ = some (.int .i64 q.s) ∧ x_.cell? ⟨B2, 1, none⟩ = some (.int .i64 q.r) ∧ x_.cell? ⟨B2, 2, none⟩ = some (.int .i64 q.d) ∧ x_.cell? ⟨B2, 3, none⟩ = some (.int .i64 q.c) ∧ x_.cell? ⟨g, k * 3 + 1, none⟩ = some (.int .i64 x.a)) (by kernel_rfl) (by kernel_rfl) (HZ.out _ (Below.refl _ _).drew) ?_
            repeat
              with_reducible refine wpQuiet_step (fun K hK => ?_)
              first
                | (refine quiet_skip (by rfl) ?_; (with_reducible refine hK _ ?_); clear hK K)
                | (refine quiet_want (by rfl) ?_
                   apply Exists.intro
                   refine ⟨fun xw hx => ?_, hK _ ?_⟩
                   (obtain ⟨_, hx1, hx2, hx3, hx4, hx5, hx6, hx7, hx8, hx9⟩ := id hx; go_simp; first | done | rfl | (fail))
                   clear hK K)
              try simp only [Act.put, List.setIfInBounds_toArray, List.set_cons_zero, List.set_cons_succ]
            with_reducible refine wpQuiet_nil ?_
            intro wq hq
            have HB5 := Lib.hid (H3.out.trans (hq.1.mono H3.out.size))
            go_wp2_with fail
            go_roundw
            case rel => exact ⟨m + 1, by simp, by omega, by omega, by first | exact HB5.out | exact HB5.out.drew⟩
            case measure => simp [intOf]; omega
        · have i2 : ¬ (m : Int) < (M : Int) := by omega
          go_wp2_with fail
          go_roundw
          case rel => exact ⟨k + 1, by simp, by omega, by first | exact HBX.out | exact HBX.out.drew⟩
          case measure => simp [intOf]; omega
    · have i1 : ¬ (k : Int) < (M : Int) := by omega
      have HB3 := Lib.hid (HB2.out.trans (HBR.out.mono HB2.out.size))
      go_wp2_with fail
      refine (HLV.out _).mono ?_
      rintro y w9 ⟨rfl, hb⟩
      have HB9 := Lib.hid (below_transE HB3.out hb HB3.out.size)
      clear hb
      go_wp2_with fail
      go_ret
      exact ⟨rfl, HB9.out⟩
set_option maxRecDepth 100000 in
theorem lifted (os : Os) (started : os.Started) (H : Type) (enc : TypeId × Value → H) :
    ReturnsInHanded {} Try.checked os 6 .any (Rows.edfFirstSpec.pre6 enc Try.prog Try.f6 Rows.edfFirstRow.domain false) (Rows.edfFirstSpec.post enc Try.prog Try.f6 false true false false) := by
  refine returnsInHanded_of_change (C := Try.checked) own started (by kernel_rfl) Try.func6
    (ChangeSpec.witness6 (enc := enc) (C := Try.checked) false ⟨#[], #[.slice none 0 0, .int .u16 0], []⟩ 8 (by kernel_rfl) (by kernel_rfl) (by kernel_rfl) (by kernel_rfl)) ?_
  intro W base args ds gs before hval0 hW _ _
  have hval : ∀ (j : Nat) t v, Try.f6.params[j]? = some t → args[j]? = some v → Value.okWide Try.prog W .any base t v := hval0
  have hW' := hW
  obtain ⟨p, q, hA0, hV, rfl, hfz, hnd⟩ := hW
  have hA : DataW.TrodAll enc Try.prog W 0 (fun _ => true) true Try.f6.params.toList args.toList ds p := hA0
  rw [Try.params6] at hA hval
  obtain ⟨v0, vs0, d0, ds0, p0, q0, hargs, rfl, rfl, h0, r0⟩ := trodAll_cons hA
  obtain ⟨v1, vs1, d1, ds1, p1, q1, rfl, rfl, rfl, h1, r1⟩ := trodAll_cons r0
  obtain ⟨rfl, rfl, rfl⟩ := trodAll_nil r1
  obtain rfl : args = #[v0, v1] := by cases args; simp_all
  obtain ⟨rfl, rfl⟩ := trodVars_none hV
  obtain ⟨a0, len0, cap0, rfl⟩ := okWide_slice Try.underlying22 (hval 0 22 v0 rfl rfl)
  have k0 := h0
  have lt0 : ∀ x ∈ p0, x.block < W.heap.size := by obtain ⟨m, hm⟩ := k0; exact DataW.trod_lt m _ _ _ hm
  obtain ⟨L0, wl0, ww0, wr0⟩ : ∃ L : List Jb, L.length = len0 ∧ (∀ s ∈ L, Jb.wf s) ∧ Rd W 4 (.slice a0 len0 cap0) (L.flatMap Jb.C) := by
    obtain ⟨fuel, hf⟩ := h0
    exact open_rows Jb.C Jb.wf 4 (by decide) Try.underlying22 (by kernel_rfl) (fun _ => rfl) (fun _ _ _ => jobR) (by simpa [Value.cells] using hf)
  obtain ⟨a1, rfl, rfl, rfl, w1⟩ := open_int Try.underlying45 (hval 1 45 v1 rfl rfl) h1
  clear hA0 hval0
  refine (walk a0 len0 cap0 L0 a1 W ⟨wl0, ww0, wr0⟩ w1).mono fun e W' ⟨he, bel⟩ => ?_
  subst he
  exact ⟨_, rfl, _, _, _, [], _, [], hW', trodAll_mk1 (shut_bool Try.underlying4 _), (trodAll_cons_mk (Below.trod laidOut (by kernel_rfl) (of_decide_eq_true (by kernel_rfl)) k0 bel lt0) (trodAll_cons_mk (shut_int Try.underlying45 w1) trodAll_mk0)), rfl, bel.frame _, fun h => by cases h⟩
theorem over : Rows.edfFirstRow.holds Try.pinned (OpenSpec.ofChange Rows.edfFirstSpec) :=
  OpenClaim.holds_of_wide 6 Try.f6 rfl rfl rfl rfl rfl rfl rfl ⟨rfl, rfl, rfl, rfl, rfl⟩ rfl rfl rfl rfl rfl (by kernel_rfl) Try.func6 (by kernel_rfl)
    (of_decide_eq_true (by kernel_rfl)) (by unfold Func.isWrapper; first | (rw [if_pos (by decide +kernel)]; kernel_rfl) | (rw [if_neg (by decide +kernel)]; exact ⟨rfl, rfl⟩))
    (fun os started H enc _ => lifted os started H enc)
/-- The statement. -/
theorem proved : Rows.EdfFirstSaid := over
end Go.Proofs.Ytodkohjmghpolaa.edfFirst
