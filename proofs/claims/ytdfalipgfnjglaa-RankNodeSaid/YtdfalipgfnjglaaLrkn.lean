/- RankNode (P21.2, P21.6): whatever a node hears, tick by tick, whether it tells its turn, and is master, as the document says; it never waits longer than it may. No conditions. -/
import Derived.Test.YtdfalipgfnjglaaRows
import Derived.Test.YtdfalipgfnjglaaKns
import Derived.Test.YtdfalipgfnjglaaKnl
import Derived.Deep.RegionHeld3
import Derived.Deep.DeepCutAuto
import Derived.Lib.SmallJoins
import Derived.WalkKit
import Derived.ProofKit
import Derived.OpenShut
import Derived.ShutString
import Derived.ChangeOld
import Derived.Below
namespace Go.Proofs.Ytdfalipgfnjglaa.rankNode
open Go.ChangeShapes Go.WideShapes Go.ChangeAt Go.RowKit
theorem own : ownKnob Try.prog.godebug = none := by kernel_rfl
theorem laidOut : laidOutB Try.prog = true := by kernel_rfl
set_option maxRecDepth 100000 in
set_option maxHeartbeats 16000000 in
theorem walk (b s p k : Int) (a2 : Option Addr) (len2 cap2 : Nat) (qA : Nat → Option Addr) (qL qC : Nat → Nat) (qZ : Nat → List Int) (w : World) (_ : (Lit.int .i64 b).wf = true) (_ : (Lit.int .i64 s).wf = true) (_ : (Lit.int .i64 p).wf = true) (_ : (Lit.int .i64 k).wf = true) (hrow : RowsI w a2 len2 qA qL qC qZ) :
    Calls Try.prog 8 #[.agg #[.int .i64 b, .int .i64 s, .int .i64 p], .int .i64 k, .slice a2 len2 cap2] w fun y w' => y = .returned (.bool true) ∧ Below w.heap.size w w' := by
  have HROW := Lib.hid hrow
  clear hrow
  have HPL := Lib.hid (fun u => lw_plain b s p u)
  have HLV := Lib.hid (fun u => live21 u)
  obtain ⟨W0, hW0⟩ : ∃ W, W = w.alloc (.cells #[.int .i64 b, .int .i64 s, .int .i64 p] 115) := ⟨_, rfl⟩
  have HA0 := Lib.hid (show Blk W0 w.heap.size 115 [.int .i64 b, .int .i64 s, .int .i64 p] by rw [hW0]; exact Blk.new w 115 [.int .i64 b, .int .i64 s, .int .i64 p])
  have HB0 := Lib.hid (show Below w.heap.size w W0 by rw [hW0]; exact (Below.refl _ w).alloc (Nat.le_refl _) _)
  have HS0 := Lib.hid (show W0.heap.size = w.heap.size + 1 by rw [hW0]; simp)
  obtain ⟨C, hC⟩ : ∃ C, C = w.heap.size := ⟨_, rfl⟩
  have HCW := Lib.hid hC
  rw [← hC] at HA0
  by_cases hok : rightR b s p = true ∧ 0 ≤ k ∧ k ≤ 31
  · obtain ⟨hr, hk⟩ := hok
    have HRR := Lib.hid hr; have HKK := Lib.hid hk
    have HN1 := Lib.hid (fun u => rk_new_yes b s p k hr hk u); have HN2 := Lib.hid (fun u => rrk_new_yes b s p k hr hk u)
    have HWA := Lib.hid (fun u => rrk_wait b s p k u)
    obtain ⟨_, _, we, w1_, w2_⟩ := wait_in hr hk
    rw [we] at HWA
    obtain ⟨V, hV⟩ : ∃ V, V = waitI b s k := ⟨_, rfl⟩
    rw [← hV] at HWA w1_ w2_
    have HV := Lib.hid hV; have HVB := Lib.hid (And.intro w1_ w2_)
    have HP1 := Lib.hid (show 1 ≤ p from (rightR_rc hr).p1.1)
    clear hr hk we w1_ w2_ hV
    have c0 : W0.cell? ⟨C, 0, none⟩ = some (.int .i64 b) := HA0.out.cellAt (i := 0) (by simp)
    have c1 : W0.cell? ⟨C, 1, none⟩ = some (.int .i64 s) := HA0.out.cellAt (i := 1) (by simp)
    have c2 : W0.cell? ⟨C, 2, none⟩ = some (.int .i64 p) := HA0.out.cellAt (i := 2) (by simp)
    go_enter Try.func8, Try.ntmps8
    go_upto_region 1 with fail
    rw [← hW0, ← hC]
    clear hW0 hC
    go_wp2_with fail
    refine (HN1.out _).mono ?_
    rintro y w1 ⟨B, rfl, hBB, hsB, hb⟩
    have HB1 := Lib.hid (below_transG HB0.out hb); have HA1 := Lib.hid (HA0.out.keep hb HA0.out.lt); have HBB := Lib.hid hBB; have HSB := Lib.hid hsB
    clear hb hBB hsB c0 c1 c2
    have c0 : w1.cell? ⟨C, 0, none⟩ = some (.int .i64 b) := HA1.out.cellAt (i := 0) (by simp)
    have c1 : w1.cell? ⟨C, 1, none⟩ = some (.int .i64 s) := HA1.out.cellAt (i := 1) (by simp)
    have c2 : w1.cell? ⟨C, 2, none⟩ = some (.int .i64 p) := HA1.out.cellAt (i := 2) (by simp)
    go_wp2_with fail
    refine (HPL.out _).mono ?_
    rintro y w2 ⟨rfl, hb⟩
    have HB2 := Lib.hid (below_transG HB1.out hb); have HA2 := Lib.hid (HA1.out.keep hb HA1.out.lt); have HBB2 := Lib.hid (HBB.out.keep hb HBB.out.lt)
    clear hb c0 c1 c2
    go_wp2_with fail
    refine (HN2.out _).mono ?_
    rintro y w3 ⟨D, rfl, hDD, hsD, hb⟩
    have HB3 := Lib.hid (below_transG HB2.out hb)
    have HN3 := Lib.hid (show N2 w.heap.size w3 B D C b s p k ⟨false, 0, 0⟩ ⟨false, 0, 0⟩ from ⟨HBB2.out.keep hb HBB2.out.lt, hDD, HA2.out.keep hb HA2.out.lt, by have := HSB.out; have := HS0.out; have := HCW.out; omega, by have := HA2.out.lt; omega, by have := HBB2.out.lt; omega, by have := HSB.out; have := HS0.out; omega, Nat.le_trans HB2.out.size hsD, HB3.out.size⟩)
    clear hb hDD hsD HA0 HA1 HA2 HBB HBB2 HSB
    go_wp2_with fail
    go_loopw [11] (fun s11 wr => ∃ (i : Nat) (d : Nd), s11 = .int .i64 (i : Int) ∧ i ≤ 200 ∧ Ok1 b s p k d ∧ N2 w.heap.size wr B D C b s p k d d ∧ Below w.heap.size w wr) (fun s11 _ => 200 - (intOf s11).toNat)
    case atStart => exact ⟨0, ⟨false, 0, 0⟩, rfl, by omega, Ok1.new (by have := HV.out; have := HVB.out; omega), HN3.out, HB3.out⟩
    case round =>
      obtain ⟨i, d, rfl, hi, hok, hn, hb⟩ := hrel
      have HOK := Lib.hid hok; have HN := Lib.hid hn; have HB := Lib.hid hb
      clear hok hn hb
      by_cases hgo : i < len2 ∧ i < 200
      · have i1_ : (i : Int) < (len2 : Int) := by omega
        have i2 : (i : Int) < 200 := by omega
        have i3 : (0 : Int) ≤ (i : Int) := by omega
        have HG2 := Lib.hid (show i < 200 from hgo.2)
        obtain ⟨⟨g, off, rfl, hg, hcell⟩, hLC, hCm, hZ, hI⟩ := HROW.out i hgo.1
        have hc := (HB.out.cell (p := ⟨g, off + i, none⟩) hg).trans hcell
        obtain ⟨A, hA⟩ : ∃ A, A = qA i := ⟨_, rfl⟩
        obtain ⟨m, hm⟩ : ∃ m, m = qL i := ⟨_, rfl⟩
        obtain ⟨cap, hcap⟩ : ∃ c, c = qC i := ⟨_, rfl⟩
        rw [← hA, ← hm, ← hcap] at hc
        rw [← hA] at hI
        rw [← hm] at hZ hLC
        rw [← hcap] at hLC hCm
        clear hA hm hcap hgo hcell
        by_cases hbig : 10 < m
        · have b1 : (10 : Int) < (m : Int) := by omega
          have b2 : 10 ≤ cap := by omega
          have b3 : (10 : Int) ≤ (cap : Int) := by omega
          obtain ⟨H, hH⟩ : ∃ H, H = (qZ i).take 10 := ⟨_, rfl⟩
          have HHL := Lib.hid (show H.length = 10 ∧ H.length ≤ 1000 by rw [hH, List.length_take]; omega)
          have HHI := Lib.hid (show Ints w A H from fun j hj => by
            subst hH
            rw [List.length_take] at hj
            obtain ⟨g', off', e, hg', hc'⟩ := hI j (by omega)
            exact ⟨g', off', e, hg', by rw [hc', List.getElem_take]⟩)
          clear hH hZ hI hbig hLC hCm
          obtain ⟨A1, off1, rfl⟩ : ∃ g' off', A = some ⟨g', off', none⟩ := by
            obtain ⟨g', off', e, _, _⟩ := HHI.out 0 (by have := HHL.out.1; omega)
            exact ⟨g', off', e⟩
          obtain ⟨m1, i1, s1, h1⟩ : ∃ m1 i1 s1, (tkN b s p k H d).1 = ⟨m1, i1, s1⟩ := ⟨_, _, _, rfl⟩
          obtain ⟨r1, h2⟩ : ∃ r1, (tkN b s p k H d).2 = r1 := ⟨_, rfl⟩
          have HT1 := Lib.hid h1; have HT2 := Lib.hid h2
          have HOK1 := Lib.hid (show Ok1 b s p k ⟨m1, i1, s1⟩ by rw [← h1]; exact HOK.out.tick (by have := HV.out; have := HVB.out; omega) HP1.out H)
          have o1 : ¬ V < i1 := by have h := HOK1.out.i1; simp only at h; rw [HV.out]; omega
          have HMA := Lib.hid (show ∀ x, N2 w.heap.size x B D C b s p k ⟨m1, i1, s1⟩ ⟨m1, i1, s1⟩ → Calls Try.prog 62 #[.pointer (some ⟨B, 0, none⟩)] x fun y w' => y = .returned (.bool m1) ∧ x = w' from fun x h => rk_Master b s p k ⟨m1, i1, s1⟩ B x h.a)
          have HID := Lib.hid (show ∀ x, N2 w.heap.size x B D C b s p k ⟨m1, i1, s1⟩ ⟨m1, i1, s1⟩ → Calls Try.prog 63 #[.pointer (some ⟨B, 0, none⟩)] x fun y w' => y = .returned (.int .i64 i1) ∧ x = w' from fun x h => rk_Idle b s p k ⟨m1, i1, s1⟩ B x h.a)
          have HRK := Lib.hid (show ∀ x, N2 w.heap.size x B D C b s p k ⟨m1, i1, s1⟩ ⟨m1, i1, s1⟩ → Calls Try.prog 64 #[.pointer (some ⟨B, 0, none⟩)] x fun y w' => y = .returned (.int .i64 k) ∧ x = w' from fun x h => rk_Rank b s p k ⟨m1, i1, s1⟩ B x h.a)
          have HCC := Lib.hid (show ∀ x, N2 w.heap.size x B D C b s p k ⟨m1, i1, s1⟩ ⟨m1, i1, s1⟩ → Below w.heap.size w x → N2 w.heap.size x B D C b s p k ⟨m1, i1, s1⟩ ⟨m1, i1, s1⟩ ∧ x.cell? ⟨D, 4, none⟩ = some (.bool m1) ∧ x.cell? ⟨D, 5, none⟩ = some (.int .i64 i1) ∧ x.cell? ⟨C, 0, none⟩ = some (.int .i64 b) ∧ x.cell? ⟨C, 1, none⟩ = some (.int .i64 s) ∧ x.cell? ⟨C, 2, none⟩ = some (.int .i64 p) ∧ Below w.heap.size w x from fun x h hb => ⟨h, h.r.cellAt (i := 4) (by simp [ndC]), h.r.cellAt (i := 5) (by simp [ndC]), h.c.cellAt (i := 0) (by simp), h.c.cellAt (i := 1) (by simp), h.c.cellAt (i := 2) (by simp), hb⟩)
          have kr : (r1 != r1) = false := by simp
          have km : (m1 != m1) = false := by simp
          have ki : (i1 != i1) = false := by simp
          have kk : (k != k) = false := by simp
          clear h1 h2
          have HK1 := Lib.hid (show ∀ x, N2 w.heap.size x B D C b s p k d d → Below w.heap.size w x → Calls Try.prog 60 #[.pointer (some ⟨B, 0, none⟩), .slice (some ⟨A1, off1, none⟩) 10 cap] x fun y w' => y = .returned (.bool r1) ∧ N2 w.heap.size w' B D C b s p k ⟨m1, i1, s1⟩ d ∧ Below w.heap.size w w' from fun x h hb => by
            have h2 := rk_tick b s p k HRR.out HKK.out d HOK.out B H (some ⟨A1, off1, none⟩) cap HHL.out.2 x h.a (HHI.out.onN (Nat.le_refl _) hb)
            rw [HHL.out.1, HT1.out, HT2.out] at h2
            exact h2.mono fun y w' hh => ⟨hh.1, (h.stepA hh.2.1 hh.2.2).1, hb.trans (h.stepA hh.2.1 hh.2.2).2⟩)
          have HK2 := Lib.hid (show ∀ x, N2 w.heap.size x B D C b s p k ⟨m1, i1, s1⟩ d → Below w.heap.size w x → Calls Try.prog 61 #[.pointer (some ⟨D, 0, none⟩), .slice (some ⟨A1, off1, none⟩) 10 cap] x fun y w' => y = .returned (.bool r1) ∧ N2 w.heap.size w' B D C b s p k ⟨m1, i1, s1⟩ ⟨m1, i1, s1⟩ ∧ Below w.heap.size w w' from fun x h hb => by
            have h2 := rrk_tick b s p k HRR.out HKK.out d HOK.out D H (some ⟨A1, off1, none⟩) cap HHL.out.2 x h.r (HHI.out.onN (Nat.le_refl _) hb)
            rw [HHL.out.1, HT1.out, HT2.out] at h2
            exact h2.mono fun y w' hh => ⟨hh.1, (h.stepD hh.2.1 hh.2.2).1, hb.trans (h.stepD hh.2.1 hh.2.2).2⟩)
          go_upto_region 13 with fail
          go_cut [97] (fun s97 wx => s97 = .bool false ∧ N2 w.heap.size wx B D C b s p k ⟨m1, i1, s1⟩ ⟨m1, i1, s1⟩ ∧ Below w.heap.size w wx)
          case first =>
            refine wp_region_held_drew (S := fun x => Below w.heap.size w x) (by kernel_rfl) HB.out.drew (fun hHeld => ?_)
            refine wpAnyH_take (i := 0) (oi := _) (v := ?_) rfl (by kernel_rfl) (by kernel_rfl) (by kernel_rfl) (fun _ _ _ h => h) (Or.inl ⟨by rfl, ?_⟩) (by assumption) ?_
            rotate_left
            · intro x hSx
              try dsimp only at hSx
              obtain ⟨_, hSx1⟩ := hSx
              go_simp
              first | done | with_reducible rfl
            try simp only [Act.put, List.setIfInBounds_toArray, List.set_cons_zero, List.set_cons_succ]
            refine wpAnyH_take (i := 1) (oi := _) (v := ?_) rfl (by kernel_rfl) (by kernel_rfl) (by kernel_rfl) (fun _ _ _ h => h) (Or.inl ⟨by rfl, ?_⟩) (by assumption) ?_
            rotate_left
            · intro x hSx
              try dsimp only at hSx
              obtain ⟨_, hSx1⟩ := hSx
              go_simp
              first | done | with_reducible rfl
            try simp only [Act.put, List.setIfInBounds_toArray, List.set_cons_zero, List.set_cons_succ]
            refine wpAnyH_take (i := 3) (oi := _) (v := ?_) rfl (by kernel_rfl) (by kernel_rfl) (by kernel_rfl) (fun _ _ _ h => h) (Or.inl ⟨by rfl, ?_⟩) (by assumption) ?_
            rotate_left
            · intro x hSx
              try dsimp only at hSx
              obtain ⟨_, hSx1⟩ := hSx
              go_simp
              first | done | with_reducible rfl
            try simp only [Act.put, List.setIfInBounds_toArray, List.set_cons_zero, List.set_cons_succ]
            refine wpAnyH_take (i := 4) (oi := _) (v := ?_) rfl (by kernel_rfl) (by kernel_rfl) (by kernel_rfl) (fun _ _ _ h => h) (Or.inl ⟨by rfl, ?_⟩) (by assumption) ?_
            rotate_left
            · intro x hSx
              try dsimp only at hSx
              obtain ⟨_, hSx1⟩ := hSx
              go_simp
              first | done | with_reducible rfl
            try simp only [Act.put, List.setIfInBounds_toArray, List.set_cons_zero, List.set_cons_succ]
            refine wpAnyH_ready (rs := [2]) (by kernel_rfl) (by simp) ?_
            refine AllReadyH.cons (o := _) rfl (fun K hK => ?_) AllReadyH.nil
            go_simp
            refine (HK1.out _ (HN.out.on (Below.refl _ _).drew) HB.out.drew).mono ?_
            rintro e6 w6 ⟨rfl, h6, h6S⟩
            go_wp2_with fail
            refine hK.out _ _ h6S (fun hHeld => ?_)
            clear hK K
            try simp only [Act.put, List.setIfInBounds_toArray, List.set_cons_zero, List.set_cons_succ]
            refine wpAnyH_ready (rs := [5]) (by kernel_rfl) (by simp) ?_
            refine AllReadyH.cons (o := _) rfl (fun K hK => ?_) AllReadyH.nil
            go_simp
            refine (HK2.out _ h6 h6S).mono ?_
            rintro e7 w7 ⟨rfl, h7, h7S⟩
            go_wp2_with fail
            refine hK.out _ _ h7S (fun hHeld => ?_)
            clear hK K
            try simp only [Act.put, List.setIfInBounds_toArray, List.set_cons_zero, List.set_cons_succ]
            refine wpAnyH_class (C := fun x => N2 w.heap.size x B D C b s p k ⟨m1, i1, s1⟩ ⟨m1, i1, s1⟩ ∧ x.cell? ⟨D, 4, none⟩ = some (.bool m1) ∧ x.cell? ⟨D, 5, none⟩ = some (.int .i64 i1) ∧ x.cell? ⟨C, 0, none⟩ = some (.int .i64 b) ∧ x.cell? ⟨C, 1, none⟩ = some (.int .i64 s) ∧ x.cell? ⟨C, 2, none⟩ = some (.int .i64 p) ∧ Below w.heap.size w x) 6 _ rfl (by kernel_rfl) (by rfl) (by kernel_rfl) (fun x hx => hx.2.2.2.2.2.2) (HCC.out _ h7 h7S) ?_
            simp only [List.drop_succ_cons, List.drop_zero]
            repeat
              with_reducible refine wpQuiet_step (fun K hK => ?_)
              first
                | (refine quiet_skip (by rfl) ?_; (with_reducible refine hK _ ?_); clear hK K)
                | (refine quiet_want (by rfl) ?_
                   apply Exists.intro
                   refine ⟨fun x hx => ?_, hK _ ?_⟩
                   (obtain ⟨_, hx1, hx2, hx3, hx4, hx5, _⟩ := id hx; go_simp; first | done | rfl | (first | (go_at_call 62; with_reducible exact Calls.mono (HMA.out _ hx.1) (fun y w' hh => ⟨hh.1, hh.2 ▸ hx⟩)) | (go_at_call 63; with_reducible exact Calls.mono (HID.out _ hx.1) (fun y w' hh => ⟨hh.1, hh.2 ▸ hx⟩)) | (go_at_call 64; with_reducible exact Calls.mono (HRK.out _ hx.1) (fun y w' hh => ⟨hh.1, hh.2 ▸ hx⟩)) | (go_at_call 58; with_reducible exact Calls.mono (HPL.out _) (fun y w' hh => ⟨hh.1, HCC.out _ (hx.1.on hh.2) (hx.2.2.2.2.2.2.trans (hh.2.mono hx.1.hs))⟩)) | (go_at_call 65; with_reducible exact Calls.mono (HWA.out _) (fun y w' hh => ⟨hh.1, HCC.out _ (hx.1.on hh.2) (hx.2.2.2.2.2.2.trans (hh.2.mono hx.1.hs))⟩))))
                   clear hK K)
              try simp only [Act.put, List.setIfInBounds_toArray, List.set_cons_zero, List.set_cons_succ]
            with_reducible refine wpQuiet_nil ?_
            intro wq hq
            go_wp2_with fail
            go_meet
            exact ⟨by rw [decide_eq_false (Int.not_lt.2 o1)], hq.1, hq.2.2.2.2.2.2⟩
          case rest =>
          obtain ⟨rfl, h3, h4⟩ := hcut
          have HIf := Lib.hid h3; have HBf := Lib.hid h4
          clear h3 h4
          go_wp2_with fail
          go_roundw
          case rel => exact ⟨i + 1, ⟨m1, i1, s1⟩, by simp, by have := HG2.out; omega, HOK1.out, HIf.out, HBf.out⟩
          case measure => have := HG2.out; simp [intOf]; omega
        · have b1 : ¬ (10 : Int) < (m : Int) := by omega
          obtain ⟨H, hH⟩ : ∃ H, H = qZ i := ⟨_, rfl⟩
          rw [← hH] at hZ hI
          have HHL := Lib.hid (show H.length = m ∧ H.length ≤ 1000 by omega)
          have HHI := Lib.hid hI
          clear hH hZ hI hbig hLC hCm
          obtain ⟨m1, i1, s1, h1⟩ : ∃ m1 i1 s1, (tkN b s p k H d).1 = ⟨m1, i1, s1⟩ := ⟨_, _, _, rfl⟩
          obtain ⟨r1, h2⟩ : ∃ r1, (tkN b s p k H d).2 = r1 := ⟨_, rfl⟩
          have HT1 := Lib.hid h1; have HT2 := Lib.hid h2
          have HOK1 := Lib.hid (show Ok1 b s p k ⟨m1, i1, s1⟩ by rw [← h1]; exact HOK.out.tick (by have := HV.out; have := HVB.out; omega) HP1.out H)
          have o1 : ¬ V < i1 := by have h := HOK1.out.i1; simp only at h; rw [HV.out]; omega
          have HMA := Lib.hid (show ∀ x, N2 w.heap.size x B D C b s p k ⟨m1, i1, s1⟩ ⟨m1, i1, s1⟩ → Calls Try.prog 62 #[.pointer (some ⟨B, 0, none⟩)] x fun y w' => y = .returned (.bool m1) ∧ x = w' from fun x h => rk_Master b s p k ⟨m1, i1, s1⟩ B x h.a)
          have HID := Lib.hid (show ∀ x, N2 w.heap.size x B D C b s p k ⟨m1, i1, s1⟩ ⟨m1, i1, s1⟩ → Calls Try.prog 63 #[.pointer (some ⟨B, 0, none⟩)] x fun y w' => y = .returned (.int .i64 i1) ∧ x = w' from fun x h => rk_Idle b s p k ⟨m1, i1, s1⟩ B x h.a)
          have HRK := Lib.hid (show ∀ x, N2 w.heap.size x B D C b s p k ⟨m1, i1, s1⟩ ⟨m1, i1, s1⟩ → Calls Try.prog 64 #[.pointer (some ⟨B, 0, none⟩)] x fun y w' => y = .returned (.int .i64 k) ∧ x = w' from fun x h => rk_Rank b s p k ⟨m1, i1, s1⟩ B x h.a)
          have HCC := Lib.hid (show ∀ x, N2 w.heap.size x B D C b s p k ⟨m1, i1, s1⟩ ⟨m1, i1, s1⟩ → Below w.heap.size w x → N2 w.heap.size x B D C b s p k ⟨m1, i1, s1⟩ ⟨m1, i1, s1⟩ ∧ x.cell? ⟨D, 4, none⟩ = some (.bool m1) ∧ x.cell? ⟨D, 5, none⟩ = some (.int .i64 i1) ∧ x.cell? ⟨C, 0, none⟩ = some (.int .i64 b) ∧ x.cell? ⟨C, 1, none⟩ = some (.int .i64 s) ∧ x.cell? ⟨C, 2, none⟩ = some (.int .i64 p) ∧ Below w.heap.size w x from fun x h hb => ⟨h, h.r.cellAt (i := 4) (by simp [ndC]), h.r.cellAt (i := 5) (by simp [ndC]), h.c.cellAt (i := 0) (by simp), h.c.cellAt (i := 1) (by simp), h.c.cellAt (i := 2) (by simp), hb⟩)
          have kr : (r1 != r1) = false := by simp
          have km : (m1 != m1) = false := by simp
          have ki : (i1 != i1) = false := by simp
          have kk : (k != k) = false := by simp
          clear h1 h2
          have HK1 := Lib.hid (show ∀ x, N2 w.heap.size x B D C b s p k d d → Below w.heap.size w x → Calls Try.prog 60 #[.pointer (some ⟨B, 0, none⟩), .slice A m cap] x fun y w' => y = .returned (.bool r1) ∧ N2 w.heap.size w' B D C b s p k ⟨m1, i1, s1⟩ d ∧ Below w.heap.size w w' from fun x h hb => by
            have h2 := rk_tick b s p k HRR.out HKK.out d HOK.out B H A cap HHL.out.2 x h.a (HHI.out.onN (Nat.le_refl _) hb)
            rw [HHL.out.1, HT1.out, HT2.out] at h2
            exact h2.mono fun y w' hh => ⟨hh.1, (h.stepA hh.2.1 hh.2.2).1, hb.trans (h.stepA hh.2.1 hh.2.2).2⟩)
          have HK2 := Lib.hid (show ∀ x, N2 w.heap.size x B D C b s p k ⟨m1, i1, s1⟩ d → Below w.heap.size w x → Calls Try.prog 61 #[.pointer (some ⟨D, 0, none⟩), .slice A m cap] x fun y w' => y = .returned (.bool r1) ∧ N2 w.heap.size w' B D C b s p k ⟨m1, i1, s1⟩ ⟨m1, i1, s1⟩ ∧ Below w.heap.size w w' from fun x h hb => by
            have h2 := rrk_tick b s p k HRR.out HKK.out d HOK.out D H A cap HHL.out.2 x h.r (HHI.out.onN (Nat.le_refl _) hb)
            rw [HHL.out.1, HT1.out, HT2.out] at h2
            exact h2.mono fun y w' hh => ⟨hh.1, (h.stepD hh.2.1 hh.2.2).1, hb.trans (h.stepD hh.2.1 hh.2.2).2⟩)
          go_upto_region 13 with fail
          go_cut [97] (fun s97 wx => s97 = .bool false ∧ N2 w.heap.size wx B D C b s p k ⟨m1, i1, s1⟩ ⟨m1, i1, s1⟩ ∧ Below w.heap.size w wx)
          case first =>
            refine wp_region_held_drew (S := fun x => Below w.heap.size w x) (by kernel_rfl) HB.out.drew (fun hHeld => ?_)
            refine wpAnyH_take (i := 0) (oi := _) (v := ?_) rfl (by kernel_rfl) (by kernel_rfl) (by kernel_rfl) (fun _ _ _ h => h) (Or.inl ⟨by rfl, ?_⟩) (by assumption) ?_
            rotate_left
            · intro x hSx
              try dsimp only at hSx
              obtain ⟨_, hSx1⟩ := hSx
              go_simp
              first | done | with_reducible rfl
            try simp only [Act.put, List.setIfInBounds_toArray, List.set_cons_zero, List.set_cons_succ]
            refine wpAnyH_take (i := 1) (oi := _) (v := ?_) rfl (by kernel_rfl) (by kernel_rfl) (by kernel_rfl) (fun _ _ _ h => h) (Or.inl ⟨by rfl, ?_⟩) (by assumption) ?_
            rotate_left
            · intro x hSx
              try dsimp only at hSx
              obtain ⟨_, hSx1⟩ := hSx
              go_simp
              first | done | with_reducible rfl
            try simp only [Act.put, List.setIfInBounds_toArray, List.set_cons_zero, List.set_cons_succ]
            refine wpAnyH_take (i := 3) (oi := _) (v := ?_) rfl (by kernel_rfl) (by kernel_rfl) (by kernel_rfl) (fun _ _ _ h => h) (Or.inl ⟨by rfl, ?_⟩) (by assumption) ?_
            rotate_left
            · intro x hSx
              try dsimp only at hSx
              obtain ⟨_, hSx1⟩ := hSx
              go_simp
              first | done | with_reducible rfl
            try simp only [Act.put, List.setIfInBounds_toArray, List.set_cons_zero, List.set_cons_succ]
            refine wpAnyH_take (i := 4) (oi := _) (v := ?_) rfl (by kernel_rfl) (by kernel_rfl) (by kernel_rfl) (fun _ _ _ h => h) (Or.inl ⟨by rfl, ?_⟩) (by assumption) ?_
            rotate_left
            · intro x hSx
              try dsimp only at hSx
              obtain ⟨_, hSx1⟩ := hSx
              go_simp
              first | done | with_reducible rfl
            try simp only [Act.put, List.setIfInBounds_toArray, List.set_cons_zero, List.set_cons_succ]
            refine wpAnyH_ready (rs := [2]) (by kernel_rfl) (by simp) ?_
            refine AllReadyH.cons (o := _) rfl (fun K hK => ?_) AllReadyH.nil
            go_simp
            refine (HK1.out _ (HN.out.on (Below.refl _ _).drew) HB.out.drew).mono ?_
            rintro e6 w6 ⟨rfl, h6, h6S⟩
            go_wp2_with fail
            refine hK.out _ _ h6S (fun hHeld => ?_)
            clear hK K
            try simp only [Act.put, List.setIfInBounds_toArray, List.set_cons_zero, List.set_cons_succ]
            refine wpAnyH_ready (rs := [5]) (by kernel_rfl) (by simp) ?_
            refine AllReadyH.cons (o := _) rfl (fun K hK => ?_) AllReadyH.nil
            go_simp
            refine (HK2.out _ h6 h6S).mono ?_
            rintro e7 w7 ⟨rfl, h7, h7S⟩
            go_wp2_with fail
            refine hK.out _ _ h7S (fun hHeld => ?_)
            clear hK K
            try simp only [Act.put, List.setIfInBounds_toArray, List.set_cons_zero, List.set_cons_succ]
            refine wpAnyH_class (C := fun x => N2 w.heap.size x B D C b s p k ⟨m1, i1, s1⟩ ⟨m1, i1, s1⟩ ∧ x.cell? ⟨D, 4, none⟩ = some (.bool m1) ∧ x.cell? ⟨D, 5, none⟩ = some (.int .i64 i1) ∧ x.cell? ⟨C, 0, none⟩ = some (.int .i64 b) ∧ x.cell? ⟨C, 1, none⟩ = some (.int .i64 s) ∧ x.cell? ⟨C, 2, none⟩ = some (.int .i64 p) ∧ Below w.heap.size w x) 6 _ rfl (by kernel_rfl) (by rfl) (by kernel_rfl) (fun x hx => hx.2.2.2.2.2.2) (HCC.out _ h7 h7S) ?_
            simp only [List.drop_succ_cons, List.drop_zero]
            repeat
              with_reducible refine wpQuiet_step (fun K hK => ?_)
              first
                | (refine quiet_skip (by rfl) ?_; (with_reducible refine hK _ ?_); clear hK K)
                | (refine quiet_want (by rfl) ?_
                   apply Exists.intro
                   refine ⟨fun x hx => ?_, hK _ ?_⟩
                   (obtain ⟨_, hx1, hx2, hx3, hx4, hx5, _⟩ := id hx; go_simp; first | done | rfl | (first | (go_at_call 62; with_reducible exact Calls.mono (HMA.out _ hx.1) (fun y w' hh => ⟨hh.1, hh.2 ▸ hx⟩)) | (go_at_call 63; with_reducible exact Calls.mono (HID.out _ hx.1) (fun y w' hh => ⟨hh.1, hh.2 ▸ hx⟩)) | (go_at_call 64; with_reducible exact Calls.mono (HRK.out _ hx.1) (fun y w' hh => ⟨hh.1, hh.2 ▸ hx⟩)) | (go_at_call 58; with_reducible exact Calls.mono (HPL.out _) (fun y w' hh => ⟨hh.1, HCC.out _ (hx.1.on hh.2) (hx.2.2.2.2.2.2.trans (hh.2.mono hx.1.hs))⟩)) | (go_at_call 65; with_reducible exact Calls.mono (HWA.out _) (fun y w' hh => ⟨hh.1, HCC.out _ (hx.1.on hh.2) (hx.2.2.2.2.2.2.trans (hh.2.mono hx.1.hs))⟩))))
                   clear hK K)
              try simp only [Act.put, List.setIfInBounds_toArray, List.set_cons_zero, List.set_cons_succ]
            with_reducible refine wpQuiet_nil ?_
            intro wq hq
            go_wp2_with fail
            go_meet
            exact ⟨by rw [decide_eq_false (Int.not_lt.2 o1)], hq.1, hq.2.2.2.2.2.2⟩
          case rest =>
          obtain ⟨rfl, h3, h4⟩ := hcut
          have HIf := Lib.hid h3; have HBf := Lib.hid h4
          clear h3 h4
          go_wp2_with fail
          go_roundw
          case rel => exact ⟨i + 1, ⟨m1, i1, s1⟩, by simp, by have := HG2.out; omega, HOK1.out, HIf.out, HBf.out⟩
          case measure => have := HG2.out; simp [intOf]; omega
      · have hT : ((i : Int) < (len2 : Int) ∧ ¬ (i : Int) < 200) ∨ ¬ (i : Int) < (len2 : Int) := by omega
        clear hgo
        rcases hT with ⟨i1_, i2⟩ | i1_
        all_goals
          go_wp2_with fail
          refine (HLV.out _).mono ?_
          rintro y w5 ⟨rfl, hb⟩
          have HBz := Lib.hid (below_transG HB.out hb)
          clear hb
          go_wp2_with fail
          go_ret
          exact ⟨rfl, HBz.out⟩
  · have hno : rightR b s p = true → ¬ (0 ≤ k ∧ k ≤ 31) := fun h1 h2 => hok ⟨h1, h2⟩
    have HN1 := Lib.hid (fun u => rk_new_no b s p k hno u); have HN2 := Lib.hid (fun u => rrk_new_no b s p k hno u)
    clear hok hno
    have c0 : W0.cell? ⟨C, 0, none⟩ = some (.int .i64 b) := HA0.out.cellAt (i := 0) (by simp)
    have c1 : W0.cell? ⟨C, 1, none⟩ = some (.int .i64 s) := HA0.out.cellAt (i := 1) (by simp)
    have c2 : W0.cell? ⟨C, 2, none⟩ = some (.int .i64 p) := HA0.out.cellAt (i := 2) (by simp)
    go_enter Try.func8, Try.ntmps8
    go_upto_region 1 with fail
    rw [← hW0, ← hC]
    clear hW0 hC
    go_wp2_with fail
    refine (HN1.out _).mono ?_
    rintro y w1 ⟨rfl, hb⟩
    have HB1 := Lib.hid (below_transG HB0.out hb); have HA1 := Lib.hid (HA0.out.keep hb HA0.out.lt)
    clear hb c0 c1 c2
    have c0 : w1.cell? ⟨C, 0, none⟩ = some (.int .i64 b) := HA1.out.cellAt (i := 0) (by simp)
    have c1 : w1.cell? ⟨C, 1, none⟩ = some (.int .i64 s) := HA1.out.cellAt (i := 1) (by simp)
    have c2 : w1.cell? ⟨C, 2, none⟩ = some (.int .i64 p) := HA1.out.cellAt (i := 2) (by simp)
    go_wp2_with fail
    refine (HPL.out _).mono ?_
    rintro y w2 ⟨rfl, hb⟩
    have HB2 := Lib.hid (below_transG HB1.out hb)
    clear hb c0 c1 c2
    go_wp2_with fail
    refine (HN2.out _).mono ?_
    rintro y w3 ⟨rfl, hb⟩
    have HB3 := Lib.hid (below_transG HB2.out hb)
    clear hb
    go_wp2_with fail
    refine (HLV.out _).mono ?_
    rintro y w5 ⟨rfl, hb⟩
    have HBz := Lib.hid (below_transG HB3.out hb)
    clear hb
    go_wp2_with fail
    go_ret
    exact ⟨rfl, HBz.out⟩
set_option maxRecDepth 100000 in
theorem lifted (os : Os) (started : os.Started) (H : Type) (enc : TypeId × Value → H) :
    ReturnsInHanded {} Try.checked os 8 .any (Rows.rankNodeSpec.pre6 enc Try.prog Try.f8 Rows.rankNodeRow.domain false) (Rows.rankNodeSpec.post enc Try.prog Try.f8 false true false false) := by
  refine returnsInHanded_of_change (C := Try.checked) own started (by kernel_rfl) Try.func8
    (ChangeSpec.witness6 (enc := enc) (C := Try.checked) false ⟨#[], #[.agg #[.int .i64 0, .int .i64 0, .int .i64 0], .int .i64 0, .slice none 0 0], []⟩ 8 (by kernel_rfl) (by kernel_rfl) (by kernel_rfl) (by kernel_rfl)) ?_
  intro W base args ds gs before hval0 hW _ _
  have hval : ∀ (j : Nat) t v, Try.f8.params[j]? = some t → args[j]? = some v → Value.okWide Try.prog W .any base t v := hval0
  have hW' := hW
  obtain ⟨p, q, hA0, hV, rfl, hfz, hnd⟩ := hW
  have hA : DataW.TrodAll enc Try.prog W 0 (fun _ => true) true Try.f8.params.toList args.toList ds p := hA0
  rw [Try.params8] at hA hval
  obtain ⟨v0, vs0, d0, ds0, p0, q0, hargs, rfl, rfl, h0, r0⟩ := trodAll_cons hA
  obtain ⟨v1, vs1, d1, ds1, p1, q1, rfl, rfl, rfl, h1, r1⟩ := trodAll_cons r0
  obtain ⟨v2, vs2, d2, ds2, p2, q2, rfl, rfl, rfl, h2, r2⟩ := trodAll_cons r1
  obtain ⟨rfl, rfl, rfl⟩ := trodAll_nil r2
  obtain rfl : args = #[v0, v1, v2] := by cases args; simp_all
  obtain ⟨rfl, rfl⟩ := trodVars_none hV
  have k0 := h0
  have lt0 : ∀ x ∈ p0, x.block < W.heap.size := by obtain ⟨m, hm⟩ := k0; exact DataW.trod_lt m _ _ _ hm
  obtain ⟨ca0, cb0, cc0, ya0, yb0, yc0, n0, rfl, rfl, rfl, ta0, tb0, tc0⟩ := Joins.open_agg3 Try.underlying115 (by kernel_rfl) (by kernel_rfl) (hval 0 115 v0 rfl rfl) h0
  obtain ⟨xa0, hxa0, rfl, wa0⟩ := DataW.trod_int Try.underlying3 ta0
  obtain ⟨xb0, hxb0, rfl, wb0⟩ := DataW.trod_int Try.underlying3 tb0
  obtain ⟨xc0, hxc0, rfl, wc0⟩ := DataW.trod_int Try.underlying3 tc0
  obtain rfl : ca0 = .int .i64 xa0 := by simpa using hxa0
  obtain rfl : cb0 = .int .i64 xb0 := by simpa using hxb0
  obtain rfl : cc0 = .int .i64 xc0 := by simpa using hxc0
  obtain ⟨a1, rfl, rfl, rfl, w1⟩ := open_int Try.underlying3 (hval 1 3 v1 rfl rfl) h1
  obtain ⟨a2, len2, cap2, rfl⟩ := okWide_slice Try.underlying116 (hval 2 116 v2 rfl rfl)
  have k2 := h2
  have lt2 : ∀ x ∈ p2, x.block < W.heap.size := by obtain ⟨m, hm⟩ := k2; exact DataW.trod_lt m _ _ _ hm
  obtain ⟨RA2, RL2, RC2, RZ2, rr2⟩ : ∃ A L C Z, RowsI W a2 len2 A L C Z := by
    obtain ⟨fuel, hf⟩ := h2
    exact open_rowsI (by simpa [Value.cells] using hf)
  clear hA0 hval0
  refine (walk xa0 xb0 xc0 a1 a2 len2 cap2 RA2 RL2 RC2 RZ2 W wa0 wb0 wc0 w1 rr2).mono fun e W' ⟨he, bel⟩ => ?_
  subst he
  exact ⟨_, rfl, _, _, _, [], _, [], hW', trodAll_mk1 (shut_bool Try.underlying4 _), (trodAll_cons_mk (Below.trod laidOut (by kernel_rfl) (of_decide_eq_true (by kernel_rfl)) k0 bel lt0) (trodAll_cons_mk (shut_int Try.underlying3 w1) (trodAll_cons_mk (Below.trod laidOut (by kernel_rfl) (of_decide_eq_true (by kernel_rfl)) k2 bel lt2) trodAll_mk0))), rfl, bel.frame _, fun h => by cases h⟩
theorem over : Rows.rankNodeRow.holds Try.pinned (OpenSpec.ofChange Rows.rankNodeSpec) :=
  OpenClaim.holds_of_wide 8 Try.f8 rfl rfl rfl rfl rfl rfl rfl ⟨rfl, rfl, rfl, rfl, rfl⟩ rfl rfl rfl rfl rfl (by kernel_rfl) Try.func8 (by kernel_rfl)
    (of_decide_eq_true (by kernel_rfl)) (by unfold Func.isWrapper; first | (rw [if_pos (by decide +kernel)]; kernel_rfl) | (rw [if_neg (by decide +kernel)]; exact ⟨rfl, rfl⟩))
    (fun os started H enc _ => lifted os started H enc)
/-- The statement. -/
theorem proved : Rows.RankNodeSaid := over
end Go.Proofs.Ytdfalipgfnjglaa.rankNode
