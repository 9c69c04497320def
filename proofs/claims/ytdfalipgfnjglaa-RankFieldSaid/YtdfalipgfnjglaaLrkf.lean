/- RankField (P21.3): whatever crashes, is switched on, and lost, each answer, and who is master, as the document says. No conditions. -/
import Derived.Test.YtdfalipgfnjglaaRows
import Derived.Test.YtdfalipgfnjglaaKnw
import Derived.Test.YtdfalipgfnjglaaKnl
import Derived.Test.YtdfalipgfnjglaaOpr
import Derived.Deep.RegionHeld3
import Derived.Deep.DeepCutAuto
import Derived.Lib.SmallJoins
import Derived.WalkKit
import Derived.ProofKit
import Derived.OpenShut
import Derived.ShutString
import Derived.ChangeOld
import Derived.Below
namespace Go.Proofs.Ytdfalipgfnjglaa.rankField
open Go.ChangeShapes Go.WideShapes Go.ChangeAt Go.RowKit
theorem own : ownKnob Try.prog.godebug = none := by kernel_rfl
theorem laidOut : laidOutB Try.prog = true := by kernel_rfl
set_option maxRecDepth 100000 in
set_option maxHeartbeats 16000000 in
theorem walk (b s p : Int) (mn : Int) (a2 : Option Addr) (len2 cap2 : Nat) (L : List A21) (w : World) (_ : (Lit.int .i64 b).wf = true) (_ : (Lit.int .i64 s).wf = true) (_ : (Lit.int .i64 p).wf = true) (_ : (Lit.int .i64 mn).wf = true) (w2_ : L.length = len2 ∧ (∀ s ∈ L, s.wf) ∧ Rd w 3 (.slice a2 len2 cap2) (L.flatMap A21.C)) :
    Calls Try.prog 9 #[.agg #[.int .i64 b, .int .i64 s, .int .i64 p], .int .i64 mn, .slice a2 len2 cap2] w fun y w' => y = .returned (.bool true) ∧ Below w.heap.size w w' := by
  obtain ⟨rfl, _, hL⟩ := w2_
  have HLR := Lib.hid hL
  clear hL
  have HPL := Lib.hid (fun u => lw_plain b s p u)
  have HLV := Lib.hid (fun u => live21 u)
  obtain ⟨W0, hW0⟩ : ∃ W, W = w.alloc (.cells #[.int .i64 b, .int .i64 s, .int .i64 p] 115) := ⟨_, rfl⟩
  have HA0 := Lib.hid (show Blk W0 w.heap.size 115 [.int .i64 b, .int .i64 s, .int .i64 p] by rw [hW0]; exact Blk.new w 115 [.int .i64 b, .int .i64 s, .int .i64 p])
  have HB0 := Lib.hid (show Below w.heap.size w W0 by rw [hW0]; exact (Below.refl _ w).alloc (Nat.le_refl _) _)
  obtain ⟨C, hC⟩ : ∃ C, C = w.heap.size := ⟨_, rfl⟩
  rw [← hC] at HA0
  by_cases hok : rightR b s p = true ∧ 1 ≤ mn ∧ mn ≤ 32
  · obtain ⟨hr, hn1, hn2⟩ := hok
    obtain ⟨n, rfl⟩ := Int.eq_ofNat_of_zero_le (show 0 ≤ mn by omega)
    have HN1 := Lib.hid (fun u => fd_open_yes b s p n hr (by omega) u); have HN2 := Lib.hid (fun u => rf_open_yes b s p n hr (by omega) u)
    clear hr hn1 hn2
    have c0 : W0.cell? ⟨C, 0, none⟩ = some (.int .i64 b) := HA0.out.cellAt (i := 0) (by simp)
    have c1 : W0.cell? ⟨C, 1, none⟩ = some (.int .i64 s) := HA0.out.cellAt (i := 1) (by simp)
    have c2 : W0.cell? ⟨C, 2, none⟩ = some (.int .i64 p) := HA0.out.cellAt (i := 2) (by simp)
    go_enter Try.func9, Try.ntmps9
    go_upto_region 1 with fail
    rw [← hW0, ← hC]
    clear hW0 hC
    go_wp2_with fail
    refine (HN1.out _).mono ?_
    rintro y w1 ⟨A, NB, pk, rfl, hFA, hFS, hb⟩
    have HB1 := Lib.hid (below_transG HB0.out hb); have HA1 := Lib.hid (HA0.out.keep hb HA0.out.lt); have HFA := Lib.hid hFA; have HFS := Lib.hid (fun j hj => Nat.le_trans HB0.out.size (hFS j hj))
    clear hb hFA hFS c0 c1 c2
    have c0 : w1.cell? ⟨C, 0, none⟩ = some (.int .i64 b) := HA1.out.cellAt (i := 0) (by simp)
    have c1 : w1.cell? ⟨C, 1, none⟩ = some (.int .i64 s) := HA1.out.cellAt (i := 1) (by simp)
    have c2 : w1.cell? ⟨C, 2, none⟩ = some (.int .i64 p) := HA1.out.cellAt (i := 2) (by simp)
    go_wp2_with fail
    refine (HPL.out _).mono ?_
    rintro y w2 ⟨rfl, hb⟩
    have HB2 := Lib.hid (below_transG HB1.out hb); have HFA2 := Lib.hid (HFA.out.on hb)
    clear hb c0 c1 c2
    go_wp2_with fail
    refine (HN2.out _).mono ?_
    rintro y w3 ⟨D, la, lc, qk, rfl, hRA, hRS, hb⟩
    have HB3 := Lib.hid (below_transG HB2.out hb)
    have HF3 := Lib.hid (show F2 w.heap.size w3 A NB D la lc b s p n ⟨pk, none, 0, qk, none, 0⟩ (newS n) [] (newS n) [] (fun _ => False) from ⟨HFA2.out.on hb, hRA, (fun j hj hR => by
        have h1 := HFA2.out.lts hj
        rcases hR with h2 | ⟨off, e⟩
        · have := hRS j h2; omega
        · cases e), (fun j hj => ⟨(by
        rcases hj with h2 | ⟨off, e⟩
        · exact HFS.out j h2
        · cases e), fun h => h⟩), (fun j hj => ⟨(by
        rcases hj with h2 | ⟨off, e⟩
        · exact Nat.le_trans HB2.out.size (hRS j h2)
        · cases e), fun h => h⟩), (fun j hj => by cases hj), HB3.out.size⟩)
    clear hb hRA hRS HFA HFA2 HFS HA0 HA1 HB0 HB1 HB2 HN1 HN2 HPL
    go_wp2_with fail
    go_loopw [11] (fun s11 wr => ∃ (i : Nat) (S : Mv) (st : Fs) (told : List Int), s11 = .int .i64 (i : Int) ∧ i ≤ 60 ∧ F2 w.heap.size wr A NB D la lc b s p n S st told st told (fun _ => False) ∧ Below w.heap.size w wr) (fun s11 _ => 60 - (intOf s11).toNat)
    case atStart => exact ⟨0, _, _, _, rfl, by omega, HF3.out, HB3.out⟩
    case round =>
      clear HF3 HB3
      obtain ⟨i, S, st, told, rfl, hi, hf, hb⟩ := hrel
      have HF := Lib.hid hf; have HB := Lib.hid hb
      clear hf hb
      by_cases hgo : i < L.length ∧ i < 60
      · have i1_ : (i : Int) < (L.length : Int) := by omega
        have i2 : (i : Int) < 60 := by omega
        have i3 : (0 : Int) ≤ (i : Int) := by omega
        have HG2 := Lib.hid (show i < 60 from hgo.2)
        obtain ⟨g, off, rfl, hg, hcell⟩ := rd_at A21.C 3 (fun _ => rfl) HLR.out hgo.1 (by decide)
        obtain ⟨x, hx⟩ : ∃ x, x = L[i]'hgo.1 := ⟨_, rfl⟩
        rw [← hx] at hcell
        clear hx
        obtain ⟨kd, k, m⟩ := x
        have hcw : ∀ j v, (A21.C ⟨kd, k, m⟩)[j]? = some v → wr.cell? ⟨g, off + i * 3 + j, none⟩ = some v := fun j v h => (HB.out.cell (p := ⟨g, off + i * 3 + j, none⟩) hg).trans (hcell j v h)
        have e0 : wr.cell? ⟨g, off + i * 3, none⟩ = some (.int .i64 kd) := hcw 0 _ rfl
        have e1 : wr.cell? ⟨g, off + i * 3 + 1, none⟩ = some (.int .i64 k) := hcw 1 _ rfl
        have e2 : wr.cell? ⟨g, off + i * 3 + 2, none⟩ = some (.int .i64 m) := hcw 2 _ rfl
        clear hcw hcell hg hgo
        go_upto_region 11 with fail
        obtain ⟨w4, hw4⟩ : ∃ W, W = wr.alloc (.cells #[.int .i64 kd, .int .i64 k, .int .i64 m] 139) := ⟨_, rfl⟩
        rw [← hw4]
        obtain ⟨E, hE⟩ : ∃ E, E = wr.heap.size := ⟨_, rfl⟩
        have HE4 := Lib.hid (show Blk w4 E 139 [.int .i64 kd, .int .i64 k, .int .i64 m] by rw [hw4, hE]; exact Blk.new wr 139 [.int .i64 kd, .int .i64 k, .int .i64 m])
        have HB4 := Lib.hid (show Below w.heap.size w w4 by rw [hw4]; exact HB.out.alloc HB.out.size _)
        have HF4 := Lib.hid (show F2 w.heap.size w4 A NB D la lc b s p n S st told st told (fun j => j = E) from HF.out.with (by rw [hw4]; exact (Below.refl _ wr).alloc (Nat.le_refl _) _) (fun j hj => by rw [hw4, World.size_alloc]; omega))
        rw [← hE]
        clear hw4 hE e0 e1 e2 HF HB
        have a0 : w4.cell? ⟨E, 0, none⟩ = some (.int .i64 kd) := HE4.out.cellAt (i := 0) (by simp)
        have a1 : w4.cell? ⟨E, 1, none⟩ = some (.int .i64 k) := HE4.out.cellAt (i := 1) (by simp)
        have a2 : w4.cell? ⟨E, 2, none⟩ = some (.int .i64 m) := HE4.out.cellAt (i := 2) (by simp)
        by_cases hk0 : kd = 0
        · subst hk0
          obtain ⟨e0, he0⟩ : ∃ e, e = crE n st k := ⟨_, rfl⟩
          obtain ⟨st1, hst1⟩ : ∃ e, e = crS n st k := ⟨_, rfl⟩
          have HK1 := Lib.hid (show ∀ x, F2 w.heap.size x A NB D la lc b s p n S st told st told (fun j => j = E) → (Below w.heap.size w x ∧ x.cell? ⟨E, 1, none⟩ = some (.int .i64 k)) → Blk x E 139 [.int .i64 0, .int .i64 k, .int .i64 m] → Calls Try.prog 68 #[.pointer (some ⟨A, 0, none⟩), .int .i64 k] x fun y w' => y = .returned (.int .i64 e0) ∧ ∃ S', F2 w.heap.size w' A NB D la lc b s p n S' st1 told st told (fun j => j = E) ∧ Blk w' E 139 [.int .i64 0, .int .i64 k, .int .i64 m] ∧ (Below w.heap.size w w' ∧ w'.cell? ⟨E, 1, none⟩ = some (.int .i64 k)) from fun x h hb he => by
            rw [he0, hst1]
            exact (f2_crashA h k).mono fun y w' ⟨h1, ⟨S', h2⟩, h3, h4⟩ => ⟨h1, S', h2, he.on (h3 E rfl), hb.1.trans h4, (he.on (h3 E rfl)).cellAt (i := 1) (by simp)⟩)
          have HK2 := Lib.hid (show ∀ x S', F2 w.heap.size x A NB D la lc b s p n S' st1 told st told (fun j => j = E) → (Below w.heap.size w x ∧ x.cell? ⟨E, 1, none⟩ = some (.int .i64 k)) → Blk x E 139 [.int .i64 0, .int .i64 k, .int .i64 m] → Calls Try.prog 69 #[.pointer (some ⟨D, 0, none⟩), .int .i64 k] x fun y w' => y = .returned (.int .i64 e0) ∧ ∃ S', F2 w.heap.size w' A NB D la lc b s p n S' st1 told st1 told (fun j => j = E) ∧ Blk w' E 139 [.int .i64 0, .int .i64 k, .int .i64 m] ∧ (Below w.heap.size w w' ∧ w'.cell? ⟨E, 1, none⟩ = some (.int .i64 k)) from fun x S' h hb he => by
            have h9 := f2_crashD h k
            rw [← he0, ← hst1] at h9
            exact h9.mono fun y w' ⟨h1, ⟨S', h2⟩, h3, h4⟩ => ⟨h1, S', h2, he.on (h3 E rfl), hb.1.trans h4, (he.on (h3 E rfl)).cellAt (i := 1) (by simp)⟩)
          have ke : (e0 == e0) = true := by simp
          have HSX := Lib.hid (show Below w.heap.size w w4 ∧ w4.cell? ⟨E, 1, none⟩ = some (.int .i64 k) from ⟨HB4.out, HE4.out.cellAt (i := 1) (by simp)⟩)
          clear he0 hst1
          go_upto_region 18 with fail
          go_cut [83] (fun sc wx => sc = .bool false ∧ ∃ S', F2 w.heap.size wx A NB D la lc b s p n S' st1 told st1 told (fun j => j = E) ∧ Blk wx E 139 [.int .i64 0, .int .i64 k, .int .i64 m] ∧ Below w.heap.size w wx)
          case first =>
            refine wp_region_held_drew (S := fun x => Below w.heap.size w x ∧ x.cell? ⟨E, 1, none⟩ = some (.int .i64 k)) (by kernel_rfl) ⟨HSX.out.1.drew, HSX.out.2⟩ (fun hHeld => ?_)
            refine wpAnyH_take (i := 0) (oi := _) (v := ?_) rfl (by kernel_rfl) (by kernel_rfl) (by kernel_rfl) (fun _ _ _ h => h) (Or.inl ⟨by rfl, ?_⟩) (by assumption) ?_
            rotate_left
            · intro x hSx
              try dsimp only at hSx
              obtain ⟨_, hSx1⟩ := hSx
              go_simp
              first | done | with_reducible rfl
            try simp only [Act.put, List.setIfInBounds_toArray, List.set_cons_zero, List.set_cons_succ]
            refine wpAnyH_take (i := 1) (oi := _) (v := ?_) rfl (by kernel_rfl) (by kernel_rfl) (by kernel_rfl) (fun _ _ _ h => h) (Or.inl ⟨by rfl, ?_⟩) (by assumption) ?_
            rotate_left
            · intro x hSx
              try dsimp only at hSx
              obtain ⟨_, hSx1⟩ := hSx
              go_simp
              first | done | with_reducible rfl
            try simp only [Act.put, List.setIfInBounds_toArray, List.set_cons_zero, List.set_cons_succ]
            refine wpAnyH_take (i := 2) (oi := _) (v := ?_) rfl (by kernel_rfl) (by kernel_rfl) (by kernel_rfl) (fun _ _ _ h => h) (Or.inl ⟨by rfl, ?_⟩) (by assumption) ?_
            rotate_left
            · intro x hSx
              try dsimp only at hSx
              obtain ⟨_, hSx1⟩ := hSx
              go_simp
              first | done | with_reducible rfl
            try simp only [Act.put, List.setIfInBounds_toArray, List.set_cons_zero, List.set_cons_succ]
            refine wpAnyH_take (i := 4) (oi := _) (v := ?_) rfl (by kernel_rfl) (by kernel_rfl) (by kernel_rfl) (fun _ _ _ h => h) (Or.inl ⟨by rfl, ?_⟩) (by assumption) ?_
            rotate_left
            · intro x hSx
              try dsimp only at hSx
              obtain ⟨_, hSx1⟩ := hSx
              go_simp
              first | done | with_reducible rfl
            try simp only [Act.put, List.setIfInBounds_toArray, List.set_cons_zero, List.set_cons_succ]
            refine wpAnyH_take (i := 5) (oi := _) (v := ?_) rfl (by kernel_rfl) (by kernel_rfl) (by kernel_rfl) (fun _ _ _ h => h) (Or.inl ⟨by rfl, ?_⟩) (by assumption) ?_
            rotate_left
            · intro x hSx
              try dsimp only at hSx
              obtain ⟨_, hSx1⟩ := hSx
              go_simp
              first | done | with_reducible rfl
            try simp only [Act.put, List.setIfInBounds_toArray, List.set_cons_zero, List.set_cons_succ]
            refine wpAnyH_take (i := 6) (oi := _) (v := ?_) rfl (by kernel_rfl) (by kernel_rfl) (by kernel_rfl) (fun _ _ _ h => h) (Or.inl ⟨by rfl, ?_⟩) (by assumption) ?_
            rotate_left
            · intro x hSx
              try dsimp only at hSx
              obtain ⟨_, hSx1⟩ := hSx
              go_simp
              first | done | with_reducible rfl
            try simp only [Act.put, List.setIfInBounds_toArray, List.set_cons_zero, List.set_cons_succ]
            refine wpAnyH_ready (rs := [3]) (by kernel_rfl) (by simp) ?_
            refine AllReadyH.cons (o := _) rfl (fun K hK => ?_) AllReadyH.nil
            go_simp
            refine (HK1.out _ (HF4.out.on (Below.refl _ _).drew) ⟨HSX.out.1.drew, HSX.out.2⟩ (HE4.out.keep (Below.refl _ _).drew HE4.out.lt)).mono ?_
            rintro e6 w6 ⟨rfl, S1, hf6, he6, hs6⟩
            go_wp2_with fail
            refine hK.out _ _ hs6 (fun hHeld => ?_)
            clear hK K
            try simp only [Act.put, List.setIfInBounds_toArray, List.set_cons_zero, List.set_cons_succ]
            refine wpAnyH_ready (rs := [7]) (by kernel_rfl) (by simp) ?_
            refine AllReadyH.cons (o := _) rfl (fun K hK => ?_) AllReadyH.nil
            go_simp
            refine (HK2.out _ S1 hf6 hs6 he6).mono ?_
            rintro e7 w7 ⟨rfl, S2, hf7, he7, hs7⟩
            go_wp2_with fail
            refine hK.out _ _ hs7 (fun hHeld => ?_)
            clear hK K
            try simp only [Act.put, List.setIfInBounds_toArray, List.set_cons_zero, List.set_cons_succ]
            refine wpAnyH_class (C := fun x => x = w7) 8 _ rfl (by kernel_rfl) (by rfl) (by kernel_rfl) (fun x hx => hx ▸ hs7) rfl ?_
            simp only [List.drop_succ_cons, List.drop_zero]
            repeat
              with_reducible refine wpQuiet_step (fun K hK => ?_)
              first
                | (refine quiet_skip (by rfl) ?_; (with_reducible refine hK _ ?_); clear hK K)
                | (refine quiet_want (by rfl) ?_
                   apply Exists.intro
                   refine ⟨fun x hx => ?_, hK _ ?_⟩
                   (obtain rfl := id hx; go_simp; first | done | rfl | (fail))
                   clear hK K)
              try simp only [Act.put, List.setIfInBounds_toArray, List.set_cons_zero, List.set_cons_succ]
            with_reducible refine wpQuiet_nil ?_
            intro wq hq
            subst hq
            go_wp2_with fail
            go_meet
            exact ⟨rfl, S2, hf7, he7, hs7.1⟩
          case rest =>
          obtain ⟨rfl, S2, h3, h4, h5⟩ := hcut
          have HF5 := Lib.hid h3; have HE5 := Lib.hid h4; have HB5 := Lib.hid h5
          clear h3 h4 h5 HK1 HK2 HSX HF4 HE4 HB4 a0 a1 a2 ke
          obtain ⟨w5, hw5⟩ : ∃ w5, w5 = wc := ⟨_, rfl⟩
          rw [← hw5] at HF5 HE5 HB5 ⊢
          clear hw5
          have HM1 := Lib.hid (show ∀ x, Below w5.heap.size w5 x → Calls Try.prog 76 #[.pointer (some ⟨A, 0, none⟩)] x fun y w' => ∃ ya yc, y = .returned (.slice ya (pickI n (mastB st1)).length yc) ∧ Ints w' ya (pickI n (mastB st1)) ∧ Below x.heap.size x w' from fun x hx => (fd_masters (HF5.out.on hx).a).mono fun y w' ⟨ya, yc, h1, h2, _, h3⟩ => ⟨ya, yc, h1, h2, h3⟩)
          have HM2 := Lib.hid (show ∀ x, Below w5.heap.size w5 x → Calls Try.prog 77 #[.pointer (some ⟨D, 0, none⟩)] x fun y w' => ∃ ya yc, y = .returned (.slice ya (pickI n (mastB st1)).length yc) ∧ Ints w' ya (pickI n (mastB st1)) ∧ Below x.heap.size x w' from fun x hx => (rf_masters (HF5.out.on hx).r.c).mono fun y w' ⟨ya, yc, h1, h2, _, h3⟩ => ⟨ya, yc, h1, h2, h3⟩)
          have HSI := Lib.hid (fun a a' c c' u h1 h2 => same_ints (pickI n (mastB st1)) (by have := pick_len n (mastB st1); have := HF5.out.a.c.n32; omega) a a' c c' u h1 h2)
          have HSW := Lib.hid (show ∀ x, Below w5.heap.size w5 x → Below w.heap.size w x ∧ x.cell? ⟨E, 1, none⟩ = some (.int .i64 k) from fun x hx => ⟨HB5.out.trans (hx.mono HB5.out.size), (HE5.out.keep hx HE5.out.lt).cellAt (i := 1) (by simp)⟩)
          have HAL := Lib.hid (show ∀ x, Below w5.heap.size w5 x → Calls Try.prog 78 #[.pointer (some ⟨A, 0, none⟩), .int .i64 k] x fun y w' => y = .returned (.bool (aliveB n st1 k)) ∧ x = w' from fun x hx => fd_alive (HF5.out.on hx).a.c k)
          have HDC := Lib.hid (show ∀ x, Below w5.heap.size w5 x → x.cell? ⟨D, 3, none⟩ = some (.slice la n lc) from fun x hx => (HF5.out.on hx).r.c.cell0.2.2.2.1)
          have HDR := Lib.hid (show ∀ x, Below w5.heap.size w5 x → ∀ K : Nat, K < n → ∃ g off, la = some ⟨g, off, none⟩ ∧ x.cell? ⟨g, off + K, none⟩ = some (ptrV S2.qk st1 K) from fun x hx K hK => by
            obtain ⟨g, off, h1, _, h2, _⟩ := (HF5.out.on hx).r.c.cellR hK
            exact ⟨g, off, h1, h2⟩)
          obtain ⟨ML, hML⟩ : ∃ ML, ML = pickI n (mastB st1) := ⟨_, rfl⟩
          rw [← hML] at HM1 HM2 HSI
          clear hML
          go_upto_region 23 with fail
          go_cut [127] (fun s127 wx => s127 = .bool false ∧ Below w5.heap.size w5 wx)
          case first =>
            refine wp_region_held_drew (S := fun x => Below w.heap.size w x ∧ x.cell? ⟨E, 1, none⟩ = some (.int .i64 k)) (by kernel_rfl) (HSW.out _ (Below.refl _ _).drew) (fun hHeld => ?_)
            refine wpAnyH_take (i := 0) (oi := _) (v := ?_) rfl (by kernel_rfl) (by kernel_rfl) (by kernel_rfl) (fun _ _ _ h => h) (Or.inl ⟨by rfl, ?_⟩) (by assumption) ?_
            rotate_left
            · intro x hSx
              try dsimp only at hSx
              obtain ⟨_, hSx1⟩ := hSx
              go_simp
              first | done | with_reducible rfl
            try simp only [Act.put, List.setIfInBounds_toArray, List.set_cons_zero, List.set_cons_succ]
            refine wpAnyH_take (i := 2) (oi := _) (v := ?_) rfl (by kernel_rfl) (by kernel_rfl) (by kernel_rfl) (fun _ _ _ h => h) (Or.inl ⟨by rfl, ?_⟩) (by assumption) ?_
            rotate_left
            · intro x hSx
              try dsimp only at hSx
              obtain ⟨_, hSx1⟩ := hSx
              go_simp
              first | done | with_reducible rfl
            try simp only [Act.put, List.setIfInBounds_toArray, List.set_cons_zero, List.set_cons_succ]
            refine wpAnyH_ready (rs := [1]) (by kernel_rfl) (by simp) ?_
            refine AllReadyH.cons (o := _) rfl (fun K hK => ?_) AllReadyH.nil
            go_simp
            refine (HM1.out _ (Below.refl _ _).drew).mono ?_
            rintro e6 w6 ⟨ya, yc, rfl, hy6, hb6⟩
            have hz6 := below_transG (w := w5) (Below.refl _ _).drew hb6
            go_wp2_with fail
            refine hK.out _ _ (HSW.out _ hz6) (fun hHeld => ?_)
            clear hK K
            try simp only [Act.put, List.setIfInBounds_toArray, List.set_cons_zero, List.set_cons_succ]
            refine wpAnyH_ready (rs := [3]) (by kernel_rfl) (by simp) ?_
            refine AllReadyH.cons (o := _) rfl (fun K hK => ?_) AllReadyH.nil
            go_simp
            refine (HM2.out _ hz6).mono ?_
            rintro e7 w7 ⟨za, zc, rfl, hy7, hb7⟩
            have hz7 := below_transG hz6 hb7
            have hy67 := hy6.on hb7
            go_wp2_with fail
            refine hK.out _ _ (HSW.out _ hz7) (fun hHeld => ?_)
            clear hK K
            try simp only [Act.put, List.setIfInBounds_toArray, List.set_cons_zero, List.set_cons_succ]
            refine wpAnyH_ready (rs := [4]) (by kernel_rfl) (by simp) ?_
            refine AllReadyH.cons (o := _) rfl (fun K hK => ?_) AllReadyH.nil
            go_simp
            refine (HSI.out _ _ _ _ _ hy67 hy7).mono ?_
            rintro e8 w8 ⟨rfl, hb8⟩
            have hz8 := below_transG hz7 hb8
            go_wp2_with fail
            refine hK.out _ _ (HSW.out _ hz8) (fun hHeld => ?_)
            clear hK K
            try simp only [Act.put, List.setIfInBounds_toArray, List.set_cons_zero, List.set_cons_succ]
            have q1 := (HSW.out _ hz8).2
            have q3 := HDC.out _ hz8
            have HQR := Lib.hid (HDR.out _ hz8)
            have HAL8 := Lib.hid (HAL.out _ hz8)
            have HZ8 := Lib.hid (HSW.out _ hz8)
            clear hy6 hy7 hy67 hz6 hz7 hb6 hb7 hb8
            have cs : k < 0 ∨ (0 ≤ k ∧ ¬ k < (n : Int)) ∨ (0 ≤ k ∧ k < (n : Int)) := by omega
            rcases cs with k1 | ⟨k1, k2⟩ | ⟨k1, k2⟩
            · rw [show aliveB n st1 k = false by unfold aliveB; rw [inR_no (by omega)]; rfl] at HAL8
              have k3 : ¬ 0 ≤ k := by omega
              refine wpAnyH_class (C := fun x => x = w8) 5 _ rfl (by kernel_rfl) (by rfl) (by kernel_rfl) (fun x hx => hx ▸ HZ8.out) rfl ?_
              simp only [List.drop_succ_cons, List.drop_zero]
              repeat
                with_reducible refine wpQuiet_step (fun K hK => ?_)
                first
                  | (refine quiet_skip (by rfl) ?_; (with_reducible refine hK _ ?_); clear hK K)
                  | (refine quiet_want (by rfl) ?_
                     apply Exists.intro
                     refine ⟨fun x hx => ?_, hK _ ?_⟩
                     (obtain rfl := id hx; go_simp; first | done | rfl | ((go_at_call 78; with_reducible exact Calls.mono HAL8.out (fun y w' hh => ⟨hh.1, hh.2.symm⟩))))
                     clear hK K)
                try simp only [Act.put, List.setIfInBounds_toArray, List.set_cons_zero, List.set_cons_succ]
              with_reducible refine wpQuiet_nil ?_
              intro wq hq
              subst hq
              go_wp2_with fail
              go_meet
              exact ⟨rfl, hz8⟩
            · rw [show aliveB n st1 k = false by unfold aliveB; rw [inR_no (by omega)]; rfl] at HAL8
              refine wpAnyH_class (C := fun x => x = w8) 5 _ rfl (by kernel_rfl) (by rfl) (by kernel_rfl) (fun x hx => hx ▸ HZ8.out) rfl ?_
              simp only [List.drop_succ_cons, List.drop_zero]
              repeat
                with_reducible refine wpQuiet_step (fun K hK => ?_)
                first
                  | (refine quiet_skip (by rfl) ?_; (with_reducible refine hK _ ?_); clear hK K)
                  | (refine quiet_want (by rfl) ?_
                     apply Exists.intro
                     refine ⟨fun x hx => ?_, hK _ ?_⟩
                     (obtain rfl := id hx; go_simp; first | done | rfl | ((go_at_call 78; with_reducible exact Calls.mono HAL8.out (fun y w' hh => ⟨hh.1, hh.2.symm⟩))))
                     clear hK K)
                try simp only [Act.put, List.setIfInBounds_toArray, List.set_cons_zero, List.set_cons_succ]
              with_reducible refine wpQuiet_nil ?_
              intro wq hq
              subst hq
              go_wp2_with fail
              go_meet
              exact ⟨rfl, hz8⟩
            · obtain ⟨K, rfl⟩ := Int.eq_ofNat_of_zero_le k1
              obtain ⟨g, off, rfl, qr⟩ := HQR.out K (by omega)
              cases hst : st1 K
              · rw [ptr_none hst] at qr
                rw [show aliveB n st1 (K : Int) = false by unfold aliveB; rw [inR_yes (by omega), Int.toNat_natCast, hst]; rfl] at HAL8
                clear hst
                refine wpAnyH_class (C := fun x => x = w8) 5 _ rfl (by kernel_rfl) (by rfl) (by kernel_rfl) (fun x hx => hx ▸ HZ8.out) rfl ?_
                simp only [List.drop_succ_cons, List.drop_zero]
                repeat
                  with_reducible refine wpQuiet_step (fun K hK => ?_)
                  first
                    | (refine quiet_skip (by rfl) ?_; (with_reducible refine hK _ ?_); clear hK K)
                    | (refine quiet_want (by rfl) ?_
                       apply Exists.intro
                       refine ⟨fun x hx => ?_, hK _ ?_⟩
                       (obtain rfl := id hx; go_simp; first | done | rfl | ((go_at_call 78; with_reducible exact Calls.mono HAL8.out (fun y w' hh => ⟨hh.1, hh.2.symm⟩))))
                       clear hK K)
                  try simp only [Act.put, List.setIfInBounds_toArray, List.set_cons_zero, List.set_cons_succ]
                with_reducible refine wpQuiet_nil ?_
                intro wq hq
                subst hq
                go_wp2_with fail
                go_meet
                exact ⟨rfl, hz8⟩
              · rw [ptr_some hst] at qr
                rw [show aliveB n st1 (K : Int) = true by unfold aliveB; rw [inR_yes (by omega), Int.toNat_natCast, hst]; rfl] at HAL8
                clear hst
                refine wpAnyH_class (C := fun x => x = w8) 5 _ rfl (by kernel_rfl) (by rfl) (by kernel_rfl) (fun x hx => hx ▸ HZ8.out) rfl ?_
                simp only [List.drop_succ_cons, List.drop_zero]
                repeat
                  with_reducible refine wpQuiet_step (fun K hK => ?_)
                  first
                    | (refine quiet_skip (by rfl) ?_; (with_reducible refine hK _ ?_); clear hK K)
                    | (refine quiet_want (by rfl) ?_
                       apply Exists.intro
                       refine ⟨fun x hx => ?_, hK _ ?_⟩
                       (obtain rfl := id hx; go_simp; first | done | rfl | ((go_at_call 78; with_reducible exact Calls.mono HAL8.out (fun y w' hh => ⟨hh.1, hh.2.symm⟩))))
                       clear hK K)
                  try simp only [Act.put, List.setIfInBounds_toArray, List.set_cons_zero, List.set_cons_succ]
                with_reducible refine wpQuiet_nil ?_
                intro wq hq
                subst hq
                go_wp2_with fail
                go_meet
                exact ⟨rfl, hz8⟩
          case rest =>
          obtain ⟨rfl, hbl⟩ := hcut
          have HFF := Lib.hid (show F2 w.heap.size _ A NB D la lc b s p n S2 st1 told st1 told (fun _ => False) from HF5.out.with hbl (fun j hj => by cases hj))
          have HBF := Lib.hid (HB5.out.trans (hbl.mono HB5.out.size))
          clear hbl HM1 HM2 HSI HSW HAL HDC HDR
          go_wp2_with fail
          go_roundw
          case rel => exact ⟨i + 1, S2, st1, told, by simp, by have := HG2.out; omega, HFF.out, HBF.out⟩
          case measure => have := HG2.out; simp [intOf]; omega
        · have g0 : (kd == 0) = false := by rw [beq_eq_false_iff_ne]; exact hk0
          by_cases hk1 : kd = 1
          · subst hk1
            obtain ⟨e0, he0⟩ : ∃ e, e = reE n st k := ⟨_, rfl⟩
            obtain ⟨st1, hst1⟩ : ∃ e, e = reS n st k := ⟨_, rfl⟩
            clear hk0 g0
            have HK1 := Lib.hid (show ∀ x, F2 w.heap.size x A NB D la lc b s p n S st told st told (fun j => j = E) → (Below w.heap.size w x ∧ x.cell? ⟨E, 1, none⟩ = some (.int .i64 k)) → Blk x E 139 [.int .i64 1, .int .i64 k, .int .i64 m] → Calls Try.prog 70 #[.pointer (some ⟨A, 0, none⟩), .int .i64 k] x fun y w' => y = .returned (.int .i64 e0) ∧ ∃ S', F2 w.heap.size w' A NB D la lc b s p n S' st1 told st told (fun j => j = E) ∧ Blk w' E 139 [.int .i64 1, .int .i64 k, .int .i64 m] ∧ (Below w.heap.size w w' ∧ w'.cell? ⟨E, 1, none⟩ = some (.int .i64 k)) from fun x h hb he => by
              rw [he0, hst1]
              exact (f2_restartA h k).mono fun y w' ⟨h1, ⟨S', h2⟩, h3, h4⟩ => ⟨h1, S', h2, he.on (h3 E rfl), hb.1.trans h4, (he.on (h3 E rfl)).cellAt (i := 1) (by simp)⟩)
            have HK2 := Lib.hid (show ∀ x S', F2 w.heap.size x A NB D la lc b s p n S' st1 told st told (fun j => j = E) → (Below w.heap.size w x ∧ x.cell? ⟨E, 1, none⟩ = some (.int .i64 k)) → Blk x E 139 [.int .i64 1, .int .i64 k, .int .i64 m] → Calls Try.prog 71 #[.pointer (some ⟨D, 0, none⟩), .int .i64 k] x fun y w' => y = .returned (.int .i64 e0) ∧ ∃ S', F2 w.heap.size w' A NB D la lc b s p n S' st1 told st1 told (fun j => j = E) ∧ Blk w' E 139 [.int .i64 1, .int .i64 k, .int .i64 m] ∧ (Below w.heap.size w w' ∧ w'.cell? ⟨E, 1, none⟩ = some (.int .i64 k)) from fun x S' h hb he => by
              have h9 := f2_restartD h k
              rw [← he0, ← hst1] at h9
              exact h9.mono fun y w' ⟨h1, ⟨S', h2⟩, h3, h4⟩ => ⟨h1, S', h2, he.on (h3 E rfl), hb.1.trans h4, (he.on (h3 E rfl)).cellAt (i := 1) (by simp)⟩)
            have ke : (e0 == e0) = true := by simp
            have HSX := Lib.hid (show Below w.heap.size w w4 ∧ w4.cell? ⟨E, 1, none⟩ = some (.int .i64 k) from ⟨HB4.out, HE4.out.cellAt (i := 1) (by simp)⟩)
            clear he0 hst1
            go_upto_region 21 with fail
            go_cut [94] (fun sc wx => sc = .bool false ∧ ∃ S', F2 w.heap.size wx A NB D la lc b s p n S' st1 told st1 told (fun j => j = E) ∧ Blk wx E 139 [.int .i64 1, .int .i64 k, .int .i64 m] ∧ Below w.heap.size w wx)
            case first =>
              refine wp_region_held_drew (S := fun x => Below w.heap.size w x ∧ x.cell? ⟨E, 1, none⟩ = some (.int .i64 k)) (by kernel_rfl) ⟨HSX.out.1.drew, HSX.out.2⟩ (fun hHeld => ?_)
              refine wpAnyH_take (i := 0) (oi := _) (v := ?_) rfl (by kernel_rfl) (by kernel_rfl) (by kernel_rfl) (fun _ _ _ h => h) (Or.inl ⟨by rfl, ?_⟩) (by assumption) ?_
              rotate_left
              · intro x hSx
                try dsimp only at hSx
                obtain ⟨_, hSx1⟩ := hSx
                go_simp
                first | done | with_reducible rfl
              try simp only [Act.put, List.setIfInBounds_toArray, List.set_cons_zero, List.set_cons_succ]
              refine wpAnyH_take (i := 1) (oi := _) (v := ?_) rfl (by kernel_rfl) (by kernel_rfl) (by kernel_rfl) (fun _ _ _ h => h) (Or.inl ⟨by rfl, ?_⟩) (by assumption) ?_
              rotate_left
              · intro x hSx
                try dsimp only at hSx
                obtain ⟨_, hSx1⟩ := hSx
                go_simp
                first | done | with_reducible rfl
              try simp only [Act.put, List.setIfInBounds_toArray, List.set_cons_zero, List.set_cons_succ]
              refine wpAnyH_take (i := 2) (oi := _) (v := ?_) rfl (by kernel_rfl) (by kernel_rfl) (by kernel_rfl) (fun _ _ _ h => h) (Or.inl ⟨by rfl, ?_⟩) (by assumption) ?_
              rotate_left
              · intro x hSx
                try dsimp only at hSx
                obtain ⟨_, hSx1⟩ := hSx
                go_simp
                first | done | with_reducible rfl
              try simp only [Act.put, List.setIfInBounds_toArray, List.set_cons_zero, List.set_cons_succ]
              refine wpAnyH_take (i := 4) (oi := _) (v := ?_) rfl (by kernel_rfl) (by kernel_rfl) (by kernel_rfl) (fun _ _ _ h => h) (Or.inl ⟨by rfl, ?_⟩) (by assumption) ?_
              rotate_left
              · intro x hSx
                try dsimp only at hSx
                obtain ⟨_, hSx1⟩ := hSx
                go_simp
                first | done | with_reducible rfl
              try simp only [Act.put, List.setIfInBounds_toArray, List.set_cons_zero, List.set_cons_succ]
              refine wpAnyH_take (i := 5) (oi := _) (v := ?_) rfl (by kernel_rfl) (by kernel_rfl) (by kernel_rfl) (fun _ _ _ h => h) (Or.inl ⟨by rfl, ?_⟩) (by assumption) ?_
              rotate_left
              · intro x hSx
                try dsimp only at hSx
                obtain ⟨_, hSx1⟩ := hSx
                go_simp
                first | done | with_reducible rfl
              try simp only [Act.put, List.setIfInBounds_toArray, List.set_cons_zero, List.set_cons_succ]
              refine wpAnyH_take (i := 6) (oi := _) (v := ?_) rfl (by kernel_rfl) (by kernel_rfl) (by kernel_rfl) (fun _ _ _ h => h) (Or.inl ⟨by rfl, ?_⟩) (by assumption) ?_
              rotate_left
              · intro x hSx
                try dsimp only at hSx
                obtain ⟨_, hSx1⟩ := hSx
                go_simp
                first | done | with_reducible rfl
              try simp only [Act.put, List.setIfInBounds_toArray, List.set_cons_zero, List.set_cons_succ]
              refine wpAnyH_ready (rs := [3]) (by kernel_rfl) (by simp) ?_
              refine AllReadyH.cons (o := _) rfl (fun K hK => ?_) AllReadyH.nil
              go_simp
              refine (HK1.out _ (HF4.out.on (Below.refl _ _).drew) ⟨HSX.out.1.drew, HSX.out.2⟩ (HE4.out.keep (Below.refl _ _).drew HE4.out.lt)).mono ?_
              rintro e6 w6 ⟨rfl, S1, hf6, he6, hs6⟩
              go_wp2_with fail
              refine hK.out _ _ hs6 (fun hHeld => ?_)
              clear hK K
              try simp only [Act.put, List.setIfInBounds_toArray, List.set_cons_zero, List.set_cons_succ]
              refine wpAnyH_ready (rs := [7]) (by kernel_rfl) (by simp) ?_
              refine AllReadyH.cons (o := _) rfl (fun K hK => ?_) AllReadyH.nil
              go_simp
              refine (HK2.out _ S1 hf6 hs6 he6).mono ?_
              rintro e7 w7 ⟨rfl, S2, hf7, he7, hs7⟩
              go_wp2_with fail
              refine hK.out _ _ hs7 (fun hHeld => ?_)
              clear hK K
              try simp only [Act.put, List.setIfInBounds_toArray, List.set_cons_zero, List.set_cons_succ]
              refine wpAnyH_class (C := fun x => x = w7) 8 _ rfl (by kernel_rfl) (by rfl) (by kernel_rfl) (fun x hx => hx ▸ hs7) rfl ?_
              simp only [List.drop_succ_cons, List.drop_zero]
              repeat
                with_reducible refine wpQuiet_step (fun K hK => ?_)
                first
                  | (refine quiet_skip (by rfl) ?_; (with_reducible refine hK _ ?_); clear hK K)
                  | (refine quiet_want (by rfl) ?_
                     apply Exists.intro
                     refine ⟨fun x hx => ?_, hK _ ?_⟩
                     (obtain rfl := id hx; go_simp; first | done | rfl | (fail))
                     clear hK K)
                try simp only [Act.put, List.setIfInBounds_toArray, List.set_cons_zero, List.set_cons_succ]
              with_reducible refine wpQuiet_nil ?_
              intro wq hq
              subst hq
              go_wp2_with fail
              go_meet
              exact ⟨rfl, S2, hf7, he7, hs7.1⟩
            case rest =>
            obtain ⟨rfl, S2, h3, h4, h5⟩ := hcut
            have HF5 := Lib.hid h3; have HE5 := Lib.hid h4; have HB5 := Lib.hid h5
            clear h3 h4 h5 HK1 HK2 HSX HF4 HE4 HB4 a0 a1 a2 ke
            obtain ⟨w5, hw5⟩ : ∃ w5, w5 = wc := ⟨_, rfl⟩
            rw [← hw5] at HF5 HE5 HB5 ⊢
            clear hw5
            have HM1 := Lib.hid (show ∀ x, Below w5.heap.size w5 x → Calls Try.prog 76 #[.pointer (some ⟨A, 0, none⟩)] x fun y w' => ∃ ya yc, y = .returned (.slice ya (pickI n (mastB st1)).length yc) ∧ Ints w' ya (pickI n (mastB st1)) ∧ Below x.heap.size x w' from fun x hx => (fd_masters (HF5.out.on hx).a).mono fun y w' ⟨ya, yc, h1, h2, _, h3⟩ => ⟨ya, yc, h1, h2, h3⟩)
            have HM2 := Lib.hid (show ∀ x, Below w5.heap.size w5 x → Calls Try.prog 77 #[.pointer (some ⟨D, 0, none⟩)] x fun y w' => ∃ ya yc, y = .returned (.slice ya (pickI n (mastB st1)).length yc) ∧ Ints w' ya (pickI n (mastB st1)) ∧ Below x.heap.size x w' from fun x hx => (rf_masters (HF5.out.on hx).r.c).mono fun y w' ⟨ya, yc, h1, h2, _, h3⟩ => ⟨ya, yc, h1, h2, h3⟩)
            have HSI := Lib.hid (fun a a' c c' u h1 h2 => same_ints (pickI n (mastB st1)) (by have := pick_len n (mastB st1); have := HF5.out.a.c.n32; omega) a a' c c' u h1 h2)
            have HSW := Lib.hid (show ∀ x, Below w5.heap.size w5 x → Below w.heap.size w x ∧ x.cell? ⟨E, 1, none⟩ = some (.int .i64 k) from fun x hx => ⟨HB5.out.trans (hx.mono HB5.out.size), (HE5.out.keep hx HE5.out.lt).cellAt (i := 1) (by simp)⟩)
            have HAL := Lib.hid (show ∀ x, Below w5.heap.size w5 x → Calls Try.prog 78 #[.pointer (some ⟨A, 0, none⟩), .int .i64 k] x fun y w' => y = .returned (.bool (aliveB n st1 k)) ∧ x = w' from fun x hx => fd_alive (HF5.out.on hx).a.c k)
            have HDC := Lib.hid (show ∀ x, Below w5.heap.size w5 x → x.cell? ⟨D, 3, none⟩ = some (.slice la n lc) from fun x hx => (HF5.out.on hx).r.c.cell0.2.2.2.1)
            have HDR := Lib.hid (show ∀ x, Below w5.heap.size w5 x → ∀ K : Nat, K < n → ∃ g off, la = some ⟨g, off, none⟩ ∧ x.cell? ⟨g, off + K, none⟩ = some (ptrV S2.qk st1 K) from fun x hx K hK => by
              obtain ⟨g, off, h1, _, h2, _⟩ := (HF5.out.on hx).r.c.cellR hK
              exact ⟨g, off, h1, h2⟩)
            obtain ⟨ML, hML⟩ : ∃ ML, ML = pickI n (mastB st1) := ⟨_, rfl⟩
            rw [← hML] at HM1 HM2 HSI
            clear hML
            go_upto_region 23 with fail
            go_cut [127] (fun s127 wx => s127 = .bool false ∧ Below w5.heap.size w5 wx)
            case first =>
              refine wp_region_held_drew (S := fun x => Below w.heap.size w x ∧ x.cell? ⟨E, 1, none⟩ = some (.int .i64 k)) (by kernel_rfl) (HSW.out _ (Below.refl _ _).drew) (fun hHeld => ?_)
              refine wpAnyH_take (i := 0) (oi := _) (v := ?_) rfl (by kernel_rfl) (by kernel_rfl) (by kernel_rfl) (fun _ _ _ h => h) (Or.inl ⟨by rfl, ?_⟩) (by assumption) ?_
              rotate_left
              · intro x hSx
                try dsimp only at hSx
                obtain ⟨_, hSx1⟩ := hSx
                go_simp
                first | done | with_reducible rfl
              try simp only [Act.put, List.setIfInBounds_toArray, List.set_cons_zero, List.set_cons_succ]
              refine wpAnyH_take (i := 2) (oi := _) (v := ?_) rfl (by kernel_rfl) (by kernel_rfl) (by kernel_rfl) (fun _ _ _ h => h) (Or.inl ⟨by rfl, ?_⟩) (by assumption) ?_
              rotate_left
              · intro x hSx
                try dsimp only at hSx
                obtain ⟨_, hSx1⟩ := hSx
                go_simp
                first | done | with_reducible rfl
              try simp only [Act.put, List.setIfInBounds_toArray, List.set_cons_zero, List.set_cons_succ]
              refine wpAnyH_ready (rs := [1]) (by kernel_rfl) (by simp) ?_
              refine AllReadyH.cons (o := _) rfl (fun K hK => ?_) AllReadyH.nil
              go_simp
              refine (HM1.out _ (Below.refl _ _).drew).mono ?_
              rintro e6 w6 ⟨ya, yc, rfl, hy6, hb6⟩
              have hz6 := below_transG (w := w5) (Below.refl _ _).drew hb6
              go_wp2_with fail
              refine hK.out _ _ (HSW.out _ hz6) (fun hHeld => ?_)
              clear hK K
              try simp only [Act.put, List.setIfInBounds_toArray, List.set_cons_zero, List.set_cons_succ]
              refine wpAnyH_ready (rs := [3]) (by kernel_rfl) (by simp) ?_
              refine AllReadyH.cons (o := _) rfl (fun K hK => ?_) AllReadyH.nil
              go_simp
              refine (HM2.out _ hz6).mono ?_
              rintro e7 w7 ⟨za, zc, rfl, hy7, hb7⟩
              have hz7 := below_transG hz6 hb7
              have hy67 := hy6.on hb7
              go_wp2_with fail
              refine hK.out _ _ (HSW.out _ hz7) (fun hHeld => ?_)
              clear hK K
              try simp only [Act.put, List.setIfInBounds_toArray, List.set_cons_zero, List.set_cons_succ]
              refine wpAnyH_ready (rs := [4]) (by kernel_rfl) (by simp) ?_
              refine AllReadyH.cons (o := _) rfl (fun K hK => ?_) AllReadyH.nil
              go_simp
              refine (HSI.out _ _ _ _ _ hy67 hy7).mono ?_
              rintro e8 w8 ⟨rfl, hb8⟩
              have hz8 := below_transG hz7 hb8
              go_wp2_with fail
              refine hK.out _ _ (HSW.out _ hz8) (fun hHeld => ?_)
              clear hK K
              try simp only [Act.put, List.setIfInBounds_toArray, List.set_cons_zero, List.set_cons_succ]
              have q1 := (HSW.out _ hz8).2
              have q3 := HDC.out _ hz8
              have HQR := Lib.hid (HDR.out _ hz8)
              have HAL8 := Lib.hid (HAL.out _ hz8)
              have HZ8 := Lib.hid (HSW.out _ hz8)
              clear hy6 hy7 hy67 hz6 hz7 hb6 hb7 hb8
              have cs : k < 0 ∨ (0 ≤ k ∧ ¬ k < (n : Int)) ∨ (0 ≤ k ∧ k < (n : Int)) := by omega
              rcases cs with k1 | ⟨k1, k2⟩ | ⟨k1, k2⟩
              · rw [show aliveB n st1 k = false by unfold aliveB; rw [inR_no (by omega)]; rfl] at HAL8
                have k3 : ¬ 0 ≤ k := by omega
                refine wpAnyH_class (C := fun x => x = w8) 5 _ rfl (by kernel_rfl) (by rfl) (by kernel_rfl) (fun x hx => hx ▸ HZ8.out) rfl ?_
                simp only [List.drop_succ_cons, List.drop_zero]
                repeat
                  with_reducible refine wpQuiet_step (fun K hK => ?_)
                  first
                    | (refine quiet_skip (by rfl) ?_; (with_reducible refine hK _ ?_); clear hK K)
                    | (refine quiet_want (by rfl) ?_
                       apply Exists.intro
                       refine ⟨fun x hx => ?_, hK _ ?_⟩
                       (obtain rfl := id hx; go_simp; first | done | rfl | ((go_at_call 78; with_reducible exact Calls.mono HAL8.out (fun y w' hh => ⟨hh.1, hh.2.symm⟩))))
                       clear hK K)
                  try simp only [Act.put, List.setIfInBounds_toArray, List.set_cons_zero, List.set_cons_succ]
                with_reducible refine wpQuiet_nil ?_
                intro wq hq
                subst hq
                go_wp2_with fail
                go_meet
                exact ⟨rfl, hz8⟩
              · rw [show aliveB n st1 k = false by unfold aliveB; rw [inR_no (by omega)]; rfl] at HAL8
                refine wpAnyH_class (C := fun x => x = w8) 5 _ rfl (by kernel_rfl) (by rfl) (by kernel_rfl) (fun x hx => hx ▸ HZ8.out) rfl ?_
                simp only [List.drop_succ_cons, List.drop_zero]
                repeat
                  with_reducible refine wpQuiet_step (fun K hK => ?_)
                  first
                    | (refine quiet_skip (by rfl) ?_; (with_reducible refine hK _ ?_); clear hK K)
                    | (refine quiet_want (by rfl) ?_
                       apply Exists.intro
                       refine ⟨fun x hx => ?_, hK _ ?_⟩
                       (obtain rfl := id hx; go_simp; first | done | rfl | ((go_at_call 78; with_reducible exact Calls.mono HAL8.out (fun y w' hh => ⟨hh.1, hh.2.symm⟩))))
                       clear hK K)
                  try simp only [Act.put, List.setIfInBounds_toArray, List.set_cons_zero, List.set_cons_succ]
                with_reducible refine wpQuiet_nil ?_
                intro wq hq
                subst hq
                go_wp2_with fail
                go_meet
                exact ⟨rfl, hz8⟩
              · obtain ⟨K, rfl⟩ := Int.eq_ofNat_of_zero_le k1
                obtain ⟨g, off, rfl, qr⟩ := HQR.out K (by omega)
                cases hst : st1 K
                · rw [ptr_none hst] at qr
                  rw [show aliveB n st1 (K : Int) = false by unfold aliveB; rw [inR_yes (by omega), Int.toNat_natCast, hst]; rfl] at HAL8
                  clear hst
                  refine wpAnyH_class (C := fun x => x = w8) 5 _ rfl (by kernel_rfl) (by rfl) (by kernel_rfl) (fun x hx => hx ▸ HZ8.out) rfl ?_
                  simp only [List.drop_succ_cons, List.drop_zero]
                  repeat
                    with_reducible refine wpQuiet_step (fun K hK => ?_)
                    first
                      | (refine quiet_skip (by rfl) ?_; (with_reducible refine hK _ ?_); clear hK K)
                      | (refine quiet_want (by rfl) ?_
                         apply Exists.intro
                         refine ⟨fun x hx => ?_, hK _ ?_⟩
                         (obtain rfl := id hx; go_simp; first | done | rfl | ((go_at_call 78; with_reducible exact Calls.mono HAL8.out (fun y w' hh => ⟨hh.1, hh.2.symm⟩))))
                         clear hK K)
                    try simp only [Act.put, List.setIfInBounds_toArray, List.set_cons_zero, List.set_cons_succ]
                  with_reducible refine wpQuiet_nil ?_
                  intro wq hq
                  subst hq
                  go_wp2_with fail
                  go_meet
                  exact ⟨rfl, hz8⟩
                · rw [ptr_some hst] at qr
                  rw [show aliveB n st1 (K : Int) = true by unfold aliveB; rw [inR_yes (by omega), Int.toNat_natCast, hst]; rfl] at HAL8
                  clear hst
                  refine wpAnyH_class (C := fun x => x = w8) 5 _ rfl (by kernel_rfl) (by rfl) (by kernel_rfl) (fun x hx => hx ▸ HZ8.out) rfl ?_
                  simp only [List.drop_succ_cons, List.drop_zero]
                  repeat
                    with_reducible refine wpQuiet_step (fun K hK => ?_)
                    first
                      | (refine quiet_skip (by rfl) ?_; (with_reducible refine hK _ ?_); clear hK K)
                      | (refine quiet_want (by rfl) ?_
                         apply Exists.intro
                         refine ⟨fun x hx => ?_, hK _ ?_⟩
                         (obtain rfl := id hx; go_simp; first | done | rfl | ((go_at_call 78; with_reducible exact Calls.mono HAL8.out (fun y w' hh => ⟨hh.1, hh.2.symm⟩))))
                         clear hK K)
                    try simp only [Act.put, List.setIfInBounds_toArray, List.set_cons_zero, List.set_cons_succ]
                  with_reducible refine wpQuiet_nil ?_
                  intro wq hq
                  subst hq
                  go_wp2_with fail
                  go_meet
                  exact ⟨rfl, hz8⟩
            case rest =>
            obtain ⟨rfl, hbl⟩ := hcut
            have HFF := Lib.hid (show F2 w.heap.size _ A NB D la lc b s p n S2 st1 told st1 told (fun _ => False) from HF5.out.with hbl (fun j hj => by cases hj))
            have HBF := Lib.hid (HB5.out.trans (hbl.mono HB5.out.size))
            clear hbl HM1 HM2 HSI HSW HAL HDC HDR
            go_wp2_with fail
            go_roundw
            case rel => exact ⟨i + 1, S2, st1, told, by simp, by have := HG2.out; omega, HFF.out, HBF.out⟩
            case measure => have := HG2.out; simp [intOf]; omega
          · have g1 : (kd == 1) = false := by rw [beq_eq_false_iff_ne]; exact hk1
            obtain ⟨lost, hlost⟩ : ∃ l, (kd == 2) = l := ⟨_, rfl⟩
            have hV := part_in (n := m) (m := 40) (by decide)
            have HPT := Lib.hid (fun u => lw_part m 40 (by decide) u)
            obtain ⟨V, hVV⟩ : ∃ V, V = partI m 40 := ⟨_, rfl⟩
            rw [← hVV] at hV HPT
            have HV := Lib.hid hV
            clear hk0 hk1 hV hVV
            go_wp2_with fail
            clear a0 a1 a2
            go_loopw [13] (fun s13 wr => ∃ (q : Nat) (S : Mv) (st : Fs) (told : List Int), s13 = .int .i64 (q : Int) ∧ q ≤ 40 ∧ F2 w.heap.size wr A NB D la lc b s p n S st told st told (fun j => j = E) ∧ Blk wr E 139 [.int .i64 kd, .int .i64 k, .int .i64 m] ∧ Below w.heap.size w wr) (fun s13 _ => 40 - (intOf s13).toNat)
            case atStart => exact ⟨0, S, st, told, rfl, by omega, HF4.out, HE4.out, HB4.out⟩
            case round =>
              clear HF4 HE4 HB4
              obtain ⟨q, S5, st5, told5, rfl, hq40, hf, he, hb⟩ := hrel
              have HF5 := Lib.hid hf; have HE5 := Lib.hid he; have HB5 := Lib.hid hb
              clear hf he hb
              obtain ⟨w5, hw5⟩ : ∃ w5, w5 = wr := ⟨_, rfl⟩
              rw [← hw5] at HF5 HE5 HB5 ⊢
              clear hw5
              have a0 : w5.cell? ⟨E, 0, none⟩ = some (.int .i64 kd) := HE5.out.cellAt (i := 0) (by simp)
              have a1 : w5.cell? ⟨E, 1, none⟩ = some (.int .i64 k) := HE5.out.cellAt (i := 1) (by simp)
              have a2 : w5.cell? ⟨E, 2, none⟩ = some (.int .i64 m) := HE5.out.cellAt (i := 2) (by simp)
              have q0 : (0 : Int) ≤ (q : Int) := by omega
              have q9 : (q : Int) ≤ 40 := by omega
              by_cases hqv : (q : Int) < V
              · have HQ40 := Lib.hid (show q < 40 by have := HV.out; omega)
                have HT1 := Lib.hid (f2_tickA HF5.out lost)
                go_wp2_with fail
                refine (HPT.out _).mono ?_
                rintro y w6 ⟨rfl, rfl⟩
                go_wp2_with fail
                refine HT1.out.mono ?_
                rintro y w6 ⟨rfl, ⟨S6, hf6⟩, hp6, hb6⟩
                have HE6 := Lib.hid (HE5.out.on (hp6 E rfl))
                have HB6 := Lib.hid (HB5.out.trans hb6)
                have HT2 := Lib.hid (f2_tickD hf6 lost)
                clear hf6 hp6 hb6 a0 a1 a2
                have a0 : w6.cell? ⟨E, 0, none⟩ = some (.int .i64 kd) := HE6.out.cellAt (i := 0) (by simp)
                have a1 : w6.cell? ⟨E, 1, none⟩ = some (.int .i64 k) := HE6.out.cellAt (i := 1) (by simp)
                have a2 : w6.cell? ⟨E, 2, none⟩ = some (.int .i64 m) := HE6.out.cellAt (i := 2) (by simp)
                go_wp2_with fail
                refine HT2.out.mono ?_
                rintro y w7 ⟨rfl, ⟨S7, hf7⟩, hp7, hb7⟩
                have HE7 := Lib.hid (HE6.out.on (hp7 E rfl))
                have HB7 := Lib.hid (HB6.out.trans hb7)
                have HF7 := Lib.hid hf7
                clear hf7 hp7 hb7 a0 a1 a2
                go_wp2_with fail
                go_roundw
                case rel => exact ⟨q + 1, S7, _, _, by simp, by have := HQ40.out; omega, HF7.out, HE7.out, HB7.out⟩
                case measure => have := HQ40.out; simp [intOf]; omega
              · go_wp2_with fail
                refine (HPT.out _).mono ?_
                rintro y w6 ⟨rfl, rfl⟩
                clear a0 a1 a2
                have HM1 := Lib.hid (show ∀ x, Below w5.heap.size w5 x → Calls Try.prog 76 #[.pointer (some ⟨A, 0, none⟩)] x fun y w' => ∃ ya yc, y = .returned (.slice ya (pickI n (mastB st5)).length yc) ∧ Ints w' ya (pickI n (mastB st5)) ∧ Below x.heap.size x w' from fun x hx => (fd_masters (HF5.out.on hx).a).mono fun y w' ⟨ya, yc, h1, h2, _, h3⟩ => ⟨ya, yc, h1, h2, h3⟩)
                have HM2 := Lib.hid (show ∀ x, Below w5.heap.size w5 x → Calls Try.prog 77 #[.pointer (some ⟨D, 0, none⟩)] x fun y w' => ∃ ya yc, y = .returned (.slice ya (pickI n (mastB st5)).length yc) ∧ Ints w' ya (pickI n (mastB st5)) ∧ Below x.heap.size x w' from fun x hx => (rf_masters (HF5.out.on hx).r.c).mono fun y w' ⟨ya, yc, h1, h2, _, h3⟩ => ⟨ya, yc, h1, h2, h3⟩)
                have HSI := Lib.hid (fun a a' c c' u h1 h2 => same_ints (pickI n (mastB st5)) (by have := pick_len n (mastB st5); have := HF5.out.a.c.n32; omega) a a' c c' u h1 h2)
                have HSW := Lib.hid (show ∀ x, Below w5.heap.size w5 x → Below w.heap.size w x ∧ x.cell? ⟨E, 1, none⟩ = some (.int .i64 k) from fun x hx => ⟨HB5.out.trans (hx.mono HB5.out.size), (HE5.out.keep hx HE5.out.lt).cellAt (i := 1) (by simp)⟩)
                have HAL := Lib.hid (show ∀ x, Below w5.heap.size w5 x → Calls Try.prog 78 #[.pointer (some ⟨A, 0, none⟩), .int .i64 k] x fun y w' => y = .returned (.bool (aliveB n st5 k)) ∧ x = w' from fun x hx => fd_alive (HF5.out.on hx).a.c k)
                have HDC := Lib.hid (show ∀ x, Below w5.heap.size w5 x → x.cell? ⟨D, 3, none⟩ = some (.slice la n lc) from fun x hx => (HF5.out.on hx).r.c.cell0.2.2.2.1)
                have HDR := Lib.hid (show ∀ x, Below w5.heap.size w5 x → ∀ K : Nat, K < n → ∃ g off, la = some ⟨g, off, none⟩ ∧ x.cell? ⟨g, off + K, none⟩ = some (ptrV S5.qk st5 K) from fun x hx K hK => by
                  obtain ⟨g, off, h1, _, h2, _⟩ := (HF5.out.on hx).r.c.cellR hK
                  exact ⟨g, off, h1, h2⟩)
                obtain ⟨ML, hML⟩ : ∃ ML, ML = pickI n (mastB st5) := ⟨_, rfl⟩
                rw [← hML] at HM1 HM2 HSI
                clear hML
                go_upto_region 23 with fail
                go_cut [127] (fun s127 wx => s127 = .bool false ∧ Below w5.heap.size w5 wx)
                case first =>
                  refine wp_region_held_drew (S := fun x => Below w.heap.size w x ∧ x.cell? ⟨E, 1, none⟩ = some (.int .i64 k)) (by kernel_rfl) (HSW.out _ (Below.refl _ _).drew) (fun hHeld => ?_)
                  refine wpAnyH_take (i := 0) (oi := _) (v := ?_) rfl (by kernel_rfl) (by kernel_rfl) (by kernel_rfl) (fun _ _ _ h => h) (Or.inl ⟨by rfl, ?_⟩) (by assumption) ?_
                  rotate_left
                  · intro x hSx
                    try dsimp only at hSx
                    obtain ⟨_, hSx1⟩ := hSx
                    go_simp
                    first | done | with_reducible rfl
                  try simp only [Act.put, List.setIfInBounds_toArray, List.set_cons_zero, List.set_cons_succ]
                  refine wpAnyH_take (i := 2) (oi := _) (v := ?_) rfl (by kernel_rfl) (by kernel_rfl) (by kernel_rfl) (fun _ _ _ h => h) (Or.inl ⟨by rfl, ?_⟩) (by assumption) ?_
                  rotate_left
                  · intro x hSx
                    try dsimp only at hSx
                    obtain ⟨_, hSx1⟩ := hSx
                    go_simp
                    first | done | with_reducible rfl
                  try simp only [Act.put, List.setIfInBounds_toArray, List.set_cons_zero, List.set_cons_succ]
                  refine wpAnyH_ready (rs := [1]) (by kernel_rfl) (by simp) ?_
                  refine AllReadyH.cons (o := _) rfl (fun K hK => ?_) AllReadyH.nil
                  go_simp
                  refine (HM1.out _ (Below.refl _ _).drew).mono ?_
                  rintro e6 w6 ⟨ya, yc, rfl, hy6, hb6⟩
                  have hz6 := below_transG (w := w5) (Below.refl _ _).drew hb6
                  go_wp2_with fail
                  refine hK.out _ _ (HSW.out _ hz6) (fun hHeld => ?_)
                  clear hK K
                  try simp only [Act.put, List.setIfInBounds_toArray, List.set_cons_zero, List.set_cons_succ]
                  refine wpAnyH_ready (rs := [3]) (by kernel_rfl) (by simp) ?_
                  refine AllReadyH.cons (o := _) rfl (fun K hK => ?_) AllReadyH.nil
                  go_simp
                  refine (HM2.out _ hz6).mono ?_
                  rintro e7 w7 ⟨za, zc, rfl, hy7, hb7⟩
                  have hz7 := below_transG hz6 hb7
                  have hy67 := hy6.on hb7
                  go_wp2_with fail
                  refine hK.out _ _ (HSW.out _ hz7) (fun hHeld => ?_)
                  clear hK K
                  try simp only [Act.put, List.setIfInBounds_toArray, List.set_cons_zero, List.set_cons_succ]
                  refine wpAnyH_ready (rs := [4]) (by kernel_rfl) (by simp) ?_
                  refine AllReadyH.cons (o := _) rfl (fun K hK => ?_) AllReadyH.nil
                  go_simp
                  refine (HSI.out _ _ _ _ _ hy67 hy7).mono ?_
                  rintro e8 w8 ⟨rfl, hb8⟩
                  have hz8 := below_transG hz7 hb8
                  go_wp2_with fail
                  refine hK.out _ _ (HSW.out _ hz8) (fun hHeld => ?_)
                  clear hK K
                  try simp only [Act.put, List.setIfInBounds_toArray, List.set_cons_zero, List.set_cons_succ]
                  have q1 := (HSW.out _ hz8).2
                  have q3 := HDC.out _ hz8
                  have HQR := Lib.hid (HDR.out _ hz8)
                  have HAL8 := Lib.hid (HAL.out _ hz8)
                  have HZ8 := Lib.hid (HSW.out _ hz8)
                  clear hy6 hy7 hy67 hz6 hz7 hb6 hb7 hb8
                  have cs : k < 0 ∨ (0 ≤ k ∧ ¬ k < (n : Int)) ∨ (0 ≤ k ∧ k < (n : Int)) := by omega
                  rcases cs with k1 | ⟨k1, k2⟩ | ⟨k1, k2⟩
                  · rw [show aliveB n st5 k = false by unfold aliveB; rw [inR_no (by omega)]; rfl] at HAL8
                    have k3 : ¬ 0 ≤ k := by omega
                    refine wpAnyH_class (C := fun x => x = w8) 5 _ rfl (by kernel_rfl) (by rfl) (by kernel_rfl) (fun x hx => hx ▸ HZ8.out) rfl ?_
                    simp only [List.drop_succ_cons, List.drop_zero]
                    repeat
                      with_reducible refine wpQuiet_step (fun K hK => ?_)
                      first
                        | (refine quiet_skip (by rfl) ?_; (with_reducible refine hK _ ?_); clear hK K)
                        | (refine quiet_want (by rfl) ?_
                           apply Exists.intro
                           refine ⟨fun x hx => ?_, hK _ ?_⟩
                           (obtain rfl := id hx; go_simp; first | done | rfl | ((go_at_call 78; with_reducible exact Calls.mono HAL8.out (fun y w' hh => ⟨hh.1, hh.2.symm⟩))))
                           clear hK K)
                      try simp only [Act.put, List.setIfInBounds_toArray, List.set_cons_zero, List.set_cons_succ]
                    with_reducible refine wpQuiet_nil ?_
                    intro wq hq
                    subst hq
                    go_wp2_with fail
                    go_meet
                    exact ⟨rfl, hz8⟩
                  · rw [show aliveB n st5 k = false by unfold aliveB; rw [inR_no (by omega)]; rfl] at HAL8
                    refine wpAnyH_class (C := fun x => x = w8) 5 _ rfl (by kernel_rfl) (by rfl) (by kernel_rfl) (fun x hx => hx ▸ HZ8.out) rfl ?_
                    simp only [List.drop_succ_cons, List.drop_zero]
                    repeat
                      with_reducible refine wpQuiet_step (fun K hK => ?_)
                      first
                        | (refine quiet_skip (by rfl) ?_; (with_reducible refine hK _ ?_); clear hK K)
                        | (refine quiet_want (by rfl) ?_
                           apply Exists.intro
                           refine ⟨fun x hx => ?_, hK _ ?_⟩
                           (obtain rfl := id hx; go_simp; first | done | rfl | ((go_at_call 78; with_reducible exact Calls.mono HAL8.out (fun y w' hh => ⟨hh.1, hh.2.symm⟩))))
                           clear hK K)
                      try simp only [Act.put, List.setIfInBounds_toArray, List.set_cons_zero, List.set_cons_succ]
                    with_reducible refine wpQuiet_nil ?_
                    intro wq hq
                    subst hq
                    go_wp2_with fail
                    go_meet
                    exact ⟨rfl, hz8⟩
                  · obtain ⟨K, rfl⟩ := Int.eq_ofNat_of_zero_le k1
                    obtain ⟨g, off, rfl, qr⟩ := HQR.out K (by omega)
                    cases hst : st5 K
                    · rw [ptr_none hst] at qr
                      rw [show aliveB n st5 (K : Int) = false by unfold aliveB; rw [inR_yes (by omega), Int.toNat_natCast, hst]; rfl] at HAL8
                      clear hst
                      refine wpAnyH_class (C := fun x => x = w8) 5 _ rfl (by kernel_rfl) (by rfl) (by kernel_rfl) (fun x hx => hx ▸ HZ8.out) rfl ?_
                      simp only [List.drop_succ_cons, List.drop_zero]
                      repeat
                        with_reducible refine wpQuiet_step (fun K hK => ?_)
                        first
                          | (refine quiet_skip (by rfl) ?_; (with_reducible refine hK _ ?_); clear hK K)
                          | (refine quiet_want (by rfl) ?_
                             apply Exists.intro
                             refine ⟨fun x hx => ?_, hK _ ?_⟩
                             (obtain rfl := id hx; go_simp; first | done | rfl | ((go_at_call 78; with_reducible exact Calls.mono HAL8.out (fun y w' hh => ⟨hh.1, hh.2.symm⟩))))
                             clear hK K)
                        try simp only [Act.put, List.setIfInBounds_toArray, List.set_cons_zero, List.set_cons_succ]
                      with_reducible refine wpQuiet_nil ?_
                      intro wq hq
                      subst hq
                      go_wp2_with fail
                      go_meet
                      exact ⟨rfl, hz8⟩
                    · rw [ptr_some hst] at qr
                      rw [show aliveB n st5 (K : Int) = true by unfold aliveB; rw [inR_yes (by omega), Int.toNat_natCast, hst]; rfl] at HAL8
                      clear hst
                      refine wpAnyH_class (C := fun x => x = w8) 5 _ rfl (by kernel_rfl) (by rfl) (by kernel_rfl) (fun x hx => hx ▸ HZ8.out) rfl ?_
                      simp only [List.drop_succ_cons, List.drop_zero]
                      repeat
                        with_reducible refine wpQuiet_step (fun K hK => ?_)
                        first
                          | (refine quiet_skip (by rfl) ?_; (with_reducible refine hK _ ?_); clear hK K)
                          | (refine quiet_want (by rfl) ?_
                             apply Exists.intro
                             refine ⟨fun x hx => ?_, hK _ ?_⟩
                             (obtain rfl := id hx; go_simp; first | done | rfl | ((go_at_call 78; with_reducible exact Calls.mono HAL8.out (fun y w' hh => ⟨hh.1, hh.2.symm⟩))))
                             clear hK K)
                        try simp only [Act.put, List.setIfInBounds_toArray, List.set_cons_zero, List.set_cons_succ]
                      with_reducible refine wpQuiet_nil ?_
                      intro wq hq
                      subst hq
                      go_wp2_with fail
                      go_meet
                      exact ⟨rfl, hz8⟩
                case rest =>
                obtain ⟨rfl, hbl⟩ := hcut
                have HFF := Lib.hid (show F2 w.heap.size _ A NB D la lc b s p n S5 st5 told5 st5 told5 (fun _ => False) from HF5.out.with hbl (fun j hj => by cases hj))
                have HBF := Lib.hid (HB5.out.trans (hbl.mono HB5.out.size))
                clear hbl HM1 HM2 HSI HSW HAL HDC HDR
                go_wp2_with fail
                go_roundw
                case rel => exact ⟨i + 1, S5, st5, told5, by simp, by have := HG2.out; omega, HFF.out, HBF.out⟩
                case measure => have := HG2.out; simp [intOf]; omega
      · have hT : ((i : Int) < (L.length : Int) ∧ ¬ (i : Int) < 60) ∨ ¬ (i : Int) < (L.length : Int) := by omega
        clear hgo
        rcases hT with ⟨i1_, i2⟩ | i1_
        all_goals
          go_wp2_with fail
          refine (HLV.out _).mono ?_
          rintro y w5 ⟨rfl, hb⟩
          have HBz := Lib.hid (below_transG HB.out hb)
          clear hb
          go_wp2_with fail
          go_ret
          exact ⟨rfl, HBz.out⟩
  · have hno : rightR b s p = true → ¬ (1 ≤ mn ∧ mn ≤ 32) := fun h1 h2 => hok ⟨h1, h2⟩
    have HN1 := Lib.hid (fun u => fd_open_no b s p mn hno u); have HN2 := Lib.hid (fun u => rf_open_no b s p mn hno u)
    clear hok hno
    have c0 : W0.cell? ⟨C, 0, none⟩ = some (.int .i64 b) := HA0.out.cellAt (i := 0) (by simp)
    have c1 : W0.cell? ⟨C, 1, none⟩ = some (.int .i64 s) := HA0.out.cellAt (i := 1) (by simp)
    have c2 : W0.cell? ⟨C, 2, none⟩ = some (.int .i64 p) := HA0.out.cellAt (i := 2) (by simp)
    go_enter Try.func9, Try.ntmps9
    go_upto_region 1 with fail
    rw [← hW0, ← hC]
    clear hW0 hC
    go_wp2_with fail
    refine (HN1.out _).mono ?_
    rintro y w1 ⟨rfl, hb⟩
    have HB1 := Lib.hid (below_transG HB0.out hb); have HA1 := Lib.hid (HA0.out.keep hb HA0.out.lt)
    clear hb c0 c1 c2
    have c0 : w1.cell? ⟨C, 0, none⟩ = some (.int .i64 b) := HA1.out.cellAt (i := 0) (by simp)
    have c1 : w1.cell? ⟨C, 1, none⟩ = some (.int .i64 s) := HA1.out.cellAt (i := 1) (by simp)
    have c2 : w1.cell? ⟨C, 2, none⟩ = some (.int .i64 p) := HA1.out.cellAt (i := 2) (by simp)
    go_wp2_with fail
    refine (HPL.out _).mono ?_
    rintro y w2 ⟨rfl, hb⟩
    have HB2 := Lib.hid (below_transG HB1.out hb)
    clear hb c0 c1 c2
    go_wp2_with fail
    refine (HN2.out _).mono ?_
    rintro y w3 ⟨rfl, hb⟩
    have HB3 := Lib.hid (below_transG HB2.out hb)
    clear hb
    go_wp2_with fail
    refine (HLV.out _).mono ?_
    rintro y w5 ⟨rfl, hb⟩
    have HBz := Lib.hid (below_transG HB3.out hb)
    clear hb
    go_wp2_with fail
    go_ret
    exact ⟨rfl, HBz.out⟩
set_option maxRecDepth 100000 in
theorem lifted (os : Os) (started : os.Started) (H : Type) (enc : TypeId × Value → H) :
    ReturnsInHanded {} Try.checked os 9 .any (Rows.rankFieldSpec.pre6 enc Try.prog Try.f9 Rows.rankFieldRow.domain false) (Rows.rankFieldSpec.post enc Try.prog Try.f9 false true false false) := by
  refine returnsInHanded_of_change (C := Try.checked) own started (by kernel_rfl) Try.func9
    (ChangeSpec.witness6 (enc := enc) (C := Try.checked) false ⟨#[], #[.agg #[.int .i64 0, .int .i64 0, .int .i64 0], .int .i64 0, .slice none 0 0], []⟩ 8 (by kernel_rfl) (by kernel_rfl) (by kernel_rfl) (by kernel_rfl)) ?_
  intro W base args ds gs before hval0 hW _ _
  have hval : ∀ (j : Nat) t v, Try.f9.params[j]? = some t → args[j]? = some v → Value.okWide Try.prog W .any base t v := hval0
  have hW' := hW
  obtain ⟨p, q, hA0, hV, rfl, hfz, hnd⟩ := hW
  have hA : DataW.TrodAll enc Try.prog W 0 (fun _ => true) true Try.f9.params.toList args.toList ds p := hA0
  rw [Try.params9] at hA hval
  obtain ⟨v0, vs0, d0, ds0, p0, q0, hargs, rfl, rfl, h0, r0⟩ := trodAll_cons hA
  obtain ⟨v1, vs1, d1, ds1, p1, q1, rfl, rfl, rfl, h1, r1⟩ := trodAll_cons r0
  obtain ⟨v2, vs2, d2, ds2, p2, q2, rfl, rfl, rfl, h2, r2⟩ := trodAll_cons r1
  obtain ⟨rfl, rfl, rfl⟩ := trodAll_nil r2
  obtain rfl : args = #[v0, v1, v2] := by cases args; simp_all
  obtain ⟨rfl, rfl⟩ := trodVars_none hV
  have k0 := h0
  have lt0 : ∀ x ∈ p0, x.block < W.heap.size := by obtain ⟨m, hm⟩ := k0; exact DataW.trod_lt m _ _ _ hm
  obtain ⟨ca0, cb0, cc0, ya0, yb0, yc0, n0, rfl, rfl, rfl, ta0, tb0, tc0⟩ := Joins.open_agg3 Try.underlying115 (by kernel_rfl) (by kernel_rfl) (hval 0 115 v0 rfl rfl) h0
  obtain ⟨xa0, hxa0, rfl, wa0⟩ := DataW.trod_int Try.underlying3 ta0
  obtain ⟨xb0, hxb0, rfl, wb0⟩ := DataW.trod_int Try.underlying3 tb0
  obtain ⟨xc0, hxc0, rfl, wc0⟩ := DataW.trod_int Try.underlying3 tc0
  obtain rfl : ca0 = .int .i64 xa0 := by simpa using hxa0
  obtain rfl : cb0 = .int .i64 xb0 := by simpa using hxb0
  obtain rfl : cc0 = .int .i64 xc0 := by simpa using hxc0
  obtain ⟨a1, rfl, rfl, rfl, w1⟩ := open_int Try.underlying3 (hval 1 3 v1 rfl rfl) h1
  obtain ⟨a2, len2, cap2, rfl⟩ := okWide_slice Try.underlying131 (hval 2 131 v2 rfl rfl)
  have k2 := h2
  have lt2 : ∀ x ∈ p2, x.block < W.heap.size := by obtain ⟨m, hm⟩ := k2; exact DataW.trod_lt m _ _ _ hm
  obtain ⟨L2, wl2, ww2, wr2⟩ : ∃ L : List A21, L.length = len2 ∧ (∀ s ∈ L, A21.wf s) ∧ Rd W 3 (.slice a2 len2 cap2) (L.flatMap A21.C) := by
    obtain ⟨fuel, hf⟩ := h2
    exact open_rows A21.C A21.wf 3 (by decide) Try.underlying131 (by kernel_rfl) (fun _ => rfl) (fun _ _ _ => act21G) (by simpa [Value.cells] using hf)
  clear hA0 hval0
  refine (walk xa0 xb0 xc0 a1 a2 len2 cap2 L2 W wa0 wb0 wc0 w1 ⟨wl2, ww2, wr2⟩).mono fun e W' ⟨he, bel⟩ => ?_
  subst he
  exact ⟨_, rfl, _, _, _, [], _, [], hW', trodAll_mk1 (shut_bool Try.underlying4 _), (trodAll_cons_mk (Below.trod laidOut (by kernel_rfl) (of_decide_eq_true (by kernel_rfl)) k0 bel lt0) (trodAll_cons_mk (shut_int Try.underlying3 w1) (trodAll_cons_mk (Below.trod laidOut (by kernel_rfl) (of_decide_eq_true (by kernel_rfl)) k2 bel lt2) trodAll_mk0))), rfl, bel.frame _, fun h => by cases h⟩
theorem over : Rows.rankFieldRow.holds Try.pinned (OpenSpec.ofChange Rows.rankFieldSpec) :=
  OpenClaim.holds_of_wide 9 Try.f9 rfl rfl rfl rfl rfl rfl rfl ⟨rfl, rfl, rfl, rfl, rfl⟩ rfl rfl rfl rfl rfl (by kernel_rfl) Try.func9 (by kernel_rfl)
    (of_decide_eq_true (by kernel_rfl)) (by unfold Func.isWrapper; first | (rw [if_pos (by decide +kernel)]; kernel_rfl) | (rw [if_neg (by decide +kernel)]; exact ⟨rfl, rfl⟩))
    (fun os started H enc _ => lifted os started H enc)
/-- The statement. -/
theorem proved : Rows.RankFieldSaid := over
end Go.Proofs.Ytdfalipgfnjglaa.rankField
