/- Package edf: Run. Conditions: the numbers are of 64 bits. -/
import Derived.Test.YtbcccffjlkphpaaEdr
namespace Go.Proofs.Ytbcccffjlkphpaa
open Go.RowKit Go.Shelf Go.Sort
set_option linter.unusedSimpArgs false
set_option linter.unusedVariables false
attribute [local go_sem] Oper.semAt_some
theorem RunI.sl {L : List Jb} {len : Int} {b1 B : Nat} {W : World} {S : List Sn} {H C : List PJ} {vH vC v : Value} {wr : World} (h : RunI L len b1 B W S H C vH vC v wr) : ∃ a c, v = .slice a S.length c := by
  rcases h.own.2 with ⟨e, e2⟩ | ⟨g, cap, cur, e, _⟩
  · exact ⟨_, _, by rw [e2]; exact e⟩
  · exact ⟨_, _, e⟩
/-- How long a slice is. -/
def sliceLen : Value → Nat
  | .slice _ n _ => n
  | _ => 0
theorem flatS_len (S : List Sn) : (S.flatMap Sn.C).length = S.length * 3 := by
  induction S with
  | nil => rfl
  | cons x H ih => rw [List.flatMap_cons, List.length_append, ih, Sn.C_len, List.length_cons]; omega
theorem ownS_keep {X Y : World} {b1 B n : Nat} {v : Value} {xs : List Value} (h : X.ownsRow b1 38 3 v n xs) (hc : Ch b1 B X Y) (hB : B < b1) : Y.ownsRow b1 38 3 v n xs := by
  refine ⟨h.1, ?_⟩
  rcases h.2 with h1 | ⟨g, cap, cur, h1, h2, h3, h4⟩
  · exact .inl h1
  · have hb : Blk X g 38 cur.toList := h3
    exact .inr ⟨g, cap, cur, h1, h2, hc.keep hb (.inl (by decide)) (by omega), h4⟩
theorem PW.keepS {X Y : World} {b1 B : Nat} {len : Int} {H C : List PJ} {vH vC v : Value} {n : Nat} {xs : List Value} (h : PW X b1 B len H C vH vC) (ho : X.ownsRow b1 38 3 v n xs) (hg : X.grownBy Y v.ownBlock) : PW Y b1 B len H C vH vC := by
  have hne : ∀ k T l, Blk X k T l → T ≠ 38 → Blk Y k T l := fun k T l hk hT => by
    refine (hg.block k hk.lt (fun e => ?_)).trans hk
    rcases ho.2 with ⟨e1, _⟩ | ⟨g', cap, cur, e1, hb, hgc, _⟩
    · rw [e1] at e; cases e
    · rw [e1] at e
      have e2 : k = g' := by simpa [Value.ownBlock] using e
      subst e2
      have hgB : Blk X k 38 cur.toList := hgc
      exact blk_ne hk hgB hT rfl
  refine ⟨hne _ _ _ h.blk (by decide), h.lt, Nat.le_trans h.sz hg.size, ⟨h.row.1, ?_⟩, ?_⟩
  · rcases h.row.2 with h1 | ⟨g, cap, cur, h1, h2, h3, h4⟩
    · exact .inl h1
    · have hb : Blk X g 64 cur.toList := h3
      exact .inr ⟨g, cap, cur, h1, h2, hne _ _ _ hb (by decide), h4⟩
  · rcases h.co with h1 | ⟨G, off, cap, e, h0, h1, ⟨l, h2⟩, h3⟩
    · exact .inl h1
    · have hb := hne _ _ _ h2 (by decide)
      have hbe : Y.heap[G]? = X.heap[G]? := hb.trans h2.symm
      exact .inr ⟨G, off, cap, e, h0, h1, ⟨l, hb⟩, fun j hj i u hu => (World.cell?_of_block (a := ⟨G, off + j * 5 + i, none⟩) hbe).trans (h3 j hj i u hu)⟩
/-- What Run answers. -/
def RunP (L : List Jb) (len : Int) (W : World) (e : Ending) (w' : World) : Prop := ((mayJ len L ≠ 0 ∧ e = .returned (.tuple #[.slice none 0 0, .int .i64 (mayJ len L)])) ∨ (mayJ len L = 0 ∧ ∃ S v, e = .returned (.tuple #[v, .int .i64 0]) ∧ Tr L len S ∧ S.length = L.length ∧ w'.ownsRow W.heap.size 38 3 v S.length (S.flatMap Sn.C))) ∧ Below W.heap.size W w'
theorem may_0 {len : Int} {L : List Jb} (h : mayJ len L = 0) : inB len 1 1073741824 = true ∧ L.length ≤ 256 ∧ L.all rightJ = true := by
  unfold mayJ at h
  split at h
  · cases h
  · split at h
    · cases h
    · split at h
      · rename_i h1 h2 h3
        exact ⟨by simpa using h1, by omega, h3⟩
      · cases h
set_option maxRecDepth 100000 in
set_option maxHeartbeats 8000000 in
theorem jrun_any (a : Option Addr) (ln cap : Nat) (L : List Jb) (len : Int) (W : World) (hI : Jbs W.heap.size W (.slice a ln cap) L) : Calls Try.prog 9 #[.slice a ln cap, .int .i64 len] W (RunP L len W) := by
  have HM := Lib.hid (may_any len a ln cap L W hI)
  by_cases hm : mayJ len L = 0
  · obtain ⟨hm1, hm2, hm3⟩ := may_0 hm
    have HRJ := Lib.hid (show ∀ i, i < L.length → rightJ (L.getD i jb0) = true from fun i hi => by
      rw [List.getD_eq_getElem?_getD, List.getElem?_eq_getElem hi]
      exact List.all_eq_true.1 hm3 _ (List.getElem_mem _))
    obtain rfl := hI.len
    have HI := Lib.hid (show ∀ u, Below W.heap.size W u → Jbs u.heap.size u (.slice a L.length cap) L from fun u hu => hI.on hu)
    rw [hm] at HM
    have HMZ := Lib.hid hm
    obtain ⟨i0, hi, hz0, hz1, hz2⟩ := info_parts info_sent
    obtain ⟨N, hN⟩ : ∃ N, N = L.length := ⟨_, rfl⟩
    rw [← hN] at HI HM ⊢
    have HN := Lib.hid hN
    have hN1 : N ≤ 256 := by omega
    clear hm hm1 hm2 hm3 hI hN
    go_enter Try.func9, Try.ntmps9
    go_wp2_with fail
    refine HM.out.mono ?_
    rintro y w1 ⟨rfl, hb⟩
    have HB1 := Lib.hid hb
    clear hb
    have HWT := Lib.hid (wait_any a N cap L len (by have := HN.out; omega) w1 (HI.out w1 HB1.out))
    go_wp2_with fail
    refine HWT.out.mono ?_
    rintro y w2 ⟨B, rfl, C0, vC0, hp0, hs0, hlb, hpw, hb⟩
    have HP0 := Lib.hid hp0; have HS0 := Lib.hid hs0; have HPW0 := Lib.hid hpw
    have HB2 := Lib.hid (below_transE HB1.out hb HB1.out.size)
    have HLB := Lib.hid (Nat.le_trans HB1.out.size hlb)
    obtain ⟨b1, hb1⟩ : ∃ b, b = w2.heap.size := ⟨_, rfl⟩
    rw [← hb1] at HPW0
    have HB1S := Lib.hid (show W.heap.size ≤ b1 by rw [hb1]; exact HB2.out.size)
    clear hp0 hs0 hpw hb hb1 hlb
    go_wp2_with fail
    go_loopw [8, 9] (fun s8 s9 wr => ∃ (S : List Sn) (H C : List PJ) (vH vC : Value), s9 = .int .i64 (nowS S) ∧ RunI L len b1 B W S H C vH vC s8 wr) (fun s8 _ _ => N - sliceLen s8)
    case atStart =>
      have k1 : HP len [] ([] : List PJ).length := fun i _ h => absurd h (by simp)
      have k2 : PW w2 b1 B len [] C0 (.slice none 0 0) vC0 := HPW0.out
      have k3 : ([] ++ C0 ++ (([] : List Sn).map (fun (e : Sn) => plc L e.j))).Perm (allP L) := by simpa using HP0.out
      have k4 : ∀ y ∈ ([] : List PJ), y.j.r ≤ nowS [] := fun y h => by cases h
      have k5 : w2.ownsRow b1 38 3 (.slice none 0 0) ([] : List Sn).length (([] : List Sn).flatMap Sn.C) := ⟨rfl, .inl ⟨rfl, rfl⟩⟩
      exact ⟨[], [], C0, .slice none 0 0, vC0, rfl, ⟨Tr.nil L len, k1, k2, k3, HS0.out, k4, by decide, by decide, k5, HB2.out⟩⟩
    case round =>
      obtain ⟨S, H, C, vH, vC, rfl, hR⟩ := hrel
      obtain ⟨av, cv, hv⟩ := hR.sl
      subst hv
      have HRI := Lib.hid hR
      have hlen := hR.len
      obtain ⟨M, hM⟩ : ∃ M, M = S.length := ⟨_, rfl⟩
      have HMM := Lib.hid hM
      rw [← hM]
      by_cases hlt : M < N
      · have i1 : (M : Int) < (N : Int) := by omega
        obtain ⟨now, hnow⟩ : ∃ n, n = nowS S := ⟨_, rfl⟩
        obtain ⟨t, ht⟩ : ∃ t, t = comeT H C now := ⟨_, rfl⟩
        have HNW := Lib.hid hnow; have HT := Lib.hid ht
        have HCM := Lib.hid (come_any hR.pw hR.hp (by have := HN.out; omega) now t ht)
        have HGT := Lib.hid (show 0 < H.length + C.length by have := HN.out; omega)
        rw [← hnow]
        clear hR hM hnow ht hlen
        go_wp2_with fail
        refine HCM.out.mono ?_
        rintro y w3 ⟨rfl, k, H', vH', vC', hp, hh, hr, hk, hpw, hch⟩
        have HPE := Lib.hid hp; have HHH := Lib.hid hh; have HRR := Lib.hid hr; have HKK := Lib.hid hk; have HPW3 := Lib.hid hpw; have HCH3 := Lib.hid hch
        clear hp hh hr hk hpw hch
        have HH0 := Lib.hid (show 0 < H'.length by
          rcases Nat.eq_zero_or_pos H'.length with h0 | h0
          · exfalso
            have hl := HPE.out.length_eq
            rw [h0, List.length_append] at hl
            have hH : H = [] := List.eq_nil_of_length_eq_zero (by omega)
            have hct : (C.take k).length = 0 := by omega
            have hC0 : 0 < C.length := by have := HGT.out; rw [hH] at this; simpa using this
            have hk0 : k = 0 := by rw [List.length_take] at hct; omega
            subst hk0
            have h1 := HKK.out hC0
            have h2 := HT.out
            unfold comeT at h2
            rw [if_pos hH] at h2
            cases C with
            | nil => simp at hC0
            | cons y C' => simp only [List.getElem_cons_zero] at h1; simp only at h2; omega
          · exact h0)
        have hHl : H'.length ≤ 256 := by have h1 := HPE.out.length_eq; have h2 := HRI.out.len; have h3 := HN.out; rw [List.length_append, List.length_take] at h1; omega
        have HPO := Lib.hid (hpop_any HPW3.out HHH.out HH0.out (by omega))
        go_wp2_with fail
        refine HPO.out.mono ?_
        rintro y w4 ⟨x, H2, vH2, rfl, hx, hmin, hh2, hpw4, hch4⟩
        obtain ⟨hnx, hxp, hpm⟩ := HRI.out.next (by rw [← HNW.out]; exact HT.out) HPE.out HRR.out HKK.out hx hmin
        have HNX := Lib.hid hnx; have HXP := Lib.hid hxp; have HPM := Lib.hid hpm; have HH2 := Lib.hid hh2; have HPW4 := Lib.hid hpw4; have HMIN := Lib.hid hx
        have HOW4 := Lib.hid (ownS_keep (ownS_keep HRI.out.own HCH3.out HPW3.out.lt) hch4 HPW3.out.lt)
        have HBE4 := Lib.hid (HRI.out.bel.trans ((HCH3.out.below (n := W.heap.size) (by have := HLB.out; omega) HB1S.out HRI.out.bel.size).trans (hch4.below (n := W.heap.size) (by have := HLB.out; omega) HB1S.out (Nat.le_trans HRI.out.bel.size HCH3.out.2.2.2.1))))
        clear hnx hxp hpm hh2 hpw4 hch4 hx hmin
        have hta := fun u => assert_placed x.v 20 u
        obtain ⟨tc, htc⟩ : ∃ c, c = t + x.j.c := ⟨_, rfl⟩
        have HRX := Lib.hid (show rightJ x.j = true by rw [HXP.out]; exact HRJ.out x.k HNX.out.hb)
        have hxr := rightJ_d HRX.out
        have HTB := Lib.hid (show 0 ≤ t ∧ t ≤ 1125899906842624 + (M : Int) * 1073741824 by
          have h1 := HRI.out.now0; have h2 := HRI.out.now1; have h3 := HT.out
          rw [← HNW.out] at h1 h2
          rw [← HMM.out] at h2
          unfold comeT at h3
          split at h3
          · cases C with
            | nil => simp only at h3; omega
            | cons y C' =>
              simp only at h3
              have hy : y ∈ allP L := HRI.out.perm.mem_iff.1 (by simp)
              obtain ⟨hyk, hyp⟩ := allP_mem hy
              have hyr := rightJ_d (HRJ.out y.k hyk)
              have e : y.j = L.getD y.k jb0 := congrArg PJ.j hyp
              rw [← e] at hyr
              omega
          · omega)
        have hw64 : wrap64 (t + x.j.c) = tc := by
          have := HTB.out
          rw [htc]
          unfold wrap64; omega
        have HTC := Lib.hid htc
        obtain ⟨w5, hw5⟩ : ∃ u, u = w4.alloc (.cells #[.int .i64 x.j.s, .int .i64 x.j.r, .int .i64 x.j.d, .int .i64 x.j.c, .int .i64 (x.k : Int)] 64) := ⟨_, rfl⟩
        have hb5 : Below w4.heap.size w4 w5 := by rw [hw5]; exact (Below.refl _ _).alloc (Nat.le_refl _) _
        have hb6 : Below w5.heap.size w5 (w5.alloc (.cells #[.int .i64 (x.k : Int), .int .i64 t, .int .i64 tc] 38)) := (Below.refl _ w5).alloc (Nat.le_refl _) _
        have hb46 : Below w4.heap.size w4 (w5.alloc (.cells #[.int .i64 (x.k : Int), .int .i64 t, .int .i64 tc] 38)) := hb5.trans (hb6.mono hb5.size)
        have HOW6 := Lib.hid (ownS_keep HOW4.out (Ch.of_below hb46) HPW4.out.lt)
        have HPW6 := Lib.hid (HPW4.out.on hb46)
        have HBE6 := Lib.hid (HBE4.out.trans (hb46.mono HBE4.out.size))
        have HNW6 := Lib.hid (show ∀ (j : Nat) (u : Value), (Sn.C ⟨x.k, t, tc⟩)[j]? = some u → (w5.alloc (.cells #[.int .i64 (x.k : Int), .int .i64 t, .int .i64 tc] 38)).cell? ((⟨w5.heap.size, 0, none⟩ : Addr).add j) = some u from fun j u hj => by
          have hlt := (List.getElem?_eq_some_iff.1 hj).1
          have h1 := (Blk.new w5 38 (Sn.C ⟨x.k, t, tc⟩)).cellAt (i := j) hlt
          have h2 := (List.getElem?_eq_some_iff.1 hj).2
          rw [h2] at h1
          have e : ((⟨w5.heap.size, 0, none⟩ : Addr).add j) = ⟨w5.heap.size, j, none⟩ := by cases j <;> simp [Addr.add]
          rw [e]
          exact h1)
        have HOC6 := Lib.hid (show ∀ u ∈ Sn.C ⟨x.k, t, tc⟩, u.oneCell' = true by simp [Sn.C, Value.oneCell'])
        rw [← HMM.out] at HOW6
        unfold PJ.v at hta ⊢
        clear htc hxr hb5 hb6 hb46
        go_upto_region 10 with fail
        rw [← hw5]
        have p0 : w5.cell? ⟨w4.heap.size, 0, none⟩ = some (.int .i64 x.j.s) := by rw [hw5]; exact (Blk.new w4 64 x.C).cellAt (i := 0) (by simp [PJ.C])
        have p1 : w5.cell? ⟨w4.heap.size, 1, none⟩ = some (.int .i64 x.j.r) := by rw [hw5]; exact (Blk.new w4 64 x.C).cellAt (i := 1) (by simp [PJ.C])
        have p2 : w5.cell? ⟨w4.heap.size, 2, none⟩ = some (.int .i64 x.j.d) := by rw [hw5]; exact (Blk.new w4 64 x.C).cellAt (i := 2) (by simp [PJ.C])
        have p3 : w5.cell? ⟨w4.heap.size, 3, none⟩ = some (.int .i64 x.j.c) := by rw [hw5]; exact (Blk.new w4 64 x.C).cellAt (i := 3) (by simp [PJ.C])
        have p4 : w5.cell? ⟨w4.heap.size, 4, none⟩ = some (.int .i64 (x.k : Int)) := by rw [hw5]; exact (Blk.new w4 64 x.C).cellAt (i := 4) (by simp [PJ.C])
        clear hw5 hta
        go_wp2_with (at_builtin; refine wpList_append_own _ rfl _ _ 24 rfl b1 38 i0 (.agg #[.int .i64 0, .int .i64 0, .int .i64 0]) 3 24 Try.underlying24 hi hz0 hz1 hz2 rfl (by decide) _ M (S.flatMap Sn.C) rfl HOW6.out ⟨w5.heap.size, 0, none⟩ 1 1 (Sn.C ⟨x.k, t, tc⟩) rfl rfl HNW6.out HOC6.out (by unfold maxLen; omega) (by omega) HPW6.out.sz ?_)
        intro v' w7 hown7 hgrow7 _
        have HPW7 := Lib.hid (HPW6.out.keepS HOW6.out hgrow7)
        have HO7 := Lib.hid hown7
        have HB7 := Lib.hid (HBE6.out.grown hgrow7 HBE6.out.size (fun g e => by
          rcases HOW6.out.2 with ⟨e1, _⟩ | ⟨g', cap', cur', e1, hb', _, _⟩
          · rw [e1] at e; cases e
          · rw [e1] at e
            have e2 : g' = g := by simpa [Value.ownBlock] using e
            have := HB1S.out
            omega))
        obtain ⟨av', cv', hv'⟩ : ∃ a c, v' = .slice a (M + 1) c := by
          rcases hown7.2 with ⟨e, e2⟩ | ⟨g, cap, cur, e, _⟩
          · omega
          · exact ⟨_, _, e⟩
        subst hv'
        clear hown7 hgrow7
        have HRN := Lib.hid (show RunI L len b1 B W (S ++ [⟨x.k, t, tc⟩]) H2 (C.drop k) vH2 vC' (.slice av' (M + 1) cv') w7 from by
          have hl1 : (S ++ [(⟨x.k, t, tc⟩ : Sn)]).length = M + 1 := by rw [List.length_append, HMM.out]; rfl
          have hxj : (L.getD x.k jb0) = x.j := (congrArg PJ.j HXP.out).symm
          refine ⟨?_, HH2.out, HPW7.out, ?_, ?_, ?_, ?_, ?_, ?_, HB7.out⟩
          · have := HRI.out.tr.snoc (by rw [← HNW.out] at *; exact HNX.out)
            rw [hxj, ← HTC.out] at this
            exact this
          · rw [List.map_append]
            have e : plc L x.k = x := HXP.out.symm
            simp only [List.map_cons, List.map_nil]
            rw [e]
            refine List.Perm.trans ?_ HPM.out
            refine List.Perm.append_left _ ?_
            exact (List.perm_append_singleton x _)
          · intro i j hi hj hij
            rw [List.getElem_drop, List.getElem_drop]
            rw [List.length_drop] at hi hj
            exact HRI.out.sort (k + i) (k + j) (by omega) (by omega) (by omega)
          · intro y hy
            rw [nowS_snoc]
            show y.j.r ≤ tc
            have hyH : y ∈ H ++ C.take k := HPE.out.mem_iff.1 (HMIN.out.mem_iff.1 (List.mem_cons_of_mem _ hy))
            have h9 := (rightJ_d HRX.out).2.2.2
            have h8 := HTC.out
            have h7 := HNX.out.hn
            rcases List.mem_append.1 hyH with h1 | h1
            · have := HRI.out.came y h1; omega
            · have := HRR.out y h1; omega
          · rw [nowS_snoc]
            show 0 ≤ tc
            have h9 := (rightJ_d HRX.out).2.2.2; have h8 := HTC.out; have := HTB.out
            omega
          · rw [nowS_snoc, hl1]
            show tc ≤ _
            have h9 := (rightJ_d HRX.out).2.2.2; have h8 := HTC.out; have := HTB.out
            omega
          · rw [hl1, List.flatMap_append, List.flatMap_singleton]
            exact HO7.out)
        have HNS := Lib.hid (nowS_snoc S ⟨x.k, t, tc⟩)
        go_wp2_with fail
        go_roundw
        case rel => exact ⟨_, H2, C.drop k, vH2, vC', by rw [HNS.out], HRN.out⟩
        case measure =>
          have hms : N - (M + 1) < N - M := by omega
          exact hms
      · have i1 : ¬ (M : Int) < (N : Int) := by omega
        have HFIN := Lib.hid (show S.length = L.length by have := HN.out; omega)
        clear hR hlen hM
        go_wp2_with fail
        go_ret2
        refine ⟨.inr ⟨HMZ.out, S, _, rfl, HRI.out.tr, HFIN.out, ?_⟩, HRI.out.bel⟩
        have ho := HRI.out.own
        rw [HMM.out]
        refine ⟨ho.1, ?_⟩
        rcases ho.2 with h1 | ⟨g, cap, cur, h1, h2, h3⟩
        · exact .inl h1
        · exact .inr ⟨g, cap, cur, h1, Nat.le_trans HB1S.out h2, h3⟩
  · have hk : (mayJ len L == 0) = false := beq_eq_false_iff_ne.2 hm
    have hk2 : (mayJ len L != 0) = true := bne_iff_ne.2 hm
    obtain ⟨m, hmm⟩ : ∃ m, m = mayJ len L := ⟨_, rfl⟩
    have HMM := Lib.hid hmm; have HNE := Lib.hid hm
    rw [← hmm] at HM hk hk2
    clear hm hmm hI
    go_enter Try.func9, Try.ntmps9
    go_wp2_with fail
    refine HM.out.mono ?_
    rintro y w1 ⟨rfl, hb⟩
    have HB1 := Lib.hid hb
    clear hb
    go_wp2_with fail
    go_ret2
    exact ⟨.inl ⟨HNE.out, by rw [← HMM.out]; rfl⟩, HB1.out⟩
end Go.Proofs.Ytbcccffjlkphpaa
