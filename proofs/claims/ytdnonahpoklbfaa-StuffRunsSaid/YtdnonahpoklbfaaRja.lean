/- The document's own Unstuff in plain words: what it returns. Conditions: a string is a string, and not longer than a thousand. -/
import Derived.Test.YtdnonahpoklbfaaRia
namespace Go.Proofs.Ytdnonahpoklbfaa
open Go.RowKit Go.Shelf
theorem uFold_fst (k : Nat) : ∀ (l : List Nat) (s : (Nat × Nat) × List Nat), l.length = k → (∀ x ∈ l, x ≤ 1) → uFold l = some s → s.1.1 ≤ 1 ∧ s.2.length ≤ l.length := by
  induction k with
  | zero =>
    intro l s h _ hs
    obtain rfl := List.length_eq_zero_iff.1 h
    cases hs
    exact ⟨Nat.zero_le _, Nat.le_refl _⟩
  | succ k ih =>
    intro l s h hb hs
    rcases List.eq_nil_or_concat l with rfl | ⟨l', b, rfl⟩
    · cases h
    · rw [List.concat_eq_append] at h hb hs ⊢
      have hb1 : b ≤ 1 := hb b (by simp)
      rw [uFold_snoc] at hs
      cases h' : uFold l' with
      | none => rw [h'] at hs; cases hs
      | some p =>
        obtain ⟨h1, h2⟩ := ih l' p (by simpa using h) (fun x hx => hb x (by simp [hx])) h'
        rw [h'] at hs
        obtain ⟨r, out⟩ := p
        change (if 5 ≤ r.2 then (if b = 1 - r.1 then some ((b, 1), out) else none) else some (nx r b, out ++ [b])) = some s at hs
        change out.length ≤ l'.length at h2
        split at hs
        · split at hs
          · cases hs
            exact ⟨hb1, by show out.length ≤ _; simp; omega⟩
          · cases hs
        · cases hs
          exact ⟨by show (nx r b).1 ≤ 1; rw [nx_fst]; exact hb1, by show (out ++ [b]).length ≤ _; simp; omega⟩
theorem Ow.otherNe {B c o : Nat} {W : World} {v x : Value} {bs : List Nat} (h : Ow B W v bs) (hc : v.ownBlock ≠ some c) : Ow B (W.setCell ⟨c, o, none⟩ x) v bs := by
  obtain ⟨h0, h⟩ := h
  refine ⟨h0, ?_⟩
  rcases h with h | ⟨g, cap, cur, e, hB, hg, hr⟩
  · exact .inl h
  · have hne : g ≠ c := fun e' => hc (by rw [e, ← e']; rfl)
    exact .inr ⟨g, cap, cur, e, hB, (heap_setCell_other _ _ _ _ hne).trans hg, hr⟩
theorem after_alloc {wr w2 : World} {x y : Value} {T : TypeId} (hb : Below (wr.alloc (.cells #[x, y] T)).drew.heap.size (wr.alloc (.cells #[x, y] T)).drew w2) : Below wr.heap.size wr w2 ∧ wr.heap.size + 1 ≤ w2.heap.size ∧ Two w2 wr.heap.size x y := by
  have hz : (wr.alloc (.cells #[x, y] T)).drew.heap.size = wr.heap.size + 1 := by show (wr.alloc _).heap.size = _; simp
  rw [hz] at hb
  have h8 : Two (wr.alloc (.cells #[x, y] T)).drew wr.heap.size x y := Two.new wr x y T rfl
  exact ⟨((Below.refl _ wr).alloc (Nat.le_refl _) _).drew.trans (hb.mono (Nat.le_succ _)), by have := hb.size; omega, h8.keepAt hb (Nat.lt_succ_self _)⟩
theorem after_drew {wr w2 : World} (hb : Below wr.drew.heap.size wr.drew w2) : Below wr.heap.size wr w2 := (Below.refl _ wr).drew.trans hb
set_option maxHeartbeats 6000000 in
theorem refUnstuff_any (a : Option Addr) (len cap : Nat) (bs : List Nat) (hs : bs.length ≤ 1000) (w : World) (hI : Str w.heap.size w (.slice a len cap) bs) :
    Calls Try.prog 19 #[.slice a len cap] w fun e w' => Below w.heap.size w w' ∧
      ((∃ r out v, uFold (bitsOf bs) = some (r, out) ∧ e = .returned (.tuple #[v, .int .i64 (bs.length : Nat), .int .i64 0]) ∧ Ow (w.heap.size + 1) w' v out) ∨
       (∃ k s, k < bs.length ∧ uFold (bitsTo bs k) = some s ∧ uFold (bitsTo bs (k + 1)) = none ∧ e = .returned (.tuple #[.slice none 0 0, .int .i64 (k : Nat), .int .i64 4]))) := by
  have hl := hI.len
  have hlm : len ≤ 1000 := by omega
  have HI := Lib.hid hI; have HL := Lib.hid hl
  clear hI hl hs
  obtain ⟨i0, hi, hz0, hz1, hz2⟩ := info_parts info_u8
  go_enter Try.func19, Try.ntmps19
  go_wp2
  go_loopw [5, 7] (fun v i wr => ∃ (k : Nat) (r : Nat × Nat) (out : List Nat), k ≤ len ∧ i = .int .i64 k ∧ uFold (bitsTo bs k) = some (r, out) ∧ Ow (w.heap.size + 1) wr v out ∧ Two wr w.heap.size (.int .u8 (r.1 : Nat)) (.int .i64 (r.2 : Nat)) ∧ w.heap.size + 1 ≤ wr.heap.size ∧ Below w.heap.size w wr) (fun _ i _ => len - (intOf i).toNat)
  case atStart => exact ⟨0, (0, 0), [], Nat.zero_le _, rfl, rfl, Ow.nil _ _, Two.new _ _ _ _ rfl, by simp, (Below.refl _ _).alloc (Nat.le_refl _) _⟩
  case round =>
    obtain ⟨k, r, out, hk, rfl, hu, hown, htwo, hsz, hnx⟩ := hrel
    obtain ⟨hr1, hol⟩ := uFold_fst _ (bitsTo bs k) _ rfl (bitsTo_le _ _) hu
    change r.1 ≤ 1 at hr1
    change out.length ≤ _ at hol
    rw [bitsTo_length] at hol
    have HU := Lib.hid hu
    clear hu
    by_cases hlt : k < len
    · obtain ⟨b, off, rfl, hb, hc⟩ := HI.out.at hlt
      have hc1 := hc wr hnx
      obtain ⟨x, hx⟩ : ∃ x, x = bs[k]?.getD 0 := ⟨_, rfl⟩
      rw [← hx] at hc1 hc
      have HV := Lib.hid (show bitN x = bitAt bs k by rw [hx]; rfl)
      obtain ⟨p0, p1, p2, p3⟩ := htwo
      have HTWO := Lib.hid (show Two wr w.heap.size (.int .u8 (r.1 : Nat)) (.int .i64 (r.2 : Nat)) from ⟨p0, p1, p2, p3⟩)
      have HNX := Lib.hid hnx; have HOWN := Lib.hid hown; have HC := Lib.hid hc
      have hob : ∀ c, wr.heap.size ≤ c → u5.ownBlock ≠ some c := fun c hc e => by have := (World.ownsRow.lt HOWN.out c e).2; omega
      have hcA : ∀ T, (wr.alloc (.cells #[.int .u8 0, .int .i64 0] T)).cell? ⟨b, off + k, none⟩ = some (.int .u8 (x : Int)) := fun T => hc _ (hnx.alloc hnx.size _)
      have hp0A : ∀ T, (wr.alloc (.cells #[.int .u8 0, .int .i64 0] T)).cell? ⟨w.heap.size, 0, none⟩ = some (.int .u8 (r.1 : Nat)) := fun T => (HTWO.out.more (by omega) _).1
      have hp1A : ∀ T, (wr.alloc (.cells #[.int .u8 0, .int .i64 0] T)).cell? ⟨w.heap.size, 1, none⟩ = some (.int .i64 (r.2 : Nat)) := fun T => (HTWO.out.more (by omega) _).2.1
      obtain ⟨v, hv⟩ : ∃ v, v = bitN x := ⟨_, rfl⟩
      have hOne : ∀ u, Calls Try.prog 45 #[.int .u8 x] u fun e w' => e = .returned (.int .u8 (v : Nat)) ∧ u = w' := fun u => by
        have h := one4_any x u
        rw [← hv] at h
        exact h
      have HO := Lib.hid hOne
      have hv1 : v ≤ 1 := by rw [hv]; exact bitN_le _
      rw [← hv] at HV
      clear hc hx hb hnx hown hOne
      by_cases h5 : 5 ≤ r.2
      · by_cases hvd : v = 1 - r.1
        · have hnb : nextB r.1 (r.2 : Int) v = ((v, 1), 1) := by unfold nextB; rw [if_pos (by omega), bitN_self hr1, if_pos hvd]
          have HST := Lib.hid (show uFold (bitsTo bs (k + 1)) = some ((v, 1), out) by
            rw [bitsTo_succ, uFold_snoc, HU.out, ← HV.out]
            show (if 5 ≤ r.2 then (if v = 1 - r.1 then some ((v, 1), out) else none) else _) = _
            rw [if_pos h5, if_pos hvd])
          clear hvd
          have hN : ∀ u, Calls Try.prog 11 #[.agg #[.int .u8 (r.1 : Nat), .int .i64 (r.2 : Nat)], .int .u8 x] u fun e w' => e = .returned (.tuple #[.agg #[.int .u8 (v : Nat), .int .i64 1], .int .i64 1]) ∧ Below u.heap.size u w' := fun u => by
            have h := refNext_any r.1 (r.2 : Int) x u
            rw [← hv, hnb] at h
            exact h
          have HN := Lib.hid hN
          clear hN hnb hv
          go_wp2
          go_upto_region 6 with fail
          go_cut [8, 9] (fun s8 s9 wx => ∃ bb, s8 = .pointer (some ⟨bb, 0, none⟩) ∧ s9 = .int .i64 1 ∧ wr.heap.size ≤ bb ∧ bb < wx.heap.size ∧ Two wx bb (.int .u8 (v : Nat)) (.int .i64 1) ∧ Two wx w.heap.size (.int .u8 (r.1 : Nat)) (.int .i64 (r.2 : Nat)) ∧ Ow (w.heap.size + 1) wx u5 out ∧ Below w.heap.size w wx)
          case first =>
            go_region_with (go_at_call 11; refine (HN.out _).mono ?_; rintro e w2 ⟨rfl, hb⟩; first | (obtain ⟨h2a, hz8, q0, q1, q2, q3⟩ := after_alloc hb; clear hb) | (have h2a : Below wr.heap.size wr w2 := after_drew hb; clear hb))
            all_goals (go_wp2_with fail; go_meet; first | exact ⟨wr.heap.size, rfl, rfl, Nat.le_refl _, by rw [setCell_size2, setCell_size2]; omega, Two.put ⟨q0, q1, q2, q3⟩ _ _, (HTWO.out.keep h2a (by omega)).other (by omega) _ _, ((HOWN.out.on h2a).otherNe (hob _ (Nat.le_refl _))).otherNe (hob _ (Nat.le_refl _)), below_two2 (HNX.out.trans (h2a.mono (by omega))) (by omega) _ _⟩ | exact ⟨w2.heap.size, rfl, rfl, h2a.size, by simp, Two.new w2 _ _ _ rfl, (HTWO.out.keep h2a (by omega)).more (by have := h2a.size; omega) _, (HOWN.out.on h2a).on ((Below.refl _ w2).alloc (Nat.le_refl _) _), (HNX.out.trans (h2a.mono (by omega))).alloc (by have := h2a.size; omega) _⟩)
          case rest =>
          obtain ⟨W3, hW3⟩ : ∃ W3, W3 = wc := ⟨_, rfl⟩
          rw [← hW3] at hcut ⊢
          clear hW3
          obtain ⟨bb, rfl, rfl, hb1, hb2, T8, T3, hO3, hB3⟩ := hcut
          have HO3 := Lib.hid hO3; have HT3 := Lib.hid T3; have HB3 := Lib.hid hB3; have HT8 := Lib.hid T8
          have hc3 := HC.out _ hB3
          obtain ⟨t0, t1, t2, t3⟩ := T8
          obtain ⟨q0, q1, q2, q3⟩ := T3
          clear hO3 hB3 HN HTWO HOWN HNX p0 p1 p2 p3 hcA hp0A hp1A hc1
          clear hc3
          go_wp2_with (fail)
          go_roundw
          case rel => exact ⟨k + 1, (v, 1), out, by omega, by simp, HST.out, (HO3.out.other (by omega)).other (by omega), HT3.out.put _ _, by rw [setCell_size2, setCell_size2]; omega, below_two2 HB3.out (Nat.le_refl _) _ _⟩
          case measure => simp [intOf]; omega
        · have hnb : nextB r.1 (r.2 : Int) v = ((r.1, (r.2 : Int)), 2) := by unfold nextB; rw [if_pos (by omega), bitN_self hr1, if_neg hvd]
          have HST := Lib.hid (show uFold (bitsTo bs (k + 1)) = none by
            rw [bitsTo_succ, uFold_snoc, HU.out, ← HV.out]
            show (if 5 ≤ r.2 then (if v = 1 - r.1 then some ((v, 1), out) else none) else _) = _
            rw [if_pos h5, if_neg hvd])
          clear hvd
          have hN : ∀ u, Calls Try.prog 11 #[.agg #[.int .u8 (r.1 : Nat), .int .i64 (r.2 : Nat)], .int .u8 x] u fun e w' => e = .returned (.tuple #[.agg #[.int .u8 (r.1 : Nat), .int .i64 (r.2 : Nat)], .int .i64 2]) ∧ Below u.heap.size u w' := fun u => by
            have h := refNext_any r.1 (r.2 : Int) x u
            rw [← hv, hnb] at h
            exact h
          have HN := Lib.hid hN
          clear hN hnb hv
          go_wp2
          go_upto_region 6 with fail
          go_cut [8, 9] (fun s8 s9 wx => ∃ bb, s8 = .pointer (some ⟨bb, 0, none⟩) ∧ s9 = .int .i64 2 ∧ wr.heap.size ≤ bb ∧ bb < wx.heap.size ∧ Two wx bb (.int .u8 (r.1 : Nat)) (.int .i64 (r.2 : Nat)) ∧ Two wx w.heap.size (.int .u8 (r.1 : Nat)) (.int .i64 (r.2 : Nat)) ∧ Ow (w.heap.size + 1) wx u5 out ∧ Below w.heap.size w wx)
          case first =>
            go_region_with (go_at_call 11; refine (HN.out _).mono ?_; rintro e w2 ⟨rfl, hb⟩; first | (obtain ⟨h2a, hz8, q0, q1, q2, q3⟩ := after_alloc hb; clear hb) | (have h2a : Below wr.heap.size wr w2 := after_drew hb; clear hb))
            all_goals (go_wp2_with fail; go_meet; first | exact ⟨wr.heap.size, rfl, rfl, Nat.le_refl _, by rw [setCell_size2, setCell_size2]; omega, Two.put ⟨q0, q1, q2, q3⟩ _ _, (HTWO.out.keep h2a (by omega)).other (by omega) _ _, ((HOWN.out.on h2a).otherNe (hob _ (Nat.le_refl _))).otherNe (hob _ (Nat.le_refl _)), below_two2 (HNX.out.trans (h2a.mono (by omega))) (by omega) _ _⟩ | exact ⟨w2.heap.size, rfl, rfl, h2a.size, by simp, Two.new w2 _ _ _ rfl, (HTWO.out.keep h2a (by omega)).more (by have := h2a.size; omega) _, (HOWN.out.on h2a).on ((Below.refl _ w2).alloc (Nat.le_refl _) _), (HNX.out.trans (h2a.mono (by omega))).alloc (by have := h2a.size; omega) _⟩)
          case rest =>
          obtain ⟨W3, hW3⟩ : ∃ W3, W3 = wc := ⟨_, rfl⟩
          rw [← hW3] at hcut ⊢
          clear hW3
          obtain ⟨bb, rfl, rfl, hb1, hb2, T8, T3, hO3, hB3⟩ := hcut
          have HO3 := Lib.hid hO3; have HT3 := Lib.hid T3; have HB3 := Lib.hid hB3; have HT8 := Lib.hid T8
          have hc3 := HC.out _ hB3
          obtain ⟨t0, t1, t2, t3⟩ := T8
          obtain ⟨q0, q1, q2, q3⟩ := T3
          clear hO3 hB3 HN HTWO HOWN HNX p0 p1 p2 p3 hcA hp0A hp1A hc1
          clear hc3
          go_wp2_with (fail)
          exact bodyPost_ret (v := .tuple #[.slice none 0 0, .int .i64 (k : Nat), .int .i64 4]) (by simp [results, Try.results19, go_sem]) rfl ⟨HB3.out, .inr ⟨k, _, by have := HL.out; omega, HU.out, HST.out, rfl⟩⟩
      · obtain ⟨m, hm⟩ : ∃ m, m = (nx r v).2 := ⟨_, rfl⟩
        have hnb : nextB r.1 (r.2 : Int) v = ((v, (m : Int)), 0) := by rw [nextB_nx r v (by omega) hr1, nx_fst, hm]
        have HST := Lib.hid (show uFold (bitsTo bs (k + 1)) = some ((v, m), out ++ [v]) by
          rw [bitsTo_succ, uFold_snoc, HU.out, ← HV.out]
          show (if 5 ≤ r.2 then (if v = 1 - r.1 then some ((v, 1), out) else none) else some (nx r v, out ++ [v])) = _
          rw [if_neg h5]
          exact congrArg (fun z => some (z, out ++ [v])) (Prod.ext (nx_fst r v) hm.symm))
        clear hm
        have hN : ∀ u, Calls Try.prog 11 #[.agg #[.int .u8 (r.1 : Nat), .int .i64 (r.2 : Nat)], .int .u8 x] u fun e w' => e = .returned (.tuple #[.agg #[.int .u8 (v : Nat), .int .i64 (m : Nat)], .int .i64 0]) ∧ Below u.heap.size u w' := fun u => by
          have h := refNext_any r.1 (r.2 : Int) x u
          rw [← hv, hnb] at h
          exact h
        have HN := Lib.hid hN
        clear hN hnb hv
        go_wp2
        go_upto_region 6 with fail
        go_cut [8, 9] (fun s8 s9 wx => ∃ bb, s8 = .pointer (some ⟨bb, 0, none⟩) ∧ s9 = .int .i64 0 ∧ wr.heap.size ≤ bb ∧ bb < wx.heap.size ∧ Two wx bb (.int .u8 (v : Nat)) (.int .i64 (m : Nat)) ∧ Two wx w.heap.size (.int .u8 (r.1 : Nat)) (.int .i64 (r.2 : Nat)) ∧ Ow (w.heap.size + 1) wx u5 out ∧ Below w.heap.size w wx)
        case first =>
          go_region_with (go_at_call 11; refine (HN.out _).mono ?_; rintro e w2 ⟨rfl, hb⟩; first | (obtain ⟨h2a, hz8, q0, q1, q2, q3⟩ := after_alloc hb; clear hb) | (have h2a : Below wr.heap.size wr w2 := after_drew hb; clear hb))
          all_goals (go_wp2_with fail; go_meet; first | exact ⟨wr.heap.size, rfl, rfl, Nat.le_refl _, by rw [setCell_size2, setCell_size2]; omega, Two.put ⟨q0, q1, q2, q3⟩ _ _, (HTWO.out.keep h2a (by omega)).other (by omega) _ _, ((HOWN.out.on h2a).otherNe (hob _ (Nat.le_refl _))).otherNe (hob _ (Nat.le_refl _)), below_two2 (HNX.out.trans (h2a.mono (by omega))) (by omega) _ _⟩ | exact ⟨w2.heap.size, rfl, rfl, h2a.size, by simp, Two.new w2 _ _ _ rfl, (HTWO.out.keep h2a (by omega)).more (by have := h2a.size; omega) _, (HOWN.out.on h2a).on ((Below.refl _ w2).alloc (Nat.le_refl _) _), (HNX.out.trans (h2a.mono (by omega))).alloc (by have := h2a.size; omega) _⟩)
        case rest =>
        obtain ⟨W3, hW3⟩ : ∃ W3, W3 = wc := ⟨_, rfl⟩
        rw [← hW3] at hcut ⊢
        clear hW3
        obtain ⟨bb, rfl, rfl, hb1, hb2, T8, T3, hO3, hB3⟩ := hcut
        have HO3 := Lib.hid hO3; have HT3 := Lib.hid T3; have HB3 := Lib.hid hB3; have HT8 := Lib.hid T8
        have hc3 := HC.out _ hB3
        obtain ⟨t0, t1, t2, t3⟩ := T8
        obtain ⟨q0, q1, q2, q3⟩ := T3
        clear hO3 hB3 HN HTWO HOWN HNX p0 p1 p2 p3 hcA hp0A hp1A hc1
        go_wp2_with (fail)
        refine (HO.out _).mono ?_
        rintro e w' ⟨rfl, rfl⟩
        clear hc3 HC HO
        have HO3' := Lib.hid HO3.out.own
        have hsz3 : w.heap.size + 1 ≤ W3.heap.size := by omega
        go_wp2_with (at_builtin; refine wpList_append_own _ rfl _ _ 36 rfl (w.heap.size + 1) 5 i0 (.int .u8 0) 1 1 Try.underlying36 hi hz0 hz1 hz2 rfl (by decide) _ _ _ rfl (HO3'.out.alloc _) ⟨_, 0, none⟩ 1 1 [.int .u8 (v : Int)] rfl rfl one_cell one_flat ?c3 ?c4 ?c5 ?_)
        case c3 => unfold maxLen; omega
        case c4 => omega
        case c5 => simp; omega
        intro v' w4 hown4 hgrow _
        have hg8 : some bb ≠ u5.ownBlock := fun e => hob bb hb1 e.symm
        have h34 : Below (w.heap.size + 1) W3 w4 := ((Below.refl _ W3).alloc hsz3 _).grown hgrow (by simp; omega) HO3.out.ge
        have T8 : Two w4 bb (.int .u8 (v : Nat)) (.int .i64 (m : Nat)) := by
          have hA := HT8.out.more hb2 (.cells #[.int .u8 (v : Int)] 5)
          have hbl : bb < (W3.alloc (.cells #[.int .u8 (v : Int)] 5)).heap.size := by simp; omega
          obtain ⟨x0, x1, x2, x3⟩ := hA
          exact ⟨(World.cell?_of_block (hgrow.block bb hbl hg8)).trans x0, (World.cell?_of_block (hgrow.block bb hbl hg8)).trans x1, (World.frozen?_of_block (hgrow.block bb hbl hg8)).trans x2, (World.frozen?_of_block (hgrow.block bb hbl hg8)).trans x3⟩
        have HO4 := Lib.hid (show Ow (w.heap.size + 1) w4 v' (out ++ [v]) from Ow.snoc hown4)
        have T4 := HT3.out.keepAt h34 (by omega)
        have HT4 := Lib.hid T4
        have HB4 := Lib.hid (HB3.out.trans (h34.mono (by omega)))
        have hsz4 : w.heap.size + 1 ≤ w4.heap.size := Nat.le_trans hsz3 h34.size
        obtain ⟨t0, t1, t2, t3⟩ := T8
        obtain ⟨q0, q1, q2, q3⟩ := T4
        clear hown4 hgrow h34 HO3 HO3' HT3 HB3 HT8 hsz3
        go_wp2_with (fail)
        go_roundw
        case rel => exact ⟨k + 1, (v, m), out ++ [v], by omega, by simp, HST.out, (HO4.out.other (by omega)).other (by omega), HT4.out.put _ _, by rw [setCell_size2, setCell_size2]; omega, below_two2 HB4.out (Nat.le_refl _) _ _⟩
        case measure => simp [intOf]; omega
    · obtain rfl : k = len := by omega
      have HO := Lib.hid hown
      clear hown htwo
      go_wp2
      exact bodyPost_ret (v := .tuple #[u5, .int .i64 (k : Nat), .int .i64 0]) (by simp [results, Try.results19, go_sem]) rfl ⟨hnx, .inl ⟨r, out, u5, by rw [← bitsTo_all, ← HL.out]; exact HU.out, by rw [HL.out], HO.out⟩⟩
end Go.Proofs.Ytdnonahpoklbfaa
