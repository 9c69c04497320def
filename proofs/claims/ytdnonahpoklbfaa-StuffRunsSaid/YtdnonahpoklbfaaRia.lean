/- The document's own Stuff in plain words: what it returns. Conditions: a string is a string, and not longer than a thousand. -/
import Derived.Test.YtdnonahpoklbfaaRha
import Derived.Deep.DeepCutAuto
import Derived.Deep.RegionWith
namespace Go.Proofs.Ytdnonahpoklbfaa
open Go.RowKit Go.Shelf
theorem nextB_nx (r : Nat × Nat) (v : Nat) (h : r.2 ≤ 4) (h1 : r.1 ≤ 1) : nextB r.1 (r.2 : Int) v = (((nx r v).1, ((nx r v).2 : Int)), 0) := by
  have hb : bitN r.1 = r.1 := by
    obtain e | e : r.1 = 0 ∨ r.1 = 1 := by omega
    · rw [e]; rfl
    · rw [e]; rfl
  unfold nextB nx
  rw [if_neg (by omega), hb]
  by_cases c : 0 < r.2 ∧ r.1 = v
  · rw [if_pos c, if_pos ⟨by omega, c.2⟩]
    rfl
  · rw [if_neg c, if_neg (fun e => c ⟨by omega, e.2⟩)]
    rfl
theorem sFold_fst (l : List Nat) (hb : ∀ x ∈ l, x ≤ 1) : (sFold l).1.1 ≤ 1 := by
  rcases List.eq_nil_or_concat l with rfl | ⟨l', b, rfl⟩
  · exact Nat.zero_le _
  · rw [List.concat_eq_append, sFold_snoc]
    have h := hb b (by simp)
    unfold sStep
    split
    · show 1 - b ≤ 1; omega
    · show (nx _ _).1 ≤ 1; rw [nx_fst]; exact h
theorem one_cell_at {W : World} {T : TypeId} {x : Value} {B : Nat} (h : B = W.heap.size) : ∀ (j : Nat) (u : Value), [x][j]? = some u → (W.alloc (.cells #[x] T)).cell? (Addr.add ⟨B, 0, none⟩ j) = some u := by
  subst h
  exact one_cell
theorem Ow.other {B c o : Nat} {W : World} {v x : Value} {bs : List Nat} (h : Ow B W v bs) (hc : c < B) : Ow B (W.setCell ⟨c, o, none⟩ x) v bs := by
  obtain ⟨h0, h⟩ := h
  refine ⟨h0, ?_⟩
  rcases h with h | ⟨g, cap, cur, e, hB, hg, hr⟩
  · exact .inl h
  · exact .inr ⟨g, cap, cur, e, hB, (heap_setCell_other _ _ _ _ (by show g ≠ c; omega)).trans hg, hr⟩
theorem Two.keepAt {w w1 : World} {n B : Nat} {x y : Value} (h : Two w B x y) (hb : Below n w w1) (hB : B < n) : Two w1 B x y := by
  obtain ⟨a, b, c, d⟩ := h
  exact ⟨(hb.cell (p := ⟨B, 0, none⟩) hB).trans a, (hb.cell (p := ⟨B, 1, none⟩) hB).trans b, (hb.frozen (p := ⟨B, 0, none⟩) hB).trans c, (hb.frozen (p := ⟨B, 1, none⟩) hB).trans d⟩
theorem bitN_self {v : Nat} (h : v ≤ 1) : bitN v = v := by
  obtain e | e : v = 0 ∨ v = 1 := by omega
  · rw [e]; rfl
  · rw [e]; rfl
theorem bitsTo_le (bs : List Nat) (k : Nat) : ∀ x ∈ bitsTo bs k, x ≤ 1 := by
  intro x hx
  obtain ⟨j, _, rfl⟩ := List.mem_map.1 hx
  exact bitAt_le _ _
set_option maxHeartbeats 1000000 in
theorem refStuff_any (a : Option Addr) (len cap : Nat) (bs : List Nat) (hs : bs.length ≤ 1000) (w : World) (hI : Str w.heap.size w (.slice a len cap) bs) :
    Calls Try.prog 22 #[.slice a len cap] w fun e w' => ∃ v, e = .returned v ∧ Ow (w.heap.size + 1) w' v (stuffB (bitsOf bs)) ∧ Below w.heap.size w w' := by
  have hl := hI.len
  have hlm : len ≤ 1000 := by omega
  have HI := Lib.hid hI; have HL := Lib.hid hl
  clear hI hl hs
  obtain ⟨i0, hi, hz0, hz1, hz2⟩ := info_parts info_u8
  go_enter Try.func22, Try.ntmps22
  go_wp2
  go_loopw [3, 5] (fun v i wr => ∃ (k : Nat), k ≤ len ∧ i = .int .i64 k ∧ Ow (w.heap.size + 1) wr v (sFold (bitsTo bs k)).2 ∧ Two wr w.heap.size (.int .u8 ((sFold (bitsTo bs k)).1.1 : Nat)) (.int .i64 ((sFold (bitsTo bs k)).1.2 : Nat)) ∧ w.heap.size + 1 ≤ wr.heap.size ∧ Below w.heap.size w wr) (fun _ i _ => len - (intOf i).toNat)
  case atStart => exact ⟨0, Nat.zero_le _, rfl, Ow.nil _ _, Two.new _ _ _ _ rfl, by simp, (Below.refl _ _).alloc (Nat.le_refl _) _⟩
  case round =>
    obtain ⟨k, hk, rfl, hown, htwo, hsz, hnx⟩ := hrel
    obtain ⟨r, hr⟩ : ∃ r, r = (sFold (bitsTo bs k)).1 := ⟨_, rfl⟩
    obtain ⟨out, hout⟩ : ∃ out, out = (sFold (bitsTo bs k)).2 := ⟨_, rfl⟩
    have hlt4 : r.2 ≤ 4 := by rw [hr]; exact sFold_lt _
    have hr1 : r.1 ≤ 1 := by rw [hr]; exact sFold_fst _ (bitsTo_le _ _)
    rw [← hr] at htwo
    rw [← hout] at hown
    have HR := Lib.hid hr; have HOUT := Lib.hid hout
    clear hr hout
    by_cases hlt : k < len
    · obtain ⟨b, off, rfl, hb, hc⟩ := HI.out.at hlt
      have hc1 := hc wr hnx
      obtain ⟨x, hx⟩ : ∃ x, x = bs[k]?.getD 0 := ⟨_, rfl⟩
      rw [← hx] at hc1 hc
      have HV := Lib.hid (show bitN x = bitAt bs k by rw [hx]; rfl)
      obtain ⟨p0, p1, p2, p3⟩ := htwo
      have HTWO := Lib.hid (show Two wr w.heap.size (.int .u8 (r.1 : Nat)) (.int .i64 (r.2 : Nat)) from ⟨p0, p1, p2, p3⟩)
      have HNX := Lib.hid hnx; have HOWN := Lib.hid hown; have HC := Lib.hid hc
      obtain ⟨v, hv⟩ : ∃ v, v = bitN x := ⟨_, rfl⟩
      obtain ⟨m, hm⟩ : ∃ m, m = (nx r v).2 := ⟨_, rfl⟩
      have hN : ∀ u, Calls Try.prog 11 #[.agg #[.int .u8 (r.1 : Nat), .int .i64 (r.2 : Nat)], .int .u8 x] u fun e w' => e = .returned (.tuple #[.agg #[.int .u8 (v : Nat), .int .i64 (m : Nat)], .int .i64 0]) ∧ Below u.heap.size u w' := fun u => by
        have h := refNext_any r.1 (r.2 : Int) x u
        rw [← hv, nextB_nx r v hlt4 hr1, nx_fst, ← hm] at h
        exact h
      have HN := Lib.hid hN
      have hOne : ∀ u, Calls Try.prog 45 #[.int .u8 x] u fun e w' => e = .returned (.int .u8 (v : Nat)) ∧ u = w' := fun u => by
        have h := one4_any x u
        rw [← hv] at h
        exact h
      have HO := Lib.hid hOne
      have HM := Lib.hid hm
      have hv1 : v ≤ 1 := by rw [hv]; exact bitN_le _
      rw [← hv] at HV
      have hD : ∀ u, Calls Try.prog 13 #[.agg #[.int .u8 (v : Nat), .int .i64 (m : Nat)]] u fun e w' => e = .returned (.tuple #[.int .u8 ((dueB v m).1 : Nat), .bool (dueB v m).2]) ∧ Below u.heap.size u w' := fun u => refDue_any v (m : Int) u
      have HD := Lib.hid hD
      clear hc hx hb hnx hown hN hm hv hD hOne
      go_upto_region 6 with fail
      go_cut [] (fun wx => Two wx w.heap.size (.int .u8 (v : Nat)) (.int .i64 (m : Nat)) ∧ Ow (w.heap.size + 1) wx u3 out ∧ Below w.heap.size w wx ∧ w.heap.size + 1 ≤ wx.heap.size)
      case first =>
        go_region_with (go_at_call 11; refine (HN.out _).mono ?_; rintro e w2 ⟨rfl, hb⟩; have h2a : Below wr.heap.size wr w2 := (by first | exact (Below.refl _ wr).drew.trans hb | exact (Below.refl _ wr).drew.drew.trans hb | exact (Below.refl _ wr).drew.drew.drew.trans hb | exact (Below.refl _ wr).trans hb); obtain ⟨q0, q1, q2, q3⟩ := HTWO.out.keep h2a (by omega))
        all_goals (go_wp2_with fail; go_meet; exact ⟨(HTWO.out.keep h2a (by omega)).put _ _, ((HOWN.out.on h2a).other (by omega)).other (by omega), below_two2 (HNX.out.trans (h2a.mono (by omega))) (Nat.le_refl _) _ _, by rw [setCell_size2, setCell_size2]; exact Nat.le_trans hsz h2a.size⟩)
      case rest =>
      obtain ⟨W3, hW3⟩ : ∃ W3, W3 = wc := ⟨_, rfl⟩
      rw [← hW3] at hcut ⊢
      clear hW3
      obtain ⟨T3, hO3, hB3, hsz3⟩ := hcut
      have HO3 := Lib.hid hO3; have HT3 := Lib.hid T3; have HB3 := Lib.hid hB3
      have hc3 := HC.out _ hB3
      clear T3 hO3 hB3 HN HTWO HOWN HNX p0 p1 p2 p3
      go_wp2_with (fail)
      refine (HO.out _).mono ?_
      rintro e w' ⟨rfl, rfl⟩
      clear hc3
      have hol := HO3.out.own
      have hle : out.length ≤ 1300 := by
        have := stuff_most (bitsTo bs k)
        rw [bitsTo_length] at this
        have e : out.length = (stuffB (bitsTo bs k)).length := by rw [HOUT.out]; rfl
        omega
      have HO3' := Lib.hid hol
      clear hol HC HO
      go_wp2_with (at_builtin; refine wpList_append_own _ rfl _ _ 36 rfl (w.heap.size + 1) 5 i0 (.int .u8 0) 1 1 Try.underlying36 hi hz0 hz1 hz2 rfl (by decide) _ _ _ rfl (HO3'.out.alloc _) ⟨_, 0, none⟩ 1 1 [.int .u8 (v : Int)] rfl rfl one_cell one_flat ?c3 ?c4 ?c5 ?_)
      case c3 => unfold maxLen; omega
      case c4 => omega
      case c5 => simp; omega
      intro v' w4 hown4 hgrow _
      have h34 : Below (w.heap.size + 1) W3 w4 := ((Below.refl _ W3).alloc hsz3 _).grown hgrow (by simp; omega) HO3.out.ge
      have HO4 := Lib.hid (show Ow (w.heap.size + 1) w4 v' (out ++ [v]) from Ow.snoc hown4)
      have T4 := HT3.out.keepAt h34 (by omega)
      have HT4 := Lib.hid T4
      have HB4 := Lib.hid (HB3.out.trans (h34.mono (by omega)))
      have hsz4 : w.heap.size + 1 ≤ w4.heap.size := Nat.le_trans hsz3 h34.size
      obtain ⟨q0, q1, q2, q3⟩ := T4
      clear hown4 hgrow h34 HO3 HO3' HT3 HB3 hsz3
      go_wp2_with (fail)
      refine (HD.out _).mono ?_
      rintro e w5 ⟨rfl, hb⟩
      have T5 := HT4.out.keep hb (by omega)
      have HT5 := Lib.hid T5
      have HO5 := Lib.hid (HO4.out.on hb)
      have HB5 := Lib.hid (below_trans' HB4.out hb)
      have hsz5 : w.heap.size + 1 ≤ w5.heap.size := Nat.le_trans hsz4 hb.size
      obtain ⟨q0, q1, q2, q3⟩ := T5
      clear hb HD HT4 HO4 HB4 hsz4
      by_cases h5 : 5 ≤ m
      · have hd : dueB v (m : Int) = (1 - v, true) := by unfold dueB; rw [if_neg (by omega), bitN_self hv1]
        rw [hd]
        clear hd
        have hol := HO5.out.own
        rw [List.length_append] at hol
        have HO5' := Lib.hid hol
        clear hol
        go_wp2_with (at_builtin; refine wpList_append_own _ rfl _ _ 36 rfl (w.heap.size + 1) 5 i0 (.int .u8 0) 1 1 Try.underlying36 hi hz0 hz1 hz2 rfl (by decide) _ _ _ rfl (HO5'.out.alloc _) ⟨_, 0, none⟩ 1 1 [.int .u8 ((1 - v : Nat) : Int)] rfl rfl one_cell one_flat ?c3 ?c4 ?c5 ?_)
        case c3 => unfold maxLen; simp; omega
        case c4 => simp; omega
        case c5 => simp; omega
        intro v6 w6 hown6 hgrow _
        have h56 : Below (w.heap.size + 1) w5 w6 := ((Below.refl _ w5).alloc hsz5 _).grown hgrow (by simp; omega) HO5.out.ge
        have HO6 := Lib.hid (show Ow (w.heap.size + 1) w6 v6 (out ++ [v] ++ [1 - v]) from Ow.snoc (by rw [List.length_append, List.map_append, List.append_assoc]; exact hown6))
        have T6 := HT5.out.keepAt h56 (by omega)
        have HT6 := Lib.hid T6
        have HB6 := Lib.hid (HB5.out.trans (h56.mono (by omega)))
        have hsz6 : w.heap.size + 1 ≤ w6.heap.size := Nat.le_trans hsz5 h56.size
        obtain ⟨q0, q1, q2, q3⟩ := T6
        clear hown6 hgrow h56 HO5 HO5' HT5 HB5 hsz5
        go_wp2_with (fail)
        go_roundw
        case rel =>
          have hst : sFold (bitsTo bs (k + 1)) = ((1 - v, 1), out ++ [v] ++ [1 - v]) := by
            rw [bitsTo_succ, sFold_snoc]
            unfold sStep
            rw [← HR.out, ← HOUT.out, ← HV.out, if_pos (by rw [← HM.out]; exact h5)]
          refine ⟨k + 1, by omega, by simp, ?_, ?_, by rw [setCell_size2, setCell_size2]; exact hsz6, below_two2 HB6.out (Nat.le_refl _) _ _⟩
          · rw [hst]; exact (HO6.out.other (by omega)).other (by omega)
          · rw [hst]; exact HT6.out.put _ _
        case measure => simp [intOf]; omega
      · have hd : dueB v (m : Int) = (0, false) := if_pos (by omega)
        rw [hd]
        clear hd
        go_wp2_with (fail)
        go_roundw
        case rel =>
          have hst : sFold (bitsTo bs (k + 1)) = ((v, m), out ++ [v]) := by
            rw [bitsTo_succ, sFold_snoc]
            unfold sStep
            rw [← HR.out, ← HOUT.out, ← HV.out, if_neg (by rw [← HM.out]; exact h5)]
            exact congrArg (fun z => (z, out ++ [v])) (Prod.ext (nx_fst r v) HM.out.symm)
          refine ⟨k + 1, by omega, by simp, ?_, ?_, hsz5, HB5.out⟩
          · rw [hst]; exact HO5.out
          · rw [hst]; exact HT5.out
        case measure => simp [intOf]; omega
    · obtain rfl : k = len := by omega
      have HO := Lib.hid (show Ow (w.heap.size + 1) wr _ (stuffB (bitsOf bs)) by
        unfold stuffB
        rw [← bitsTo_all, ← HL.out, ← HOUT.out]; exact hown)
      clear hown htwo
      go_wp2
      go_ret
      exact ⟨_, rfl, HO.out, hnx⟩
end Go.Proofs.Ytdnonahpoklbfaa
