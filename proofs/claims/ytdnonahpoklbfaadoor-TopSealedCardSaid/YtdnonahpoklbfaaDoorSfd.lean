/- The code of package stuff (Unstuff): what it returns. Conditions: a string is a string, not longer than a thousand. -/
import Derived.Test.YtdnonahpoklbfaaDoorSfc
namespace Go.Proofs.YtdnonahpoklbfaaDoor
open Go.RowKit Go.Shelf
set_option maxHeartbeats 1000000 in
theorem unstuff_any (a : Option Addr) (len cap : Nat) (bs : List Nat) (hs : bs.length ≤ 1000) (w : World) (hI : Str w.heap.size w (.slice a len cap) bs) :
    Calls Tryd.prog 23 #[.slice a len cap] w fun e w' => Below w.heap.size w w' ∧
      ((∃ r out v, uFold (bitsOf bs) = some (r, out) ∧ e = .returned (.tuple #[v, .int .i64 (bs.length : Nat), .int .i64 0]) ∧ Ow w.heap.size w' v out) ∨
       (∃ k s, k < bs.length ∧ uFold (bitsTo bs k) = some s ∧ uFold (bitsTo bs (k + 1)) = none ∧ e = .returned (.tuple #[.slice none 0 0, .int .i64 (k : Nat), .int .i64 4]))) := by
  obtain rfl := hI.len
  have HI := Lib.hid hI
  clear hI
  obtain ⟨i0, hi, hz0, hz1, hz2⟩ := info_parts info_u8
  obtain ⟨c, hc⟩ : ∃ c, c = bs.length := ⟨_, rfl⟩
  have hcl : c ≤ 100000 := by omega
  have hmk := fun u => make_room c hcl u
  rw [hc] at hmk
  have HC := Lib.hid hc
  go_enter Tryd.func23, Tryd.ntmps23
  go_wp2_with (fail)
  obtain ⟨wr, hwr⟩ : ∃ wr, wr = ((w.alloc (.cells (madeCells #[.int .u8 0] bs.length) 5)).alloc (.cells #[.int .u8 0, .int .i64 0] 47)) := ⟨_, rfl⟩
  have hO : Ow w.heap.size wr (.slice (some ⟨w.heap.size, 0, none⟩) 0 c) [] := by rw [hwr, ← hc]; exact (room_own w c (Nat.le_refl _) hcl).alloc _
  have hT : Two wr (w.heap.size + 1) (.int .u8 0) (.int .i64 0) := by rw [hwr]; exact Two.new _ _ _ _ (by simp)
  have hz : wr.heap.size = w.heap.size + 2 := by rw [hwr]; simp
  have hB : Below w.heap.size w wr := by rw [hwr]; exact ((Below.refl _ w).alloc (Nat.le_refl _) _).alloc (by simp) _
  rw [← hwr]
  clear hwr hmk
  refine (clean_any _ _ _ bs (by omega) wr (HI.out.below hB |>.mono hB.size)).mono ?_
  rintro e w3 ⟨vC, rfl, ⟨gC, rfl, hgC, _, hrow⟩, hb⟩
  have hCs : Cs w3 gC bs.length (fun j => bitAt bs j) := by
    have h := Made.cs (bitsOf_length bs) hrow
    exact ⟨h.1, fun j hj => (h.2 j hj).trans (congrArg (fun q : Nat => some (Value.int .u8 (q : Int))) (bitsOf_get bs j hj))⟩
  have hO3 := hO.on hb
  have hT3 := hT.keep hb (by omega)
  have hB3 := below_trans' hB hb
  have hz3 : w.heap.size + 2 ≤ w3.heap.size := by have := hb.size; omega
  have hgM : gC ≠ w.heap.size := by omega
  have hgR : gC ≠ w.heap.size + 1 := by omega
  rw [bitsOf_length, ← hc]
  have H0 := Lib.hid (show Ow w.heap.size w3 (.slice (some ⟨w.heap.size, 0, none⟩) 0 c) [] ∧ Two w3 (w.heap.size + 1) (.int .u8 0) (.int .i64 0) ∧ Cs w3 gC bs.length (fun j => bitAt bs j) ∧ Below w.heap.size w w3 ∧ w.heap.size + 2 ≤ w3.heap.size from ⟨hO3, hT3, hCs, hB3, hz3⟩)
  clear hO hT hz hB hb hrow hgC HI hc hO3 hT3 hCs hB3 hz3
  go_wp2_with (fail)
  go_loopw [5, 17] (fun v i wr => ∃ (k : Nat) (r : Nat × Nat) (out : List Nat), k ≤ c ∧ i = .int .i64 k ∧ uFold (bitsTo bs k) = some (r, out) ∧ v = .slice (some ⟨w.heap.size, 0, none⟩) out.length c ∧ Ow w.heap.size wr v out ∧ Two wr (w.heap.size + 1) (.int .u8 (r.1 : Nat)) (.int .i64 (r.2 : Nat)) ∧ Cs wr gC bs.length (fun j => bitAt bs j) ∧ w.heap.size + 2 ≤ wr.heap.size ∧ Below w.heap.size w wr) (fun _ i _ => c - (intOf i).toNat)
  case atStart => exact ⟨0, (0, 0), [], Nat.zero_le _, rfl, rfl, rfl, H0.out.1, H0.out.2.1, H0.out.2.2.1, H0.out.2.2.2.2, H0.out.2.2.2.1⟩
  case round =>
    clear H0
    obtain ⟨k, r, out, hk, rfl, hu, rfl, hown, htwo, hcs, hsz, hnx⟩ := hrel
    obtain ⟨hr1, hol⟩ := uFold_fst _ (bitsTo bs k) _ rfl (bitsTo_le _ _) hu
    change r.1 ≤ 1 at hr1
    change out.length ≤ _ at hol
    rw [bitsTo_length] at hol
    have HU := Lib.hid hu
    clear hu
    by_cases hlt : k < c
    · obtain ⟨v, hv⟩ : ∃ v, v = bitAt bs k := ⟨_, rfl⟩
      have hv1 : v ≤ 1 := by rw [hv]; exact bitAt_le _ _
      have hck : wr.cell? ⟨gC, k, none⟩ = some (.int .u8 (v : Int)) := by rw [hv]; exact hcs.2 k (by have := HC.out; omega)
      have HV := Lib.hid hv
      clear hv
      obtain ⟨p0, p1, p2, p3⟩ := htwo
      have HTWO := Lib.hid (show Two wr (w.heap.size + 1) (.int .u8 (r.1 : Nat)) (.int .i64 (r.2 : Nat)) from ⟨p0, p1, p2, p3⟩)
      have HCS := Lib.hid hcs; have HOWN := Lib.hid hown; have HNB := Lib.hid hnx
      clear hcs hown hnx
      by_cases h5 : 5 ≤ r.2
      · by_cases hvd : v = 1 - r.1
        · have hnb : nextW r.1 (r.2 : Int) v = ((v, 1), 1) := by unfold nextW; rw [if_pos (by omega), bitN_self hr1, if_pos hvd]
          have HST := Lib.hid (show uFold (bitsTo bs (k + 1)) = some ((v, 1), out) by
            rw [bitsTo_succ, uFold_snoc, HU.out, ← HV.out]
            show (if 5 ≤ r.2 then (if v = 1 - r.1 then some ((v, 1), out) else none) else _) = _
            rw [if_pos h5, if_pos hvd])
          clear hvd
          have HN := Lib.hid (show ∀ u, Calls Tryd.prog 32 #[.agg #[.int .u8 (r.1 : Nat), .int .i64 (r.2 : Nat)], .int .u8 v] u fun e w' => e = .returned (.tuple #[.agg #[.int .u8 (v : Nat), .int .i64 1], .int .i64 1]) ∧ Below u.heap.size u w' from fun u => by
            have h := next_any r.1 (r.2 : Int) v u
            rw [bitN_self hv1, hnb] at h
            exact h)
          clear hnb
          go_wp2_with (fail)
          refine (HN.out _).mono ?_
          rintro e w2 ⟨rfl, hb⟩
          have HT2 := Lib.hid (HTWO.out.keep hb (by omega))
          have HC2 := Lib.hid (HCS.out.keep hb)
          have hO2 := HOWN.out.on hb
          have HB2 := Lib.hid (below_trans' HNB.out hb)
          have hsz2 : w.heap.size + 2 ≤ w2.heap.size := Nat.le_trans hsz hb.size
          have hne : ∀ q : Nat, (Value.slice (some ⟨w.heap.size, 0, none⟩) q c).ownBlock ≠ some (w.heap.size + 1) := fun q e => by
            have := Option.some.inj e
            change w.heap.size = w.heap.size + 1 at this
            omega
          have HOX := Lib.hid ((hO2.otherNe (hne _) (o := 0) (x := .int .u8 (v : Nat))).otherNe (hne _) (o := 1) (x := .int .i64 1))
          obtain ⟨q0, q1, q2, q3⟩ := HT2.out
          clear hb hO2 HN HTWO HCS HOWN HNB hck p0 p1 p2 p3 hsz
          have T3 := HT2.out.put (.int .u8 (v : Nat)) (.int .i64 1)
          have C3 := HC2.out.put hgR (.int .u8 (v : Nat)) (.int .i64 1)
          have HT3 := Lib.hid T3; have HC3 := Lib.hid C3
          clear T3 C3
          go_wp2_with (fail)
          go_roundw
          case rel => exact ⟨k + 1, (v, 1), out, by omega, by simp, HST.out, rfl, HOX.out, HT3.out, HC3.out, by rw [setCell_size2, setCell_size2]; omega, below_two2 HB2.out (Nat.le_succ _) _ _⟩
          case measure => simp [intOf]; omega
        · have hnb : nextW r.1 (r.2 : Int) v = ((r.1, (r.2 : Int)), 2) := by unfold nextW; rw [if_pos (by omega), bitN_self hr1, if_neg hvd]
          have HST := Lib.hid (show uFold (bitsTo bs (k + 1)) = none by
            rw [bitsTo_succ, uFold_snoc, HU.out, ← HV.out]
            show (if 5 ≤ r.2 then (if v = 1 - r.1 then some ((v, 1), out) else none) else _) = _
            rw [if_pos h5, if_neg hvd])
          clear hvd
          have HN := Lib.hid (show ∀ u, Calls Tryd.prog 32 #[.agg #[.int .u8 (r.1 : Nat), .int .i64 (r.2 : Nat)], .int .u8 v] u fun e w' => e = .returned (.tuple #[.agg #[.int .u8 (r.1 : Nat), .int .i64 (r.2 : Nat)], .int .i64 2]) ∧ Below u.heap.size u w' from fun u => by
            have h := next_any r.1 (r.2 : Int) v u
            rw [bitN_self hv1, hnb] at h
            exact h)
          clear hnb
          go_wp2_with (fail)
          refine (HN.out _).mono ?_
          rintro e w2 ⟨rfl, hb⟩
          have HT2 := Lib.hid (HTWO.out.keep hb (by omega))
          have HC2 := Lib.hid (HCS.out.keep hb)
          have hO2 := HOWN.out.on hb
          have HB2 := Lib.hid (below_trans' HNB.out hb)
          have hsz2 : w.heap.size + 2 ≤ w2.heap.size := Nat.le_trans hsz hb.size
          have hne : ∀ q : Nat, (Value.slice (some ⟨w.heap.size, 0, none⟩) q c).ownBlock ≠ some (w.heap.size + 1) := fun q e => by
            have := Option.some.inj e
            change w.heap.size = w.heap.size + 1 at this
            omega
          have HOX := Lib.hid ((hO2.otherNe (hne _) (o := 0) (x := .int .u8 (r.1 : Nat))).otherNe (hne _) (o := 1) (x := .int .i64 (r.2 : Nat)))
          obtain ⟨q0, q1, q2, q3⟩ := HT2.out
          clear hb hO2 HN HTWO HCS HOWN HNB hck p0 p1 p2 p3 hsz
          go_wp2_with (fail)
          exact bodyPost_ret (v := .tuple #[.slice none 0 0, .int .i64 (k : Nat), .int .i64 4]) (by simp [results, Tryd.results23, go_sem]) rfl ⟨below_two2 HB2.out (Nat.le_succ _) _ _, .inr ⟨k, _, by have := HC.out; omega, HU.out, HST.out, rfl⟩⟩
      · obtain ⟨m, hm⟩ : ∃ m, m = (nx r v).2 := ⟨_, rfl⟩
        have hnb : nextW r.1 (r.2 : Int) v = ((v, (m : Int)), 0) := by rw [show nextW r.1 (r.2 : Int) v = nextB r.1 (r.2 : Int) v from rfl, nextB_nx r v (by omega) hr1, nx_fst, hm]
        have HST := Lib.hid (show uFold (bitsTo bs (k + 1)) = some ((v, m), out ++ [v]) by
          rw [bitsTo_succ, uFold_snoc, HU.out, ← HV.out]
          show (if 5 ≤ r.2 then (if v = 1 - r.1 then some ((v, 1), out) else none) else some (nx r v, out ++ [v])) = _
          rw [if_neg h5]
          exact congrArg (fun z => some (z, out ++ [v])) (Prod.ext (nx_fst r v) hm.symm))
        clear hm
        have HN := Lib.hid (show ∀ u, Calls Tryd.prog 32 #[.agg #[.int .u8 (r.1 : Nat), .int .i64 (r.2 : Nat)], .int .u8 v] u fun e w' => e = .returned (.tuple #[.agg #[.int .u8 (v : Nat), .int .i64 (m : Nat)], .int .i64 0]) ∧ Below u.heap.size u w' from fun u => by
          have h := next_any r.1 (r.2 : Int) v u
          rw [bitN_self hv1, hnb] at h
          exact h)
        clear hnb
        go_wp2_with (fail)
        refine (HN.out _).mono ?_
        rintro e w2 ⟨rfl, hb⟩
        have HT2 := Lib.hid (HTWO.out.keep hb (by omega))
        have HC2 := Lib.hid (HCS.out.keep hb)
        have hO2 := HOWN.out.on hb
        have HB2 := Lib.hid (below_trans' HNB.out hb)
        have hsz2 : w.heap.size + 2 ≤ w2.heap.size := Nat.le_trans hsz hb.size
        have hne : ∀ q : Nat, (Value.slice (some ⟨w.heap.size, 0, none⟩) q c).ownBlock ≠ some (w.heap.size + 1) := fun q e => by
          have := Option.some.inj e
          change w.heap.size = w.heap.size + 1 at this
          omega
        have HOX := Lib.hid ((hO2.otherNe (hne _) (o := 0) (x := .int .u8 (v : Nat))).otherNe (hne _) (o := 1) (x := .int .i64 (m : Nat)))
        obtain ⟨q0, q1, q2, q3⟩ := HT2.out
        clear hb hO2 HN HTWO HCS HOWN HNB hck p0 p1 p2 p3 hsz
        go_wp2_with (at_builtin; refine wpList_append_fits _ rfl _ _ 23 rfl w.heap.size 5 i0 1 Tryd.underlying23 hi hz1 w.heap.size out.length c _ rfl (HOX.out.own.alloc _) ⟨_, 0, none⟩ 1 1 [.int .u8 (v : Int)] rfl rfl (by exact one_cell_at (by rw [setCell_size2, setCell_size2])) one_flat ?room ?_)
        case room => omega
        intro w4 hown4 hgrow
        have HO4 := Lib.hid (show Ow w.heap.size w4 (.slice (some ⟨w.heap.size, 0, none⟩) (out.length + 1) c) (out ++ [v]) from Ow.snoc hown4)
        have HT4 := Lib.hid (((HT2.out.put (.int .u8 (v : Int)) (.int .i64 (m : Int))).more (by rw [setCell_size2, setCell_size2]; omega) (.cells #[.int .u8 (v : Int)] 5)).grown hgrow (by simp; omega) (by omega))
        have HC4 := Lib.hid (((HC2.out.put hgR (.int .u8 (v : Int)) (.int .i64 (m : Int))).keep ((Below.refl _ _).alloc (Nat.le_refl _) (.cells #[.int .u8 (v : Int)] 5))).grown hgrow hgM)
        have hB4 : Below w.heap.size w w4 := ((below_two2 HB2.out (Nat.le_succ _) (.int .u8 (v : Int)) (.int .i64 (m : Int))).alloc (by rw [setCell_size2, setCell_size2]; omega) (.cells #[.int .u8 (v : Int)] 5)).grown hgrow (by simp; omega) (fun k e => by have := Option.some.inj e; omega)
        have HB4 := Lib.hid hB4
        have hsz4 : w.heap.size + 2 ≤ w4.heap.size := Nat.le_trans (by simp; omega) hgrow.size
        clear q0 q1 q2 q3 hown4 hgrow hB4 HOX HT2 HC2 HB2 hsz2
        go_wp2_with (fail)
        go_roundw
        case rel => exact ⟨k + 1, (v, m), out ++ [v], by omega, by simp, HST.out, by simp, HO4.out, HT4.out, HC4.out, hsz4, HB4.out⟩
        case measure => simp [intOf]; omega
    · obtain rfl : k = c := by omega
      have HO := Lib.hid hown
      clear hown htwo hcs
      go_wp2
      exact bodyPost_ret (v := .tuple #[.slice (some ⟨w.heap.size, 0, none⟩) out.length k, .int .i64 (k : Nat), .int .i64 0]) (by simp [results, Tryd.results23, go_sem]) rfl ⟨hnx, .inl ⟨r, out, _, by rw [← bitsTo_all, ← HC.out]; exact HU.out, by rw [← HC.out], HO.out⟩⟩
end Go.Proofs.YtdnonahpoklbfaaDoor
