/- The code of package wire (opened): what it returns. Conditions: not more than a thousand bits. -/
import Derived.Test.YtndjennhbggoiaaDoorWrb
import Derived.Laws.AppendOwn
import Derived.Scope
namespace Go.Proofs.YtndjennhbggoiaaDoor
open Go.RowKit Go.Shelf
/-- What opened has laid: its body's box, and its run's. -/
structure OpS (w W : World) (r : Nat × Nat) (raw : List Nat) (v : Value) : Prop where
  cell : W.cell? ⟨w.heap.size, 0, none⟩ = some v
  froz : W.frozen? ⟨w.heap.size, 0, none⟩ = false
  own : Ow (w.heap.size + 2) W v raw
  two : Two W (w.heap.size + 1) (.int .u8 (r.1 : Nat)) (.int .i64 (r.2 : Nat))
  bit : r.1 ≤ 1
  size : w.heap.size + 2 ≤ W.heap.size
  below : Below w.heap.size w W
theorem OpS.on {w W X : World} {r : Nat × Nat} {raw : List Nat} {v : Value} (h : OpS w W r raw v) (hb : Below W.heap.size W X) : OpS w X r raw v :=
  ⟨((bcell2 hb).1 _ _ (by have := h.size; omega)).trans h.cell, ((bcell2 hb).2 _ _ (by have := h.size; omega)).trans h.froz, h.own.on hb, h.two.keep hb (by have := h.size; omega), h.bit, by have := h.size; have := hb.size; omega, h.below.trans (hb.mono h.below.size)⟩
theorem two_new8 {base X : World} (u : World) (h : Below base.heap.size base u) (hb : Below (u.alloc (.cells #[.int .u8 0, .int .i64 0] 114)).heap.size (u.alloc (.cells #[.int .u8 0, .int .i64 0] 114)) X) : base.heap.size ≤ u.heap.size ∧ u.heap.size < X.heap.size ∧ Two X u.heap.size (.int .u8 0) (.int .i64 0) :=
  ⟨h.size, by have := hb.size; simp at this; omega, (Two.new u _ _ _ rfl).keep hb (by simp)⟩
theorem two_new8d {base X : World} (u : World) (h : Below base.heap.size base u) (hb : Below (u.alloc (.cells #[.int .u8 0, .int .i64 0] 114)).drew.heap.size (u.alloc (.cells #[.int .u8 0, .int .i64 0] 114)).drew X) : base.heap.size ≤ u.heap.size ∧ u.heap.size < X.heap.size ∧ Two X u.heap.size (.int .u8 0) (.int .i64 0) :=
  two_new8 u h ((Below.refl _ _).drew.trans hb)
set_option maxRecDepth 100000 in
set_option maxHeartbeats 8000000 in
theorem opened_any (a : Option Addr) (len cap : Nat) (bs : List Nat) (hl : bs.length ≤ 1000) (w : World) (hI : Str w.heap.size w (.slice a len cap) bs) : Calls Tryd.prog 87 #[.slice a len cap] w fun x w' => ∃ v raw, x = .returned (.tuple #[v, .int .i64 ((opnB (0, 0) [] 0 (bitsOf bs)).2.1 : Nat), .int .i64 ((opnB (0, 0) [] 0 (bitsOf bs)).1 : Nat)]) ∧ bitsOf raw = (opnB (0, 0) [] 0 (bitsOf bs)).2.2 ∧ raw.length ≤ bs.length ∧ Ow w.heap.size w' v raw ∧ Below w.heap.size w w' := by
  have hlen := hI.len
  obtain ⟨OPN, hO⟩ : ∃ OPN, OPN = opnB (0, 0) [] 0 (bitsOf bs) := ⟨_, rfl⟩
  rw [← hO]
  have hlm : len ≤ 1000 := by omega
  have HO := Lib.hid hO; have HI := Lib.hid hI; have HL := Lib.hid hl; have HLEN := Lib.hid hlen
  clear hO hI hl hlen
  obtain ⟨i0, hi, hz0, hz1', hz2⟩ := info_parts info_u8
  go_enter Tryd.func87, Tryd.ntmps87
  go_wp2_with fail
  go_step3
  go_wp2_with fail
  go_step3
  go_wp2_with fail
  go_loopw [7, 8] (fun i er wr => ∃ (k : Nat) (r : Nat × Nat) (raw : List Nat) (v : Value), k ≤ len ∧ i = .int .i64 k ∧ er = .int .i64 0 ∧ OPN = opnB r (bitsOf raw) k ((bitsOf bs).drop k) ∧ OpS w wr r raw v ∧ raw.length ≤ k) (fun i _ _ => len - (intOf i).toNat)
  case atStart =>
    refine ⟨0, (0, 0), [], .slice none 0 0, Nat.zero_le _, rfl, rfl, HO.out, ⟨?_, ?_, Ow.nil _ _, ?_, Nat.zero_le _, by simp, ((Below.refl _ w).alloc (Nat.le_refl _) _).alloc (by simp) _⟩, Nat.le_refl _⟩
    · exact ((bcell2 ((Below.refl _ (w.alloc (.cells #[Value.slice none 0 0] 28))).alloc (Nat.le_refl _) _)).1 _ _ (by simp)).trans (by simp)
    · exact ((bcell2 ((Below.refl _ (w.alloc (.cells #[Value.slice none 0 0] 28))).alloc (Nat.le_refl _) _)).2 _ _ (by simp)).trans (by simp)
    · exact Two.new (w.alloc (.cells #[Value.slice none 0 0] 28)) _ _ _ (by simp)
  case round =>
    obtain ⟨k, r, raw, v, hk, rfl, rfl, hopn, hS, hraw⟩ := hrel
    have HOPN := Lib.hid hopn; have HS := Lib.hid hS
    obtain ⟨va, vcap, rfl⟩ := hS.own.shape
    have HF := Lib.hid (full_any wr w.heap.size (w.heap.size + 1) r raw va raw.length vcap (by have := HL.out; have := HLEN.out; omega) hS.cell (by have := hS.size; omega) hS.two (by have := hS.size; omega) hS.own.str)
    obtain ⟨F, hF⟩ : ∃ F, F = fullB r (bitsOf raw) := ⟨_, rfl⟩
    rw [← hF] at HF
    have HFF := Lib.hid hF
    clear hopn hS hF
    go_wp2_with fail
    refine HF.out.mono ?_
    rintro e1 w1 ⟨rfl, hb1⟩
    have HS1 := Lib.hid (HS.out.on hb1)
    clear hb1 HF HS
    cases F
    case true =>
      have HE := Lib.hid (show OPN = (0, k, bitsOf raw) by rw [HOPN.out, opnB_full HFF.out.symm])
      have c0 := HS1.out.cell
      go_wp2_with fail
      simp only [Exit.noGoto]
      exact bodyPost_ret (v := .tuple #[.slice va raw.length vcap, .int .i64 (k : Nat), .int .i64 0]) (by simp [results, Tryd.results87, go_sem]) rfl ⟨_, raw, by rw [HE.out]; rfl, by rw [HE.out], by have := HLEN.out; omega, Ow.low HS1.out.own (by omega), HS1.out.below⟩
    case false =>
    have HNF := Lib.hid (show fullB r (bitsOf raw) = false from HFF.out.symm)
    by_cases hend : k = len
    · have HE := Lib.hid (show OPN = (2, k, bitsOf raw) by
        rw [HOPN.out, hend, HLEN.out, List.drop_of_length_le (by rw [bitsOf_length]; exact Nat.le_refl _), opnB_nil, HNF.out, if_neg (by decide)])
      have i1 : ((k : Int) == (len : Int)) = true := by rw [hend]; simp
      have c0 := HS1.out.cell
      clear hend
      go_wp2_with fail
      simp only [Exit.noGoto]
      exact bodyPost_ret (v := .tuple #[.slice va raw.length vcap, .int .i64 (k : Nat), .int .i64 2]) (by simp [results, Tryd.results87, go_sem]) rfl ⟨_, raw, by rw [HE.out]; rfl, by rw [HE.out], by have := HLEN.out; omega, Ow.low HS1.out.own (by omega), HS1.out.below⟩
    · have hlt : k < len := by omega
      have i1 : ((k : Int) == (len : Int)) = false := by rw [beq_eq_false_iff_ne]; omega
      have i2 : (0 : Int) ≤ (k : Int) := by omega
      have i3 : (k : Int) < (len : Int) := by omega
      obtain ⟨bk, off, rfl, hbk, hc⟩ := HI.out.at hlt
      obtain ⟨x, hx⟩ : ∃ x, x = bs[k]?.getD 0 := ⟨_, rfl⟩
      rw [← hx] at hc
      have HC := Lib.hid hc
      have HST := Lib.hid (show OPN = if k = 0 ∧ bitN x ≠ 0 then (3, 0, bitsOf raw) else
          match uStep (some (r, bitsOf raw)) (bitN x) with
          | none => (4, k, bitsOf raw)
          | some s => opnB s.1 s.2 (k + 1) ((bitsOf bs).drop (k + 1)) by
        rw [HOPN.out, drop_bits bs k (by have := HLEN.out; omega), ← hx, opnB_cons, HNF.out, if_neg (by decide)]
        rfl)
      obtain ⟨p1, p2, K, hpk, hnx⟩ : ∃ (p1 : Nat) (p2 : Int) (K : Nat), nextW r.1 (r.2 : Int) (bitN x) = ((p1, p2), K) ∧ ∀ u, Calls Tryd.prog 133 #[.agg #[.int .u8 (r.1 : Nat), .int .i64 (r.2 : Nat)], .int .u8 (x : Nat)] u fun y w' => y = .returned (.tuple #[.agg #[.int .u8 (p1 : Nat), .int .i64 p2], .int .i64 (K : Nat)]) ∧ Below u.heap.size u w' :=
        ⟨(nextW r.1 (r.2 : Int) (bitN x)).1.1, (nextW r.1 (r.2 : Int) (bitN x)).1.2, (nextW r.1 (r.2 : Int) (bitN x)).2, rfl, fun u => next_any r.1 (r.2 : Int) x u⟩
      have HPK := Lib.hid hpk
      have HT8 := Lib.hid (show ∀ u, Below w1.heap.size w1 u → (Below w1.heap.size w1 u ∧ u.cell? ⟨w.heap.size + 1, 0, none⟩ = some (.int .u8 (r.1 : Nat)) ∧ u.cell? ⟨w.heap.size + 1, 1, none⟩ = some (.int .i64 (r.2 : Nat)) ∧ u.cell? ⟨bk, off + k, none⟩ = some (.int .u8 (x : Nat))) from fun u hu => by
        have h := (HS1.out.on hu)
        exact ⟨hu, h.two.1, h.two.2.1, HC.out _ h.below⟩)
      have HTA := Lib.hid (show ∀ u o, (Below w1.heap.size w1 u ∧ u.cell? ⟨w.heap.size + 1, 0, none⟩ = some (.int .u8 (r.1 : Nat)) ∧ u.cell? ⟨w.heap.size + 1, 1, none⟩ = some (.int .i64 (r.2 : Nat)) ∧ u.cell? ⟨bk, off + k, none⟩ = some (.int .u8 (x : Nat))) → (Below w1.heap.size w1 (u.alloc o) ∧ (u.alloc o).cell? ⟨w.heap.size + 1, 0, none⟩ = some (.int .u8 (r.1 : Nat)) ∧ (u.alloc o).cell? ⟨w.heap.size + 1, 1, none⟩ = some (.int .i64 (r.2 : Nat)) ∧ (u.alloc o).cell? ⟨bk, off + k, none⟩ = some (.int .u8 (x : Nat))) from fun u o hu => HT8.out _ (hu.1.alloc hu.1.size _))
      have HTD := Lib.hid (fun o => HT8.out _ ((Below.refl w1.heap.size w1).alloc (Nat.le_refl _) o).drew)
      have HN8 := Lib.hid (show ∀ u, (Below w1.heap.size w1 u ∧ u.cell? ⟨w.heap.size + 1, 0, none⟩ = some (.int .u8 (r.1 : Nat)) ∧ u.cell? ⟨w.heap.size + 1, 1, none⟩ = some (.int .i64 (r.2 : Nat)) ∧ u.cell? ⟨bk, off + k, none⟩ = some (.int .u8 (x : Nat))) → Calls Tryd.prog 133 #[.agg #[.int .u8 (r.1 : Nat), .int .i64 (r.2 : Nat)], .int .u8 (x : Nat)] u fun y w' => y = .returned (.tuple #[.agg #[.int .u8 (p1 : Nat), .int .i64 p2], .int .i64 (K : Nat)]) ∧ Below u.heap.size u w' ∧ (Below w1.heap.size w1 w' ∧ w'.cell? ⟨w.heap.size + 1, 0, none⟩ = some (.int .u8 (r.1 : Nat)) ∧ w'.cell? ⟨w.heap.size + 1, 1, none⟩ = some (.int .i64 (r.2 : Nat)) ∧ w'.cell? ⟨bk, off + k, none⟩ = some (.int .u8 (x : Nat))) from fun u hu => (hnx u).mono fun _ _ h => ⟨h.1, h.2, HT8.out _ (hu.1.trans (h.2.mono hu.1.size))⟩)
      have k8 := HT8.out _ (Below.refl w1.heap.size w1).drew
      clear hx hc hend hpk hnx
      go_wp2_with fail
      go_cut [10, 11] (fun s10 s11 wx => ∃ bb, s10 = .pointer (some ⟨bb, 0, none⟩) ∧ s11 = .int .i64 (K : Nat) ∧ w1.heap.size ≤ bb ∧ bb < wx.heap.size ∧ Two wx bb (.int .u8 (p1 : Nat)) (.int .i64 p2) ∧ Below w1.heap.size w1 wx)
      case first =>
        go_region_held3 (fun u => (Below w1.heap.size w1 u ∧ u.cell? ⟨w.heap.size + 1, 0, none⟩ = some (.int .u8 (r.1 : Nat)) ∧ u.cell? ⟨w.heap.size + 1, 1, none⟩ = some (.int .i64 (r.2 : Nat)) ∧ u.cell? ⟨bk, off + k, none⟩ = some (.int .u8 (x : Nat)))) (first | (with_reducible assumption) | (with_reducible exact HTA.out _ _ (by assumption)) | (with_reducible exact HT8.out _ (below_two2 h2.1 hge _ _)) | (exact HTD.out _)) (first | (go_at_call 133; refine (HN8.out _ (by assumption)).mono ?_; rintro y w2 ⟨rfl, hb2, h2⟩; (first | (have FZ := two_new8d w1 (Below.refl _ _) hb2) | (have FZ := two_new8 w1 (Below.refl _ _) hb2) | skip); (first | (obtain ⟨hge, hlt2, q0, q1, q2, q3⟩ := FZ) | skip)))
        all_goals (go_wp2_with fail; go_meet; first | exact ⟨_, rfl, rfl, Nat.le_refl _, by rw [setCell_size2, setCell_size2]; exact hlt2, Two.put ⟨q0, q1, q2, q3⟩ _ _, below_two2 h2.1 hge _ _⟩ | exact ⟨_, rfl, rfl, h2.1.size, by simp, Two.new w2 _ _ _ rfl, h2.1.alloc h2.1.size _⟩)
      case rest =>
      obtain ⟨W3, hW3⟩ : ∃ W3, W3 = wc := ⟨_, rfl⟩
      rw [← hW3] at hcut ⊢
      clear hW3
      obtain ⟨bb, rfl, rfl, hb1, hb2, T8, hB3⟩ := hcut
      have HS3 := Lib.hid (HS1.out.on hB3)
      have HB3 := Lib.hid hB3
      have HT8 := Lib.hid T8
      have hc3 := HC.out _ HS3.out.below
      have hbx := HS3.out.cell
      obtain ⟨t0, t1, t2, t3⟩ := T8
      obtain ⟨q0, q1, q2, q3⟩ := HS3.out.two
      have hfz := HS3.out.froz
      obtain ⟨vb, hvb⟩ : ∃ vb, vb = bitN x := ⟨_, rfl⟩
      have hv1 : vb ≤ 1 := by rw [hvb]; exact bitN_le _
      have HVB := Lib.hid hvb
      have HR1 := Lib.hid HS3.out.bit
      clear hB3 HN8 k8 hvb
      by_cases hZ : k = 0 ∧ x ≠ 0
      · have i4 : ((k : Int) == 0) = true := by rw [hZ.1]; rfl
        have i5 : ((x : Int) != 0) = true := by have := hZ.2; simp; omega
        have HE := Lib.hid (show OPN = (3, k, bitsOf raw) by
          rw [HST.out, if_pos ⟨hZ.1, by have := hZ.2; unfold bitN; rw [if_neg this]; decide⟩, hZ.1])
        clear hZ
        go_wp2_with fail
        simp only [Exit.noGoto]
        exact bodyPost_ret (v := .tuple #[.slice va raw.length vcap, .int .i64 (k : Nat), .int .i64 3]) (by simp [results, Tryd.results87, go_sem]) rfl ⟨_, raw, by rw [HE.out]; rfl, by rw [HE.out], by have := HLEN.out; omega, Ow.low HS3.out.own (by omega), HS3.out.below⟩
      · have HST2 := Lib.hid (show OPN = match uStep (some (r, bitsOf raw)) vb with
            | none => (4, k, bitsOf raw)
            | some s => opnB s.1 s.2 (k + 1) ((bitsOf bs).drop (k + 1)) by
          rw [HST.out, if_neg, HVB.out]
          intro h
          refine hZ ⟨h.1, fun h0 => h.2 ?_⟩
          rw [h0]; rfl)
        have hT : ((k : Int) == 0) = false ∨ ((k : Int) == 0) = true ∧ ((x : Int) != 0) = false := by
          by_cases h0 : k = 0
          · refine .inr ⟨by rw [h0]; rfl, ?_⟩
            have : x = 0 := by
              by_cases hx : x = 0
              · exact hx
              · exact absurd ⟨h0, hx⟩ hZ
            rw [this]; rfl
          · exact .inl (by rw [beq_eq_false_iff_ne]; omega)
        clear hZ
        have hpk := HPK.out
        rw [← HVB.out] at hpk
        by_cases h5 : 5 ≤ r.2
        · by_cases hvd : vb = 1 - r.1
          · have hn : nextW r.1 (r.2 : Int) vb = ((vb, 1), 1) := by unfold nextW; rw [if_pos (by omega), bitN_self HR1.out, if_pos hvd]
            rw [hn] at hpk
            obtain ⟨⟨e1, e2⟩, e3⟩ : ((vb = p1) ∧ (1 : Int) = p2) ∧ 1 = K := by simpa using hpk
            subst e1 e2 e3
            have HO1 := Lib.hid (show OPN = opnB (vb, 1) (bitsOf raw) (k + 1) ((bitsOf bs).drop (k + 1)) by
              rw [HST2.out]
              have : uStep (some (r, bitsOf raw)) vb = some ((vb, 1), bitsOf raw) := by
                show (if 5 ≤ r.2 then (if vb = 1 - r.1 then some ((vb, 1), bitsOf raw) else none) else _) = _
                rw [if_pos h5, if_pos hvd]
              rw [this])
            clear hpk hn h5 hvd HST HST2
            rcases hT with i4 | ⟨i4, i5⟩
            all_goals
              go_wp2_with fail
              go_roundw
              case rel => exact ⟨k + 1, (vb, 1), raw, _, by omega, by simp, rfl, HO1.out, ⟨(World.cell?_setCell_other _ _ _ _ (addr_ne (.inl (by omega)))).trans ((World.cell?_setCell_other _ _ _ _ (addr_ne (.inl (by omega)))).trans hbx), by rw [World.frozen?_setCell, World.frozen?_setCell]; exact hfz, (HS3.out.own.other (by omega)).other (by omega), HS3.out.two.put _ _, hv1, by rw [setCell_size2, setCell_size2]; exact HS3.out.size, below_two2 HS3.out.below (by omega) _ _⟩, by omega⟩
              case measure => simp [intOf]; omega
          · have hn : nextW r.1 (r.2 : Int) vb = ((r.1, (r.2 : Int)), 2) := by unfold nextW; rw [if_pos (by omega), bitN_self HR1.out, if_neg hvd]
            rw [hn] at hpk
            obtain ⟨⟨e1, e2⟩, e3⟩ : ((r.1 = p1) ∧ (r.2 : Int) = p2) ∧ 2 = K := by simpa using hpk
            subst e1 e2 e3
            have HE := Lib.hid (show OPN = (4, k, bitsOf raw) by
              rw [HST2.out]
              have : uStep (some (r, bitsOf raw)) vb = none := by
                show (if 5 ≤ r.2 then (if vb = 1 - r.1 then some ((vb, 1), bitsOf raw) else none) else _) = _
                rw [if_pos h5, if_neg hvd]
              rw [this])
            clear hpk hn h5 hvd HST HST2
            rcases hT with i4 | ⟨i4, i5⟩
            all_goals
              go_wp2_with fail
              simp only [Exit.noGoto]
              exact bodyPost_ret (v := .tuple #[.slice va raw.length vcap, .int .i64 (k : Nat), .int .i64 4]) (by simp [results, Tryd.results87, go_sem]) rfl ⟨_, raw, by rw [HE.out]; rfl, by rw [HE.out], by have := HLEN.out; omega, Ow.low HS3.out.own (by omega), HS3.out.below⟩
        · obtain ⟨m, hm⟩ : ∃ m, m = (nx r vb).2 := ⟨_, rfl⟩
          have hn : nextW r.1 (r.2 : Int) vb = ((vb, (m : Int)), 0) := by
            rw [show nextW r.1 (r.2 : Int) vb = nextB r.1 (r.2 : Int) vb from rfl, nextB_nx r vb (by omega) HR1.out, nx_fst, hm]
          rw [hn] at hpk
          obtain ⟨⟨e1, e2⟩, e3⟩ : ((vb = p1) ∧ (m : Int) = p2) ∧ 0 = K := by simpa using hpk
          subst e1 e2 e3
          have T8K := Lib.hid (show Two W3 bb (.int .u8 (vb : Nat)) (.int .i64 (m : Int)) from HT8.out)
          have HO1 := Lib.hid (show OPN = opnB (vb, m) (bitsOf (raw ++ [x])) (k + 1) ((bitsOf bs).drop (k + 1)) by
            rw [HST2.out]
            have : uStep (some (r, bitsOf raw)) vb = some ((vb, m), bitsOf raw ++ [vb]) := by
              show (if 5 ≤ r.2 then (if vb = 1 - r.1 then some ((vb, 1), bitsOf raw) else none) else some (nx r vb, bitsOf raw ++ [vb])) = _
              rw [if_neg h5]
              exact congrArg (fun z => some (z, bitsOf raw ++ [vb])) (Prod.ext (nx_fst r vb) hm.symm)
            rw [this]
            have e : bitsOf (raw ++ [x]) = bitsOf raw ++ [vb] := by rw [HVB.out]; simp [bitsOf]
            rw [e])
          have HB14 := Lib.hid (show ∀ u, Below (w.heap.size + 2) W3 u → u.cell? ⟨w.heap.size, 0, none⟩ = some (.slice va raw.length vcap) ∧ u.frozen? ⟨w.heap.size, 0, none⟩ = false from fun u hu => ⟨(hu.cell (p := ⟨w.heap.size, 0, none⟩) (by show w.heap.size < w.heap.size + 2; omega)).trans HS3.out.cell, (World.frozen?_of_block (hu.block w.heap.size (by omega))).trans HS3.out.froz⟩)
          have HTW14 := Lib.hid (show ∀ u, Below (w.heap.size + 2) W3 u → Two u (w.heap.size + 1) (.int .u8 (r.1 : Nat)) (.int .i64 (r.2 : Nat)) from fun u hu => HS3.out.two.keepAt hu (by omega))
          have HOW := Lib.hid HS3.out.own.own
          have hwA : ∀ o, (W3.alloc o).cell? ⟨w.heap.size, 0, none⟩ = some (.slice va raw.length vcap) := fun o => (HS3.out.on ((Below.refl _ W3).alloc (Nat.le_refl _) o)).cell
          have hbA : ∀ o, (W3.alloc o).cell? ⟨bk, off + k, none⟩ = some (.int .u8 (x : Int)) := fun o => HC.out _ (HS3.out.below.alloc HS3.out.below.size o)
          have HNE := Lib.hid (show some bb ≠ (Value.slice va raw.length vcap).ownBlock from fun e => by have := (World.ownsRow.lt HS1.out.own bb e.symm).2; omega)
          clear hpk hn h5 hm HST HST2 HTA HTD
          rcases hT with i4 | ⟨i4, i5⟩
          all_goals
            go_wp2_with fail
            go_region_law (refine step_append_own6 _ rfl (.tmp 48) (.tmp 53) 28 rfl (w.heap.size + 2) 5 i0 (.int .u8 0) 1 1 Tryd.underlying28 hi hz0 hz1' hz2 rfl (by decide) _ _ _ rfl (HOW.out.alloc _) ⟨_, 0, none⟩ 1 1 [.int .u8 (x : Int)] rfl rfl one_cell one_flat (by unfold maxLen; have := HLEN.out; omega) (by have := HLEN.out; omega) (by have := HS3.out.size; simp; omega) ?_; intro v4 w4 hown4 hgrow4 _; have HO4 := Lib.hid (show Ow (w.heap.size + 2) w4 v4 (raw ++ [x]) from Ow.snoc hown4); obtain ⟨a4, cp4, rfl⟩ := HO4.out.shape; obtain ⟨L4, hL4⟩ : ∃ L4, L4 = (raw ++ [x]).length := ⟨_, rfl⟩; rw [← hL4]; rw [← hL4] at HO4; have HL4 := Lib.hid hL4; clear hL4; have H34 := Lib.hid (show Below (w.heap.size + 2) W3 w4 from Below.grown (((Below.refl _ W3).drew.alloc HS3.out.size _)) hgrow4 (by have := HS3.out.size; simp; omega) HS3.out.own.ge); obtain ⟨hbx4, hfz4⟩ := HB14.out _ H34.out)
            all_goals
              have hblk : w4.heap[bb]? = W3.heap[bb]? := (hgrow4.block bb (by simp; omega) HNE.out).trans (((Below.refl _ W3).alloc (Nat.le_refl _) _).block bb hb2)
              have HTT := Lib.hid (show Two w4 bb (.int .u8 (vb : Nat)) (.int .i64 (m : Int)) from ⟨(World.cell?_of_block hblk).trans T8K.out.1, (World.cell?_of_block hblk).trans T8K.out.2.1, (World.frozen?_of_block hblk).trans T8K.out.2.2.1, (World.frozen?_of_block hblk).trans T8K.out.2.2.2⟩)
              obtain ⟨W5, hW5⟩ : ∃ W5, W5 = w4.setCell ⟨w.heap.size, 0, none⟩ (.slice a4 L4 cp4) := ⟨_, rfl⟩
              rw [← hW5]
              have hoth : ∀ C o : Nat, C ≠ w.heap.size → W5.cell? ⟨C, o, none⟩ = w4.cell? ⟨C, o, none⟩ ∧ W5.frozen? ⟨C, o, none⟩ = w4.frozen? ⟨C, o, none⟩ := fun C o hC => by
                rw [hW5]
                exact ⟨World.cell?_setCell_other _ _ _ _ (addr_ne (.inl (fun h => hC h.symm))), World.frozen?_setCell _ _ _ _⟩
              have t0 := (hoth bb 0 (by have := HS1.out.size; omega)).1.trans HTT.out.1
              have t1 := (hoth bb 1 (by have := HS1.out.size; omega)).1.trans HTT.out.2.1
              have HT5 := Lib.hid (show Two W5 (w.heap.size + 1) (.int .u8 (r.1 : Nat)) (.int .i64 (r.2 : Nat)) from ⟨(hoth _ 0 (by omega)).1.trans (HTW14.out _ H34.out).1, (hoth _ 1 (by omega)).1.trans (HTW14.out _ H34.out).2.1, (hoth _ 0 (by omega)).2.trans (HTW14.out _ H34.out).2.2.1, (hoth _ 1 (by omega)).2.trans (HTW14.out _ H34.out).2.2.2⟩)
              obtain ⟨q0, q1, q2, q3⟩ := HT5.out
              have HX5 := Lib.hid (show W5.cell? ⟨w.heap.size, 0, none⟩ = some (.slice a4 L4 cp4) ∧ W5.frozen? ⟨w.heap.size, 0, none⟩ = false by rw [hW5]; exact ⟨World.cell?_setCell_same' _ _ _ (by rw [hbx4]; rfl), by rw [World.frozen?_setCell]; exact hfz4⟩)
              have HO5 := Lib.hid (show Ow (w.heap.size + 2) W5 (.slice a4 L4 cp4) (raw ++ [x]) by rw [hW5]; exact HO4.out.other (by omega))
              have HB5 := Lib.hid (show Below w.heap.size w W5 by rw [hW5]; exact (HS3.out.below.trans (H34.out.mono (by omega))).setCell (p := ⟨w.heap.size, 0, none⟩) (Nat.le_refl _) _)
              have hs5 : w.heap.size + 2 ≤ W5.heap.size := by rw [hW5, setCell_size2]; have := H34.out.size; have := HS3.out.size; omega
              clear hoth hW5 hblk hbx4 hfz4 hwA hbA
              go_wp2_with fail
              go_roundw
              case rel => exact ⟨k + 1, (vb, m), raw ++ [x], _, by omega, by simp, rfl, HO1.out, ⟨(World.cell?_setCell_other _ _ _ _ (addr_ne (.inl (by omega)))).trans ((World.cell?_setCell_other _ _ _ _ (addr_ne (.inl (by omega)))).trans HX5.out.1), by rw [World.frozen?_setCell, World.frozen?_setCell]; exact HX5.out.2, (HO5.out.other (by omega)).other (by omega), HT5.out.put _ _, hv1, by rw [setCell_size2, setCell_size2]; exact hs5, below_two2 HB5.out (by omega) _ _⟩, by simp; omega⟩
              case measure => simp [intOf]; omega
end Go.Proofs.YtndjennhbggoiaaDoor
