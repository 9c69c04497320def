/- The document's own listener hears a bit. Conditions: not more than nine hundred bits so far. -/
import Derived.Test.YtmfnkfiocnngeaaDoorLrb
namespace Go.Proofs.YtmfnkfiocnngeaaDoor
open Go.RowKit Go.Shelf
/-- What a bit tells, where the body is split so, and the whole is decoded so. -/
def RS.told (s : RS) (x : Nat) (sp : List Nat × Nat × Bool) (dc : Nat × Nat × List Nat) : RS × Nat :=
  if sp.2.2 = true ∧ s.bs.length = sp.2.1 + 9 then (⟨s.bs ++ [x], true, s.ok, s.fr⟩, if x = 0 then 6 else 5)
  else if dc.1 = 2 then (if sp.2.2 = true ∧ s.bs.length = sp.2.1 + 8 then (⟨s.bs ++ [x], false, true, frC (parseB sp.1)⟩, 4) else (⟨s.bs ++ [x], false, s.ok, s.fr⟩, 0))
  else if dc.2.1 ≠ s.bs.length then (⟨s.bs ++ [x], false, s.ok, s.fr⟩, 0)
  else (⟨s.bs ++ [x], true, s.ok, s.fr⟩, if dc.1 = 4 then 1 else if dc.1 = 5 then 3 else 2)
def RS.hear (s : RS) (x : Nat) : RS × Nat :=
  if s.en = true then (s, 0) else s.told x (splB (0, 0) [] 0 (bitsOf (s.bs ++ [x]))) (decB (bitsOf (s.bs ++ [x])))
theorem FrF.len {l : List Value} (h : FrF l) : l.length = 12 := by
  obtain ⟨e, n, q, m, x0, x1, x2, x3, x4, x5, x6, x7, rfl⟩ := h
  rfl
set_option maxRecDepth 100000 in
set_option maxHeartbeats 8000000 in
theorem rhear_any (B : Nat) (s : RS) (v : Value) (x : Nat) (hl : s.bs.length ≤ 900) (w : World) (hA : RA w B s v) :
    Calls Tryd.prog 34 #[.pointer (some ⟨B, 0, none⟩), .int .u8 (x : Int)] w fun y w' => ∃ v', y = .returned (.int .i64 ((s.hear x).2 : Nat)) ∧ RA w' B (s.hear x).1 v' ∧ Kp B v w w' ∧ Nx w v v' := by
  obtain ⟨S, hS⟩ : ∃ S, S = s.hear x := ⟨_, rfl⟩
  rw [← hS]
  obtain ⟨bs, en, ok, fr⟩ := s
  obtain ⟨hblk, hown, hfrf⟩ := hA
  simp only at hl hblk hown hfrf
  obtain ⟨a, cap, rfl⟩ := hown.shape
  obtain ⟨y0, y1, y2, y3, y4, y5, y6, y7, y8, y9, y10, y11, rfl⟩ := twelve hfrf.len
  have HS := Lib.hid hS; have HB := Lib.hid hblk; have HO := Lib.hid hown; have HL := Lib.hid hl; have HFF := Lib.hid hfrf
  have HLT := Lib.hid hblk.lt
  obtain ⟨i0, hi, hz0, hz1', hz2⟩ := info_parts info_u8
  have c0 : w.cell? ⟨B, 0, none⟩ = some (.slice a bs.length cap) := hblk.cellAt (i := 0) (by simp [rlL])
  have g0 : w.frozen? ⟨B, 0, none⟩ = false := hblk.frozenAt 0
  have c1 : w.cell? ⟨B, 1, none⟩ = some (.bool en) := hblk.cellAt (i := 1) (by simp [rlL])
  have g1 : w.frozen? ⟨B, 1, none⟩ = false := hblk.frozenAt 1
  clear hS hblk hown hl hfrf
  cases en
  case true =>
    have HE := Lib.hid (show S = (⟨bs, true, ok, [y0, y1, y2, y3, y4, y5, y6, y7, y8, y9, y10, y11]⟩, 0) by rw [HS.out]; rfl)
    go_enter Tryd.func34, Tryd.ntmps34
    go_wp2_with fail
    go_ret
    exact ⟨_, by rw [HE.out]; rfl, by rw [HE.out]; exact ⟨HB.out, HO.out, HFF.out⟩, Kp.refl _ _ _, Nx.refl _ _⟩
  case false =>
  have HE := Lib.hid (show S = RS.told ⟨bs, false, ok, [y0, y1, y2, y3, y4, y5, y6, y7, y8, y9, y10, y11]⟩ x (splB (0, 0) [] 0 (bitsOf (bs ++ [x]))) (decB (bitsOf (bs ++ [x]))) by rw [HS.out]; rfl)
  have HOW := Lib.hid HO.out.own
  go_enter Tryd.func34, Tryd.ntmps34
  go_wp2_with (at_builtin; refine wpList_append_lies _ rfl _ _ 34 rfl (B + 1) 5 i0 (.int .u8 0) 1 1 Tryd.underlying34 hi hz0 hz1' hz2 rfl (by decide) _ _ _ rfl (HOW.out.alloc _) ⟨_, 0, none⟩ 1 1 [.int .u8 (x : Int)] rfl rfl one_cell one_flat (by decide) ?c3 ?c4 ?c5 _ rfl ?_)
  case c3 => unfold maxLen; have := HL.out; omega
  case c4 => have := HL.out; omega
  case c5 => have := HLT.out; simp; omega
  intro gg cap2 w3 hown3 hgrow hlies hgl
  have HO3 := Lib.hid (show Ow (B + 1) w3 (.slice (some ⟨gg, 0, none⟩) (bs.length + 1) cap2) (bs ++ [x]) from Ow.snoc hown3)
  have hnB : (Value.slice a bs.length cap).ownBlock ≠ some B := fun e => by have := HO.out.ge B e; omega
  have hk3 : ∀ k, k < w.heap.size → (Value.slice a bs.length cap).ownBlock ≠ some k → w3.heap[k]? = w.heap[k]? := fun k hk he => (hgrow.block k (by simp; omega) (fun e => he e.symm)).trans (((Below.refl _ w).alloc (Nat.le_refl _) _).block k hk)
  have HB3 := Lib.hid (show Blk w3 B 102 (rlL (.slice a bs.length cap) false ok [y0, y1, y2, y3, y4, y5, y6, y7, y8, y9, y10, y11]) from HB.out.on (hk3 B HLT.out hnB))
  have HK3 := Lib.hid (show Kp B (.slice a bs.length cap) w w3 from
    ⟨hgrow.os, hgrow.tape, hgrow.output, by have := hgrow.size; simp at this; omega, fun k hk _ hv => hk3 k hk hv⟩)
  have HNX := Lib.hid (show Nx w (.slice a bs.length cap) (.slice (some ⟨gg, 0, none⟩) (bs.length + 1) cap2) from fun k e => by
    have e' : gg = k := by simpa [Value.ownBlock] using e
    rcases hlies with h | h
    · exact .inl (by rw [h, e'])
    · exact .inr (by omega))
  obtain ⟨W4, hW4⟩ : ∃ W4, W4 = w3.setCell ⟨B, 0, none⟩ (.slice (some ⟨gg, 0, none⟩) (bs.length + 1) cap2) := ⟨_, rfl⟩
  have HB4 := Lib.hid (show Blk W4 B 102 (rlL (.slice (some ⟨gg, 0, none⟩) (bs.length + 1) cap2) false ok [y0, y1, y2, y3, y4, y5, y6, y7, y8, y9, y10, y11]) by rw [hW4]; exact HB3.out.put1 (i := 0) (by simp [rlL]) _)
  have HO4 := Lib.hid (show Ow (B + 1) W4 (.slice (some ⟨gg, 0, none⟩) (bs.length + 1) cap2) (bs ++ [x]) by rw [hW4]; exact HO3.out.other (by omega))
  have HK4 := Lib.hid (show Kp B (.slice a bs.length cap) w W4 by rw [hW4]; exact HK3.out.set 0 _)
  have hblk := HB3.out
  have k0 : w3.cell? ⟨B, 0, none⟩ = some (.slice a bs.length cap) := hblk.cellAt (i := 0) (by simp [rlL])
  have f0 : w3.frozen? ⟨B, 0, none⟩ = false := hblk.frozenAt 0
  clear hown3 hgrow hlies hgl hnB hk3 hblk c0 c1 g0 g1
  go_upto_region 4 with fail
  rw [← hW4]
  clear hW4 k0 f0
  obtain ⟨LN, hLN⟩ : ∃ LN, LN = bs.length + 1 := ⟨_, rfl⟩
  have HLN := Lib.hid hLN
  obtain ⟨K, hK⟩ : ∃ K, K = bs.length := ⟨_, rfl⟩
  have HK := Lib.hid hK
  have HLL := Lib.hid (show (bs ++ [x]).length ≤ 1000 ∧ (bs ++ [x]).length = LN by rw [List.length_append]; have := HL.out; simp; omega)
  rw [← hLN] at HB4 HO4 HNX
  have HSP := Lib.hid (split_any (some ⟨gg, 0, none⟩) LN cap2 (bs ++ [x]) HLL.out.1 W4 HO4.out.str)
  obtain ⟨sp, hsp⟩ : ∃ sp, sp = splB (0, 0) [] 0 (bitsOf (bs ++ [x])) := ⟨_, rfl⟩
  have hnle : sp.2.1 ≤ LN := by
    have h := splB_le (bitsOf (bs ++ [x])) (0, 0) [] 0
    rw [bitsOf_length, HLL.out.2] at h
    rw [hsp]; omega
  rw [← hsp] at HSP HE
  obtain ⟨dc, hdc⟩ : ∃ dc, dc = decB (bitsOf (bs ++ [x])) := ⟨_, rfl⟩
  obtain ⟨e9, n9, q9, m9, data, hdv, hd8, _⟩ := dc_form (bitsOf (bs ++ [x]))
  rw [← hdc] at HE hdv
  obtain ⟨d0, d1, d2, d3, d4, d5, d6, d7, rfl⟩ := eight hd8
  obtain ⟨body, N, FU⟩ := sp
  obtain ⟨C, AT, OUT⟩ := dc
  have HDV := Lib.hid hdv
  have HNLE := Lib.hid (show N ≤ LN from hnle)
  have hblk := HB4.out
  have c0 : W4.cell? ⟨B, 0, none⟩ = some (.slice (some ⟨gg, 0, none⟩) LN cap2) := hblk.cellAt (i := 0) (by simp [rlL])
  have g0 : W4.frozen? ⟨B, 0, none⟩ = false := hblk.frozenAt 0
  clear hLN hK hsp hdc hdv hd8 hnle hblk
  go_wp2_with fail
  refine HSP.out.mono ?_
  rintro y w5 ⟨v5, raw5, rfl, h1, h2, h3, hb5⟩
  obtain ⟨a5, cap5, rfl⟩ := h3.shape
  have HB5 := Lib.hid (HB4.out.keep hb5 HB4.out.lt); have HO5 := Lib.hid (HO4.out.on hb5)
  have HK5 := Lib.hid (HK4.out.trans (Kp.of_below (v := .slice (some ⟨gg, 0, none⟩) LN cap2) hb5) HNX.out)
  have H1 := Lib.hid (show bitsOf raw5 = body from h1)
  have H2 := Lib.hid (show raw5.length ≤ 1000 by have := HLL.out.1; omega)
  have H3 := Lib.hid h3
  have HDC := Lib.hid (show ∀ u, Below w5.heap.size w5 u → Calls Tryd.prog 79 #[.slice (some ⟨gg, 0, none⟩) LN cap2] u fun y w' => y = .returned (.tuple #[.agg #[.bool e9, .int .u32 (n9 : Int), .bool q9, .int .i64 (m9 : Int), .int .u8 (d0 : Int), .int .u8 (d1 : Int), .int .u8 (d2 : Int), .int .u8 (d3 : Int), .int .u8 (d4 : Int), .int .u8 (d5 : Int), .int .u8 (d6 : Int), .int .u8 (d7 : Int)], .int .i64 (AT : Int), .int .i64 (C : Int)]) ∧ Below u.heap.size u w' from fun u hu => by
    have h := ref7Decode_any (some ⟨gg, 0, none⟩) LN cap2 (bs ++ [x]) HLL.out.1 u (HO5.out.on hu).str
    rw [HDV.out] at h
    exact h)
  have hblk := HB5.out
  have c0 : w5.cell? ⟨B, 0, none⟩ = some (.slice (some ⟨gg, 0, none⟩) LN cap2) := hblk.cellAt (i := 0) (by simp [rlL])
  have g0 : w5.frozen? ⟨B, 0, none⟩ = false := hblk.frozenAt 0
  have c1 : w5.cell? ⟨B, 1, none⟩ = some (.bool false) := hblk.cellAt (i := 1) (by simp [rlL])
  have g1 : w5.frozen? ⟨B, 1, none⟩ = false := hblk.frozenAt 1
  have hwe : IntKind.i64.wrap ((N : Int) + 9) = (N : Int) + 9 := by rw [IntKind.wrap_i64]; have := HNLE.out; have := HLL.out; omega
  have hwl : IntKind.i64.wrap ((LN : Int) - 1) = (K : Int) := by rw [IntKind.wrap_i64]; have := HLN.out; have := HK.out; have := HLL.out; omega
  obtain ⟨t9, ht9⟩ : ∃ b, ((K : Int) == (N : Int) + 9) = b := ⟨_, rfl⟩
  have HT9 := Lib.hid (show t9 = decide (bs.length = N + 9) by
    rw [← ht9, Bool.eq_iff_iff, beq_iff_eq, decide_eq_true_iff]; have := HK.out; omega)
  obtain ⟨FN, hFN⟩ : ∃ FN, FN = (FU && t9) := ⟨_, rfl⟩
  have HFN := Lib.hid hFN
  have HEF := Lib.hid (show FN = true ∧ S = (⟨bs ++ [x], true, ok, [y0, y1, y2, y3, y4, y5, y6, y7, y8, y9, y10, y11]⟩, if x = 0 then 6 else 5) ∨ FN = false ∧ S = if C = 2 then (if FU = true ∧ bs.length = N + 8 then (⟨bs ++ [x], false, true, frC (parseB body)⟩, 4) else (⟨bs ++ [x], false, ok, [y0, y1, y2, y3, y4, y5, y6, y7, y8, y9, y10, y11]⟩, 0)) else if AT ≠ bs.length then (⟨bs ++ [x], false, ok, [y0, y1, y2, y3, y4, y5, y6, y7, y8, y9, y10, y11]⟩, 0) else (⟨bs ++ [x], true, ok, [y0, y1, y2, y3, y4, y5, y6, y7, y8, y9, y10, y11]⟩, if C = 4 then 1 else if C = 5 then 3 else 2) by
    rw [HE.out]
    unfold RS.told
    simp only
    by_cases h : FU = true ∧ bs.length = N + 9
    · refine .inl ⟨?_, ?_⟩
      · rw [hFN, h.1, HT9.out, decide_eq_true h.2]; rfl
      · rw [if_pos h]
    · refine .inr ⟨?_, ?_⟩
      · rw [hFN, HT9.out]
        cases hf : FU
        · rfl
        · rw [decide_eq_false (fun e => h ⟨hf, e⟩)]; rfl
      · rw [if_neg h])
  clear h1 h2 h3 hb5 HSP hblk hFN
  go_upto_region 6 with fail
  go_cut [54] (fun s54 wx => s54 = .bool (FU && t9) ∧ wx = w5)
  case first =>
    cases FU <;> cases t9
    all_goals go_wp2_with fail
    all_goals go_meet
    all_goals exact ⟨rfl, rfl⟩
  case rest =>
  obtain ⟨rfl, hwc⟩ := hcut
  obtain rfl : w5 = wc := hwc.symm
  rw [← HFN.out]
  clear ht9
  cases FN
  case true =>
    have HE9 := Lib.hid (show S = (⟨bs ++ [x], true, ok, [y0, y1, y2, y3, y4, y5, y6, y7, y8, y9, y10, y11]⟩, if x = 0 then 6 else 5) by
      rcases HEF.out with h | h
      · exact h.2
      · exact absurd h.1 (by decide))
    clear HEF HE
    by_cases hx : x = 0
    · have j0 : ((x : Int) == 0) = true := by rw [hx]; rfl
      have HEE := Lib.hid (show S = (⟨bs ++ [x], true, ok, [y0, y1, y2, y3, y4, y5, y6, y7, y8, y9, y10, y11]⟩, 6) by rw [HE9.out, if_pos hx])
      clear hx
      go_wp2_with fail
      go_ret
      first | exact ⟨_, by rw [HEE.out]; rfl, by rw [HEE.out]; exact ⟨HB5.out.put1 (i := 1) (by simp [rlL]) (.bool true), HO5.out.other (by omega), HFF.out⟩, HK5.out.set 1 _, HNX.out⟩ | exact ⟨by rw [HEE.out]; rfl, _, by rw [HEE.out]; exact ⟨HB5.out.put1 (i := 1) (by simp [rlL]) (.bool true), HO5.out.other (by omega), HFF.out⟩, HK5.out.set 1 _, HNX.out⟩
    · have j0 : ((x : Int) == 0) = false := by rw [beq_eq_false_iff_ne]; omega
      have HEE := Lib.hid (show S = (⟨bs ++ [x], true, ok, [y0, y1, y2, y3, y4, y5, y6, y7, y8, y9, y10, y11]⟩, 5) by rw [HE9.out, if_neg hx])
      clear hx
      go_wp2_with fail
      go_ret
      first | exact ⟨_, by rw [HEE.out]; rfl, by rw [HEE.out]; exact ⟨HB5.out.put1 (i := 1) (by simp [rlL]) (.bool true), HO5.out.other (by omega), HFF.out⟩, HK5.out.set 1 _, HNX.out⟩ | exact ⟨by rw [HEE.out]; rfl, _, by rw [HEE.out]; exact ⟨HB5.out.put1 (i := 1) (by simp [rlL]) (.bool true), HO5.out.other (by omega), HFF.out⟩, HK5.out.set 1 _, HNX.out⟩
  case false =>
  have HEN := Lib.hid (show S = if C = 2 then (if FU = true ∧ bs.length = N + 8 then (⟨bs ++ [x], false, true, frC (parseB body)⟩, 4) else (⟨bs ++ [x], false, ok, [y0, y1, y2, y3, y4, y5, y6, y7, y8, y9, y10, y11]⟩, 0)) else if AT ≠ bs.length then (⟨bs ++ [x], false, ok, [y0, y1, y2, y3, y4, y5, y6, y7, y8, y9, y10, y11]⟩, 0) else (⟨bs ++ [x], true, ok, [y0, y1, y2, y3, y4, y5, y6, y7, y8, y9, y10, y11]⟩, if C = 4 then 1 else if C = 5 then 3 else 2) by
    rcases HEF.out with h | h
    · exact absurd h.1 (by decide)
    · exact h.2)
  clear HEF HE
  go_wp2_with fail
  refine (HDC.out _ (Below.refl _ _)).mono ?_
  rintro y w6 ⟨rfl, hb6⟩
  obtain ⟨W7, hW7⟩ : ∃ W7, W7 = w6.alloc (.cells #[.bool e9, .int .u32 (n9 : Int), .bool q9, .int .i64 (m9 : Int), .int .u8 (d0 : Int), .int .u8 (d1 : Int), .int .u8 (d2 : Int), .int .u8 (d3 : Int), .int .u8 (d4 : Int), .int .u8 (d5 : Int), .int .u8 (d6 : Int), .int .u8 (d7 : Int)] 27) := ⟨_, rfl⟩
  have hb7 : Below w5.heap.size w5 W7 := by rw [hW7]; exact hb6.alloc hb6.size _
  have HB7 := Lib.hid (HB5.out.keep hb7 HB5.out.lt); have HO7 := Lib.hid (HO5.out.on hb7)
  have HK7 := Lib.hid (HK5.out.trans (Kp.of_below (v := .slice (some ⟨gg, 0, none⟩) LN cap2) hb7) HNX.out)
  have H37 := Lib.hid (H3.out.on hb7)
  clear hb6 hb7 c0 c1 g0 g1 HDC
  go_upto_region 12 with fail
  rw [← hW7]
  clear hW7
  have hblk := HB7.out
  have c0 : W7.cell? ⟨B, 0, none⟩ = some (.slice (some ⟨gg, 0, none⟩) LN cap2) := hblk.cellAt (i := 0) (by simp [rlL])
  have g0 : W7.frozen? ⟨B, 0, none⟩ = false := hblk.frozenAt 0
  have c1 : W7.cell? ⟨B, 1, none⟩ = some (.bool false) := hblk.cellAt (i := 1) (by simp [rlL])
  have g1 : W7.frozen? ⟨B, 1, none⟩ = false := hblk.frozenAt 1
  clear hblk
  by_cases hC2 : C = 2
  · have j2 : ((C : Int) == 2) = true := by rw [hC2]; rfl
    have hw8 : IntKind.i64.wrap ((N : Int) + 9 - 1) = (N : Int) + 8 := by rw [IntKind.wrap_i64]; have := HNLE.out; have := HLL.out; omega
    have hw9 : IntKind.i64.wrap ((N : Int) + 8) = (N : Int) + 8 := by rw [IntKind.wrap_i64]; have := HNLE.out; have := HLL.out; omega
    obtain ⟨t8, ht8⟩ : ∃ b, ((K : Int) == (N : Int) + 8) = b := ⟨_, rfl⟩
    have HT8 := Lib.hid (show t8 = decide (bs.length = N + 8) by
      rw [← ht8, Bool.eq_iff_iff, beq_iff_eq, decide_eq_true_iff]; have := HK.out; omega)
    have HC2 := Lib.hid hC2
    clear hC2
    go_upto_region 13 with fail
    go_cut [82] (fun s82 wx => s82 = .bool (FU && t8) ∧ wx = W7)
    case first =>
      cases FU <;> cases t8
      all_goals go_wp2_with fail
      all_goals go_meet
      all_goals exact ⟨rfl, rfl⟩
    case rest =>
    obtain ⟨rfl, hwc⟩ := hcut
    obtain rfl : W7 = wc := hwc.symm
    obtain ⟨FM, hFM⟩ : ∃ FM, FM = (FU && t8) := ⟨_, rfl⟩
    have HFM := Lib.hid hFM
    rw [← hFM]
    clear ht8 hFM
    cases FM
    case false =>
      have HEE := Lib.hid (show S = (⟨bs ++ [x], false, ok, [y0, y1, y2, y3, y4, y5, y6, y7, y8, y9, y10, y11]⟩, 0) by
        rw [HEN.out, if_pos HC2.out, if_neg (fun h => by
          have e := HFM.out
          rw [h.1, HT8.out, decide_eq_true h.2] at e
          exact absurd e (by decide))])
      go_wp2_with fail
      go_ret
      first | exact ⟨_, by rw [HEE.out]; rfl, by rw [HEE.out]; exact ⟨HB7.out, HO7.out, HFF.out⟩, HK7.out, HNX.out⟩ | exact ⟨by rw [HEE.out]; rfl, _, by rw [HEE.out]; exact ⟨HB7.out, HO7.out, HFF.out⟩, HK7.out, HNX.out⟩
    case true =>
    obtain ⟨e, n, q, mm, x0, x1, x2, x3, x4, x5, x6, x7, kk, cc, hpr, hfc, _⟩ := pr_form body
    have HEE := Lib.hid (show S = (⟨bs ++ [x], false, true, frameC e n q (mm : Int) [x0, x1, x2, x3, x4, x5, x6, x7]⟩, 4) by
      have e := HFM.out
      rw [HT8.out] at e
      have e2 := Bool.and_eq_true_iff.1 e.symm
      rw [HEN.out, if_pos HC2.out, if_pos ⟨e2.1, of_decide_eq_true e2.2⟩, hfc])
    have HPA := Lib.hid (show Calls Tryd.prog 23 #[.slice a5 raw5.length cap5] W7 fun x w' => x = .returned (.tuple #[.agg #[.bool e, .int .u32 (n : Int), .bool q, .int .i64 (mm : Int), .int .u8 (x0 : Int), .int .u8 (x1 : Int), .int .u8 (x2 : Int), .int .u8 (x3 : Int), .int .u8 (x4 : Int), .int .u8 (x5 : Int), .int .u8 (x6 : Int), .int .u8 (x7 : Int)], .int .i64 (kk : Int), .int .i64 (cc : Int)]) ∧ Below W7.heap.size W7 w' from by
      have h := ref6Parse_any a5 raw5.length cap5 raw5 H2.out W7 H37.out.str
      rw [H1.out, hpr] at h
      exact h)
    clear hpr hfc c0 c1 g0 g1
    go_wp2_with fail
    refine HPA.out.mono ?_
    rintro y w8 ⟨rfl, hb8⟩
    obtain ⟨W9, hW9⟩ : ∃ W9, W9 = w8.alloc (.cells #[.bool e, .int .u32 (n : Int), .bool q, .int .i64 (mm : Int), .int .u8 (x0 : Int), .int .u8 (x1 : Int), .int .u8 (x2 : Int), .int .u8 (x3 : Int), .int .u8 (x4 : Int), .int .u8 (x5 : Int), .int .u8 (x6 : Int), .int .u8 (x7 : Int)] 27) := ⟨_, rfl⟩
    have hb9 : Below W7.heap.size W7 W9 := by rw [hW9]; exact hb8.alloc hb8.size _
    have HB9 := Lib.hid (HB7.out.keep hb9 HB7.out.lt); have HO9 := Lib.hid (HO7.out.on hb9)
    have HK9 := Lib.hid (HK7.out.trans (Kp.of_below (v := .slice (some ⟨gg, 0, none⟩) LN cap2) hb9) HNX.out)
    have HF9 := Lib.hid (show Blk W9 w8.heap.size 27 (frameC e n q (mm : Int) [x0, x1, x2, x3, x4, x5, x6, x7]) by rw [hW9]; exact Blk.new w8 _ _)
    have HNE := Lib.hid (show B < w8.heap.size from Nat.lt_of_lt_of_le HB7.out.lt hb8.size)
    clear hb8 hb9 HPA
    go_upto_region 15 with fail
    rw [← hW9]
    clear hW9
    obtain ⟨E, hE⟩ : ∃ E, E = w8.heap.size := ⟨_, rfl⟩
    rw [← hE] at HF9 HNE ⊢
    clear hE
    obtain ⟨z0, z1, z2, z3, z4, z5, z6, z7, z8, z9, z10, z11⟩ := (HF9.out.at rfl).cells
    have hblk := HB9.out
    have c3 : W9.cell? ⟨B, 3, none⟩ = some (y0) := hblk.cellAt (i := 3) (by simp [rlL])
    have g3 : W9.frozen? ⟨B, 3, none⟩ = false := hblk.frozenAt 3
    have c4 : W9.cell? ⟨B, 4, none⟩ = some (y1) := hblk.cellAt (i := 4) (by simp [rlL])
    have g4 : W9.frozen? ⟨B, 4, none⟩ = false := hblk.frozenAt 4
    have c5 : W9.cell? ⟨B, 5, none⟩ = some (y2) := hblk.cellAt (i := 5) (by simp [rlL])
    have g5 : W9.frozen? ⟨B, 5, none⟩ = false := hblk.frozenAt 5
    have c6 : W9.cell? ⟨B, 6, none⟩ = some (y3) := hblk.cellAt (i := 6) (by simp [rlL])
    have g6 : W9.frozen? ⟨B, 6, none⟩ = false := hblk.frozenAt 6
    have c7 : W9.cell? ⟨B, 7, none⟩ = some (y4) := hblk.cellAt (i := 7) (by simp [rlL])
    have g7 : W9.frozen? ⟨B, 7, none⟩ = false := hblk.frozenAt 7
    have c8 : W9.cell? ⟨B, 8, none⟩ = some (y5) := hblk.cellAt (i := 8) (by simp [rlL])
    have g8 : W9.frozen? ⟨B, 8, none⟩ = false := hblk.frozenAt 8
    have c9 : W9.cell? ⟨B, 9, none⟩ = some (y6) := hblk.cellAt (i := 9) (by simp [rlL])
    have g9 : W9.frozen? ⟨B, 9, none⟩ = false := hblk.frozenAt 9
    have c10 : W9.cell? ⟨B, 10, none⟩ = some (y7) := hblk.cellAt (i := 10) (by simp [rlL])
    have g10 : W9.frozen? ⟨B, 10, none⟩ = false := hblk.frozenAt 10
    have c11 : W9.cell? ⟨B, 11, none⟩ = some (y8) := hblk.cellAt (i := 11) (by simp [rlL])
    have g11 : W9.frozen? ⟨B, 11, none⟩ = false := hblk.frozenAt 11
    have c12 : W9.cell? ⟨B, 12, none⟩ = some (y9) := hblk.cellAt (i := 12) (by simp [rlL])
    have g12 : W9.frozen? ⟨B, 12, none⟩ = false := hblk.frozenAt 12
    have c13 : W9.cell? ⟨B, 13, none⟩ = some (y10) := hblk.cellAt (i := 13) (by simp [rlL])
    have g13 : W9.frozen? ⟨B, 13, none⟩ = false := hblk.frozenAt 13
    have c14 : W9.cell? ⟨B, 14, none⟩ = some (y11) := hblk.cellAt (i := 14) (by simp [rlL])
    have g14 : W9.frozen? ⟨B, 14, none⟩ = false := hblk.frozenAt 14
    clear hblk
    obtain ⟨W10, hW10⟩ : ∃ W10, W10 = ((((((((((((W9.setCell ⟨B, 3, none⟩ (.bool e)).setCell ⟨B, 4, none⟩ (.int .u32 (n : Int))).setCell ⟨B, 5, none⟩ (.bool q)).setCell ⟨B, 6, none⟩ (.int .i64 (mm : Int))).setCell ⟨B, 7, none⟩ (.int .u8 (x0 : Int))).setCell ⟨B, 8, none⟩ (.int .u8 (x1 : Int))).setCell ⟨B, 9, none⟩ (.int .u8 (x2 : Int))).setCell ⟨B, 10, none⟩ (.int .u8 (x3 : Int))).setCell ⟨B, 11, none⟩ (.int .u8 (x4 : Int))).setCell ⟨B, 12, none⟩ (.int .u8 (x5 : Int))).setCell ⟨B, 13, none⟩ (.int .u8 (x6 : Int))).setCell ⟨B, 14, none⟩ (.int .u8 (x7 : Int))) := ⟨_, rfl⟩
    have HB10 := Lib.hid (show Blk W10 B 102 (rlL (.slice (some ⟨gg, 0, none⟩) LN cap2) false ok (frameC e n q (mm : Int) [x0, x1, x2, x3, x4, x5, x6, x7])) by rw [hW10]; exact ((((((((((((HB9.out.put1 (i := 3) (by simp [rlL]) (.bool e)).put1 (i := 4) (by simp [rlL]) (.int .u32 (n : Int))).put1 (i := 5) (by simp [rlL]) (.bool q)).put1 (i := 6) (by simp [rlL]) (.int .i64 (mm : Int))).put1 (i := 7) (by simp [rlL]) (.int .u8 (x0 : Int))).put1 (i := 8) (by simp [rlL]) (.int .u8 (x1 : Int))).put1 (i := 9) (by simp [rlL]) (.int .u8 (x2 : Int))).put1 (i := 10) (by simp [rlL]) (.int .u8 (x3 : Int))).put1 (i := 11) (by simp [rlL]) (.int .u8 (x4 : Int))).put1 (i := 12) (by simp [rlL]) (.int .u8 (x5 : Int))).put1 (i := 13) (by simp [rlL]) (.int .u8 (x6 : Int))).put1 (i := 14) (by simp [rlL]) (.int .u8 (x7 : Int))))
    have HK10 := Lib.hid (show Kp B (.slice a bs.length cap) w W10 by rw [hW10]; exact ((((((((((((HK9.out.set 3 (.bool e)).set 4 (.int .u32 (n : Int))).set 5 (.bool q)).set 6 (.int .i64 (mm : Int))).set 7 (.int .u8 (x0 : Int))).set 8 (.int .u8 (x1 : Int))).set 9 (.int .u8 (x2 : Int))).set 10 (.int .u8 (x3 : Int))).set 11 (.int .u8 (x4 : Int))).set 12 (.int .u8 (x5 : Int))).set 13 (.int .u8 (x6 : Int))).set 14 (.int .u8 (x7 : Int))))
    have HO10 := Lib.hid (show Ow (B + 1) W10 (.slice (some ⟨gg, 0, none⟩) LN cap2) (bs ++ [x]) by rw [hW10]; exact ((((((((((((HO9.out.other (by omega)).other (by omega)).other (by omega)).other (by omega)).other (by omega)).other (by omega)).other (by omega)).other (by omega)).other (by omega)).other (by omega)).other (by omega)).other (by omega)))
    go_upto_region 16 with fail
    rw [← hW10]
    clear hW10 z0 z1 z2 z3 z4 z5 z6 z7 z8 z9 z10 z11 c3 g3 c4 g4 c5 g5 c6 g6 c7 g7 c8 g8 c9 g9 c10 g10 c11 g11 c12 g12 c13 g13 c14 g14
    have hblk := HB10.out
    have c2 : W10.cell? ⟨B, 2, none⟩ = some (.bool ok) := hblk.cellAt (i := 2) (by simp [rlL])
    have g2 : W10.frozen? ⟨B, 2, none⟩ = false := hblk.frozenAt 2
    clear hblk
    go_wp2_with fail
    go_ret
    first | exact ⟨_, by rw [HEE.out]; rfl, by rw [HEE.out]; exact ⟨HB10.out.put1 (i := 2) (by simp [rlL]) (.bool true), HO10.out.other (by omega), ⟨e, n, q, mm, x0, x1, x2, x3, x4, x5, x6, x7, rfl⟩⟩, HK10.out.set 2 _, HNX.out⟩ | exact ⟨by rw [HEE.out]; rfl, _, by rw [HEE.out]; exact ⟨HB10.out.put1 (i := 2) (by simp [rlL]) (.bool true), HO10.out.other (by omega), ⟨e, n, q, mm, x0, x1, x2, x3, x4, x5, x6, x7, rfl⟩⟩, HK10.out.set 2 _, HNX.out⟩
  · have j2 : ((C : Int) == 2) = false := by rw [beq_eq_false_iff_ne]; omega
    have HC2 := Lib.hid hC2
    clear hC2
    by_cases hat : AT = K
    · have j3 : ((AT : Int) != (K : Int)) = false := by rw [hat]; simp
      have HE3 := Lib.hid (show S = (⟨bs ++ [x], true, ok, [y0, y1, y2, y3, y4, y5, y6, y7, y8, y9, y10, y11]⟩, if C = 4 then 1 else if C = 5 then 3 else 2) by
        rw [HEN.out, if_neg HC2.out, if_neg (fun h => h (by rw [hat, HK.out]))])
      clear hat
      have parts : (((C : Int) == 4) = true ∧ C = 4) ∨ (((C : Int) == 4) = false ∧ ((C : Int) == 5) = true ∧ C = 5) ∨ (((C : Int) == 4) = false ∧ ((C : Int) == 5) = false ∧ C ≠ 4 ∧ C ≠ 5) := by
        by_cases h4 : C = 4
        · exact .inl ⟨by rw [h4]; rfl, h4⟩
        · by_cases h5 : C = 5
          · exact .inr (.inl ⟨by rw [h5]; rfl, by rw [h5]; rfl, h5⟩)
          · exact .inr (.inr ⟨by rw [beq_eq_false_iff_ne]; omega, by rw [beq_eq_false_iff_ne]; omega, h4, h5⟩)
      rcases parts with ⟨j4, h4⟩ | ⟨j4, j5, h5⟩ | ⟨j4, j5, h4, h5⟩
      · have HEE := Lib.hid (show S = (⟨bs ++ [x], true, ok, [y0, y1, y2, y3, y4, y5, y6, y7, y8, y9, y10, y11]⟩, 1) by rw [HE3.out, if_pos h4])
        clear h4
        go_wp2_with fail
        go_ret
        first | exact ⟨_, by rw [HEE.out]; rfl, by rw [HEE.out]; exact ⟨HB7.out.put1 (i := 1) (by simp [rlL]) (.bool true), HO7.out.other (by omega), HFF.out⟩, HK7.out.set 1 _, HNX.out⟩ | exact ⟨by rw [HEE.out]; rfl, _, by rw [HEE.out]; exact ⟨HB7.out.put1 (i := 1) (by simp [rlL]) (.bool true), HO7.out.other (by omega), HFF.out⟩, HK7.out.set 1 _, HNX.out⟩
      · have HEE := Lib.hid (show S = (⟨bs ++ [x], true, ok, [y0, y1, y2, y3, y4, y5, y6, y7, y8, y9, y10, y11]⟩, 3) by rw [HE3.out, if_neg (by omega), if_pos h5])
        clear h5
        go_wp2_with fail
        go_ret
        first | exact ⟨_, by rw [HEE.out]; rfl, by rw [HEE.out]; exact ⟨HB7.out.put1 (i := 1) (by simp [rlL]) (.bool true), HO7.out.other (by omega), HFF.out⟩, HK7.out.set 1 _, HNX.out⟩ | exact ⟨by rw [HEE.out]; rfl, _, by rw [HEE.out]; exact ⟨HB7.out.put1 (i := 1) (by simp [rlL]) (.bool true), HO7.out.other (by omega), HFF.out⟩, HK7.out.set 1 _, HNX.out⟩
      · have HEE := Lib.hid (show S = (⟨bs ++ [x], true, ok, [y0, y1, y2, y3, y4, y5, y6, y7, y8, y9, y10, y11]⟩, 2) by rw [HE3.out, if_neg h4, if_neg h5])
        clear h4 h5
        go_wp2_with fail
        go_ret
        first | exact ⟨_, by rw [HEE.out]; rfl, by rw [HEE.out]; exact ⟨HB7.out.put1 (i := 1) (by simp [rlL]) (.bool true), HO7.out.other (by omega), HFF.out⟩, HK7.out.set 1 _, HNX.out⟩ | exact ⟨by rw [HEE.out]; rfl, _, by rw [HEE.out]; exact ⟨HB7.out.put1 (i := 1) (by simp [rlL]) (.bool true), HO7.out.other (by omega), HFF.out⟩, HK7.out.set 1 _, HNX.out⟩
    · have j3 : ((AT : Int) != (K : Int)) = true := by simp; omega
      have HEE := Lib.hid (show S = (⟨bs ++ [x], false, ok, [y0, y1, y2, y3, y4, y5, y6, y7, y8, y9, y10, y11]⟩, 0) by
        rw [HEN.out, if_neg HC2.out, if_pos (by have := HK.out; omega)])
      clear hat
      go_wp2_with fail
      go_ret
      first | exact ⟨_, by rw [HEE.out]; rfl, by rw [HEE.out]; exact ⟨HB7.out, HO7.out, HFF.out⟩, HK7.out, HNX.out⟩ | exact ⟨by rw [HEE.out]; rfl, _, by rw [HEE.out]; exact ⟨HB7.out, HO7.out, HFF.out⟩, HK7.out, HNX.out⟩
end Go.Proofs.YtmfnkfiocnngeaaDoor
