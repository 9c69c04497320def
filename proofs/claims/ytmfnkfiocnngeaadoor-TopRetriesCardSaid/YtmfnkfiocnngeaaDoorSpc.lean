/- Who sends hears a bit. Conditions: at most a thousand bits; what is fine is not the last one. -/
import Derived.Test.YtmfnkfiocnngeaaDoorSpb
namespace Go.Proofs.YtmfnkfiocnngeaaDoor
open Go.RowKit Go.Shelf
set_option maxRecDepth 100000 in
set_option maxHeartbeats 8000000 in
theorem phd_on (B D : Nat) (fr : List Value) (L : List PB) (k : Nat) (b : Nat) (a e s l : Bool) (hp : L[k]? = some ⟨b, a, e, s, l⟩) (hL : L.length ≤ 1000) (x : Nat) (hfin : verd b a e s l x = 0 → k + 1 < L.length) (w : World) (hS : SPA w B D fr L k true) :
    Calls Tryd.prog 33 #[.pointer (some ⟨B, 0, none⟩), .int .u8 (x : Int)] w fun y w' => y = .returned (.int .i64 (verd b a e s l x : Nat)) ∧ SPA w' B D fr L (k + 1) (decide (verd b a e s l x = 0)) ∧ Kp B (.slice none 0 0) w w' := by
  have hk : k < L.length := (List.getElem?_eq_some_iff.1 hp).1
  have HN := Lib.hid (pnext_on B D fr L k b a e s l hp w hS)
  obtain ⟨V, hV⟩ : ∃ V, V = verd b a e s l x := ⟨_, rfl⟩
  have HH := Lib.hid (fun u => pheard_any b a e s l x u)
  rw [← hV] at HH hfin ⊢
  have HFIN := Lib.hid hfin
  have HS := Lib.hid hS; have HL := Lib.hid hL; have HK := Lib.hid hk
  obtain ⟨m, hm⟩ : ∃ m, m = L.length - k := ⟨_, rfl⟩
  have HM := Lib.hid hm
  have i2 : (1 : Int) ≤ (m : Int) := by omega
  have hw : IntKind.i64.wrap ((k : Int) + 1) = (k : Int) + 1 := by rw [IntKind.wrap_i64]; omega
  have HK1 := Lib.hid (show ((k + 1 : Nat) : Int) = (k : Int) + 1 by omega)
  clear hp hV hS hL hk hm hfin
  go_enter Tryd.func33, Tryd.ntmps33
  go_wp2_with fail
  refine HN.out.mono ?_
  rintro y w1 ⟨rfl, hb⟩
  obtain ⟨W2, hW2⟩ : ∃ W2, W2 = w1.alloc (.cells #[.int .u8 (b : Int), .bool a, .bool e, .bool s, .bool l] 104) := ⟨_, rfl⟩
  have hb2 : Below w.heap.size w W2 := by rw [hW2]; exact hb.alloc hb.size _
  have HB2 := Lib.hid hb2
  have HS2 := Lib.hid (HS.out.keep hb2)
  have HX := Lib.hid (show Blk W2 w1.heap.size 104 [.int .u8 (b : Int), .bool a, .bool e, .bool s, .bool l] by rw [hW2]; exact Blk.new w1 _ _)
  have HNB := Lib.hid (show w.heap.size ≤ w1.heap.size from hb.size)
  clear hb hb2 HN
  go_upto_region 2 with fail
  rw [← hW2]
  clear hW2
  obtain ⟨E, hE⟩ : ∃ E, E = w1.heap.size := ⟨_, rfl⟩
  rw [← hE] at HX HNB ⊢
  clear hE
  obtain ⟨c12, g12, c13, g13⟩ := HS2.out.c12
  rw [if_pos rfl, ← HM.out] at c12
  have HPB := Lib.hid (show ∀ X, Below W2.heap.size W2 X → ∀ v, Blk (X.setCell ⟨B, 12, none⟩ v) B 99 (fr ++ [v, .int .i64 (k : Int)]) ∧ Blk (X.setCell ⟨B, 12, none⟩ v) D 104 (flatP L) ∧ Blk (X.setCell ⟨B, 12, none⟩ v) E 104 [.int .u8 (b : Int), .bool a, .bool e, .bool s, .bool l] ∧ Kp B (.slice none 0 0) w (X.setCell ⟨B, 12, none⟩ v) from fun X hX v => by
    have h := HS2.out.keep hX
    have hb := h.blk
    obtain ⟨y0, y1, y2, y3, y4, y5, y6, y7, y8, y9, y10, y11, rfl⟩ := twelve h.fr12
    rw [if_pos rfl] at hb
    refine ⟨hb.put1 (i := 12) (by simp) v, h.parts.puts h.ne 12 v, (HX.out.keep hX HX.out.lt).puts (by have := HS.out.blk.lt; have := HNB.out; omega) 12 v, (Kp.of_below (HB2.out.trans (hX.mono HB2.out.size))).set 12 v⟩)
  have HF := Lib.hid (show ∀ v, Blk (W2.setCell ⟨B, 12, none⟩ v) B 99 (fr ++ [v, .int .i64 (k : Int)]) ∧ Blk (W2.setCell ⟨B, 12, none⟩ v) D 104 (flatP L) ∧ Blk (W2.setCell ⟨B, 12, none⟩ v) E 104 [.int .u8 (b : Int), .bool a, .bool e, .bool s, .bool l] ∧ Kp B (.slice none 0 0) w (W2.setCell ⟨B, 12, none⟩ v) from fun v => HPB.out W2 (Below.refl _ _) v)
  have HFD := Lib.hid (show ∀ v, Blk (W2.setCell ⟨B, 12, none⟩ v).drew B 99 (fr ++ [v, .int .i64 (k : Int)]) ∧ Blk (W2.setCell ⟨B, 12, none⟩ v).drew D 104 (flatP L) ∧ Blk (W2.setCell ⟨B, 12, none⟩ v).drew E 104 [.int .u8 (b : Int), .bool a, .bool e, .bool s, .bool l] ∧ Kp B (.slice none 0 0) w (W2.setCell ⟨B, 12, none⟩ v).drew from fun v => by
    obtain ⟨h1, h2, h3, h4⟩ := HF.out v
    have hd : Below (W2.setCell ⟨B, 12, none⟩ v).heap.size (W2.setCell ⟨B, 12, none⟩ v) (W2.setCell ⟨B, 12, none⟩ v).drew := (Below.refl _ _).drew
    exact ⟨h1.keep hd h1.lt, h2.keep hd h2.lt, h3.keep hd h3.lt, h4.trans (Kp.of_below (v := .slice none 0 0) hd) (Nx.refl _ _)⟩)
  go_upto_region 4 with fail
  go_cut [] (fun wx => ∃ v, (Blk wx B 99 (fr ++ [v, .int .i64 (k : Int)]) ∧ Blk wx D 104 (flatP L) ∧ Blk wx E 104 [.int .u8 (b : Int), .bool a, .bool e, .bool s, .bool l] ∧ Kp B (.slice none 0 0) w wx) ∧ (m - 1 ≠ 0 → v = .slice (some ⟨D, 5 * k + 5, none⟩) (m - 1) (m - 1)))
  case first =>
    go_region_with (fail)
    all_goals (go_wp2_with fail; all_goals go_meet; all_goals first | exact ⟨_, HF.out _, fun _ => rfl⟩ | exact ⟨_, HFD.out _, fun _ => rfl⟩ | exact ⟨_, HF.out _, fun h => absurd (by omega) h⟩ | exact ⟨_, HFD.out _, fun h => absurd (by omega) h⟩)
  case rest =>
  obtain ⟨v, ⟨h1, h2, h3, h4⟩, hv⟩ := hcut
  obtain ⟨W3, hW3⟩ : ∃ W3, W3 = wc := ⟨_, rfl⟩
  rw [← hW3] at h1 h2 h3 h4 ⊢
  have H1 := Lib.hid h1; have H2 := Lib.hid h2; have H3 := Lib.hid h3; have H4 := Lib.hid h4; have HV := Lib.hid hv
  clear h1 h2 h3 h4 hv hW3 c12 g12 c13 g13 HF HFD HPB
  obtain ⟨y0, y1, y2, y3, y4, y5, y6, y7, y8, y9, y10, y11, hfr⟩ := twelve HS.out.fr12
  have c13 : W3.cell? ⟨B, 13, none⟩ = some (.int .i64 (k : Int)) := by
    have h := H1.out
    rw [hfr] at h
    exact h.cellAt (i := 13) (by simp)
  have g13 : W3.frozen? ⟨B, 13, none⟩ = false := H1.out.frozenAt 13
  obtain ⟨W4, hW4⟩ : ∃ W4, W4 = W3.setCell ⟨B, 13, none⟩ (.int .i64 ((k : Int) + 1)) := ⟨_, rfl⟩
  have HNE := Lib.hid (show B ≠ D ∧ B ≠ E from ⟨HS.out.ne, by have := HS.out.blk.lt; have := HNB.out; omega⟩)
  have K1 := Lib.hid (show Blk W4 B 99 (fr ++ [v, .int .i64 ((k + 1 : Nat) : Int)]) by
    have h := H1.out
    rw [hfr] at h ⊢
    rw [hW4, HK1.out]
    exact h.put1 (i := 13) (by simp) _)
  have K2 := Lib.hid (show Blk W4 D 104 (flatP L) by rw [hW4]; exact H2.out.puts HNE.out.1 13 _)
  have K3 := Lib.hid (show Blk W4 E 104 [.int .u8 (b : Int), .bool a, .bool e, .bool s, .bool l] by rw [hW4]; exact H3.out.puts HNE.out.2 13 _)
  have K4 := Lib.hid (show Kp B (.slice none 0 0) w W4 by rw [hW4]; exact H4.out.set 13 _)
  go_upto_region 6 with fail
  rw [← hW4]
  clear hW4 c13 g13
  have z0 := K3.out.cellAt (i := 0) (by simp); have z1 := K3.out.cellAt (i := 1) (by simp); have z2 := K3.out.cellAt (i := 2) (by simp); have z3 := K3.out.cellAt (i := 3) (by simp); have z4 := K3.out.cellAt (i := 4) (by simp)
  go_wp2_with fail
  refine (HH.out _).mono ?_
  rintro y w5 ⟨rfl, hb5⟩
  have Q1 := Lib.hid (K1.out.keep hb5 K1.out.lt)
  have Q2 := Lib.hid (K2.out.keep hb5 K2.out.lt)
  have Q4 := Lib.hid (K4.out.trans (Kp.of_below (v := .slice none 0 0) hb5) (Nx.refl _ _))
  clear hb5 z0 z1 z2 z3 z4 HH
  have c12 : w5.cell? ⟨B, 12, none⟩ = some v := by
    have h := Q1.out
    rw [hfr] at h
    exact h.cellAt (i := 12) (by simp)
  have g12 : w5.frozen? ⟨B, 12, none⟩ = false := Q1.out.frozenAt 12
  by_cases h0 : V = 0
  · have j0 : ((V : Int) != 0) = false := by rw [h0]; rfl
    have HV0 := Lib.hid h0
    clear h0
    go_wp2_with fail
    go_ret
    refine ⟨rfl, ⟨?_, Q2.out, HS.out.fr12, HS.out.ne⟩, Q4.out⟩
    have hq := Q1.out
    rw [HV.out (by have := HM.out; have := HFIN.out HV0.out; omega), show m - 1 = L.length - (k + 1) by have := HM.out; omega] at hq
    rw [decide_eq_true HV0.out, if_pos rfl]
    exact hq
  · have j0 : ((V : Int) != 0) = true := by simp; omega
    have HV0 := Lib.hid h0
    clear h0
    go_wp2_with fail
    go_ret
    refine ⟨rfl, ⟨?_, Q2.out.puts HNE.out.1 12 _, HS.out.fr12, HS.out.ne⟩, Q4.out.set 12 _⟩
    have hq := Q1.out
    rw [decide_eq_false HV0.out, if_neg (by decide)]
    rw [hfr] at hq ⊢
    exact hq.put1 (i := 12) (by simp) _
end Go.Proofs.YtmfnkfiocnngeaaDoor
