/- A listener of the code's and one of the document's in one memory; whether they tell the same. Conditions: not more than a thousand bits. -/
import Derived.Test.YtndjennhbggoiaaDoorLrd
import Derived.Test.YtndjennhbggoiaaDoorWrl
namespace Go.Proofs.YtndjennhbggoiaaDoor
open Go.RowKit Go.Shelf
/-- Both listeners, apart from each other. -/
structure H3 (w0 wr : World) (BL BR : Nat) (s : LS) (r : RS) (v vr : Value) : Prop where
  la : LA wr BL s v
  ra : RA wr BR r vr
  below : Below w0.heap.size w0 wr
  hv : ∀ k, v.ownBlock = some k → vr.ownBlock ≠ some k
  hvB : v.ownBlock ≠ some BR
  ge : w0.heap.size ≤ BL
  lt : BL < BR
theorem ow_lt {n k : Nat} {w : World} {v : Value} {E : List Nat} (h : Ow n w v E) (e : v.ownBlock = some k) : k < w.heap.size := (World.ownsRow.lt h.own k e).2
theorem H3.on {w0 wr X : World} {BL BR : Nat} {s : LS} {r : RS} {v vr : Value} (h : H3 w0 wr BL BR s r v vr) (hb : Below wr.heap.size wr X) : H3 w0 X BL BR s r v vr :=
  ⟨h.la.on hb, h.ra.on hb, h.below.trans (hb.mono h.below.size), h.hv, h.hvB, h.ge, h.lt⟩
theorem H3.hearL {w0 wr : World} {BL BR : Nat} {s : LS} {r : RS} {v vr : Value} (h : H3 w0 wr BL BR s r v vr) {k : Nat} (hk : LS.Ok k s) (hkl : k ≤ 900) (x : Nat) (h0 : 0 < w0.heap.size) (hT : Tab w0) :
    Calls Tryd.prog 39 #[.pointer (some ⟨BL, 0, none⟩), .int .u8 (x : Int)] wr fun y w' => ∃ v', y = .returned (.int .i64 ((s.hear x).2 : Nat)) ∧ H3 w0 w' BL BR (s.hear x).1 r v' vr := by
  have hg := h.ge
  refine (hear_any BL s v x hk.p hk.r (by have := hk.raw; omega) (by have := hk.en; omega) (by have := hk.h; omega) wr (by omega) (hT.onB h.below h0) h.la).mono ?_
  rintro y w' ⟨v', rfl, hla, hkp, hnx⟩
  have hbr := h.ra.lt
  refine ⟨v', rfl, hla, ⟨h.ra.blk.on (hkp.block BR hbr (by have := h.lt; omega) h.hvB), hkp.ow h.ra.own (fun e => by have := h.ra.own.ge BL e; have := h.lt; omega) (fun k e e2 => h.hv k e2 e), h.ra.frf⟩, ?_, ?_, ?_, h.ge, h.lt⟩
  · exact h.below.trans ((hkp.below (Nat.le_of_lt h.la.lt) (fun k e => by have := h.la.own.ge k e; omega)).mono h.ge)
  · intro k e e2
    rcases hnx k e with g | g
    · exact h.hv k g e2
    · have := ow_lt h.ra.own e2; omega
  · intro e
    rcases hnx BR e with g | g
    · exact h.hvB g
    · omega
theorem H3.hearR {w0 wr : World} {BL BR : Nat} {s : LS} {r : RS} {v vr : Value} (h : H3 w0 wr BL BR s r v vr) (hl : r.bs.length ≤ 900) (x : Nat) :
    Calls Tryd.prog 40 #[.pointer (some ⟨BR, 0, none⟩), .int .u8 (x : Int)] wr fun y w' => ∃ vr', y = .returned (.int .i64 ((r.hear x).2 : Nat)) ∧ H3 w0 w' BL BR s (r.hear x).1 v vr' := by
  have hg := h.ge
  have hlt := h.lt
  refine (rhear_any BR r vr x hl wr h.ra).mono ?_
  rintro y w' ⟨vr', rfl, hra, hkp, hnx⟩
  have hbl := h.la.lt
  have hnB : vr.ownBlock ≠ some BL := fun e => by have := h.ra.own.ge BL e; omega
  refine ⟨vr', rfl, ⟨h.la.blk.on (hkp.block BL hbl (by omega) hnB), hkp.ow h.la.own h.hvB (fun k e e2 => h.hv k e e2), h.la.fr12⟩, hra, ?_, ?_, h.hvB, h.ge, h.lt⟩
  · exact h.below.trans ((hkp.below (Nat.le_of_lt h.ra.lt) (fun k e => by have := h.ra.own.ge k e; omega)).mono (by omega))
  · intro k e e2
    rcases hnx k e2 with g | g
    · exact h.hv k e g
    · have := ow_lt h.la.own e; omega
set_option maxRecDepth 100000 in
set_option maxHeartbeats 8000000 in
theorem same8_any (BL BR : Nat) (s : LS) (r : RS) (v vr : Value) (hP : s.p = r.place) (hG : (decide (s.p ≠ 5) && s.g) = r.good) (hF : s.vl = r.ok ∧ (s.vl = true → s.fr = r.fr)) (hH : s.h = r.bs.length) (hs : FrF s.fr) (hl : r.bs.length ≤ 1000) (w : World) (hL : LA w BL s v) (hR : RA w BR r vr) :
    Calls Tryd.prog 38 #[.pointer (some ⟨BL, 0, none⟩), .pointer (some ⟨BR, 0, none⟩)] w fun y w' => y = .returned (.bool true) ∧ Below w.heap.size w w' := by
  obtain ⟨e, n, q, m, x0, x1, x2, x3, x4, x5, x6, x7, h1, h2⟩ : ∃ (e : Bool) (n : Nat) (q : Bool) (m : Nat) (x0 x1 x2 x3 x4 x5 x6 x7 : Nat), (if s.vl then s.fr else frameC false 0 false 0 [0, 0, 0, 0, 0, 0, 0, 0]) = frameC e n q (m : Int) [x0, x1, x2, x3, x4, x5, x6, x7] ∧ (if r.ok then r.fr else frameC false 0 false 0 [0, 0, 0, 0, 0, 0, 0, 0]) = frameC e n q (m : Int) [x0, x1, x2, x3, x4, x5, x6, x7] := by
    cases hv : s.vl
    · have : r.ok = false := by rw [← hF.1, hv]
      rw [this]
      exact ⟨false, 0, false, 0, 0, 0, 0, 0, 0, 0, 0, 0, rfl, rfl⟩
    · have h1 : r.ok = true := by rw [← hF.1, hv]
      obtain ⟨e, n, q, m, x0, x1, x2, x3, x4, x5, x6, x7, hh⟩ := hs
      rw [h1]
      exact ⟨e, n, q, m, x0, x1, x2, x3, x4, x5, x6, x7, hh, by rw [← hh, hF.2 hv]; rfl⟩
  obtain ⟨P, hPP⟩ : ∃ P, P = r.place := ⟨_, rfl⟩
  obtain ⟨G, hGG⟩ : ∃ G, G = r.good := ⟨_, rfl⟩
  obtain ⟨K, hK⟩ : ∃ K, K = r.bs.length := ⟨_, rfl⟩
  obtain ⟨O, hO⟩ : ∃ O, O = r.ok := ⟨_, rfl⟩
  have HF1 := Lib.hid (show ∀ u, Below w.heap.size w u → Calls Tryd.prog 44 #[.pointer (some ⟨BL, 0, none⟩)] u fun y w' => y = .returned (.tuple #[.agg #[.bool e, .int .u32 (n : Int), .bool q, .int .i64 (m : Int), .int .u8 (x0 : Int), .int .u8 (x1 : Int), .int .u8 (x2 : Int), .int .u8 (x3 : Int), .int .u8 (x4 : Int), .int .u8 (x5 : Int), .int .u8 (x6 : Int), .int .u8 (x7 : Int)], .bool O]) ∧ Below u.heap.size u w' from fun u hu => by
    have h := lframe_any BL s v u hs (hL.on hu)
    rw [h1, hF.1, ← hO] at h
    exact h)
  have HF2 := Lib.hid (show ∀ u, Below w.heap.size w u → Calls Tryd.prog 53 #[.pointer (some ⟨BR, 0, none⟩)] u fun y w' => y = .returned (.tuple #[.agg #[.bool e, .int .u32 (n : Int), .bool q, .int .i64 (m : Int), .int .u8 (x0 : Int), .int .u8 (x1 : Int), .int .u8 (x2 : Int), .int .u8 (x3 : Int), .int .u8 (x4 : Int), .int .u8 (x5 : Int), .int .u8 (x6 : Int), .int .u8 (x7 : Int)], .bool O]) ∧ Below u.heap.size u w' from fun u hu => by
    have h := rframe_any BR r vr u (hR.on hu)
    rw [h2, ← hO] at h
    exact h)
  have HP1 := Lib.hid (show ∀ u, Below w.heap.size w u → Calls Tryd.prog 47 #[.pointer (some ⟨BL, 0, none⟩)] u fun y w' => y = .returned (.int .i64 (P : Int)) ∧ u = w' from fun u hu => by
    have h := lplace_any BL s v u (hL.on hu)
    rw [hP, ← hPP] at h
    exact h)
  have HP2 := Lib.hid (show ∀ u, Below w.heap.size w u → Calls Tryd.prog 93 #[.pointer (some ⟨BR, 0, none⟩)] u fun y w' => y = .returned (.int .i64 (P : Int)) ∧ Below u.heap.size u w' from fun u hu => by
    have h := rplace_any BR r vr hl u (hR.on hu)
    rw [← hPP] at h
    exact h)
  have HG1 := Lib.hid (show ∀ u, Below w.heap.size w u → Calls Tryd.prog 43 #[.pointer (some ⟨BL, 0, none⟩)] u fun y w' => y = .returned (.bool G) ∧ u = w' from fun u hu => by
    have h := lgood_any BL s v u (hL.on hu)
    rw [hG, ← hGG] at h
    exact h)
  have HG2 := Lib.hid (show ∀ u, Below w.heap.size w u → Calls Tryd.prog 94 #[.pointer (some ⟨BR, 0, none⟩)] u fun y w' => y = .returned (.bool G) ∧ Below u.heap.size u w' from fun u hu => by
    have h := rgood_any BR r vr hl u (hR.on hu)
    rw [← hGG] at h
    exact h)
  have HH1 := Lib.hid (show ∀ u, Below w.heap.size w u → Calls Tryd.prog 95 #[.pointer (some ⟨BL, 0, none⟩)] u fun y w' => y = .returned (.int .i64 (K : Int)) ∧ u = w' from fun u hu => by
    have h := lheard_any BL s v u (hL.on hu)
    rw [hH, ← hK] at h
    exact h)
  have HH2 := Lib.hid (show ∀ u, Below w.heap.size w u → Calls Tryd.prog 96 #[.pointer (some ⟨BR, 0, none⟩)] u fun y w' => y = .returned (.int .i64 (K : Int)) ∧ u = w' from fun u hu => by
    have h := rheard_any BR r vr u (hR.on hu)
    rw [← hK] at h
    exact h)
  have heq : ∀ u : World, Sem.run Tryd.prog (Op.equalIn 9999 25 (.agg #[.int .u8 (x0 : Int), .int .u8 (x1 : Int), .int .u8 (x2 : Int), .int .u8 (x3 : Int), .int .u8 (x4 : Int), .int .u8 (x5 : Int), .int .u8 (x6 : Int), .int .u8 (x7 : Int)]) (.agg #[.int .u8 (x0 : Int), .int .u8 (x1 : Int), .int .u8 (x2 : Int), .int .u8 (x3 : Int), .int .u8 (x4 : Int), .int .u8 (x5 : Int), .int .u8 (x6 : Int), .int .u8 (x7 : Int)])) u = .ok true u := fun u => frame_same 9997 x0 x1 x2 x3 x4 x5 x6 x7 u
  clear hP hG hF hH hs hl hL hR h1 h2 hPP hGG hK hO
  go_enter Tryd.func38, Tryd.ntmps38
  go_wp2_with fail
  refine (HF1.out _ (Below.refl _ _)).mono ?_
  rintro y w1 ⟨rfl, hb1⟩
  obtain ⟨W2, hW2⟩ : ∃ W2, W2 = w1.alloc (.cells #[.bool e, .int .u32 (n : Int), .bool q, .int .i64 (m : Int), .int .u8 (x0 : Int), .int .u8 (x1 : Int), .int .u8 (x2 : Int), .int .u8 (x3 : Int), .int .u8 (x4 : Int), .int .u8 (x5 : Int), .int .u8 (x6 : Int), .int .u8 (x7 : Int)] 27) := ⟨_, rfl⟩
  have HB2 := Lib.hid (show Below w.heap.size w W2 by rw [hW2]; exact hb1.alloc hb1.size _)
  have HX := Lib.hid (show Blk W2 w1.heap.size 27 (frameC e n q (m : Int) [x0, x1, x2, x3, x4, x5, x6, x7]) by rw [hW2]; exact Blk.new w1 _ _)
  clear hb1
  go_upto_region 2 with fail
  rw [← hW2]
  clear hW2
  obtain ⟨DX, hDX⟩ : ∃ DX, DX = w1.heap.size := ⟨_, rfl⟩
  rw [← hDX] at HX ⊢
  clear hDX
  go_wp2_with fail
  refine (HF2.out _ HB2.out).mono ?_
  rintro y w3 ⟨rfl, hb3⟩
  obtain ⟨W4, hW4⟩ : ∃ W4, W4 = w3.alloc (.cells #[.bool e, .int .u32 (n : Int), .bool q, .int .i64 (m : Int), .int .u8 (x0 : Int), .int .u8 (x1 : Int), .int .u8 (x2 : Int), .int .u8 (x3 : Int), .int .u8 (x4 : Int), .int .u8 (x5 : Int), .int .u8 (x6 : Int), .int .u8 (x7 : Int)] 27) := ⟨_, rfl⟩
  have hb4 : Below W2.heap.size W2 W4 := by rw [hW4]; exact hb3.alloc hb3.size _
  have HB4 := Lib.hid (HB2.out.trans (hb4.mono HB2.out.size))
  have HX4 := Lib.hid (HX.out.keep hb4 HX.out.lt)
  have HY := Lib.hid (show Blk W4 w3.heap.size 27 (frameC e n q (m : Int) [x0, x1, x2, x3, x4, x5, x6, x7]) by rw [hW4]; exact Blk.new w3 _ _)
  clear hb3 hb4
  go_upto_region 3 with fail
  rw [← hW4]
  clear hW4
  obtain ⟨DY, hDY⟩ : ∃ DY, DY = w3.heap.size := ⟨_, rfl⟩
  rw [← hDY] at HY ⊢
  clear hDY
  go_wp2_with fail
  refine (HP1.out _ HB4.out).mono ?_
  rintro y w5 ⟨rfl, rfl⟩
  go_wp2_with fail
  refine (HP2.out _ HB4.out).mono ?_
  rintro y w6 ⟨rfl, hb6⟩
  have HB6 := Lib.hid (HB4.out.trans (hb6.mono HB4.out.size))
  have HX6 := Lib.hid (HX4.out.keep hb6 HX4.out.lt)
  have HY6 := Lib.hid (HY.out.keep hb6 HY.out.lt)
  have kg : (G == G) = true := by cases G <;> rfl
  have ko : (O == O) = true := by cases O <;> rfl
  clear hb6
  go_wp2_with fail
  refine (HG1.out _ HB6.out).mono ?_
  rintro y w7 ⟨rfl, rfl⟩
  go_wp2_with fail
  refine (HG2.out _ HB6.out).mono ?_
  rintro y w8 ⟨rfl, hb8⟩
  have HB8 := Lib.hid (HB6.out.trans (hb8.mono HB6.out.size))
  obtain ⟨y0, y1, y2, y3, y4, y5, y6, y7, y8, y9, y10, y11⟩ := ((HX6.out.keep hb8 HX6.out.lt).at rfl).cells
  obtain ⟨z0, z1, z2, z3, z4, z5, z6, z7, z8, z9, z10, z11⟩ := ((HY6.out.keep hb8 HY6.out.lt).at rfl).cells
  clear hb8
  go_wp2_with fail
  refine (HH1.out _ HB8.out).mono ?_
  rintro y w9 ⟨rfl, rfl⟩
  go_wp2_with fail
  refine (HH2.out _ HB8.out).mono ?_
  rintro y w9 ⟨rfl, rfl⟩
  go_wp2_with fail
  go_ret
  exact ⟨rfl, HB8.out⟩
end Go.Proofs.YtndjennhbggoiaaDoor
