/- An array of two words that is handed to a statement, opened. No conditions. -/
import Derived.Test.YtcfkbadpoefajaaDoorSmr
import Derived.Test.YtcfkbadpoefajaaDoorCla
import Derived.Test.YtcfkbadpoefajaaDoorQtc
import Derived.WalkKit
import Derived.OpenShut
import Derived.Laws.IdiomArrays
namespace Go.Proofs.YtcfkbadpoefajaaDoor
open Go.RowKit Go.Shelf
open Go.ChangeShapes Go.WideShapes
theorem trod_arr2u {H : Type} {enc : TypeId × Value → H} {P : Program} {w : World} {base : Nat} {spare : Nat → Bool} {held : Bool} {t e : TypeId} {fuel : Nat} {c0 c1 : Value} {x : DataW H × List MemPlace} (ht : P.underlying t = some (.array 2 e)) (hce : P.cellsOf e = 1)
    (h : DataW.trod enc P w base spare held fuel t [c0, c1] = some x) :
    ∃ y0 y1 n, x = (.agg [y0.1, y1.1], y0.2 ++ y1.2) ∧ DataW.trod enc P w base spare held n e [c0] = some y0 ∧ DataW.trod enc P w base spare held n e [c1] = some y1 := by
  cases fuel with
  | zero => simp [DataW.trod] at h
  | succ n =>
    unfold DataW.trod at h
    rw [ht] at h
    have r2 : List.range 2 = [0, 1] := rfl
    simp [r2, hce] at h
    obtain ⟨_, h⟩ := h
    cases h0 : DataW.trod enc P w base spare held n e [c0] with
    | none => simp [h0] at h
    | some y0 =>
      cases h1 : DataW.trod enc P w base spare held n e [c1] with
      | none => simp [h0, h1] at h
      | some y1 =>
        simp [h0, h1] at h
        exact ⟨y0, y1, n, h.symm, h0, h1⟩
theorem open_arr2u {H : Type} {enc : TypeId × Value → H} {P : Program} {W : World} {base : Nat} {sp : Nat → Bool} {held : Bool} {r : Reach} {b0 : Nat} {v : Value} {d : DataW H} {p : List MemPlace} {t e : TypeId}
    (ht : P.underlying t = some (.array 2 e)) (he : P.underlying e = some (.int .u32)) (hce : P.cellsOf e = 1) (hct : P.cellsOf t = 2) (hv : Value.okWide P W r b0 t v) (h : DataW.Trod enc P W base sp held t v d p) :
    ∃ a b : Int, v = .agg #[.int .u32 a, .int .u32 b] ∧ (Lit.int .u32 a).wf = true ∧ (Lit.int .u32 b).wf = true := by
  simp only [Value.okWide, ht] at hv
  obtain ⟨cs, rfl, hsz, _⟩ := hv
  rw [hct] at hsz
  obtain ⟨c0, c1, rfl⟩ : ∃ c0 c1, cs = #[c0, c1] := by
    obtain ⟨l⟩ := cs
    match l, hsz with
    | [c0, c1], _ => exact ⟨c0, c1, rfl⟩
  obtain ⟨fuel, hf⟩ := h
  obtain ⟨y0, y1, m, _, h0, h1⟩ := trod_arr2u ht hce (by simpa [Value.cells] using hf)
  obtain ⟨n0, e0, _, w0⟩ := DataW.trod_int he h0
  obtain ⟨n1, e1, _, w1⟩ := DataW.trod_int he h1
  obtain rfl : c0 = .int .u32 n0 := by simpa using e0
  obtain rfl : c1 = .int .u32 n1 := by simpa using e1
  exact ⟨n0, n1, rfl, w0, w1⟩
set_option maxRecDepth 100000 in
set_option maxHeartbeats 8000000 in
theorem later_any (s : Sm) (a b l : Int) (hx : s.right = 0) (hp : 200 ≤ s.p ∧ s.p ≤ 4199) (hd : 100 ≤ s.d ∧ s.d ≤ s.p) (hab : 0 ≤ a ∧ a < b) (hb : b ≤ 8589934592) (hl : 1 ≤ l ∧ l ≤ 65536) (w : World) (h0 : 0 < w.heap.size) (hT : Tab w) : Calls Tryd.prog 36 #[s.v, .int .i64 a, .int .i64 b, .int .i64 l] w fun y w' => y = .returned (.bool true) ∧ Below w.heap.size w w' := by
  have HTX := Lib.hid (show ∀ x, Below w.heap.size w x → 0 < x.heap.size ∧ Tab x from fun x hx => ⟨Nat.lt_of_lt_of_le h0 hx.size, hT.on hx h0⟩)
  clear hT h0
  have in1 : inS a 0 1125899906842624 = true := by unfold inS; exact decide_eq_true (by omega)
  have in2 : inS b 0 1125899906842624 = true := by unfold inS; exact decide_eq_true (by omega)
  obtain ⟨k, hk⟩ : ∃ k, k = costS s.i s.n s.c s.p s.d s.s s.b := ⟨_, rfl⟩
  obtain ⟨E, hE⟩ : ∃ E, E = a + s.d := ⟨_, rfl⟩
  obtain ⟨G, hG⟩ : ∃ E, E = b + s.d := ⟨_, rfl⟩
  obtain ⟨q, hq⟩ : ∃ q, q = b - a := ⟨_, rfl⟩
  have HJ1 := Lib.hid (fun u p r => sjob_any s.i s.n s.c s.p s.d s.s s.b a u p r); have HJ2 := Lib.hid (fun u p r => sjob_any s.i s.n s.c s.p s.d s.s s.b b u p r)
  rw [jobV_ok ⟨hx, in1⟩, ← hk, ← hE] at HJ1
  rw [jobV_ok ⟨hx, in2⟩, ← hk, ← hG] at HJ2
  have q1 : qmayB l [E, a] = true := qmay_two_of (by omega) (by omega) (by omega)
  have q2 : qmayB l [G, a] = true := qmay_two_of (by omega) (by omega) (by omega)
  obtain ⟨S, hS⟩ : ∃ S, S = slotL s.c s.s (slotX E a l) := ⟨_, rfl⟩
  obtain ⟨U, hU⟩ : ∃ S, S = slotL s.c s.s (slotX G a l) := ⟨_, rfl⟩
  have HL1 := Lib.hid (fun u => slab_any s.i s.n s.c s.p s.d s.s s.b E a l u); have HL2 := Lib.hid (fun u => slab_any s.i s.n s.c s.p s.d s.s s.b G a l u)
  have hx' : rightS s.i s.n s.c s.p s.d s.s s.b = 0 := hx
  unfold labV at HL1 HL2
  rw [if_pos hx', if_pos q1, ← hS] at HL1
  rw [if_pos hx', if_pos q2, ← hU] at HL2
  have hSU : S ≤ U := by
    rw [hS, hU]; unfold slotL
    split
    · have h2 : (E - a) / l ≤ (G - a) / l := Int.ediv_le_ediv (by omega) (by omega)
      rw [show slotX E a l = clampV ((E - a) / l) 0 255 by unfold slotX; rw [if_pos q1], show slotX G a l = clampV ((G - a) / l) 0 255 by unfold slotX; rw [if_pos q2]]
      unfold clampV
      split <;> split <;> (try split) <;> (try split) <;> omega
    · exact Int.le_refl _
  have HN := Lib.hid (fun u => r23before_any s.c U s.i s.n s.c S s.i s.n u)
  rw [show befL s.c U s.i s.n s.c S s.i s.n = false by
    by_cases h : U = S
    · rw [h, befL_4]
    · rw [befL_1 h]; exact decide_eq_false (by omega)] at HN
  have HF := Lib.hid (fun u p r => sfol_any s.i s.n s.c s.p s.d s.s s.b s.i a E k s.i b G k u p r)
  obtain ⟨fo, hfo⟩ : ∃ f, f = decide (s.p ≤ q) := ⟨_, rfl⟩
  rw [show folB s.i s.n s.c s.p s.d s.s s.b s.i a E k s.i b G k = fo by
    unfold folB hasB
    rw [decide_eq_true (show rightS s.i s.n s.c s.p s.d s.s s.b = 0 ∧ inS a 0 1125899906842624 = true ∧ s.i = s.i ∧ E = a + s.d ∧ k = costS s.i s.n s.c s.p s.d s.s s.b from ⟨hx', in1, rfl, hE, hk⟩), decide_eq_true (show rightS s.i s.n s.c s.p s.d s.s s.b = 0 ∧ inS b 0 1125899906842624 = true ∧ s.i = s.i ∧ G = b + s.d ∧ k = costS s.i s.n s.c s.p s.d s.s s.b from ⟨hx', in2, rfl, hG, hk⟩), hfo, hq]
    rfl] at HF
  have g1 : decide (E < G) = true := decide_eq_true (by omega)
  have HG := Lib.hid (show (fo == decide (s.p ≤ IntKind.i64.wrap (b - a))) = true by
    rw [show IntKind.i64.wrap (b - a) = q by rw [IntKind.wrap_i64, hq]; omega, hfo]; simp)
  have HLV := Lib.hid (fun u p r => live25 u p r)
  clear in1 in2 hk hE hG hq q1 q2 hS hU hx' hSU hfo hx hp hd hab hb hl
  unfold Sm.v
  go_enter Tryd.func36, Tryd.ntmps36
  go_upto_region 1 with fail
  obtain ⟨W1, hW1⟩ : ∃ W, W = (w.alloc (.cells #[.int .i64 s.i, .int .i64 s.n, .int .i64 s.c, .int .i64 s.p, .int .i64 s.d, .int .i64 s.s, .int .i64 s.b] 30)) := ⟨_, rfl⟩
  have hbel_ : Below w.heap.size w W1 := by rw [hW1]; exact ((Below.refl w.heap.size w).alloc (Nat.le_refl w.heap.size) _)
  have h_s : Blk W1 w.heap.size 30 [.int .i64 s.i, .int .i64 s.n, .int .i64 s.c, .int .i64 s.p, .int .i64 s.d, .int .i64 s.s, .int .i64 s.b] := by rw [hW1]; exact (blk_at (w) w.heap.size (by rfl) 30 [.int .i64 s.i, .int .i64 s.n, .int .i64 s.c, .int .i64 s.p, .int .i64 s.d, .int .i64 s.s, .int .i64 s.b]).keep (Below.refl (w.heap.size + 1) _) (by omega)
  rw [← hW1]
  have HB1 := Lib.hid hbel_
  have Hs1 := Lib.hid h_s
  clear hbel_ hW1  h_s
  have s_0 : W1.cell? ⟨w.heap.size, 0, none⟩ = some (.int .i64 s.i) := Hs1.out.cellAt (i := 0) (by simp)
  have s_1 : W1.cell? ⟨w.heap.size, 1, none⟩ = some (.int .i64 s.n) := Hs1.out.cellAt (i := 1) (by simp)
  have s_2 : W1.cell? ⟨w.heap.size, 2, none⟩ = some (.int .i64 s.c) := Hs1.out.cellAt (i := 2) (by simp)
  have s_3 : W1.cell? ⟨w.heap.size, 3, none⟩ = some (.int .i64 s.p) := Hs1.out.cellAt (i := 3) (by simp)
  have s_4 : W1.cell? ⟨w.heap.size, 4, none⟩ = some (.int .i64 s.d) := Hs1.out.cellAt (i := 4) (by simp)
  have s_5 : W1.cell? ⟨w.heap.size, 5, none⟩ = some (.int .i64 s.s) := Hs1.out.cellAt (i := 5) (by simp)
  have s_6 : W1.cell? ⟨w.heap.size, 6, none⟩ = some (.int .i64 s.b) := Hs1.out.cellAt (i := 6) (by simp)
  go_wp2_with fail
  clear s_0 s_1 s_2 s_3 s_4 s_5 s_6
  refine (HJ1.out _ (HTX.out _ HB1.out).1 (HTX.out _ HB1.out).2).mono ?_
  rintro y w2 ⟨rfl, hb⟩
  have HB2 := Lib.hid (below_transG HB1.out hb)
  have Hs2 := Lib.hid (Hs1.out.keep hb Hs1.out.lt)
  clear hb
  go_upto_region 2 with fail
  obtain ⟨W3, hW3⟩ : ∃ W, W = (w2.alloc (.cells #[.int .i64 s.i, .int .i64 a, .int .i64 E, .int .i64 k] 39)) := ⟨_, rfl⟩
  have hbel_ : Below w.heap.size w W3 := by rw [hW3]; exact (HB2.out.alloc HB2.out.size _)
  have h_s : Blk W3 w.heap.size 30 [.int .i64 s.i, .int .i64 s.n, .int .i64 s.c, .int .i64 s.p, .int .i64 s.d, .int .i64 s.s, .int .i64 s.b] := by rw [hW3]; exact Hs2.out.keep ((Below.refl w2.heap.size w2).alloc (Nat.le_refl _) _) Hs2.out.lt
  have h_j : Blk W3 w2.heap.size 39 [.int .i64 s.i, .int .i64 a, .int .i64 E, .int .i64 k] := by rw [hW3]; exact (blk_at (w2) w2.heap.size (by rfl) 39 [.int .i64 s.i, .int .i64 a, .int .i64 E, .int .i64 k]).keep (Below.refl (w2.heap.size + 1) _) (by omega)
  rw [← hW3]
  have HB3 := Lib.hid hbel_
  have Hs3 := Lib.hid h_s
  have Hj3 := Lib.hid h_j
  clear hbel_ hW3 h_s h_j
  have s_0 : W3.cell? ⟨w.heap.size, 0, none⟩ = some (.int .i64 s.i) := Hs3.out.cellAt (i := 0) (by simp)
  have s_1 : W3.cell? ⟨w.heap.size, 1, none⟩ = some (.int .i64 s.n) := Hs3.out.cellAt (i := 1) (by simp)
  have s_2 : W3.cell? ⟨w.heap.size, 2, none⟩ = some (.int .i64 s.c) := Hs3.out.cellAt (i := 2) (by simp)
  have s_3 : W3.cell? ⟨w.heap.size, 3, none⟩ = some (.int .i64 s.p) := Hs3.out.cellAt (i := 3) (by simp)
  have s_4 : W3.cell? ⟨w.heap.size, 4, none⟩ = some (.int .i64 s.d) := Hs3.out.cellAt (i := 4) (by simp)
  have s_5 : W3.cell? ⟨w.heap.size, 5, none⟩ = some (.int .i64 s.s) := Hs3.out.cellAt (i := 5) (by simp)
  have s_6 : W3.cell? ⟨w.heap.size, 6, none⟩ = some (.int .i64 s.b) := Hs3.out.cellAt (i := 6) (by simp)
  go_wp2_with fail
  clear s_0 s_1 s_2 s_3 s_4 s_5 s_6
  refine (HJ2.out _ (HTX.out _ HB3.out).1 (HTX.out _ HB3.out).2).mono ?_
  rintro y w4 ⟨rfl, hb⟩
  have HB4 := Lib.hid (below_transG HB3.out hb)
  have Hs4 := Lib.hid (Hs3.out.keep hb Hs3.out.lt)
  have Hj4 := Lib.hid (Hj3.out.keep hb Hj3.out.lt)
  clear hb
  go_upto_region 3 with fail
  obtain ⟨W5, hW5⟩ : ∃ W, W = (w4.alloc (.cells #[.int .i64 s.i, .int .i64 b, .int .i64 G, .int .i64 k] 39)) := ⟨_, rfl⟩
  have hbel_ : Below w.heap.size w W5 := by rw [hW5]; exact (HB4.out.alloc HB4.out.size _)
  have h_s : Blk W5 w.heap.size 30 [.int .i64 s.i, .int .i64 s.n, .int .i64 s.c, .int .i64 s.p, .int .i64 s.d, .int .i64 s.s, .int .i64 s.b] := by rw [hW5]; exact Hs4.out.keep ((Below.refl w4.heap.size w4).alloc (Nat.le_refl _) _) Hs4.out.lt
  have h_j : Blk W5 w2.heap.size 39 [.int .i64 s.i, .int .i64 a, .int .i64 E, .int .i64 k] := by rw [hW5]; exact Hj4.out.keep ((Below.refl w4.heap.size w4).alloc (Nat.le_refl _) _) Hj4.out.lt
  have h_g : Blk W5 w4.heap.size 39 [.int .i64 s.i, .int .i64 b, .int .i64 G, .int .i64 k] := by rw [hW5]; exact (blk_at (w4) w4.heap.size (by rfl) 39 [.int .i64 s.i, .int .i64 b, .int .i64 G, .int .i64 k]).keep (Below.refl (w4.heap.size + 1) _) (by omega)
  rw [← hW5]
  have HB5 := Lib.hid hbel_
  have Hs5 := Lib.hid h_s
  have Hj5 := Lib.hid h_j
  have Hg5 := Lib.hid h_g
  clear hbel_ hW5 h_s h_j h_g
  have s_0 : W5.cell? ⟨w.heap.size, 0, none⟩ = some (.int .i64 s.i) := Hs5.out.cellAt (i := 0) (by simp)
  have s_1 : W5.cell? ⟨w.heap.size, 1, none⟩ = some (.int .i64 s.n) := Hs5.out.cellAt (i := 1) (by simp)
  have s_2 : W5.cell? ⟨w.heap.size, 2, none⟩ = some (.int .i64 s.c) := Hs5.out.cellAt (i := 2) (by simp)
  have s_3 : W5.cell? ⟨w.heap.size, 3, none⟩ = some (.int .i64 s.p) := Hs5.out.cellAt (i := 3) (by simp)
  have s_4 : W5.cell? ⟨w.heap.size, 4, none⟩ = some (.int .i64 s.d) := Hs5.out.cellAt (i := 4) (by simp)
  have s_5 : W5.cell? ⟨w.heap.size, 5, none⟩ = some (.int .i64 s.s) := Hs5.out.cellAt (i := 5) (by simp)
  have s_6 : W5.cell? ⟨w.heap.size, 6, none⟩ = some (.int .i64 s.b) := Hs5.out.cellAt (i := 6) (by simp)
  have j_0 : W5.cell? ⟨w2.heap.size, 0, none⟩ = some (.int .i64 s.i) := Hj5.out.cellAt (i := 0) (by simp)
  have j_1 : W5.cell? ⟨w2.heap.size, 1, none⟩ = some (.int .i64 a) := Hj5.out.cellAt (i := 1) (by simp)
  have j_2 : W5.cell? ⟨w2.heap.size, 2, none⟩ = some (.int .i64 E) := Hj5.out.cellAt (i := 2) (by simp)
  have j_3 : W5.cell? ⟨w2.heap.size, 3, none⟩ = some (.int .i64 k) := Hj5.out.cellAt (i := 3) (by simp)
  go_wp2_with fail
  clear s_0 s_1 s_2 s_3 s_4 s_5 s_6 j_0 j_1 j_2 j_3
  refine (HL1.out _).mono ?_
  rintro y w6 ⟨rfl, hb⟩
  have HB6 := Lib.hid (below_transG HB5.out hb)
  have Hs6 := Lib.hid (Hs5.out.keep hb Hs5.out.lt)
  have Hj6 := Lib.hid (Hj5.out.keep hb Hj5.out.lt)
  have Hg6 := Lib.hid (Hg5.out.keep hb Hg5.out.lt)
  clear hb
  go_upto_region 4 with fail
  obtain ⟨W7, hW7⟩ : ∃ W, W = (w6.alloc (.cells #[.int .i64 s.c, .int .i64 S, .int .i64 s.i, .int .i64 s.n] 42)) := ⟨_, rfl⟩
  have hbel_ : Below w.heap.size w W7 := by rw [hW7]; exact (HB6.out.alloc HB6.out.size _)
  have h_s : Blk W7 w.heap.size 30 [.int .i64 s.i, .int .i64 s.n, .int .i64 s.c, .int .i64 s.p, .int .i64 s.d, .int .i64 s.s, .int .i64 s.b] := by rw [hW7]; exact Hs6.out.keep ((Below.refl w6.heap.size w6).alloc (Nat.le_refl _) _) Hs6.out.lt
  have h_j : Blk W7 w2.heap.size 39 [.int .i64 s.i, .int .i64 a, .int .i64 E, .int .i64 k] := by rw [hW7]; exact Hj6.out.keep ((Below.refl w6.heap.size w6).alloc (Nat.le_refl _) _) Hj6.out.lt
  have h_g : Blk W7 w4.heap.size 39 [.int .i64 s.i, .int .i64 b, .int .i64 G, .int .i64 k] := by rw [hW7]; exact Hg6.out.keep ((Below.refl w6.heap.size w6).alloc (Nat.le_refl _) _) Hg6.out.lt
  have h_y : Blk W7 w6.heap.size 42 [.int .i64 s.c, .int .i64 S, .int .i64 s.i, .int .i64 s.n] := by rw [hW7]; exact (blk_at (w6) w6.heap.size (by rfl) 42 [.int .i64 s.c, .int .i64 S, .int .i64 s.i, .int .i64 s.n]).keep (Below.refl (w6.heap.size + 1) _) (by omega)
  rw [← hW7]
  have HB7 := Lib.hid hbel_
  have Hs7 := Lib.hid h_s
  have Hj7 := Lib.hid h_j
  have Hg7 := Lib.hid h_g
  have Hy7 := Lib.hid h_y
  clear hbel_ hW7 h_s h_j h_g h_y
  have s_0 : W7.cell? ⟨w.heap.size, 0, none⟩ = some (.int .i64 s.i) := Hs7.out.cellAt (i := 0) (by simp)
  have s_1 : W7.cell? ⟨w.heap.size, 1, none⟩ = some (.int .i64 s.n) := Hs7.out.cellAt (i := 1) (by simp)
  have s_2 : W7.cell? ⟨w.heap.size, 2, none⟩ = some (.int .i64 s.c) := Hs7.out.cellAt (i := 2) (by simp)
  have s_3 : W7.cell? ⟨w.heap.size, 3, none⟩ = some (.int .i64 s.p) := Hs7.out.cellAt (i := 3) (by simp)
  have s_4 : W7.cell? ⟨w.heap.size, 4, none⟩ = some (.int .i64 s.d) := Hs7.out.cellAt (i := 4) (by simp)
  have s_5 : W7.cell? ⟨w.heap.size, 5, none⟩ = some (.int .i64 s.s) := Hs7.out.cellAt (i := 5) (by simp)
  have s_6 : W7.cell? ⟨w.heap.size, 6, none⟩ = some (.int .i64 s.b) := Hs7.out.cellAt (i := 6) (by simp)
  have g_0 : W7.cell? ⟨w4.heap.size, 0, none⟩ = some (.int .i64 s.i) := Hg7.out.cellAt (i := 0) (by simp)
  have g_1 : W7.cell? ⟨w4.heap.size, 1, none⟩ = some (.int .i64 b) := Hg7.out.cellAt (i := 1) (by simp)
  have g_2 : W7.cell? ⟨w4.heap.size, 2, none⟩ = some (.int .i64 G) := Hg7.out.cellAt (i := 2) (by simp)
  have g_3 : W7.cell? ⟨w4.heap.size, 3, none⟩ = some (.int .i64 k) := Hg7.out.cellAt (i := 3) (by simp)
  go_wp2_with fail
  clear s_0 s_1 s_2 s_3 s_4 s_5 s_6 g_0 g_1 g_2 g_3
  refine (HL2.out _).mono ?_
  rintro y w8 ⟨rfl, hb⟩
  have HB8 := Lib.hid (below_transG HB7.out hb)
  have Hs8 := Lib.hid (Hs7.out.keep hb Hs7.out.lt)
  have Hj8 := Lib.hid (Hj7.out.keep hb Hj7.out.lt)
  have Hg8 := Lib.hid (Hg7.out.keep hb Hg7.out.lt)
  have Hy8 := Lib.hid (Hy7.out.keep hb Hy7.out.lt)
  clear hb
  go_upto_region 5 with fail
  obtain ⟨W9, hW9⟩ : ∃ W, W = (w8.alloc (.cells #[.int .i64 s.c, .int .i64 U, .int .i64 s.i, .int .i64 s.n] 42)) := ⟨_, rfl⟩
  have hbel_ : Below w.heap.size w W9 := by rw [hW9]; exact (HB8.out.alloc HB8.out.size _)
  have h_s : Blk W9 w.heap.size 30 [.int .i64 s.i, .int .i64 s.n, .int .i64 s.c, .int .i64 s.p, .int .i64 s.d, .int .i64 s.s, .int .i64 s.b] := by rw [hW9]; exact Hs8.out.keep ((Below.refl w8.heap.size w8).alloc (Nat.le_refl _) _) Hs8.out.lt
  have h_j : Blk W9 w2.heap.size 39 [.int .i64 s.i, .int .i64 a, .int .i64 E, .int .i64 k] := by rw [hW9]; exact Hj8.out.keep ((Below.refl w8.heap.size w8).alloc (Nat.le_refl _) _) Hj8.out.lt
  have h_g : Blk W9 w4.heap.size 39 [.int .i64 s.i, .int .i64 b, .int .i64 G, .int .i64 k] := by rw [hW9]; exact Hg8.out.keep ((Below.refl w8.heap.size w8).alloc (Nat.le_refl _) _) Hg8.out.lt
  have h_y : Blk W9 w6.heap.size 42 [.int .i64 s.c, .int .i64 S, .int .i64 s.i, .int .i64 s.n] := by rw [hW9]; exact Hy8.out.keep ((Below.refl w8.heap.size w8).alloc (Nat.le_refl _) _) Hy8.out.lt
  have h_z : Blk W9 w8.heap.size 42 [.int .i64 s.c, .int .i64 U, .int .i64 s.i, .int .i64 s.n] := by rw [hW9]; exact (blk_at (w8) w8.heap.size (by rfl) 42 [.int .i64 s.c, .int .i64 U, .int .i64 s.i, .int .i64 s.n]).keep (Below.refl (w8.heap.size + 1) _) (by omega)
  rw [← hW9]
  have HB9 := Lib.hid hbel_
  have Hs9 := Lib.hid h_s
  have Hj9 := Lib.hid h_j
  have Hg9 := Lib.hid h_g
  have Hy9 := Lib.hid h_y
  have Hz9 := Lib.hid h_z
  clear hbel_ hW9 h_s h_j h_g h_y h_z
  have HZ := Lib.hid (show ∀ x, Below W9.heap.size W9 x → Below W9.heap.size W9 x ∧ x.cell? ⟨w.heap.size, 0, none⟩ = some (.int .i64 s.i) ∧ x.cell? ⟨w.heap.size, 1, none⟩ = some (.int .i64 s.n) ∧ x.cell? ⟨w.heap.size, 2, none⟩ = some (.int .i64 s.c) ∧ x.cell? ⟨w.heap.size, 3, none⟩ = some (.int .i64 s.p) ∧ x.cell? ⟨w.heap.size, 4, none⟩ = some (.int .i64 s.d) ∧ x.cell? ⟨w.heap.size, 5, none⟩ = some (.int .i64 s.s) ∧ x.cell? ⟨w.heap.size, 6, none⟩ = some (.int .i64 s.b) ∧ x.cell? ⟨w2.heap.size, 0, none⟩ = some (.int .i64 s.i) ∧ x.cell? ⟨w2.heap.size, 1, none⟩ = some (.int .i64 a) ∧ x.cell? ⟨w2.heap.size, 2, none⟩ = some (.int .i64 E) ∧ x.cell? ⟨w2.heap.size, 3, none⟩ = some (.int .i64 k) ∧ x.cell? ⟨w4.heap.size, 0, none⟩ = some (.int .i64 s.i) ∧ x.cell? ⟨w4.heap.size, 1, none⟩ = some (.int .i64 b) ∧ x.cell? ⟨w4.heap.size, 2, none⟩ = some (.int .i64 G) ∧ x.cell? ⟨w4.heap.size, 3, none⟩ = some (.int .i64 k) ∧ x.cell? ⟨w6.heap.size, 0, none⟩ = some (.int .i64 s.c) ∧ x.cell? ⟨w6.heap.size, 1, none⟩ = some (.int .i64 S) ∧ x.cell? ⟨w6.heap.size, 2, none⟩ = some (.int .i64 s.i) ∧ x.cell? ⟨w6.heap.size, 3, none⟩ = some (.int .i64 s.n) ∧ x.cell? ⟨w8.heap.size, 0, none⟩ = some (.int .i64 s.c) ∧ x.cell? ⟨w8.heap.size, 1, none⟩ = some (.int .i64 U) ∧ x.cell? ⟨w8.heap.size, 2, none⟩ = some (.int .i64 s.i) ∧ x.cell? ⟨w8.heap.size, 3, none⟩ = some (.int .i64 s.n) from fun x hx => ⟨hx, (Hs9.out.keep hx Hs9.out.lt).cellAt (i := 0) (by simp), (Hs9.out.keep hx Hs9.out.lt).cellAt (i := 1) (by simp), (Hs9.out.keep hx Hs9.out.lt).cellAt (i := 2) (by simp), (Hs9.out.keep hx Hs9.out.lt).cellAt (i := 3) (by simp), (Hs9.out.keep hx Hs9.out.lt).cellAt (i := 4) (by simp), (Hs9.out.keep hx Hs9.out.lt).cellAt (i := 5) (by simp), (Hs9.out.keep hx Hs9.out.lt).cellAt (i := 6) (by simp), (Hj9.out.keep hx Hj9.out.lt).cellAt (i := 0) (by simp), (Hj9.out.keep hx Hj9.out.lt).cellAt (i := 1) (by simp), (Hj9.out.keep hx Hj9.out.lt).cellAt (i := 2) (by simp), (Hj9.out.keep hx Hj9.out.lt).cellAt (i := 3) (by simp), (Hg9.out.keep hx Hg9.out.lt).cellAt (i := 0) (by simp), (Hg9.out.keep hx Hg9.out.lt).cellAt (i := 1) (by simp), (Hg9.out.keep hx Hg9.out.lt).cellAt (i := 2) (by simp), (Hg9.out.keep hx Hg9.out.lt).cellAt (i := 3) (by simp), (Hy9.out.keep hx Hy9.out.lt).cellAt (i := 0) (by simp), (Hy9.out.keep hx Hy9.out.lt).cellAt (i := 1) (by simp), (Hy9.out.keep hx Hy9.out.lt).cellAt (i := 2) (by simp), (Hy9.out.keep hx Hy9.out.lt).cellAt (i := 3) (by simp), (Hz9.out.keep hx Hz9.out.lt).cellAt (i := 0) (by simp), (Hz9.out.keep hx Hz9.out.lt).cellAt (i := 1) (by simp), (Hz9.out.keep hx Hz9.out.lt).cellAt (i := 2) (by simp), (Hz9.out.keep hx Hz9.out.lt).cellAt (i := 3) (by simp)⟩)
  refine wp_region_class (C := fun x => Below W9.heap.size W9 x ∧ x.cell? ⟨w.heap.size, 0, none⟩ = some (.int .i64 s.i) ∧ x.cell? ⟨w.heap.size, 1, none⟩ = some (.int .i64 s.n) ∧ x.cell? ⟨w.heap.size, 2, none⟩ = some (.int .i64 s.c) ∧ x.cell? ⟨w.heap.size, 3, none⟩ = some (.int .i64 s.p) ∧ x.cell? ⟨w.heap.size, 4, none⟩ = some (.int .i64 s.d) ∧ x.cell? ⟨w.heap.size, 5, none⟩ = some (.int .i64 s.s) ∧ x.cell? ⟨w.heap.size, 6, none⟩ = some (.int .i64 s.b) ∧ x.cell? ⟨w2.heap.size, 0, none⟩ = some (.int .i64 s.i) ∧ x.cell? ⟨w2.heap.size, 1, none⟩ = some (.int .i64 a) ∧ x.cell? ⟨w2.heap.size, 2, none⟩ = some (.int .i64 E) ∧ x.cell? ⟨w2.heap.size, 3, none⟩ = some (.int .i64 k) ∧ x.cell? ⟨w4.heap.size, 0, none⟩ = some (.int .i64 s.i) ∧ x.cell? ⟨w4.heap.size, 1, none⟩ = some (.int .i64 b) ∧ x.cell? ⟨w4.heap.size, 2, none⟩ = some (.int .i64 G) ∧ x.cell? ⟨w4.heap.size, 3, none⟩ = some (.int .i64 k) ∧ x.cell? ⟨w6.heap.size, 0, none⟩ = some (.int .i64 s.c) ∧ x.cell? ⟨w6.heap.size, 1, none⟩ = some (.int .i64 S) ∧ x.cell? ⟨w6.heap.size, 2, none⟩ = some (.int .i64 s.i) ∧ x.cell? ⟨w6.heap.size, 3, none⟩ = some (.int .i64 s.n) ∧ x.cell? ⟨w8.heap.size, 0, none⟩ = some (.int .i64 s.c) ∧ x.cell? ⟨w8.heap.size, 1, none⟩ = some (.int .i64 U) ∧ x.cell? ⟨w8.heap.size, 2, none⟩ = some (.int .i64 s.i) ∧ x.cell? ⟨w8.heap.size, 3, none⟩ = some (.int .i64 s.n)) (by kernel_rfl) (by kernel_rfl) (HZ.out _ (Below.refl _ _).drew) ?_
  repeat
    with_reducible refine wpQuiet_step (fun K hK => ?_)
    first
      | (refine quiet_skip (by rfl) ?_; (with_reducible refine hK _ ?_); clear hK K)
      | (refine quiet_want (by rfl) ?_
         apply Exists.intro
         refine ⟨fun x hx => ?_, hK _ ?_⟩
         (obtain ⟨_, hx1, hx2, hx3, hx4, hx5, hx6, hx7, hx8, hx9, hx10, hx11, hx12, hx13, hx14, hx15, hx16, hx17, hx18, hx19, hx20, hx21, hx22, hx23⟩ := id hx; go_simp; first | done | rfl | (first | (go_at_call 14; with_reducible exact Calls.mono (HLV.out _ (HTX.out _ (below_transG HB9.out hx.1)).1 (HTX.out _ (below_transG HB9.out hx.1)).2) (fun y w' hh => ⟨hh.1, HZ.out _ (below_transG hx.1 hh.2)⟩)) | (go_at_call 35; with_reducible exact Calls.mono (HN.out _) (fun y w' hh => ⟨hh.1, HZ.out _ (below_transG hx.1 hh.2)⟩)) | (go_at_call 32; with_reducible exact Calls.mono (HF.out _ (HTX.out _ (below_transG HB9.out hx.1)).1 (HTX.out _ (below_transG HB9.out hx.1)).2) (fun y w' hh => ⟨hh.1, HZ.out _ (below_transG hx.1 hh.2)⟩))))
         clear hK K)
    try simp only [Act.put, List.setIfInBounds_toArray, List.set_cons_zero, List.set_cons_succ]
  with_reducible refine wpQuiet_nil ?_
  intro wq hq
  have HB10 := Lib.hid (below_transG HB9.out hq.1)
  have Hs10 := Lib.hid (Hs9.out.keep hq.1 Hs9.out.lt)
  have Hj10 := Lib.hid (Hj9.out.keep hq.1 Hj9.out.lt)
  have Hg10 := Lib.hid (Hg9.out.keep hq.1 Hg9.out.lt)
  have Hy10 := Lib.hid (Hy9.out.keep hq.1 Hy9.out.lt)
  have Hz10 := Lib.hid (Hz9.out.keep hq.1 Hz9.out.lt)
  obtain ⟨W10, hW10⟩ : ∃ W, W = wq := ⟨_, rfl⟩
  rw [← hW10]
  rw [← hW10] at HB10
  rw [← hW10] at Hs10
  rw [← hW10] at Hj10
  rw [← hW10] at Hg10
  rw [← hW10] at Hy10
  rw [← hW10] at Hz10
  clear hq HZ hW10
  go_wp2_with fail
  go_ret
  refine ⟨?_, HB10.out⟩
  show Ending.returned (.bool (fo == decide (s.p ≤ IntKind.i64.wrap (b - a)))) = _
  rw [HG.out]
end Go.Proofs.YtcfkbadpoefajaaDoor
