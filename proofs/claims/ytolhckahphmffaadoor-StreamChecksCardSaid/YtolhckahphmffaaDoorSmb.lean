/- Package stream, and the document's own answers of layer 25: the label and the job of a stream. Conditions: numbers are such as their kinds hold, and the table of the divisor. -/
import Derived.Test.YtolhckahphmffaaDoorSma
import Derived.Test.YtolhckahphmffaaDoorQtc
namespace Go.Proofs.YtolhckahphmffaaDoor
open Go.RowKit
/-- What Label tells. -/
def labV (i n c p d s b dl ep len : Int) : Value := if rightS i n c p d s b = 0 then (if qmayB len [dl, ep] = true then .tuple #[.agg #[.int .i64 c, .int .i64 (slotL c s (slotX dl ep len)), .int .i64 i, .int .i64 n], .int .i64 0] else .tuple #[.agg #[.int .i64 0, .int .i64 0, .int .i64 0, .int .i64 0], .int .i64 1]) else .tuple #[.agg #[.int .i64 0, .int .i64 0, .int .i64 0, .int .i64 0], .int .i64 (rightS i n c p d s b)]
/-- What Job tells. -/
def jobV (i n c p d s b r : Int) : Value := if rightS i n c p d s b = 0 then (if inS r 0 1125899906842624 = true then .tuple #[.agg #[.int .i64 i, .int .i64 r, .int .i64 (r + d), .int .i64 (costS i n c p d s b)], .int .i64 0] else .tuple #[.agg #[.int .i64 0, .int .i64 0, .int .i64 0, .int .i64 0], .int .i64 1]) else .tuple #[.agg #[.int .i64 0, .int .i64 0, .int .i64 0, .int .i64 0], .int .i64 (rightS i n c p d s b)]
theorem rightS_d {i n c p d s b : Int} (h : rightS i n c p d s b = 0) : (1 ≤ c ∧ c ≤ 3 ∧ 0 ≤ s ∧ s ≤ 255 ∧ 0 ≤ i ∧ i ≤ 2047 ∧ 0 ≤ n ∧ n ≤ 31) ∧ (1 ≤ p ∧ p ≤ 1073741824) ∧ (1 ≤ d ∧ d ≤ p) ∧ (0 ≤ b ∧ b ≤ 8) := by
  unfold rightS at h
  repeat' split at h
  all_goals first | (exact absurd h (by decide)) | skip
  rename_i h1 h2 h3 h4 h5
  have k2 : rightL c s i n = true := by simpa using h2
  have k3 : inS p 1 1073741824 = true := by simpa using h3
  have k4 : inS d 1 p = true := by simpa using h4
  have k5 : inS b 0 8 = true := by simpa using h5
  unfold rightL at k2
  unfold inS at k3 k4 k5
  exact ⟨of_decide_eq_true k2, of_decide_eq_true k3, of_decide_eq_true k4, of_decide_eq_true k5⟩
theorem costS_in (i n c p d s b : Int) : 0 ≤ costS i n c p d s b ∧ costS i n c p d s b ≤ 1003 := by
  unfold costS
  split
  · rename_i h
    have := mostF_in b (rightS_b h)
    omega
  · omega
set_option maxRecDepth 100000 in
set_option maxHeartbeats 4000000 in
theorem slab_any (i n c p d s b dl ep len : Int) (w : World) : Calls Tryd.prog 26 #[.agg #[.int .i64 i, .int .i64 n, .int .i64 c, .int .i64 p, .int .i64 d, .int .i64 s, .int .i64 b], .int .i64 dl, .int .i64 ep, .int .i64 len] w fun y w' => y = .returned (labV i n c p d s b dl ep len) ∧ Below w.heap.size w w' := by
  have HR := Lib.hid (fun u => sright_any i n c p d s b u); have HQ := Lib.hid (fun u => qslot_any dl ep len u); have HL := Lib.hid (fun u => slabel_any i n c p d s b u); have HS := Lib.hid (fun k u => clslotted_any c s i n k u)
  unfold labV
  obtain ⟨e, he⟩ : ∃ e, e = rightS i n c p d s b := ⟨_, rfl⟩
  obtain ⟨q, hq⟩ : ∃ q, q = qmayB len [dl, ep] := ⟨_, rfl⟩
  obtain ⟨k, hk⟩ : ∃ k, k = slotX dl ep len := ⟨_, rfl⟩
  rw [← he] at HR ⊢; rw [← hq, ← hk] at HQ; rw [← hq, ← hk]
  clear he hq hk
  have HS := Lib.hid (HS.out k)
  obtain ⟨sl, hsl⟩ : ∃ sl, sl = slotL c s k := ⟨_, rfl⟩
  rw [← hsl] at HS ⊢
  clear hsl
  by_cases h : e = 0
  · subst h
    rw [if_pos rfl]
    cases q
    · rw [if_neg (by decide)]
      go_enter Tryd.func26, Tryd.ntmps26
      go_upto_region 1 with fail
      obtain ⟨W1, hW1⟩ : ∃ W, W = ((w.alloc (.cells #[.int .i64 i, .int .i64 n, .int .i64 c, .int .i64 p, .int .i64 d, .int .i64 s, .int .i64 b] 30)).alloc (.cells #[.int .i64 0, .int .i64 0, .int .i64 0, .int .i64 0] 38)) := ⟨_, rfl⟩
      have hbel_ : Below w.heap.size w W1 := by rw [hW1]; exact (((Below.refl w.heap.size w).alloc (Nat.le_refl w.heap.size) _).alloc (by have := (Nat.le_refl w.heap.size); simp only [World.size_alloc]; omega) _)
      have h_x : Blk W1 w.heap.size 30 [.int .i64 i, .int .i64 n, .int .i64 c, .int .i64 p, .int .i64 d, .int .i64 s, .int .i64 b] := by rw [hW1]; exact (blk_at (w) w.heap.size (by rfl) 30 [.int .i64 i, .int .i64 n, .int .i64 c, .int .i64 p, .int .i64 d, .int .i64 s, .int .i64 b]).keep ((Below.refl (w.heap.size + 1) _).alloc (by simp only [World.size_alloc]; omega) _) (by omega)
      have h_r : Blk W1 (w.heap.size + 1) 38 [.int .i64 0, .int .i64 0, .int .i64 0, .int .i64 0] := by rw [hW1]; exact (blk_at ((w.alloc (.cells #[.int .i64 i, .int .i64 n, .int .i64 c, .int .i64 p, .int .i64 d, .int .i64 s, .int .i64 b] 30))) (w.heap.size + 1) (by simp only [World.size_alloc]) 38 [.int .i64 0, .int .i64 0, .int .i64 0, .int .i64 0]).keep (Below.refl ((w.heap.size + 1) + 1) _) (by omega)
      rw [← hW1]
      have HB1 := Lib.hid hbel_
      have Hx1 := Lib.hid h_x
      have Hr1 := Lib.hid h_r
      clear hbel_ hW1  h_x h_r
      have x_0 : W1.cell? ⟨w.heap.size, 0, none⟩ = some (.int .i64 i) := Hx1.out.cellAt (i := 0) (by simp)
      have x_1 : W1.cell? ⟨w.heap.size, 1, none⟩ = some (.int .i64 n) := Hx1.out.cellAt (i := 1) (by simp)
      have x_2 : W1.cell? ⟨w.heap.size, 2, none⟩ = some (.int .i64 c) := Hx1.out.cellAt (i := 2) (by simp)
      have x_3 : W1.cell? ⟨w.heap.size, 3, none⟩ = some (.int .i64 p) := Hx1.out.cellAt (i := 3) (by simp)
      have x_4 : W1.cell? ⟨w.heap.size, 4, none⟩ = some (.int .i64 d) := Hx1.out.cellAt (i := 4) (by simp)
      have x_5 : W1.cell? ⟨w.heap.size, 5, none⟩ = some (.int .i64 s) := Hx1.out.cellAt (i := 5) (by simp)
      have x_6 : W1.cell? ⟨w.heap.size, 6, none⟩ = some (.int .i64 b) := Hx1.out.cellAt (i := 6) (by simp)
      go_wp2_with fail
      clear x_0 x_1 x_2 x_3 x_4 x_5 x_6
      refine (HR.out _).mono ?_
      rintro y w2 ⟨rfl, hb⟩
      have HB2 := Lib.hid (below_transG HB1.out hb)
      have Hx2 := Lib.hid (Hx1.out.keep hb Hx1.out.lt)
      have Hr2 := Lib.hid (Hr1.out.keep hb Hr1.out.lt)
      clear hb
      go_wp2_with fail
      refine (HQ.out _).mono ?_
      rintro y w3 ⟨rfl, hb⟩
      have HB3 := Lib.hid (below_transG HB2.out hb)
      have Hx3 := Lib.hid (Hx2.out.keep hb Hx2.out.lt)
      have Hr3 := Lib.hid (Hr2.out.keep hb Hr2.out.lt)
      clear hb
      have r_0 : w3.cell? ⟨(w.heap.size + 1), 0, none⟩ = some (.int .i64 0) := Hr3.out.cellAt (i := 0) (by simp)
      have r_1 : w3.cell? ⟨(w.heap.size + 1), 1, none⟩ = some (.int .i64 0) := Hr3.out.cellAt (i := 1) (by simp)
      have r_2 : w3.cell? ⟨(w.heap.size + 1), 2, none⟩ = some (.int .i64 0) := Hr3.out.cellAt (i := 2) (by simp)
      have r_3 : w3.cell? ⟨(w.heap.size + 1), 3, none⟩ = some (.int .i64 0) := Hr3.out.cellAt (i := 3) (by simp)
      have rf_0 : w3.frozen? ⟨(w.heap.size + 1), 0, none⟩ = false := Hr3.out.frozenAt 0
      have rf_1 : w3.frozen? ⟨(w.heap.size + 1), 1, none⟩ = false := Hr3.out.frozenAt 1
      have rf_2 : w3.frozen? ⟨(w.heap.size + 1), 2, none⟩ = false := Hr3.out.frozenAt 2
      have rf_3 : w3.frozen? ⟨(w.heap.size + 1), 3, none⟩ = false := Hr3.out.frozenAt 3
      go_wp2_with fail
      obtain ⟨W, hWW⟩ : ∃ W, W = ((((w3.setCell ⟨(w.heap.size + 1), 0, none⟩ (.int .i64 0)).setCell ⟨(w.heap.size + 1), 1, none⟩ (.int .i64 0)).setCell ⟨(w.heap.size + 1), 2, none⟩ (.int .i64 0)).setCell ⟨(w.heap.size + 1), 3, none⟩ (.int .i64 0)) := ⟨_, rfl⟩
      rw [← hWW]
      have hRS : Blk W ((w.heap.size + 1)) 38 [.int .i64 0, .int .i64 0, .int .i64 0, .int .i64 0] := by rw [hWW]; exact (Hr3.out).set [.int .i64 0, .int .i64 0, .int .i64 0, .int .i64 0] rfl
      have hb := (show Below w.heap.size w W by rw [hWW]; exact Go.below_setCells (by first | omega | simp) [.int .i64 0, .int .i64 0, .int .i64 0, .int .i64 0] 0 _ HB3.out)
      clear hWW
      have z0 : W.cell? ⟨(w.heap.size + 1), 0, none⟩ = some (.int .i64 0) := hRS.cellAt (i := 0) (by simp)
      have z1 : W.cell? ⟨(w.heap.size + 1), 1, none⟩ = some (.int .i64 0) := hRS.cellAt (i := 1) (by simp)
      have z2 : W.cell? ⟨(w.heap.size + 1), 2, none⟩ = some (.int .i64 0) := hRS.cellAt (i := 2) (by simp)
      have z3 : W.cell? ⟨(w.heap.size + 1), 3, none⟩ = some (.int .i64 0) := hRS.cellAt (i := 3) (by simp)
      exact bodyPost_ret (v := .tuple #[.agg #[.int .i64 0, .int .i64 0, .int .i64 0, .int .i64 0], .int .i64 1]) (by simp [results, Tryd.results26, go_sem, z0, z1, z2, z3]) rfl ⟨rfl, hb⟩
    · rw [if_pos rfl]
      go_enter Tryd.func26, Tryd.ntmps26
      go_upto_region 1 with fail
      obtain ⟨W1, hW1⟩ : ∃ W, W = ((w.alloc (.cells #[.int .i64 i, .int .i64 n, .int .i64 c, .int .i64 p, .int .i64 d, .int .i64 s, .int .i64 b] 30)).alloc (.cells #[.int .i64 0, .int .i64 0, .int .i64 0, .int .i64 0] 38)) := ⟨_, rfl⟩
      have hbel_ : Below w.heap.size w W1 := by rw [hW1]; exact (((Below.refl w.heap.size w).alloc (Nat.le_refl w.heap.size) _).alloc (by have := (Nat.le_refl w.heap.size); simp only [World.size_alloc]; omega) _)
      have h_x : Blk W1 w.heap.size 30 [.int .i64 i, .int .i64 n, .int .i64 c, .int .i64 p, .int .i64 d, .int .i64 s, .int .i64 b] := by rw [hW1]; exact (blk_at (w) w.heap.size (by rfl) 30 [.int .i64 i, .int .i64 n, .int .i64 c, .int .i64 p, .int .i64 d, .int .i64 s, .int .i64 b]).keep ((Below.refl (w.heap.size + 1) _).alloc (by simp only [World.size_alloc]; omega) _) (by omega)
      have h_r : Blk W1 (w.heap.size + 1) 38 [.int .i64 0, .int .i64 0, .int .i64 0, .int .i64 0] := by rw [hW1]; exact (blk_at ((w.alloc (.cells #[.int .i64 i, .int .i64 n, .int .i64 c, .int .i64 p, .int .i64 d, .int .i64 s, .int .i64 b] 30))) (w.heap.size + 1) (by simp only [World.size_alloc]) 38 [.int .i64 0, .int .i64 0, .int .i64 0, .int .i64 0]).keep (Below.refl ((w.heap.size + 1) + 1) _) (by omega)
      rw [← hW1]
      have HB1 := Lib.hid hbel_
      have Hx1 := Lib.hid h_x
      have Hr1 := Lib.hid h_r
      clear hbel_ hW1  h_x h_r
      have x_0 : W1.cell? ⟨w.heap.size, 0, none⟩ = some (.int .i64 i) := Hx1.out.cellAt (i := 0) (by simp)
      have x_1 : W1.cell? ⟨w.heap.size, 1, none⟩ = some (.int .i64 n) := Hx1.out.cellAt (i := 1) (by simp)
      have x_2 : W1.cell? ⟨w.heap.size, 2, none⟩ = some (.int .i64 c) := Hx1.out.cellAt (i := 2) (by simp)
      have x_3 : W1.cell? ⟨w.heap.size, 3, none⟩ = some (.int .i64 p) := Hx1.out.cellAt (i := 3) (by simp)
      have x_4 : W1.cell? ⟨w.heap.size, 4, none⟩ = some (.int .i64 d) := Hx1.out.cellAt (i := 4) (by simp)
      have x_5 : W1.cell? ⟨w.heap.size, 5, none⟩ = some (.int .i64 s) := Hx1.out.cellAt (i := 5) (by simp)
      have x_6 : W1.cell? ⟨w.heap.size, 6, none⟩ = some (.int .i64 b) := Hx1.out.cellAt (i := 6) (by simp)
      go_wp2_with fail
      clear x_0 x_1 x_2 x_3 x_4 x_5 x_6
      refine (HR.out _).mono ?_
      rintro y w2 ⟨rfl, hb⟩
      have HB2 := Lib.hid (below_transG HB1.out hb)
      have Hx2 := Lib.hid (Hx1.out.keep hb Hx1.out.lt)
      have Hr2 := Lib.hid (Hr1.out.keep hb Hr1.out.lt)
      clear hb
      go_wp2_with fail
      refine (HQ.out _).mono ?_
      rintro y w3 ⟨rfl, hb⟩
      have HB3 := Lib.hid (below_transG HB2.out hb)
      have Hx3 := Lib.hid (Hx2.out.keep hb Hx2.out.lt)
      have Hr3 := Lib.hid (Hr2.out.keep hb Hr2.out.lt)
      clear hb
      have x_0 : w3.cell? ⟨w.heap.size, 0, none⟩ = some (.int .i64 i) := Hx3.out.cellAt (i := 0) (by simp)
      have x_1 : w3.cell? ⟨w.heap.size, 1, none⟩ = some (.int .i64 n) := Hx3.out.cellAt (i := 1) (by simp)
      have x_2 : w3.cell? ⟨w.heap.size, 2, none⟩ = some (.int .i64 c) := Hx3.out.cellAt (i := 2) (by simp)
      have x_3 : w3.cell? ⟨w.heap.size, 3, none⟩ = some (.int .i64 p) := Hx3.out.cellAt (i := 3) (by simp)
      have x_4 : w3.cell? ⟨w.heap.size, 4, none⟩ = some (.int .i64 d) := Hx3.out.cellAt (i := 4) (by simp)
      have x_5 : w3.cell? ⟨w.heap.size, 5, none⟩ = some (.int .i64 s) := Hx3.out.cellAt (i := 5) (by simp)
      have x_6 : w3.cell? ⟨w.heap.size, 6, none⟩ = some (.int .i64 b) := Hx3.out.cellAt (i := 6) (by simp)
      go_wp2_with fail
      clear x_0 x_1 x_2 x_3 x_4 x_5 x_6
      refine (HL.out _).mono ?_
      rintro y w4 ⟨rfl, hb⟩
      have HB4 := Lib.hid (below_transG HB3.out hb)
      have Hx4 := Lib.hid (Hx3.out.keep hb Hx3.out.lt)
      have Hr4 := Lib.hid (Hr3.out.keep hb Hr3.out.lt)
      clear hb
      go_wp2_with fail
      refine (HS.out _).mono ?_
      rintro y w5 ⟨rfl, hb⟩
      have HB5 := Lib.hid (below_transG HB4.out hb)
      have Hx5 := Lib.hid (Hx4.out.keep hb Hx4.out.lt)
      have Hr5 := Lib.hid (Hr4.out.keep hb Hr4.out.lt)
      clear hb
      have r_0 : w5.cell? ⟨(w.heap.size + 1), 0, none⟩ = some (.int .i64 0) := Hr5.out.cellAt (i := 0) (by simp)
      have r_1 : w5.cell? ⟨(w.heap.size + 1), 1, none⟩ = some (.int .i64 0) := Hr5.out.cellAt (i := 1) (by simp)
      have r_2 : w5.cell? ⟨(w.heap.size + 1), 2, none⟩ = some (.int .i64 0) := Hr5.out.cellAt (i := 2) (by simp)
      have r_3 : w5.cell? ⟨(w.heap.size + 1), 3, none⟩ = some (.int .i64 0) := Hr5.out.cellAt (i := 3) (by simp)
      have rf_0 : w5.frozen? ⟨(w.heap.size + 1), 0, none⟩ = false := Hr5.out.frozenAt 0
      have rf_1 : w5.frozen? ⟨(w.heap.size + 1), 1, none⟩ = false := Hr5.out.frozenAt 1
      have rf_2 : w5.frozen? ⟨(w.heap.size + 1), 2, none⟩ = false := Hr5.out.frozenAt 2
      have rf_3 : w5.frozen? ⟨(w.heap.size + 1), 3, none⟩ = false := Hr5.out.frozenAt 3
      go_wp2_with fail
      obtain ⟨W, hWW⟩ : ∃ W, W = ((((w5.setCell ⟨(w.heap.size + 1), 0, none⟩ (.int .i64 c)).setCell ⟨(w.heap.size + 1), 1, none⟩ (.int .i64 sl)).setCell ⟨(w.heap.size + 1), 2, none⟩ (.int .i64 i)).setCell ⟨(w.heap.size + 1), 3, none⟩ (.int .i64 n)) := ⟨_, rfl⟩
      rw [← hWW]
      have hRS : Blk W ((w.heap.size + 1)) 38 [.int .i64 c, .int .i64 sl, .int .i64 i, .int .i64 n] := by rw [hWW]; exact (Hr5.out).set [.int .i64 c, .int .i64 sl, .int .i64 i, .int .i64 n] rfl
      have hb := (show Below w.heap.size w W by rw [hWW]; exact Go.below_setCells (by first | omega | simp) [.int .i64 c, .int .i64 sl, .int .i64 i, .int .i64 n] 0 _ HB5.out)
      clear hWW
      have z0 : W.cell? ⟨(w.heap.size + 1), 0, none⟩ = some (.int .i64 c) := hRS.cellAt (i := 0) (by simp)
      have z1 : W.cell? ⟨(w.heap.size + 1), 1, none⟩ = some (.int .i64 sl) := hRS.cellAt (i := 1) (by simp)
      have z2 : W.cell? ⟨(w.heap.size + 1), 2, none⟩ = some (.int .i64 i) := hRS.cellAt (i := 2) (by simp)
      have z3 : W.cell? ⟨(w.heap.size + 1), 3, none⟩ = some (.int .i64 n) := hRS.cellAt (i := 3) (by simp)
      exact bodyPost_ret (v := .tuple #[.agg #[.int .i64 c, .int .i64 sl, .int .i64 i, .int .i64 n], .int .i64 0]) (by simp [results, Tryd.results26, go_sem, z0, z1, z2, z3]) rfl ⟨rfl, hb⟩
  · rw [if_neg h]
    have k0 : (e == 0) = false := by rw [beq_eq_false_iff_ne]; exact h
    clear h
    go_enter Tryd.func26, Tryd.ntmps26
    go_upto_region 1 with fail
    obtain ⟨W1, hW1⟩ : ∃ W, W = ((w.alloc (.cells #[.int .i64 i, .int .i64 n, .int .i64 c, .int .i64 p, .int .i64 d, .int .i64 s, .int .i64 b] 30)).alloc (.cells #[.int .i64 0, .int .i64 0, .int .i64 0, .int .i64 0] 38)) := ⟨_, rfl⟩
    have hbel_ : Below w.heap.size w W1 := by rw [hW1]; exact (((Below.refl w.heap.size w).alloc (Nat.le_refl w.heap.size) _).alloc (by have := (Nat.le_refl w.heap.size); simp only [World.size_alloc]; omega) _)
    have h_x : Blk W1 w.heap.size 30 [.int .i64 i, .int .i64 n, .int .i64 c, .int .i64 p, .int .i64 d, .int .i64 s, .int .i64 b] := by rw [hW1]; exact (blk_at (w) w.heap.size (by rfl) 30 [.int .i64 i, .int .i64 n, .int .i64 c, .int .i64 p, .int .i64 d, .int .i64 s, .int .i64 b]).keep ((Below.refl (w.heap.size + 1) _).alloc (by simp only [World.size_alloc]; omega) _) (by omega)
    have h_r : Blk W1 (w.heap.size + 1) 38 [.int .i64 0, .int .i64 0, .int .i64 0, .int .i64 0] := by rw [hW1]; exact (blk_at ((w.alloc (.cells #[.int .i64 i, .int .i64 n, .int .i64 c, .int .i64 p, .int .i64 d, .int .i64 s, .int .i64 b] 30))) (w.heap.size + 1) (by simp only [World.size_alloc]) 38 [.int .i64 0, .int .i64 0, .int .i64 0, .int .i64 0]).keep (Below.refl ((w.heap.size + 1) + 1) _) (by omega)
    rw [← hW1]
    have HB1 := Lib.hid hbel_
    have Hx1 := Lib.hid h_x
    have Hr1 := Lib.hid h_r
    clear hbel_ hW1  h_x h_r
    have x_0 : W1.cell? ⟨w.heap.size, 0, none⟩ = some (.int .i64 i) := Hx1.out.cellAt (i := 0) (by simp)
    have x_1 : W1.cell? ⟨w.heap.size, 1, none⟩ = some (.int .i64 n) := Hx1.out.cellAt (i := 1) (by simp)
    have x_2 : W1.cell? ⟨w.heap.size, 2, none⟩ = some (.int .i64 c) := Hx1.out.cellAt (i := 2) (by simp)
    have x_3 : W1.cell? ⟨w.heap.size, 3, none⟩ = some (.int .i64 p) := Hx1.out.cellAt (i := 3) (by simp)
    have x_4 : W1.cell? ⟨w.heap.size, 4, none⟩ = some (.int .i64 d) := Hx1.out.cellAt (i := 4) (by simp)
    have x_5 : W1.cell? ⟨w.heap.size, 5, none⟩ = some (.int .i64 s) := Hx1.out.cellAt (i := 5) (by simp)
    have x_6 : W1.cell? ⟨w.heap.size, 6, none⟩ = some (.int .i64 b) := Hx1.out.cellAt (i := 6) (by simp)
    go_wp2_with fail
    clear x_0 x_1 x_2 x_3 x_4 x_5 x_6
    refine (HR.out _).mono ?_
    rintro y w2 ⟨rfl, hb⟩
    have HB2 := Lib.hid (below_transG HB1.out hb)
    have Hx2 := Lib.hid (Hx1.out.keep hb Hx1.out.lt)
    have Hr2 := Lib.hid (Hr1.out.keep hb Hr1.out.lt)
    clear hb
    have r_0 : w2.cell? ⟨(w.heap.size + 1), 0, none⟩ = some (.int .i64 0) := Hr2.out.cellAt (i := 0) (by simp)
    have r_1 : w2.cell? ⟨(w.heap.size + 1), 1, none⟩ = some (.int .i64 0) := Hr2.out.cellAt (i := 1) (by simp)
    have r_2 : w2.cell? ⟨(w.heap.size + 1), 2, none⟩ = some (.int .i64 0) := Hr2.out.cellAt (i := 2) (by simp)
    have r_3 : w2.cell? ⟨(w.heap.size + 1), 3, none⟩ = some (.int .i64 0) := Hr2.out.cellAt (i := 3) (by simp)
    have rf_0 : w2.frozen? ⟨(w.heap.size + 1), 0, none⟩ = false := Hr2.out.frozenAt 0
    have rf_1 : w2.frozen? ⟨(w.heap.size + 1), 1, none⟩ = false := Hr2.out.frozenAt 1
    have rf_2 : w2.frozen? ⟨(w.heap.size + 1), 2, none⟩ = false := Hr2.out.frozenAt 2
    have rf_3 : w2.frozen? ⟨(w.heap.size + 1), 3, none⟩ = false := Hr2.out.frozenAt 3
    go_wp2_with fail
    obtain ⟨W, hWW⟩ : ∃ W, W = ((((w2.setCell ⟨(w.heap.size + 1), 0, none⟩ (.int .i64 0)).setCell ⟨(w.heap.size + 1), 1, none⟩ (.int .i64 0)).setCell ⟨(w.heap.size + 1), 2, none⟩ (.int .i64 0)).setCell ⟨(w.heap.size + 1), 3, none⟩ (.int .i64 0)) := ⟨_, rfl⟩
    rw [← hWW]
    have hRS : Blk W ((w.heap.size + 1)) 38 [.int .i64 0, .int .i64 0, .int .i64 0, .int .i64 0] := by rw [hWW]; exact (Hr2.out).set [.int .i64 0, .int .i64 0, .int .i64 0, .int .i64 0] rfl
    have hb := (show Below w.heap.size w W by rw [hWW]; exact Go.below_setCells (by first | omega | simp) [.int .i64 0, .int .i64 0, .int .i64 0, .int .i64 0] 0 _ HB2.out)
    clear hWW
    have z0 : W.cell? ⟨(w.heap.size + 1), 0, none⟩ = some (.int .i64 0) := hRS.cellAt (i := 0) (by simp)
    have z1 : W.cell? ⟨(w.heap.size + 1), 1, none⟩ = some (.int .i64 0) := hRS.cellAt (i := 1) (by simp)
    have z2 : W.cell? ⟨(w.heap.size + 1), 2, none⟩ = some (.int .i64 0) := hRS.cellAt (i := 2) (by simp)
    have z3 : W.cell? ⟨(w.heap.size + 1), 3, none⟩ = some (.int .i64 0) := hRS.cellAt (i := 3) (by simp)
    exact bodyPost_ret (v := .tuple #[.agg #[.int .i64 0, .int .i64 0, .int .i64 0, .int .i64 0], .int .i64 e]) (by simp [results, Tryd.results26, go_sem, z0, z1, z2, z3]) rfl ⟨rfl, hb⟩
set_option maxRecDepth 100000 in
set_option maxHeartbeats 4000000 in
theorem sjob_any (i n c p d s b r : Int) (w : World) (h0 : 0 < w.heap.size) (hT : Tab w) : Calls Tryd.prog 37 #[.agg #[.int .i64 i, .int .i64 n, .int .i64 c, .int .i64 p, .int .i64 d, .int .i64 s, .int .i64 b], .int .i64 r] w fun y w' => y = .returned (jobV i n c p d s b r) ∧ Below w.heap.size w w' := by
  have HR := Lib.hid (fun u => sright_any i n c p d s b u); have HW := Lib.hid (fun u => wit64_any r 0 1125899906842624 u)
  have HTX := Lib.hid (show ∀ x, Below w.heap.size w x → 0 < x.heap.size ∧ Tab x from fun x hx => ⟨Nat.lt_of_lt_of_le h0 hx.size, hT.on hx h0⟩)
  clear hT h0
  have HC := Lib.hid (fun u a1 a2 => scost_any i n c p d s b u a1 a2)
  unfold jobV
  by_cases h : rightS i n c p d s b = 0
  · have hd := rightS_d h
    have hq := inS_cases r 0 1125899906842624
    rw [if_pos h]
    rw [h] at HR
    obtain ⟨cc, hcc⟩ : ∃ cc, cc = costS i n c p d s b := ⟨_, rfl⟩
    rw [← hcc] at HC ⊢
    clear h hcc
    obtain ⟨q, hqq⟩ : ∃ q, q = inS r 0 1125899906842624 := ⟨_, rfl⟩
    rw [← hqq] at HW hq ⊢
    clear hqq
    cases q
    · rw [if_neg (by decide)]
      clear hq hd
      go_enter Tryd.func37, Tryd.ntmps37
      go_upto_region 1 with fail
      obtain ⟨W1, hW1⟩ : ∃ W, W = ((w.alloc (.cells #[.int .i64 i, .int .i64 n, .int .i64 c, .int .i64 p, .int .i64 d, .int .i64 s, .int .i64 b] 30)).alloc (.cells #[.int .i64 0, .int .i64 0, .int .i64 0, .int .i64 0] 55)) := ⟨_, rfl⟩
      have hbel_ : Below w.heap.size w W1 := by rw [hW1]; exact (((Below.refl w.heap.size w).alloc (Nat.le_refl w.heap.size) _).alloc (by have := (Nat.le_refl w.heap.size); simp only [World.size_alloc]; omega) _)
      have h_x : Blk W1 w.heap.size 30 [.int .i64 i, .int .i64 n, .int .i64 c, .int .i64 p, .int .i64 d, .int .i64 s, .int .i64 b] := by rw [hW1]; exact (blk_at (w) w.heap.size (by rfl) 30 [.int .i64 i, .int .i64 n, .int .i64 c, .int .i64 p, .int .i64 d, .int .i64 s, .int .i64 b]).keep ((Below.refl (w.heap.size + 1) _).alloc (by simp only [World.size_alloc]; omega) _) (by omega)
      have h_r : Blk W1 (w.heap.size + 1) 55 [.int .i64 0, .int .i64 0, .int .i64 0, .int .i64 0] := by rw [hW1]; exact (blk_at ((w.alloc (.cells #[.int .i64 i, .int .i64 n, .int .i64 c, .int .i64 p, .int .i64 d, .int .i64 s, .int .i64 b] 30))) (w.heap.size + 1) (by simp only [World.size_alloc]) 55 [.int .i64 0, .int .i64 0, .int .i64 0, .int .i64 0]).keep (Below.refl ((w.heap.size + 1) + 1) _) (by omega)
      rw [← hW1]
      have HB1 := Lib.hid hbel_
      have Hx1 := Lib.hid h_x
      have Hr1 := Lib.hid h_r
      clear hbel_ hW1  h_x h_r
      have x_0 : W1.cell? ⟨w.heap.size, 0, none⟩ = some (.int .i64 i) := Hx1.out.cellAt (i := 0) (by simp)
      have x_1 : W1.cell? ⟨w.heap.size, 1, none⟩ = some (.int .i64 n) := Hx1.out.cellAt (i := 1) (by simp)
      have x_2 : W1.cell? ⟨w.heap.size, 2, none⟩ = some (.int .i64 c) := Hx1.out.cellAt (i := 2) (by simp)
      have x_3 : W1.cell? ⟨w.heap.size, 3, none⟩ = some (.int .i64 p) := Hx1.out.cellAt (i := 3) (by simp)
      have x_4 : W1.cell? ⟨w.heap.size, 4, none⟩ = some (.int .i64 d) := Hx1.out.cellAt (i := 4) (by simp)
      have x_5 : W1.cell? ⟨w.heap.size, 5, none⟩ = some (.int .i64 s) := Hx1.out.cellAt (i := 5) (by simp)
      have x_6 : W1.cell? ⟨w.heap.size, 6, none⟩ = some (.int .i64 b) := Hx1.out.cellAt (i := 6) (by simp)
      go_wp2_with fail
      clear x_0 x_1 x_2 x_3 x_4 x_5 x_6
      refine (HR.out _).mono ?_
      rintro y w2 ⟨rfl, hb⟩
      have HB2 := Lib.hid (below_transG HB1.out hb)
      have Hx2 := Lib.hid (Hx1.out.keep hb Hx1.out.lt)
      have Hr2 := Lib.hid (Hr1.out.keep hb Hr1.out.lt)
      clear hb
      go_wp2_with fail
      refine (HW.out _).mono ?_
      rintro y w3 ⟨rfl, hb⟩
      have HB3 := Lib.hid (below_transG HB2.out hb)
      have Hx3 := Lib.hid (Hx2.out.keep hb Hx2.out.lt)
      have Hr3 := Lib.hid (Hr2.out.keep hb Hr2.out.lt)
      clear hb
      have r_0 : w3.cell? ⟨(w.heap.size + 1), 0, none⟩ = some (.int .i64 0) := Hr3.out.cellAt (i := 0) (by simp)
      have r_1 : w3.cell? ⟨(w.heap.size + 1), 1, none⟩ = some (.int .i64 0) := Hr3.out.cellAt (i := 1) (by simp)
      have r_2 : w3.cell? ⟨(w.heap.size + 1), 2, none⟩ = some (.int .i64 0) := Hr3.out.cellAt (i := 2) (by simp)
      have r_3 : w3.cell? ⟨(w.heap.size + 1), 3, none⟩ = some (.int .i64 0) := Hr3.out.cellAt (i := 3) (by simp)
      have rf_0 : w3.frozen? ⟨(w.heap.size + 1), 0, none⟩ = false := Hr3.out.frozenAt 0
      have rf_1 : w3.frozen? ⟨(w.heap.size + 1), 1, none⟩ = false := Hr3.out.frozenAt 1
      have rf_2 : w3.frozen? ⟨(w.heap.size + 1), 2, none⟩ = false := Hr3.out.frozenAt 2
      have rf_3 : w3.frozen? ⟨(w.heap.size + 1), 3, none⟩ = false := Hr3.out.frozenAt 3
      go_wp2_with fail
      obtain ⟨W, hWW⟩ : ∃ W, W = ((((w3.setCell ⟨(w.heap.size + 1), 0, none⟩ (.int .i64 0)).setCell ⟨(w.heap.size + 1), 1, none⟩ (.int .i64 0)).setCell ⟨(w.heap.size + 1), 2, none⟩ (.int .i64 0)).setCell ⟨(w.heap.size + 1), 3, none⟩ (.int .i64 0)) := ⟨_, rfl⟩
      rw [← hWW]
      have hRS : Blk W ((w.heap.size + 1)) 55 [.int .i64 0, .int .i64 0, .int .i64 0, .int .i64 0] := by rw [hWW]; exact (Hr3.out).set [.int .i64 0, .int .i64 0, .int .i64 0, .int .i64 0] rfl
      have hb := (show Below w.heap.size w W by rw [hWW]; exact Go.below_setCells (by first | omega | simp) [.int .i64 0, .int .i64 0, .int .i64 0, .int .i64 0] 0 _ HB3.out)
      clear hWW
      have z0 : W.cell? ⟨(w.heap.size + 1), 0, none⟩ = some (.int .i64 0) := hRS.cellAt (i := 0) (by simp)
      have z1 : W.cell? ⟨(w.heap.size + 1), 1, none⟩ = some (.int .i64 0) := hRS.cellAt (i := 1) (by simp)
      have z2 : W.cell? ⟨(w.heap.size + 1), 2, none⟩ = some (.int .i64 0) := hRS.cellAt (i := 2) (by simp)
      have z3 : W.cell? ⟨(w.heap.size + 1), 3, none⟩ = some (.int .i64 0) := hRS.cellAt (i := 3) (by simp)
      exact bodyPost_ret (v := .tuple #[.agg #[.int .i64 0, .int .i64 0, .int .i64 0, .int .i64 0], .int .i64 1]) (by simp [results, Tryd.results37, go_sem, z0, z1, z2, z3]) rfl ⟨rfl, hb⟩
    · rw [if_pos rfl]
      have hr : 0 ≤ r ∧ r ≤ 1125899906842624 := by
        rcases hq with ⟨_, e⟩ | ⟨_, _, e⟩ | ⟨h1, h2, _⟩
        · cases e
        · cases e
        · exact ⟨h1, h2⟩
      have HWR := Lib.hid (show IntKind.i64.wrap (r + d) = r + d by rw [IntKind.wrap_i64]; omega)
      clear hq hd hr
      go_enter Tryd.func37, Tryd.ntmps37
      go_upto_region 1 with fail
      obtain ⟨W1, hW1⟩ : ∃ W, W = ((w.alloc (.cells #[.int .i64 i, .int .i64 n, .int .i64 c, .int .i64 p, .int .i64 d, .int .i64 s, .int .i64 b] 30)).alloc (.cells #[.int .i64 0, .int .i64 0, .int .i64 0, .int .i64 0] 55)) := ⟨_, rfl⟩
      have hbel_ : Below w.heap.size w W1 := by rw [hW1]; exact (((Below.refl w.heap.size w).alloc (Nat.le_refl w.heap.size) _).alloc (by have := (Nat.le_refl w.heap.size); simp only [World.size_alloc]; omega) _)
      have h_x : Blk W1 w.heap.size 30 [.int .i64 i, .int .i64 n, .int .i64 c, .int .i64 p, .int .i64 d, .int .i64 s, .int .i64 b] := by rw [hW1]; exact (blk_at (w) w.heap.size (by rfl) 30 [.int .i64 i, .int .i64 n, .int .i64 c, .int .i64 p, .int .i64 d, .int .i64 s, .int .i64 b]).keep ((Below.refl (w.heap.size + 1) _).alloc (by simp only [World.size_alloc]; omega) _) (by omega)
      have h_r : Blk W1 (w.heap.size + 1) 55 [.int .i64 0, .int .i64 0, .int .i64 0, .int .i64 0] := by rw [hW1]; exact (blk_at ((w.alloc (.cells #[.int .i64 i, .int .i64 n, .int .i64 c, .int .i64 p, .int .i64 d, .int .i64 s, .int .i64 b] 30))) (w.heap.size + 1) (by simp only [World.size_alloc]) 55 [.int .i64 0, .int .i64 0, .int .i64 0, .int .i64 0]).keep (Below.refl ((w.heap.size + 1) + 1) _) (by omega)
      rw [← hW1]
      have HB1 := Lib.hid hbel_
      have Hx1 := Lib.hid h_x
      have Hr1 := Lib.hid h_r
      clear hbel_ hW1  h_x h_r
      have x_0 : W1.cell? ⟨w.heap.size, 0, none⟩ = some (.int .i64 i) := Hx1.out.cellAt (i := 0) (by simp)
      have x_1 : W1.cell? ⟨w.heap.size, 1, none⟩ = some (.int .i64 n) := Hx1.out.cellAt (i := 1) (by simp)
      have x_2 : W1.cell? ⟨w.heap.size, 2, none⟩ = some (.int .i64 c) := Hx1.out.cellAt (i := 2) (by simp)
      have x_3 : W1.cell? ⟨w.heap.size, 3, none⟩ = some (.int .i64 p) := Hx1.out.cellAt (i := 3) (by simp)
      have x_4 : W1.cell? ⟨w.heap.size, 4, none⟩ = some (.int .i64 d) := Hx1.out.cellAt (i := 4) (by simp)
      have x_5 : W1.cell? ⟨w.heap.size, 5, none⟩ = some (.int .i64 s) := Hx1.out.cellAt (i := 5) (by simp)
      have x_6 : W1.cell? ⟨w.heap.size, 6, none⟩ = some (.int .i64 b) := Hx1.out.cellAt (i := 6) (by simp)
      go_wp2_with fail
      clear x_0 x_1 x_2 x_3 x_4 x_5 x_6
      refine (HR.out _).mono ?_
      rintro y w2 ⟨rfl, hb⟩
      have HB2 := Lib.hid (below_transG HB1.out hb)
      have Hx2 := Lib.hid (Hx1.out.keep hb Hx1.out.lt)
      have Hr2 := Lib.hid (Hr1.out.keep hb Hr1.out.lt)
      clear hb
      go_wp2_with fail
      refine (HW.out _).mono ?_
      rintro y w3 ⟨rfl, hb⟩
      have HB3 := Lib.hid (below_transG HB2.out hb)
      have Hx3 := Lib.hid (Hx2.out.keep hb Hx2.out.lt)
      have Hr3 := Lib.hid (Hr2.out.keep hb Hr2.out.lt)
      clear hb
      go_upto_region 6 with fail
      have HZ := Lib.hid (show ∀ u, Below w3.heap.size w3 u → (u.cell? ⟨w.heap.size, 0, none⟩ = some (.int .i64 i) ∧ u.cell? ⟨w.heap.size, 1, none⟩ = some (.int .i64 n) ∧ u.cell? ⟨w.heap.size, 2, none⟩ = some (.int .i64 c) ∧ u.cell? ⟨w.heap.size, 3, none⟩ = some (.int .i64 p) ∧ u.cell? ⟨w.heap.size, 4, none⟩ = some (.int .i64 d) ∧ u.cell? ⟨w.heap.size, 5, none⟩ = some (.int .i64 s) ∧ u.cell? ⟨w.heap.size, 6, none⟩ = some (.int .i64 b)) from fun u hu => ⟨(Hx3.out.keep hu Hx3.out.lt).cellAt (i := 0) (by simp), (Hx3.out.keep hu Hx3.out.lt).cellAt (i := 1) (by simp), (Hx3.out.keep hu Hx3.out.lt).cellAt (i := 2) (by simp), (Hx3.out.keep hu Hx3.out.lt).cellAt (i := 3) (by simp), (Hx3.out.keep hu Hx3.out.lt).cellAt (i := 4) (by simp), (Hx3.out.keep hu Hx3.out.lt).cellAt (i := 5) (by simp), (Hx3.out.keep hu Hx3.out.lt).cellAt (i := 6) (by simp)⟩)
      have HPUT := Lib.hid (show ∀ (u : World) (a0 a1 a2 a3 : Value), (u.cell? ⟨w.heap.size, 0, none⟩ = some (.int .i64 i) ∧ u.cell? ⟨w.heap.size, 1, none⟩ = some (.int .i64 n) ∧ u.cell? ⟨w.heap.size, 2, none⟩ = some (.int .i64 c) ∧ u.cell? ⟨w.heap.size, 3, none⟩ = some (.int .i64 p) ∧ u.cell? ⟨w.heap.size, 4, none⟩ = some (.int .i64 d) ∧ u.cell? ⟨w.heap.size, 5, none⟩ = some (.int .i64 s) ∧ u.cell? ⟨w.heap.size, 6, none⟩ = some (.int .i64 b)) → ((((((u.setCell ⟨(w.heap.size + 1), 0, none⟩ (a0)).setCell ⟨(w.heap.size + 1), 1, none⟩ (a1)).setCell ⟨(w.heap.size + 1), 2, none⟩ (a2)).setCell ⟨(w.heap.size + 1), 3, none⟩ (a3))).cell? ⟨w.heap.size, 0, none⟩ = some (.int .i64 i) ∧ (((((u.setCell ⟨(w.heap.size + 1), 0, none⟩ (a0)).setCell ⟨(w.heap.size + 1), 1, none⟩ (a1)).setCell ⟨(w.heap.size + 1), 2, none⟩ (a2)).setCell ⟨(w.heap.size + 1), 3, none⟩ (a3))).cell? ⟨w.heap.size, 1, none⟩ = some (.int .i64 n) ∧ (((((u.setCell ⟨(w.heap.size + 1), 0, none⟩ (a0)).setCell ⟨(w.heap.size + 1), 1, none⟩ (a1)).setCell ⟨(w.heap.size + 1), 2, none⟩ (a2)).setCell ⟨(w.heap.size + 1), 3, none⟩ (a3))).cell? ⟨w.heap.size, 2, none⟩ = some (.int .i64 c) ∧ (((((u.setCell ⟨(w.heap.size + 1), 0, none⟩ (a0)).setCell ⟨(w.heap.size + 1), 1, none⟩ (a1)).setCell ⟨(w.heap.size + 1), 2, none⟩ (a2)).setCell ⟨(w.heap.size + 1), 3, none⟩ (a3))).cell? ⟨w.heap.size, 3, none⟩ = some (.int .i64 p) ∧ (((((u.setCell ⟨(w.heap.size + 1), 0, none⟩ (a0)).setCell ⟨(w.heap.size + 1), 1, none⟩ (a1)).setCell ⟨(w.heap.size + 1), 2, none⟩ (a2)).setCell ⟨(w.heap.size + 1), 3, none⟩ (a3))).cell? ⟨w.heap.size, 4, none⟩ = some (.int .i64 d) ∧ (((((u.setCell ⟨(w.heap.size + 1), 0, none⟩ (a0)).setCell ⟨(w.heap.size + 1), 1, none⟩ (a1)).setCell ⟨(w.heap.size + 1), 2, none⟩ (a2)).setCell ⟨(w.heap.size + 1), 3, none⟩ (a3))).cell? ⟨w.heap.size, 5, none⟩ = some (.int .i64 s) ∧ (((((u.setCell ⟨(w.heap.size + 1), 0, none⟩ (a0)).setCell ⟨(w.heap.size + 1), 1, none⟩ (a1)).setCell ⟨(w.heap.size + 1), 2, none⟩ (a2)).setCell ⟨(w.heap.size + 1), 3, none⟩ (a3))).cell? ⟨w.heap.size, 6, none⟩ = some (.int .i64 b)) from fun u a0 a1 a2 a3 h => ⟨((World.cell?_setCell_far _ _ _ _ (by simp)).trans ((World.cell?_setCell_far _ _ _ _ (by simp)).trans ((World.cell?_setCell_far _ _ _ _ (by simp)).trans ((World.cell?_setCell_far _ _ _ _ (by simp)).trans h.1)))), ((World.cell?_setCell_far _ _ _ _ (by simp)).trans ((World.cell?_setCell_far _ _ _ _ (by simp)).trans ((World.cell?_setCell_far _ _ _ _ (by simp)).trans ((World.cell?_setCell_far _ _ _ _ (by simp)).trans h.2.1)))), ((World.cell?_setCell_far _ _ _ _ (by simp)).trans ((World.cell?_setCell_far _ _ _ _ (by simp)).trans ((World.cell?_setCell_far _ _ _ _ (by simp)).trans ((World.cell?_setCell_far _ _ _ _ (by simp)).trans h.2.2.1)))), ((World.cell?_setCell_far _ _ _ _ (by simp)).trans ((World.cell?_setCell_far _ _ _ _ (by simp)).trans ((World.cell?_setCell_far _ _ _ _ (by simp)).trans ((World.cell?_setCell_far _ _ _ _ (by simp)).trans h.2.2.2.1)))), ((World.cell?_setCell_far _ _ _ _ (by simp)).trans ((World.cell?_setCell_far _ _ _ _ (by simp)).trans ((World.cell?_setCell_far _ _ _ _ (by simp)).trans ((World.cell?_setCell_far _ _ _ _ (by simp)).trans h.2.2.2.2.1)))), ((World.cell?_setCell_far _ _ _ _ (by simp)).trans ((World.cell?_setCell_far _ _ _ _ (by simp)).trans ((World.cell?_setCell_far _ _ _ _ (by simp)).trans ((World.cell?_setCell_far _ _ _ _ (by simp)).trans h.2.2.2.2.2.1)))), ((World.cell?_setCell_far _ _ _ _ (by simp)).trans ((World.cell?_setCell_far _ _ _ _ (by simp)).trans ((World.cell?_setCell_far _ _ _ _ (by simp)).trans ((World.cell?_setCell_far _ _ _ _ (by simp)).trans h.2.2.2.2.2.2))))⟩)
      have z1 := HZ.out _ (Below.refl _ _).drew
      have HRB := Lib.hid Hr3.out
      have HBB := Lib.hid HB3.out
      go_region_held3 (fun u => (u.cell? ⟨w.heap.size, 0, none⟩ = some (.int .i64 i) ∧ u.cell? ⟨w.heap.size, 1, none⟩ = some (.int .i64 n) ∧ u.cell? ⟨w.heap.size, 2, none⟩ = some (.int .i64 c) ∧ u.cell? ⟨w.heap.size, 3, none⟩ = some (.int .i64 p) ∧ u.cell? ⟨w.heap.size, 4, none⟩ = some (.int .i64 d) ∧ u.cell? ⟨w.heap.size, 5, none⟩ = some (.int .i64 s) ∧ u.cell? ⟨w.heap.size, 6, none⟩ = some (.int .i64 b))) (first | (with_reducible assumption) | (with_reducible exact HPUT.out _ _ _ _ _ h9S)) (first | (go_at_call 16; refine (HC.out _ (HTX.out _ HB3.out.drew).1 (HTX.out _ HB3.out.drew).2).mono ?_; rintro y w9 ⟨rfl, h9⟩; have h9S := HZ.out _ (below_transG (Below.refl _ _).drew h9); have h9R := HRB.out.keep (below_transG (Below.refl _ _).drew h9) HRB.out.lt; have h9B := below_transG HBB.out (below_transG (Below.refl _ _).drew h9); have r0 : w9.cell? ⟨(w.heap.size + 1), 0, none⟩ = some (.int .i64 0) := h9R.cellAt (i := 0) (by simp); have rf0 : w9.frozen? ⟨(w.heap.size + 1), 0, none⟩ = false := h9R.frozenAt 0; have r1 : w9.cell? ⟨(w.heap.size + 1), 1, none⟩ = some (.int .i64 0) := h9R.cellAt (i := 1) (by simp); have rf1 : w9.frozen? ⟨(w.heap.size + 1), 1, none⟩ = false := h9R.frozenAt 1; have r2 : w9.cell? ⟨(w.heap.size + 1), 2, none⟩ = some (.int .i64 0) := h9R.cellAt (i := 2) (by simp); have rf2 : w9.frozen? ⟨(w.heap.size + 1), 2, none⟩ = false := h9R.frozenAt 2; have r3 : w9.cell? ⟨(w.heap.size + 1), 3, none⟩ = some (.int .i64 0) := h9R.cellAt (i := 3) (by simp); have rf3 : w9.frozen? ⟨(w.heap.size + 1), 3, none⟩ = false := h9R.frozenAt 3))
      go_wp2_with fail
      rw [HWR.out]
      obtain ⟨W, hWW⟩ : ∃ W, W = ((((w9.setCell ⟨(w.heap.size + 1), 0, none⟩ (.int .i64 i)).setCell ⟨(w.heap.size + 1), 1, none⟩ (.int .i64 r)).setCell ⟨(w.heap.size + 1), 2, none⟩ (.int .i64 (r + d))).setCell ⟨(w.heap.size + 1), 3, none⟩ (.int .i64 cc)) := ⟨_, rfl⟩
      rw [← hWW]
      have hRS : Blk W ((w.heap.size + 1)) 55 [.int .i64 i, .int .i64 r, .int .i64 (r + d), .int .i64 cc] := by rw [hWW]; exact (h9R).set [.int .i64 i, .int .i64 r, .int .i64 (r + d), .int .i64 cc] rfl
      have hb := (show Below w.heap.size w W by rw [hWW]; exact Go.below_setCells (by first | omega | simp) [.int .i64 i, .int .i64 r, .int .i64 (r + d), .int .i64 cc] 0 _ h9B)
      clear hWW
      have z0 : W.cell? ⟨(w.heap.size + 1), 0, none⟩ = some (.int .i64 i) := hRS.cellAt (i := 0) (by simp)
      have z1 : W.cell? ⟨(w.heap.size + 1), 1, none⟩ = some (.int .i64 r) := hRS.cellAt (i := 1) (by simp)
      have z2 : W.cell? ⟨(w.heap.size + 1), 2, none⟩ = some (.int .i64 (r + d)) := hRS.cellAt (i := 2) (by simp)
      have z3 : W.cell? ⟨(w.heap.size + 1), 3, none⟩ = some (.int .i64 cc) := hRS.cellAt (i := 3) (by simp)
      exact bodyPost_ret (v := .tuple #[.agg #[.int .i64 i, .int .i64 r, .int .i64 (r + d), .int .i64 cc], .int .i64 0]) (by simp [results, Tryd.results37, go_sem, z0, z1, z2, z3]) rfl ⟨rfl, hb⟩
  · rw [if_neg h]
    obtain ⟨e, he⟩ : ∃ e, e = rightS i n c p d s b := ⟨_, rfl⟩
    rw [← he] at HR h ⊢
    have k0 : (e == 0) = false := by rw [beq_eq_false_iff_ne]; exact h
    clear h he
    go_enter Tryd.func37, Tryd.ntmps37
    go_upto_region 1 with fail
    obtain ⟨W1, hW1⟩ : ∃ W, W = ((w.alloc (.cells #[.int .i64 i, .int .i64 n, .int .i64 c, .int .i64 p, .int .i64 d, .int .i64 s, .int .i64 b] 30)).alloc (.cells #[.int .i64 0, .int .i64 0, .int .i64 0, .int .i64 0] 55)) := ⟨_, rfl⟩
    have hbel_ : Below w.heap.size w W1 := by rw [hW1]; exact (((Below.refl w.heap.size w).alloc (Nat.le_refl w.heap.size) _).alloc (by have := (Nat.le_refl w.heap.size); simp only [World.size_alloc]; omega) _)
    have h_x : Blk W1 w.heap.size 30 [.int .i64 i, .int .i64 n, .int .i64 c, .int .i64 p, .int .i64 d, .int .i64 s, .int .i64 b] := by rw [hW1]; exact (blk_at (w) w.heap.size (by rfl) 30 [.int .i64 i, .int .i64 n, .int .i64 c, .int .i64 p, .int .i64 d, .int .i64 s, .int .i64 b]).keep ((Below.refl (w.heap.size + 1) _).alloc (by simp only [World.size_alloc]; omega) _) (by omega)
    have h_r : Blk W1 (w.heap.size + 1) 55 [.int .i64 0, .int .i64 0, .int .i64 0, .int .i64 0] := by rw [hW1]; exact (blk_at ((w.alloc (.cells #[.int .i64 i, .int .i64 n, .int .i64 c, .int .i64 p, .int .i64 d, .int .i64 s, .int .i64 b] 30))) (w.heap.size + 1) (by simp only [World.size_alloc]) 55 [.int .i64 0, .int .i64 0, .int .i64 0, .int .i64 0]).keep (Below.refl ((w.heap.size + 1) + 1) _) (by omega)
    rw [← hW1]
    have HB1 := Lib.hid hbel_
    have Hx1 := Lib.hid h_x
    have Hr1 := Lib.hid h_r
    clear hbel_ hW1  h_x h_r
    have x_0 : W1.cell? ⟨w.heap.size, 0, none⟩ = some (.int .i64 i) := Hx1.out.cellAt (i := 0) (by simp)
    have x_1 : W1.cell? ⟨w.heap.size, 1, none⟩ = some (.int .i64 n) := Hx1.out.cellAt (i := 1) (by simp)
    have x_2 : W1.cell? ⟨w.heap.size, 2, none⟩ = some (.int .i64 c) := Hx1.out.cellAt (i := 2) (by simp)
    have x_3 : W1.cell? ⟨w.heap.size, 3, none⟩ = some (.int .i64 p) := Hx1.out.cellAt (i := 3) (by simp)
    have x_4 : W1.cell? ⟨w.heap.size, 4, none⟩ = some (.int .i64 d) := Hx1.out.cellAt (i := 4) (by simp)
    have x_5 : W1.cell? ⟨w.heap.size, 5, none⟩ = some (.int .i64 s) := Hx1.out.cellAt (i := 5) (by simp)
    have x_6 : W1.cell? ⟨w.heap.size, 6, none⟩ = some (.int .i64 b) := Hx1.out.cellAt (i := 6) (by simp)
    go_wp2_with fail
    clear x_0 x_1 x_2 x_3 x_4 x_5 x_6
    refine (HR.out _).mono ?_
    rintro y w2 ⟨rfl, hb⟩
    have HB2 := Lib.hid (below_transG HB1.out hb)
    have Hx2 := Lib.hid (Hx1.out.keep hb Hx1.out.lt)
    have Hr2 := Lib.hid (Hr1.out.keep hb Hr1.out.lt)
    clear hb
    have r_0 : w2.cell? ⟨(w.heap.size + 1), 0, none⟩ = some (.int .i64 0) := Hr2.out.cellAt (i := 0) (by simp)
    have r_1 : w2.cell? ⟨(w.heap.size + 1), 1, none⟩ = some (.int .i64 0) := Hr2.out.cellAt (i := 1) (by simp)
    have r_2 : w2.cell? ⟨(w.heap.size + 1), 2, none⟩ = some (.int .i64 0) := Hr2.out.cellAt (i := 2) (by simp)
    have r_3 : w2.cell? ⟨(w.heap.size + 1), 3, none⟩ = some (.int .i64 0) := Hr2.out.cellAt (i := 3) (by simp)
    have rf_0 : w2.frozen? ⟨(w.heap.size + 1), 0, none⟩ = false := Hr2.out.frozenAt 0
    have rf_1 : w2.frozen? ⟨(w.heap.size + 1), 1, none⟩ = false := Hr2.out.frozenAt 1
    have rf_2 : w2.frozen? ⟨(w.heap.size + 1), 2, none⟩ = false := Hr2.out.frozenAt 2
    have rf_3 : w2.frozen? ⟨(w.heap.size + 1), 3, none⟩ = false := Hr2.out.frozenAt 3
    go_wp2_with fail
    obtain ⟨W, hWW⟩ : ∃ W, W = ((((w2.setCell ⟨(w.heap.size + 1), 0, none⟩ (.int .i64 0)).setCell ⟨(w.heap.size + 1), 1, none⟩ (.int .i64 0)).setCell ⟨(w.heap.size + 1), 2, none⟩ (.int .i64 0)).setCell ⟨(w.heap.size + 1), 3, none⟩ (.int .i64 0)) := ⟨_, rfl⟩
    rw [← hWW]
    have hRS : Blk W ((w.heap.size + 1)) 55 [.int .i64 0, .int .i64 0, .int .i64 0, .int .i64 0] := by rw [hWW]; exact (Hr2.out).set [.int .i64 0, .int .i64 0, .int .i64 0, .int .i64 0] rfl
    have hb := (show Below w.heap.size w W by rw [hWW]; exact Go.below_setCells (by first | omega | simp) [.int .i64 0, .int .i64 0, .int .i64 0, .int .i64 0] 0 _ HB2.out)
    clear hWW
    have z0 : W.cell? ⟨(w.heap.size + 1), 0, none⟩ = some (.int .i64 0) := hRS.cellAt (i := 0) (by simp)
    have z1 : W.cell? ⟨(w.heap.size + 1), 1, none⟩ = some (.int .i64 0) := hRS.cellAt (i := 1) (by simp)
    have z2 : W.cell? ⟨(w.heap.size + 1), 2, none⟩ = some (.int .i64 0) := hRS.cellAt (i := 2) (by simp)
    have z3 : W.cell? ⟨(w.heap.size + 1), 3, none⟩ = some (.int .i64 0) := hRS.cellAt (i := 3) (by simp)
    exact bodyPost_ret (v := .tuple #[.agg #[.int .i64 0, .int .i64 0, .int .i64 0, .int .i64 0], .int .i64 e]) (by simp [results, Tryd.results37, go_sem, z0, z1, z2, z3]) rfl ⟨rfl, hb⟩
end Go.Proofs.YtolhckahphmffaaDoor
