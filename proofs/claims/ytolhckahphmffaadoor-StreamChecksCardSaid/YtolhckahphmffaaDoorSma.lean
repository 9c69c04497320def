/- Package stream, and the document's own answers of layer 25: which streams can be, and what a frame of one costs. Conditions: none but the table of the divisor. -/
import Derived.Test.YtolhckahphmffaaDoorCla
import Derived.Test.YtolhckahphmffaaDoorWrs
import Derived.Test.YtolhckahphmffaaDoorGna
import Derived.Test.YtolhckahphmffaaDoorQui
namespace Go.Proofs.YtolhckahphmffaaDoor
open Go.RowKit
theorem blk_at (w : World) (B : Nat) (hB : w.heap.size = B) (T : TypeId) (l : List Value) : Blk (w.alloc (.cells l.toArray T)) B T l := by
  subst hB; exact Blk.new w T l
/-- Is a number from a first one to a last one? -/
def inS (n lo hi : Int) : Bool := decide (lo ≤ n ∧ n ≤ hi)
/-- What is wrong with a stream. -/
def rightS (i n c p d s b : Int) : Int := if rightL c 0 0 0 = false then 10 else if rightL c s i n = false then 1 else if inS p 1 1073741824 = false then 1 else if inS d 1 p = false then 1 else if inS b 0 8 = false then 2 else 0
/-- What a frame of a stream costs. -/
def costS (i n c p d s b : Int) : Int := if rightS i n c p d s b = 0 then mostF true b + 3 else 0
theorem inS_cases (n lo hi : Int) : (n < lo ∧ inS n lo hi = false) ∨ (lo ≤ n ∧ hi < n ∧ inS n lo hi = false) ∨ (lo ≤ n ∧ n ≤ hi ∧ inS n lo hi = true) := by
  unfold inS
  rcases Int.lt_or_le n lo with h | h
  · exact .inl ⟨h, decide_eq_false (by omega)⟩
  · rcases Int.lt_or_le hi n with h2 | h2
    · exact .inr (.inl ⟨h, h2, decide_eq_false (by omega)⟩)
    · exact .inr (.inr ⟨h, h2, decide_eq_true ⟨h, h2⟩⟩)
theorem mostF_in (b : Int) (h : inS b 0 8 = true) : 0 ≤ mostF true b ∧ mostF true b ≤ 1000 := by
  unfold inS at h
  have h := of_decide_eq_true h
  unfold mostF
  rw [if_neg (by omega)]
  unfold mostW
  simp only [if_true]
  split <;> omega
theorem rightS_b {i n c p d s b : Int} (h : rightS i n c p d s b = 0) : inS b 0 8 = true := by
  unfold rightS at h
  repeat' split at h
  all_goals first | (exact absurd h (by decide)) | skip
  rename_i h5
  simpa using h5
theorem wit64_any (n lo hi : Int) (w : World) : Calls Tryd.prog 39 #[.int .i64 n, .int .i64 lo, .int .i64 hi] w fun y w' => y = .returned (.bool (inS n lo hi)) ∧ Below w.heap.size w w' := by
  have HB := Lib.hid (Below.refl w.heap.size w)
  rcases inS_cases n lo hi with ⟨h, e⟩ | ⟨h, h2, e⟩ | ⟨h, h2, e⟩
  · rw [e]; clear e
    have g : ¬ lo ≤ n := by omega
    go_enter Tryd.func39, Tryd.ntmps39
    go_wp2_with fail
    go_ret
    exact ⟨rfl, by first | exact HB.out | exact HB.out.drew⟩
  · rw [e]; clear e
    have g : ¬ n ≤ hi := by omega
    go_enter Tryd.func39, Tryd.ntmps39
    go_wp2_with fail
    go_ret
    exact ⟨rfl, by first | exact HB.out | exact HB.out.drew⟩
  · rw [e]; clear e
    go_enter Tryd.func39, Tryd.ntmps39
    go_wp2_with fail
    go_ret
    exact ⟨rfl, by first | exact HB.out | exact HB.out.drew⟩
theorem wit_any (n lo hi : Int) (w : World) : Calls Tryd.prog 44 #[.int .i64 n, .int .i64 lo, .int .i64 hi] w fun y w' => y = .returned (.bool (inS n lo hi)) ∧ Below w.heap.size w w' := by
  have HB := Lib.hid (Below.refl w.heap.size w)
  rcases inS_cases n lo hi with ⟨h, e⟩ | ⟨h, h2, e⟩ | ⟨h, h2, e⟩
  · rw [e]; clear e
    have g : ¬ lo ≤ n := by omega
    go_enter Tryd.func44, Tryd.ntmps44
    go_wp2_with fail
    go_ret
    exact ⟨rfl, by first | exact HB.out | exact HB.out.drew⟩
  · rw [e]; clear e
    have g : ¬ n ≤ hi := by omega
    go_enter Tryd.func44, Tryd.ntmps44
    go_wp2_with fail
    go_ret
    exact ⟨rfl, by first | exact HB.out | exact HB.out.drew⟩
  · rw [e]; clear e
    go_enter Tryd.func44, Tryd.ntmps44
    go_wp2_with fail
    go_ret
    exact ⟨rfl, by first | exact HB.out | exact HB.out.drew⟩
theorem when_any (c : Bool) (e : Int) (w : World) : Calls Tryd.prog 67 #[.bool c, .int .i64 e] w fun y w' => y = .returned (.int .i64 (if c = true then e else 0)) ∧ Below w.heap.size w w' := by
  have HB := Lib.hid (Below.refl w.heap.size w)
  cases c
  · rw [if_neg (by decide)]
    go_enter Tryd.func67, Tryd.ntmps67
    go_wp2_with fail
    go_ret
    exact ⟨rfl, by first | exact HB.out | exact HB.out.drew⟩
  · rw [if_pos rfl]
    go_enter Tryd.func67, Tryd.ntmps67
    go_wp2_with fail
    go_ret
    exact ⟨rfl, by first | exact HB.out | exact HB.out.drew⟩
theorem slabel_any (i n c p d s b : Int) (w : World) : Calls Tryd.prog 43 #[.agg #[.int .i64 i, .int .i64 n, .int .i64 c, .int .i64 p, .int .i64 d, .int .i64 s, .int .i64 b]] w fun y w' => y = .returned (.agg #[.int .i64 c, .int .i64 s, .int .i64 i, .int .i64 n]) ∧ Below w.heap.size w w' := by
  go_enter Tryd.func43, Tryd.ntmps43
  go_wp2_with fail
  obtain ⟨W, hW⟩ : ∃ W, W = (w.alloc (.cells #[.int .i64 i, .int .i64 n, .int .i64 c, .int .i64 p, .int .i64 d, .int .i64 s, .int .i64 b] 30)).alloc (.cells #[.int .i64 c, .int .i64 s, .int .i64 i, .int .i64 n] 38) := ⟨_, rfl⟩
  rw [← hW]
  have hS : Blk W (w.heap.size + 1) 38 [.int .i64 c, .int .i64 s, .int .i64 i, .int .i64 n] := by
    rw [hW]
    have := Blk.new (w.alloc (.cells #[.int .i64 i, .int .i64 n, .int .i64 c, .int .i64 p, .int .i64 d, .int .i64 s, .int .i64 b] 30)) 38 [.int .i64 c, .int .i64 s, .int .i64 i, .int .i64 n]
    rw [World.size_alloc] at this
    exact this
  have hb : Below w.heap.size w W := by rw [hW]; exact ((Below.refl w.heap.size w).alloc (Nat.le_refl _) _).alloc (by simp) _
  clear hW
  have z0 : W.cell? ⟨(w.heap.size + 1), 0, none⟩ = some (.int .i64 c) := hS.cellAt (i := 0) (by simp)
  have z1 : W.cell? ⟨(w.heap.size + 1), 1, none⟩ = some (.int .i64 s) := hS.cellAt (i := 1) (by simp)
  have z2 : W.cell? ⟨(w.heap.size + 1), 2, none⟩ = some (.int .i64 i) := hS.cellAt (i := 2) (by simp)
  have z3 : W.cell? ⟨(w.heap.size + 1), 3, none⟩ = some (.int .i64 n) := hS.cellAt (i := 3) (by simp)
  exact bodyPost_ret (v := .agg #[.int .i64 c, .int .i64 s, .int .i64 i, .int .i64 n]) (by simp [results, Tryd.results43, go_sem, z0, z1, z2, z3]) rfl ⟨rfl, hb⟩
theorem rslabel_any (i n c p d s b : Int) (w : World) : Calls Tryd.prog 46 #[.agg #[.int .i64 i, .int .i64 n, .int .i64 c, .int .i64 p, .int .i64 d, .int .i64 s, .int .i64 b]] w fun y w' => y = .returned (.agg #[.int .i64 c, .int .i64 s, .int .i64 i, .int .i64 n]) ∧ Below w.heap.size w w' := by
  go_enter Tryd.func46, Tryd.ntmps46
  go_wp2_with fail
  obtain ⟨W, hW⟩ : ∃ W, W = (w.alloc (.cells #[.int .i64 i, .int .i64 n, .int .i64 c, .int .i64 p, .int .i64 d, .int .i64 s, .int .i64 b] 30)).alloc (.cells #[.int .i64 c, .int .i64 s, .int .i64 i, .int .i64 n] 38) := ⟨_, rfl⟩
  rw [← hW]
  have hS : Blk W (w.heap.size + 1) 38 [.int .i64 c, .int .i64 s, .int .i64 i, .int .i64 n] := by
    rw [hW]
    have := Blk.new (w.alloc (.cells #[.int .i64 i, .int .i64 n, .int .i64 c, .int .i64 p, .int .i64 d, .int .i64 s, .int .i64 b] 30)) 38 [.int .i64 c, .int .i64 s, .int .i64 i, .int .i64 n]
    rw [World.size_alloc] at this
    exact this
  have hb : Below w.heap.size w W := by rw [hW]; exact ((Below.refl w.heap.size w).alloc (Nat.le_refl _) _).alloc (by simp) _
  clear hW
  have z0 : W.cell? ⟨(w.heap.size + 1), 0, none⟩ = some (.int .i64 c) := hS.cellAt (i := 0) (by simp)
  have z1 : W.cell? ⟨(w.heap.size + 1), 1, none⟩ = some (.int .i64 s) := hS.cellAt (i := 1) (by simp)
  have z2 : W.cell? ⟨(w.heap.size + 1), 2, none⟩ = some (.int .i64 i) := hS.cellAt (i := 2) (by simp)
  have z3 : W.cell? ⟨(w.heap.size + 1), 3, none⟩ = some (.int .i64 n) := hS.cellAt (i := 3) (by simp)
  exact bodyPost_ret (v := .agg #[.int .i64 c, .int .i64 s, .int .i64 i, .int .i64 n]) (by simp [results, Tryd.results46, go_sem, z0, z1, z2, z3]) rfl ⟨rfl, hb⟩
set_option maxHeartbeats 2000000 in
theorem sright_any (i n c p d s b : Int) (w : World) : Calls Tryd.prog 14 #[.agg #[.int .i64 i, .int .i64 n, .int .i64 c, .int .i64 p, .int .i64 d, .int .i64 s, .int .i64 b]] w fun y w' => y = .returned (.int .i64 (rightS i n c p d s b)) ∧ Below w.heap.size w w' := by
  have HCL := Lib.hid clright_any; have HW := Lib.hid wit64_any; have HI := Lib.hid wit_any; have HSL := Lib.hid slabel_any
  unfold rightS
  obtain ⟨g1, hg1⟩ : ∃ g, g = rightL c 0 0 0 := ⟨_, rfl⟩
  obtain ⟨g2, hg2⟩ : ∃ g, g = rightL c s i n := ⟨_, rfl⟩
  obtain ⟨g3, hg3⟩ : ∃ g, g = inS p 1 1073741824 := ⟨_, rfl⟩
  obtain ⟨g4, hg4⟩ : ∃ g, g = inS d 1 p := ⟨_, rfl⟩
  obtain ⟨g5, hg5⟩ : ∃ g, g = inS b 0 8 := ⟨_, rfl⟩
  have H1 := Lib.hid (fun u => clright_any c 0 0 0 u); have H2 := Lib.hid (fun u => clright_any c s i n u); have H3 := Lib.hid (fun u => wit64_any p 1 1073741824 u); have H4 := Lib.hid (fun u => wit64_any d 1 p u); have H5 := Lib.hid (fun u => wit_any b 0 8 u)
  rw [← hg1] at H1 ⊢; rw [← hg2] at H2 ⊢; rw [← hg3] at H3 ⊢; rw [← hg4] at H4 ⊢; rw [← hg5] at H5 ⊢
  clear hg1 hg2 hg3 hg4 hg5
  cases g1
  · simp only [if_true]
    go_enter Tryd.func14, Tryd.ntmps14
    go_upto_region 1 with fail
    obtain ⟨W1, hW1⟩ : ∃ W, W = (w.alloc (.cells #[.int .i64 i, .int .i64 n, .int .i64 c, .int .i64 p, .int .i64 d, .int .i64 s, .int .i64 b] 30)) := ⟨_, rfl⟩
    have hbel_ : Below w.heap.size w W1 := by rw [hW1]; exact ((Below.refl w.heap.size w).alloc (Nat.le_refl w.heap.size) _)
    have h_x : Blk W1 w.heap.size 30 [.int .i64 i, .int .i64 n, .int .i64 c, .int .i64 p, .int .i64 d, .int .i64 s, .int .i64 b] := by rw [hW1]; exact (blk_at (w) w.heap.size (by rfl) 30 [.int .i64 i, .int .i64 n, .int .i64 c, .int .i64 p, .int .i64 d, .int .i64 s, .int .i64 b]).keep (Below.refl (w.heap.size + 1) _) (by omega)
    rw [← hW1]
    have HB1 := Lib.hid hbel_
    have Hx1 := Lib.hid h_x
    clear hbel_ hW1  h_x
    have x_0 : W1.cell? ⟨w.heap.size, 0, none⟩ = some (.int .i64 i) := Hx1.out.cellAt (i := 0) (by simp)
    have x_1 : W1.cell? ⟨w.heap.size, 1, none⟩ = some (.int .i64 n) := Hx1.out.cellAt (i := 1) (by simp)
    have x_2 : W1.cell? ⟨w.heap.size, 2, none⟩ = some (.int .i64 c) := Hx1.out.cellAt (i := 2) (by simp)
    have x_3 : W1.cell? ⟨w.heap.size, 3, none⟩ = some (.int .i64 p) := Hx1.out.cellAt (i := 3) (by simp)
    have x_4 : W1.cell? ⟨w.heap.size, 4, none⟩ = some (.int .i64 d) := Hx1.out.cellAt (i := 4) (by simp)
    have x_5 : W1.cell? ⟨w.heap.size, 5, none⟩ = some (.int .i64 s) := Hx1.out.cellAt (i := 5) (by simp)
    have x_6 : W1.cell? ⟨w.heap.size, 6, none⟩ = some (.int .i64 b) := Hx1.out.cellAt (i := 6) (by simp)
    go_wp2_with fail
    clear x_0 x_1 x_2 x_3 x_4 x_5 x_6
    refine (H1.out _).mono ?_
    rintro y w2 ⟨rfl, hb⟩
    have HB2 := Lib.hid (below_transG HB1.out hb)
    have Hx2 := Lib.hid (Hx1.out.keep hb Hx1.out.lt)
    clear hb
    go_wp2_with fail
    go_ret
    exact ⟨rfl, HB2.out⟩
  cases g2
  · simp only [if_true, if_false, Bool.true_eq_false]
    go_enter Tryd.func14, Tryd.ntmps14
    go_upto_region 1 with fail
    obtain ⟨W1, hW1⟩ : ∃ W, W = (w.alloc (.cells #[.int .i64 i, .int .i64 n, .int .i64 c, .int .i64 p, .int .i64 d, .int .i64 s, .int .i64 b] 30)) := ⟨_, rfl⟩
    have hbel_ : Below w.heap.size w W1 := by rw [hW1]; exact ((Below.refl w.heap.size w).alloc (Nat.le_refl w.heap.size) _)
    have h_x : Blk W1 w.heap.size 30 [.int .i64 i, .int .i64 n, .int .i64 c, .int .i64 p, .int .i64 d, .int .i64 s, .int .i64 b] := by rw [hW1]; exact (blk_at (w) w.heap.size (by rfl) 30 [.int .i64 i, .int .i64 n, .int .i64 c, .int .i64 p, .int .i64 d, .int .i64 s, .int .i64 b]).keep (Below.refl (w.heap.size + 1) _) (by omega)
    rw [← hW1]
    have HB1 := Lib.hid hbel_
    have Hx1 := Lib.hid h_x
    clear hbel_ hW1  h_x
    have x_0 : W1.cell? ⟨w.heap.size, 0, none⟩ = some (.int .i64 i) := Hx1.out.cellAt (i := 0) (by simp)
    have x_1 : W1.cell? ⟨w.heap.size, 1, none⟩ = some (.int .i64 n) := Hx1.out.cellAt (i := 1) (by simp)
    have x_2 : W1.cell? ⟨w.heap.size, 2, none⟩ = some (.int .i64 c) := Hx1.out.cellAt (i := 2) (by simp)
    have x_3 : W1.cell? ⟨w.heap.size, 3, none⟩ = some (.int .i64 p) := Hx1.out.cellAt (i := 3) (by simp)
    have x_4 : W1.cell? ⟨w.heap.size, 4, none⟩ = some (.int .i64 d) := Hx1.out.cellAt (i := 4) (by simp)
    have x_5 : W1.cell? ⟨w.heap.size, 5, none⟩ = some (.int .i64 s) := Hx1.out.cellAt (i := 5) (by simp)
    have x_6 : W1.cell? ⟨w.heap.size, 6, none⟩ = some (.int .i64 b) := Hx1.out.cellAt (i := 6) (by simp)
    go_wp2_with fail
    clear x_0 x_1 x_2 x_3 x_4 x_5 x_6
    refine (H1.out _).mono ?_
    rintro y w2 ⟨rfl, hb⟩
    have HB2 := Lib.hid (below_transG HB1.out hb)
    have Hx2 := Lib.hid (Hx1.out.keep hb Hx1.out.lt)
    clear hb
    have x_0 : w2.cell? ⟨w.heap.size, 0, none⟩ = some (.int .i64 i) := Hx2.out.cellAt (i := 0) (by simp)
    have x_1 : w2.cell? ⟨w.heap.size, 1, none⟩ = some (.int .i64 n) := Hx2.out.cellAt (i := 1) (by simp)
    have x_2 : w2.cell? ⟨w.heap.size, 2, none⟩ = some (.int .i64 c) := Hx2.out.cellAt (i := 2) (by simp)
    have x_3 : w2.cell? ⟨w.heap.size, 3, none⟩ = some (.int .i64 p) := Hx2.out.cellAt (i := 3) (by simp)
    have x_4 : w2.cell? ⟨w.heap.size, 4, none⟩ = some (.int .i64 d) := Hx2.out.cellAt (i := 4) (by simp)
    have x_5 : w2.cell? ⟨w.heap.size, 5, none⟩ = some (.int .i64 s) := Hx2.out.cellAt (i := 5) (by simp)
    have x_6 : w2.cell? ⟨w.heap.size, 6, none⟩ = some (.int .i64 b) := Hx2.out.cellAt (i := 6) (by simp)
    go_wp2_with fail
    clear x_0 x_1 x_2 x_3 x_4 x_5 x_6
    refine (HSL.out i n c p d s b _).mono ?_
    rintro y w3 ⟨rfl, hb⟩
    have HB3 := Lib.hid (below_transG HB2.out hb)
    have Hx3 := Lib.hid (Hx2.out.keep hb Hx2.out.lt)
    clear hb
    go_wp2_with fail
    refine (H2.out _).mono ?_
    rintro y w4 ⟨rfl, hb⟩
    have HB4 := Lib.hid (below_transG HB3.out hb)
    have Hx4 := Lib.hid (Hx3.out.keep hb Hx3.out.lt)
    clear hb
    go_wp2_with fail
    go_ret
    exact ⟨rfl, HB4.out⟩
  cases g3
  · simp only [if_true, if_false, Bool.true_eq_false]
    go_enter Tryd.func14, Tryd.ntmps14
    go_upto_region 1 with fail
    obtain ⟨W1, hW1⟩ : ∃ W, W = (w.alloc (.cells #[.int .i64 i, .int .i64 n, .int .i64 c, .int .i64 p, .int .i64 d, .int .i64 s, .int .i64 b] 30)) := ⟨_, rfl⟩
    have hbel_ : Below w.heap.size w W1 := by rw [hW1]; exact ((Below.refl w.heap.size w).alloc (Nat.le_refl w.heap.size) _)
    have h_x : Blk W1 w.heap.size 30 [.int .i64 i, .int .i64 n, .int .i64 c, .int .i64 p, .int .i64 d, .int .i64 s, .int .i64 b] := by rw [hW1]; exact (blk_at (w) w.heap.size (by rfl) 30 [.int .i64 i, .int .i64 n, .int .i64 c, .int .i64 p, .int .i64 d, .int .i64 s, .int .i64 b]).keep (Below.refl (w.heap.size + 1) _) (by omega)
    rw [← hW1]
    have HB1 := Lib.hid hbel_
    have Hx1 := Lib.hid h_x
    clear hbel_ hW1  h_x
    have x_0 : W1.cell? ⟨w.heap.size, 0, none⟩ = some (.int .i64 i) := Hx1.out.cellAt (i := 0) (by simp)
    have x_1 : W1.cell? ⟨w.heap.size, 1, none⟩ = some (.int .i64 n) := Hx1.out.cellAt (i := 1) (by simp)
    have x_2 : W1.cell? ⟨w.heap.size, 2, none⟩ = some (.int .i64 c) := Hx1.out.cellAt (i := 2) (by simp)
    have x_3 : W1.cell? ⟨w.heap.size, 3, none⟩ = some (.int .i64 p) := Hx1.out.cellAt (i := 3) (by simp)
    have x_4 : W1.cell? ⟨w.heap.size, 4, none⟩ = some (.int .i64 d) := Hx1.out.cellAt (i := 4) (by simp)
    have x_5 : W1.cell? ⟨w.heap.size, 5, none⟩ = some (.int .i64 s) := Hx1.out.cellAt (i := 5) (by simp)
    have x_6 : W1.cell? ⟨w.heap.size, 6, none⟩ = some (.int .i64 b) := Hx1.out.cellAt (i := 6) (by simp)
    go_wp2_with fail
    clear x_0 x_1 x_2 x_3 x_4 x_5 x_6
    refine (H1.out _).mono ?_
    rintro y w2 ⟨rfl, hb⟩
    have HB2 := Lib.hid (below_transG HB1.out hb)
    have Hx2 := Lib.hid (Hx1.out.keep hb Hx1.out.lt)
    clear hb
    have x_0 : w2.cell? ⟨w.heap.size, 0, none⟩ = some (.int .i64 i) := Hx2.out.cellAt (i := 0) (by simp)
    have x_1 : w2.cell? ⟨w.heap.size, 1, none⟩ = some (.int .i64 n) := Hx2.out.cellAt (i := 1) (by simp)
    have x_2 : w2.cell? ⟨w.heap.size, 2, none⟩ = some (.int .i64 c) := Hx2.out.cellAt (i := 2) (by simp)
    have x_3 : w2.cell? ⟨w.heap.size, 3, none⟩ = some (.int .i64 p) := Hx2.out.cellAt (i := 3) (by simp)
    have x_4 : w2.cell? ⟨w.heap.size, 4, none⟩ = some (.int .i64 d) := Hx2.out.cellAt (i := 4) (by simp)
    have x_5 : w2.cell? ⟨w.heap.size, 5, none⟩ = some (.int .i64 s) := Hx2.out.cellAt (i := 5) (by simp)
    have x_6 : w2.cell? ⟨w.heap.size, 6, none⟩ = some (.int .i64 b) := Hx2.out.cellAt (i := 6) (by simp)
    go_wp2_with fail
    clear x_0 x_1 x_2 x_3 x_4 x_5 x_6
    refine (HSL.out i n c p d s b _).mono ?_
    rintro y w3 ⟨rfl, hb⟩
    have HB3 := Lib.hid (below_transG HB2.out hb)
    have Hx3 := Lib.hid (Hx2.out.keep hb Hx2.out.lt)
    clear hb
    go_wp2_with fail
    refine (H2.out _).mono ?_
    rintro y w4 ⟨rfl, hb⟩
    have HB4 := Lib.hid (below_transG HB3.out hb)
    have Hx4 := Lib.hid (Hx3.out.keep hb Hx3.out.lt)
    clear hb
    have x_0 : w4.cell? ⟨w.heap.size, 0, none⟩ = some (.int .i64 i) := Hx4.out.cellAt (i := 0) (by simp)
    have x_1 : w4.cell? ⟨w.heap.size, 1, none⟩ = some (.int .i64 n) := Hx4.out.cellAt (i := 1) (by simp)
    have x_2 : w4.cell? ⟨w.heap.size, 2, none⟩ = some (.int .i64 c) := Hx4.out.cellAt (i := 2) (by simp)
    have x_3 : w4.cell? ⟨w.heap.size, 3, none⟩ = some (.int .i64 p) := Hx4.out.cellAt (i := 3) (by simp)
    have x_4 : w4.cell? ⟨w.heap.size, 4, none⟩ = some (.int .i64 d) := Hx4.out.cellAt (i := 4) (by simp)
    have x_5 : w4.cell? ⟨w.heap.size, 5, none⟩ = some (.int .i64 s) := Hx4.out.cellAt (i := 5) (by simp)
    have x_6 : w4.cell? ⟨w.heap.size, 6, none⟩ = some (.int .i64 b) := Hx4.out.cellAt (i := 6) (by simp)
    go_wp2_with fail
    clear x_0 x_1 x_2 x_3 x_4 x_5 x_6
    refine (H3.out _).mono ?_
    rintro y w5 ⟨rfl, hb⟩
    have HB5 := Lib.hid (below_transG HB4.out hb)
    have Hx5 := Lib.hid (Hx4.out.keep hb Hx4.out.lt)
    clear hb
    go_wp2_with fail
    go_ret
    exact ⟨rfl, HB5.out⟩
  cases g4
  · simp only [if_true, if_false, Bool.true_eq_false]
    go_enter Tryd.func14, Tryd.ntmps14
    go_upto_region 1 with fail
    obtain ⟨W1, hW1⟩ : ∃ W, W = (w.alloc (.cells #[.int .i64 i, .int .i64 n, .int .i64 c, .int .i64 p, .int .i64 d, .int .i64 s, .int .i64 b] 30)) := ⟨_, rfl⟩
    have hbel_ : Below w.heap.size w W1 := by rw [hW1]; exact ((Below.refl w.heap.size w).alloc (Nat.le_refl w.heap.size) _)
    have h_x : Blk W1 w.heap.size 30 [.int .i64 i, .int .i64 n, .int .i64 c, .int .i64 p, .int .i64 d, .int .i64 s, .int .i64 b] := by rw [hW1]; exact (blk_at (w) w.heap.size (by rfl) 30 [.int .i64 i, .int .i64 n, .int .i64 c, .int .i64 p, .int .i64 d, .int .i64 s, .int .i64 b]).keep (Below.refl (w.heap.size + 1) _) (by omega)
    rw [← hW1]
    have HB1 := Lib.hid hbel_
    have Hx1 := Lib.hid h_x
    clear hbel_ hW1  h_x
    have x_0 : W1.cell? ⟨w.heap.size, 0, none⟩ = some (.int .i64 i) := Hx1.out.cellAt (i := 0) (by simp)
    have x_1 : W1.cell? ⟨w.heap.size, 1, none⟩ = some (.int .i64 n) := Hx1.out.cellAt (i := 1) (by simp)
    have x_2 : W1.cell? ⟨w.heap.size, 2, none⟩ = some (.int .i64 c) := Hx1.out.cellAt (i := 2) (by simp)
    have x_3 : W1.cell? ⟨w.heap.size, 3, none⟩ = some (.int .i64 p) := Hx1.out.cellAt (i := 3) (by simp)
    have x_4 : W1.cell? ⟨w.heap.size, 4, none⟩ = some (.int .i64 d) := Hx1.out.cellAt (i := 4) (by simp)
    have x_5 : W1.cell? ⟨w.heap.size, 5, none⟩ = some (.int .i64 s) := Hx1.out.cellAt (i := 5) (by simp)
    have x_6 : W1.cell? ⟨w.heap.size, 6, none⟩ = some (.int .i64 b) := Hx1.out.cellAt (i := 6) (by simp)
    go_wp2_with fail
    clear x_0 x_1 x_2 x_3 x_4 x_5 x_6
    refine (H1.out _).mono ?_
    rintro y w2 ⟨rfl, hb⟩
    have HB2 := Lib.hid (below_transG HB1.out hb)
    have Hx2 := Lib.hid (Hx1.out.keep hb Hx1.out.lt)
    clear hb
    have x_0 : w2.cell? ⟨w.heap.size, 0, none⟩ = some (.int .i64 i) := Hx2.out.cellAt (i := 0) (by simp)
    have x_1 : w2.cell? ⟨w.heap.size, 1, none⟩ = some (.int .i64 n) := Hx2.out.cellAt (i := 1) (by simp)
    have x_2 : w2.cell? ⟨w.heap.size, 2, none⟩ = some (.int .i64 c) := Hx2.out.cellAt (i := 2) (by simp)
    have x_3 : w2.cell? ⟨w.heap.size, 3, none⟩ = some (.int .i64 p) := Hx2.out.cellAt (i := 3) (by simp)
    have x_4 : w2.cell? ⟨w.heap.size, 4, none⟩ = some (.int .i64 d) := Hx2.out.cellAt (i := 4) (by simp)
    have x_5 : w2.cell? ⟨w.heap.size, 5, none⟩ = some (.int .i64 s) := Hx2.out.cellAt (i := 5) (by simp)
    have x_6 : w2.cell? ⟨w.heap.size, 6, none⟩ = some (.int .i64 b) := Hx2.out.cellAt (i := 6) (by simp)
    go_wp2_with fail
    clear x_0 x_1 x_2 x_3 x_4 x_5 x_6
    refine (HSL.out i n c p d s b _).mono ?_
    rintro y w3 ⟨rfl, hb⟩
    have HB3 := Lib.hid (below_transG HB2.out hb)
    have Hx3 := Lib.hid (Hx2.out.keep hb Hx2.out.lt)
    clear hb
    go_wp2_with fail
    refine (H2.out _).mono ?_
    rintro y w4 ⟨rfl, hb⟩
    have HB4 := Lib.hid (below_transG HB3.out hb)
    have Hx4 := Lib.hid (Hx3.out.keep hb Hx3.out.lt)
    clear hb
    have x_0 : w4.cell? ⟨w.heap.size, 0, none⟩ = some (.int .i64 i) := Hx4.out.cellAt (i := 0) (by simp)
    have x_1 : w4.cell? ⟨w.heap.size, 1, none⟩ = some (.int .i64 n) := Hx4.out.cellAt (i := 1) (by simp)
    have x_2 : w4.cell? ⟨w.heap.size, 2, none⟩ = some (.int .i64 c) := Hx4.out.cellAt (i := 2) (by simp)
    have x_3 : w4.cell? ⟨w.heap.size, 3, none⟩ = some (.int .i64 p) := Hx4.out.cellAt (i := 3) (by simp)
    have x_4 : w4.cell? ⟨w.heap.size, 4, none⟩ = some (.int .i64 d) := Hx4.out.cellAt (i := 4) (by simp)
    have x_5 : w4.cell? ⟨w.heap.size, 5, none⟩ = some (.int .i64 s) := Hx4.out.cellAt (i := 5) (by simp)
    have x_6 : w4.cell? ⟨w.heap.size, 6, none⟩ = some (.int .i64 b) := Hx4.out.cellAt (i := 6) (by simp)
    go_wp2_with fail
    clear x_0 x_1 x_2 x_3 x_4 x_5 x_6
    refine (H3.out _).mono ?_
    rintro y w5 ⟨rfl, hb⟩
    have HB5 := Lib.hid (below_transG HB4.out hb)
    have Hx5 := Lib.hid (Hx4.out.keep hb Hx4.out.lt)
    clear hb
    have x_0 : w5.cell? ⟨w.heap.size, 0, none⟩ = some (.int .i64 i) := Hx5.out.cellAt (i := 0) (by simp)
    have x_1 : w5.cell? ⟨w.heap.size, 1, none⟩ = some (.int .i64 n) := Hx5.out.cellAt (i := 1) (by simp)
    have x_2 : w5.cell? ⟨w.heap.size, 2, none⟩ = some (.int .i64 c) := Hx5.out.cellAt (i := 2) (by simp)
    have x_3 : w5.cell? ⟨w.heap.size, 3, none⟩ = some (.int .i64 p) := Hx5.out.cellAt (i := 3) (by simp)
    have x_4 : w5.cell? ⟨w.heap.size, 4, none⟩ = some (.int .i64 d) := Hx5.out.cellAt (i := 4) (by simp)
    have x_5 : w5.cell? ⟨w.heap.size, 5, none⟩ = some (.int .i64 s) := Hx5.out.cellAt (i := 5) (by simp)
    have x_6 : w5.cell? ⟨w.heap.size, 6, none⟩ = some (.int .i64 b) := Hx5.out.cellAt (i := 6) (by simp)
    go_wp2_with fail
    clear x_0 x_1 x_2 x_3 x_4 x_5 x_6
    refine (H4.out _).mono ?_
    rintro y w6 ⟨rfl, hb⟩
    have HB6 := Lib.hid (below_transG HB5.out hb)
    have Hx6 := Lib.hid (Hx5.out.keep hb Hx5.out.lt)
    clear hb
    go_wp2_with fail
    go_ret
    exact ⟨rfl, HB6.out⟩
  cases g5
  · simp only [if_true, if_false, Bool.true_eq_false]
    go_enter Tryd.func14, Tryd.ntmps14
    go_upto_region 1 with fail
    obtain ⟨W1, hW1⟩ : ∃ W, W = (w.alloc (.cells #[.int .i64 i, .int .i64 n, .int .i64 c, .int .i64 p, .int .i64 d, .int .i64 s, .int .i64 b] 30)) := ⟨_, rfl⟩
    have hbel_ : Below w.heap.size w W1 := by rw [hW1]; exact ((Below.refl w.heap.size w).alloc (Nat.le_refl w.heap.size) _)
    have h_x : Blk W1 w.heap.size 30 [.int .i64 i, .int .i64 n, .int .i64 c, .int .i64 p, .int .i64 d, .int .i64 s, .int .i64 b] := by rw [hW1]; exact (blk_at (w) w.heap.size (by rfl) 30 [.int .i64 i, .int .i64 n, .int .i64 c, .int .i64 p, .int .i64 d, .int .i64 s, .int .i64 b]).keep (Below.refl (w.heap.size + 1) _) (by omega)
    rw [← hW1]
    have HB1 := Lib.hid hbel_
    have Hx1 := Lib.hid h_x
    clear hbel_ hW1  h_x
    have x_0 : W1.cell? ⟨w.heap.size, 0, none⟩ = some (.int .i64 i) := Hx1.out.cellAt (i := 0) (by simp)
    have x_1 : W1.cell? ⟨w.heap.size, 1, none⟩ = some (.int .i64 n) := Hx1.out.cellAt (i := 1) (by simp)
    have x_2 : W1.cell? ⟨w.heap.size, 2, none⟩ = some (.int .i64 c) := Hx1.out.cellAt (i := 2) (by simp)
    have x_3 : W1.cell? ⟨w.heap.size, 3, none⟩ = some (.int .i64 p) := Hx1.out.cellAt (i := 3) (by simp)
    have x_4 : W1.cell? ⟨w.heap.size, 4, none⟩ = some (.int .i64 d) := Hx1.out.cellAt (i := 4) (by simp)
    have x_5 : W1.cell? ⟨w.heap.size, 5, none⟩ = some (.int .i64 s) := Hx1.out.cellAt (i := 5) (by simp)
    have x_6 : W1.cell? ⟨w.heap.size, 6, none⟩ = some (.int .i64 b) := Hx1.out.cellAt (i := 6) (by simp)
    go_wp2_with fail
    clear x_0 x_1 x_2 x_3 x_4 x_5 x_6
    refine (H1.out _).mono ?_
    rintro y w2 ⟨rfl, hb⟩
    have HB2 := Lib.hid (below_transG HB1.out hb)
    have Hx2 := Lib.hid (Hx1.out.keep hb Hx1.out.lt)
    clear hb
    have x_0 : w2.cell? ⟨w.heap.size, 0, none⟩ = some (.int .i64 i) := Hx2.out.cellAt (i := 0) (by simp)
    have x_1 : w2.cell? ⟨w.heap.size, 1, none⟩ = some (.int .i64 n) := Hx2.out.cellAt (i := 1) (by simp)
    have x_2 : w2.cell? ⟨w.heap.size, 2, none⟩ = some (.int .i64 c) := Hx2.out.cellAt (i := 2) (by simp)
    have x_3 : w2.cell? ⟨w.heap.size, 3, none⟩ = some (.int .i64 p) := Hx2.out.cellAt (i := 3) (by simp)
    have x_4 : w2.cell? ⟨w.heap.size, 4, none⟩ = some (.int .i64 d) := Hx2.out.cellAt (i := 4) (by simp)
    have x_5 : w2.cell? ⟨w.heap.size, 5, none⟩ = some (.int .i64 s) := Hx2.out.cellAt (i := 5) (by simp)
    have x_6 : w2.cell? ⟨w.heap.size, 6, none⟩ = some (.int .i64 b) := Hx2.out.cellAt (i := 6) (by simp)
    go_wp2_with fail
    clear x_0 x_1 x_2 x_3 x_4 x_5 x_6
    refine (HSL.out i n c p d s b _).mono ?_
    rintro y w3 ⟨rfl, hb⟩
    have HB3 := Lib.hid (below_transG HB2.out hb)
    have Hx3 := Lib.hid (Hx2.out.keep hb Hx2.out.lt)
    clear hb
    go_wp2_with fail
    refine (H2.out _).mono ?_
    rintro y w4 ⟨rfl, hb⟩
    have HB4 := Lib.hid (below_transG HB3.out hb)
    have Hx4 := Lib.hid (Hx3.out.keep hb Hx3.out.lt)
    clear hb
    have x_0 : w4.cell? ⟨w.heap.size, 0, none⟩ = some (.int .i64 i) := Hx4.out.cellAt (i := 0) (by simp)
    have x_1 : w4.cell? ⟨w.heap.size, 1, none⟩ = some (.int .i64 n) := Hx4.out.cellAt (i := 1) (by simp)
    have x_2 : w4.cell? ⟨w.heap.size, 2, none⟩ = some (.int .i64 c) := Hx4.out.cellAt (i := 2) (by simp)
    have x_3 : w4.cell? ⟨w.heap.size, 3, none⟩ = some (.int .i64 p) := Hx4.out.cellAt (i := 3) (by simp)
    have x_4 : w4.cell? ⟨w.heap.size, 4, none⟩ = some (.int .i64 d) := Hx4.out.cellAt (i := 4) (by simp)
    have x_5 : w4.cell? ⟨w.heap.size, 5, none⟩ = some (.int .i64 s) := Hx4.out.cellAt (i := 5) (by simp)
    have x_6 : w4.cell? ⟨w.heap.size, 6, none⟩ = some (.int .i64 b) := Hx4.out.cellAt (i := 6) (by simp)
    go_wp2_with fail
    clear x_0 x_1 x_2 x_3 x_4 x_5 x_6
    refine (H3.out _).mono ?_
    rintro y w5 ⟨rfl, hb⟩
    have HB5 := Lib.hid (below_transG HB4.out hb)
    have Hx5 := Lib.hid (Hx4.out.keep hb Hx4.out.lt)
    clear hb
    have x_0 : w5.cell? ⟨w.heap.size, 0, none⟩ = some (.int .i64 i) := Hx5.out.cellAt (i := 0) (by simp)
    have x_1 : w5.cell? ⟨w.heap.size, 1, none⟩ = some (.int .i64 n) := Hx5.out.cellAt (i := 1) (by simp)
    have x_2 : w5.cell? ⟨w.heap.size, 2, none⟩ = some (.int .i64 c) := Hx5.out.cellAt (i := 2) (by simp)
    have x_3 : w5.cell? ⟨w.heap.size, 3, none⟩ = some (.int .i64 p) := Hx5.out.cellAt (i := 3) (by simp)
    have x_4 : w5.cell? ⟨w.heap.size, 4, none⟩ = some (.int .i64 d) := Hx5.out.cellAt (i := 4) (by simp)
    have x_5 : w5.cell? ⟨w.heap.size, 5, none⟩ = some (.int .i64 s) := Hx5.out.cellAt (i := 5) (by simp)
    have x_6 : w5.cell? ⟨w.heap.size, 6, none⟩ = some (.int .i64 b) := Hx5.out.cellAt (i := 6) (by simp)
    go_wp2_with fail
    clear x_0 x_1 x_2 x_3 x_4 x_5 x_6
    refine (H4.out _).mono ?_
    rintro y w6 ⟨rfl, hb⟩
    have HB6 := Lib.hid (below_transG HB5.out hb)
    have Hx6 := Lib.hid (Hx5.out.keep hb Hx5.out.lt)
    clear hb
    have x_0 : w6.cell? ⟨w.heap.size, 0, none⟩ = some (.int .i64 i) := Hx6.out.cellAt (i := 0) (by simp)
    have x_1 : w6.cell? ⟨w.heap.size, 1, none⟩ = some (.int .i64 n) := Hx6.out.cellAt (i := 1) (by simp)
    have x_2 : w6.cell? ⟨w.heap.size, 2, none⟩ = some (.int .i64 c) := Hx6.out.cellAt (i := 2) (by simp)
    have x_3 : w6.cell? ⟨w.heap.size, 3, none⟩ = some (.int .i64 p) := Hx6.out.cellAt (i := 3) (by simp)
    have x_4 : w6.cell? ⟨w.heap.size, 4, none⟩ = some (.int .i64 d) := Hx6.out.cellAt (i := 4) (by simp)
    have x_5 : w6.cell? ⟨w.heap.size, 5, none⟩ = some (.int .i64 s) := Hx6.out.cellAt (i := 5) (by simp)
    have x_6 : w6.cell? ⟨w.heap.size, 6, none⟩ = some (.int .i64 b) := Hx6.out.cellAt (i := 6) (by simp)
    go_wp2_with fail
    clear x_0 x_1 x_2 x_3 x_4 x_5 x_6
    refine (H5.out _).mono ?_
    rintro y w7 ⟨rfl, hb⟩
    have HB7 := Lib.hid (below_transG HB6.out hb)
    have Hx7 := Lib.hid (Hx6.out.keep hb Hx6.out.lt)
    clear hb
    go_wp2_with fail
    go_ret
    exact ⟨rfl, HB7.out⟩
  simp only [if_false, Bool.true_eq_false]
  go_enter Tryd.func14, Tryd.ntmps14
  go_upto_region 1 with fail
  obtain ⟨W1, hW1⟩ : ∃ W, W = (w.alloc (.cells #[.int .i64 i, .int .i64 n, .int .i64 c, .int .i64 p, .int .i64 d, .int .i64 s, .int .i64 b] 30)) := ⟨_, rfl⟩
  have hbel_ : Below w.heap.size w W1 := by rw [hW1]; exact ((Below.refl w.heap.size w).alloc (Nat.le_refl w.heap.size) _)
  have h_x : Blk W1 w.heap.size 30 [.int .i64 i, .int .i64 n, .int .i64 c, .int .i64 p, .int .i64 d, .int .i64 s, .int .i64 b] := by rw [hW1]; exact (blk_at (w) w.heap.size (by rfl) 30 [.int .i64 i, .int .i64 n, .int .i64 c, .int .i64 p, .int .i64 d, .int .i64 s, .int .i64 b]).keep (Below.refl (w.heap.size + 1) _) (by omega)
  rw [← hW1]
  have HB1 := Lib.hid hbel_
  have Hx1 := Lib.hid h_x
  clear hbel_ hW1  h_x
  have x_0 : W1.cell? ⟨w.heap.size, 0, none⟩ = some (.int .i64 i) := Hx1.out.cellAt (i := 0) (by simp)
  have x_1 : W1.cell? ⟨w.heap.size, 1, none⟩ = some (.int .i64 n) := Hx1.out.cellAt (i := 1) (by simp)
  have x_2 : W1.cell? ⟨w.heap.size, 2, none⟩ = some (.int .i64 c) := Hx1.out.cellAt (i := 2) (by simp)
  have x_3 : W1.cell? ⟨w.heap.size, 3, none⟩ = some (.int .i64 p) := Hx1.out.cellAt (i := 3) (by simp)
  have x_4 : W1.cell? ⟨w.heap.size, 4, none⟩ = some (.int .i64 d) := Hx1.out.cellAt (i := 4) (by simp)
  have x_5 : W1.cell? ⟨w.heap.size, 5, none⟩ = some (.int .i64 s) := Hx1.out.cellAt (i := 5) (by simp)
  have x_6 : W1.cell? ⟨w.heap.size, 6, none⟩ = some (.int .i64 b) := Hx1.out.cellAt (i := 6) (by simp)
  go_wp2_with fail
  clear x_0 x_1 x_2 x_3 x_4 x_5 x_6
  refine (H1.out _).mono ?_
  rintro y w2 ⟨rfl, hb⟩
  have HB2 := Lib.hid (below_transG HB1.out hb)
  have Hx2 := Lib.hid (Hx1.out.keep hb Hx1.out.lt)
  clear hb
  have x_0 : w2.cell? ⟨w.heap.size, 0, none⟩ = some (.int .i64 i) := Hx2.out.cellAt (i := 0) (by simp)
  have x_1 : w2.cell? ⟨w.heap.size, 1, none⟩ = some (.int .i64 n) := Hx2.out.cellAt (i := 1) (by simp)
  have x_2 : w2.cell? ⟨w.heap.size, 2, none⟩ = some (.int .i64 c) := Hx2.out.cellAt (i := 2) (by simp)
  have x_3 : w2.cell? ⟨w.heap.size, 3, none⟩ = some (.int .i64 p) := Hx2.out.cellAt (i := 3) (by simp)
  have x_4 : w2.cell? ⟨w.heap.size, 4, none⟩ = some (.int .i64 d) := Hx2.out.cellAt (i := 4) (by simp)
  have x_5 : w2.cell? ⟨w.heap.size, 5, none⟩ = some (.int .i64 s) := Hx2.out.cellAt (i := 5) (by simp)
  have x_6 : w2.cell? ⟨w.heap.size, 6, none⟩ = some (.int .i64 b) := Hx2.out.cellAt (i := 6) (by simp)
  go_wp2_with fail
  clear x_0 x_1 x_2 x_3 x_4 x_5 x_6
  refine (HSL.out i n c p d s b _).mono ?_
  rintro y w3 ⟨rfl, hb⟩
  have HB3 := Lib.hid (below_transG HB2.out hb)
  have Hx3 := Lib.hid (Hx2.out.keep hb Hx2.out.lt)
  clear hb
  go_wp2_with fail
  refine (H2.out _).mono ?_
  rintro y w4 ⟨rfl, hb⟩
  have HB4 := Lib.hid (below_transG HB3.out hb)
  have Hx4 := Lib.hid (Hx3.out.keep hb Hx3.out.lt)
  clear hb
  have x_0 : w4.cell? ⟨w.heap.size, 0, none⟩ = some (.int .i64 i) := Hx4.out.cellAt (i := 0) (by simp)
  have x_1 : w4.cell? ⟨w.heap.size, 1, none⟩ = some (.int .i64 n) := Hx4.out.cellAt (i := 1) (by simp)
  have x_2 : w4.cell? ⟨w.heap.size, 2, none⟩ = some (.int .i64 c) := Hx4.out.cellAt (i := 2) (by simp)
  have x_3 : w4.cell? ⟨w.heap.size, 3, none⟩ = some (.int .i64 p) := Hx4.out.cellAt (i := 3) (by simp)
  have x_4 : w4.cell? ⟨w.heap.size, 4, none⟩ = some (.int .i64 d) := Hx4.out.cellAt (i := 4) (by simp)
  have x_5 : w4.cell? ⟨w.heap.size, 5, none⟩ = some (.int .i64 s) := Hx4.out.cellAt (i := 5) (by simp)
  have x_6 : w4.cell? ⟨w.heap.size, 6, none⟩ = some (.int .i64 b) := Hx4.out.cellAt (i := 6) (by simp)
  go_wp2_with fail
  clear x_0 x_1 x_2 x_3 x_4 x_5 x_6
  refine (H3.out _).mono ?_
  rintro y w5 ⟨rfl, hb⟩
  have HB5 := Lib.hid (below_transG HB4.out hb)
  have Hx5 := Lib.hid (Hx4.out.keep hb Hx4.out.lt)
  clear hb
  have x_0 : w5.cell? ⟨w.heap.size, 0, none⟩ = some (.int .i64 i) := Hx5.out.cellAt (i := 0) (by simp)
  have x_1 : w5.cell? ⟨w.heap.size, 1, none⟩ = some (.int .i64 n) := Hx5.out.cellAt (i := 1) (by simp)
  have x_2 : w5.cell? ⟨w.heap.size, 2, none⟩ = some (.int .i64 c) := Hx5.out.cellAt (i := 2) (by simp)
  have x_3 : w5.cell? ⟨w.heap.size, 3, none⟩ = some (.int .i64 p) := Hx5.out.cellAt (i := 3) (by simp)
  have x_4 : w5.cell? ⟨w.heap.size, 4, none⟩ = some (.int .i64 d) := Hx5.out.cellAt (i := 4) (by simp)
  have x_5 : w5.cell? ⟨w.heap.size, 5, none⟩ = some (.int .i64 s) := Hx5.out.cellAt (i := 5) (by simp)
  have x_6 : w5.cell? ⟨w.heap.size, 6, none⟩ = some (.int .i64 b) := Hx5.out.cellAt (i := 6) (by simp)
  go_wp2_with fail
  clear x_0 x_1 x_2 x_3 x_4 x_5 x_6
  refine (H4.out _).mono ?_
  rintro y w6 ⟨rfl, hb⟩
  have HB6 := Lib.hid (below_transG HB5.out hb)
  have Hx6 := Lib.hid (Hx5.out.keep hb Hx5.out.lt)
  clear hb
  have x_0 : w6.cell? ⟨w.heap.size, 0, none⟩ = some (.int .i64 i) := Hx6.out.cellAt (i := 0) (by simp)
  have x_1 : w6.cell? ⟨w.heap.size, 1, none⟩ = some (.int .i64 n) := Hx6.out.cellAt (i := 1) (by simp)
  have x_2 : w6.cell? ⟨w.heap.size, 2, none⟩ = some (.int .i64 c) := Hx6.out.cellAt (i := 2) (by simp)
  have x_3 : w6.cell? ⟨w.heap.size, 3, none⟩ = some (.int .i64 p) := Hx6.out.cellAt (i := 3) (by simp)
  have x_4 : w6.cell? ⟨w.heap.size, 4, none⟩ = some (.int .i64 d) := Hx6.out.cellAt (i := 4) (by simp)
  have x_5 : w6.cell? ⟨w.heap.size, 5, none⟩ = some (.int .i64 s) := Hx6.out.cellAt (i := 5) (by simp)
  have x_6 : w6.cell? ⟨w.heap.size, 6, none⟩ = some (.int .i64 b) := Hx6.out.cellAt (i := 6) (by simp)
  go_wp2_with fail
  clear x_0 x_1 x_2 x_3 x_4 x_5 x_6
  refine (H5.out _).mono ?_
  rintro y w7 ⟨rfl, hb⟩
  have HB7 := Lib.hid (below_transG HB6.out hb)
  have Hx7 := Lib.hid (Hx6.out.keep hb Hx6.out.lt)
  clear hb
  go_wp2_with fail
  go_ret
  exact ⟨rfl, HB7.out⟩
set_option maxHeartbeats 2000000 in
theorem rsright_any (i n c p d s b : Int) (w : World) : Calls Tryd.prog 15 #[.agg #[.int .i64 i, .int .i64 n, .int .i64 c, .int .i64 p, .int .i64 d, .int .i64 s, .int .i64 b]] w fun y w' => y = .returned (.int .i64 (rightS i n c p d s b)) ∧ Below w.heap.size w w' := by
  have HSL := Lib.hid rslabel_any
  have hc : (c < 1 ∧ rightL c 0 0 0 = false) ∨ (1 ≤ c ∧ 3 < c ∧ rightL c 0 0 0 = false) ∨ (1 ≤ c ∧ c ≤ 3 ∧ rightL c 0 0 0 = true) := by
    unfold rightL
    simp only [decide_eq_false_iff_not, decide_eq_true_eq]
    omega
  have h3 := inS_cases p 1 1073741824
  have h4 := inS_cases d 1 p
  have h5 := inS_cases b 0 8
  obtain ⟨g2, hg2⟩ : ∃ g, g = rightL c s i n := ⟨_, rfl⟩
  have H2 := Lib.hid (fun u => r23right_any c s i n u)
  unfold rightS
  rw [← hg2] at H2 ⊢
  clear hg2
  rcases hc with ⟨q1, e1⟩ | ⟨q1, q2, e1⟩ | ⟨a1, b1, e1⟩
  · rw [e1]; clear e1 h3 h4 h5
    rw [if_pos rfl]
    go_enter Tryd.func15, Tryd.ntmps15
    go_upto_region 1 with fail
    obtain ⟨W1, hW1⟩ : ∃ W, W = (w.alloc (.cells #[.int .i64 i, .int .i64 n, .int .i64 c, .int .i64 p, .int .i64 d, .int .i64 s, .int .i64 b] 30)) := ⟨_, rfl⟩
    have hbel_ : Below w.heap.size w W1 := by rw [hW1]; exact ((Below.refl w.heap.size w).alloc (Nat.le_refl w.heap.size) _)
    have h_x : Blk W1 w.heap.size 30 [.int .i64 i, .int .i64 n, .int .i64 c, .int .i64 p, .int .i64 d, .int .i64 s, .int .i64 b] := by rw [hW1]; exact (blk_at (w) w.heap.size (by rfl) 30 [.int .i64 i, .int .i64 n, .int .i64 c, .int .i64 p, .int .i64 d, .int .i64 s, .int .i64 b]).keep (Below.refl (w.heap.size + 1) _) (by omega)
    rw [← hW1]
    have HB1 := Lib.hid hbel_
    have Hx1 := Lib.hid h_x
    clear hbel_ hW1  h_x
    have x_0 : W1.cell? ⟨w.heap.size, 0, none⟩ = some (.int .i64 i) := Hx1.out.cellAt (i := 0) (by simp)
    have x_1 : W1.cell? ⟨w.heap.size, 1, none⟩ = some (.int .i64 n) := Hx1.out.cellAt (i := 1) (by simp)
    have x_2 : W1.cell? ⟨w.heap.size, 2, none⟩ = some (.int .i64 c) := Hx1.out.cellAt (i := 2) (by simp)
    have x_3 : W1.cell? ⟨w.heap.size, 3, none⟩ = some (.int .i64 p) := Hx1.out.cellAt (i := 3) (by simp)
    have x_4 : W1.cell? ⟨w.heap.size, 4, none⟩ = some (.int .i64 d) := Hx1.out.cellAt (i := 4) (by simp)
    have x_5 : W1.cell? ⟨w.heap.size, 5, none⟩ = some (.int .i64 s) := Hx1.out.cellAt (i := 5) (by simp)
    have x_6 : W1.cell? ⟨w.heap.size, 6, none⟩ = some (.int .i64 b) := Hx1.out.cellAt (i := 6) (by simp)
    go_wp2_with fail
    go_ret
    exact ⟨rfl, HB1.out⟩
  · rw [e1]; clear e1 h3 h4 h5
    have q3 : ¬ c < 1 := by omega
    rw [if_pos rfl]
    go_enter Tryd.func15, Tryd.ntmps15
    go_upto_region 1 with fail
    obtain ⟨W1, hW1⟩ : ∃ W, W = (w.alloc (.cells #[.int .i64 i, .int .i64 n, .int .i64 c, .int .i64 p, .int .i64 d, .int .i64 s, .int .i64 b] 30)) := ⟨_, rfl⟩
    have hbel_ : Below w.heap.size w W1 := by rw [hW1]; exact ((Below.refl w.heap.size w).alloc (Nat.le_refl w.heap.size) _)
    have h_x : Blk W1 w.heap.size 30 [.int .i64 i, .int .i64 n, .int .i64 c, .int .i64 p, .int .i64 d, .int .i64 s, .int .i64 b] := by rw [hW1]; exact (blk_at (w) w.heap.size (by rfl) 30 [.int .i64 i, .int .i64 n, .int .i64 c, .int .i64 p, .int .i64 d, .int .i64 s, .int .i64 b]).keep (Below.refl (w.heap.size + 1) _) (by omega)
    rw [← hW1]
    have HB1 := Lib.hid hbel_
    have Hx1 := Lib.hid h_x
    clear hbel_ hW1  h_x
    have x_0 : W1.cell? ⟨w.heap.size, 0, none⟩ = some (.int .i64 i) := Hx1.out.cellAt (i := 0) (by simp)
    have x_1 : W1.cell? ⟨w.heap.size, 1, none⟩ = some (.int .i64 n) := Hx1.out.cellAt (i := 1) (by simp)
    have x_2 : W1.cell? ⟨w.heap.size, 2, none⟩ = some (.int .i64 c) := Hx1.out.cellAt (i := 2) (by simp)
    have x_3 : W1.cell? ⟨w.heap.size, 3, none⟩ = some (.int .i64 p) := Hx1.out.cellAt (i := 3) (by simp)
    have x_4 : W1.cell? ⟨w.heap.size, 4, none⟩ = some (.int .i64 d) := Hx1.out.cellAt (i := 4) (by simp)
    have x_5 : W1.cell? ⟨w.heap.size, 5, none⟩ = some (.int .i64 s) := Hx1.out.cellAt (i := 5) (by simp)
    have x_6 : W1.cell? ⟨w.heap.size, 6, none⟩ = some (.int .i64 b) := Hx1.out.cellAt (i := 6) (by simp)
    go_wp2_with fail
    go_ret
    exact ⟨rfl, HB1.out⟩
  rw [e1]; clear e1
  rw [if_neg (by decide)]
  have r1 : ¬ c < 1 := by omega
  have s1 : ¬ 3 < c := by omega
  cases g2
  · rw [if_pos rfl]
    clear h3 h4 h5
    go_enter Tryd.func15, Tryd.ntmps15
    go_upto_region 1 with fail
    obtain ⟨W1, hW1⟩ : ∃ W, W = (w.alloc (.cells #[.int .i64 i, .int .i64 n, .int .i64 c, .int .i64 p, .int .i64 d, .int .i64 s, .int .i64 b] 30)) := ⟨_, rfl⟩
    have hbel_ : Below w.heap.size w W1 := by rw [hW1]; exact ((Below.refl w.heap.size w).alloc (Nat.le_refl w.heap.size) _)
    have h_x : Blk W1 w.heap.size 30 [.int .i64 i, .int .i64 n, .int .i64 c, .int .i64 p, .int .i64 d, .int .i64 s, .int .i64 b] := by rw [hW1]; exact (blk_at (w) w.heap.size (by rfl) 30 [.int .i64 i, .int .i64 n, .int .i64 c, .int .i64 p, .int .i64 d, .int .i64 s, .int .i64 b]).keep (Below.refl (w.heap.size + 1) _) (by omega)
    rw [← hW1]
    have HB1 := Lib.hid hbel_
    have Hx1 := Lib.hid h_x
    clear hbel_ hW1  h_x
    have x_0 : W1.cell? ⟨w.heap.size, 0, none⟩ = some (.int .i64 i) := Hx1.out.cellAt (i := 0) (by simp)
    have x_1 : W1.cell? ⟨w.heap.size, 1, none⟩ = some (.int .i64 n) := Hx1.out.cellAt (i := 1) (by simp)
    have x_2 : W1.cell? ⟨w.heap.size, 2, none⟩ = some (.int .i64 c) := Hx1.out.cellAt (i := 2) (by simp)
    have x_3 : W1.cell? ⟨w.heap.size, 3, none⟩ = some (.int .i64 p) := Hx1.out.cellAt (i := 3) (by simp)
    have x_4 : W1.cell? ⟨w.heap.size, 4, none⟩ = some (.int .i64 d) := Hx1.out.cellAt (i := 4) (by simp)
    have x_5 : W1.cell? ⟨w.heap.size, 5, none⟩ = some (.int .i64 s) := Hx1.out.cellAt (i := 5) (by simp)
    have x_6 : W1.cell? ⟨w.heap.size, 6, none⟩ = some (.int .i64 b) := Hx1.out.cellAt (i := 6) (by simp)
    go_wp2_with fail
    clear x_0 x_1 x_2 x_3 x_4 x_5 x_6
    refine (HSL.out i n c p d s b _).mono ?_
    rintro y w2 ⟨rfl, hb⟩
    have HB2 := Lib.hid (below_transG HB1.out hb)
    have Hx2 := Lib.hid (Hx1.out.keep hb Hx1.out.lt)
    clear hb
    go_wp2_with fail
    refine (H2.out _).mono ?_
    rintro y w3 ⟨rfl, hb⟩
    have HB3 := Lib.hid (below_transG HB2.out hb)
    have Hx3 := Lib.hid (Hx2.out.keep hb Hx2.out.lt)
    clear hb
    have x_0 : w3.cell? ⟨w.heap.size, 0, none⟩ = some (.int .i64 i) := Hx3.out.cellAt (i := 0) (by simp)
    have x_1 : w3.cell? ⟨w.heap.size, 1, none⟩ = some (.int .i64 n) := Hx3.out.cellAt (i := 1) (by simp)
    have x_2 : w3.cell? ⟨w.heap.size, 2, none⟩ = some (.int .i64 c) := Hx3.out.cellAt (i := 2) (by simp)
    have x_3 : w3.cell? ⟨w.heap.size, 3, none⟩ = some (.int .i64 p) := Hx3.out.cellAt (i := 3) (by simp)
    have x_4 : w3.cell? ⟨w.heap.size, 4, none⟩ = some (.int .i64 d) := Hx3.out.cellAt (i := 4) (by simp)
    have x_5 : w3.cell? ⟨w.heap.size, 5, none⟩ = some (.int .i64 s) := Hx3.out.cellAt (i := 5) (by simp)
    have x_6 : w3.cell? ⟨w.heap.size, 6, none⟩ = some (.int .i64 b) := Hx3.out.cellAt (i := 6) (by simp)
    go_wp2_with fail
    go_ret
    exact ⟨rfl, HB3.out⟩
  rw [if_neg (by decide)]
  rcases h3 with ⟨q1, e1⟩ | ⟨q1, q2, e1⟩ | ⟨a2, b2, e1⟩
  · rw [e1]; clear e1 h4 h5
    rw [if_pos rfl]
    go_enter Tryd.func15, Tryd.ntmps15
    go_upto_region 1 with fail
    obtain ⟨W1, hW1⟩ : ∃ W, W = (w.alloc (.cells #[.int .i64 i, .int .i64 n, .int .i64 c, .int .i64 p, .int .i64 d, .int .i64 s, .int .i64 b] 30)) := ⟨_, rfl⟩
    have hbel_ : Below w.heap.size w W1 := by rw [hW1]; exact ((Below.refl w.heap.size w).alloc (Nat.le_refl w.heap.size) _)
    have h_x : Blk W1 w.heap.size 30 [.int .i64 i, .int .i64 n, .int .i64 c, .int .i64 p, .int .i64 d, .int .i64 s, .int .i64 b] := by rw [hW1]; exact (blk_at (w) w.heap.size (by rfl) 30 [.int .i64 i, .int .i64 n, .int .i64 c, .int .i64 p, .int .i64 d, .int .i64 s, .int .i64 b]).keep (Below.refl (w.heap.size + 1) _) (by omega)
    rw [← hW1]
    have HB1 := Lib.hid hbel_
    have Hx1 := Lib.hid h_x
    clear hbel_ hW1  h_x
    have x_0 : W1.cell? ⟨w.heap.size, 0, none⟩ = some (.int .i64 i) := Hx1.out.cellAt (i := 0) (by simp)
    have x_1 : W1.cell? ⟨w.heap.size, 1, none⟩ = some (.int .i64 n) := Hx1.out.cellAt (i := 1) (by simp)
    have x_2 : W1.cell? ⟨w.heap.size, 2, none⟩ = some (.int .i64 c) := Hx1.out.cellAt (i := 2) (by simp)
    have x_3 : W1.cell? ⟨w.heap.size, 3, none⟩ = some (.int .i64 p) := Hx1.out.cellAt (i := 3) (by simp)
    have x_4 : W1.cell? ⟨w.heap.size, 4, none⟩ = some (.int .i64 d) := Hx1.out.cellAt (i := 4) (by simp)
    have x_5 : W1.cell? ⟨w.heap.size, 5, none⟩ = some (.int .i64 s) := Hx1.out.cellAt (i := 5) (by simp)
    have x_6 : W1.cell? ⟨w.heap.size, 6, none⟩ = some (.int .i64 b) := Hx1.out.cellAt (i := 6) (by simp)
    go_wp2_with fail
    clear x_0 x_1 x_2 x_3 x_4 x_5 x_6
    refine (HSL.out i n c p d s b _).mono ?_
    rintro y w2 ⟨rfl, hb⟩
    have HB2 := Lib.hid (below_transG HB1.out hb)
    have Hx2 := Lib.hid (Hx1.out.keep hb Hx1.out.lt)
    clear hb
    go_wp2_with fail
    refine (H2.out _).mono ?_
    rintro y w3 ⟨rfl, hb⟩
    have HB3 := Lib.hid (below_transG HB2.out hb)
    have Hx3 := Lib.hid (Hx2.out.keep hb Hx2.out.lt)
    clear hb
    have x_0 : w3.cell? ⟨w.heap.size, 0, none⟩ = some (.int .i64 i) := Hx3.out.cellAt (i := 0) (by simp)
    have x_1 : w3.cell? ⟨w.heap.size, 1, none⟩ = some (.int .i64 n) := Hx3.out.cellAt (i := 1) (by simp)
    have x_2 : w3.cell? ⟨w.heap.size, 2, none⟩ = some (.int .i64 c) := Hx3.out.cellAt (i := 2) (by simp)
    have x_3 : w3.cell? ⟨w.heap.size, 3, none⟩ = some (.int .i64 p) := Hx3.out.cellAt (i := 3) (by simp)
    have x_4 : w3.cell? ⟨w.heap.size, 4, none⟩ = some (.int .i64 d) := Hx3.out.cellAt (i := 4) (by simp)
    have x_5 : w3.cell? ⟨w.heap.size, 5, none⟩ = some (.int .i64 s) := Hx3.out.cellAt (i := 5) (by simp)
    have x_6 : w3.cell? ⟨w.heap.size, 6, none⟩ = some (.int .i64 b) := Hx3.out.cellAt (i := 6) (by simp)
    go_wp2_with fail
    go_ret
    exact ⟨rfl, HB3.out⟩
  · rw [e1]; clear e1 h4 h5
    have q3 : ¬ p < 1 := by omega
    rw [if_pos rfl]
    go_enter Tryd.func15, Tryd.ntmps15
    go_upto_region 1 with fail
    obtain ⟨W1, hW1⟩ : ∃ W, W = (w.alloc (.cells #[.int .i64 i, .int .i64 n, .int .i64 c, .int .i64 p, .int .i64 d, .int .i64 s, .int .i64 b] 30)) := ⟨_, rfl⟩
    have hbel_ : Below w.heap.size w W1 := by rw [hW1]; exact ((Below.refl w.heap.size w).alloc (Nat.le_refl w.heap.size) _)
    have h_x : Blk W1 w.heap.size 30 [.int .i64 i, .int .i64 n, .int .i64 c, .int .i64 p, .int .i64 d, .int .i64 s, .int .i64 b] := by rw [hW1]; exact (blk_at (w) w.heap.size (by rfl) 30 [.int .i64 i, .int .i64 n, .int .i64 c, .int .i64 p, .int .i64 d, .int .i64 s, .int .i64 b]).keep (Below.refl (w.heap.size + 1) _) (by omega)
    rw [← hW1]
    have HB1 := Lib.hid hbel_
    have Hx1 := Lib.hid h_x
    clear hbel_ hW1  h_x
    have x_0 : W1.cell? ⟨w.heap.size, 0, none⟩ = some (.int .i64 i) := Hx1.out.cellAt (i := 0) (by simp)
    have x_1 : W1.cell? ⟨w.heap.size, 1, none⟩ = some (.int .i64 n) := Hx1.out.cellAt (i := 1) (by simp)
    have x_2 : W1.cell? ⟨w.heap.size, 2, none⟩ = some (.int .i64 c) := Hx1.out.cellAt (i := 2) (by simp)
    have x_3 : W1.cell? ⟨w.heap.size, 3, none⟩ = some (.int .i64 p) := Hx1.out.cellAt (i := 3) (by simp)
    have x_4 : W1.cell? ⟨w.heap.size, 4, none⟩ = some (.int .i64 d) := Hx1.out.cellAt (i := 4) (by simp)
    have x_5 : W1.cell? ⟨w.heap.size, 5, none⟩ = some (.int .i64 s) := Hx1.out.cellAt (i := 5) (by simp)
    have x_6 : W1.cell? ⟨w.heap.size, 6, none⟩ = some (.int .i64 b) := Hx1.out.cellAt (i := 6) (by simp)
    go_wp2_with fail
    clear x_0 x_1 x_2 x_3 x_4 x_5 x_6
    refine (HSL.out i n c p d s b _).mono ?_
    rintro y w2 ⟨rfl, hb⟩
    have HB2 := Lib.hid (below_transG HB1.out hb)
    have Hx2 := Lib.hid (Hx1.out.keep hb Hx1.out.lt)
    clear hb
    go_wp2_with fail
    refine (H2.out _).mono ?_
    rintro y w3 ⟨rfl, hb⟩
    have HB3 := Lib.hid (below_transG HB2.out hb)
    have Hx3 := Lib.hid (Hx2.out.keep hb Hx2.out.lt)
    clear hb
    have x_0 : w3.cell? ⟨w.heap.size, 0, none⟩ = some (.int .i64 i) := Hx3.out.cellAt (i := 0) (by simp)
    have x_1 : w3.cell? ⟨w.heap.size, 1, none⟩ = some (.int .i64 n) := Hx3.out.cellAt (i := 1) (by simp)
    have x_2 : w3.cell? ⟨w.heap.size, 2, none⟩ = some (.int .i64 c) := Hx3.out.cellAt (i := 2) (by simp)
    have x_3 : w3.cell? ⟨w.heap.size, 3, none⟩ = some (.int .i64 p) := Hx3.out.cellAt (i := 3) (by simp)
    have x_4 : w3.cell? ⟨w.heap.size, 4, none⟩ = some (.int .i64 d) := Hx3.out.cellAt (i := 4) (by simp)
    have x_5 : w3.cell? ⟨w.heap.size, 5, none⟩ = some (.int .i64 s) := Hx3.out.cellAt (i := 5) (by simp)
    have x_6 : w3.cell? ⟨w.heap.size, 6, none⟩ = some (.int .i64 b) := Hx3.out.cellAt (i := 6) (by simp)
    go_wp2_with fail
    go_ret
    exact ⟨rfl, HB3.out⟩
  rw [e1]; clear e1
  rw [if_neg (by decide)]
  have r2 : ¬ p < 1 := by omega
  have s2 : ¬ 1073741824 < p := by omega
  rcases h4 with ⟨q1, e1⟩ | ⟨q1, q2, e1⟩ | ⟨a3, b3, e1⟩
  · rw [e1]; clear e1 h5
    rw [if_pos rfl]
    go_enter Tryd.func15, Tryd.ntmps15
    go_upto_region 1 with fail
    obtain ⟨W1, hW1⟩ : ∃ W, W = (w.alloc (.cells #[.int .i64 i, .int .i64 n, .int .i64 c, .int .i64 p, .int .i64 d, .int .i64 s, .int .i64 b] 30)) := ⟨_, rfl⟩
    have hbel_ : Below w.heap.size w W1 := by rw [hW1]; exact ((Below.refl w.heap.size w).alloc (Nat.le_refl w.heap.size) _)
    have h_x : Blk W1 w.heap.size 30 [.int .i64 i, .int .i64 n, .int .i64 c, .int .i64 p, .int .i64 d, .int .i64 s, .int .i64 b] := by rw [hW1]; exact (blk_at (w) w.heap.size (by rfl) 30 [.int .i64 i, .int .i64 n, .int .i64 c, .int .i64 p, .int .i64 d, .int .i64 s, .int .i64 b]).keep (Below.refl (w.heap.size + 1) _) (by omega)
    rw [← hW1]
    have HB1 := Lib.hid hbel_
    have Hx1 := Lib.hid h_x
    clear hbel_ hW1  h_x
    have x_0 : W1.cell? ⟨w.heap.size, 0, none⟩ = some (.int .i64 i) := Hx1.out.cellAt (i := 0) (by simp)
    have x_1 : W1.cell? ⟨w.heap.size, 1, none⟩ = some (.int .i64 n) := Hx1.out.cellAt (i := 1) (by simp)
    have x_2 : W1.cell? ⟨w.heap.size, 2, none⟩ = some (.int .i64 c) := Hx1.out.cellAt (i := 2) (by simp)
    have x_3 : W1.cell? ⟨w.heap.size, 3, none⟩ = some (.int .i64 p) := Hx1.out.cellAt (i := 3) (by simp)
    have x_4 : W1.cell? ⟨w.heap.size, 4, none⟩ = some (.int .i64 d) := Hx1.out.cellAt (i := 4) (by simp)
    have x_5 : W1.cell? ⟨w.heap.size, 5, none⟩ = some (.int .i64 s) := Hx1.out.cellAt (i := 5) (by simp)
    have x_6 : W1.cell? ⟨w.heap.size, 6, none⟩ = some (.int .i64 b) := Hx1.out.cellAt (i := 6) (by simp)
    go_wp2_with fail
    clear x_0 x_1 x_2 x_3 x_4 x_5 x_6
    refine (HSL.out i n c p d s b _).mono ?_
    rintro y w2 ⟨rfl, hb⟩
    have HB2 := Lib.hid (below_transG HB1.out hb)
    have Hx2 := Lib.hid (Hx1.out.keep hb Hx1.out.lt)
    clear hb
    go_wp2_with fail
    refine (H2.out _).mono ?_
    rintro y w3 ⟨rfl, hb⟩
    have HB3 := Lib.hid (below_transG HB2.out hb)
    have Hx3 := Lib.hid (Hx2.out.keep hb Hx2.out.lt)
    clear hb
    have x_0 : w3.cell? ⟨w.heap.size, 0, none⟩ = some (.int .i64 i) := Hx3.out.cellAt (i := 0) (by simp)
    have x_1 : w3.cell? ⟨w.heap.size, 1, none⟩ = some (.int .i64 n) := Hx3.out.cellAt (i := 1) (by simp)
    have x_2 : w3.cell? ⟨w.heap.size, 2, none⟩ = some (.int .i64 c) := Hx3.out.cellAt (i := 2) (by simp)
    have x_3 : w3.cell? ⟨w.heap.size, 3, none⟩ = some (.int .i64 p) := Hx3.out.cellAt (i := 3) (by simp)
    have x_4 : w3.cell? ⟨w.heap.size, 4, none⟩ = some (.int .i64 d) := Hx3.out.cellAt (i := 4) (by simp)
    have x_5 : w3.cell? ⟨w.heap.size, 5, none⟩ = some (.int .i64 s) := Hx3.out.cellAt (i := 5) (by simp)
    have x_6 : w3.cell? ⟨w.heap.size, 6, none⟩ = some (.int .i64 b) := Hx3.out.cellAt (i := 6) (by simp)
    go_wp2_with fail
    go_ret
    exact ⟨rfl, HB3.out⟩
  · rw [e1]; clear e1 h5
    have q3 : ¬ d < 1 := by omega
    rw [if_pos rfl]
    go_enter Tryd.func15, Tryd.ntmps15
    go_upto_region 1 with fail
    obtain ⟨W1, hW1⟩ : ∃ W, W = (w.alloc (.cells #[.int .i64 i, .int .i64 n, .int .i64 c, .int .i64 p, .int .i64 d, .int .i64 s, .int .i64 b] 30)) := ⟨_, rfl⟩
    have hbel_ : Below w.heap.size w W1 := by rw [hW1]; exact ((Below.refl w.heap.size w).alloc (Nat.le_refl w.heap.size) _)
    have h_x : Blk W1 w.heap.size 30 [.int .i64 i, .int .i64 n, .int .i64 c, .int .i64 p, .int .i64 d, .int .i64 s, .int .i64 b] := by rw [hW1]; exact (blk_at (w) w.heap.size (by rfl) 30 [.int .i64 i, .int .i64 n, .int .i64 c, .int .i64 p, .int .i64 d, .int .i64 s, .int .i64 b]).keep (Below.refl (w.heap.size + 1) _) (by omega)
    rw [← hW1]
    have HB1 := Lib.hid hbel_
    have Hx1 := Lib.hid h_x
    clear hbel_ hW1  h_x
    have x_0 : W1.cell? ⟨w.heap.size, 0, none⟩ = some (.int .i64 i) := Hx1.out.cellAt (i := 0) (by simp)
    have x_1 : W1.cell? ⟨w.heap.size, 1, none⟩ = some (.int .i64 n) := Hx1.out.cellAt (i := 1) (by simp)
    have x_2 : W1.cell? ⟨w.heap.size, 2, none⟩ = some (.int .i64 c) := Hx1.out.cellAt (i := 2) (by simp)
    have x_3 : W1.cell? ⟨w.heap.size, 3, none⟩ = some (.int .i64 p) := Hx1.out.cellAt (i := 3) (by simp)
    have x_4 : W1.cell? ⟨w.heap.size, 4, none⟩ = some (.int .i64 d) := Hx1.out.cellAt (i := 4) (by simp)
    have x_5 : W1.cell? ⟨w.heap.size, 5, none⟩ = some (.int .i64 s) := Hx1.out.cellAt (i := 5) (by simp)
    have x_6 : W1.cell? ⟨w.heap.size, 6, none⟩ = some (.int .i64 b) := Hx1.out.cellAt (i := 6) (by simp)
    go_wp2_with fail
    clear x_0 x_1 x_2 x_3 x_4 x_5 x_6
    refine (HSL.out i n c p d s b _).mono ?_
    rintro y w2 ⟨rfl, hb⟩
    have HB2 := Lib.hid (below_transG HB1.out hb)
    have Hx2 := Lib.hid (Hx1.out.keep hb Hx1.out.lt)
    clear hb
    go_wp2_with fail
    refine (H2.out _).mono ?_
    rintro y w3 ⟨rfl, hb⟩
    have HB3 := Lib.hid (below_transG HB2.out hb)
    have Hx3 := Lib.hid (Hx2.out.keep hb Hx2.out.lt)
    clear hb
    have x_0 : w3.cell? ⟨w.heap.size, 0, none⟩ = some (.int .i64 i) := Hx3.out.cellAt (i := 0) (by simp)
    have x_1 : w3.cell? ⟨w.heap.size, 1, none⟩ = some (.int .i64 n) := Hx3.out.cellAt (i := 1) (by simp)
    have x_2 : w3.cell? ⟨w.heap.size, 2, none⟩ = some (.int .i64 c) := Hx3.out.cellAt (i := 2) (by simp)
    have x_3 : w3.cell? ⟨w.heap.size, 3, none⟩ = some (.int .i64 p) := Hx3.out.cellAt (i := 3) (by simp)
    have x_4 : w3.cell? ⟨w.heap.size, 4, none⟩ = some (.int .i64 d) := Hx3.out.cellAt (i := 4) (by simp)
    have x_5 : w3.cell? ⟨w.heap.size, 5, none⟩ = some (.int .i64 s) := Hx3.out.cellAt (i := 5) (by simp)
    have x_6 : w3.cell? ⟨w.heap.size, 6, none⟩ = some (.int .i64 b) := Hx3.out.cellAt (i := 6) (by simp)
    go_wp2_with fail
    go_ret
    exact ⟨rfl, HB3.out⟩
  rw [e1]; clear e1
  rw [if_neg (by decide)]
  have r3 : ¬ d < 1 := by omega
  have s3 : ¬ p < d := by omega
  rcases h5 with ⟨q1, e1⟩ | ⟨q1, q2, e1⟩ | ⟨a4, b4, e1⟩
  · rw [e1]; clear e1 
    rw [if_pos rfl]
    go_enter Tryd.func15, Tryd.ntmps15
    go_upto_region 1 with fail
    obtain ⟨W1, hW1⟩ : ∃ W, W = (w.alloc (.cells #[.int .i64 i, .int .i64 n, .int .i64 c, .int .i64 p, .int .i64 d, .int .i64 s, .int .i64 b] 30)) := ⟨_, rfl⟩
    have hbel_ : Below w.heap.size w W1 := by rw [hW1]; exact ((Below.refl w.heap.size w).alloc (Nat.le_refl w.heap.size) _)
    have h_x : Blk W1 w.heap.size 30 [.int .i64 i, .int .i64 n, .int .i64 c, .int .i64 p, .int .i64 d, .int .i64 s, .int .i64 b] := by rw [hW1]; exact (blk_at (w) w.heap.size (by rfl) 30 [.int .i64 i, .int .i64 n, .int .i64 c, .int .i64 p, .int .i64 d, .int .i64 s, .int .i64 b]).keep (Below.refl (w.heap.size + 1) _) (by omega)
    rw [← hW1]
    have HB1 := Lib.hid hbel_
    have Hx1 := Lib.hid h_x
    clear hbel_ hW1  h_x
    have x_0 : W1.cell? ⟨w.heap.size, 0, none⟩ = some (.int .i64 i) := Hx1.out.cellAt (i := 0) (by simp)
    have x_1 : W1.cell? ⟨w.heap.size, 1, none⟩ = some (.int .i64 n) := Hx1.out.cellAt (i := 1) (by simp)
    have x_2 : W1.cell? ⟨w.heap.size, 2, none⟩ = some (.int .i64 c) := Hx1.out.cellAt (i := 2) (by simp)
    have x_3 : W1.cell? ⟨w.heap.size, 3, none⟩ = some (.int .i64 p) := Hx1.out.cellAt (i := 3) (by simp)
    have x_4 : W1.cell? ⟨w.heap.size, 4, none⟩ = some (.int .i64 d) := Hx1.out.cellAt (i := 4) (by simp)
    have x_5 : W1.cell? ⟨w.heap.size, 5, none⟩ = some (.int .i64 s) := Hx1.out.cellAt (i := 5) (by simp)
    have x_6 : W1.cell? ⟨w.heap.size, 6, none⟩ = some (.int .i64 b) := Hx1.out.cellAt (i := 6) (by simp)
    go_wp2_with fail
    clear x_0 x_1 x_2 x_3 x_4 x_5 x_6
    refine (HSL.out i n c p d s b _).mono ?_
    rintro y w2 ⟨rfl, hb⟩
    have HB2 := Lib.hid (below_transG HB1.out hb)
    have Hx2 := Lib.hid (Hx1.out.keep hb Hx1.out.lt)
    clear hb
    go_wp2_with fail
    refine (H2.out _).mono ?_
    rintro y w3 ⟨rfl, hb⟩
    have HB3 := Lib.hid (below_transG HB2.out hb)
    have Hx3 := Lib.hid (Hx2.out.keep hb Hx2.out.lt)
    clear hb
    have x_0 : w3.cell? ⟨w.heap.size, 0, none⟩ = some (.int .i64 i) := Hx3.out.cellAt (i := 0) (by simp)
    have x_1 : w3.cell? ⟨w.heap.size, 1, none⟩ = some (.int .i64 n) := Hx3.out.cellAt (i := 1) (by simp)
    have x_2 : w3.cell? ⟨w.heap.size, 2, none⟩ = some (.int .i64 c) := Hx3.out.cellAt (i := 2) (by simp)
    have x_3 : w3.cell? ⟨w.heap.size, 3, none⟩ = some (.int .i64 p) := Hx3.out.cellAt (i := 3) (by simp)
    have x_4 : w3.cell? ⟨w.heap.size, 4, none⟩ = some (.int .i64 d) := Hx3.out.cellAt (i := 4) (by simp)
    have x_5 : w3.cell? ⟨w.heap.size, 5, none⟩ = some (.int .i64 s) := Hx3.out.cellAt (i := 5) (by simp)
    have x_6 : w3.cell? ⟨w.heap.size, 6, none⟩ = some (.int .i64 b) := Hx3.out.cellAt (i := 6) (by simp)
    go_wp2_with fail
    go_ret
    exact ⟨rfl, HB3.out⟩
  · rw [e1]; clear e1 
    have q3 : ¬ b < 0 := by omega
    rw [if_pos rfl]
    go_enter Tryd.func15, Tryd.ntmps15
    go_upto_region 1 with fail
    obtain ⟨W1, hW1⟩ : ∃ W, W = (w.alloc (.cells #[.int .i64 i, .int .i64 n, .int .i64 c, .int .i64 p, .int .i64 d, .int .i64 s, .int .i64 b] 30)) := ⟨_, rfl⟩
    have hbel_ : Below w.heap.size w W1 := by rw [hW1]; exact ((Below.refl w.heap.size w).alloc (Nat.le_refl w.heap.size) _)
    have h_x : Blk W1 w.heap.size 30 [.int .i64 i, .int .i64 n, .int .i64 c, .int .i64 p, .int .i64 d, .int .i64 s, .int .i64 b] := by rw [hW1]; exact (blk_at (w) w.heap.size (by rfl) 30 [.int .i64 i, .int .i64 n, .int .i64 c, .int .i64 p, .int .i64 d, .int .i64 s, .int .i64 b]).keep (Below.refl (w.heap.size + 1) _) (by omega)
    rw [← hW1]
    have HB1 := Lib.hid hbel_
    have Hx1 := Lib.hid h_x
    clear hbel_ hW1  h_x
    have x_0 : W1.cell? ⟨w.heap.size, 0, none⟩ = some (.int .i64 i) := Hx1.out.cellAt (i := 0) (by simp)
    have x_1 : W1.cell? ⟨w.heap.size, 1, none⟩ = some (.int .i64 n) := Hx1.out.cellAt (i := 1) (by simp)
    have x_2 : W1.cell? ⟨w.heap.size, 2, none⟩ = some (.int .i64 c) := Hx1.out.cellAt (i := 2) (by simp)
    have x_3 : W1.cell? ⟨w.heap.size, 3, none⟩ = some (.int .i64 p) := Hx1.out.cellAt (i := 3) (by simp)
    have x_4 : W1.cell? ⟨w.heap.size, 4, none⟩ = some (.int .i64 d) := Hx1.out.cellAt (i := 4) (by simp)
    have x_5 : W1.cell? ⟨w.heap.size, 5, none⟩ = some (.int .i64 s) := Hx1.out.cellAt (i := 5) (by simp)
    have x_6 : W1.cell? ⟨w.heap.size, 6, none⟩ = some (.int .i64 b) := Hx1.out.cellAt (i := 6) (by simp)
    go_wp2_with fail
    clear x_0 x_1 x_2 x_3 x_4 x_5 x_6
    refine (HSL.out i n c p d s b _).mono ?_
    rintro y w2 ⟨rfl, hb⟩
    have HB2 := Lib.hid (below_transG HB1.out hb)
    have Hx2 := Lib.hid (Hx1.out.keep hb Hx1.out.lt)
    clear hb
    go_wp2_with fail
    refine (H2.out _).mono ?_
    rintro y w3 ⟨rfl, hb⟩
    have HB3 := Lib.hid (below_transG HB2.out hb)
    have Hx3 := Lib.hid (Hx2.out.keep hb Hx2.out.lt)
    clear hb
    have x_0 : w3.cell? ⟨w.heap.size, 0, none⟩ = some (.int .i64 i) := Hx3.out.cellAt (i := 0) (by simp)
    have x_1 : w3.cell? ⟨w.heap.size, 1, none⟩ = some (.int .i64 n) := Hx3.out.cellAt (i := 1) (by simp)
    have x_2 : w3.cell? ⟨w.heap.size, 2, none⟩ = some (.int .i64 c) := Hx3.out.cellAt (i := 2) (by simp)
    have x_3 : w3.cell? ⟨w.heap.size, 3, none⟩ = some (.int .i64 p) := Hx3.out.cellAt (i := 3) (by simp)
    have x_4 : w3.cell? ⟨w.heap.size, 4, none⟩ = some (.int .i64 d) := Hx3.out.cellAt (i := 4) (by simp)
    have x_5 : w3.cell? ⟨w.heap.size, 5, none⟩ = some (.int .i64 s) := Hx3.out.cellAt (i := 5) (by simp)
    have x_6 : w3.cell? ⟨w.heap.size, 6, none⟩ = some (.int .i64 b) := Hx3.out.cellAt (i := 6) (by simp)
    go_wp2_with fail
    go_ret
    exact ⟨rfl, HB3.out⟩
  rw [e1]; clear e1
  rw [if_neg (by decide)]
  have r4 : ¬ b < 0 := by omega
  have s4 : ¬ 8 < b := by omega
  go_enter Tryd.func15, Tryd.ntmps15
  go_upto_region 1 with fail
  obtain ⟨W1, hW1⟩ : ∃ W, W = (w.alloc (.cells #[.int .i64 i, .int .i64 n, .int .i64 c, .int .i64 p, .int .i64 d, .int .i64 s, .int .i64 b] 30)) := ⟨_, rfl⟩
  have hbel_ : Below w.heap.size w W1 := by rw [hW1]; exact ((Below.refl w.heap.size w).alloc (Nat.le_refl w.heap.size) _)
  have h_x : Blk W1 w.heap.size 30 [.int .i64 i, .int .i64 n, .int .i64 c, .int .i64 p, .int .i64 d, .int .i64 s, .int .i64 b] := by rw [hW1]; exact (blk_at (w) w.heap.size (by rfl) 30 [.int .i64 i, .int .i64 n, .int .i64 c, .int .i64 p, .int .i64 d, .int .i64 s, .int .i64 b]).keep (Below.refl (w.heap.size + 1) _) (by omega)
  rw [← hW1]
  have HB1 := Lib.hid hbel_
  have Hx1 := Lib.hid h_x
  clear hbel_ hW1  h_x
  have x_0 : W1.cell? ⟨w.heap.size, 0, none⟩ = some (.int .i64 i) := Hx1.out.cellAt (i := 0) (by simp)
  have x_1 : W1.cell? ⟨w.heap.size, 1, none⟩ = some (.int .i64 n) := Hx1.out.cellAt (i := 1) (by simp)
  have x_2 : W1.cell? ⟨w.heap.size, 2, none⟩ = some (.int .i64 c) := Hx1.out.cellAt (i := 2) (by simp)
  have x_3 : W1.cell? ⟨w.heap.size, 3, none⟩ = some (.int .i64 p) := Hx1.out.cellAt (i := 3) (by simp)
  have x_4 : W1.cell? ⟨w.heap.size, 4, none⟩ = some (.int .i64 d) := Hx1.out.cellAt (i := 4) (by simp)
  have x_5 : W1.cell? ⟨w.heap.size, 5, none⟩ = some (.int .i64 s) := Hx1.out.cellAt (i := 5) (by simp)
  have x_6 : W1.cell? ⟨w.heap.size, 6, none⟩ = some (.int .i64 b) := Hx1.out.cellAt (i := 6) (by simp)
  go_wp2_with fail
  clear x_0 x_1 x_2 x_3 x_4 x_5 x_6
  refine (HSL.out i n c p d s b _).mono ?_
  rintro y w2 ⟨rfl, hb⟩
  have HB2 := Lib.hid (below_transG HB1.out hb)
  have Hx2 := Lib.hid (Hx1.out.keep hb Hx1.out.lt)
  clear hb
  go_wp2_with fail
  refine (H2.out _).mono ?_
  rintro y w3 ⟨rfl, hb⟩
  have HB3 := Lib.hid (below_transG HB2.out hb)
  have Hx3 := Lib.hid (Hx2.out.keep hb Hx2.out.lt)
  clear hb
  have x_0 : w3.cell? ⟨w.heap.size, 0, none⟩ = some (.int .i64 i) := Hx3.out.cellAt (i := 0) (by simp)
  have x_1 : w3.cell? ⟨w.heap.size, 1, none⟩ = some (.int .i64 n) := Hx3.out.cellAt (i := 1) (by simp)
  have x_2 : w3.cell? ⟨w.heap.size, 2, none⟩ = some (.int .i64 c) := Hx3.out.cellAt (i := 2) (by simp)
  have x_3 : w3.cell? ⟨w.heap.size, 3, none⟩ = some (.int .i64 p) := Hx3.out.cellAt (i := 3) (by simp)
  have x_4 : w3.cell? ⟨w.heap.size, 4, none⟩ = some (.int .i64 d) := Hx3.out.cellAt (i := 4) (by simp)
  have x_5 : w3.cell? ⟨w.heap.size, 5, none⟩ = some (.int .i64 s) := Hx3.out.cellAt (i := 5) (by simp)
  have x_6 : w3.cell? ⟨w.heap.size, 6, none⟩ = some (.int .i64 b) := Hx3.out.cellAt (i := 6) (by simp)
  go_wp2_with fail
  go_ret
  exact ⟨rfl, HB3.out⟩
set_option maxHeartbeats 2000000 in
theorem scost_any (i n c p d s b : Int) (w : World) (h0 : 0 < w.heap.size) (hT : Tab w) : Calls Tryd.prog 16 #[.agg #[.int .i64 i, .int .i64 n, .int .i64 c, .int .i64 p, .int .i64 d, .int .i64 s, .int .i64 b]] w fun y w' => y = .returned (.int .i64 (costS i n c p d s b)) ∧ Below w.heap.size w w' := by
  have HR := Lib.hid (fun u => sright_any i n c p d s b u)
  have HTX := Lib.hid (show ∀ x, Below w.heap.size w x → 0 < x.heap.size ∧ Tab x from fun x hx => ⟨Nat.lt_of_lt_of_le h0 hx.size, hT.on hx h0⟩)
  clear hT h0
  obtain ⟨e, he⟩ : ∃ e, e = rightS i n c p d s b := ⟨_, rfl⟩
  rw [← he] at HR
  by_cases h : e = 0
  · have hb := mostF_in b (rightS_b (he.symm.trans h))
    have hv : costS i n c p d s b = mostF true b + 3 := by unfold costS; rw [← he, if_pos h]
    rw [hv]
    subst h
    have HM := Lib.hid (fun u a1 a2 => most_any7 true b u a1 a2)
    obtain ⟨m, hm⟩ : ∃ m, m = mostF true b := ⟨_, rfl⟩
    rw [← hm] at HM hb ⊢
    have HV := Lib.hid (show m + 3 = wrap64 (m + 3) by unfold wrap64; omega)
    have hw1 : 0 ≤ m := hb.1
    have hw2 : m ≤ 1000 := hb.2
    clear he hv hm hb
    go_enter Tryd.func16, Tryd.ntmps16
    go_upto_region 1 with fail
    obtain ⟨W1, hW1⟩ : ∃ W, W = (w.alloc (.cells #[.int .i64 i, .int .i64 n, .int .i64 c, .int .i64 p, .int .i64 d, .int .i64 s, .int .i64 b] 30)) := ⟨_, rfl⟩
    have hbel_ : Below w.heap.size w W1 := by rw [hW1]; exact ((Below.refl w.heap.size w).alloc (Nat.le_refl w.heap.size) _)
    have h_x : Blk W1 w.heap.size 30 [.int .i64 i, .int .i64 n, .int .i64 c, .int .i64 p, .int .i64 d, .int .i64 s, .int .i64 b] := by rw [hW1]; exact (blk_at (w) w.heap.size (by rfl) 30 [.int .i64 i, .int .i64 n, .int .i64 c, .int .i64 p, .int .i64 d, .int .i64 s, .int .i64 b]).keep (Below.refl (w.heap.size + 1) _) (by omega)
    rw [← hW1]
    have HB1 := Lib.hid hbel_
    have Hx1 := Lib.hid h_x
    clear hbel_ hW1  h_x
    have x_0 : W1.cell? ⟨w.heap.size, 0, none⟩ = some (.int .i64 i) := Hx1.out.cellAt (i := 0) (by simp)
    have x_1 : W1.cell? ⟨w.heap.size, 1, none⟩ = some (.int .i64 n) := Hx1.out.cellAt (i := 1) (by simp)
    have x_2 : W1.cell? ⟨w.heap.size, 2, none⟩ = some (.int .i64 c) := Hx1.out.cellAt (i := 2) (by simp)
    have x_3 : W1.cell? ⟨w.heap.size, 3, none⟩ = some (.int .i64 p) := Hx1.out.cellAt (i := 3) (by simp)
    have x_4 : W1.cell? ⟨w.heap.size, 4, none⟩ = some (.int .i64 d) := Hx1.out.cellAt (i := 4) (by simp)
    have x_5 : W1.cell? ⟨w.heap.size, 5, none⟩ = some (.int .i64 s) := Hx1.out.cellAt (i := 5) (by simp)
    have x_6 : W1.cell? ⟨w.heap.size, 6, none⟩ = some (.int .i64 b) := Hx1.out.cellAt (i := 6) (by simp)
    go_wp2_with fail
    clear x_0 x_1 x_2 x_3 x_4 x_5 x_6
    refine (HR.out _).mono ?_
    rintro y w2 ⟨rfl, hb⟩
    have HB2 := Lib.hid (below_transG HB1.out hb)
    have Hx2 := Lib.hid (Hx1.out.keep hb Hx1.out.lt)
    clear hb
    have x_0 : w2.cell? ⟨w.heap.size, 0, none⟩ = some (.int .i64 i) := Hx2.out.cellAt (i := 0) (by simp)
    have x_1 : w2.cell? ⟨w.heap.size, 1, none⟩ = some (.int .i64 n) := Hx2.out.cellAt (i := 1) (by simp)
    have x_2 : w2.cell? ⟨w.heap.size, 2, none⟩ = some (.int .i64 c) := Hx2.out.cellAt (i := 2) (by simp)
    have x_3 : w2.cell? ⟨w.heap.size, 3, none⟩ = some (.int .i64 p) := Hx2.out.cellAt (i := 3) (by simp)
    have x_4 : w2.cell? ⟨w.heap.size, 4, none⟩ = some (.int .i64 d) := Hx2.out.cellAt (i := 4) (by simp)
    have x_5 : w2.cell? ⟨w.heap.size, 5, none⟩ = some (.int .i64 s) := Hx2.out.cellAt (i := 5) (by simp)
    have x_6 : w2.cell? ⟨w.heap.size, 6, none⟩ = some (.int .i64 b) := Hx2.out.cellAt (i := 6) (by simp)
    go_wp2_with fail
    clear x_0 x_1 x_2 x_3 x_4 x_5 x_6
    refine (HM.out _ (HTX.out _ HB2.out).1 (HTX.out _ HB2.out).2).mono ?_
    rintro y w3 ⟨rfl, hb⟩
    have HB3 := Lib.hid (below_transG HB2.out hb)
    have Hx3 := Lib.hid (Hx2.out.keep hb Hx2.out.lt)
    clear hb
    go_wp2_with fail
    go_ret
    exact ⟨by first | rfl | (congr 2; omega), HB3.out⟩
  · have hv : costS i n c p d s b = 0 := by unfold costS; rw [← he, if_neg h]
    rw [hv]
    have k0 : (e == 0) = false := by rw [beq_eq_false_iff_ne]; exact h
    clear he hv h
    go_enter Tryd.func16, Tryd.ntmps16
    go_upto_region 1 with fail
    obtain ⟨W1, hW1⟩ : ∃ W, W = (w.alloc (.cells #[.int .i64 i, .int .i64 n, .int .i64 c, .int .i64 p, .int .i64 d, .int .i64 s, .int .i64 b] 30)) := ⟨_, rfl⟩
    have hbel_ : Below w.heap.size w W1 := by rw [hW1]; exact ((Below.refl w.heap.size w).alloc (Nat.le_refl w.heap.size) _)
    have h_x : Blk W1 w.heap.size 30 [.int .i64 i, .int .i64 n, .int .i64 c, .int .i64 p, .int .i64 d, .int .i64 s, .int .i64 b] := by rw [hW1]; exact (blk_at (w) w.heap.size (by rfl) 30 [.int .i64 i, .int .i64 n, .int .i64 c, .int .i64 p, .int .i64 d, .int .i64 s, .int .i64 b]).keep (Below.refl (w.heap.size + 1) _) (by omega)
    rw [← hW1]
    have HB1 := Lib.hid hbel_
    have Hx1 := Lib.hid h_x
    clear hbel_ hW1  h_x
    have x_0 : W1.cell? ⟨w.heap.size, 0, none⟩ = some (.int .i64 i) := Hx1.out.cellAt (i := 0) (by simp)
    have x_1 : W1.cell? ⟨w.heap.size, 1, none⟩ = some (.int .i64 n) := Hx1.out.cellAt (i := 1) (by simp)
    have x_2 : W1.cell? ⟨w.heap.size, 2, none⟩ = some (.int .i64 c) := Hx1.out.cellAt (i := 2) (by simp)
    have x_3 : W1.cell? ⟨w.heap.size, 3, none⟩ = some (.int .i64 p) := Hx1.out.cellAt (i := 3) (by simp)
    have x_4 : W1.cell? ⟨w.heap.size, 4, none⟩ = some (.int .i64 d) := Hx1.out.cellAt (i := 4) (by simp)
    have x_5 : W1.cell? ⟨w.heap.size, 5, none⟩ = some (.int .i64 s) := Hx1.out.cellAt (i := 5) (by simp)
    have x_6 : W1.cell? ⟨w.heap.size, 6, none⟩ = some (.int .i64 b) := Hx1.out.cellAt (i := 6) (by simp)
    go_wp2_with fail
    clear x_0 x_1 x_2 x_3 x_4 x_5 x_6
    refine (HR.out _).mono ?_
    rintro y w2 ⟨rfl, hb⟩
    have HB2 := Lib.hid (below_transG HB1.out hb)
    have Hx2 := Lib.hid (Hx1.out.keep hb Hx1.out.lt)
    clear hb
    go_wp2_with fail
    go_ret
    exact ⟨rfl, HB2.out⟩
set_option maxHeartbeats 2000000 in
theorem rscost_any (i n c p d s b : Int) (w : World) : Calls Tryd.prog 17 #[.agg #[.int .i64 i, .int .i64 n, .int .i64 c, .int .i64 p, .int .i64 d, .int .i64 s, .int .i64 b]] w fun y w' => y = .returned (.int .i64 (costS i n c p d s b)) ∧ Below w.heap.size w w' := by
  have HR := Lib.hid (fun u => rsright_any i n c p d s b u)
  obtain ⟨e, he⟩ : ∃ e, e = rightS i n c p d s b := ⟨_, rfl⟩
  rw [← he] at HR
  by_cases h : e = 0
  · have hb := mostF_in b (rightS_b (he.symm.trans h))
    have hv : costS i n c p d s b = mostF true b + 3 := by unfold costS; rw [← he, if_pos h]
    rw [hv]
    subst h
    have HM := Lib.hid (fun u  => refMost7_any true b u )
    obtain ⟨m, hm⟩ : ∃ m, m = mostF true b := ⟨_, rfl⟩
    rw [← hm] at HM hb ⊢
    have HV := Lib.hid (show m + 3 = wrap64 (m + 3) by unfold wrap64; omega)
    have hw1 : 0 ≤ m := hb.1
    have hw2 : m ≤ 1000 := hb.2
    clear he hv hm hb
    go_enter Tryd.func17, Tryd.ntmps17
    go_upto_region 1 with fail
    obtain ⟨W1, hW1⟩ : ∃ W, W = (w.alloc (.cells #[.int .i64 i, .int .i64 n, .int .i64 c, .int .i64 p, .int .i64 d, .int .i64 s, .int .i64 b] 30)) := ⟨_, rfl⟩
    have hbel_ : Below w.heap.size w W1 := by rw [hW1]; exact ((Below.refl w.heap.size w).alloc (Nat.le_refl w.heap.size) _)
    have h_x : Blk W1 w.heap.size 30 [.int .i64 i, .int .i64 n, .int .i64 c, .int .i64 p, .int .i64 d, .int .i64 s, .int .i64 b] := by rw [hW1]; exact (blk_at (w) w.heap.size (by rfl) 30 [.int .i64 i, .int .i64 n, .int .i64 c, .int .i64 p, .int .i64 d, .int .i64 s, .int .i64 b]).keep (Below.refl (w.heap.size + 1) _) (by omega)
    rw [← hW1]
    have HB1 := Lib.hid hbel_
    have Hx1 := Lib.hid h_x
    clear hbel_ hW1  h_x
    have x_0 : W1.cell? ⟨w.heap.size, 0, none⟩ = some (.int .i64 i) := Hx1.out.cellAt (i := 0) (by simp)
    have x_1 : W1.cell? ⟨w.heap.size, 1, none⟩ = some (.int .i64 n) := Hx1.out.cellAt (i := 1) (by simp)
    have x_2 : W1.cell? ⟨w.heap.size, 2, none⟩ = some (.int .i64 c) := Hx1.out.cellAt (i := 2) (by simp)
    have x_3 : W1.cell? ⟨w.heap.size, 3, none⟩ = some (.int .i64 p) := Hx1.out.cellAt (i := 3) (by simp)
    have x_4 : W1.cell? ⟨w.heap.size, 4, none⟩ = some (.int .i64 d) := Hx1.out.cellAt (i := 4) (by simp)
    have x_5 : W1.cell? ⟨w.heap.size, 5, none⟩ = some (.int .i64 s) := Hx1.out.cellAt (i := 5) (by simp)
    have x_6 : W1.cell? ⟨w.heap.size, 6, none⟩ = some (.int .i64 b) := Hx1.out.cellAt (i := 6) (by simp)
    go_wp2_with fail
    clear x_0 x_1 x_2 x_3 x_4 x_5 x_6
    refine (HR.out _).mono ?_
    rintro y w2 ⟨rfl, hb⟩
    have HB2 := Lib.hid (below_transG HB1.out hb)
    have Hx2 := Lib.hid (Hx1.out.keep hb Hx1.out.lt)
    clear hb
    have x_0 : w2.cell? ⟨w.heap.size, 0, none⟩ = some (.int .i64 i) := Hx2.out.cellAt (i := 0) (by simp)
    have x_1 : w2.cell? ⟨w.heap.size, 1, none⟩ = some (.int .i64 n) := Hx2.out.cellAt (i := 1) (by simp)
    have x_2 : w2.cell? ⟨w.heap.size, 2, none⟩ = some (.int .i64 c) := Hx2.out.cellAt (i := 2) (by simp)
    have x_3 : w2.cell? ⟨w.heap.size, 3, none⟩ = some (.int .i64 p) := Hx2.out.cellAt (i := 3) (by simp)
    have x_4 : w2.cell? ⟨w.heap.size, 4, none⟩ = some (.int .i64 d) := Hx2.out.cellAt (i := 4) (by simp)
    have x_5 : w2.cell? ⟨w.heap.size, 5, none⟩ = some (.int .i64 s) := Hx2.out.cellAt (i := 5) (by simp)
    have x_6 : w2.cell? ⟨w.heap.size, 6, none⟩ = some (.int .i64 b) := Hx2.out.cellAt (i := 6) (by simp)
    go_wp2_with fail
    clear x_0 x_1 x_2 x_3 x_4 x_5 x_6
    refine (HM.out _).mono ?_
    rintro y w9 ⟨rfl, rfl⟩
    go_wp2_with fail
    go_ret
    exact ⟨by first | rfl | (congr 2; omega), HB2.out⟩
  · have hv : costS i n c p d s b = 0 := by unfold costS; rw [← he, if_neg h]
    rw [hv]
    have k0 : (e == 0) = false := by rw [beq_eq_false_iff_ne]; exact h
    clear he hv h
    go_enter Tryd.func17, Tryd.ntmps17
    go_upto_region 1 with fail
    obtain ⟨W1, hW1⟩ : ∃ W, W = (w.alloc (.cells #[.int .i64 i, .int .i64 n, .int .i64 c, .int .i64 p, .int .i64 d, .int .i64 s, .int .i64 b] 30)) := ⟨_, rfl⟩
    have hbel_ : Below w.heap.size w W1 := by rw [hW1]; exact ((Below.refl w.heap.size w).alloc (Nat.le_refl w.heap.size) _)
    have h_x : Blk W1 w.heap.size 30 [.int .i64 i, .int .i64 n, .int .i64 c, .int .i64 p, .int .i64 d, .int .i64 s, .int .i64 b] := by rw [hW1]; exact (blk_at (w) w.heap.size (by rfl) 30 [.int .i64 i, .int .i64 n, .int .i64 c, .int .i64 p, .int .i64 d, .int .i64 s, .int .i64 b]).keep (Below.refl (w.heap.size + 1) _) (by omega)
    rw [← hW1]
    have HB1 := Lib.hid hbel_
    have Hx1 := Lib.hid h_x
    clear hbel_ hW1  h_x
    have x_0 : W1.cell? ⟨w.heap.size, 0, none⟩ = some (.int .i64 i) := Hx1.out.cellAt (i := 0) (by simp)
    have x_1 : W1.cell? ⟨w.heap.size, 1, none⟩ = some (.int .i64 n) := Hx1.out.cellAt (i := 1) (by simp)
    have x_2 : W1.cell? ⟨w.heap.size, 2, none⟩ = some (.int .i64 c) := Hx1.out.cellAt (i := 2) (by simp)
    have x_3 : W1.cell? ⟨w.heap.size, 3, none⟩ = some (.int .i64 p) := Hx1.out.cellAt (i := 3) (by simp)
    have x_4 : W1.cell? ⟨w.heap.size, 4, none⟩ = some (.int .i64 d) := Hx1.out.cellAt (i := 4) (by simp)
    have x_5 : W1.cell? ⟨w.heap.size, 5, none⟩ = some (.int .i64 s) := Hx1.out.cellAt (i := 5) (by simp)
    have x_6 : W1.cell? ⟨w.heap.size, 6, none⟩ = some (.int .i64 b) := Hx1.out.cellAt (i := 6) (by simp)
    go_wp2_with fail
    clear x_0 x_1 x_2 x_3 x_4 x_5 x_6
    refine (HR.out _).mono ?_
    rintro y w2 ⟨rfl, hb⟩
    have HB2 := Lib.hid (below_transG HB1.out hb)
    have Hx2 := Lib.hid (Hx1.out.keep hb Hx1.out.lt)
    clear hb
    go_wp2_with fail
    go_ret
    exact ⟨rfl, HB2.out⟩
end Go.Proofs.YtolhckahphmffaaDoor
