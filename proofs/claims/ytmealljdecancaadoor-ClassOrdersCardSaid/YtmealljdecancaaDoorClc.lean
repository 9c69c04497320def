/- The document's own answers of layer 23: a label's identifier, what an identifier says; of several labels the one that is sent first, on both sides. Conditions: none but that the arguments are of their kinds. -/
import Derived.Test.YtmealljdecancaaDoorClb
import Derived.Test.YtmealljdecancaaDoorOpl
import Derived.Test.YtmealljdecancaaDoorQui
namespace Go.Proofs.YtmealljdecancaaDoor
open Go.RowKit
theorem blk_three (w : World) (o o' : Obj) (T : TypeId) (l : List Value) : Blk (((w.alloc o).alloc o').alloc (.cells l.toArray T)) (w.heap.size + 2) T l := by
  have h := Blk.new ((w.alloc o).alloc o') T l
  rw [World.size_alloc, World.size_alloc] at h
  exact h
theorem r23id_yes (c s t n : Int) (hr : rightL c s t n = true) (w : World) : Calls Tryd.prog 10 #[.agg #[.int .i64 c, .int .i64 s, .int .i64 t, .int .i64 n]] w fun y w' => y = .returned (.tuple #[.agg #[.bool true, .int .u32 (numL c s t n)], .int .i64 0]) ∧ Below w.heap.size w w' := by
  obtain ⟨M, hM⟩ : ∃ M, M = numL c s t n := ⟨_, rfl⟩
  rw [← hM]
  have HN := Lib.hid hM
  clear hM
  have HR := Lib.hid r23right_any
  have HB := Lib.hid (show Below w.heap.size w ((w.alloc (.cells #[.int .i64 c, .int .i64 s, .int .i64 t, .int .i64 n] 24)).alloc (.cells #[.bool false, .int .u32 0] 27)) from ((Below.refl w.heap.size w).alloc (Nat.le_refl _) _).alloc (by simp) _)
  have HS := Lib.hid (show Blk ((w.alloc (.cells #[.int .i64 c, .int .i64 s, .int .i64 t, .int .i64 n] 24)).alloc (.cells #[.bool false, .int .u32 0] 27)) w.heap.size 24 [.int .i64 c, .int .i64 s, .int .i64 t, .int .i64 n] from (Blk.new w 24 [.int .i64 c, .int .i64 s, .int .i64 t, .int .i64 n]).keep ((Below.refl (w.heap.size + 1) _).alloc (by simp only [World.size_alloc]; omega) _) (by omega))
  have HO := Lib.hid (show Blk ((w.alloc (.cells #[.int .i64 c, .int .i64 s, .int .i64 t, .int .i64 n] 24)).alloc (.cells #[.bool false, .int .u32 0] 27)) (w.heap.size + 1) 27 [.bool false, .int .u32 0] from blk_second w _ 27 [.bool false, .int .u32 0])
  go_enter Tryd.func10, Tryd.ntmps10
  go_wp2_with fail
  refine (HR.out _ _ _ _ _).mono ?_
  rintro y w1 ⟨rfl, hb⟩
  have HB1 := Lib.hid (below_transG HB.out hb)
  have HS1 := Lib.hid (HS.out.keep hb HS.out.lt)
  have HO1 := Lib.hid (HO.out.keep hb HO.out.lt)
  clear hb
  have q0 : w1.cell? ⟨w.heap.size, 0, none⟩ = some (.int .i64 c) := HS1.out.cellAt (i := 0) (by simp)
  have q1 : w1.cell? ⟨w.heap.size, 1, none⟩ = some (.int .i64 s) := HS1.out.cellAt (i := 1) (by simp)
  have q2 : w1.cell? ⟨w.heap.size, 2, none⟩ = some (.int .i64 t) := HS1.out.cellAt (i := 2) (by simp)
  have q3 : w1.cell? ⟨w.heap.size, 3, none⟩ = some (.int .i64 n) := HS1.out.cellAt (i := 3) (by simp)
  have o0 : w1.cell? ⟨(w.heap.size + 1), 0, none⟩ = some (.bool false) := HO1.out.cellAt (i := 0) (by simp)
  have o1 : w1.cell? ⟨(w.heap.size + 1), 1, none⟩ = some (.int .u32 0) := HO1.out.cellAt (i := 1) (by simp)
  have f0 : w1.frozen? ⟨(w.heap.size + 1), 0, none⟩ = false := HO1.out.frozenAt 0
  have f1 : w1.frozen? ⟨(w.heap.size + 1), 1, none⟩ = false := HO1.out.frozenAt 1
  have hin := of_decide_eq_true hr
  obtain ⟨n2, hn2⟩ : ∃ z, z = c * 256 + s := ⟨_, rfl⟩
  obtain ⟨n3, hn3⟩ : ∃ z, z = n2 * 2048 + t := ⟨_, rfl⟩
  obtain ⟨n4, hn4⟩ : ∃ z, z = n3 * 32 + n := ⟨_, rfl⟩
  have en : numL c s t n = n4 * 8 := by unfold numL; omega
  have HN5 := Lib.hid (HN.out.trans en)
  have e0 : c % 4294967296 = c := by omega
  have e00 : s % 4294967296 = s := by omega
  have e01 : t % 4294967296 = t := by omega
  have e02 : n % 4294967296 = n := by omega
  have e1 : c * 256 % 4294967296 = c * 256 := by omega
  have e11 : (c * 256 + s) % 4294967296 = n2 := by omega
  have e2 : n2 * 2048 % 4294967296 = n2 * 2048 := by omega
  have e21 : (n2 * 2048 + t) % 4294967296 = n3 := by omega
  have e3 : n3 * 32 % 4294967296 = n3 * 32 := by omega
  have e31 : (n3 * 32 + n) % 4294967296 = n4 := by omega
  have e4 : n4 * 8 % 4294967296 = n4 * 8 := by omega
  clear hn2 hn3 hn4 hin en HN
  go_wp2_with fail
  obtain ⟨W, hWW⟩ : ∃ W, W = ((w1.setCell ⟨(w.heap.size + 1), 0, none⟩ (.bool true)).setCell ⟨(w.heap.size + 1), 1, none⟩ (.int .u32 (n4 * 8))) := ⟨_, rfl⟩
  rw [← hWW]
  have hRS : Blk W ((w.heap.size + 1)) 27 [.bool true, .int .u32 (n4 * 8)] := by rw [hWW]; exact (HO1.out).set [.bool true, .int .u32 (n4 * 8)] rfl
  have hb := (show Below w.heap.size w W by rw [hWW]; exact Go.below_setCells (by first | omega | simp) [.bool true, .int .u32 (n4 * 8)] 0 _ HB1.out)
  clear hWW
  have z0 : W.cell? ⟨(w.heap.size + 1), 0, none⟩ = some (.bool true) := hRS.cellAt (i := 0) (by simp)
  have z1 : W.cell? ⟨(w.heap.size + 1), 1, none⟩ = some (.int .u32 (n4 * 8)) := hRS.cellAt (i := 1) (by simp)
  exact bodyPost_ret (v := .tuple #[.agg #[.bool true, .int .u32 (n4 * 8)], .int .i64 0]) (by simp [results, Tryd.results10, go_sem, z0, z1]) rfl ⟨by rw [HN5.out], hb⟩
theorem r23id_no (c s t n : Int) (hr : rightL c s t n = false) (w : World) : Calls Tryd.prog 10 #[.agg #[.int .i64 c, .int .i64 s, .int .i64 t, .int .i64 n]] w fun y w' => y = .returned (.tuple #[.agg #[.bool false, .int .u32 0], .int .i64 1]) ∧ Below w.heap.size w w' := by
  have HR := Lib.hid r23right_any
  have HB := Lib.hid (show Below w.heap.size w ((w.alloc (.cells #[.int .i64 c, .int .i64 s, .int .i64 t, .int .i64 n] 24)).alloc (.cells #[.bool false, .int .u32 0] 27)) from ((Below.refl w.heap.size w).alloc (Nat.le_refl _) _).alloc (by simp) _)
  have HS := Lib.hid (show Blk ((w.alloc (.cells #[.int .i64 c, .int .i64 s, .int .i64 t, .int .i64 n] 24)).alloc (.cells #[.bool false, .int .u32 0] 27)) w.heap.size 24 [.int .i64 c, .int .i64 s, .int .i64 t, .int .i64 n] from (Blk.new w 24 [.int .i64 c, .int .i64 s, .int .i64 t, .int .i64 n]).keep ((Below.refl (w.heap.size + 1) _).alloc (by simp only [World.size_alloc]; omega) _) (by omega))
  have HO := Lib.hid (show Blk ((w.alloc (.cells #[.int .i64 c, .int .i64 s, .int .i64 t, .int .i64 n] 24)).alloc (.cells #[.bool false, .int .u32 0] 27)) (w.heap.size + 1) 27 [.bool false, .int .u32 0] from blk_second w _ 27 [.bool false, .int .u32 0])
  go_enter Tryd.func10, Tryd.ntmps10
  go_wp2_with fail
  refine (HR.out _ _ _ _ _).mono ?_
  rintro y w1 ⟨rfl, hb⟩
  have HB1 := Lib.hid (below_transG HB.out hb)
  have HS1 := Lib.hid (HS.out.keep hb HS.out.lt)
  have HO1 := Lib.hid (HO.out.keep hb HO.out.lt)
  clear hb
  have o0 : w1.cell? ⟨(w.heap.size + 1), 0, none⟩ = some (.bool false) := HO1.out.cellAt (i := 0) (by simp)
  have o1 : w1.cell? ⟨(w.heap.size + 1), 1, none⟩ = some (.int .u32 0) := HO1.out.cellAt (i := 1) (by simp)
  have f0 : w1.frozen? ⟨(w.heap.size + 1), 0, none⟩ = false := HO1.out.frozenAt 0
  have f1 : w1.frozen? ⟨(w.heap.size + 1), 1, none⟩ = false := HO1.out.frozenAt 1
  go_wp2_with fail
  obtain ⟨W, hWW⟩ : ∃ W, W = ((w1.setCell ⟨(w.heap.size + 1), 0, none⟩ (.bool false)).setCell ⟨(w.heap.size + 1), 1, none⟩ (.int .u32 0)) := ⟨_, rfl⟩
  rw [← hWW]
  have hRS : Blk W ((w.heap.size + 1)) 27 [.bool false, .int .u32 0] := by rw [hWW]; exact (HO1.out).set [.bool false, .int .u32 0] rfl
  have hb := (show Below w.heap.size w W by rw [hWW]; exact Go.below_setCells (by first | omega | simp) [.bool false, .int .u32 0] 0 _ HB1.out)
  clear hWW
  have z0 : W.cell? ⟨(w.heap.size + 1), 0, none⟩ = some (.bool false) := hRS.cellAt (i := 0) (by simp)
  have z1 : W.cell? ⟨(w.heap.size + 1), 1, none⟩ = some (.int .u32 0) := hRS.cellAt (i := 1) (by simp)
  exact bodyPost_ret (v := .tuple #[.agg #[.bool false, .int .u32 0], .int .i64 1]) (by simp [results, Tryd.results10, go_sem, z0, z1]) rfl ⟨rfl, hb⟩
theorem clid_any (c s t n : Int) (w : World) (h0 : 0 < w.heap.size) (hT : TabW w) : Calls Tryd.prog 9 #[.agg #[.int .i64 c, .int .i64 s, .int .i64 t, .int .i64 n]] w fun y w' => y = .returned (idV c s t n) ∧ Below w.heap.size w w' := by
  unfold idV
  cases h : rightL c s t n
  · rw [if_neg (by decide)]; exact clid_no c s t n h w
  · rw [if_pos rfl]; exact clid_yes c s t n h w h0 hT
theorem r23id_any (c s t n : Int) (w : World) : Calls Tryd.prog 10 #[.agg #[.int .i64 c, .int .i64 s, .int .i64 t, .int .i64 n]] w fun y w' => y = .returned (idV c s t n) ∧ Below w.heap.size w w' := by
  unfold idV
  cases h : rightL c s t n
  · rw [if_neg (by decide)]; exact r23id_no c s t n h w
  · rw [if_pos rfl]; exact r23id_yes c s t n h w
set_option maxRecDepth 100000 in
set_option maxHeartbeats 1000000 in
theorem r23of_any (e : Bool) (N : Nat) (hN : N < 4294967296) (w : World) : Calls Tryd.prog 12 #[.agg #[.bool e, .int .u32 (N : Int)]] w fun y w' => y = .returned (ofLV e N) ∧ Below w.heap.size w w' := by
  have HR := Lib.hid r23right_any
  unfold ofLV okI
  have hm8 : (N : Int) % 8 = ((N % 8 : Nat) : Int) := by omega
  obtain ⟨m8, h8⟩ : ∃ z, z = N % 8 := ⟨_, rfl⟩
  rw [← h8] at hm8 ⊢
  clear h8
  obtain ⟨V, hV⟩ : ∃ V, V = (if (e && decide (N < 536870912) && decide (m8 = 0) && rightL (meantC N) (meantS N) (meantT N) (meantN N)) = true then (.tuple #[.agg #[.int .i64 (meantC N), .int .i64 (meantS N), .int .i64 (meantT N), .int .i64 (meantN N)], .bool true] : Value) else .tuple #[.agg #[.int .i64 0, .int .i64 0, .int .i64 0, .int .i64 0], .bool false]) := ⟨_, rfl⟩
  rw [← hV]
  have cs : (e = false ∧ V = .tuple #[.agg #[.int .i64 0, .int .i64 0, .int .i64 0, .int .i64 0], .bool false]) ∨ (e = true ∧ (m8 ≠ 0 ∧ V = .tuple #[.agg #[.int .i64 0, .int .i64 0, .int .i64 0, .int .i64 0], .bool false] ∨ m8 = 0 ∧ (¬ N < 536870912 ∧ V = .tuple #[.agg #[.int .i64 0, .int .i64 0, .int .i64 0, .int .i64 0], .bool false] ∨ N < 536870912 ∧ (rightL (meantC N) (meantS N) (meantT N) (meantN N) = false ∧ V = .tuple #[.agg #[.int .i64 0, .int .i64 0, .int .i64 0, .int .i64 0], .bool false] ∨ rightL (meantC N) (meantS N) (meantT N) (meantN N) = true ∧ V = .tuple #[.agg #[.int .i64 (meantC N), .int .i64 (meantS N), .int .i64 (meantT N), .int .i64 (meantN N)], .bool true])))) := by
    rw [hV]
    cases e
    · exact .inl ⟨rfl, by simp⟩
    · refine .inr ⟨rfl, ?_⟩
      by_cases hb : m8 = 0
      · refine .inr ⟨hb, ?_⟩
        by_cases ha : N < 536870912
        · refine .inr ⟨ha, ?_⟩
          cases hc : rightL (meantC N) (meantS N) (meantT N) (meantN N)
          · exact .inl ⟨rfl, by simp⟩
          · exact .inr ⟨rfl, by simp [ha, hb]⟩
        · exact .inl ⟨ha, by simp [ha]⟩
      · exact .inl ⟨hb, by simp [hb]⟩
  clear hV
  rcases cs with ⟨rfl, rfl⟩ | ⟨rfl, ⟨b, rfl⟩ | ⟨rfl, ⟨a, rfl⟩ | ⟨a, ⟨d, rfl⟩ | ⟨d, rfl⟩⟩⟩⟩
  · go_enter Tryd.func12, Tryd.ntmps12
    go_wp2_with fail
    obtain ⟨W, hW⟩ : ∃ W, W = ((w.alloc (.cells #[.bool false, .int .u32 (N : Int)] 27)).alloc (.cells #[.int .i64 0, .int .i64 0, .int .i64 0, .int .i64 0] 24)) := ⟨_, rfl⟩
    rw [← hW]
    have hS : Blk W (w.heap.size + 1) 24 [.int .i64 0, .int .i64 0, .int .i64 0, .int .i64 0] := by rw [hW]; exact blk_second w _ 24 [.int .i64 0, .int .i64 0, .int .i64 0, .int .i64 0]
    have hb : Below w.heap.size w W := by rw [hW]; exact ((Below.refl w.heap.size w).alloc (Nat.le_refl _) _).alloc (by simp) _
    clear hW
    have z0 : W.cell? ⟨(w.heap.size + 1), 0, none⟩ = some (.int .i64 0) := hS.cellAt (i := 0) (by simp)
    have z1 : W.cell? ⟨(w.heap.size + 1), 1, none⟩ = some (.int .i64 0) := hS.cellAt (i := 1) (by simp)
    have z2 : W.cell? ⟨(w.heap.size + 1), 2, none⟩ = some (.int .i64 0) := hS.cellAt (i := 2) (by simp)
    have z3 : W.cell? ⟨(w.heap.size + 1), 3, none⟩ = some (.int .i64 0) := hS.cellAt (i := 3) (by simp)
    exact bodyPost_ret (v := .tuple #[.agg #[.int .i64 0, .int .i64 0, .int .i64 0, .int .i64 0], .bool false]) (by simp [results, Tryd.results12, go_sem, z0, z1, z2, z3]) rfl ⟨rfl, hb⟩
  · have g8 : (((m8 : Nat) : Int) == 0) = false := by rw [beq_eq_false_iff_ne]; omega
    go_enter Tryd.func12, Tryd.ntmps12
    go_wp2_with fail
    obtain ⟨W, hW⟩ : ∃ W, W = ((w.alloc (.cells #[.bool true, .int .u32 (N : Int)] 27)).alloc (.cells #[.int .i64 0, .int .i64 0, .int .i64 0, .int .i64 0] 24)) := ⟨_, rfl⟩
    rw [← hW]
    have hS : Blk W (w.heap.size + 1) 24 [.int .i64 0, .int .i64 0, .int .i64 0, .int .i64 0] := by rw [hW]; exact blk_second w _ 24 [.int .i64 0, .int .i64 0, .int .i64 0, .int .i64 0]
    have hb : Below w.heap.size w W := by rw [hW]; exact ((Below.refl w.heap.size w).alloc (Nat.le_refl _) _).alloc (by simp) _
    clear hW
    have z0 : W.cell? ⟨(w.heap.size + 1), 0, none⟩ = some (.int .i64 0) := hS.cellAt (i := 0) (by simp)
    have z1 : W.cell? ⟨(w.heap.size + 1), 1, none⟩ = some (.int .i64 0) := hS.cellAt (i := 1) (by simp)
    have z2 : W.cell? ⟨(w.heap.size + 1), 2, none⟩ = some (.int .i64 0) := hS.cellAt (i := 2) (by simp)
    have z3 : W.cell? ⟨(w.heap.size + 1), 3, none⟩ = some (.int .i64 0) := hS.cellAt (i := 3) (by simp)
    exact bodyPost_ret (v := .tuple #[.agg #[.int .i64 0, .int .i64 0, .int .i64 0, .int .i64 0], .bool false]) (by simp [results, Tryd.results12, go_sem, z0, z1, z2, z3]) rfl ⟨rfl, hb⟩
  · have g8 : (N : Int) % 8 = 0 := by omega
    clear hm8
    have g9 : (536870912 : Int) ≤ (N : Int) := by omega
    go_enter Tryd.func12, Tryd.ntmps12
    go_wp2_with fail
    obtain ⟨W, hW⟩ : ∃ W, W = ((w.alloc (.cells #[.bool true, .int .u32 (N : Int)] 27)).alloc (.cells #[.int .i64 0, .int .i64 0, .int .i64 0, .int .i64 0] 24)) := ⟨_, rfl⟩
    rw [← hW]
    have hS : Blk W (w.heap.size + 1) 24 [.int .i64 0, .int .i64 0, .int .i64 0, .int .i64 0] := by rw [hW]; exact blk_second w _ 24 [.int .i64 0, .int .i64 0, .int .i64 0, .int .i64 0]
    have hb : Below w.heap.size w W := by rw [hW]; exact ((Below.refl w.heap.size w).alloc (Nat.le_refl _) _).alloc (by simp) _
    clear hW
    have z0 : W.cell? ⟨(w.heap.size + 1), 0, none⟩ = some (.int .i64 0) := hS.cellAt (i := 0) (by simp)
    have z1 : W.cell? ⟨(w.heap.size + 1), 1, none⟩ = some (.int .i64 0) := hS.cellAt (i := 1) (by simp)
    have z2 : W.cell? ⟨(w.heap.size + 1), 2, none⟩ = some (.int .i64 0) := hS.cellAt (i := 2) (by simp)
    have z3 : W.cell? ⟨(w.heap.size + 1), 3, none⟩ = some (.int .i64 0) := hS.cellAt (i := 3) (by simp)
    exact bodyPost_ret (v := .tuple #[.agg #[.int .i64 0, .int .i64 0, .int .i64 0, .int .i64 0], .bool false]) (by simp [results, Tryd.results12, go_sem, z0, z1, z2, z3]) rfl ⟨rfl, hb⟩
  · have g8 : (N : Int) % 8 = 0 := by omega
    clear hm8
    have g9 : ¬ (536870912 : Int) ≤ (N : Int) := by omega
    have f0 : (N : Int) / 8 / 16777216 = meantC N := by unfold meantC; omega
    have f1 : (N : Int) / 8 / 65536 % 256 = meantS N := by unfold meantS; omega
    have f2 : (N : Int) / 8 / 32 % 2048 = meantT N := rfl
    have f3 : (N : Int) / 8 % 32 = meantN N := rfl
    obtain ⟨mc, hmc⟩ : ∃ z, z = meantC N := ⟨_, rfl⟩
    obtain ⟨ms, hms⟩ : ∃ z, z = meantS N := ⟨_, rfl⟩
    obtain ⟨mt, hmt⟩ : ∃ z, z = meantT N := ⟨_, rfl⟩
    obtain ⟨mn, hmn⟩ : ∃ z, z = meantN N := ⟨_, rfl⟩
    rw [← hmc] at f0
    rw [← hms] at f1
    rw [← hmt] at f2
    rw [← hmn] at f3
    rw [← hmc, ← hms, ← hmt, ← hmn] at d
    clear hmc hms hmt hmn
    go_enter Tryd.func12, Tryd.ntmps12
    go_wp2_with fail
    obtain ⟨W, hW⟩ : ∃ W, W = (((w.alloc (.cells #[.bool true, .int .u32 (N : Int)] 27)).alloc (.cells #[.int .i64 0, .int .i64 0, .int .i64 0, .int .i64 0] 24)).alloc (.cells #[.int .i64 mc, .int .i64 ms, .int .i64 mt, .int .i64 mn] 24)) := ⟨_, rfl⟩
    have hB2 : Below w.heap.size w W := by rw [hW]; exact (((Below.refl w.heap.size w).alloc (Nat.le_refl _) _).alloc (by simp) _).alloc (by simp only [World.size_alloc]; omega) _
    have hO2 : Blk W (w.heap.size + 1) 24 [.int .i64 0, .int .i64 0, .int .i64 0, .int .i64 0] := by rw [hW]; exact (blk_second w _ 24 [.int .i64 0, .int .i64 0, .int .i64 0, .int .i64 0]).keep ((Below.refl (w.heap.size + 2) _).alloc (by simp only [World.size_alloc]; omega) _) (by omega)
    have hP2 : Blk W (w.heap.size + 1 + 1) 24 [.int .i64 mc, .int .i64 ms, .int .i64 mt, .int .i64 mn] := by rw [hW]; exact blk_three w _ _ 24 [.int .i64 mc, .int .i64 ms, .int .i64 mt, .int .i64 mn]
    rw [← hW]
    clear hW
    have HB2 := Lib.hid hB2; have HO2 := Lib.hid hO2; have HP2 := Lib.hid hP2
    clear hB2 hO2 hP2
    refine (HR.out _ _ _ _ _).mono ?_
    rintro y w3 ⟨rfl, hb⟩
    have HB3 := Lib.hid (below_transG HB2.out hb)
    have HO3 := Lib.hid (HO2.out.keep hb HO2.out.lt)
    have HP3 := Lib.hid (HP2.out.keep hb HP2.out.lt)
    clear hb
    have p0 : w3.cell? ⟨(w.heap.size + 1 + 1), 0, none⟩ = some (.int .i64 mc) := HP3.out.cellAt (i := 0) (by simp)
    have p1 : w3.cell? ⟨(w.heap.size + 1 + 1), 1, none⟩ = some (.int .i64 ms) := HP3.out.cellAt (i := 1) (by simp)
    have p2 : w3.cell? ⟨(w.heap.size + 1 + 1), 2, none⟩ = some (.int .i64 mt) := HP3.out.cellAt (i := 2) (by simp)
    have p3 : w3.cell? ⟨(w.heap.size + 1 + 1), 3, none⟩ = some (.int .i64 mn) := HP3.out.cellAt (i := 3) (by simp)
    have o0 : w3.cell? ⟨(w.heap.size + 1), 0, none⟩ = some (.int .i64 0) := HO3.out.cellAt (i := 0) (by simp)
    have o1 : w3.cell? ⟨(w.heap.size + 1), 1, none⟩ = some (.int .i64 0) := HO3.out.cellAt (i := 1) (by simp)
    have o2 : w3.cell? ⟨(w.heap.size + 1), 2, none⟩ = some (.int .i64 0) := HO3.out.cellAt (i := 2) (by simp)
    have o3 : w3.cell? ⟨(w.heap.size + 1), 3, none⟩ = some (.int .i64 0) := HO3.out.cellAt (i := 3) (by simp)
    have f0 : w3.frozen? ⟨(w.heap.size + 1), 0, none⟩ = false := HO3.out.frozenAt 0
    have f1 : w3.frozen? ⟨(w.heap.size + 1), 1, none⟩ = false := HO3.out.frozenAt 1
    have f2 : w3.frozen? ⟨(w.heap.size + 1), 2, none⟩ = false := HO3.out.frozenAt 2
    have f3 : w3.frozen? ⟨(w.heap.size + 1), 3, none⟩ = false := HO3.out.frozenAt 3
    go_wp2_with fail
    obtain ⟨W, hWW⟩ : ∃ W, W = ((((w3.setCell ⟨(w.heap.size + 1), 0, none⟩ (.int .i64 0)).setCell ⟨(w.heap.size + 1), 1, none⟩ (.int .i64 0)).setCell ⟨(w.heap.size + 1), 2, none⟩ (.int .i64 0)).setCell ⟨(w.heap.size + 1), 3, none⟩ (.int .i64 0)) := ⟨_, rfl⟩
    rw [← hWW]
    have hRS : Blk W ((w.heap.size + 1)) 24 [.int .i64 0, .int .i64 0, .int .i64 0, .int .i64 0] := by rw [hWW]; exact (HO3.out).set [.int .i64 0, .int .i64 0, .int .i64 0, .int .i64 0] rfl
    have hb := (show Below w.heap.size w W by rw [hWW]; exact Go.below_setCells (by first | omega | simp) [.int .i64 0, .int .i64 0, .int .i64 0, .int .i64 0] 0 _ HB3.out)
    clear hWW
    have z0 : W.cell? ⟨(w.heap.size + 1), 0, none⟩ = some (.int .i64 0) := hRS.cellAt (i := 0) (by simp)
    have z1 : W.cell? ⟨(w.heap.size + 1), 1, none⟩ = some (.int .i64 0) := hRS.cellAt (i := 1) (by simp)
    have z2 : W.cell? ⟨(w.heap.size + 1), 2, none⟩ = some (.int .i64 0) := hRS.cellAt (i := 2) (by simp)
    have z3 : W.cell? ⟨(w.heap.size + 1), 3, none⟩ = some (.int .i64 0) := hRS.cellAt (i := 3) (by simp)
    exact bodyPost_ret (v := .tuple #[.agg #[.int .i64 0, .int .i64 0, .int .i64 0, .int .i64 0], .bool false]) (by simp [results, Tryd.results12, go_sem, z0, z1, z2, z3]) rfl ⟨rfl, hb⟩
  · have g8 : (N : Int) % 8 = 0 := by omega
    clear hm8
    have g9 : ¬ (536870912 : Int) ≤ (N : Int) := by omega
    have f0 : (N : Int) / 8 / 16777216 = meantC N := by unfold meantC; omega
    have f1 : (N : Int) / 8 / 65536 % 256 = meantS N := by unfold meantS; omega
    have f2 : (N : Int) / 8 / 32 % 2048 = meantT N := rfl
    have f3 : (N : Int) / 8 % 32 = meantN N := rfl
    obtain ⟨mc, hmc⟩ : ∃ z, z = meantC N := ⟨_, rfl⟩
    obtain ⟨ms, hms⟩ : ∃ z, z = meantS N := ⟨_, rfl⟩
    obtain ⟨mt, hmt⟩ : ∃ z, z = meantT N := ⟨_, rfl⟩
    obtain ⟨mn, hmn⟩ : ∃ z, z = meantN N := ⟨_, rfl⟩
    rw [← hmc] at f0
    rw [← hms] at f1
    rw [← hmt] at f2
    rw [← hmn] at f3
    rw [← hmc, ← hms, ← hmt, ← hmn] at d ⊢
    clear hmc hms hmt hmn
    go_enter Tryd.func12, Tryd.ntmps12
    go_wp2_with fail
    obtain ⟨W, hW⟩ : ∃ W, W = (((w.alloc (.cells #[.bool true, .int .u32 (N : Int)] 27)).alloc (.cells #[.int .i64 0, .int .i64 0, .int .i64 0, .int .i64 0] 24)).alloc (.cells #[.int .i64 mc, .int .i64 ms, .int .i64 mt, .int .i64 mn] 24)) := ⟨_, rfl⟩
    have hB2 : Below w.heap.size w W := by rw [hW]; exact (((Below.refl w.heap.size w).alloc (Nat.le_refl _) _).alloc (by simp) _).alloc (by simp only [World.size_alloc]; omega) _
    have hO2 : Blk W (w.heap.size + 1) 24 [.int .i64 0, .int .i64 0, .int .i64 0, .int .i64 0] := by rw [hW]; exact (blk_second w _ 24 [.int .i64 0, .int .i64 0, .int .i64 0, .int .i64 0]).keep ((Below.refl (w.heap.size + 2) _).alloc (by simp only [World.size_alloc]; omega) _) (by omega)
    have hP2 : Blk W (w.heap.size + 1 + 1) 24 [.int .i64 mc, .int .i64 ms, .int .i64 mt, .int .i64 mn] := by rw [hW]; exact blk_three w _ _ 24 [.int .i64 mc, .int .i64 ms, .int .i64 mt, .int .i64 mn]
    rw [← hW]
    clear hW
    have HB2 := Lib.hid hB2; have HO2 := Lib.hid hO2; have HP2 := Lib.hid hP2
    clear hB2 hO2 hP2
    refine (HR.out _ _ _ _ _).mono ?_
    rintro y w3 ⟨rfl, hb⟩
    have HB3 := Lib.hid (below_transG HB2.out hb)
    have HO3 := Lib.hid (HO2.out.keep hb HO2.out.lt)
    have HP3 := Lib.hid (HP2.out.keep hb HP2.out.lt)
    clear hb
    have p0 : w3.cell? ⟨(w.heap.size + 1 + 1), 0, none⟩ = some (.int .i64 mc) := HP3.out.cellAt (i := 0) (by simp)
    have p1 : w3.cell? ⟨(w.heap.size + 1 + 1), 1, none⟩ = some (.int .i64 ms) := HP3.out.cellAt (i := 1) (by simp)
    have p2 : w3.cell? ⟨(w.heap.size + 1 + 1), 2, none⟩ = some (.int .i64 mt) := HP3.out.cellAt (i := 2) (by simp)
    have p3 : w3.cell? ⟨(w.heap.size + 1 + 1), 3, none⟩ = some (.int .i64 mn) := HP3.out.cellAt (i := 3) (by simp)
    have o0 : w3.cell? ⟨(w.heap.size + 1), 0, none⟩ = some (.int .i64 0) := HO3.out.cellAt (i := 0) (by simp)
    have o1 : w3.cell? ⟨(w.heap.size + 1), 1, none⟩ = some (.int .i64 0) := HO3.out.cellAt (i := 1) (by simp)
    have o2 : w3.cell? ⟨(w.heap.size + 1), 2, none⟩ = some (.int .i64 0) := HO3.out.cellAt (i := 2) (by simp)
    have o3 : w3.cell? ⟨(w.heap.size + 1), 3, none⟩ = some (.int .i64 0) := HO3.out.cellAt (i := 3) (by simp)
    have f0 : w3.frozen? ⟨(w.heap.size + 1), 0, none⟩ = false := HO3.out.frozenAt 0
    have f1 : w3.frozen? ⟨(w.heap.size + 1), 1, none⟩ = false := HO3.out.frozenAt 1
    have f2 : w3.frozen? ⟨(w.heap.size + 1), 2, none⟩ = false := HO3.out.frozenAt 2
    have f3 : w3.frozen? ⟨(w.heap.size + 1), 3, none⟩ = false := HO3.out.frozenAt 3
    go_wp2_with fail
    obtain ⟨W, hWW⟩ : ∃ W, W = ((((w3.setCell ⟨(w.heap.size + 1), 0, none⟩ (.int .i64 mc)).setCell ⟨(w.heap.size + 1), 1, none⟩ (.int .i64 ms)).setCell ⟨(w.heap.size + 1), 2, none⟩ (.int .i64 mt)).setCell ⟨(w.heap.size + 1), 3, none⟩ (.int .i64 mn)) := ⟨_, rfl⟩
    rw [← hWW]
    have hRS : Blk W ((w.heap.size + 1)) 24 [.int .i64 mc, .int .i64 ms, .int .i64 mt, .int .i64 mn] := by rw [hWW]; exact (HO3.out).set [.int .i64 mc, .int .i64 ms, .int .i64 mt, .int .i64 mn] rfl
    have hb := (show Below w.heap.size w W by rw [hWW]; exact Go.below_setCells (by first | omega | simp) [.int .i64 mc, .int .i64 ms, .int .i64 mt, .int .i64 mn] 0 _ HB3.out)
    clear hWW
    have z0 : W.cell? ⟨(w.heap.size + 1), 0, none⟩ = some (.int .i64 mc) := hRS.cellAt (i := 0) (by simp)
    have z1 : W.cell? ⟨(w.heap.size + 1), 1, none⟩ = some (.int .i64 ms) := hRS.cellAt (i := 1) (by simp)
    have z2 : W.cell? ⟨(w.heap.size + 1), 2, none⟩ = some (.int .i64 mt) := hRS.cellAt (i := 2) (by simp)
    have z3 : W.cell? ⟨(w.heap.size + 1), 3, none⟩ = some (.int .i64 mn) := hRS.cellAt (i := 3) (by simp)
    exact bodyPost_ret (v := .tuple #[.agg #[.int .i64 mc, .int .i64 ms, .int .i64 mt, .int .i64 mn], .bool true]) (by simp [results, Tryd.results12, go_sem, z0, z1, z2, z3]) rfl ⟨rfl, hb⟩
end Go.Proofs.YtmealljdecancaaDoor
