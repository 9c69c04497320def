/- Package class, and the document's own answers of layer 23: a label's identifier, and what an identifier says. Conditions: the widths' four cells hold what the program lays in them. -/
import Derived.Test.YtmealljdecancaaDoorCla
import Derived.Test.YtmealljdecancaaDoorBat
namespace Go.Proofs.YtmealljdecancaaDoor
open Go.RowKit
/-- The widths' cells. -/
def TabW (W : World) : Prop := W.cell? ⟨0, 0, none⟩ = some (.int .i64 2) ∧ W.cell? ⟨0, 1, none⟩ = some (.int .i64 8) ∧ W.cell? ⟨0, 2, none⟩ = some (.int .i64 11) ∧ W.cell? ⟨0, 3, none⟩ = some (.int .i64 5)
theorem TabW.on {W X : World} (h : TabW W) (hb : Below W.heap.size W X) (h0 : 0 < W.heap.size) : TabW X :=
  ⟨(hb.cell (p := ⟨0, 0, none⟩) h0).trans h.1, (hb.cell (p := ⟨0, 1, none⟩) h0).trans h.2.1, (hb.cell (p := ⟨0, 2, none⟩) h0).trans h.2.2.1, (hb.cell (p := ⟨0, 3, none⟩) h0).trans h.2.2.2⟩
/-- A label's identifier's number. -/
def numL (c s t n : Int) : Int := (((c * 256 + s) * 2048 + t) * 32 + n) * 8
/-- What Id tells. -/
def idV (c s t n : Int) : Value := if rightL c s t n = true then .tuple #[.agg #[.bool true, .int .u32 (numL c s t n)], .int .i64 0] else .tuple #[.agg #[.bool false, .int .u32 0], .int .i64 1]
theorem blk_second (w : World) (o : Obj) (T : TypeId) (l : List Value) : Blk ((w.alloc o).alloc (.cells l.toArray T)) (w.heap.size + 1) T l := by
  have h := Blk.new (w.alloc o) T l
  rw [World.size_alloc] at h
  exact h
theorem or_step (k : Nat) (x y : Int) (hx : 0 ≤ x) (hy : 0 ≤ y) (hy2 : y < 2 ^ k) (hs : x * 2 ^ k + y < 4294967296) : bits .or .u32 (x * 2 ^ k % 4294967296) (y % 4294967296) = x * 2 ^ k + y := by
  have hp : (0 : Int) ≤ x * 2 ^ k := Int.mul_nonneg hx (Int.le_of_lt (Int.pow_pos (by decide)))
  rw [Int.emod_eq_of_lt hp (by omega), Int.emod_eq_of_lt hy (by omega)]
  exact bits_join .u32 32 (by decide) (fun m h0 h1 => by rw [IntKind.wrap_u32]; omega) k _ _ hp (Int.mul_emod_left _ _) (by omega) hy hy2 (by omega)
set_option maxRecDepth 100000 in
set_option maxHeartbeats 1000000 in
theorem clid_yes (c s t n : Int) (hr : rightL c s t n = true) (w : World) (h0 : 0 < w.heap.size) (hT : TabW w) : Calls Tryd.prog 9 #[.agg #[.int .i64 c, .int .i64 s, .int .i64 t, .int .i64 n]] w fun y w' => y = .returned (.tuple #[.agg #[.bool true, .int .u32 (numL c s t n)], .int .i64 0]) ∧ Below w.heap.size w w' := by
  have HT := Lib.hid hT
  clear hT
  obtain ⟨N, hN⟩ : ∃ N, N = numL c s t n := ⟨_, rfl⟩
  rw [← hN]
  have HN := Lib.hid hN
  clear hN
  have HR := Lib.hid clright_any
  have HA := Lib.hid apart_any
  have HB := Lib.hid (show Below w.heap.size w ((w.alloc (.cells #[.int .i64 c, .int .i64 s, .int .i64 t, .int .i64 n] 24)).alloc (.cells #[.bool false, .int .u32 0] 27)) from ((Below.refl w.heap.size w).alloc (Nat.le_refl _) _).alloc (by simp) _)
  have HS := Lib.hid (show Blk ((w.alloc (.cells #[.int .i64 c, .int .i64 s, .int .i64 t, .int .i64 n] 24)).alloc (.cells #[.bool false, .int .u32 0] 27)) w.heap.size 24 [.int .i64 c, .int .i64 s, .int .i64 t, .int .i64 n] from (Blk.new w 24 [.int .i64 c, .int .i64 s, .int .i64 t, .int .i64 n]).keep ((Below.refl (w.heap.size + 1) _).alloc (by simp only [World.size_alloc]; omega) _) (by omega))
  have HO := Lib.hid (show Blk ((w.alloc (.cells #[.int .i64 c, .int .i64 s, .int .i64 t, .int .i64 n] 24)).alloc (.cells #[.bool false, .int .u32 0] 27)) (w.heap.size + 1) 27 [.bool false, .int .u32 0] from blk_second w _ 27 [.bool false, .int .u32 0])
  go_enter Tryd.func9, Tryd.ntmps9
  go_wp2_with fail
  refine (HR.out _ _ _ _ _).mono ?_
  rintro y w1 ⟨rfl, hb⟩
  have HB1 := Lib.hid (below_transG HB.out hb)
  have HS1 := Lib.hid (HS.out.keep hb HS.out.lt)
  have HO1 := Lib.hid (HO.out.keep hb HO.out.lt)
  clear hb
  have q0 : w1.cell? ⟨w.heap.size, 0, none⟩ = some (.int .i64 c) := HS1.out.cellAt (i := 0) (by simp)
  have q1 : w1.cell? ⟨w.heap.size, 1, none⟩ = some (.int .i64 s) := HS1.out.cellAt (i := 1) (by simp)
  have q2 : w1.cell? ⟨w.heap.size, 2, none⟩ = some (.int .i64 t) := HS1.out.cellAt (i := 2) (by simp)
  have q3 : w1.cell? ⟨w.heap.size, 3, none⟩ = some (.int .i64 n) := HS1.out.cellAt (i := 3) (by simp)
  go_wp2_with fail
  refine (HA.out _ _ _ _ _).mono ?_
  rintro y w2 ⟨rfl, hb⟩
  have HB2 := Lib.hid (below_transG HB1.out hb)
  have HO2 := Lib.hid (HO1.out.keep hb HO1.out.lt)
  obtain ⟨g0, g1, g2, g3⟩ := HT.out.on HB2.out h0
  clear hb q0 q1 q2 q3
  have i0 := fun u => idx4_0 c s t n u
  have i1 := fun u => idx4_1 c s t n u
  have i2 := fun u => idx4_2 c s t n u
  have i3 := fun u => idx4_3 c s t n u
  go_wp2_with fail
  obtain ⟨n2, hn2⟩ : ∃ z, z = c * 256 + s := ⟨_, rfl⟩
  obtain ⟨n3, hn3⟩ : ∃ z, z = n2 * 2048 + t := ⟨_, rfl⟩
  obtain ⟨n4, hn4⟩ : ∃ z, z = n3 * 32 + n := ⟨_, rfl⟩
  obtain ⟨n5, hn5⟩ : ∃ z, z = n4 * 8 := ⟨_, rfl⟩
  have hin := of_decide_eq_true hr
  have en : numL c s t n = n5 := by unfold numL; omega
  have hN5 := HN.out.trans en
  clear HN
  have HN := Lib.hid hN5
  clear hN5
  have e0 : bits BinOp.or IntKind.u32 0 (c % 4294967296) = c := by
    have := or_step 2 0 c (by omega) (by omega) (by omega) (by omega)
    simpa using this
  have e1 : bits BinOp.or IntKind.u32 (c * 256 % 4294967296) (s % 4294967296) = n2 := by rw [hn2]; exact or_step 8 c s (by omega) (by omega) (by omega) (by omega)
  have e2 : bits BinOp.or IntKind.u32 (n2 * 2048 % 4294967296) (t % 4294967296) = n3 := by rw [hn3]; exact or_step 11 n2 t (by omega) (by omega) (by omega) (by omega)
  have e3 : bits BinOp.or IntKind.u32 (n3 * 32 % 4294967296) (n % 4294967296) = n4 := by rw [hn4]; exact or_step 5 n3 n (by omega) (by omega) (by omega) (by omega)
  have e4 : n4 * 8 % 4294967296 = n5 := by omega
  clear hn2 hn3 hn4 hn5 hin en
  refine wp_loop_rounds 5 ?_
  rw [rounds_succ]
  go_wp2_with fail
  rw [rounds_succ]
  go_wp2_with fail
  rw [rounds_succ]
  go_wp2_with fail
  rw [rounds_succ]
  go_wp2_with fail
  have o0 : w2.cell? ⟨(w.heap.size + 1), 0, none⟩ = some (.bool false) := HO2.out.cellAt (i := 0) (by simp)
  have o1 : w2.cell? ⟨(w.heap.size + 1), 1, none⟩ = some (.int .u32 0) := HO2.out.cellAt (i := 1) (by simp)
  have f0 : w2.frozen? ⟨(w.heap.size + 1), 0, none⟩ = false := HO2.out.frozenAt 0
  have f1 : w2.frozen? ⟨(w.heap.size + 1), 1, none⟩ = false := HO2.out.frozenAt 1
  rw [rounds_succ]
  go_wp2_with fail
  obtain ⟨W, hWW⟩ : ∃ W, W = ((w2.setCell ⟨(w.heap.size + 1), 0, none⟩ (.bool true)).setCell ⟨(w.heap.size + 1), 1, none⟩ (.int .u32 n5)) := ⟨_, rfl⟩
  rw [← hWW]
  have hRS : Blk W ((w.heap.size + 1)) 27 [.bool true, .int .u32 n5] := by rw [hWW]; exact (HO2.out).set [.bool true, .int .u32 n5] rfl
  have hb := (show Below w.heap.size w W by rw [hWW]; exact Go.below_setCells (by first | omega | simp) [.bool true, .int .u32 n5] 0 _ HB2.out)
  clear hWW
  have z0 : W.cell? ⟨(w.heap.size + 1), 0, none⟩ = some (.bool true) := hRS.cellAt (i := 0) (by simp)
  have z1 : W.cell? ⟨(w.heap.size + 1), 1, none⟩ = some (.int .u32 n5) := hRS.cellAt (i := 1) (by simp)
  exact bodyPost_ret (v := .tuple #[.agg #[.bool true, .int .u32 n5], .int .i64 0]) (by simp [results, Tryd.results9, go_sem, z0, z1]) rfl ⟨by rw [HN.out], hb⟩
theorem clid_no (c s t n : Int) (hr : rightL c s t n = false) (w : World) : Calls Tryd.prog 9 #[.agg #[.int .i64 c, .int .i64 s, .int .i64 t, .int .i64 n]] w fun y w' => y = .returned (.tuple #[.agg #[.bool false, .int .u32 0], .int .i64 1]) ∧ Below w.heap.size w w' := by
  have HR := Lib.hid clright_any
  have HA := Lib.hid apart_any
  have HB := Lib.hid (show Below w.heap.size w ((w.alloc (.cells #[.int .i64 c, .int .i64 s, .int .i64 t, .int .i64 n] 24)).alloc (.cells #[.bool false, .int .u32 0] 27)) from ((Below.refl w.heap.size w).alloc (Nat.le_refl _) _).alloc (by simp) _)
  have HS := Lib.hid (show Blk ((w.alloc (.cells #[.int .i64 c, .int .i64 s, .int .i64 t, .int .i64 n] 24)).alloc (.cells #[.bool false, .int .u32 0] 27)) w.heap.size 24 [.int .i64 c, .int .i64 s, .int .i64 t, .int .i64 n] from (Blk.new w 24 [.int .i64 c, .int .i64 s, .int .i64 t, .int .i64 n]).keep ((Below.refl (w.heap.size + 1) _).alloc (by simp only [World.size_alloc]; omega) _) (by omega))
  have HO := Lib.hid (show Blk ((w.alloc (.cells #[.int .i64 c, .int .i64 s, .int .i64 t, .int .i64 n] 24)).alloc (.cells #[.bool false, .int .u32 0] 27)) (w.heap.size + 1) 27 [.bool false, .int .u32 0] from blk_second w _ 27 [.bool false, .int .u32 0])
  go_enter Tryd.func9, Tryd.ntmps9
  go_wp2_with fail
  refine (HR.out _ _ _ _ _).mono ?_
  rintro y w1 ⟨rfl, hb⟩
  have HB1 := Lib.hid (below_transG HB.out hb)
  have HS1 := Lib.hid (HS.out.keep hb HS.out.lt)
  have HO1 := Lib.hid (HO.out.keep hb HO.out.lt)
  clear hb
  have o0 : w1.cell? ⟨(w.heap.size + 1), 0, none⟩ = some (.bool false) := HO1.out.cellAt (i := 0) (by simp)
  have o1 : w1.cell? ⟨(w.heap.size + 1), 1, none⟩ = some (.int .u32 0) := HO1.out.cellAt (i := 1) (by simp)
  have f0 : w1.frozen? ⟨(w.heap.size + 1), 0, none⟩ = false := HO1.out.frozenAt 0
  have f1 : w1.frozen? ⟨(w.heap.size + 1), 1, none⟩ = false := HO1.out.frozenAt 1
  go_wp2_with fail
  obtain ⟨W, hWW⟩ : ∃ W, W = ((w1.setCell ⟨(w.heap.size + 1), 0, none⟩ (.bool false)).setCell ⟨(w.heap.size + 1), 1, none⟩ (.int .u32 0)) := ⟨_, rfl⟩
  rw [← hWW]
  have hRS : Blk W ((w.heap.size + 1)) 27 [.bool false, .int .u32 0] := by rw [hWW]; exact (HO1.out).set [.bool false, .int .u32 0] rfl
  have hb := (show Below w.heap.size w W by rw [hWW]; exact Go.below_setCells (by first | omega | simp) [.bool false, .int .u32 0] 0 _ HB1.out)
  clear hWW
  have z0 : W.cell? ⟨(w.heap.size + 1), 0, none⟩ = some (.bool false) := hRS.cellAt (i := 0) (by simp)
  have z1 : W.cell? ⟨(w.heap.size + 1), 1, none⟩ = some (.int .u32 0) := hRS.cellAt (i := 1) (by simp)
  exact bodyPost_ret (v := .tuple #[.agg #[.bool false, .int .u32 0], .int .i64 1]) (by simp [results, Tryd.results9, go_sem, z0, z1]) rfl ⟨rfl, hb⟩
/-- What a number says. -/
def meantC (N : Nat) : Int := (N : Int) / 8 / 32 / 2048 / 256 % 4
def meantS (N : Nat) : Int := (N : Int) / 8 / 32 / 2048 % 256
def meantT (N : Nat) : Int := (N : Int) / 8 / 32 % 2048
def meantN (N : Nat) : Int := (N : Int) / 8 % 32
set_option maxRecDepth 100000 in
set_option maxHeartbeats 1000000 in
theorem clmeant_any (N : Nat) (hN : N < 4294967296) (w : World) (h0 : 0 < w.heap.size) (hT : TabW w) : Calls Tryd.prog 32 #[.int .u32 (N : Int)] w fun y w' => y = .returned (.agg #[.int .i64 (meantC N), .int .i64 (meantS N), .int .i64 (meantT N), .int .i64 (meantN N)]) ∧ Below w.heap.size w w' := by
  obtain ⟨g0, g1, g2, g3⟩ := hT
  go_enter Tryd.func32, Tryd.ntmps32
  go_wp2_with fail
  refine wp_loop_rounds 5 ?_
  rw [rounds_succ]
  go_wp2_with fail
  rw [rounds_succ]
  go_wp2_with fail
  rw [rounds_succ]
  go_wp2_with fail
  rw [rounds_succ]
  go_wp2_with fail
  rw [rounds_succ]
  go_wp2_with fail
  obtain ⟨W, hW⟩ : ∃ W, W = (w.alloc (.cells #[.int .i64 (meantC N), .int .i64 (meantS N), .int .i64 (meantT N), .int .i64 (meantN N)] 24)).alloc (.cells #[.int .i64 (meantC N), .int .i64 (meantS N), .int .i64 (meantT N), .int .i64 (meantN N)] 60) := ⟨_, rfl⟩
  have hS : Blk W w.heap.size 24 [.int .i64 (meantC N), .int .i64 (meantS N), .int .i64 (meantT N), .int .i64 (meantN N)] := by
    rw [hW]; exact (Blk.new w 24 [.int .i64 (meantC N), .int .i64 (meantS N), .int .i64 (meantT N), .int .i64 (meantN N)]).keep ((Below.refl (w.heap.size + 1) _).alloc (by simp only [World.size_alloc]; omega) _) (by omega)
  have hb : Below w.heap.size w W := by rw [hW]; exact ((Below.refl w.heap.size w).alloc (Nat.le_refl _) _).alloc (by simp) _
  unfold meantC meantS meantT meantN at hW hS
  rw [← hW]
  clear hW
  have z0 : W.cell? ⟨w.heap.size, 0, none⟩ = some (.int .i64 ((N : Int) / 8 / 32 / 2048 / 256 % 4)) := hS.cellAt (i := 0) (by simp)
  have z1 : W.cell? ⟨w.heap.size, 1, none⟩ = some (.int .i64 ((N : Int) / 8 / 32 / 2048 % 256)) := hS.cellAt (i := 1) (by simp)
  have z2 : W.cell? ⟨w.heap.size, 2, none⟩ = some (.int .i64 ((N : Int) / 8 / 32 % 2048)) := hS.cellAt (i := 2) (by simp)
  have z3 : W.cell? ⟨w.heap.size, 3, none⟩ = some (.int .i64 ((N : Int) / 8 % 32)) := hS.cellAt (i := 3) (by simp)
  exact bodyPost_ret (v := .agg #[.int .i64 ((N : Int) / 8 / 32 / 2048 / 256 % 4), .int .i64 ((N : Int) / 8 / 32 / 2048 % 256), .int .i64 ((N : Int) / 8 / 32 % 2048), .int .i64 ((N : Int) / 8 % 32)]) (by simp [results, Tryd.results32, go_sem, z0, z1, z2, z3]) rfl ⟨rfl, hb⟩
/-- Is an identifier a stream's? -/
def okI (e : Bool) (N : Nat) : Bool := e && decide (N < 536870912) && decide (N % 8 = 0) && rightL (meantC N) (meantS N) (meantT N) (meantN N)
/-- What Of tells. -/
def ofLV (e : Bool) (N : Nat) : Value := if okI e N = true then .tuple #[.agg #[.int .i64 (meantC N), .int .i64 (meantS N), .int .i64 (meantT N), .int .i64 (meantN N)], .bool true] else .tuple #[.agg #[.int .i64 0, .int .i64 0, .int .i64 0, .int .i64 0], .bool false]
theorem rightI_true (N : Nat) : rightI true N = decide (N < 536870912) := by unfold rightI; simp
set_option maxRecDepth 100000 in
set_option maxHeartbeats 1000000 in
theorem clof_any (e : Bool) (N : Nat) (hN : N < 4294967296) (w : World) (h0 : 0 < w.heap.size) (hT : TabW w) : Calls Tryd.prog 11 #[.agg #[.bool e, .int .u32 (N : Int)]] w fun y w' => y = .returned (ofLV e N) ∧ Below w.heap.size w w' := by
  have HT := Lib.hid hT
  clear hT
  have HM := Lib.hid (fun u a b => clmeant_any N hN u a b)
  have HI := Lib.hid (fun u => right5_any e N u)
  have HR := Lib.hid clright_any
  unfold ofLV okI
  unfold identV at HI
  obtain ⟨mc, hmc⟩ : ∃ z, z = meantC N := ⟨_, rfl⟩
  obtain ⟨ms, hms⟩ : ∃ z, z = meantS N := ⟨_, rfl⟩
  obtain ⟨mt, hmt⟩ : ∃ z, z = meantT N := ⟨_, rfl⟩
  obtain ⟨mn, hmn⟩ : ∃ z, z = meantN N := ⟨_, rfl⟩
  rw [← hmc, ← hms, ← hmt, ← hmn] at HM ⊢
  clear hmc hms hmt hmn
  have HB := Lib.hid (show Below w.heap.size w ((w.alloc (.cells #[.bool e, .int .u32 (N : Int)] 27)).alloc (.cells #[.int .i64 0, .int .i64 0, .int .i64 0, .int .i64 0] 24)) from ((Below.refl w.heap.size w).alloc (Nat.le_refl _) _).alloc (by simp) _)
  have HS := Lib.hid (show Blk ((w.alloc (.cells #[.bool e, .int .u32 (N : Int)] 27)).alloc (.cells #[.int .i64 0, .int .i64 0, .int .i64 0, .int .i64 0] 24)) w.heap.size 27 [.bool e, .int .u32 (N : Int)] from (Blk.new w 27 [.bool e, .int .u32 (N : Int)]).keep ((Below.refl (w.heap.size + 1) _).alloc (by simp only [World.size_alloc]; omega) _) (by omega))
  have HO := Lib.hid (show Blk ((w.alloc (.cells #[.bool e, .int .u32 (N : Int)] 27)).alloc (.cells #[.int .i64 0, .int .i64 0, .int .i64 0, .int .i64 0] 24)) (w.heap.size + 1) 24 [.int .i64 0, .int .i64 0, .int .i64 0, .int .i64 0] from blk_second w _ 24 [.int .i64 0, .int .i64 0, .int .i64 0, .int .i64 0])
  have hm8 : (N : Int) % 8 = ((N % 8 : Nat) : Int) := by omega
  obtain ⟨m8, h8⟩ : ∃ z, z = N % 8 := ⟨_, rfl⟩
  rw [← h8] at hm8 ⊢
  clear h8
  obtain ⟨V, hV⟩ : ∃ V, V = (if (e && decide (N < 536870912) && decide (m8 = 0) && rightL mc ms mt mn) = true then (.tuple #[.agg #[.int .i64 mc, .int .i64 ms, .int .i64 mt, .int .i64 mn], .bool true] : Value) else .tuple #[.agg #[.int .i64 0, .int .i64 0, .int .i64 0, .int .i64 0], .bool false]) := ⟨_, rfl⟩
  rw [← hV]
  have cs : (e = false ∧ V = .tuple #[.agg #[.int .i64 0, .int .i64 0, .int .i64 0, .int .i64 0], .bool false]) ∨ (e = true ∧ (rightI true N = false ∧ V = .tuple #[.agg #[.int .i64 0, .int .i64 0, .int .i64 0, .int .i64 0], .bool false] ∨ rightI true N = true ∧ (m8 ≠ 0 ∧ V = .tuple #[.agg #[.int .i64 0, .int .i64 0, .int .i64 0, .int .i64 0], .bool false] ∨ m8 = 0 ∧ (rightL mc ms mt mn = false ∧ V = .tuple #[.agg #[.int .i64 0, .int .i64 0, .int .i64 0, .int .i64 0], .bool false] ∨ rightL mc ms mt mn = true ∧ V = .tuple #[.agg #[.int .i64 mc, .int .i64 ms, .int .i64 mt, .int .i64 mn], .bool true])))) := by
    rw [rightI_true, hV]
    cases e
    · exact .inl ⟨rfl, by simp⟩
    · refine .inr ⟨rfl, ?_⟩
      by_cases ha : N < 536870912
      · refine .inr ⟨decide_eq_true ha, ?_⟩
        by_cases hb : m8 = 0
        · refine .inr ⟨hb, ?_⟩
          cases hc : rightL mc ms mt mn
          · exact .inl ⟨rfl, by simp⟩
          · exact .inr ⟨rfl, by simp [ha, hb]⟩
        · exact .inl ⟨hb, by simp [hb]⟩
      · exact .inl ⟨decide_eq_false ha, by simp [ha]⟩
  clear hV
  rcases cs with ⟨rfl, rfl⟩ | ⟨rfl, ⟨a, rfl⟩ | ⟨a, ⟨b, rfl⟩ | ⟨rfl, ⟨d, rfl⟩ | ⟨d, rfl⟩⟩⟩⟩
  · go_enter Tryd.func11, Tryd.ntmps11
    go_wp2_with fail
    refine (HM.out _ (Nat.lt_of_lt_of_le h0 HB.out.size) (HT.out.on HB.out h0)).mono ?_
    rintro y w1 ⟨rfl, hb⟩
    have HB1 := Lib.hid (below_transG HB.out hb)
    have HS1 := Lib.hid (HS.out.keep hb HS.out.lt)
    have HO1 := Lib.hid (HO.out.keep hb HO.out.lt)
    clear hb
    go_upto_region 2 with fail
    obtain ⟨W2, hW2⟩ : ∃ W, W = w1.alloc (.cells #[.int .i64 mc, .int .i64 ms, .int .i64 mt, .int .i64 mn] 24) := ⟨_, rfl⟩
    have hB2 : Below w.heap.size w W2 := by rw [hW2]; exact HB1.out.alloc (HB1.out.size) _
    have hS2 : Blk W2 w.heap.size 27 [.bool false, .int .u32 (N : Int)] := by rw [hW2]; exact HS1.out.keep ((Below.refl _ _).alloc (Nat.le_refl _) _) HS1.out.lt
    have hO2 : Blk W2 (w.heap.size + 1) 24 [.int .i64 0, .int .i64 0, .int .i64 0, .int .i64 0] := by rw [hW2]; exact HO1.out.keep ((Below.refl _ _).alloc (Nat.le_refl _) _) HO1.out.lt
    have hP2 : Blk W2 w1.heap.size 24 [.int .i64 mc, .int .i64 ms, .int .i64 mt, .int .i64 mn] := by rw [hW2]; exact Blk.new w1 24 [.int .i64 mc, .int .i64 ms, .int .i64 mt, .int .i64 mn]
    rw [← hW2]
    obtain ⟨B, hB⟩ : ∃ B, B = w1.heap.size := ⟨_, rfl⟩
    rw [← hB] at hP2 ⊢
    have HB2 := Lib.hid hB2; have HS2 := Lib.hid hS2; have HO2 := Lib.hid hO2; have HP2 := Lib.hid hP2
    clear hW2 hB2 hS2 hO2 hP2 hB HB1 HS1 HO1
    have q0 : W2.cell? ⟨w.heap.size, 0, none⟩ = some (.bool false) := HS2.out.cellAt (i := 0) (by simp)
    have q1 : W2.cell? ⟨w.heap.size, 1, none⟩ = some (.int .u32 (N : Int)) := HS2.out.cellAt (i := 1) (by simp)
    have p0 : W2.cell? ⟨B, 0, none⟩ = some (.int .i64 mc) := HP2.out.cellAt (i := 0) (by simp)
    have p1 : W2.cell? ⟨B, 1, none⟩ = some (.int .i64 ms) := HP2.out.cellAt (i := 1) (by simp)
    have p2 : W2.cell? ⟨B, 2, none⟩ = some (.int .i64 mt) := HP2.out.cellAt (i := 2) (by simp)
    have p3 : W2.cell? ⟨B, 3, none⟩ = some (.int .i64 mn) := HP2.out.cellAt (i := 3) (by simp)
    have o0 : W2.cell? ⟨(w.heap.size + 1), 0, none⟩ = some (.int .i64 0) := HO2.out.cellAt (i := 0) (by simp)
    have o1 : W2.cell? ⟨(w.heap.size + 1), 1, none⟩ = some (.int .i64 0) := HO2.out.cellAt (i := 1) (by simp)
    have o2 : W2.cell? ⟨(w.heap.size + 1), 2, none⟩ = some (.int .i64 0) := HO2.out.cellAt (i := 2) (by simp)
    have o3 : W2.cell? ⟨(w.heap.size + 1), 3, none⟩ = some (.int .i64 0) := HO2.out.cellAt (i := 3) (by simp)
    have f0 : W2.frozen? ⟨(w.heap.size + 1), 0, none⟩ = false := HO2.out.frozenAt 0
    have f1 : W2.frozen? ⟨(w.heap.size + 1), 1, none⟩ = false := HO2.out.frozenAt 1
    have f2 : W2.frozen? ⟨(w.heap.size + 1), 2, none⟩ = false := HO2.out.frozenAt 2
    have f3 : W2.frozen? ⟨(w.heap.size + 1), 3, none⟩ = false := HO2.out.frozenAt 3
    go_wp2_with fail
    obtain ⟨W, hWW⟩ : ∃ W, W = ((((W2.setCell ⟨(w.heap.size + 1), 0, none⟩ (.int .i64 0)).setCell ⟨(w.heap.size + 1), 1, none⟩ (.int .i64 0)).setCell ⟨(w.heap.size + 1), 2, none⟩ (.int .i64 0)).setCell ⟨(w.heap.size + 1), 3, none⟩ (.int .i64 0)) := ⟨_, rfl⟩
    rw [← hWW]
    have hRS : Blk W ((w.heap.size + 1)) 24 [.int .i64 0, .int .i64 0, .int .i64 0, .int .i64 0] := by rw [hWW]; exact (HO2.out).set [.int .i64 0, .int .i64 0, .int .i64 0, .int .i64 0] rfl
    have hb := (show Below w.heap.size w W by rw [hWW]; exact Go.below_setCells (by first | omega | simp) [.int .i64 0, .int .i64 0, .int .i64 0, .int .i64 0] 0 _ HB2.out)
    clear hWW
    have z0 : W.cell? ⟨(w.heap.size + 1), 0, none⟩ = some (.int .i64 0) := hRS.cellAt (i := 0) (by simp)
    have z1 : W.cell? ⟨(w.heap.size + 1), 1, none⟩ = some (.int .i64 0) := hRS.cellAt (i := 1) (by simp)
    have z2 : W.cell? ⟨(w.heap.size + 1), 2, none⟩ = some (.int .i64 0) := hRS.cellAt (i := 2) (by simp)
    have z3 : W.cell? ⟨(w.heap.size + 1), 3, none⟩ = some (.int .i64 0) := hRS.cellAt (i := 3) (by simp)
    exact bodyPost_ret (v := .tuple #[.agg #[.int .i64 0, .int .i64 0, .int .i64 0, .int .i64 0], .bool false]) (by simp [results, Tryd.results11, go_sem, z0, z1, z2, z3]) rfl ⟨rfl, hb⟩
  · go_enter Tryd.func11, Tryd.ntmps11
    go_wp2_with fail
    refine (HM.out _ (Nat.lt_of_lt_of_le h0 HB.out.size) (HT.out.on HB.out h0)).mono ?_
    rintro y w1 ⟨rfl, hb⟩
    have HB1 := Lib.hid (below_transG HB.out hb)
    have HS1 := Lib.hid (HS.out.keep hb HS.out.lt)
    have HO1 := Lib.hid (HO.out.keep hb HO.out.lt)
    clear hb
    go_upto_region 2 with fail
    obtain ⟨W2, hW2⟩ : ∃ W, W = w1.alloc (.cells #[.int .i64 mc, .int .i64 ms, .int .i64 mt, .int .i64 mn] 24) := ⟨_, rfl⟩
    have hB2 : Below w.heap.size w W2 := by rw [hW2]; exact HB1.out.alloc (HB1.out.size) _
    have hS2 : Blk W2 w.heap.size 27 [.bool true, .int .u32 (N : Int)] := by rw [hW2]; exact HS1.out.keep ((Below.refl _ _).alloc (Nat.le_refl _) _) HS1.out.lt
    have hO2 : Blk W2 (w.heap.size + 1) 24 [.int .i64 0, .int .i64 0, .int .i64 0, .int .i64 0] := by rw [hW2]; exact HO1.out.keep ((Below.refl _ _).alloc (Nat.le_refl _) _) HO1.out.lt
    have hP2 : Blk W2 w1.heap.size 24 [.int .i64 mc, .int .i64 ms, .int .i64 mt, .int .i64 mn] := by rw [hW2]; exact Blk.new w1 24 [.int .i64 mc, .int .i64 ms, .int .i64 mt, .int .i64 mn]
    rw [← hW2]
    obtain ⟨B, hB⟩ : ∃ B, B = w1.heap.size := ⟨_, rfl⟩
    rw [← hB] at hP2 ⊢
    have HB2 := Lib.hid hB2; have HS2 := Lib.hid hS2; have HO2 := Lib.hid hO2; have HP2 := Lib.hid hP2
    clear hW2 hB2 hS2 hO2 hP2 hB HB1 HS1 HO1
    have q0 : W2.cell? ⟨w.heap.size, 0, none⟩ = some (.bool true) := HS2.out.cellAt (i := 0) (by simp)
    have q1 : W2.cell? ⟨w.heap.size, 1, none⟩ = some (.int .u32 (N : Int)) := HS2.out.cellAt (i := 1) (by simp)
    have p0 : W2.cell? ⟨B, 0, none⟩ = some (.int .i64 mc) := HP2.out.cellAt (i := 0) (by simp)
    have p1 : W2.cell? ⟨B, 1, none⟩ = some (.int .i64 ms) := HP2.out.cellAt (i := 1) (by simp)
    have p2 : W2.cell? ⟨B, 2, none⟩ = some (.int .i64 mt) := HP2.out.cellAt (i := 2) (by simp)
    have p3 : W2.cell? ⟨B, 3, none⟩ = some (.int .i64 mn) := HP2.out.cellAt (i := 3) (by simp)
    go_wp2_with fail
    refine (HI.out _).mono ?_
    rintro y w3 ⟨rfl, hb⟩
    have HB3 := Lib.hid (below_transG HB2.out hb)
    have HS3 := Lib.hid (HS2.out.keep hb HS2.out.lt)
    have HO3 := Lib.hid (HO2.out.keep hb HO2.out.lt)
    have HP3 := Lib.hid (HP2.out.keep hb HP2.out.lt)
    clear hb q0 q1 p0 p1 p2 p3
    have q0 : w3.cell? ⟨w.heap.size, 0, none⟩ = some (.bool true) := HS3.out.cellAt (i := 0) (by simp)
    have q1 : w3.cell? ⟨w.heap.size, 1, none⟩ = some (.int .u32 (N : Int)) := HS3.out.cellAt (i := 1) (by simp)
    have p0 : w3.cell? ⟨B, 0, none⟩ = some (.int .i64 mc) := HP3.out.cellAt (i := 0) (by simp)
    have p1 : w3.cell? ⟨B, 1, none⟩ = some (.int .i64 ms) := HP3.out.cellAt (i := 1) (by simp)
    have p2 : w3.cell? ⟨B, 2, none⟩ = some (.int .i64 mt) := HP3.out.cellAt (i := 2) (by simp)
    have p3 : w3.cell? ⟨B, 3, none⟩ = some (.int .i64 mn) := HP3.out.cellAt (i := 3) (by simp)
    have o0 : w3.cell? ⟨(w.heap.size + 1), 0, none⟩ = some (.int .i64 0) := HO3.out.cellAt (i := 0) (by simp)
    have o1 : w3.cell? ⟨(w.heap.size + 1), 1, none⟩ = some (.int .i64 0) := HO3.out.cellAt (i := 1) (by simp)
    have o2 : w3.cell? ⟨(w.heap.size + 1), 2, none⟩ = some (.int .i64 0) := HO3.out.cellAt (i := 2) (by simp)
    have o3 : w3.cell? ⟨(w.heap.size + 1), 3, none⟩ = some (.int .i64 0) := HO3.out.cellAt (i := 3) (by simp)
    have f0 : w3.frozen? ⟨(w.heap.size + 1), 0, none⟩ = false := HO3.out.frozenAt 0
    have f1 : w3.frozen? ⟨(w.heap.size + 1), 1, none⟩ = false := HO3.out.frozenAt 1
    have f2 : w3.frozen? ⟨(w.heap.size + 1), 2, none⟩ = false := HO3.out.frozenAt 2
    have f3 : w3.frozen? ⟨(w.heap.size + 1), 3, none⟩ = false := HO3.out.frozenAt 3
    go_wp2_with fail
    obtain ⟨W, hWW⟩ : ∃ W, W = ((((w3.setCell ⟨(w.heap.size + 1), 0, none⟩ (.int .i64 0)).setCell ⟨(w.heap.size + 1), 1, none⟩ (.int .i64 0)).setCell ⟨(w.heap.size + 1), 2, none⟩ (.int .i64 0)).setCell ⟨(w.heap.size + 1), 3, none⟩ (.int .i64 0)) := ⟨_, rfl⟩
    rw [← hWW]
    have hRS : Blk W ((w.heap.size + 1)) 24 [.int .i64 0, .int .i64 0, .int .i64 0, .int .i64 0] := by rw [hWW]; exact (HO3.out).set [.int .i64 0, .int .i64 0, .int .i64 0, .int .i64 0] rfl
    have hb := (show Below w.heap.size w W by rw [hWW]; exact Go.below_setCells (by first | omega | simp) [.int .i64 0, .int .i64 0, .int .i64 0, .int .i64 0] 0 _ HB3.out)
    clear hWW
    have z0 : W.cell? ⟨(w.heap.size + 1), 0, none⟩ = some (.int .i64 0) := hRS.cellAt (i := 0) (by simp)
    have z1 : W.cell? ⟨(w.heap.size + 1), 1, none⟩ = some (.int .i64 0) := hRS.cellAt (i := 1) (by simp)
    have z2 : W.cell? ⟨(w.heap.size + 1), 2, none⟩ = some (.int .i64 0) := hRS.cellAt (i := 2) (by simp)
    have z3 : W.cell? ⟨(w.heap.size + 1), 3, none⟩ = some (.int .i64 0) := hRS.cellAt (i := 3) (by simp)
    exact bodyPost_ret (v := .tuple #[.agg #[.int .i64 0, .int .i64 0, .int .i64 0, .int .i64 0], .bool false]) (by simp [results, Tryd.results11, go_sem, z0, z1, z2, z3]) rfl ⟨rfl, hb⟩
  · go_enter Tryd.func11, Tryd.ntmps11
    go_wp2_with fail
    refine (HM.out _ (Nat.lt_of_lt_of_le h0 HB.out.size) (HT.out.on HB.out h0)).mono ?_
    rintro y w1 ⟨rfl, hb⟩
    have HB1 := Lib.hid (below_transG HB.out hb)
    have HS1 := Lib.hid (HS.out.keep hb HS.out.lt)
    have HO1 := Lib.hid (HO.out.keep hb HO.out.lt)
    clear hb
    go_upto_region 2 with fail
    obtain ⟨W2, hW2⟩ : ∃ W, W = w1.alloc (.cells #[.int .i64 mc, .int .i64 ms, .int .i64 mt, .int .i64 mn] 24) := ⟨_, rfl⟩
    have hB2 : Below w.heap.size w W2 := by rw [hW2]; exact HB1.out.alloc (HB1.out.size) _
    have hS2 : Blk W2 w.heap.size 27 [.bool true, .int .u32 (N : Int)] := by rw [hW2]; exact HS1.out.keep ((Below.refl _ _).alloc (Nat.le_refl _) _) HS1.out.lt
    have hO2 : Blk W2 (w.heap.size + 1) 24 [.int .i64 0, .int .i64 0, .int .i64 0, .int .i64 0] := by rw [hW2]; exact HO1.out.keep ((Below.refl _ _).alloc (Nat.le_refl _) _) HO1.out.lt
    have hP2 : Blk W2 w1.heap.size 24 [.int .i64 mc, .int .i64 ms, .int .i64 mt, .int .i64 mn] := by rw [hW2]; exact Blk.new w1 24 [.int .i64 mc, .int .i64 ms, .int .i64 mt, .int .i64 mn]
    rw [← hW2]
    obtain ⟨B, hB⟩ : ∃ B, B = w1.heap.size := ⟨_, rfl⟩
    rw [← hB] at hP2 ⊢
    have HB2 := Lib.hid hB2; have HS2 := Lib.hid hS2; have HO2 := Lib.hid hO2; have HP2 := Lib.hid hP2
    clear hW2 hB2 hS2 hO2 hP2 hB HB1 HS1 HO1
    have q0 : W2.cell? ⟨w.heap.size, 0, none⟩ = some (.bool true) := HS2.out.cellAt (i := 0) (by simp)
    have q1 : W2.cell? ⟨w.heap.size, 1, none⟩ = some (.int .u32 (N : Int)) := HS2.out.cellAt (i := 1) (by simp)
    have p0 : W2.cell? ⟨B, 0, none⟩ = some (.int .i64 mc) := HP2.out.cellAt (i := 0) (by simp)
    have p1 : W2.cell? ⟨B, 1, none⟩ = some (.int .i64 ms) := HP2.out.cellAt (i := 1) (by simp)
    have p2 : W2.cell? ⟨B, 2, none⟩ = some (.int .i64 mt) := HP2.out.cellAt (i := 2) (by simp)
    have p3 : W2.cell? ⟨B, 3, none⟩ = some (.int .i64 mn) := HP2.out.cellAt (i := 3) (by simp)
    go_wp2_with fail
    refine (HI.out _).mono ?_
    rintro y w3 ⟨rfl, hb⟩
    have HB3 := Lib.hid (below_transG HB2.out hb)
    have HS3 := Lib.hid (HS2.out.keep hb HS2.out.lt)
    have HO3 := Lib.hid (HO2.out.keep hb HO2.out.lt)
    have HP3 := Lib.hid (HP2.out.keep hb HP2.out.lt)
    clear hb q0 q1 p0 p1 p2 p3
    have q0 : w3.cell? ⟨w.heap.size, 0, none⟩ = some (.bool true) := HS3.out.cellAt (i := 0) (by simp)
    have q1 : w3.cell? ⟨w.heap.size, 1, none⟩ = some (.int .u32 (N : Int)) := HS3.out.cellAt (i := 1) (by simp)
    have p0 : w3.cell? ⟨B, 0, none⟩ = some (.int .i64 mc) := HP3.out.cellAt (i := 0) (by simp)
    have p1 : w3.cell? ⟨B, 1, none⟩ = some (.int .i64 ms) := HP3.out.cellAt (i := 1) (by simp)
    have p2 : w3.cell? ⟨B, 2, none⟩ = some (.int .i64 mt) := HP3.out.cellAt (i := 2) (by simp)
    have p3 : w3.cell? ⟨B, 3, none⟩ = some (.int .i64 mn) := HP3.out.cellAt (i := 3) (by simp)
    have g8 : (((m8 : Nat) : Int) == 0) = false := by rw [beq_eq_false_iff_ne]; omega
    have o0 : w3.cell? ⟨(w.heap.size + 1), 0, none⟩ = some (.int .i64 0) := HO3.out.cellAt (i := 0) (by simp)
    have o1 : w3.cell? ⟨(w.heap.size + 1), 1, none⟩ = some (.int .i64 0) := HO3.out.cellAt (i := 1) (by simp)
    have o2 : w3.cell? ⟨(w.heap.size + 1), 2, none⟩ = some (.int .i64 0) := HO3.out.cellAt (i := 2) (by simp)
    have o3 : w3.cell? ⟨(w.heap.size + 1), 3, none⟩ = some (.int .i64 0) := HO3.out.cellAt (i := 3) (by simp)
    have f0 : w3.frozen? ⟨(w.heap.size + 1), 0, none⟩ = false := HO3.out.frozenAt 0
    have f1 : w3.frozen? ⟨(w.heap.size + 1), 1, none⟩ = false := HO3.out.frozenAt 1
    have f2 : w3.frozen? ⟨(w.heap.size + 1), 2, none⟩ = false := HO3.out.frozenAt 2
    have f3 : w3.frozen? ⟨(w.heap.size + 1), 3, none⟩ = false := HO3.out.frozenAt 3
    go_wp2_with fail
    obtain ⟨W, hWW⟩ : ∃ W, W = ((((w3.setCell ⟨(w.heap.size + 1), 0, none⟩ (.int .i64 0)).setCell ⟨(w.heap.size + 1), 1, none⟩ (.int .i64 0)).setCell ⟨(w.heap.size + 1), 2, none⟩ (.int .i64 0)).setCell ⟨(w.heap.size + 1), 3, none⟩ (.int .i64 0)) := ⟨_, rfl⟩
    rw [← hWW]
    have hRS : Blk W ((w.heap.size + 1)) 24 [.int .i64 0, .int .i64 0, .int .i64 0, .int .i64 0] := by rw [hWW]; exact (HO3.out).set [.int .i64 0, .int .i64 0, .int .i64 0, .int .i64 0] rfl
    have hb := (show Below w.heap.size w W by rw [hWW]; exact Go.below_setCells (by first | omega | simp) [.int .i64 0, .int .i64 0, .int .i64 0, .int .i64 0] 0 _ HB3.out)
    clear hWW
    have z0 : W.cell? ⟨(w.heap.size + 1), 0, none⟩ = some (.int .i64 0) := hRS.cellAt (i := 0) (by simp)
    have z1 : W.cell? ⟨(w.heap.size + 1), 1, none⟩ = some (.int .i64 0) := hRS.cellAt (i := 1) (by simp)
    have z2 : W.cell? ⟨(w.heap.size + 1), 2, none⟩ = some (.int .i64 0) := hRS.cellAt (i := 2) (by simp)
    have z3 : W.cell? ⟨(w.heap.size + 1), 3, none⟩ = some (.int .i64 0) := hRS.cellAt (i := 3) (by simp)
    exact bodyPost_ret (v := .tuple #[.agg #[.int .i64 0, .int .i64 0, .int .i64 0, .int .i64 0], .bool false]) (by simp [results, Tryd.results11, go_sem, z0, z1, z2, z3]) rfl ⟨rfl, hb⟩
  · go_enter Tryd.func11, Tryd.ntmps11
    go_wp2_with fail
    refine (HM.out _ (Nat.lt_of_lt_of_le h0 HB.out.size) (HT.out.on HB.out h0)).mono ?_
    rintro y w1 ⟨rfl, hb⟩
    have HB1 := Lib.hid (below_transG HB.out hb)
    have HS1 := Lib.hid (HS.out.keep hb HS.out.lt)
    have HO1 := Lib.hid (HO.out.keep hb HO.out.lt)
    clear hb
    go_upto_region 2 with fail
    obtain ⟨W2, hW2⟩ : ∃ W, W = w1.alloc (.cells #[.int .i64 mc, .int .i64 ms, .int .i64 mt, .int .i64 mn] 24) := ⟨_, rfl⟩
    have hB2 : Below w.heap.size w W2 := by rw [hW2]; exact HB1.out.alloc (HB1.out.size) _
    have hS2 : Blk W2 w.heap.size 27 [.bool true, .int .u32 (N : Int)] := by rw [hW2]; exact HS1.out.keep ((Below.refl _ _).alloc (Nat.le_refl _) _) HS1.out.lt
    have hO2 : Blk W2 (w.heap.size + 1) 24 [.int .i64 0, .int .i64 0, .int .i64 0, .int .i64 0] := by rw [hW2]; exact HO1.out.keep ((Below.refl _ _).alloc (Nat.le_refl _) _) HO1.out.lt
    have hP2 : Blk W2 w1.heap.size 24 [.int .i64 mc, .int .i64 ms, .int .i64 mt, .int .i64 mn] := by rw [hW2]; exact Blk.new w1 24 [.int .i64 mc, .int .i64 ms, .int .i64 mt, .int .i64 mn]
    rw [← hW2]
    obtain ⟨B, hB⟩ : ∃ B, B = w1.heap.size := ⟨_, rfl⟩
    rw [← hB] at hP2 ⊢
    have HB2 := Lib.hid hB2; have HS2 := Lib.hid hS2; have HO2 := Lib.hid hO2; have HP2 := Lib.hid hP2
    clear hW2 hB2 hS2 hO2 hP2 hB HB1 HS1 HO1
    have q0 : W2.cell? ⟨w.heap.size, 0, none⟩ = some (.bool true) := HS2.out.cellAt (i := 0) (by simp)
    have q1 : W2.cell? ⟨w.heap.size, 1, none⟩ = some (.int .u32 (N : Int)) := HS2.out.cellAt (i := 1) (by simp)
    have p0 : W2.cell? ⟨B, 0, none⟩ = some (.int .i64 mc) := HP2.out.cellAt (i := 0) (by simp)
    have p1 : W2.cell? ⟨B, 1, none⟩ = some (.int .i64 ms) := HP2.out.cellAt (i := 1) (by simp)
    have p2 : W2.cell? ⟨B, 2, none⟩ = some (.int .i64 mt) := HP2.out.cellAt (i := 2) (by simp)
    have p3 : W2.cell? ⟨B, 3, none⟩ = some (.int .i64 mn) := HP2.out.cellAt (i := 3) (by simp)
    go_wp2_with fail
    refine (HI.out _).mono ?_
    rintro y w3 ⟨rfl, hb⟩
    have HB3 := Lib.hid (below_transG HB2.out hb)
    have HS3 := Lib.hid (HS2.out.keep hb HS2.out.lt)
    have HO3 := Lib.hid (HO2.out.keep hb HO2.out.lt)
    have HP3 := Lib.hid (HP2.out.keep hb HP2.out.lt)
    clear hb q0 q1 p0 p1 p2 p3
    have q0 : w3.cell? ⟨w.heap.size, 0, none⟩ = some (.bool true) := HS3.out.cellAt (i := 0) (by simp)
    have q1 : w3.cell? ⟨w.heap.size, 1, none⟩ = some (.int .u32 (N : Int)) := HS3.out.cellAt (i := 1) (by simp)
    have p0 : w3.cell? ⟨B, 0, none⟩ = some (.int .i64 mc) := HP3.out.cellAt (i := 0) (by simp)
    have p1 : w3.cell? ⟨B, 1, none⟩ = some (.int .i64 ms) := HP3.out.cellAt (i := 1) (by simp)
    have p2 : w3.cell? ⟨B, 2, none⟩ = some (.int .i64 mt) := HP3.out.cellAt (i := 2) (by simp)
    have p3 : w3.cell? ⟨B, 3, none⟩ = some (.int .i64 mn) := HP3.out.cellAt (i := 3) (by simp)
    have g8 : (N : Int) % 8 = 0 := by omega
    clear hm8
    go_wp2_with fail
    refine (HR.out _ _ _ _ _).mono ?_
    rintro y w4 ⟨rfl, hb⟩
    have HB4 := Lib.hid (below_transG HB3.out hb)
    have HO4 := Lib.hid (HO3.out.keep hb HO3.out.lt)
    have HP4 := Lib.hid (HP3.out.keep hb HP3.out.lt)
    clear hb q0 q1 p0 p1 p2 p3
    have p0 : w4.cell? ⟨B, 0, none⟩ = some (.int .i64 mc) := HP4.out.cellAt (i := 0) (by simp)
    have p1 : w4.cell? ⟨B, 1, none⟩ = some (.int .i64 ms) := HP4.out.cellAt (i := 1) (by simp)
    have p2 : w4.cell? ⟨B, 2, none⟩ = some (.int .i64 mt) := HP4.out.cellAt (i := 2) (by simp)
    have p3 : w4.cell? ⟨B, 3, none⟩ = some (.int .i64 mn) := HP4.out.cellAt (i := 3) (by simp)
    have o0 : w4.cell? ⟨(w.heap.size + 1), 0, none⟩ = some (.int .i64 0) := HO4.out.cellAt (i := 0) (by simp)
    have o1 : w4.cell? ⟨(w.heap.size + 1), 1, none⟩ = some (.int .i64 0) := HO4.out.cellAt (i := 1) (by simp)
    have o2 : w4.cell? ⟨(w.heap.size + 1), 2, none⟩ = some (.int .i64 0) := HO4.out.cellAt (i := 2) (by simp)
    have o3 : w4.cell? ⟨(w.heap.size + 1), 3, none⟩ = some (.int .i64 0) := HO4.out.cellAt (i := 3) (by simp)
    have f0 : w4.frozen? ⟨(w.heap.size + 1), 0, none⟩ = false := HO4.out.frozenAt 0
    have f1 : w4.frozen? ⟨(w.heap.size + 1), 1, none⟩ = false := HO4.out.frozenAt 1
    have f2 : w4.frozen? ⟨(w.heap.size + 1), 2, none⟩ = false := HO4.out.frozenAt 2
    have f3 : w4.frozen? ⟨(w.heap.size + 1), 3, none⟩ = false := HO4.out.frozenAt 3
    go_wp2_with fail
    obtain ⟨W, hWW⟩ : ∃ W, W = ((((w4.setCell ⟨(w.heap.size + 1), 0, none⟩ (.int .i64 0)).setCell ⟨(w.heap.size + 1), 1, none⟩ (.int .i64 0)).setCell ⟨(w.heap.size + 1), 2, none⟩ (.int .i64 0)).setCell ⟨(w.heap.size + 1), 3, none⟩ (.int .i64 0)) := ⟨_, rfl⟩
    rw [← hWW]
    have hRS : Blk W ((w.heap.size + 1)) 24 [.int .i64 0, .int .i64 0, .int .i64 0, .int .i64 0] := by rw [hWW]; exact (HO4.out).set [.int .i64 0, .int .i64 0, .int .i64 0, .int .i64 0] rfl
    have hb := (show Below w.heap.size w W by rw [hWW]; exact Go.below_setCells (by first | omega | simp) [.int .i64 0, .int .i64 0, .int .i64 0, .int .i64 0] 0 _ HB4.out)
    clear hWW
    have z0 : W.cell? ⟨(w.heap.size + 1), 0, none⟩ = some (.int .i64 0) := hRS.cellAt (i := 0) (by simp)
    have z1 : W.cell? ⟨(w.heap.size + 1), 1, none⟩ = some (.int .i64 0) := hRS.cellAt (i := 1) (by simp)
    have z2 : W.cell? ⟨(w.heap.size + 1), 2, none⟩ = some (.int .i64 0) := hRS.cellAt (i := 2) (by simp)
    have z3 : W.cell? ⟨(w.heap.size + 1), 3, none⟩ = some (.int .i64 0) := hRS.cellAt (i := 3) (by simp)
    exact bodyPost_ret (v := .tuple #[.agg #[.int .i64 0, .int .i64 0, .int .i64 0, .int .i64 0], .bool false]) (by simp [results, Tryd.results11, go_sem, z0, z1, z2, z3]) rfl ⟨rfl, hb⟩
  · go_enter Tryd.func11, Tryd.ntmps11
    go_wp2_with fail
    refine (HM.out _ (Nat.lt_of_lt_of_le h0 HB.out.size) (HT.out.on HB.out h0)).mono ?_
    rintro y w1 ⟨rfl, hb⟩
    have HB1 := Lib.hid (below_transG HB.out hb)
    have HS1 := Lib.hid (HS.out.keep hb HS.out.lt)
    have HO1 := Lib.hid (HO.out.keep hb HO.out.lt)
    clear hb
    go_upto_region 2 with fail
    obtain ⟨W2, hW2⟩ : ∃ W, W = w1.alloc (.cells #[.int .i64 mc, .int .i64 ms, .int .i64 mt, .int .i64 mn] 24) := ⟨_, rfl⟩
    have hB2 : Below w.heap.size w W2 := by rw [hW2]; exact HB1.out.alloc (HB1.out.size) _
    have hS2 : Blk W2 w.heap.size 27 [.bool true, .int .u32 (N : Int)] := by rw [hW2]; exact HS1.out.keep ((Below.refl _ _).alloc (Nat.le_refl _) _) HS1.out.lt
    have hO2 : Blk W2 (w.heap.size + 1) 24 [.int .i64 0, .int .i64 0, .int .i64 0, .int .i64 0] := by rw [hW2]; exact HO1.out.keep ((Below.refl _ _).alloc (Nat.le_refl _) _) HO1.out.lt
    have hP2 : Blk W2 w1.heap.size 24 [.int .i64 mc, .int .i64 ms, .int .i64 mt, .int .i64 mn] := by rw [hW2]; exact Blk.new w1 24 [.int .i64 mc, .int .i64 ms, .int .i64 mt, .int .i64 mn]
    rw [← hW2]
    obtain ⟨B, hB⟩ : ∃ B, B = w1.heap.size := ⟨_, rfl⟩
    rw [← hB] at hP2 ⊢
    have HB2 := Lib.hid hB2; have HS2 := Lib.hid hS2; have HO2 := Lib.hid hO2; have HP2 := Lib.hid hP2
    clear hW2 hB2 hS2 hO2 hP2 hB HB1 HS1 HO1
    have q0 : W2.cell? ⟨w.heap.size, 0, none⟩ = some (.bool true) := HS2.out.cellAt (i := 0) (by simp)
    have q1 : W2.cell? ⟨w.heap.size, 1, none⟩ = some (.int .u32 (N : Int)) := HS2.out.cellAt (i := 1) (by simp)
    have p0 : W2.cell? ⟨B, 0, none⟩ = some (.int .i64 mc) := HP2.out.cellAt (i := 0) (by simp)
    have p1 : W2.cell? ⟨B, 1, none⟩ = some (.int .i64 ms) := HP2.out.cellAt (i := 1) (by simp)
    have p2 : W2.cell? ⟨B, 2, none⟩ = some (.int .i64 mt) := HP2.out.cellAt (i := 2) (by simp)
    have p3 : W2.cell? ⟨B, 3, none⟩ = some (.int .i64 mn) := HP2.out.cellAt (i := 3) (by simp)
    go_wp2_with fail
    refine (HI.out _).mono ?_
    rintro y w3 ⟨rfl, hb⟩
    have HB3 := Lib.hid (below_transG HB2.out hb)
    have HS3 := Lib.hid (HS2.out.keep hb HS2.out.lt)
    have HO3 := Lib.hid (HO2.out.keep hb HO2.out.lt)
    have HP3 := Lib.hid (HP2.out.keep hb HP2.out.lt)
    clear hb q0 q1 p0 p1 p2 p3
    have q0 : w3.cell? ⟨w.heap.size, 0, none⟩ = some (.bool true) := HS3.out.cellAt (i := 0) (by simp)
    have q1 : w3.cell? ⟨w.heap.size, 1, none⟩ = some (.int .u32 (N : Int)) := HS3.out.cellAt (i := 1) (by simp)
    have p0 : w3.cell? ⟨B, 0, none⟩ = some (.int .i64 mc) := HP3.out.cellAt (i := 0) (by simp)
    have p1 : w3.cell? ⟨B, 1, none⟩ = some (.int .i64 ms) := HP3.out.cellAt (i := 1) (by simp)
    have p2 : w3.cell? ⟨B, 2, none⟩ = some (.int .i64 mt) := HP3.out.cellAt (i := 2) (by simp)
    have p3 : w3.cell? ⟨B, 3, none⟩ = some (.int .i64 mn) := HP3.out.cellAt (i := 3) (by simp)
    have g8 : (N : Int) % 8 = 0 := by omega
    clear hm8
    go_wp2_with fail
    refine (HR.out _ _ _ _ _).mono ?_
    rintro y w4 ⟨rfl, hb⟩
    have HB4 := Lib.hid (below_transG HB3.out hb)
    have HO4 := Lib.hid (HO3.out.keep hb HO3.out.lt)
    have HP4 := Lib.hid (HP3.out.keep hb HP3.out.lt)
    clear hb q0 q1 p0 p1 p2 p3
    have p0 : w4.cell? ⟨B, 0, none⟩ = some (.int .i64 mc) := HP4.out.cellAt (i := 0) (by simp)
    have p1 : w4.cell? ⟨B, 1, none⟩ = some (.int .i64 ms) := HP4.out.cellAt (i := 1) (by simp)
    have p2 : w4.cell? ⟨B, 2, none⟩ = some (.int .i64 mt) := HP4.out.cellAt (i := 2) (by simp)
    have p3 : w4.cell? ⟨B, 3, none⟩ = some (.int .i64 mn) := HP4.out.cellAt (i := 3) (by simp)
    have o0 : w4.cell? ⟨(w.heap.size + 1), 0, none⟩ = some (.int .i64 0) := HO4.out.cellAt (i := 0) (by simp)
    have o1 : w4.cell? ⟨(w.heap.size + 1), 1, none⟩ = some (.int .i64 0) := HO4.out.cellAt (i := 1) (by simp)
    have o2 : w4.cell? ⟨(w.heap.size + 1), 2, none⟩ = some (.int .i64 0) := HO4.out.cellAt (i := 2) (by simp)
    have o3 : w4.cell? ⟨(w.heap.size + 1), 3, none⟩ = some (.int .i64 0) := HO4.out.cellAt (i := 3) (by simp)
    have f0 : w4.frozen? ⟨(w.heap.size + 1), 0, none⟩ = false := HO4.out.frozenAt 0
    have f1 : w4.frozen? ⟨(w.heap.size + 1), 1, none⟩ = false := HO4.out.frozenAt 1
    have f2 : w4.frozen? ⟨(w.heap.size + 1), 2, none⟩ = false := HO4.out.frozenAt 2
    have f3 : w4.frozen? ⟨(w.heap.size + 1), 3, none⟩ = false := HO4.out.frozenAt 3
    go_wp2_with fail
    obtain ⟨W, hWW⟩ : ∃ W, W = ((((w4.setCell ⟨(w.heap.size + 1), 0, none⟩ (.int .i64 mc)).setCell ⟨(w.heap.size + 1), 1, none⟩ (.int .i64 ms)).setCell ⟨(w.heap.size + 1), 2, none⟩ (.int .i64 mt)).setCell ⟨(w.heap.size + 1), 3, none⟩ (.int .i64 mn)) := ⟨_, rfl⟩
    rw [← hWW]
    have hRS : Blk W ((w.heap.size + 1)) 24 [.int .i64 mc, .int .i64 ms, .int .i64 mt, .int .i64 mn] := by rw [hWW]; exact (HO4.out).set [.int .i64 mc, .int .i64 ms, .int .i64 mt, .int .i64 mn] rfl
    have hb := (show Below w.heap.size w W by rw [hWW]; exact Go.below_setCells (by first | omega | simp) [.int .i64 mc, .int .i64 ms, .int .i64 mt, .int .i64 mn] 0 _ HB4.out)
    clear hWW
    have z0 : W.cell? ⟨(w.heap.size + 1), 0, none⟩ = some (.int .i64 mc) := hRS.cellAt (i := 0) (by simp)
    have z1 : W.cell? ⟨(w.heap.size + 1), 1, none⟩ = some (.int .i64 ms) := hRS.cellAt (i := 1) (by simp)
    have z2 : W.cell? ⟨(w.heap.size + 1), 2, none⟩ = some (.int .i64 mt) := hRS.cellAt (i := 2) (by simp)
    have z3 : W.cell? ⟨(w.heap.size + 1), 3, none⟩ = some (.int .i64 mn) := hRS.cellAt (i := 3) (by simp)
    exact bodyPost_ret (v := .tuple #[.agg #[.int .i64 mc, .int .i64 ms, .int .i64 mt, .int .i64 mn], .bool true]) (by simp [results, Tryd.results11, go_sem, z0, z1, z2, z3]) rfl ⟨rfl, hb⟩
end Go.Proofs.YtmealljdecancaaDoor
