/- The code of package inbox: what is taken out. Conditions: not more than a thousand frames wait. -/
import Derived.Test.YtmlnobiakfapcabInd
namespace Go.Proofs.Ytmlnobiakfapcab
open Go.RowKit
theorem Kp.stepN {B : Nat} {v : Value} {w w' w'' : World} (h : Kp B v w w') (hb : Below w.heap.size w' w'') : Kp B v w w'' :=
  ⟨hb.os.trans h.os, hb.tape.trans h.tape, hb.output.trans h.output, Nat.le_trans h.size hb.size, fun k hk hB hv => (hb.block k hk).trans (h.block k hk hB hv)⟩
theorem IA.onN {W X : World} {T : TypeId} {B room N : Nat} {F : List Fl} {fv : Value} {Q : List SD} {v : Value} {o : Bool} (h : IA W T B room F fv Q v o) (hb : Below N W X) (h1 : B < N) (h2 : ∀ g, fv.ownBlock = some g → g < N) (h3 : ∀ g, v.ownBlock = some g → g < N) : IA X T B room F fv Q v o :=
  ⟨h.blk.keep hb h1, h.fil.kept hb h2, fun g hg => ⟨Nat.lt_of_lt_of_le (h.flt g hg).1 hb.size, (h.flt g hg).2⟩, h.row.keep hb h3, h.own⟩
set_option maxRecDepth 100000 in
set_option maxHeartbeats 4000000 in
theorem pop_none (B room : Nat) (F : List Fl) (fv : Value) (v : Value) (o : Bool) (w : World) (hI : IA w 155 B room F fv [] v o) :
    Calls Try.prog 54 #[.pointer (some ⟨B, 0, none⟩)] w fun y w' => y = .returned (.tuple #[SD.zero.V, .bool false]) ∧ IA w' 155 B room F fv [] v o ∧ Below w.heap.size w w' := by
  obtain ⟨W0, hW0⟩ : ∃ W0, W0 = w.alloc (.cells #[.bool false, .int .u32 0, .bool false, .int .i64 0, .int .u8 0, .int .u8 0, .int .u8 0, .int .u8 0, .int .u8 0, .int .u8 0, .int .u8 0, .int .u8 0, .int .i64 0, .int .i64 0] 48) := ⟨_, rfl⟩
  have hb0 : Below w.heap.size w W0 := by rw [hW0]; exact (Below.refl _ w).alloc (Nat.le_refl _) _
  have hS := (show Blk W0 w.heap.size 48 [.bool false, .int .u32 0, .bool false, .int .i64 0, .int .u8 0, .int .u8 0, .int .u8 0, .int .u8 0, .int .u8 0, .int .u8 0, .int .u8 0, .int .u8 0, .int .i64 0, .int .i64 0] by rw [hW0]; exact Blk.new w _ [.bool false, .int .u32 0, .bool false, .int .i64 0, .int .u8 0, .int .u8 0, .int .u8 0, .int .u8 0, .int .u8 0, .int .u8 0, .int .u8 0, .int .u8 0, .int .i64 0, .int .i64 0])
  have HI := Lib.hid hI
  have HI0 := Lib.hid (hI.on hb0)
  have HB0 := Lib.hid hb0
  have HL := Lib.hid (ilen_any B room F fv [] v o W0 HI0.out)
  obtain ⟨D, hD⟩ : ∃ D, D = w.heap.size := ⟨_, rfl⟩
  have HD := Lib.hid hD
  rw [← hD] at hS
  have HSB := Lib.hid hS
  have d0 := hS.cellAt (i := 0) (by simp)
  have f0 := hS.frozenAt 0
  have d1 := hS.cellAt (i := 1) (by simp)
  have f1 := hS.frozenAt 1
  have d2 := hS.cellAt (i := 2) (by simp)
  have f2 := hS.frozenAt 2
  have d3 := hS.cellAt (i := 3) (by simp)
  have f3 := hS.frozenAt 3
  have d4 := hS.cellAt (i := 4) (by simp)
  have f4 := hS.frozenAt 4
  have d5 := hS.cellAt (i := 5) (by simp)
  have f5 := hS.frozenAt 5
  have d6 := hS.cellAt (i := 6) (by simp)
  have f6 := hS.frozenAt 6
  have d7 := hS.cellAt (i := 7) (by simp)
  have f7 := hS.frozenAt 7
  have d8 := hS.cellAt (i := 8) (by simp)
  have f8 := hS.frozenAt 8
  have d9 := hS.cellAt (i := 9) (by simp)
  have f9 := hS.frozenAt 9
  have d10 := hS.cellAt (i := 10) (by simp)
  have f10 := hS.frozenAt 10
  have d11 := hS.cellAt (i := 11) (by simp)
  have f11 := hS.frozenAt 11
  have d12 := hS.cellAt (i := 12) (by simp)
  have f12 := hS.frozenAt 12
  have d13 := hS.cellAt (i := 13) (by simp)
  have f13 := hS.frozenAt 13
  simp only [List.getElem_cons_zero, List.getElem_cons_succ] at d0 d1 d2 d3 d4 d5 d6 d7 d8 d9 d10 d11 d12 d13
  clear hS hI hb0
  go_enter Try.func54, Try.ntmps54
  go_upto_region 1 with fail
  rw [← hW0, ← hD]
  clear hW0 hD
  go_wp2_with fail
  refine HL.out.mono ?_
  rintro y w1 ⟨rfl, rfl⟩
  have i0 : (((0 : Nat) : Int) == 0) = true := rfl
  go_wp2_with fail
  refine bodyPost_ret (v := .tuple #[.agg #[.bool false, .int .u32 0, .bool false, .int .i64 0, .int .u8 0, .int .u8 0, .int .u8 0, .int .u8 0, .int .u8 0, .int .u8 0, .int .u8 0, .int .u8 0, .int .i64 0, .int .i64 0], .bool false]) (by simp [results, Try.results54, go_sem, World.cell?_setCell_same', d0, d1, d2, d3, d4, d5, d6, d7, d8, d9, d10, d11, d12, d13]) rfl ?_
  have hb1 := below14 (n := w.heap.size) (B := D) (by rw [HD.out]; exact Nat.le_refl _) HB0.out (.bool false) (.int .u32 0) (.bool false) (.int .i64 0) (.int .u8 0) (.int .u8 0) (.int .u8 0) (.int .u8 0) (.int .u8 0) (.int .u8 0) (.int .u8 0) (.int .u8 0) (.int .i64 0) (.int .i64 0)
  exact ⟨rfl, HI.out.on hb1, hb1⟩
set_option maxRecDepth 100000 in
set_option maxHeartbeats 4000000 in
theorem pop_some (B room : Nat) (F : List Fl) (fv : Value) (s : SD) (Q : List SD) (v : Value) (o : Bool) (hQ : Q.length ≤ 1000) (w : World) (hI : IA w 155 B room F fv (s :: Q) v o) :
    Calls Try.prog 54 #[.pointer (some ⟨B, 0, none⟩)] w fun y w' => ∃ v', y = .returned (.tuple #[s.V, .bool true]) ∧ IA w' 155 B room F fv Q v' o ∧ Kp B v w w' ∧ Nx w v v' := by
  obtain ⟨W0, hW0⟩ : ∃ W0, W0 = w.alloc (.cells #[.bool false, .int .u32 0, .bool false, .int .i64 0, .int .u8 0, .int .u8 0, .int .u8 0, .int .u8 0, .int .u8 0, .int .u8 0, .int .u8 0, .int .u8 0, .int .i64 0, .int .i64 0] 48) := ⟨_, rfl⟩
  have hb0 : Below w.heap.size w W0 := by rw [hW0]; exact (Below.refl _ w).alloc (Nat.le_refl _) _
  have HSB := Lib.hid (show Blk W0 w.heap.size 48 [.bool false, .int .u32 0, .bool false, .int .i64 0, .int .u8 0, .int .u8 0, .int .u8 0, .int .u8 0, .int .u8 0, .int .u8 0, .int .u8 0, .int .u8 0, .int .i64 0, .int .i64 0] by rw [hW0]; exact Blk.new w _ [.bool false, .int .u32 0, .bool false, .int .i64 0, .int .u8 0, .int .u8 0, .int .u8 0, .int .u8 0, .int .u8 0, .int .u8 0, .int .u8 0, .int .u8 0, .int .i64 0, .int .i64 0])
  have HI := Lib.hid hI
  have hI0 := hI.on hb0
  have HI0 := Lib.hid hI0
  have HB0 := Lib.hid hb0
  have HL := Lib.hid (ilen_any B room F fv (s :: Q) v o W0 HI0.out)
  have HZ0 := Lib.hid (show w.heap.size < W0.heap.size from HSB.out.lt)
  obtain ⟨a, cap, fa, fcap, rfl, rfl⟩ := hI.shape
  obtain ⟨g, off, rfl, hg, hnc, hcm, _, hcell, hdrop, hzero⟩ := Rw.front (n := Q.length) hI0.row
  have HDR := Lib.hid hdrop; have HZR := Lib.hid hzero
  obtain ⟨N, hN⟩ : ∃ N, N = Q.length + 1 := ⟨_, rfl⟩
  have HN := Lib.hid hN
  have hsn : (s :: Q).length = N := by rw [hN]; rfl
  rw [hsn] at HL HI HI0 hI0 ⊢
  obtain ⟨D, hD⟩ : ∃ D, D = w.heap.size := ⟨_, rfl⟩
  have HD := Lib.hid hD
  obtain ⟨e, n, q, l, x0, x1, x2, x3, x4, x5, x6, x7, f, t⟩ := s
  unfold SD.V
  simp only
  have e0 : W0.cell? ⟨g, off + 0, none⟩ = some (.bool e) := hcell 0 _ rfl
  have e1 : W0.cell? ⟨g, off + 1, none⟩ = some (.int .u32 n) := hcell 1 _ rfl
  have e2 : W0.cell? ⟨g, off + 2, none⟩ = some (.bool q) := hcell 2 _ rfl
  have e3 : W0.cell? ⟨g, off + 3, none⟩ = some (.int .i64 l) := hcell 3 _ rfl
  have e4 : W0.cell? ⟨g, off + 4, none⟩ = some (.int .u8 x0) := hcell 4 _ rfl
  have e5 : W0.cell? ⟨g, off + 5, none⟩ = some (.int .u8 x1) := hcell 5 _ rfl
  have e6 : W0.cell? ⟨g, off + 6, none⟩ = some (.int .u8 x2) := hcell 6 _ rfl
  have e7 : W0.cell? ⟨g, off + 7, none⟩ = some (.int .u8 x3) := hcell 7 _ rfl
  have e8 : W0.cell? ⟨g, off + 8, none⟩ = some (.int .u8 x4) := hcell 8 _ rfl
  have e9 : W0.cell? ⟨g, off + 9, none⟩ = some (.int .u8 x5) := hcell 9 _ rfl
  have e10 : W0.cell? ⟨g, off + 10, none⟩ = some (.int .u8 x6) := hcell 10 _ rfl
  have e11 : W0.cell? ⟨g, off + 11, none⟩ = some (.int .u8 x7) := hcell 11 _ rfl
  have e12 : W0.cell? ⟨g, off + 12, none⟩ = some (.int .i64 f) := hcell 12 _ rfl
  have e13 : W0.cell? ⟨g, off + 13, none⟩ = some (.int .i64 t) := hcell 13 _ rfl
  rw [Nat.add_zero] at e0
  have c2 : W0.cell? ⟨B, 2, none⟩ = some (.slice (some ⟨g, off, none⟩) N cap) := hI0.blk.cellAt (i := 2) (by simp)
  have g2 : W0.frozen? ⟨B, 2, none⟩ = false := hI0.blk.frozenAt 2
  have hBl : B < W0.heap.size := hI0.lt
  have i0 : ((N : Int) == 0) = false := by rw [beq_eq_false_iff_ne]; omega
  have i1 : (0 : Int) < (N : Int) := by omega
  have HNC := Lib.hid (show N ≤ cap by omega)
  rw [← hD] at HSB HZ0
  clear hI hI0 hb0 hcell hdrop hzero hnc hcm hN hsn
  go_enter Try.func54, Try.ntmps54
  go_upto_region 1 with fail
  rw [← hW0, ← hD]
  clear hW0 hD
  go_wp2_with fail
  refine HL.out.mono ?_
  rintro y w1 ⟨rfl, rfl⟩
  go_wp2_with fail
  go_cut [4, 5] (fun s4 s5 wx => ∃ D3, s4 = .pointer (some ⟨D3, 0, none⟩) ∧ s5 = .int .i64 (N : Int) ∧ Blk wx D3 48 [.bool e, .int .u32 n, .bool q, .int .i64 l, .int .u8 x0, .int .u8 x1, .int .u8 x2, .int .u8 x3, .int .u8 x4, .int .u8 x5, .int .u8 x6, .int .u8 x7, .int .i64 f, .int .i64 t] ∧ W0.heap.size ≤ D3 ∧ Below W0.heap.size W0 wx)
  case first =>
    go_region
    go_wp2_with fail
    go_meet
    exact ⟨W0.heap.size, rfl, rfl, (show Blk (W0.alloc (.cells ([.bool e, .int .u32 n, .bool q, .int .i64 l, .int .u8 x0, .int .u8 x1, .int .u8 x2, .int .u8 x3, .int .u8 x4, .int .u8 x5, .int .u8 x6, .int .u8 x7, .int .i64 f, .int .i64 t] : List Value).toArray 48)) W0.heap.size 48 [.bool e, .int .u32 n, .bool q, .int .i64 l, .int .u8 x0, .int .u8 x1, .int .u8 x2, .int .u8 x3, .int .u8 x4, .int .u8 x5, .int .u8 x6, .int .u8 x7, .int .i64 f, .int .i64 t] from Blk.new W0 48 [.bool e, .int .u32 n, .bool q, .int .i64 l, .int .u8 x0, .int .u8 x1, .int .u8 x2, .int .u8 x3, .int .u8 x4, .int .u8 x5, .int .u8 x6, .int .u8 x7, .int .i64 f, .int .i64 t]), Nat.le_refl _, ((Below.refl _ W0).alloc (Nat.le_refl _) (.cells #[.bool e, .int .u32 n, .bool q, .int .i64 l, .int .u8 x0, .int .u8 x1, .int .u8 x2, .int .u8 x3, .int .u8 x4, .int .u8 x5, .int .u8 x6, .int .u8 x7, .int .i64 f, .int .i64 t] 48)).drew⟩
  case rest =>
  obtain ⟨D3, rfl, rfl, hS3, hD3, hb3⟩ := hcut
  have HIc := Lib.hid (HI0.out.on hb3)
  have HBc := Lib.hid (HB0.out.trans (hb3.mono HB0.out.size))
  have HSc := Lib.hid hS3; have HDc := Lib.hid (show D < D3 by have := HZ0.out; omega)
  have HSDc := Lib.hid (HSB.out.keep hb3 HZ0.out)
  have HDR3 := Lib.hid (fun c h1 h2 => (HDR.out c h1 h2).keep hb3 (fun k hk => by have e : g = k := Option.some.inj hk; rw [← e]; exact hg))
  have HZR3 := Lib.hid (HZR.out.keep hb3 (fun k hk => by have e : g = k := Option.some.inj hk; rw [← e]; exact hg))
  have HOWN := Lib.hid (show (Value.slice (some ⟨g, off, none⟩) N cap).ownBlock ≠ some B from HI.out.own)
  clear hS3 hD3 hb3 e0 e1 e2 e3 e4 e5 e6 e7 e8 e9 e10 e11 e12 e13 c2 g2 i0 hg hBl
  have c2 : wc.cell? ⟨B, 2, none⟩ = some (.slice (some ⟨g, off, none⟩) N cap) := HIc.out.blk.cellAt (i := 2) (by simp)
  have g2 : wc.frozen? ⟨B, 2, none⟩ = false := HIc.out.blk.frozenAt 2
  have j1 : (N : Int) ≤ (cap : Int) := by have := HNC.out; omega
  have j2 : (1 : Int) ≤ (N : Int) := by omega
  have j3 : (0 : Int) ≤ (N : Int) := by omega
  by_cases hN1 : N = 1
  · subst hN1
    go_upto_region 5 with fail
    obtain ⟨X, hX⟩ : ∃ X, X = wc.setCell ⟨B, 2, none⟩ (.slice (some ⟨g, off, none⟩) 0 0) := ⟨_, rfl⟩
    rw [← hX]
    have HRW := Lib.hid (show Rw wc 14 (.slice (some ⟨g, off, none⟩) 0 0) (stC Q) from (by
      have h0 : Q = [] := List.eq_nil_of_length_eq_zero (by have := HN.out; omega)
      rw [h0]; exact HZR3.out))
    have HNX := Lib.hid (show Nx w (.slice (some ⟨g, off, none⟩) 1 cap) (.slice (some ⟨g, off, none⟩) 0 0) from fun k hk => .inl (by have e : g = k := Option.some.inj hk; rw [← e]; rfl))
    have HIX := Lib.hid (show IA X 155 B room F (.slice fa F.length fcap) Q (.slice (some ⟨g, off, none⟩) 0 0) o by
      rw [hX]
      exact IA.put HIc.out (Nat.le_refl _) (fun _ _ _ => rfl) HRW.out (fun k hk => .inl (by have e : g = k := Option.some.inj hk; rw [← e]; rfl)))
    have HKX := Lib.hid (show Kp B (.slice (some ⟨g, off, none⟩) 1 cap) w X by rw [hX]; exact (Kp.of_below HBc.out).set 2 _)
    have hBD3 : D3 ≠ B := fun e => by have := HI.out.lt; have := HD.out; have := HDc.out; omega
    have hBD : D ≠ B := fun e => by have := HI.out.lt; have := HD.out; omega
    have hS3 : Blk X D3 48 [.bool e, .int .u32 n, .bool q, .int .i64 l, .int .u8 x0, .int .u8 x1, .int .u8 x2, .int .u8 x3, .int .u8 x4, .int .u8 x5, .int .u8 x6, .int .u8 x7, .int .i64 f, .int .i64 t] := by rw [hX]; exact HSc.out.puts (fun e => hBD3 e.symm) 2 _
    have hS0 : Blk X D 48 [.bool false, .int .u32 0, .bool false, .int .i64 0, .int .u8 0, .int .u8 0, .int .u8 0, .int .u8 0, .int .u8 0, .int .u8 0, .int .u8 0, .int .u8 0, .int .i64 0, .int .i64 0] := by rw [hX]; exact HSDc.out.puts (fun e => hBD e.symm) 2 _
    clear hX c2 g2
    have k0 := hS3.cellAt (i := 0) (by simp)
    have m0 := hS3.frozenAt 0
    have k1 := hS3.cellAt (i := 1) (by simp)
    have m1 := hS3.frozenAt 1
    have k2 := hS3.cellAt (i := 2) (by simp)
    have m2 := hS3.frozenAt 2
    have k3 := hS3.cellAt (i := 3) (by simp)
    have m3 := hS3.frozenAt 3
    have k4 := hS3.cellAt (i := 4) (by simp)
    have m4 := hS3.frozenAt 4
    have k5 := hS3.cellAt (i := 5) (by simp)
    have m5 := hS3.frozenAt 5
    have k6 := hS3.cellAt (i := 6) (by simp)
    have m6 := hS3.frozenAt 6
    have k7 := hS3.cellAt (i := 7) (by simp)
    have m7 := hS3.frozenAt 7
    have k8 := hS3.cellAt (i := 8) (by simp)
    have m8 := hS3.frozenAt 8
    have k9 := hS3.cellAt (i := 9) (by simp)
    have m9 := hS3.frozenAt 9
    have k10 := hS3.cellAt (i := 10) (by simp)
    have m10 := hS3.frozenAt 10
    have k11 := hS3.cellAt (i := 11) (by simp)
    have m11 := hS3.frozenAt 11
    have k12 := hS3.cellAt (i := 12) (by simp)
    have m12 := hS3.frozenAt 12
    have k13 := hS3.cellAt (i := 13) (by simp)
    have m13 := hS3.frozenAt 13
    simp only [List.getElem_cons_zero, List.getElem_cons_succ] at k0 k1 k2 k3 k4 k5 k6 k7 k8 k9 k10 k11 k12 k13
    have d0 := hS0.cellAt (i := 0) (by simp)
    have f0 := hS0.frozenAt 0
    have d1 := hS0.cellAt (i := 1) (by simp)
    have f1 := hS0.frozenAt 1
    have d2 := hS0.cellAt (i := 2) (by simp)
    have f2 := hS0.frozenAt 2
    have d3 := hS0.cellAt (i := 3) (by simp)
    have f3 := hS0.frozenAt 3
    have d4 := hS0.cellAt (i := 4) (by simp)
    have f4 := hS0.frozenAt 4
    have d5 := hS0.cellAt (i := 5) (by simp)
    have f5 := hS0.frozenAt 5
    have d6 := hS0.cellAt (i := 6) (by simp)
    have f6 := hS0.frozenAt 6
    have d7 := hS0.cellAt (i := 7) (by simp)
    have f7 := hS0.frozenAt 7
    have d8 := hS0.cellAt (i := 8) (by simp)
    have f8 := hS0.frozenAt 8
    have d9 := hS0.cellAt (i := 9) (by simp)
    have f9 := hS0.frozenAt 9
    have d10 := hS0.cellAt (i := 10) (by simp)
    have f10 := hS0.frozenAt 10
    have d11 := hS0.cellAt (i := 11) (by simp)
    have f11 := hS0.frozenAt 11
    have d12 := hS0.cellAt (i := 12) (by simp)
    have f12 := hS0.frozenAt 12
    have d13 := hS0.cellAt (i := 13) (by simp)
    have f13 := hS0.frozenAt 13
    simp only [List.getElem_cons_zero, List.getElem_cons_succ] at d0 d1 d2 d3 d4 d5 d6 d7 d8 d9 d10 d11 d12 d13
    clear hS3 hS0
    go_wp2_with fail
    refine bodyPost_ret (v := .tuple #[.agg #[.bool e, .int .u32 n, .bool q, .int .i64 l, .int .u8 x0, .int .u8 x1, .int .u8 x2, .int .u8 x3, .int .u8 x4, .int .u8 x5, .int .u8 x6, .int .u8 x7, .int .i64 f, .int .i64 t], .bool true]) (by simp [results, Try.results54, go_sem, World.cell?_setCell_same', d0, d1, d2, d3, d4, d5, d6, d7, d8, d9, d10, d11, d12, d13]) rfl ?_
    have hb14 := below14 (n := w.heap.size) (B := D) (by rw [HD.out]; exact Nat.le_refl _) (Below.refl w.heap.size X) (.bool e) (.int .u32 n) (.bool q) (.int .i64 l) (.int .u8 x0) (.int .u8 x1) (.int .u8 x2) (.int .u8 x3) (.int .u8 x4) (.int .u8 x5) (.int .u8 x6) (.int .u8 x7) (.int .i64 f) (.int .i64 t)
    exact ⟨_, rfl, HIX.out.onN hb14 HI.out.lt (fun g hg => (HI.out.flt g hg).1) (fun k hk => HI.out.row.lt k (by have e : g = k := Option.some.inj hk; rw [← e]; rfl)), HKX.out.stepN hb14, HNX.out⟩
  · have j4 : (1 : Int) < (N : Int) := by omega
    go_upto_region 5 with fail
    obtain ⟨X, hX⟩ : ∃ X, X = wc.setCell ⟨B, 2, none⟩ (.slice (some ⟨g, off + 14, none⟩) (N - 1) (N - 1)) := ⟨_, rfl⟩
    rw [← hX]
    have HRW := Lib.hid (show Rw wc 14 (.slice (some ⟨g, off + 14, none⟩) (N - 1) (N - 1)) (stC Q) from (by
      have h1 : N - 1 = Q.length := by have := HN.out; omega
      rw [h1]; exact HDR3.out Q.length (Nat.le_refl _) (by have := HNC.out; have := HN.out; omega)))
    have HNX := Lib.hid (show Nx w (.slice (some ⟨g, off, none⟩) N cap) (.slice (some ⟨g, off + 14, none⟩) (N - 1) (N - 1)) from fun k hk => .inl (by have e : g = k := Option.some.inj hk; rw [← e]; rfl))
    have HIX := Lib.hid (show IA X 155 B room F (.slice fa F.length fcap) Q (.slice (some ⟨g, off + 14, none⟩) (N - 1) (N - 1)) o by
      rw [hX]
      exact IA.put HIc.out (Nat.le_refl _) (fun _ _ _ => rfl) HRW.out (fun k hk => .inl (by have e : g = k := Option.some.inj hk; rw [← e]; rfl)))
    have HKX := Lib.hid (show Kp B (.slice (some ⟨g, off, none⟩) N cap) w X by rw [hX]; exact (Kp.of_below HBc.out).set 2 _)
    have hBD3 : D3 ≠ B := fun e => by have := HI.out.lt; have := HD.out; have := HDc.out; omega
    have hBD : D ≠ B := fun e => by have := HI.out.lt; have := HD.out; omega
    have hS3 : Blk X D3 48 [.bool e, .int .u32 n, .bool q, .int .i64 l, .int .u8 x0, .int .u8 x1, .int .u8 x2, .int .u8 x3, .int .u8 x4, .int .u8 x5, .int .u8 x6, .int .u8 x7, .int .i64 f, .int .i64 t] := by rw [hX]; exact HSc.out.puts (fun e => hBD3 e.symm) 2 _
    have hS0 : Blk X D 48 [.bool false, .int .u32 0, .bool false, .int .i64 0, .int .u8 0, .int .u8 0, .int .u8 0, .int .u8 0, .int .u8 0, .int .u8 0, .int .u8 0, .int .u8 0, .int .i64 0, .int .i64 0] := by rw [hX]; exact HSDc.out.puts (fun e => hBD e.symm) 2 _
    clear hX c2 g2
    have k0 := hS3.cellAt (i := 0) (by simp)
    have m0 := hS3.frozenAt 0
    have k1 := hS3.cellAt (i := 1) (by simp)
    have m1 := hS3.frozenAt 1
    have k2 := hS3.cellAt (i := 2) (by simp)
    have m2 := hS3.frozenAt 2
    have k3 := hS3.cellAt (i := 3) (by simp)
    have m3 := hS3.frozenAt 3
    have k4 := hS3.cellAt (i := 4) (by simp)
    have m4 := hS3.frozenAt 4
    have k5 := hS3.cellAt (i := 5) (by simp)
    have m5 := hS3.frozenAt 5
    have k6 := hS3.cellAt (i := 6) (by simp)
    have m6 := hS3.frozenAt 6
    have k7 := hS3.cellAt (i := 7) (by simp)
    have m7 := hS3.frozenAt 7
    have k8 := hS3.cellAt (i := 8) (by simp)
    have m8 := hS3.frozenAt 8
    have k9 := hS3.cellAt (i := 9) (by simp)
    have m9 := hS3.frozenAt 9
    have k10 := hS3.cellAt (i := 10) (by simp)
    have m10 := hS3.frozenAt 10
    have k11 := hS3.cellAt (i := 11) (by simp)
    have m11 := hS3.frozenAt 11
    have k12 := hS3.cellAt (i := 12) (by simp)
    have m12 := hS3.frozenAt 12
    have k13 := hS3.cellAt (i := 13) (by simp)
    have m13 := hS3.frozenAt 13
    simp only [List.getElem_cons_zero, List.getElem_cons_succ] at k0 k1 k2 k3 k4 k5 k6 k7 k8 k9 k10 k11 k12 k13
    have d0 := hS0.cellAt (i := 0) (by simp)
    have f0 := hS0.frozenAt 0
    have d1 := hS0.cellAt (i := 1) (by simp)
    have f1 := hS0.frozenAt 1
    have d2 := hS0.cellAt (i := 2) (by simp)
    have f2 := hS0.frozenAt 2
    have d3 := hS0.cellAt (i := 3) (by simp)
    have f3 := hS0.frozenAt 3
    have d4 := hS0.cellAt (i := 4) (by simp)
    have f4 := hS0.frozenAt 4
    have d5 := hS0.cellAt (i := 5) (by simp)
    have f5 := hS0.frozenAt 5
    have d6 := hS0.cellAt (i := 6) (by simp)
    have f6 := hS0.frozenAt 6
    have d7 := hS0.cellAt (i := 7) (by simp)
    have f7 := hS0.frozenAt 7
    have d8 := hS0.cellAt (i := 8) (by simp)
    have f8 := hS0.frozenAt 8
    have d9 := hS0.cellAt (i := 9) (by simp)
    have f9 := hS0.frozenAt 9
    have d10 := hS0.cellAt (i := 10) (by simp)
    have f10 := hS0.frozenAt 10
    have d11 := hS0.cellAt (i := 11) (by simp)
    have f11 := hS0.frozenAt 11
    have d12 := hS0.cellAt (i := 12) (by simp)
    have f12 := hS0.frozenAt 12
    have d13 := hS0.cellAt (i := 13) (by simp)
    have f13 := hS0.frozenAt 13
    simp only [List.getElem_cons_zero, List.getElem_cons_succ] at d0 d1 d2 d3 d4 d5 d6 d7 d8 d9 d10 d11 d12 d13
    clear hS3 hS0
    go_wp2_with fail
    refine bodyPost_ret (v := .tuple #[.agg #[.bool e, .int .u32 n, .bool q, .int .i64 l, .int .u8 x0, .int .u8 x1, .int .u8 x2, .int .u8 x3, .int .u8 x4, .int .u8 x5, .int .u8 x6, .int .u8 x7, .int .i64 f, .int .i64 t], .bool true]) (by simp [results, Try.results54, go_sem, World.cell?_setCell_same', d0, d1, d2, d3, d4, d5, d6, d7, d8, d9, d10, d11, d12, d13]) rfl ?_
    have hb14 := below14 (n := w.heap.size) (B := D) (by rw [HD.out]; exact Nat.le_refl _) (Below.refl w.heap.size X) (.bool e) (.int .u32 n) (.bool q) (.int .i64 l) (.int .u8 x0) (.int .u8 x1) (.int .u8 x2) (.int .u8 x3) (.int .u8 x4) (.int .u8 x5) (.int .u8 x6) (.int .u8 x7) (.int .i64 f) (.int .i64 t)
    exact ⟨_, rfl, HIX.out.onN hb14 HI.out.lt (fun g hg => (HI.out.flt g hg).1) (fun k hk => HI.out.row.lt k (by have e : g = k := Option.some.inj hk; rw [← e]; rfl)), HKX.out.stepN hb14, HNX.out⟩
end Go.Proofs.Ytmlnobiakfapcab
