/- The document's own inbox: what each call answers, and what is where behind it. Conditions: not more than a thousand frames wait. -/
import Derived.Test.YtifpifhaajkncaaIne
namespace Go.Proofs.Ytifpifhaajkncaa
open Go.RowKit
set_option maxRecDepth 100000 in
set_option maxHeartbeats 4000000 in
theorem rlets_any (B room : Nat) (F : List Fl) (fv : Value) (Q : List SD) (v : Value) (o : Bool) (e : Bool) (n : Int) (q : Bool) (l x0 x1 x2 x3 x4 x5 x6 x7 : Int) (hF : F.length ≤ 8) (w : World) (hI : IA w 78 B room F fv Q v o) :
    Calls Try.prog 33 #[.pointer (some ⟨B, 0, none⟩), .agg #[.bool e, .int .u32 n, .bool q, .int .i64 l, .int .u8 x0, .int .u8 x1, .int .u8 x2, .int .u8 x3, .int .u8 x4, .int .u8 x5, .int .u8 x6, .int .u8 x7]] w fun y w' => y = .returned (.bool (letsB F e n)) ∧ Below w.heap.size w w' := by
  obtain ⟨W0, hW0⟩ : ∃ W0, W0 = w.alloc (.cells #[.bool e, .int .u32 n, .bool q, .int .i64 l, .int .u8 x0, .int .u8 x1, .int .u8 x2, .int .u8 x3, .int .u8 x4, .int .u8 x5, .int .u8 x6, .int .u8 x7] 37) := ⟨_, rfl⟩
  have hb0 : Below w.heap.size w W0 := by rw [hW0]; exact (Below.refl _ w).alloc (Nat.le_refl _) _
  have HI0 := Lib.hid (hI.on hb0)
  have hz : w.heap.size < W0.heap.size := by rw [hW0]; simp
  have k0 : W0.cell? ⟨w.heap.size, 0, none⟩ = some (.bool e) := by rw [hW0]; simp
  have k1 : W0.cell? ⟨w.heap.size, 1, none⟩ = some (.int .u32 n) := by rw [hW0]; simp
  obtain ⟨a, cap, fa, fcap, rfl, rfl⟩ := hI.shape
  have HB0 := Lib.hid hb0
  obtain ⟨D, hD⟩ : ∃ D, D = w.heap.size := ⟨_, rfl⟩
  rw [← hD] at hz k0 k1
  have HK0 := Lib.hid k0; have HK1 := Lib.hid k1; have HZ := Lib.hid hz
  obtain ⟨R, hR⟩ : ∃ R, R = F.any (letF e n) := ⟨_, rfl⟩
  have HL := Lib.hid (show letsB F e n = (F.isEmpty || R) by rw [hR]; rfl)
  have HR := Lib.hid hR
  obtain ⟨V, hV⟩ : ∃ V, V = letsB F e n := ⟨_, rfl⟩
  rw [← hV] at HL ⊢
  clear hI hb0 hz k0 k1 hR hV
  go_enter Try.func33, Try.ntmps33
  go_upto_region 1 with fail
  rw [← hW0, ← hD]
  clear hW0 hD
  go_wp2_with fail
  go_loopw [5] (fun i wr => ∃ k : Nat, i = .int .i64 (k : Int) ∧ k ≤ F.length ∧ (∀ j (hj : j < F.length), j < k → letF e n F[j] = false) ∧ Below W0.heap.size W0 wr) (fun i _ => F.length - (intOf i).toNat)
  case atStart => exact ⟨0, rfl, by omega, fun j hj h => by omega, Below.refl _ _⟩
  case round =>
    obtain ⟨k, rfl, hk, hno, hB⟩ := hrel
    have HB := Lib.hid hB; have HNO := Lib.hid hno
    have HIr := Lib.hid (HI0.out.on hB)
    have c1 : wr.cell? ⟨B, 1, none⟩ = some (.slice fa F.length fcap) := HIr.out.blk.cellAt (i := 1) (by simp)
    clear hB hno
    by_cases hlt : k < F.length
    · have i1 : (k : Int) < (F.length : Int) := by omega
      have i2 : (0 : Int) ≤ (k : Int) := by omega
      obtain ⟨_, g, off, rfl, hg, q0, q1, q2⟩ := HIr.out.fil.fl hlt
      obtain ⟨f, hf⟩ : ∃ f, f = F[k] := ⟨_, rfl⟩
      rw [← hf] at q0 q1 q2
      have HF := Lib.hid hf
      obtain ⟨z, hz⟩ : ∃ z, z = letF e n f := ⟨_, rfl⟩
      have HZ2 := Lib.hid hz
      clear hf hz
      obtain ⟨fx, fm, ft⟩ := f
      simp only at q0 q1 q2
      obtain ⟨z2, hz2⟩ : ∃ z2, z2 = (bits .and .u32 fm (bits .xor .u32 ft n) == 0) := ⟨_, rfl⟩
      have i3 : (bits .and .u32 fm (bits .xor .u32 ft n) == 0) = z2 := hz2.symm
      have HZZ := Lib.hid (show z = ((fx == e) && z2) by rw [HZ2.out, hz2]; rfl)
      clear hz2
      obtain ⟨X, hX⟩ : ∃ X, X = wr.alloc (.cells #[.bool fx, .int .u32 fm, .int .u32 ft] 82) := ⟨_, rfl⟩
      have hbX : Below wr.heap.size wr X := by rw [hX]; exact (Below.refl _ wr).alloc (Nat.le_refl _) _
      have hSX := (show Blk X wr.heap.size 82 [.bool fx, .int .u32 fm, .int .u32 ft] by rw [hX]; exact Blk.new wr _ [.bool fx, .int .u32 fm, .int .u32 ft])
      have HBX := Lib.hid (below_transG HB.out hbX)
      have p0 := hSX.cellAt (i := 0) (by simp); have p1 := hSX.cellAt (i := 1) (by simp); have p2 := hSX.cellAt (i := 2) (by simp)
      simp only [List.getElem_cons_zero, List.getElem_cons_succ] at p0 p1 p2
      have m0 := (HBX.out.cell (p := ⟨D, 0, none⟩) HZ.out).trans HK0.out
      have m1 := (HBX.out.cell (p := ⟨D, 1, none⟩) HZ.out).trans HK1.out
      clear hbX hSX
      go_upto_region 7 with fail
      rw [← hX]
      clear hX c1 q0 q1 q2
      cases fx <;> cases e <;> cases z2
      all_goals go_wp2_with fail
      all_goals first
        | (go_roundw
           case rel => exact ⟨k + 1, by simp, by omega, fun j hj h => by
             by_cases hjk : j < k
             · exact HNO.out j hj hjk
             · obtain rfl : j = k := by omega
               rw [← HF.out, ← HZ2.out, HZZ.out]; rfl, HBX.out⟩
           case measure => simp [intOf]; omega)
        | (go_ret
           refine ⟨?_, HB0.out.trans (HBX.out.mono HB0.out.size)⟩
           have hany : R = true := by
             rw [HR.out]
             exact List.any_eq_true.2 ⟨F[k], List.getElem_mem _, by rw [← HF.out, ← HZ2.out, HZZ.out]; rfl⟩
           rw [HL.out, hany]
           simp)
    · obtain rfl : k = F.length := by omega
      have hnone : R = false := by
        rw [HR.out]
        refine List.any_eq_false.2 fun f hf => ?_
        obtain ⟨j, hj, rfl⟩ := List.getElem_of_mem hf
        rw [HNO.out j hj hj]
        exact Bool.false_ne_true
      have HV := Lib.hid (show V = F.isEmpty by rw [HL.out, hnone, Bool.or_false])
      clear hnone
      by_cases hz : F.length = 0
      · have i1 : ((F.length : Int) == 0) = true := by rw [hz]; rfl
        have HE := Lib.hid (show V = true by rw [HV.out, List.eq_nil_of_length_eq_zero hz]; rfl)
        clear hz
        go_wp2_with fail
        go_ret
        exact ⟨by rw [HE.out]; rfl, HB0.out.trans (HB.out.mono HB0.out.size)⟩
      · have i1 : ((F.length : Int) == 0) = false := by rw [beq_eq_false_iff_ne]; omega
        have HE := Lib.hid (show V = false by
          rw [HV.out]
          cases F with
          | nil => exact absurd rfl hz
          | cons x L => rfl)
        clear hz
        go_wp2_with fail
        go_ret
        exact ⟨by rw [HE.out]; rfl, HB0.out.trans (HB.out.mono HB0.out.size)⟩
theorem rlen_any (B room : Nat) (F : List Fl) (fv : Value) (Q : List SD) (v : Value) (o : Bool) (w : World) (hI : IA w 78 B room F fv Q v o) :
    Calls Try.prog 40 #[.pointer (some ⟨B, 0, none⟩)] w fun y w' => y = .returned (.int .i64 (Q.length : Int)) ∧ w = w' := by
  obtain ⟨a, cap, fa, fcap, rfl, rfl⟩ := hI.shape
  have c2 : w.cell? ⟨B, 2, none⟩ = some (.slice a Q.length cap) := hI.blk.cellAt (i := 2) (by simp)
  clear hI
  go_enter Try.func40, Try.ntmps40
  go_wp2_with fail
  go_ret
  exact ⟨rfl, rfl⟩
set_option maxRecDepth 100000 in
set_option maxHeartbeats 4000000 in
theorem roffer_any (B room : Nat) (F : List Fl) (fv : Value) (Q : List SD) (v : Value) (o : Bool) (s : SD) (hF : F.length ≤ 8) (hQ : Q.length ≤ 1000) (hQr : Q.length ≤ room) (w : World) (hI : IA w 78 B room F fv Q v o) :
    Calls Try.prog 35 #[.pointer (some ⟨B, 0, none⟩), s.V] w fun y w' => ∃ v', y = .returned (.bool (offF room F Q o s).2.2) ∧ IA w' 78 B room F fv (offF room F Q o s).1 v' (offF room F Q o s).2.1 ∧ Kp B v w w' ∧ Nx w v v' := by
  obtain ⟨e, n, q, l, x0, x1, x2, x3, x4, x5, x6, x7, f, t⟩ := s
  obtain ⟨W0, hW0⟩ : ∃ W0, W0 = w.alloc (.cells #[.bool e, .int .u32 n, .bool q, .int .i64 l, .int .u8 x0, .int .u8 x1, .int .u8 x2, .int .u8 x3, .int .u8 x4, .int .u8 x5, .int .u8 x6, .int .u8 x7, .int .i64 f, .int .i64 t] 69) := ⟨_, rfl⟩
  have hb0 : Below w.heap.size w W0 := by rw [hW0]; exact (Below.refl _ w).alloc (Nat.le_refl _) _
  have HS := Lib.hid (show Blk W0 w.heap.size 69 [.bool e, .int .u32 n, .bool q, .int .i64 l, .int .u8 x0, .int .u8 x1, .int .u8 x2, .int .u8 x3, .int .u8 x4, .int .u8 x5, .int .u8 x6, .int .u8 x7, .int .i64 f, .int .i64 t] by rw [hW0]; exact Blk.new w _ [.bool e, .int .u32 n, .bool q, .int .i64 l, .int .u8 x0, .int .u8 x1, .int .u8 x2, .int .u8 x3, .int .u8 x4, .int .u8 x5, .int .u8 x6, .int .u8 x7, .int .i64 f, .int .i64 t])
  have HI0 := Lib.hid (hI.on hb0)
  have HLT := Lib.hid hI.lt
  have HB0 := Lib.hid hb0
  have HL := Lib.hid (rlets_any B room F fv Q v o e n q l x0 x1 x2 x3 x4 x5 x6 x7 hF W0 HI0.out)
  obtain ⟨L, hL⟩ : ∃ L, L = letsB F e n := ⟨_, rfl⟩
  rw [← hL] at HL
  have HLE := Lib.hid hL
  have hz : w.heap.size < W0.heap.size := HS.out.lt
  have HZ := Lib.hid hz
  obtain ⟨D, hD⟩ : ∃ D, D = w.heap.size := ⟨_, rfl⟩
  have HD := Lib.hid hD
  obtain ⟨R, hR⟩ : ∃ R, R = offF room F Q o ⟨e, n, q, l, x0, x1, x2, x3, x4, x5, x6, x7, f, t⟩ := ⟨_, rfl⟩
  rw [← hR]
  have HR := Lib.hid (show R = if L = false then (Q, o, false) else if room ≤ Q.length then (Q, true, false) else (Q ++ [⟨e, n, q, l, x0, x1, x2, x3, x4, x5, x6, x7, f, t⟩], o, true) by rw [hR, hL]; rfl)
  obtain ⟨a, cap, fa, fcap, rfl, rfl⟩ := hI.shape
  clear hb0 hL hz hR hD
  unfold SD.V
  simp only
  have hS := HS.out
  have d0 := hS.cellAt (i := 0) (by simp)
  have f0 := hS.frozenAt 0
  have d1 := hS.cellAt (i := 1) (by simp)
  have f1 := hS.frozenAt 1
  have d2 := hS.cellAt (i := 2) (by simp)
  have f2 := hS.frozenAt 2
  have d3 := hS.cellAt (i := 3) (by simp)
  have f3 := hS.frozenAt 3
  have d4 := hS.cellAt (i := 4) (by simp)
  have f4 := hS.frozenAt 4
  have d5 := hS.cellAt (i := 5) (by simp)
  have f5 := hS.frozenAt 5
  have d6 := hS.cellAt (i := 6) (by simp)
  have f6 := hS.frozenAt 6
  have d7 := hS.cellAt (i := 7) (by simp)
  have f7 := hS.frozenAt 7
  have d8 := hS.cellAt (i := 8) (by simp)
  have f8 := hS.frozenAt 8
  have d9 := hS.cellAt (i := 9) (by simp)
  have f9 := hS.frozenAt 9
  have d10 := hS.cellAt (i := 10) (by simp)
  have f10 := hS.frozenAt 10
  have d11 := hS.cellAt (i := 11) (by simp)
  have f11 := hS.frozenAt 11
  have d12 := hS.cellAt (i := 12) (by simp)
  have f12 := hS.frozenAt 12
  have d13 := hS.cellAt (i := 13) (by simp)
  have f13 := hS.frozenAt 13
  clear hS
  simp only [List.getElem_cons_zero, List.getElem_cons_succ] at d0 d1 d2 d3 d4 d5 d6 d7 d8 d9 d10 d11 d12 d13
  go_enter Try.func35, Try.ntmps35
  go_upto_region 1 with fail
  rw [← hW0]
  clear hW0 hI
  go_wp2_with fail
  refine HL.out.mono ?_
  rintro y w1 ⟨rfl, hb⟩
  have HI1 := Lib.hid (HI0.out.on hb)
  have HS1 := Lib.hid (HS.out.keep hb HZ.out)
  have HB1 := Lib.hid (HB0.out.trans (hb.mono HB0.out.size))
  have HZ1 := Lib.hid (show w.heap.size < w1.heap.size from Nat.lt_of_lt_of_le HZ.out hb.size)
  clear hb d0 f0 d1 f1 d2 f2 d3 f3 d4 f4 d5 f5 d6 f6 d7 f7 d8 f8 d9 f9 d10 f10 d11 f11 d12 f12 d13 f13
  cases L with
  | false =>
    go_wp2_with fail
    go_ret
    exact ⟨_, by rw [HR.out]; rfl, by rw [HR.out]; exact HI1.out, Kp.of_below HB1.out, Nx.refl _ _⟩
  | true =>
    have c0 : w1.cell? ⟨B, 0, none⟩ = some (.int .i64 (room : Int)) := HI1.out.blk.cellAt (i := 0) (by simp)
    have c2 : w1.cell? ⟨B, 2, none⟩ = some (.slice a Q.length cap) := HI1.out.blk.cellAt (i := 2) (by simp)
    have c3 : w1.cell? ⟨B, 3, none⟩ = some (.bool o) := HI1.out.blk.cellAt (i := 3) (by simp)
    have g3 : w1.frozen? ⟨B, 3, none⟩ = false := HI1.out.blk.frozenAt 3
    by_cases hroom : room ≤ Q.length
    · have i1 : ((Q.length : Int) == (room : Int)) = true := by rw [beq_iff_eq]; omega
      have HR2 := Lib.hid (show R = (Q, true, false) by rw [HR.out, if_neg (by simp), if_pos hroom])
      clear hroom
      go_wp2_with fail
      go_quiet (fail)
      go_wp2_with fail
      go_ret
      refine ⟨_, by rw [HR2.out]; rfl, by rw [HR2.out]; exact (HI1.out.on (below_drewG (Below.refl _ _) _)).set true, (Kp.of_below (below_drewG HB1.out _)).set 3 _, Nx.refl _ _⟩
    · have i1 : ((Q.length : Int) == (room : Int)) = false := by rw [beq_eq_false_iff_ne]; omega
      have HR2 := Lib.hid (show R = (Q ++ [⟨e, n, q, l, x0, x1, x2, x3, x4, x5, x6, x7, f, t⟩], o, true) by rw [HR.out, if_neg (by simp), if_neg hroom])
      clear hroom
      go_wp2_with fail
      go_quiet (fail)
      go_wp2_with fail
      obtain ⟨wq, hwq⟩ : ∃ wq, wq = w1.drewN nq := ⟨_, rfl⟩
      rw [← hwq]
      have HI2 := Lib.hid (show IA wq 78 B room F (.slice fa F.length fcap) Q (.slice a Q.length cap) o by rw [hwq]; exact HI1.out.on (below_drewG (Below.refl _ _) _))
      have HB2 := Lib.hid (show Below w.heap.size w wq by rw [hwq]; exact below_drewG HB1.out _)
      have hS := (show Blk wq w.heap.size 69 [.bool e, .int .u32 n, .bool q, .int .i64 l, .int .u8 x0, .int .u8 x1, .int .u8 x2, .int .u8 x3, .int .u8 x4, .int .u8 x5, .int .u8 x6, .int .u8 x7, .int .i64 f, .int .i64 t] by rw [hwq]; exact HS1.out)
      clear hwq c0 c2 c3 g3
      have HZ2 := Lib.hid (show w.heap.size < wq.heap.size from hS.lt)
      rw [← HD.out] at hS ⊢
      have d0 := hS.cellAt (i := 0) (by simp)
      have f0 := hS.frozenAt 0
      have d1 := hS.cellAt (i := 1) (by simp)
      have f1 := hS.frozenAt 1
      have d2 := hS.cellAt (i := 2) (by simp)
      have f2 := hS.frozenAt 2
      have d3 := hS.cellAt (i := 3) (by simp)
      have f3 := hS.frozenAt 3
      have d4 := hS.cellAt (i := 4) (by simp)
      have f4 := hS.frozenAt 4
      have d5 := hS.cellAt (i := 5) (by simp)
      have f5 := hS.frozenAt 5
      have d6 := hS.cellAt (i := 6) (by simp)
      have f6 := hS.frozenAt 6
      have d7 := hS.cellAt (i := 7) (by simp)
      have f7 := hS.frozenAt 7
      have d8 := hS.cellAt (i := 8) (by simp)
      have f8 := hS.frozenAt 8
      have d9 := hS.cellAt (i := 9) (by simp)
      have f9 := hS.frozenAt 9
      have d10 := hS.cellAt (i := 10) (by simp)
      have f10 := hS.frozenAt 10
      have d11 := hS.cellAt (i := 11) (by simp)
      have f11 := hS.frozenAt 11
      have d12 := hS.cellAt (i := 12) (by simp)
      have f12 := hS.frozenAt 12
      have d13 := hS.cellAt (i := 13) (by simp)
      have f13 := hS.frozenAt 13
      simp only [List.getElem_cons_zero, List.getElem_cons_succ] at d0 d1 d2 d3 d4 d5 d6 d7 d8 d9 d10 d11 d12 d13
      have c2 : wq.cell? ⟨B, 2, none⟩ = some (.slice a Q.length cap) := HI2.out.blk.cellAt (i := 2) (by simp)
      have HROW := Lib.hid (show ∀ u, Below wq.heap.size wq u → Rw u 14 (.slice a Q.length cap) (stC Q) from fun u hu => HI2.out.row.kept hu)
      have hlt1 : B < wq.heap.size := HI2.out.lt
      have hlt2 : D < wq.heap.size := by rw [HD.out]; exact HZ2.out
      obtain ⟨i0, z0, hi, hz, hzc, hsz, hby⟩ := info_zparts info_stamped
      clear hS
      go_cut [] (fun wx => ∃ v', IA wx 78 B room F (.slice fa F.length fcap) (Q ++ [⟨e, n, q, l, x0, x1, x2, x3, x4, x5, x6, x7, f, t⟩]) v' o ∧ Kp B (.slice a Q.length cap) wq wx ∧ Nx wq (.slice a Q.length cap) v')
      case first =>
        go_region_law (refine step_append_rw _ rfl (.tmp 27) (.tmp 29) 76 76 rfl 69 i0 z0 14 48 Try.underlying76 hi hz hsz hby hzc a Q.length cap (stC Q) rfl (HROW.out _ (by first | exact (Below.refl _ _).alloc (Nat.le_refl _) _ | exact ((Below.refl _ _).alloc (Nat.le_refl _) _).drew)) _ rfl 1 [.bool e, .int .u32 n, .bool q, .int .i64 l, .int .u8 x0, .int .u8 x1, .int .u8 x2, .int .u8 x3, .int .u8 x4, .int .u8 x5, .int .u8 x6, .int .u8 x7, .int .i64 f, .int .i64 t] (Src.ofSlice _ Try.underlying76 ⟨wq.heap.size, 0, none⟩ 1 1 [.bool e, .int .u32 n, .bool q, .int .i64 l, .int .u8 x0, .int .u8 x1, .int .u8 x2, .int .u8 x3, .int .u8 x4, .int .u8 x5, .int .u8 x6, .int .u8 x7, .int .i64 f, .int .i64 t] rfl (fun j u h => by first | exact newsG j u h | exact newsGd j u h) (sd_flat ⟨e, n, q, l, x0, x1, x2, x3, x4, x5, x6, x7, f, t⟩)) (.inl (by decide)) (by omega) (by decide) ?_; intro g off cap' w4 hrow hkp hblk hlies; have hb9 := (show Below wq.heap.size wq _ by first | exact ((Below.refl _ wq).alloc (Nat.le_refl _) (.cells #[.bool e, .int .u32 n, .bool q, .int .i64 l, .int .u8 x0, .int .u8 x1, .int .u8 x2, .int .u8 x3, .int .u8 x4, .int .u8 x5, .int .u8 x6, .int .u8 x7, .int .i64 f, .int .i64 t] 69)).drew | exact (Below.refl _ wq).alloc (Nat.le_refl _) (.cells #[.bool e, .int .u32 n, .bool q, .int .i64 l, .int .u8 x0, .int .u8 x1, .int .u8 x2, .int .u8 x3, .int .u8 x4, .int .u8 x5, .int .u8 x6, .int .u8 x7, .int .i64 f, .int .i64 t] 69)); have hx := fun k (hk : k < wq.heap.size) h => (hblk k (Nat.lt_of_lt_of_le hk hb9.size) h).trans (hb9.block k hk); have hk9 := fun B => (Kp.of_below (B := B) hb9).trans (hkp B) (Nx.refl _ _); have z2 := (World.cell?_of_block (a := ⟨B, 2, none⟩) (hx B hlt1 HI2.out.own)).trans c2; have y2 := (World.frozen?_of_block (a := ⟨B, 2, none⟩) (hx B hlt1 HI2.out.own)).trans (HI2.out.blk.frozenAt 2); have HX := Lib.hid hx; have HK9 := Lib.hid hk9; have HROW4 := Lib.hid hrow; have HLI := Lib.hid hlies; have HB9 := Lib.hid hb9; clear hx hk9 hrow hlies hb9 hkp hblk)
        all_goals
          have HNX := Lib.hid (show Nx wq (.slice a Q.length cap) (.slice (some ⟨g, off, none⟩) (Q.length + 1) cap') from fun k e => by
            have e : g = k := Option.some.inj e
            rcases HLI.out with h | h
            · exact .inl (by rw [← e]; exact h)
            · exact .inr (by rw [← e, h]; exact HB9.out.size))
          go_wp2_with fail
          go_meet
          exact ⟨_, IA.put HI2.out (HK9.out B).size (fun k hk h => HX.out k hk h) (by rw [stC_snoc]; exact HROW4.out) HNX.out, (HK9.out B).set 2 _, HNX.out⟩
      case rest =>
      obtain ⟨v', h1, h2, h3⟩ := hcut
      have HV := Lib.hid (show IA wc 78 B room F (.slice fa F.length fcap) R.1 v' R.2.1 by rw [HR2.out]; exact h1)
      have HKK := Lib.hid ((Kp.of_below HB2.out).trans h2 (Nx.refl _ _)); have HNN := Lib.hid (Nx.trans (Nx.refl w _) h3 HB2.out.size)
      clear h1 h2 h3
      go_wp2_with fail
      go_ret
      exact ⟨_, by rw [HR2.out]; rfl, HV.out, HKK.out, HNN.out⟩
end Go.Proofs.Ytifpifhaajkncaa
