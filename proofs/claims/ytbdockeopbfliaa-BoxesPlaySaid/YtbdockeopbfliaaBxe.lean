/- The code of package boxes: a new one, and the best. Conditions: identifiers are of 32 bits. -/
import Derived.Test.YtbdockeopbfliaaBxd
import Derived.Test.YtbdockeopbfliaaBat
namespace Go.Proofs.Ytbdockeopbfliaa
open Go.RowKit
def keyP (p : PD) : Nat := idKey p.e p.n p.q
/-- The best one of the first n, and its key. -/
def bestS (L : List BD) : Nat → Int × Nat
  | 0 => (-1, 4294967296)
  | n + 1 => if (bxAt L n).full = true ∧ keyP (bxAt L n).p < (bestS L n).2 then ((n : Int), keyP (bxAt L n).p) else bestS L n
def bestF (L : List BD) (room : Nat) : Int := (bestS L room).1
theorem best_le (L : List BD) (n : Nat) : (bestS L n).2 ≤ 4294967296 := by
  induction n with
  | zero => exact Nat.le_refl _
  | succ n ih =>
    unfold bestS
    split
    · rename_i h
      have := h.2
      show keyP (bxAt L n).p ≤ 4294967296
      omega
    · exact ih
set_option maxRecDepth 1000000 in
set_option maxHeartbeats 8000000 in
theorem new_any (room : Nat) (h1 : 1 ≤ room) (h2 : room ≤ 8) (w : World) : Calls Try.prog 4 #[.int .i64 (room : Int)] w fun y w' => y = .returned (.tuple #[.pointer (some ⟨w.heap.size, 0, none⟩), .int .i64 0]) ∧ BxA w' w.heap.size (List.replicate 8 BD.zero) room ∧ Below w.heap.size w w' := by
  have i1 : ¬ (room : Int) < 1 := by omega
  have i2 : ¬ (8 : Int) < (room : Int) := by omega
  have hz : ∀ u : World, Sem.run Try.prog (zeroValue 59) u = .ok (.agg (bxC (List.replicate 8 BD.zero) 0).toArray) u := fun u => by kernel_rfl
  go_enter Try.func4, Try.ntmps4
  go_wp2_with fail
  refine bodyPost_ret (v := .tuple #[.pointer (some ⟨w.heap.size, 0, none⟩), .int .i64 0]) (by simp [results, Try.results4, go_sem]) rfl ?_
  exact ⟨rfl, ⟨Blk.new w 59 (bxC (List.replicate 8 BD.zero) room), rfl, h1, h2⟩, (Below.refl _ w).alloc (Nat.le_refl _) _⟩
theorem new_no (room : Int) (h : ¬ (1 ≤ room ∧ room ≤ 8)) (w : World) : Calls Try.prog 4 #[.int .i64 room] w fun y w' => y = .returned (.tuple #[.pointer none, .int .i64 1]) ∧ w = w' := by
  by_cases i1 : room < 1
  · go_enter Try.func4, Try.ntmps4
    go_wp2_with fail
    exact bodyPost_ret (v := .tuple #[.pointer none, .int .i64 1]) (by simp [results, Try.results4, go_sem]) rfl ⟨rfl, rfl⟩
  · have i2 : (8 : Int) < room := by omega
    go_enter Try.func4, Try.ntmps4
    go_wp2_with fail
    exact bodyPost_ret (v := .tuple #[.pointer none, .int .i64 1]) (by simp [results, Try.results4, go_sem]) rfl ⟨rfl, rfl⟩
set_option maxRecDepth 100000 in
set_option maxHeartbeats 4000000 in
theorem win1_any (b : BD) (M least : Nat) (hn : b.p.n < 4294967296) (w : World) (h : Blk w M 72 [.int .u64 (least : Int)]) :
    Calls Try.prog 35 #[b.V, .pointer (some ⟨M, 0, none⟩)] w fun y w' => y = .returned (.bool (decide (b.full = true ∧ keyP b.p < least))) ∧ Blk w' M 72 [.int .u64 ((if b.full = true ∧ keyP b.p < least then keyP b.p else least : Nat) : Int)] ∧ Kp M (.slice none 0 0) w w' := by
  have HK := Lib.hid (fun u => idkey_any b.p.e b.p.n b.p.q hn u)
  have hkl : idKey b.p.e b.p.n b.p.q < 4294967296 := idKey_lt b.p.e b.p.n b.p.q
  obtain ⟨ky, hky⟩ : ∃ ky, ky = keyP b.p := ⟨_, rfl⟩
  rw [show idKey b.p.e b.p.n b.p.q = ky by rw [hky]; rfl] at HK hkl
  rw [← hky]
  clear hky
  obtain ⟨full, ⟨e, n, q, l, x0, x1, x2, x3, x4, x5, x6, x7, once, tag⟩⟩ := b
  unfold BD.V
  unfold identV at HK
  simp only at HK ⊢
  obtain ⟨z, hz⟩ : ∃ z, z = decide (full = true ∧ ky < least) := ⟨_, rfl⟩
  obtain ⟨m2, hm2⟩ : ∃ m2, m2 = if full = true ∧ ky < least then ky else least := ⟨_, rfl⟩
  rw [← hz, ← hm2]
  have HZ := Lib.hid hz; have HM2 := Lib.hid hm2
  clear hz hm2
  obtain ⟨W0, hW0⟩ : ∃ W0, W0 = w.alloc (.cells #[.bool full, .bool e, .int .u32 (n : Int), .bool q, .int .i64 l, .int .u8 (x0 : Int), .int .u8 (x1 : Int), .int .u8 (x2 : Int), .int .u8 (x3 : Int), .int .u8 (x4 : Int), .int .u8 (x5 : Int), .int .u8 (x6 : Int), .int .u8 (x7 : Int), .bool once, .int .i64 tag] 56) := ⟨_, rfl⟩
  have hb0 : Below w.heap.size w W0 := by rw [hW0]; exact (Below.refl _ w).alloc (Nat.le_refl _) _
  have hS := (show Blk W0 w.heap.size 56 [.bool full, .bool e, .int .u32 (n : Int), .bool q, .int .i64 l, .int .u8 (x0 : Int), .int .u8 (x1 : Int), .int .u8 (x2 : Int), .int .u8 (x3 : Int), .int .u8 (x4 : Int), .int .u8 (x5 : Int), .int .u8 (x6 : Int), .int .u8 (x7 : Int), .bool once, .int .i64 tag] by rw [hW0]; exact Blk.new w _ [.bool full, .bool e, .int .u32 (n : Int), .bool q, .int .i64 l, .int .u8 (x0 : Int), .int .u8 (x1 : Int), .int .u8 (x2 : Int), .int .u8 (x3 : Int), .int .u8 (x4 : Int), .int .u8 (x5 : Int), .int .u8 (x6 : Int), .int .u8 (x7 : Int), .bool once, .int .i64 tag])
  have HM0 := Lib.hid (h.keep hb0 h.lt)
  have HB0 := Lib.hid hb0
  obtain ⟨D, hD⟩ : ∃ D, D = w.heap.size := ⟨_, rfl⟩
  rw [← hD] at hS
  have HSB := Lib.hid hS
  have d0 := hS.cellAt (i := 0) (by simp)
  have d1 := hS.cellAt (i := 1) (by simp)
  have d2 := hS.cellAt (i := 2) (by simp)
  have d3 := hS.cellAt (i := 3) (by simp)
  have d4 := hS.cellAt (i := 4) (by simp)
  have d5 := hS.cellAt (i := 5) (by simp)
  have d6 := hS.cellAt (i := 6) (by simp)
  have d7 := hS.cellAt (i := 7) (by simp)
  have d8 := hS.cellAt (i := 8) (by simp)
  have d9 := hS.cellAt (i := 9) (by simp)
  have d10 := hS.cellAt (i := 10) (by simp)
  have d11 := hS.cellAt (i := 11) (by simp)
  have d12 := hS.cellAt (i := 12) (by simp)
  have d13 := hS.cellAt (i := 13) (by simp)
  have d14 := hS.cellAt (i := 14) (by simp)
  simp only [List.getElem_cons_zero, List.getElem_cons_succ] at d0 d1 d2 d3 d4 d5 d6 d7 d8 d9 d10 d11 d12 d13 d14
  have q1 : IntKind.u64.wrap (ky : Int) = (ky : Int) := by rw [IntKind.wrap_u64]; omega
  clear hS hb0 h
  go_enter Try.func35, Try.ntmps35
  go_upto_region 1 with fail
  rw [← hW0, ← hD]
  clear hW0 hD
  go_wp2_with fail
  refine (HK.out _).mono ?_
  rintro y w1 ⟨rfl, hb⟩
  have HB1 := Lib.hid (HB0.out.trans (hb.mono HB0.out.size))
  have HM1 := Lib.hid (HM0.out.keep hb HM0.out.lt)
  have hS := HSB.out.keep hb HSB.out.lt
  clear hb d0 d1 d2 d3 d4 d5 d6 d7 d8 d9 d10 d11 d12 d13 d14
  have d0 := hS.cellAt (i := 0) (by simp)
  have m0 := HM1.out.cellAt (i := 0) (by simp); have g0 := HM1.out.frozenAt 0
  simp only [List.getElem_cons_zero] at d0 m0
  clear hS
  by_cases hlt : ky < least
  · have i1 : ¬ (least : Int) ≤ (ky : Int) := by omega
    cases full
    · have h1 := Lib.hid (show z = false by rw [HZ.out]; simp)
      have h2 := Lib.hid (show m2 = least by rw [HM2.out]; simp)
      go_wp2_with fail
      go_ret
      exact ⟨by rw [h1.out]; rfl, by rw [h2.out]; exact HM1.out, Kp.of_below HB1.out⟩
    · have h1 := Lib.hid (show z = true by rw [HZ.out]; simp [hlt])
      have h2 := Lib.hid (show m2 = ky by rw [HM2.out]; simp [hlt])
      go_wp2_with fail
      go_ret
      exact ⟨by rw [h1.out]; rfl, by rw [h2.out]; exact HM1.out.put1 (i := 0) (by simp) _, (Kp.of_below HB1.out).set 0 _⟩
  · have i1 : (least : Int) ≤ (ky : Int) := by omega
    have h1 := Lib.hid (show z = false by rw [HZ.out]; simp [hlt])
    have h2 := Lib.hid (show m2 = least by rw [HM2.out]; simp [hlt])
    cases full
    all_goals
      go_wp2_with fail
      go_ret
      exact ⟨by rw [h1.out]; rfl, by rw [h2.out]; exact HM1.out, Kp.of_below HB1.out⟩
theorem winning_any (w : World) : Calls Try.prog 29 #[] w fun y w' => y = .returned (.func (.func 35) #[] #[.pointer (some ⟨w.heap.size, 0, none⟩)]) ∧ Blk w' w.heap.size 72 [.int .u64 ((4294967296 : Nat) : Int)] ∧ Below w.heap.size w w' := by
  go_enter Try.func29, Try.ntmps29
  go_wp2_with fail
  go_ret
  exact ⟨rfl, Blk.new w 72 [.int .u64 4294967296], (Below.refl _ w).alloc (Nat.le_refl _) _⟩
set_option maxRecDepth 100000 in
set_option maxHeartbeats 8000000 in
theorem best_any (B : Nat) (L : List BD) (room : Nat) (hn : ∀ j, (bxAt L j).p.n < 4294967296) (w : World) (h : BxA w B L room) :
    Calls Try.prog 17 #[.pointer (some ⟨B, 0, none⟩)] w fun y w' => y = .returned (.int .i64 (bestF L room)) ∧ Below w.heap.size w w' := by
  have HX := Lib.hid h
  have HN := Lib.hid hn
  have h8 := h.r8
  have HWN := Lib.hid (winning_any w)
  have HBL := Lib.hid h.lt
  obtain ⟨V, hV⟩ : ∃ V, V = bestF L room := ⟨_, rfl⟩
  rw [← hV]
  have HV := Lib.hid hV
  obtain ⟨M, hM⟩ : ∃ M, M = w.heap.size := ⟨_, rfl⟩
  have HM := Lib.hid hM
  rw [← hM] at HWN
  clear h hn hV hM
  go_enter Try.func17, Try.ntmps17
  go_wp2_with fail
  refine HWN.out.mono ?_
  rintro y w1 ⟨rfl, hm, hb⟩
  have HB1 := Lib.hid (show Below w.heap.size w w1 by rw [← HM.out]; exact hb); have HM1 := Lib.hid hm
  have HAL := Lib.hid (all_any B L room w1 (HX.out.on HB1.out))
  clear hm hb
  go_wp2_with fail
  refine HAL.out.mono ?_
  rintro y w2 ⟨rfl, hb⟩
  have HB2 := Lib.hid (below_transG HB1.out hb); have HM2 := Lib.hid (HM1.out.keep hb HM1.out.lt)
  clear hb
  go_wp2_with fail
  go_loopw [3, 11] (fun s3 s11 wr => ∃ k : Nat, s11 = .int .i64 (k : Int) ∧ k ≤ room ∧ s3 = .int .i64 (bestS L k).1 ∧ Blk wr M 72 [.int .u64 ((bestS L k).2 : Int)] ∧ Below w.heap.size w wr) (fun _ s11 _ => room - (intOf s11).toNat)
  case atStart => exact ⟨0, rfl, by omega, rfl, HM2.out, HB2.out⟩
  case round =>
    obtain ⟨k, rfl, hk, rfl, hm, hB⟩ := hrel
    have HB := Lib.hid hB; have HMR := Lib.hid hm
    clear hB hm
    by_cases hlt : k < room
    · have i1 : (k : Int) < (room : Int) := by omega
      have i2 : (0 : Int) ≤ (k : Int) := by omega
      have hX := HX.out.on HB.out
      have HLS := Lib.hid (show bestS L (k + 1) = if (bxAt L k).full = true ∧ keyP (bxAt L k).p < (bestS L k).2 then ((k : Int), keyP (bxAt L k).p) else bestS L k from rfl)
      have hnb := HN.out k
      obtain ⟨b, hb⟩ : ∃ b, b = bxAt L k := ⟨_, rfl⟩
      have hc : ∀ i u, b.C[i]? = some u → wr.cell? ⟨B, k * 15 + i, none⟩ = some u := fun i u hu => (hX.cell (by omega) (by rw [← hb]; exact hu)).1
      rw [← hb] at HLS hnb
      obtain ⟨S, hS⟩ : ∃ S, S = bestS L k := ⟨_, rfl⟩
      rw [← hS] at HLS HMR ⊢
      obtain ⟨s1, s2⟩ := S
      simp only at HLS HMR ⊢
      clear hb hX hS
      obtain ⟨X, hXe⟩ : ∃ X, X = wr.alloc (.cells b.C.toArray 56) := ⟨_, rfl⟩
      have hbX : Below wr.heap.size wr X := by rw [hXe]; exact (Below.refl _ wr).alloc (Nat.le_refl _) _
      have hSX := (show Blk X wr.heap.size 56 b.C by rw [hXe]; exact Blk.new wr _ b.C)
      have HMX := Lib.hid (HMR.out.keep hbX HMR.out.lt); have HBX := Lib.hid (below_transG HB.out hbX)
      have HW := Lib.hid (win1_any b M s2 hnb X HMX.out)
      obtain ⟨full, ⟨e, n, q, l, x0, x1, x2, x3, x4, x5, x6, x7, once, tag⟩⟩ := b
      unfold BD.V at HW
      simp only at HLS HW
      obtain ⟨z, hz⟩ : ∃ z, z = decide (full = true ∧ keyP ⟨e, n, q, l, x0, x1, x2, x3, x4, x5, x6, x7, once, tag⟩ < s2) := ⟨_, rfl⟩
      rw [← hz] at HW
      have HZ := Lib.hid hz
      have e0 : wr.cell? ⟨B, k * 15, none⟩ = some (.bool full) := hc 0 _ rfl
      have e1 : wr.cell? ⟨B, k * 15 + 1, none⟩ = some (.bool e) := hc 1 _ rfl
      have e2 : wr.cell? ⟨B, k * 15 + 2, none⟩ = some (.int .u32 (n : Int)) := hc 2 _ rfl
      have e3 : wr.cell? ⟨B, k * 15 + 3, none⟩ = some (.bool q) := hc 3 _ rfl
      have e4 : wr.cell? ⟨B, k * 15 + 4, none⟩ = some (.int .i64 l) := hc 4 _ rfl
      have e5 : wr.cell? ⟨B, k * 15 + 5, none⟩ = some (.int .u8 (x0 : Int)) := hc 5 _ rfl
      have e6 : wr.cell? ⟨B, k * 15 + 6, none⟩ = some (.int .u8 (x1 : Int)) := hc 6 _ rfl
      have e7 : wr.cell? ⟨B, k * 15 + 7, none⟩ = some (.int .u8 (x2 : Int)) := hc 7 _ rfl
      have e8 : wr.cell? ⟨B, k * 15 + 8, none⟩ = some (.int .u8 (x3 : Int)) := hc 8 _ rfl
      have e9 : wr.cell? ⟨B, k * 15 + 9, none⟩ = some (.int .u8 (x4 : Int)) := hc 9 _ rfl
      have e10 : wr.cell? ⟨B, k * 15 + 10, none⟩ = some (.int .u8 (x5 : Int)) := hc 10 _ rfl
      have e11 : wr.cell? ⟨B, k * 15 + 11, none⟩ = some (.int .u8 (x6 : Int)) := hc 11 _ rfl
      have e12 : wr.cell? ⟨B, k * 15 + 12, none⟩ = some (.int .u8 (x7 : Int)) := hc 12 _ rfl
      have e13 : wr.cell? ⟨B, k * 15 + 13, none⟩ = some (.bool once) := hc 13 _ rfl
      have e14 : wr.cell? ⟨B, k * 15 + 14, none⟩ = some (.int .i64 tag) := hc 14 _ rfl
      have d0 : X.cell? ⟨wr.heap.size, 0, none⟩ = some (.bool full) := hSX.cellAt (i := 0) (by show 0 < 15; decide)
      have d1 : X.cell? ⟨wr.heap.size, 1, none⟩ = some (.bool e) := hSX.cellAt (i := 1) (by show 1 < 15; decide)
      have d2 : X.cell? ⟨wr.heap.size, 2, none⟩ = some (.int .u32 (n : Int)) := hSX.cellAt (i := 2) (by show 2 < 15; decide)
      have d3 : X.cell? ⟨wr.heap.size, 3, none⟩ = some (.bool q) := hSX.cellAt (i := 3) (by show 3 < 15; decide)
      have d4 : X.cell? ⟨wr.heap.size, 4, none⟩ = some (.int .i64 l) := hSX.cellAt (i := 4) (by show 4 < 15; decide)
      have d5 : X.cell? ⟨wr.heap.size, 5, none⟩ = some (.int .u8 (x0 : Int)) := hSX.cellAt (i := 5) (by show 5 < 15; decide)
      have d6 : X.cell? ⟨wr.heap.size, 6, none⟩ = some (.int .u8 (x1 : Int)) := hSX.cellAt (i := 6) (by show 6 < 15; decide)
      have d7 : X.cell? ⟨wr.heap.size, 7, none⟩ = some (.int .u8 (x2 : Int)) := hSX.cellAt (i := 7) (by show 7 < 15; decide)
      have d8 : X.cell? ⟨wr.heap.size, 8, none⟩ = some (.int .u8 (x3 : Int)) := hSX.cellAt (i := 8) (by show 8 < 15; decide)
      have d9 : X.cell? ⟨wr.heap.size, 9, none⟩ = some (.int .u8 (x4 : Int)) := hSX.cellAt (i := 9) (by show 9 < 15; decide)
      have d10 : X.cell? ⟨wr.heap.size, 10, none⟩ = some (.int .u8 (x5 : Int)) := hSX.cellAt (i := 10) (by show 10 < 15; decide)
      have d11 : X.cell? ⟨wr.heap.size, 11, none⟩ = some (.int .u8 (x6 : Int)) := hSX.cellAt (i := 11) (by show 11 < 15; decide)
      have d12 : X.cell? ⟨wr.heap.size, 12, none⟩ = some (.int .u8 (x7 : Int)) := hSX.cellAt (i := 12) (by show 12 < 15; decide)
      have d13 : X.cell? ⟨wr.heap.size, 13, none⟩ = some (.bool once) := hSX.cellAt (i := 13) (by show 13 < 15; decide)
      have d14 : X.cell? ⟨wr.heap.size, 14, none⟩ = some (.int .i64 tag) := hSX.cellAt (i := 14) (by show 14 < 15; decide)
      have hXe2 : X = wr.alloc (.cells #[.bool full, .bool e, .int .u32 (n : Int), .bool q, .int .i64 l, .int .u8 (x0 : Int), .int .u8 (x1 : Int), .int .u8 (x2 : Int), .int .u8 (x3 : Int), .int .u8 (x4 : Int), .int .u8 (x5 : Int), .int .u8 (x6 : Int), .int .u8 (x7 : Int), .bool once, .int .i64 tag] 56) := hXe
      clear hc hz hbX hSX hXe hnb
      go_upto_region 5 with fail
      rw [← hXe2]
      clear hXe2 e0 e1 e2 e3 e4 e5 e6 e7 e8 e9 e10 e11 e12 e13 e14
      go_wp2_with fail
      refine HW.out.mono ?_
      rintro y w3 ⟨rfl, hm3, hk3⟩
      have HB3 := Lib.hid (HBX.out.trans (hk3.belowN (N := w.heap.size) (by rw [HM.out]; exact Nat.le_refl _) HBX.out.size (fun g hg => by cases hg)))
      have HM3 := Lib.hid hm3
      clear hm3 hk3 d0 d1 d2 d3 d4 d5 d6 d7 d8 d9 d10 d11 d12 d13 d14
      cases z with
      | false =>
        have hno : ¬ (full = true ∧ keyP ⟨e, n, q, l, x0, x1, x2, x3, x4, x5, x6, x7, once, tag⟩ < s2) := of_decide_eq_false HZ.out.symm
        have HE := Lib.hid (show bestS L (k + 1) = (s1, s2) by rw [HLS.out, if_neg hno])
        rw [if_neg hno] at HM3
        clear hno
        go_wp2_with fail
        go_roundw
        case rel => exact ⟨k + 1, by simp, by omega, by rw [HE.out], by rw [HE.out]; exact HM3.out, HB3.out⟩
        case measure => simp [intOf]; omega
      | true =>
        have hyes : full = true ∧ keyP ⟨e, n, q, l, x0, x1, x2, x3, x4, x5, x6, x7, once, tag⟩ < s2 := of_decide_eq_true HZ.out.symm
        have HE := Lib.hid (show bestS L (k + 1) = ((k : Int), keyP ⟨e, n, q, l, x0, x1, x2, x3, x4, x5, x6, x7, once, tag⟩) by rw [HLS.out, if_pos hyes])
        rw [if_pos hyes] at HM3
        clear hyes
        go_wp2_with fail
        go_roundw
        case rel => exact ⟨k + 1, by simp, by omega, by rw [HE.out], by rw [HE.out]; exact HM3.out, HB3.out⟩
        case measure => simp [intOf]; omega
    · obtain rfl : k = room := by omega
      go_wp2_with fail
      go_ret
      exact ⟨by rw [HV.out]; rfl, HB.out⟩
theorem best_nil (w : World) : Calls Try.prog 17 #[.pointer none] w fun y w' => y = .returned (.int .i64 (-1)) ∧ Below w.heap.size w w' := by
  have HWN := Lib.hid (winning_any w)
  go_enter Try.func17, Try.ntmps17
  go_wp2_with fail
  refine HWN.out.mono ?_
  rintro y w1 ⟨rfl, _, hb⟩
  have HB1 := Lib.hid hb
  have HA := Lib.hid (all_nil w1)
  clear hb
  go_wp2_with fail
  refine HA.out.mono ?_
  rintro y w2 ⟨rfl, hb⟩
  have HB2 := Lib.hid (below_transG HB1.out hb)
  clear hb
  go_wp2_with fail
  go_loopw [3, 11] (fun s3 s9 wr => s3 = .int .i64 (-1) ∧ s9 = .int .i64 0 ∧ Below w.heap.size w wr) (fun _ s9 _ => 0)
  case atStart => exact ⟨rfl, rfl, HB2.out⟩
  case round =>
    obtain ⟨rfl, rfl, hB⟩ := hrel
    have HB := Lib.hid hB
    clear hB
    go_wp2_with fail
    go_ret
    exact ⟨rfl, HB.out⟩
end Go.Proofs.Ytbdockeopbfliaa
