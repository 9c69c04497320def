/- The code of package inbox: what is laid in, what is taken out. Conditions: not more than a thousand frames wait. -/
import Derived.Test.YtmlnobiakfapcabInc
namespace Go.Proofs.Ytmlnobiakfapcab
open Go.RowKit

theorem IA.put {W W4 : World} {T : TypeId} {B room : Nat} {F : List Fl} {fv : Value} {Q Q' : List SD} {v v' : Value} {o : Bool} (h : IA W T B room F fv Q v o) (hs : W.heap.size ≤ W4.heap.size)
    (hb : ∀ k, k < W.heap.size → v.ownBlock ≠ some k → W4.heap[k]? = W.heap[k]?) (hr : Rw W4 14 v' (stC Q')) (hn : Nx W v v') :
    IA (W4.setCell ⟨B, 2, none⟩ v') T B room F fv Q' v' o := by
  have hlt := h.lt
  obtain ⟨h1, ⟨n', cap', a', rfl, f1, f2, f3, f4⟩, h3, h4, h5⟩ := h
  have hB : W4.heap[B]? = W.heap[B]? := hb B hlt h5
  have hk : ∀ k, k ≠ B → (W4.setCell ⟨B, 2, none⟩ v').heap[k]? = W4.heap[k]? := fun k hk => Below.heap_setCell W4 ⟨B, 2, none⟩ _ k hk
  have hsz := setCell_sizeG W4 ⟨B, 2, none⟩ v'
  have hown : v'.ownBlock ≠ some B := fun e => by
    rcases hn B e with g | g
    · exact h5 g
    · omega
  refine ⟨(h1.on hB).put1 (i := 2) (by simp) _, ⟨n', cap', a', rfl, f1, f2, f3, ?_⟩, fun g hg => ⟨by rw [hsz]; have := (h3 g hg).1; omega, (h3 g hg).2.1, fun e => ?_⟩, hr.on (by rw [hsz]; exact Nat.le_refl _) (fun g hg => hk g (fun e => hown (by rw [← e]; exact hg))), hown⟩
  · rcases f4 with f4 | ⟨g, off, rfl, hg, hc⟩
    · exact .inl f4
    · refine .inr ⟨g, off, rfl, by rw [hsz]; omega, fun j u hj => ?_⟩
      rw [World.cell?_of_block (hk g (h3 g rfl).2.1), World.cell?_of_block (hb g hg (h3 g rfl).2.2)]
      exact hc j u hj
  · rcases hn g e with g' | g'
    · exact (h3 g hg).2.2 g'
    · have := (h3 g hg).1; omega
theorem stC_snoc (Q : List SD) (s : SD) : stC (Q ++ [s]) = stC Q ++ s.C := by unfold stC; rw [List.flatMap_append]; simp
theorem Nx.of {w : World} {a : Option Addr} {n cap g off m c : Nat} (h : (Value.slice a n cap).ownBlock = some g ∨ g = w.heap.size) : Nx w (.slice a n cap) (.slice (some ⟨g, off, none⟩) m c) := fun k e => by
  have e : g = k := Option.some.inj e
  subst e
  rcases h with h | h
  · exact .inl h
  · exact .inr (by omega)

set_option maxRecDepth 100000 in
set_option maxHeartbeats 4000000 in
theorem offer_any (B room : Nat) (F : List Fl) (fv : Value) (Q : List SD) (v : Value) (o : Bool) (s : SD) (hF : F.length ≤ 8) (hQ : Q.length ≤ 1000) (w : World) (hI : IA w 155 B room F fv Q v o) :
    Calls Try.prog 52 #[.pointer (some ⟨B, 0, none⟩), s.V] w fun y w' => ∃ v', y = .returned (.bool (offF room F Q o s).2.2) ∧ IA w' 155 B room F fv (offF room F Q o s).1 v' (offF room F Q o s).2.1 ∧ Kp B v w w' ∧ Nx w v v' := by
  obtain ⟨e, n, q, l, x0, x1, x2, x3, x4, x5, x6, x7, f, t⟩ := s
  obtain ⟨W0, hW0⟩ : ∃ W0, W0 = w.alloc (.cells #[.bool e, .int .u32 n, .bool q, .int .i64 l, .int .u8 x0, .int .u8 x1, .int .u8 x2, .int .u8 x3, .int .u8 x4, .int .u8 x5, .int .u8 x6, .int .u8 x7, .int .i64 f, .int .i64 t] 48) := ⟨_, rfl⟩
  have hb0 : Below w.heap.size w W0 := by rw [hW0]; exact (Below.refl _ w).alloc (Nat.le_refl _) _
  have HS := Lib.hid (show Blk W0 w.heap.size 48 [.bool e, .int .u32 n, .bool q, .int .i64 l, .int .u8 x0, .int .u8 x1, .int .u8 x2, .int .u8 x3, .int .u8 x4, .int .u8 x5, .int .u8 x6, .int .u8 x7, .int .i64 f, .int .i64 t] by rw [hW0]; exact Blk.new w _ [.bool e, .int .u32 n, .bool q, .int .i64 l, .int .u8 x0, .int .u8 x1, .int .u8 x2, .int .u8 x3, .int .u8 x4, .int .u8 x5, .int .u8 x6, .int .u8 x7, .int .i64 f, .int .i64 t])
  have HI0 := Lib.hid (hI.on hb0)
  have HLT := Lib.hid hI.lt
  have HB0 := Lib.hid hb0
  have HL := Lib.hid (lets_any B room F fv Q v o e n q l x0 x1 x2 x3 x4 x5 x6 x7 hF W0 HI0.out)
  obtain ⟨L, hL⟩ : ∃ L, L = letsB F e n := ⟨_, rfl⟩
  rw [← hL] at HL
  have HLE := Lib.hid hL
  have hz : w.heap.size < W0.heap.size := HS.out.lt
  have HZ := Lib.hid hz
  obtain ⟨D, hD⟩ : ∃ D, D = w.heap.size := ⟨_, rfl⟩
  have HD := Lib.hid hD
  obtain ⟨R, hR⟩ : ∃ R, R = offF room F Q o ⟨e, n, q, l, x0, x1, x2, x3, x4, x5, x6, x7, f, t⟩ := ⟨_, rfl⟩
  rw [← hR]
  have HR := Lib.hid (show R = if L = false then (Q, o, false) else if room ≤ Q.length then (Q, true, false) else (Q ++ [⟨e, n, q, l, x0, x1, x2, x3, x4, x5, x6, x7, f, t⟩], o, true) by rw [hR, hL]; rfl)
  obtain ⟨a, cap, fa, fcap, rfl, rfl⟩ := hI.shape
  clear hb0 hL hz hR hD
  unfold SD.V
  simp only
  have hS := HS.out
  have d0 := hS.cellAt (i := 0) (by simp)
  have f0 := hS.frozenAt 0
  have d1 := hS.cellAt (i := 1) (by simp)
  have f1 := hS.frozenAt 1
  have d2 := hS.cellAt (i := 2) (by simp)
  have f2 := hS.frozenAt 2
  have d3 := hS.cellAt (i := 3) (by simp)
  have f3 := hS.frozenAt 3
  have d4 := hS.cellAt (i := 4) (by simp)
  have f4 := hS.frozenAt 4
  have d5 := hS.cellAt (i := 5) (by simp)
  have f5 := hS.frozenAt 5
  have d6 := hS.cellAt (i := 6) (by simp)
  have f6 := hS.frozenAt 6
  have d7 := hS.cellAt (i := 7) (by simp)
  have f7 := hS.frozenAt 7
  have d8 := hS.cellAt (i := 8) (by simp)
  have f8 := hS.frozenAt 8
  have d9 := hS.cellAt (i := 9) (by simp)
  have f9 := hS.frozenAt 9
  have d10 := hS.cellAt (i := 10) (by simp)
  have f10 := hS.frozenAt 10
  have d11 := hS.cellAt (i := 11) (by simp)
  have f11 := hS.frozenAt 11
  have d12 := hS.cellAt (i := 12) (by simp)
  have f12 := hS.frozenAt 12
  have d13 := hS.cellAt (i := 13) (by simp)
  have f13 := hS.frozenAt 13
  clear hS
  simp only [List.getElem_cons_zero, List.getElem_cons_succ] at d0 d1 d2 d3 d4 d5 d6 d7 d8 d9 d10 d11 d12 d13
  go_enter Try.func52, Try.ntmps52
  go_upto_region 1 with fail
  rw [← hW0]
  clear hW0 hI
  go_wp2_with fail
  refine HL.out.mono ?_
  rintro y w1 ⟨rfl, hb⟩
  have HI1 := Lib.hid (HI0.out.on hb)
  have HS1 := Lib.hid (HS.out.keep hb HZ.out)
  have HB1 := Lib.hid (HB0.out.trans (hb.mono HB0.out.size))
  have HZ1 := Lib.hid (show w.heap.size < w1.heap.size from Nat.lt_of_lt_of_le HZ.out hb.size)
  clear hb d0 f0 d1 f1 d2 f2 d3 f3 d4 f4 d5 f5 d6 f6 d7 f7 d8 f8 d9 f9 d10 f10 d11 f11 d12 f12 d13 f13
  cases L with
  | false =>
    go_wp2_with fail
    go_ret
    exact ⟨_, by rw [HR.out]; rfl, by rw [HR.out]; exact HI1.out, Kp.of_below HB1.out, Nx.refl _ _⟩
  | true =>
    have c0 : w1.cell? ⟨B, 0, none⟩ = some (.int .i64 (room : Int)) := HI1.out.blk.cellAt (i := 0) (by simp)
    have c2 : w1.cell? ⟨B, 2, none⟩ = some (.slice a Q.length cap) := HI1.out.blk.cellAt (i := 2) (by simp)
    have c3 : w1.cell? ⟨B, 3, none⟩ = some (.bool o) := HI1.out.blk.cellAt (i := 3) (by simp)
    have g3 : w1.frozen? ⟨B, 3, none⟩ = false := HI1.out.blk.frozenAt 3
    by_cases hroom : room ≤ Q.length
    · have i1 : (room : Int) ≤ (Q.length : Int) := by omega
      have HR2 := Lib.hid (show R = (Q, true, false) by rw [HR.out, if_neg (by simp), if_pos hroom])
      clear hroom
      go_wp2_with fail
      go_quiet (fail)
      go_wp2_with fail
      go_ret
      refine ⟨_, by rw [HR2.out]; rfl, by rw [HR2.out]; exact (HI1.out.on (below_drewG (Below.refl _ _) _)).set true, (Kp.of_below (below_drewG HB1.out _)).set 3 _, Nx.refl _ _⟩
    · have i1 : ¬ (room : Int) ≤ (Q.length : Int) := by omega
      have HR2 := Lib.hid (show R = (Q ++ [⟨e, n, q, l, x0, x1, x2, x3, x4, x5, x6, x7, f, t⟩], o, true) by rw [HR.out, if_neg (by simp), if_neg hroom])
      clear hroom
      go_wp2_with fail
      go_quiet (fail)
      go_wp2_with fail
      obtain ⟨wq, hwq⟩ : ∃ wq, wq = w1.drewN nq := ⟨_, rfl⟩
      rw [← hwq]
      have HI2 := Lib.hid (show IA wq 155 B room F (.slice fa F.length fcap) Q (.slice a Q.length cap) o by rw [hwq]; exact HI1.out.on (below_drewG (Below.refl _ _) _))
      have HB2 := Lib.hid (show Below w.heap.size w wq by rw [hwq]; exact below_drewG HB1.out _)
      have hS := (show Blk wq w.heap.size 48 [.bool e, .int .u32 n, .bool q, .int .i64 l, .int .u8 x0, .int .u8 x1, .int .u8 x2, .int .u8 x3, .int .u8 x4, .int .u8 x5, .int .u8 x6, .int .u8 x7, .int .i64 f, .int .i64 t] by rw [hwq]; exact HS1.out)
      clear hwq c0 c2 c3 g3
      have HZ2 := Lib.hid (show w.heap.size < wq.heap.size from hS.lt)
      rw [← HD.out] at hS ⊢
      have d0 := hS.cellAt (i := 0) (by simp)
      have f0 := hS.frozenAt 0
      have d1 := hS.cellAt (i := 1) (by simp)
      have f1 := hS.frozenAt 1
      have d2 := hS.cellAt (i := 2) (by simp)
      have f2 := hS.frozenAt 2
      have d3 := hS.cellAt (i := 3) (by simp)
      have f3 := hS.frozenAt 3
      have d4 := hS.cellAt (i := 4) (by simp)
      have f4 := hS.frozenAt 4
      have d5 := hS.cellAt (i := 5) (by simp)
      have f5 := hS.frozenAt 5
      have d6 := hS.cellAt (i := 6) (by simp)
      have f6 := hS.frozenAt 6
      have d7 := hS.cellAt (i := 7) (by simp)
      have f7 := hS.frozenAt 7
      have d8 := hS.cellAt (i := 8) (by simp)
      have f8 := hS.frozenAt 8
      have d9 := hS.cellAt (i := 9) (by simp)
      have f9 := hS.frozenAt 9
      have d10 := hS.cellAt (i := 10) (by simp)
      have f10 := hS.frozenAt 10
      have d11 := hS.cellAt (i := 11) (by simp)
      have f11 := hS.frozenAt 11
      have d12 := hS.cellAt (i := 12) (by simp)
      have f12 := hS.frozenAt 12
      have d13 := hS.cellAt (i := 13) (by simp)
      have f13 := hS.frozenAt 13
      simp only [List.getElem_cons_zero, List.getElem_cons_succ] at d0 d1 d2 d3 d4 d5 d6 d7 d8 d9 d10 d11 d12 d13
      have c2 : wq.cell? ⟨B, 2, none⟩ = some (.slice a Q.length cap) := HI2.out.blk.cellAt (i := 2) (by simp)
      have HROW := Lib.hid (show ∀ u, Below wq.heap.size wq u → Rw u 14 (.slice a Q.length cap) (stC Q) from fun u hu => HI2.out.row.kept hu)
      have hlt1 : B < wq.heap.size := HI2.out.lt
      have hlt2 : D < wq.heap.size := by rw [HD.out]; exact HZ2.out
      obtain ⟨i0, z0, hi, hz, hzc, hsz, hby⟩ := info_zparts info_stamped
      clear hS
      go_cut [] (fun wx => ∃ v', IA wx 155 B room F (.slice fa F.length fcap) (Q ++ [⟨e, n, q, l, x0, x1, x2, x3, x4, x5, x6, x7, f, t⟩]) v' o ∧ Kp B (.slice a Q.length cap) wq wx ∧ Nx wq (.slice a Q.length cap) v')
      case first =>
        go_region_law (refine step_append_rw _ rfl (.tmp 27) (.tmp 29) 134 134 rfl 48 i0 z0 14 48 Try.underlying134 hi hz hsz hby hzc a Q.length cap (stC Q) rfl (HROW.out _ (by first | exact (Below.refl _ _).alloc (Nat.le_refl _) _ | exact ((Below.refl _ _).alloc (Nat.le_refl _) _).drew)) _ rfl 1 [.bool e, .int .u32 n, .bool q, .int .i64 l, .int .u8 x0, .int .u8 x1, .int .u8 x2, .int .u8 x3, .int .u8 x4, .int .u8 x5, .int .u8 x6, .int .u8 x7, .int .i64 f, .int .i64 t] (Src.ofSlice _ Try.underlying134 ⟨wq.heap.size, 0, none⟩ 1 1 [.bool e, .int .u32 n, .bool q, .int .i64 l, .int .u8 x0, .int .u8 x1, .int .u8 x2, .int .u8 x3, .int .u8 x4, .int .u8 x5, .int .u8 x6, .int .u8 x7, .int .i64 f, .int .i64 t] rfl (fun j u h => by first | exact newsG j u h | exact newsGd j u h) (sd_flat ⟨e, n, q, l, x0, x1, x2, x3, x4, x5, x6, x7, f, t⟩)) (.inl (by decide)) (by omega) (by decide) ?_; intro g off cap' w4 hrow hkp hblk hlies; have hb9 := (show Below wq.heap.size wq _ by first | exact ((Below.refl _ wq).alloc (Nat.le_refl _) (.cells #[.bool e, .int .u32 n, .bool q, .int .i64 l, .int .u8 x0, .int .u8 x1, .int .u8 x2, .int .u8 x3, .int .u8 x4, .int .u8 x5, .int .u8 x6, .int .u8 x7, .int .i64 f, .int .i64 t] 48)).drew | exact (Below.refl _ wq).alloc (Nat.le_refl _) (.cells #[.bool e, .int .u32 n, .bool q, .int .i64 l, .int .u8 x0, .int .u8 x1, .int .u8 x2, .int .u8 x3, .int .u8 x4, .int .u8 x5, .int .u8 x6, .int .u8 x7, .int .i64 f, .int .i64 t] 48)); have hx := fun k (hk : k < wq.heap.size) h => (hblk k (Nat.lt_of_lt_of_le hk hb9.size) h).trans (hb9.block k hk); have hk9 := fun B => (Kp.of_below (B := B) hb9).trans (hkp B) (Nx.refl _ _); have z2 := (World.cell?_of_block (a := ⟨B, 2, none⟩) (hx B hlt1 HI2.out.own)).trans c2; have y2 := (World.frozen?_of_block (a := ⟨B, 2, none⟩) (hx B hlt1 HI2.out.own)).trans (HI2.out.blk.frozenAt 2); have HX := Lib.hid hx; have HK9 := Lib.hid hk9; have HROW4 := Lib.hid hrow; have HLI := Lib.hid hlies; have HB9 := Lib.hid hb9; clear hx hk9 hrow hlies hb9 hkp hblk)
        all_goals
          have HNX := Lib.hid (show Nx wq (.slice a Q.length cap) (.slice (some ⟨g, off, none⟩) (Q.length + 1) cap') from fun k e => by
            have e : g = k := Option.some.inj e
            rcases HLI.out with h | h
            · exact .inl (by rw [← e]; exact h)
            · exact .inr (by rw [← e, h]; exact HB9.out.size))
          go_wp2_with fail
          go_meet
          exact ⟨_, IA.put HI2.out (HK9.out B).size (fun k hk h => HX.out k hk h) (by rw [stC_snoc]; exact HROW4.out) HNX.out, (HK9.out B).set 2 _, HNX.out⟩
      case rest =>
      obtain ⟨v', h1, h2, h3⟩ := hcut
      have HV := Lib.hid (show IA wc 155 B room F (.slice fa F.length fcap) R.1 v' R.2.1 by rw [HR2.out]; exact h1)
      have HKK := Lib.hid ((Kp.of_below HB2.out).trans h2 (Nx.refl _ _)); have HNN := Lib.hid (Nx.trans (Nx.refl w _) h3 HB2.out.size)
      clear h1 h2 h3
      go_wp2_with fail
      go_ret
      exact ⟨_, by rw [HR2.out]; rfl, HV.out, HKK.out, HNN.out⟩
end Go.Proofs.Ytmlnobiakfapcab
