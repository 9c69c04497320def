/- Package ctrl: what a controller is told where nothing is begun, sent, or wrong; what is read. Conditions: each theorem says its own. -/
import Derived.Test.YtmlnobiakfapcabCaa
import Derived.Deep.RegionHeld3
namespace Go.Proofs.Ytmlnobiakfapcab
open Go.RowKit
/-- The mark behind a bit. -/
def markF (s : CD) (p now : Int) : Int := if withinB p = true ∧ withinB s.ph = false then now else s.mark
/-- What a controller is behind a bit that brings nothing but, maybe, a frame. -/
def calmF (s : CD) (got : Bool) (p now : Int) (x : SD) : CD :=
  if got = true then { s with ph := p, now := now, mark := markF s p now, Q := (offF s.rm s.F s.Q s.o x).1, o := (offF s.rm s.F s.Q s.o x).2.1 } else { s with ph := p, now := now, mark := markF s p now }
theorem off_le (room : Nat) (F : List Fl) (Q : List SD) (o : Bool) (s : SD) (h : Q.length ≤ room) : (offF room F Q o s).1.length ≤ room := by
  unfold offF
  split
  · exact h
  · split
    · exact h
    · simp; omega
set_option maxRecDepth 100000 in
set_option maxHeartbeats 4000000 in
theorem took_calm (K B I : Nat) (fv v fr : Value) (s : CD) (got : Bool) (p now : Int) (e : Bool) (n : Int) (q : Bool) (l x0 x1 x2 x3 x4 x5 x6 x7 : Int) (x : SD) (hx : x = ⟨e, n, q, l, x0, x1, x2, x3, x4, x5, x6, x7, markF s p now, now⟩) (w : World) (h : CA w K B I fv v fr s) :
    Calls Try.prog 12 #[.pointer (some ⟨K, 0, none⟩), .agg #[.bool false, .bool false, .bool false, .bool got, .int .i64 0, .bool e, .int .u32 n, .bool q, .int .i64 l, .int .u8 x0, .int .u8 x1, .int .u8 x2, .int .u8 x3, .int .u8 x4, .int .u8 x5, .int .u8 x6, .int .u8 x7], .int .i64 p, .int .i64 now] w fun y w' => y = .returned (.tuple #[]) ∧ ∃ v', CA w' K B I fv v' fr (calmF s got p now x) ∧ Fx (footC K B I fv v fr) w w' ∧ (∀ g, footC K B I fv v' fr g → footC K B I fv v fr g ∨ w.heap.size ≤ g) := by
  obtain ⟨W0, hW0⟩ : ∃ W0, W0 = w.alloc (.cells #[.bool false, .bool false, .bool false, .bool got, .int .i64 0, .bool e, .int .u32 n, .bool q, .int .i64 l, .int .u8 x0, .int .u8 x1, .int .u8 x2, .int .u8 x3, .int .u8 x4, .int .u8 x5, .int .u8 x6, .int .u8 x7] 43) := ⟨_, rfl⟩
  obtain ⟨D, hD⟩ : ∃ D, D = w.heap.size := ⟨_, rfl⟩
  have hb0 : Below w.heap.size w W0 := by rw [hW0]; exact (Below.refl _ w).alloc (Nat.le_refl _) _
  have hS0 := (show Blk W0 D 43 [.bool false, .bool false, .bool false, .bool got, .int .i64 0, .bool e, .int .u32 n, .bool q, .int .i64 l, .int .u8 x0, .int .u8 x1, .int .u8 x2, .int .u8 x3, .int .u8 x4, .int .u8 x5, .int .u8 x6, .int .u8 x7] by rw [hW0, hD]; exact Blk.new w _ [.bool false, .bool false, .bool false, .bool got, .int .i64 0, .bool e, .int .u32 n, .bool q, .int .i64 l, .int .u8 x0, .int .u8 x1, .int .u8 x2, .int .u8 x3, .int .u8 x4, .int .u8 x5, .int .u8 x6, .int .u8 x7])
  have HC0 := Lib.hid (h.on hb0)
  have HB0 := Lib.hid hb0
  have hKD : K < D := by rw [hD]; exact h.blk.lt
  have hK0 := (h.on hb0).blk
  have d0 := hS0.cellAt (i := 0) (by simp)
  have d1 := hS0.cellAt (i := 1) (by simp)
  have d2 := hS0.cellAt (i := 2) (by simp)
  have d3 := hS0.cellAt (i := 3) (by simp)
  have d4 := hS0.cellAt (i := 4) (by simp)
  have d5 := hS0.cellAt (i := 5) (by simp)
  have d6 := hS0.cellAt (i := 6) (by simp)
  have d7 := hS0.cellAt (i := 7) (by simp)
  have d8 := hS0.cellAt (i := 8) (by simp)
  have d9 := hS0.cellAt (i := 9) (by simp)
  have d10 := hS0.cellAt (i := 10) (by simp)
  have d11 := hS0.cellAt (i := 11) (by simp)
  have d12 := hS0.cellAt (i := 12) (by simp)
  have d13 := hS0.cellAt (i := 13) (by simp)
  have d14 := hS0.cellAt (i := 14) (by simp)
  have d15 := hS0.cellAt (i := 15) (by simp)
  have d16 := hS0.cellAt (i := 16) (by simp)
  simp only [List.getElem_cons_zero, List.getElem_cons_succ] at d0 d1 d2 d3 d4 d5 d6 d7 d8 d9 d10 d11 d12 d13 d14 d15 d16
  have k0 := hK0.cellAt (i := 0) (by simp)
  have k1 := hK0.cellAt (i := 1) (by simp)
  have k2 := hK0.cellAt (i := 2) (by simp)
  have k3 := hK0.cellAt (i := 3) (by simp)
  have k4 := hK0.cellAt (i := 4) (by simp)
  have k5 := hK0.cellAt (i := 5) (by simp)
  have k6 := hK0.cellAt (i := 6) (by simp)
  have k7 := hK0.cellAt (i := 7) (by simp)
  have k8 := hK0.cellAt (i := 8) (by simp)
  simp only [List.getElem_cons_zero, List.getElem_cons_succ] at k0 k1 k2 k3 k4 k5 k6 k7 k8
  have f5 := hK0.frozenAt 5
  have f6 := hK0.frozenAt 6
  have f7 := hK0.frozenAt 7
  have HDF := Lib.hid (show ¬ footC K B I fv v fr D from fun hf => by have := h.lt hf; omega)
  have HDN := Lib.hid hD
  clear h hb0
  cases ha : withinB p
  case' true => cases hb2 : withinB s.ph
  case false =>
    have HWP := Lib.hid (fun u => within_any p u)
    rw [ha] at HWP
    have hmk : markF s p now = s.mark := by unfold markF; rw [ha]; exact if_neg (by simp)
    clear ha
    cases got
    case false =>
      go_enter Try.func12, Try.ntmps12
      go_upto_region 1 with fail
      rw [← hW0, ← hD]
      clear hW0 hD
      go_wp2_with fail
      refine (HWP.out _).mono ?_
      rintro y w1 ⟨rfl, rfl⟩
      have hW2K : Blk ((W0.setCell ⟨K, 5, none⟩ (.int .i64 p)).setCell ⟨K, 6, none⟩ (.int .i64 now)) K 114 [.pointer (some ⟨B, 0, none⟩), .pointer (some ⟨I, 0, none⟩), .bool s.on, .int .i64 s.bx, .bool s.can, .int .i64 p, .int .i64 now, .int .i64 s.mark, fr] := (hK0.put1 (i := 5) (by simp) (.int .i64 p)).put1 (i := 6) (by simp) (.int .i64 now)
      have hW2D := (hS0.puts (C := K) (by omega) 5 (.int .i64 p)).puts (C := K) (by omega) 6 (.int .i64 now)
      obtain ⟨W2, hW2⟩ : ∃ W2, W2 = (W0.setCell ⟨K, 5, none⟩ (.int .i64 p)).setCell ⟨K, 6, none⟩ (.int .i64 now) := ⟨_, rfl⟩
      have hsz : W2.heap.size = W0.heap.size := by rw [hW2]; simp only [setCell_sizeG]
      have hbk : ∀ g, g ≠ K → W2.heap[g]? = W0.heap[g]? := fun g hg => by rw [hW2, Below.heap_setCell _ ⟨K, 6, none⟩ _ g hg, Below.heap_setCell _ ⟨K, 5, none⟩ _ g hg]
      have hpr : W2.os = W0.os ∧ W2.tape = W0.tape ∧ W2.output = W0.output := by rw [hW2]; exact ⟨rfl, rfl, rfl⟩
      rw [← hW2] at hW2K hW2D
      have HC2 := Lib.hid (HC0.out.own { s with ph := p, now := now, mark := s.mark } rfl rfl rfl rfl rfl rfl rfl hsz hbk hW2K HC0.out.tr)
      have HF2 := Lib.hid (show Fx (footC K B I fv v fr) w W2 from ⟨hpr.1.trans HB0.out.os, hpr.2.1.trans HB0.out.tape, hpr.2.2.trans HB0.out.output, by rw [hsz]; exact HB0.out.size, fun g hg hf => (hbk g (fun e => hf (.inl e))).trans (HB0.out.block g hg)⟩)
      have HD2 := Lib.hid hW2D
      clear hsz hbk hpr
      go_upto_region 5 with fail
      rw [← hW2]
      clear hW2 d0 d1 d2 d3 d4 d5 d6 d7 d8 d9 d10 d11 d12 d13 d14 d15 d16 k0 k1 k2 k3 k4 k5 k6 k7 k8 f5 f6 f7 hK0 hS0
      have d0 := hW2D.cellAt (i := 0) (by simp)
      have d1 := hW2D.cellAt (i := 1) (by simp)
      have d2 := hW2D.cellAt (i := 2) (by simp)
      have d3 := hW2D.cellAt (i := 3) (by simp)
      have d4 := hW2D.cellAt (i := 4) (by simp)
      have d5 := hW2D.cellAt (i := 5) (by simp)
      have d6 := hW2D.cellAt (i := 6) (by simp)
      have d7 := hW2D.cellAt (i := 7) (by simp)
      have d8 := hW2D.cellAt (i := 8) (by simp)
      have d9 := hW2D.cellAt (i := 9) (by simp)
      have d10 := hW2D.cellAt (i := 10) (by simp)
      have d11 := hW2D.cellAt (i := 11) (by simp)
      have d12 := hW2D.cellAt (i := 12) (by simp)
      have d13 := hW2D.cellAt (i := 13) (by simp)
      have d14 := hW2D.cellAt (i := 14) (by simp)
      have d15 := hW2D.cellAt (i := 15) (by simp)
      have d16 := hW2D.cellAt (i := 16) (by simp)
      simp only [List.getElem_cons_zero, List.getElem_cons_succ] at d0 d1 d2 d3 d4 d5 d6 d7 d8 d9 d10 d11 d12 d13 d14 d15 d16
      have k0 := hW2K.cellAt (i := 0) (by simp)
      have k1 := hW2K.cellAt (i := 1) (by simp)
      have k2 := hW2K.cellAt (i := 2) (by simp)
      have k3 := hW2K.cellAt (i := 3) (by simp)
      have k4 := hW2K.cellAt (i := 4) (by simp)
      have k5 := hW2K.cellAt (i := 5) (by simp)
      have k6 := hW2K.cellAt (i := 6) (by simp)
      have k7 := hW2K.cellAt (i := 7) (by simp)
      have k8 := hW2K.cellAt (i := 8) (by simp)
      simp only [List.getElem_cons_zero, List.getElem_cons_succ] at k0 k1 k2 k3 k4 k5 k6 k7 k8
      clear hW2D hW2K
      go_wp2_with fail
      go_end0
      refine ⟨rfl, v, ?_, HF2.out, fun g hg => .inl hg⟩
      rw [show calmF s false p now x = { s with ph := p, now := now, mark := s.mark } by unfold calmF; rw [if_neg (by decide), hmk]]
      exact HC2.out
    case true =>
      subst hx
      rw [hmk]
      go_enter Try.func12, Try.ntmps12
      go_upto_region 1 with fail
      rw [← hW0, ← hD]
      clear hW0 hD
      go_wp2_with fail
      refine (HWP.out _).mono ?_
      rintro y w1 ⟨rfl, rfl⟩
      have hW2K : Blk ((W0.setCell ⟨K, 5, none⟩ (.int .i64 p)).setCell ⟨K, 6, none⟩ (.int .i64 now)) K 114 [.pointer (some ⟨B, 0, none⟩), .pointer (some ⟨I, 0, none⟩), .bool s.on, .int .i64 s.bx, .bool s.can, .int .i64 p, .int .i64 now, .int .i64 s.mark, fr] := (hK0.put1 (i := 5) (by simp) (.int .i64 p)).put1 (i := 6) (by simp) (.int .i64 now)
      have hW2D := (hS0.puts (C := K) (by omega) 5 (.int .i64 p)).puts (C := K) (by omega) 6 (.int .i64 now)
      obtain ⟨W2, hW2⟩ : ∃ W2, W2 = (W0.setCell ⟨K, 5, none⟩ (.int .i64 p)).setCell ⟨K, 6, none⟩ (.int .i64 now) := ⟨_, rfl⟩
      have hsz : W2.heap.size = W0.heap.size := by rw [hW2]; simp only [setCell_sizeG]
      have hbk : ∀ g, g ≠ K → W2.heap[g]? = W0.heap[g]? := fun g hg => by rw [hW2, Below.heap_setCell _ ⟨K, 6, none⟩ _ g hg, Below.heap_setCell _ ⟨K, 5, none⟩ _ g hg]
      have hpr : W2.os = W0.os ∧ W2.tape = W0.tape ∧ W2.output = W0.output := by rw [hW2]; exact ⟨rfl, rfl, rfl⟩
      rw [← hW2] at hW2K hW2D
      have HC2 := Lib.hid (HC0.out.own { s with ph := p, now := now, mark := s.mark } rfl rfl rfl rfl rfl rfl rfl hsz hbk hW2K HC0.out.tr)
      have HF2 := Lib.hid (show Fx (footC K B I fv v fr) w W2 from ⟨hpr.1.trans HB0.out.os, hpr.2.1.trans HB0.out.tape, hpr.2.2.trans HB0.out.output, by rw [hsz]; exact HB0.out.size, fun g hg hf => (hbk g (fun e => hf (.inl e))).trans (HB0.out.block g hg)⟩)
      have HD2 := Lib.hid hW2D
      clear hsz hbk hpr
      go_upto_region 5 with fail
      rw [← hW2]
      clear hW2 d0 d1 d2 d3 d4 d5 d6 d7 d8 d9 d10 d11 d12 d13 d14 d15 d16 k0 k1 k2 k3 k4 k5 k6 k7 k8 f5 f6 f7 hK0 hS0
      have d0 := hW2D.cellAt (i := 0) (by simp)
      have d1 := hW2D.cellAt (i := 1) (by simp)
      have d2 := hW2D.cellAt (i := 2) (by simp)
      have d3 := hW2D.cellAt (i := 3) (by simp)
      have d4 := hW2D.cellAt (i := 4) (by simp)
      have d5 := hW2D.cellAt (i := 5) (by simp)
      have d6 := hW2D.cellAt (i := 6) (by simp)
      have d7 := hW2D.cellAt (i := 7) (by simp)
      have d8 := hW2D.cellAt (i := 8) (by simp)
      have d9 := hW2D.cellAt (i := 9) (by simp)
      have d10 := hW2D.cellAt (i := 10) (by simp)
      have d11 := hW2D.cellAt (i := 11) (by simp)
      have d12 := hW2D.cellAt (i := 12) (by simp)
      have d13 := hW2D.cellAt (i := 13) (by simp)
      have d14 := hW2D.cellAt (i := 14) (by simp)
      have d15 := hW2D.cellAt (i := 15) (by simp)
      have d16 := hW2D.cellAt (i := 16) (by simp)
      simp only [List.getElem_cons_zero, List.getElem_cons_succ] at d0 d1 d2 d3 d4 d5 d6 d7 d8 d9 d10 d11 d12 d13 d14 d15 d16
      have k0 := hW2K.cellAt (i := 0) (by simp)
      have k1 := hW2K.cellAt (i := 1) (by simp)
      have k2 := hW2K.cellAt (i := 2) (by simp)
      have k3 := hW2K.cellAt (i := 3) (by simp)
      have k4 := hW2K.cellAt (i := 4) (by simp)
      have k5 := hW2K.cellAt (i := 5) (by simp)
      have k6 := hW2K.cellAt (i := 6) (by simp)
      have k7 := hW2K.cellAt (i := 7) (by simp)
      have k8 := hW2K.cellAt (i := 8) (by simp)
      simp only [List.getElem_cons_zero, List.getElem_cons_succ] at k0 k1 k2 k3 k4 k5 k6 k7 k8
      clear hW2D hW2K
      have HOF := Lib.hid (show ∀ u, Below W2.heap.size W2 u → Calls Try.prog 52 #[.pointer (some ⟨I, 0, none⟩), .agg #[.bool e, .int .u32 n, .bool q, .int .i64 l, .int .u8 x0, .int .u8 x1, .int .u8 x2, .int .u8 x3, .int .u8 x4, .int .u8 x5, .int .u8 x6, .int .u8 x7, .int .i64 s.mark, .int .i64 now]] u fun y w' => y = .returned (.bool (offF s.rm s.F s.Q s.o ⟨e, n, q, l, x0, x1, x2, x3, x4, x5, x6, x7, s.mark, now⟩).2.2) ∧ (w'.cell? ⟨K, 1, none⟩ = some (.pointer (some ⟨I, 0, none⟩)) ∧ w'.cell? ⟨K, 7, none⟩ = some (.int .i64 s.mark) ∧ w'.cell? ⟨D, 5, none⟩ = some (.bool e) ∧ w'.cell? ⟨D, 6, none⟩ = some (.int .u32 n) ∧ w'.cell? ⟨D, 7, none⟩ = some (.bool q) ∧ w'.cell? ⟨D, 8, none⟩ = some (.int .i64 l) ∧ w'.cell? ⟨D, 9, none⟩ = some (.int .u8 x0) ∧ w'.cell? ⟨D, 10, none⟩ = some (.int .u8 x1) ∧ w'.cell? ⟨D, 11, none⟩ = some (.int .u8 x2) ∧ w'.cell? ⟨D, 12, none⟩ = some (.int .u8 x3) ∧ w'.cell? ⟨D, 13, none⟩ = some (.int .u8 x4) ∧ w'.cell? ⟨D, 14, none⟩ = some (.int .u8 x5) ∧ w'.cell? ⟨D, 15, none⟩ = some (.int .u8 x6) ∧ w'.cell? ⟨D, 16, none⟩ = some (.int .u8 x7)) ∧ ∃ v', CA w' K B I fv v' fr (calmF s true p now ⟨e, n, q, l, x0, x1, x2, x3, x4, x5, x6, x7, s.mark, now⟩) ∧ Fx (footC K B I fv v fr) w w' ∧ (∀ g, footC K B I fv v' fr g → footC K B I fv v fr g ∨ w.heap.size ≤ g) from fun u hu => by
        refine (offer_any I s.rm s.F fv s.Q v s.o ⟨e, n, q, l, x0, x1, x2, x3, x4, x5, x6, x7, s.mark, now⟩ HC2.out.f8 (by have h1 := HC2.out.q1; have h2 := HC2.out.r1; simp only at h1 h2; omega) u (HC2.out.on hu).inb).mono ?_
        rintro y w' ⟨v', h1, h2, h3, h4⟩
        obtain ⟨g1, g2, g3⟩ := (HC2.out.on hu).inbox h2 h3 h4 (off_le _ _ _ _ _ HC2.out.q1)
        have hDu := HD2.out.keep hu HD2.out.lt
        have hDw := hDu.on (h3.block D hDu.lt (fun e => HDF.out (.inr (.inr (.inl e)))) (fun e => HDF.out (.inr (.inr (.inr (.inr (.inl e)))))))
        refine ⟨h1, ⟨g1.blk.cellAt (i := 1) (by simp), g1.blk.cellAt (i := 7) (by simp), hDw.cellAt (i := 5) (by simp), hDw.cellAt (i := 6) (by simp), hDw.cellAt (i := 7) (by simp), hDw.cellAt (i := 8) (by simp), hDw.cellAt (i := 9) (by simp), hDw.cellAt (i := 10) (by simp), hDw.cellAt (i := 11) (by simp), hDw.cellAt (i := 12) (by simp), hDw.cellAt (i := 13) (by simp), hDw.cellAt (i := 14) (by simp), hDw.cellAt (i := 15) (by simp), hDw.cellAt (i := 16) (by simp)⟩, v', ?_, HF2.out.trans ((Fx.of_below (φ := footC K B I fv v fr) hu).trans g2 (fun k hk => .inl hk)) (fun k hk => .inl hk), fun g hg => ?_⟩
        · rw [show calmF s true p now ⟨e, n, q, l, x0, x1, x2, x3, x4, x5, x6, x7, s.mark, now⟩ = { s with ph := p, now := now, mark := s.mark, Q := (offF s.rm s.F s.Q s.o ⟨e, n, q, l, x0, x1, x2, x3, x4, x5, x6, x7, s.mark, now⟩).1, o := (offF s.rm s.F s.Q s.o ⟨e, n, q, l, x0, x1, x2, x3, x4, x5, x6, x7, s.mark, now⟩).2.1 } by unfold calmF; rw [if_pos rfl, hmk]]
          exact g1
        · rcases g3 g hg with e | e
          · exact .inl e
          · have h5 := HF2.out.size; have h6 := hu.size; exact .inr (by omega))
      obtain ⟨r, hr⟩ : ∃ r, r = (offF s.rm s.F s.Q s.o ⟨e, n, q, l, x0, x1, x2, x3, x4, x5, x6, x7, s.mark, now⟩).2.2 := ⟨_, rfl⟩
      rw [← hr] at HOF
      clear hr
      have hz : (W2.cell? ⟨K, 1, none⟩ = some (.pointer (some ⟨I, 0, none⟩)) ∧ W2.cell? ⟨K, 7, none⟩ = some (.int .i64 s.mark) ∧ W2.cell? ⟨D, 5, none⟩ = some (.bool e) ∧ W2.cell? ⟨D, 6, none⟩ = some (.int .u32 n) ∧ W2.cell? ⟨D, 7, none⟩ = some (.bool q) ∧ W2.cell? ⟨D, 8, none⟩ = some (.int .i64 l) ∧ W2.cell? ⟨D, 9, none⟩ = some (.int .u8 x0) ∧ W2.cell? ⟨D, 10, none⟩ = some (.int .u8 x1) ∧ W2.cell? ⟨D, 11, none⟩ = some (.int .u8 x2) ∧ W2.cell? ⟨D, 12, none⟩ = some (.int .u8 x3) ∧ W2.cell? ⟨D, 13, none⟩ = some (.int .u8 x4) ∧ W2.cell? ⟨D, 14, none⟩ = some (.int .u8 x5) ∧ W2.cell? ⟨D, 15, none⟩ = some (.int .u8 x6) ∧ W2.cell? ⟨D, 16, none⟩ = some (.int .u8 x7)) := ⟨k1, k7, d5, d6, d7, d8, d9, d10, d11, d12, d13, d14, d15, d16⟩
      have hz2 : (W2.drew.cell? ⟨K, 1, none⟩ = some (.pointer (some ⟨I, 0, none⟩)) ∧ W2.drew.cell? ⟨K, 7, none⟩ = some (.int .i64 s.mark) ∧ W2.drew.cell? ⟨D, 5, none⟩ = some (.bool e) ∧ W2.drew.cell? ⟨D, 6, none⟩ = some (.int .u32 n) ∧ W2.drew.cell? ⟨D, 7, none⟩ = some (.bool q) ∧ W2.drew.cell? ⟨D, 8, none⟩ = some (.int .i64 l) ∧ W2.drew.cell? ⟨D, 9, none⟩ = some (.int .u8 x0) ∧ W2.drew.cell? ⟨D, 10, none⟩ = some (.int .u8 x1) ∧ W2.drew.cell? ⟨D, 11, none⟩ = some (.int .u8 x2) ∧ W2.drew.cell? ⟨D, 12, none⟩ = some (.int .u8 x3) ∧ W2.drew.cell? ⟨D, 13, none⟩ = some (.int .u8 x4) ∧ W2.drew.cell? ⟨D, 14, none⟩ = some (.int .u8 x5) ∧ W2.drew.cell? ⟨D, 15, none⟩ = some (.int .u8 x6) ∧ W2.drew.cell? ⟨D, 16, none⟩ = some (.int .u8 x7)) := ⟨k1, k7, d5, d6, d7, d8, d9, d10, d11, d12, d13, d14, d15, d16⟩
      clear HC2 HF2 HD2 hmk
      go_upto_region 12 with fail
      go_region_held3 (fun u => (u.cell? ⟨K, 1, none⟩ = some (.pointer (some ⟨I, 0, none⟩)) ∧ u.cell? ⟨K, 7, none⟩ = some (.int .i64 s.mark) ∧ u.cell? ⟨D, 5, none⟩ = some (.bool e) ∧ u.cell? ⟨D, 6, none⟩ = some (.int .u32 n) ∧ u.cell? ⟨D, 7, none⟩ = some (.bool q) ∧ u.cell? ⟨D, 8, none⟩ = some (.int .i64 l) ∧ u.cell? ⟨D, 9, none⟩ = some (.int .u8 x0) ∧ u.cell? ⟨D, 10, none⟩ = some (.int .u8 x1) ∧ u.cell? ⟨D, 11, none⟩ = some (.int .u8 x2) ∧ u.cell? ⟨D, 12, none⟩ = some (.int .u8 x3) ∧ u.cell? ⟨D, 13, none⟩ = some (.int .u8 x4) ∧ u.cell? ⟨D, 14, none⟩ = some (.int .u8 x5) ∧ u.cell? ⟨D, 15, none⟩ = some (.int .u8 x6) ∧ u.cell? ⟨D, 16, none⟩ = some (.int .u8 x7))) (with_reducible assumption) (first | (go_at_call 52; refine (HOF.out _ (Below.refl _ _).drew).mono ?_; rintro y w6 ⟨rfl, h6S, v', h6, h7, h8⟩))
      go_wp2_with fail
      go_end0
      exact ⟨rfl, v', h6, h7, h8⟩
  case true.true =>
    have HWP := Lib.hid (fun u => within_any p u)
    rw [ha] at HWP
    have HWS := Lib.hid (fun u => within_any s.ph u)
    rw [hb2] at HWS
    have hmk : markF s p now = s.mark := by unfold markF; rw [ha, hb2]; exact if_neg (by simp)
    clear ha hb2
    cases got
    case false =>
      go_enter Try.func12, Try.ntmps12
      go_upto_region 1 with fail
      rw [← hW0, ← hD]
      clear hW0 hD
      go_wp2_with fail
      refine (HWP.out _).mono ?_
      rintro y w1 ⟨rfl, rfl⟩
      go_wp2_with fail
      refine (HWS.out _).mono ?_
      rintro y w1 ⟨rfl, rfl⟩
      have hW2K : Blk ((W0.setCell ⟨K, 5, none⟩ (.int .i64 p)).setCell ⟨K, 6, none⟩ (.int .i64 now)) K 114 [.pointer (some ⟨B, 0, none⟩), .pointer (some ⟨I, 0, none⟩), .bool s.on, .int .i64 s.bx, .bool s.can, .int .i64 p, .int .i64 now, .int .i64 s.mark, fr] := (hK0.put1 (i := 5) (by simp) (.int .i64 p)).put1 (i := 6) (by simp) (.int .i64 now)
      have hW2D := (hS0.puts (C := K) (by omega) 5 (.int .i64 p)).puts (C := K) (by omega) 6 (.int .i64 now)
      obtain ⟨W2, hW2⟩ : ∃ W2, W2 = (W0.setCell ⟨K, 5, none⟩ (.int .i64 p)).setCell ⟨K, 6, none⟩ (.int .i64 now) := ⟨_, rfl⟩
      have hsz : W2.heap.size = W0.heap.size := by rw [hW2]; simp only [setCell_sizeG]
      have hbk : ∀ g, g ≠ K → W2.heap[g]? = W0.heap[g]? := fun g hg => by rw [hW2, Below.heap_setCell _ ⟨K, 6, none⟩ _ g hg, Below.heap_setCell _ ⟨K, 5, none⟩ _ g hg]
      have hpr : W2.os = W0.os ∧ W2.tape = W0.tape ∧ W2.output = W0.output := by rw [hW2]; exact ⟨rfl, rfl, rfl⟩
      rw [← hW2] at hW2K hW2D
      have HC2 := Lib.hid (HC0.out.own { s with ph := p, now := now, mark := s.mark } rfl rfl rfl rfl rfl rfl rfl hsz hbk hW2K HC0.out.tr)
      have HF2 := Lib.hid (show Fx (footC K B I fv v fr) w W2 from ⟨hpr.1.trans HB0.out.os, hpr.2.1.trans HB0.out.tape, hpr.2.2.trans HB0.out.output, by rw [hsz]; exact HB0.out.size, fun g hg hf => (hbk g (fun e => hf (.inl e))).trans (HB0.out.block g hg)⟩)
      have HD2 := Lib.hid hW2D
      clear hsz hbk hpr
      go_upto_region 5 with fail
      rw [← hW2]
      clear hW2 d0 d1 d2 d3 d4 d5 d6 d7 d8 d9 d10 d11 d12 d13 d14 d15 d16 k0 k1 k2 k3 k4 k5 k6 k7 k8 f5 f6 f7 hK0 hS0
      have d0 := hW2D.cellAt (i := 0) (by simp)
      have d1 := hW2D.cellAt (i := 1) (by simp)
      have d2 := hW2D.cellAt (i := 2) (by simp)
      have d3 := hW2D.cellAt (i := 3) (by simp)
      have d4 := hW2D.cellAt (i := 4) (by simp)
      have d5 := hW2D.cellAt (i := 5) (by simp)
      have d6 := hW2D.cellAt (i := 6) (by simp)
      have d7 := hW2D.cellAt (i := 7) (by simp)
      have d8 := hW2D.cellAt (i := 8) (by simp)
      have d9 := hW2D.cellAt (i := 9) (by simp)
      have d10 := hW2D.cellAt (i := 10) (by simp)
      have d11 := hW2D.cellAt (i := 11) (by simp)
      have d12 := hW2D.cellAt (i := 12) (by simp)
      have d13 := hW2D.cellAt (i := 13) (by simp)
      have d14 := hW2D.cellAt (i := 14) (by simp)
      have d15 := hW2D.cellAt (i := 15) (by simp)
      have d16 := hW2D.cellAt (i := 16) (by simp)
      simp only [List.getElem_cons_zero, List.getElem_cons_succ] at d0 d1 d2 d3 d4 d5 d6 d7 d8 d9 d10 d11 d12 d13 d14 d15 d16
      have k0 := hW2K.cellAt (i := 0) (by simp)
      have k1 := hW2K.cellAt (i := 1) (by simp)
      have k2 := hW2K.cellAt (i := 2) (by simp)
      have k3 := hW2K.cellAt (i := 3) (by simp)
      have k4 := hW2K.cellAt (i := 4) (by simp)
      have k5 := hW2K.cellAt (i := 5) (by simp)
      have k6 := hW2K.cellAt (i := 6) (by simp)
      have k7 := hW2K.cellAt (i := 7) (by simp)
      have k8 := hW2K.cellAt (i := 8) (by simp)
      simp only [List.getElem_cons_zero, List.getElem_cons_succ] at k0 k1 k2 k3 k4 k5 k6 k7 k8
      clear hW2D hW2K
      go_wp2_with fail
      go_end0
      refine ⟨rfl, v, ?_, HF2.out, fun g hg => .inl hg⟩
      rw [show calmF s false p now x = { s with ph := p, now := now, mark := s.mark } by unfold calmF; rw [if_neg (by decide), hmk]]
      exact HC2.out
    case true =>
      subst hx
      rw [hmk]
      go_enter Try.func12, Try.ntmps12
      go_upto_region 1 with fail
      rw [← hW0, ← hD]
      clear hW0 hD
      go_wp2_with fail
      refine (HWP.out _).mono ?_
      rintro y w1 ⟨rfl, rfl⟩
      go_wp2_with fail
      refine (HWS.out _).mono ?_
      rintro y w1 ⟨rfl, rfl⟩
      have hW2K : Blk ((W0.setCell ⟨K, 5, none⟩ (.int .i64 p)).setCell ⟨K, 6, none⟩ (.int .i64 now)) K 114 [.pointer (some ⟨B, 0, none⟩), .pointer (some ⟨I, 0, none⟩), .bool s.on, .int .i64 s.bx, .bool s.can, .int .i64 p, .int .i64 now, .int .i64 s.mark, fr] := (hK0.put1 (i := 5) (by simp) (.int .i64 p)).put1 (i := 6) (by simp) (.int .i64 now)
      have hW2D := (hS0.puts (C := K) (by omega) 5 (.int .i64 p)).puts (C := K) (by omega) 6 (.int .i64 now)
      obtain ⟨W2, hW2⟩ : ∃ W2, W2 = (W0.setCell ⟨K, 5, none⟩ (.int .i64 p)).setCell ⟨K, 6, none⟩ (.int .i64 now) := ⟨_, rfl⟩
      have hsz : W2.heap.size = W0.heap.size := by rw [hW2]; simp only [setCell_sizeG]
      have hbk : ∀ g, g ≠ K → W2.heap[g]? = W0.heap[g]? := fun g hg => by rw [hW2, Below.heap_setCell _ ⟨K, 6, none⟩ _ g hg, Below.heap_setCell _ ⟨K, 5, none⟩ _ g hg]
      have hpr : W2.os = W0.os ∧ W2.tape = W0.tape ∧ W2.output = W0.output := by rw [hW2]; exact ⟨rfl, rfl, rfl⟩
      rw [← hW2] at hW2K hW2D
      have HC2 := Lib.hid (HC0.out.own { s with ph := p, now := now, mark := s.mark } rfl rfl rfl rfl rfl rfl rfl hsz hbk hW2K HC0.out.tr)
      have HF2 := Lib.hid (show Fx (footC K B I fv v fr) w W2 from ⟨hpr.1.trans HB0.out.os, hpr.2.1.trans HB0.out.tape, hpr.2.2.trans HB0.out.output, by rw [hsz]; exact HB0.out.size, fun g hg hf => (hbk g (fun e => hf (.inl e))).trans (HB0.out.block g hg)⟩)
      have HD2 := Lib.hid hW2D
      clear hsz hbk hpr
      go_upto_region 5 with fail
      rw [← hW2]
      clear hW2 d0 d1 d2 d3 d4 d5 d6 d7 d8 d9 d10 d11 d12 d13 d14 d15 d16 k0 k1 k2 k3 k4 k5 k6 k7 k8 f5 f6 f7 hK0 hS0
      have d0 := hW2D.cellAt (i := 0) (by simp)
      have d1 := hW2D.cellAt (i := 1) (by simp)
      have d2 := hW2D.cellAt (i := 2) (by simp)
      have d3 := hW2D.cellAt (i := 3) (by simp)
      have d4 := hW2D.cellAt (i := 4) (by simp)
      have d5 := hW2D.cellAt (i := 5) (by simp)
      have d6 := hW2D.cellAt (i := 6) (by simp)
      have d7 := hW2D.cellAt (i := 7) (by simp)
      have d8 := hW2D.cellAt (i := 8) (by simp)
      have d9 := hW2D.cellAt (i := 9) (by simp)
      have d10 := hW2D.cellAt (i := 10) (by simp)
      have d11 := hW2D.cellAt (i := 11) (by simp)
      have d12 := hW2D.cellAt (i := 12) (by simp)
      have d13 := hW2D.cellAt (i := 13) (by simp)
      have d14 := hW2D.cellAt (i := 14) (by simp)
      have d15 := hW2D.cellAt (i := 15) (by simp)
      have d16 := hW2D.cellAt (i := 16) (by simp)
      simp only [List.getElem_cons_zero, List.getElem_cons_succ] at d0 d1 d2 d3 d4 d5 d6 d7 d8 d9 d10 d11 d12 d13 d14 d15 d16
      have k0 := hW2K.cellAt (i := 0) (by simp)
      have k1 := hW2K.cellAt (i := 1) (by simp)
      have k2 := hW2K.cellAt (i := 2) (by simp)
      have k3 := hW2K.cellAt (i := 3) (by simp)
      have k4 := hW2K.cellAt (i := 4) (by simp)
      have k5 := hW2K.cellAt (i := 5) (by simp)
      have k6 := hW2K.cellAt (i := 6) (by simp)
      have k7 := hW2K.cellAt (i := 7) (by simp)
      have k8 := hW2K.cellAt (i := 8) (by simp)
      simp only [List.getElem_cons_zero, List.getElem_cons_succ] at k0 k1 k2 k3 k4 k5 k6 k7 k8
      clear hW2D hW2K
      have HOF := Lib.hid (show ∀ u, Below W2.heap.size W2 u → Calls Try.prog 52 #[.pointer (some ⟨I, 0, none⟩), .agg #[.bool e, .int .u32 n, .bool q, .int .i64 l, .int .u8 x0, .int .u8 x1, .int .u8 x2, .int .u8 x3, .int .u8 x4, .int .u8 x5, .int .u8 x6, .int .u8 x7, .int .i64 s.mark, .int .i64 now]] u fun y w' => y = .returned (.bool (offF s.rm s.F s.Q s.o ⟨e, n, q, l, x0, x1, x2, x3, x4, x5, x6, x7, s.mark, now⟩).2.2) ∧ (w'.cell? ⟨K, 1, none⟩ = some (.pointer (some ⟨I, 0, none⟩)) ∧ w'.cell? ⟨K, 7, none⟩ = some (.int .i64 s.mark) ∧ w'.cell? ⟨D, 5, none⟩ = some (.bool e) ∧ w'.cell? ⟨D, 6, none⟩ = some (.int .u32 n) ∧ w'.cell? ⟨D, 7, none⟩ = some (.bool q) ∧ w'.cell? ⟨D, 8, none⟩ = some (.int .i64 l) ∧ w'.cell? ⟨D, 9, none⟩ = some (.int .u8 x0) ∧ w'.cell? ⟨D, 10, none⟩ = some (.int .u8 x1) ∧ w'.cell? ⟨D, 11, none⟩ = some (.int .u8 x2) ∧ w'.cell? ⟨D, 12, none⟩ = some (.int .u8 x3) ∧ w'.cell? ⟨D, 13, none⟩ = some (.int .u8 x4) ∧ w'.cell? ⟨D, 14, none⟩ = some (.int .u8 x5) ∧ w'.cell? ⟨D, 15, none⟩ = some (.int .u8 x6) ∧ w'.cell? ⟨D, 16, none⟩ = some (.int .u8 x7)) ∧ ∃ v', CA w' K B I fv v' fr (calmF s true p now ⟨e, n, q, l, x0, x1, x2, x3, x4, x5, x6, x7, s.mark, now⟩) ∧ Fx (footC K B I fv v fr) w w' ∧ (∀ g, footC K B I fv v' fr g → footC K B I fv v fr g ∨ w.heap.size ≤ g) from fun u hu => by
        refine (offer_any I s.rm s.F fv s.Q v s.o ⟨e, n, q, l, x0, x1, x2, x3, x4, x5, x6, x7, s.mark, now⟩ HC2.out.f8 (by have h1 := HC2.out.q1; have h2 := HC2.out.r1; simp only at h1 h2; omega) u (HC2.out.on hu).inb).mono ?_
        rintro y w' ⟨v', h1, h2, h3, h4⟩
        obtain ⟨g1, g2, g3⟩ := (HC2.out.on hu).inbox h2 h3 h4 (off_le _ _ _ _ _ HC2.out.q1)
        have hDu := HD2.out.keep hu HD2.out.lt
        have hDw := hDu.on (h3.block D hDu.lt (fun e => HDF.out (.inr (.inr (.inl e)))) (fun e => HDF.out (.inr (.inr (.inr (.inr (.inl e)))))))
        refine ⟨h1, ⟨g1.blk.cellAt (i := 1) (by simp), g1.blk.cellAt (i := 7) (by simp), hDw.cellAt (i := 5) (by simp), hDw.cellAt (i := 6) (by simp), hDw.cellAt (i := 7) (by simp), hDw.cellAt (i := 8) (by simp), hDw.cellAt (i := 9) (by simp), hDw.cellAt (i := 10) (by simp), hDw.cellAt (i := 11) (by simp), hDw.cellAt (i := 12) (by simp), hDw.cellAt (i := 13) (by simp), hDw.cellAt (i := 14) (by simp), hDw.cellAt (i := 15) (by simp), hDw.cellAt (i := 16) (by simp)⟩, v', ?_, HF2.out.trans ((Fx.of_below (φ := footC K B I fv v fr) hu).trans g2 (fun k hk => .inl hk)) (fun k hk => .inl hk), fun g hg => ?_⟩
        · rw [show calmF s true p now ⟨e, n, q, l, x0, x1, x2, x3, x4, x5, x6, x7, s.mark, now⟩ = { s with ph := p, now := now, mark := s.mark, Q := (offF s.rm s.F s.Q s.o ⟨e, n, q, l, x0, x1, x2, x3, x4, x5, x6, x7, s.mark, now⟩).1, o := (offF s.rm s.F s.Q s.o ⟨e, n, q, l, x0, x1, x2, x3, x4, x5, x6, x7, s.mark, now⟩).2.1 } by unfold calmF; rw [if_pos rfl, hmk]]
          exact g1
        · rcases g3 g hg with e | e
          · exact .inl e
          · have h5 := HF2.out.size; have h6 := hu.size; exact .inr (by omega))
      obtain ⟨r, hr⟩ : ∃ r, r = (offF s.rm s.F s.Q s.o ⟨e, n, q, l, x0, x1, x2, x3, x4, x5, x6, x7, s.mark, now⟩).2.2 := ⟨_, rfl⟩
      rw [← hr] at HOF
      clear hr
      have hz : (W2.cell? ⟨K, 1, none⟩ = some (.pointer (some ⟨I, 0, none⟩)) ∧ W2.cell? ⟨K, 7, none⟩ = some (.int .i64 s.mark) ∧ W2.cell? ⟨D, 5, none⟩ = some (.bool e) ∧ W2.cell? ⟨D, 6, none⟩ = some (.int .u32 n) ∧ W2.cell? ⟨D, 7, none⟩ = some (.bool q) ∧ W2.cell? ⟨D, 8, none⟩ = some (.int .i64 l) ∧ W2.cell? ⟨D, 9, none⟩ = some (.int .u8 x0) ∧ W2.cell? ⟨D, 10, none⟩ = some (.int .u8 x1) ∧ W2.cell? ⟨D, 11, none⟩ = some (.int .u8 x2) ∧ W2.cell? ⟨D, 12, none⟩ = some (.int .u8 x3) ∧ W2.cell? ⟨D, 13, none⟩ = some (.int .u8 x4) ∧ W2.cell? ⟨D, 14, none⟩ = some (.int .u8 x5) ∧ W2.cell? ⟨D, 15, none⟩ = some (.int .u8 x6) ∧ W2.cell? ⟨D, 16, none⟩ = some (.int .u8 x7)) := ⟨k1, k7, d5, d6, d7, d8, d9, d10, d11, d12, d13, d14, d15, d16⟩
      have hz2 : (W2.drew.cell? ⟨K, 1, none⟩ = some (.pointer (some ⟨I, 0, none⟩)) ∧ W2.drew.cell? ⟨K, 7, none⟩ = some (.int .i64 s.mark) ∧ W2.drew.cell? ⟨D, 5, none⟩ = some (.bool e) ∧ W2.drew.cell? ⟨D, 6, none⟩ = some (.int .u32 n) ∧ W2.drew.cell? ⟨D, 7, none⟩ = some (.bool q) ∧ W2.drew.cell? ⟨D, 8, none⟩ = some (.int .i64 l) ∧ W2.drew.cell? ⟨D, 9, none⟩ = some (.int .u8 x0) ∧ W2.drew.cell? ⟨D, 10, none⟩ = some (.int .u8 x1) ∧ W2.drew.cell? ⟨D, 11, none⟩ = some (.int .u8 x2) ∧ W2.drew.cell? ⟨D, 12, none⟩ = some (.int .u8 x3) ∧ W2.drew.cell? ⟨D, 13, none⟩ = some (.int .u8 x4) ∧ W2.drew.cell? ⟨D, 14, none⟩ = some (.int .u8 x5) ∧ W2.drew.cell? ⟨D, 15, none⟩ = some (.int .u8 x6) ∧ W2.drew.cell? ⟨D, 16, none⟩ = some (.int .u8 x7)) := ⟨k1, k7, d5, d6, d7, d8, d9, d10, d11, d12, d13, d14, d15, d16⟩
      clear HC2 HF2 HD2 hmk
      go_upto_region 12 with fail
      go_region_held3 (fun u => (u.cell? ⟨K, 1, none⟩ = some (.pointer (some ⟨I, 0, none⟩)) ∧ u.cell? ⟨K, 7, none⟩ = some (.int .i64 s.mark) ∧ u.cell? ⟨D, 5, none⟩ = some (.bool e) ∧ u.cell? ⟨D, 6, none⟩ = some (.int .u32 n) ∧ u.cell? ⟨D, 7, none⟩ = some (.bool q) ∧ u.cell? ⟨D, 8, none⟩ = some (.int .i64 l) ∧ u.cell? ⟨D, 9, none⟩ = some (.int .u8 x0) ∧ u.cell? ⟨D, 10, none⟩ = some (.int .u8 x1) ∧ u.cell? ⟨D, 11, none⟩ = some (.int .u8 x2) ∧ u.cell? ⟨D, 12, none⟩ = some (.int .u8 x3) ∧ u.cell? ⟨D, 13, none⟩ = some (.int .u8 x4) ∧ u.cell? ⟨D, 14, none⟩ = some (.int .u8 x5) ∧ u.cell? ⟨D, 15, none⟩ = some (.int .u8 x6) ∧ u.cell? ⟨D, 16, none⟩ = some (.int .u8 x7))) (with_reducible assumption) (first | (go_at_call 52; refine (HOF.out _ (Below.refl _ _).drew).mono ?_; rintro y w6 ⟨rfl, h6S, v', h6, h7, h8⟩))
      go_wp2_with fail
      go_end0
      exact ⟨rfl, v', h6, h7, h8⟩
  case true.false =>
    have HWP := Lib.hid (fun u => within_any p u)
    rw [ha] at HWP
    have HWS := Lib.hid (fun u => within_any s.ph u)
    rw [hb2] at HWS
    have hmk : markF s p now = now := by unfold markF; rw [ha, hb2]; exact if_pos ⟨rfl, rfl⟩
    clear ha hb2
    cases got
    case false =>
      go_enter Try.func12, Try.ntmps12
      go_upto_region 1 with fail
      rw [← hW0, ← hD]
      clear hW0 hD
      go_wp2_with fail
      refine (HWP.out _).mono ?_
      rintro y w1 ⟨rfl, rfl⟩
      go_wp2_with fail
      refine (HWS.out _).mono ?_
      rintro y w1 ⟨rfl, rfl⟩
      have hW2K : Blk (((W0.setCell ⟨K, 7, none⟩ (.int .i64 now)).setCell ⟨K, 5, none⟩ (.int .i64 p)).setCell ⟨K, 6, none⟩ (.int .i64 now)) K 114 [.pointer (some ⟨B, 0, none⟩), .pointer (some ⟨I, 0, none⟩), .bool s.on, .int .i64 s.bx, .bool s.can, .int .i64 p, .int .i64 now, .int .i64 now, fr] := ((hK0.put1 (i := 7) (by simp) (.int .i64 now)).put1 (i := 5) (by simp) (.int .i64 p)).put1 (i := 6) (by simp) (.int .i64 now)
      have hW2D := ((hS0.puts (C := K) (by omega) 7 (.int .i64 now)).puts (C := K) (by omega) 5 (.int .i64 p)).puts (C := K) (by omega) 6 (.int .i64 now)
      obtain ⟨W2, hW2⟩ : ∃ W2, W2 = ((W0.setCell ⟨K, 7, none⟩ (.int .i64 now)).setCell ⟨K, 5, none⟩ (.int .i64 p)).setCell ⟨K, 6, none⟩ (.int .i64 now) := ⟨_, rfl⟩
      have hsz : W2.heap.size = W0.heap.size := by rw [hW2]; simp only [setCell_sizeG]
      have hbk : ∀ g, g ≠ K → W2.heap[g]? = W0.heap[g]? := fun g hg => by rw [hW2, Below.heap_setCell _ ⟨K, 6, none⟩ _ g hg, Below.heap_setCell _ ⟨K, 5, none⟩ _ g hg, Below.heap_setCell _ ⟨K, 7, none⟩ _ g hg]
      have hpr : W2.os = W0.os ∧ W2.tape = W0.tape ∧ W2.output = W0.output := by rw [hW2]; exact ⟨rfl, rfl, rfl⟩
      rw [← hW2] at hW2K hW2D
      have HC2 := Lib.hid (HC0.out.own { s with ph := p, now := now, mark := now } rfl rfl rfl rfl rfl rfl rfl hsz hbk hW2K HC0.out.tr)
      have HF2 := Lib.hid (show Fx (footC K B I fv v fr) w W2 from ⟨hpr.1.trans HB0.out.os, hpr.2.1.trans HB0.out.tape, hpr.2.2.trans HB0.out.output, by rw [hsz]; exact HB0.out.size, fun g hg hf => (hbk g (fun e => hf (.inl e))).trans (HB0.out.block g hg)⟩)
      have HD2 := Lib.hid hW2D
      clear hsz hbk hpr
      go_upto_region 5 with fail
      rw [← hW2]
      clear hW2 d0 d1 d2 d3 d4 d5 d6 d7 d8 d9 d10 d11 d12 d13 d14 d15 d16 k0 k1 k2 k3 k4 k5 k6 k7 k8 f5 f6 f7 hK0 hS0
      have d0 := hW2D.cellAt (i := 0) (by simp)
      have d1 := hW2D.cellAt (i := 1) (by simp)
      have d2 := hW2D.cellAt (i := 2) (by simp)
      have d3 := hW2D.cellAt (i := 3) (by simp)
      have d4 := hW2D.cellAt (i := 4) (by simp)
      have d5 := hW2D.cellAt (i := 5) (by simp)
      have d6 := hW2D.cellAt (i := 6) (by simp)
      have d7 := hW2D.cellAt (i := 7) (by simp)
      have d8 := hW2D.cellAt (i := 8) (by simp)
      have d9 := hW2D.cellAt (i := 9) (by simp)
      have d10 := hW2D.cellAt (i := 10) (by simp)
      have d11 := hW2D.cellAt (i := 11) (by simp)
      have d12 := hW2D.cellAt (i := 12) (by simp)
      have d13 := hW2D.cellAt (i := 13) (by simp)
      have d14 := hW2D.cellAt (i := 14) (by simp)
      have d15 := hW2D.cellAt (i := 15) (by simp)
      have d16 := hW2D.cellAt (i := 16) (by simp)
      simp only [List.getElem_cons_zero, List.getElem_cons_succ] at d0 d1 d2 d3 d4 d5 d6 d7 d8 d9 d10 d11 d12 d13 d14 d15 d16
      have k0 := hW2K.cellAt (i := 0) (by simp)
      have k1 := hW2K.cellAt (i := 1) (by simp)
      have k2 := hW2K.cellAt (i := 2) (by simp)
      have k3 := hW2K.cellAt (i := 3) (by simp)
      have k4 := hW2K.cellAt (i := 4) (by simp)
      have k5 := hW2K.cellAt (i := 5) (by simp)
      have k6 := hW2K.cellAt (i := 6) (by simp)
      have k7 := hW2K.cellAt (i := 7) (by simp)
      have k8 := hW2K.cellAt (i := 8) (by simp)
      simp only [List.getElem_cons_zero, List.getElem_cons_succ] at k0 k1 k2 k3 k4 k5 k6 k7 k8
      clear hW2D hW2K
      go_wp2_with fail
      go_end0
      refine ⟨rfl, v, ?_, HF2.out, fun g hg => .inl hg⟩
      rw [show calmF s false p now x = { s with ph := p, now := now, mark := now } by unfold calmF; rw [if_neg (by decide), hmk]]
      exact HC2.out
    case true =>
      subst hx
      rw [hmk]
      go_enter Try.func12, Try.ntmps12
      go_upto_region 1 with fail
      rw [← hW0, ← hD]
      clear hW0 hD
      go_wp2_with fail
      refine (HWP.out _).mono ?_
      rintro y w1 ⟨rfl, rfl⟩
      go_wp2_with fail
      refine (HWS.out _).mono ?_
      rintro y w1 ⟨rfl, rfl⟩
      have hW2K : Blk (((W0.setCell ⟨K, 7, none⟩ (.int .i64 now)).setCell ⟨K, 5, none⟩ (.int .i64 p)).setCell ⟨K, 6, none⟩ (.int .i64 now)) K 114 [.pointer (some ⟨B, 0, none⟩), .pointer (some ⟨I, 0, none⟩), .bool s.on, .int .i64 s.bx, .bool s.can, .int .i64 p, .int .i64 now, .int .i64 now, fr] := ((hK0.put1 (i := 7) (by simp) (.int .i64 now)).put1 (i := 5) (by simp) (.int .i64 p)).put1 (i := 6) (by simp) (.int .i64 now)
      have hW2D := ((hS0.puts (C := K) (by omega) 7 (.int .i64 now)).puts (C := K) (by omega) 5 (.int .i64 p)).puts (C := K) (by omega) 6 (.int .i64 now)
      obtain ⟨W2, hW2⟩ : ∃ W2, W2 = ((W0.setCell ⟨K, 7, none⟩ (.int .i64 now)).setCell ⟨K, 5, none⟩ (.int .i64 p)).setCell ⟨K, 6, none⟩ (.int .i64 now) := ⟨_, rfl⟩
      have hsz : W2.heap.size = W0.heap.size := by rw [hW2]; simp only [setCell_sizeG]
      have hbk : ∀ g, g ≠ K → W2.heap[g]? = W0.heap[g]? := fun g hg => by rw [hW2, Below.heap_setCell _ ⟨K, 6, none⟩ _ g hg, Below.heap_setCell _ ⟨K, 5, none⟩ _ g hg, Below.heap_setCell _ ⟨K, 7, none⟩ _ g hg]
      have hpr : W2.os = W0.os ∧ W2.tape = W0.tape ∧ W2.output = W0.output := by rw [hW2]; exact ⟨rfl, rfl, rfl⟩
      rw [← hW2] at hW2K hW2D
      have HC2 := Lib.hid (HC0.out.own { s with ph := p, now := now, mark := now } rfl rfl rfl rfl rfl rfl rfl hsz hbk hW2K HC0.out.tr)
      have HF2 := Lib.hid (show Fx (footC K B I fv v fr) w W2 from ⟨hpr.1.trans HB0.out.os, hpr.2.1.trans HB0.out.tape, hpr.2.2.trans HB0.out.output, by rw [hsz]; exact HB0.out.size, fun g hg hf => (hbk g (fun e => hf (.inl e))).trans (HB0.out.block g hg)⟩)
      have HD2 := Lib.hid hW2D
      clear hsz hbk hpr
      go_upto_region 5 with fail
      rw [← hW2]
      clear hW2 d0 d1 d2 d3 d4 d5 d6 d7 d8 d9 d10 d11 d12 d13 d14 d15 d16 k0 k1 k2 k3 k4 k5 k6 k7 k8 f5 f6 f7 hK0 hS0
      have d0 := hW2D.cellAt (i := 0) (by simp)
      have d1 := hW2D.cellAt (i := 1) (by simp)
      have d2 := hW2D.cellAt (i := 2) (by simp)
      have d3 := hW2D.cellAt (i := 3) (by simp)
      have d4 := hW2D.cellAt (i := 4) (by simp)
      have d5 := hW2D.cellAt (i := 5) (by simp)
      have d6 := hW2D.cellAt (i := 6) (by simp)
      have d7 := hW2D.cellAt (i := 7) (by simp)
      have d8 := hW2D.cellAt (i := 8) (by simp)
      have d9 := hW2D.cellAt (i := 9) (by simp)
      have d10 := hW2D.cellAt (i := 10) (by simp)
      have d11 := hW2D.cellAt (i := 11) (by simp)
      have d12 := hW2D.cellAt (i := 12) (by simp)
      have d13 := hW2D.cellAt (i := 13) (by simp)
      have d14 := hW2D.cellAt (i := 14) (by simp)
      have d15 := hW2D.cellAt (i := 15) (by simp)
      have d16 := hW2D.cellAt (i := 16) (by simp)
      simp only [List.getElem_cons_zero, List.getElem_cons_succ] at d0 d1 d2 d3 d4 d5 d6 d7 d8 d9 d10 d11 d12 d13 d14 d15 d16
      have k0 := hW2K.cellAt (i := 0) (by simp)
      have k1 := hW2K.cellAt (i := 1) (by simp)
      have k2 := hW2K.cellAt (i := 2) (by simp)
      have k3 := hW2K.cellAt (i := 3) (by simp)
      have k4 := hW2K.cellAt (i := 4) (by simp)
      have k5 := hW2K.cellAt (i := 5) (by simp)
      have k6 := hW2K.cellAt (i := 6) (by simp)
      have k7 := hW2K.cellAt (i := 7) (by simp)
      have k8 := hW2K.cellAt (i := 8) (by simp)
      simp only [List.getElem_cons_zero, List.getElem_cons_succ] at k0 k1 k2 k3 k4 k5 k6 k7 k8
      clear hW2D hW2K
      have HOF := Lib.hid (show ∀ u, Below W2.heap.size W2 u → Calls Try.prog 52 #[.pointer (some ⟨I, 0, none⟩), .agg #[.bool e, .int .u32 n, .bool q, .int .i64 l, .int .u8 x0, .int .u8 x1, .int .u8 x2, .int .u8 x3, .int .u8 x4, .int .u8 x5, .int .u8 x6, .int .u8 x7, .int .i64 now, .int .i64 now]] u fun y w' => y = .returned (.bool (offF s.rm s.F s.Q s.o ⟨e, n, q, l, x0, x1, x2, x3, x4, x5, x6, x7, now, now⟩).2.2) ∧ (w'.cell? ⟨K, 1, none⟩ = some (.pointer (some ⟨I, 0, none⟩)) ∧ w'.cell? ⟨K, 7, none⟩ = some (.int .i64 now) ∧ w'.cell? ⟨D, 5, none⟩ = some (.bool e) ∧ w'.cell? ⟨D, 6, none⟩ = some (.int .u32 n) ∧ w'.cell? ⟨D, 7, none⟩ = some (.bool q) ∧ w'.cell? ⟨D, 8, none⟩ = some (.int .i64 l) ∧ w'.cell? ⟨D, 9, none⟩ = some (.int .u8 x0) ∧ w'.cell? ⟨D, 10, none⟩ = some (.int .u8 x1) ∧ w'.cell? ⟨D, 11, none⟩ = some (.int .u8 x2) ∧ w'.cell? ⟨D, 12, none⟩ = some (.int .u8 x3) ∧ w'.cell? ⟨D, 13, none⟩ = some (.int .u8 x4) ∧ w'.cell? ⟨D, 14, none⟩ = some (.int .u8 x5) ∧ w'.cell? ⟨D, 15, none⟩ = some (.int .u8 x6) ∧ w'.cell? ⟨D, 16, none⟩ = some (.int .u8 x7)) ∧ ∃ v', CA w' K B I fv v' fr (calmF s true p now ⟨e, n, q, l, x0, x1, x2, x3, x4, x5, x6, x7, now, now⟩) ∧ Fx (footC K B I fv v fr) w w' ∧ (∀ g, footC K B I fv v' fr g → footC K B I fv v fr g ∨ w.heap.size ≤ g) from fun u hu => by
        refine (offer_any I s.rm s.F fv s.Q v s.o ⟨e, n, q, l, x0, x1, x2, x3, x4, x5, x6, x7, now, now⟩ HC2.out.f8 (by have h1 := HC2.out.q1; have h2 := HC2.out.r1; simp only at h1 h2; omega) u (HC2.out.on hu).inb).mono ?_
        rintro y w' ⟨v', h1, h2, h3, h4⟩
        obtain ⟨g1, g2, g3⟩ := (HC2.out.on hu).inbox h2 h3 h4 (off_le _ _ _ _ _ HC2.out.q1)
        have hDu := HD2.out.keep hu HD2.out.lt
        have hDw := hDu.on (h3.block D hDu.lt (fun e => HDF.out (.inr (.inr (.inl e)))) (fun e => HDF.out (.inr (.inr (.inr (.inr (.inl e)))))))
        refine ⟨h1, ⟨g1.blk.cellAt (i := 1) (by simp), g1.blk.cellAt (i := 7) (by simp), hDw.cellAt (i := 5) (by simp), hDw.cellAt (i := 6) (by simp), hDw.cellAt (i := 7) (by simp), hDw.cellAt (i := 8) (by simp), hDw.cellAt (i := 9) (by simp), hDw.cellAt (i := 10) (by simp), hDw.cellAt (i := 11) (by simp), hDw.cellAt (i := 12) (by simp), hDw.cellAt (i := 13) (by simp), hDw.cellAt (i := 14) (by simp), hDw.cellAt (i := 15) (by simp), hDw.cellAt (i := 16) (by simp)⟩, v', ?_, HF2.out.trans ((Fx.of_below (φ := footC K B I fv v fr) hu).trans g2 (fun k hk => .inl hk)) (fun k hk => .inl hk), fun g hg => ?_⟩
        · rw [show calmF s true p now ⟨e, n, q, l, x0, x1, x2, x3, x4, x5, x6, x7, now, now⟩ = { s with ph := p, now := now, mark := now, Q := (offF s.rm s.F s.Q s.o ⟨e, n, q, l, x0, x1, x2, x3, x4, x5, x6, x7, now, now⟩).1, o := (offF s.rm s.F s.Q s.o ⟨e, n, q, l, x0, x1, x2, x3, x4, x5, x6, x7, now, now⟩).2.1 } by unfold calmF; rw [if_pos rfl, hmk]]
          exact g1
        · rcases g3 g hg with e | e
          · exact .inl e
          · have h5 := HF2.out.size; have h6 := hu.size; exact .inr (by omega))
      obtain ⟨r, hr⟩ : ∃ r, r = (offF s.rm s.F s.Q s.o ⟨e, n, q, l, x0, x1, x2, x3, x4, x5, x6, x7, now, now⟩).2.2 := ⟨_, rfl⟩
      rw [← hr] at HOF
      clear hr
      have hz : (W2.cell? ⟨K, 1, none⟩ = some (.pointer (some ⟨I, 0, none⟩)) ∧ W2.cell? ⟨K, 7, none⟩ = some (.int .i64 now) ∧ W2.cell? ⟨D, 5, none⟩ = some (.bool e) ∧ W2.cell? ⟨D, 6, none⟩ = some (.int .u32 n) ∧ W2.cell? ⟨D, 7, none⟩ = some (.bool q) ∧ W2.cell? ⟨D, 8, none⟩ = some (.int .i64 l) ∧ W2.cell? ⟨D, 9, none⟩ = some (.int .u8 x0) ∧ W2.cell? ⟨D, 10, none⟩ = some (.int .u8 x1) ∧ W2.cell? ⟨D, 11, none⟩ = some (.int .u8 x2) ∧ W2.cell? ⟨D, 12, none⟩ = some (.int .u8 x3) ∧ W2.cell? ⟨D, 13, none⟩ = some (.int .u8 x4) ∧ W2.cell? ⟨D, 14, none⟩ = some (.int .u8 x5) ∧ W2.cell? ⟨D, 15, none⟩ = some (.int .u8 x6) ∧ W2.cell? ⟨D, 16, none⟩ = some (.int .u8 x7)) := ⟨k1, k7, d5, d6, d7, d8, d9, d10, d11, d12, d13, d14, d15, d16⟩
      have hz2 : (W2.drew.cell? ⟨K, 1, none⟩ = some (.pointer (some ⟨I, 0, none⟩)) ∧ W2.drew.cell? ⟨K, 7, none⟩ = some (.int .i64 now) ∧ W2.drew.cell? ⟨D, 5, none⟩ = some (.bool e) ∧ W2.drew.cell? ⟨D, 6, none⟩ = some (.int .u32 n) ∧ W2.drew.cell? ⟨D, 7, none⟩ = some (.bool q) ∧ W2.drew.cell? ⟨D, 8, none⟩ = some (.int .i64 l) ∧ W2.drew.cell? ⟨D, 9, none⟩ = some (.int .u8 x0) ∧ W2.drew.cell? ⟨D, 10, none⟩ = some (.int .u8 x1) ∧ W2.drew.cell? ⟨D, 11, none⟩ = some (.int .u8 x2) ∧ W2.drew.cell? ⟨D, 12, none⟩ = some (.int .u8 x3) ∧ W2.drew.cell? ⟨D, 13, none⟩ = some (.int .u8 x4) ∧ W2.drew.cell? ⟨D, 14, none⟩ = some (.int .u8 x5) ∧ W2.drew.cell? ⟨D, 15, none⟩ = some (.int .u8 x6) ∧ W2.drew.cell? ⟨D, 16, none⟩ = some (.int .u8 x7)) := ⟨k1, k7, d5, d6, d7, d8, d9, d10, d11, d12, d13, d14, d15, d16⟩
      clear HC2 HF2 HD2 hmk
      go_upto_region 12 with fail
      go_region_held3 (fun u => (u.cell? ⟨K, 1, none⟩ = some (.pointer (some ⟨I, 0, none⟩)) ∧ u.cell? ⟨K, 7, none⟩ = some (.int .i64 now) ∧ u.cell? ⟨D, 5, none⟩ = some (.bool e) ∧ u.cell? ⟨D, 6, none⟩ = some (.int .u32 n) ∧ u.cell? ⟨D, 7, none⟩ = some (.bool q) ∧ u.cell? ⟨D, 8, none⟩ = some (.int .i64 l) ∧ u.cell? ⟨D, 9, none⟩ = some (.int .u8 x0) ∧ u.cell? ⟨D, 10, none⟩ = some (.int .u8 x1) ∧ u.cell? ⟨D, 11, none⟩ = some (.int .u8 x2) ∧ u.cell? ⟨D, 12, none⟩ = some (.int .u8 x3) ∧ u.cell? ⟨D, 13, none⟩ = some (.int .u8 x4) ∧ u.cell? ⟨D, 14, none⟩ = some (.int .u8 x5) ∧ u.cell? ⟨D, 15, none⟩ = some (.int .u8 x6) ∧ u.cell? ⟨D, 16, none⟩ = some (.int .u8 x7))) (with_reducible assumption) (first | (go_at_call 52; refine (HOF.out _ (Below.refl _ _).drew).mono ?_; rintro y w6 ⟨rfl, h6S, v', h6, h7, h8⟩))
      go_wp2_with fail
      go_end0
      exact ⟨rfl, v', h6, h7, h8⟩
end Go.Proofs.Ytmlnobiakfapcab
