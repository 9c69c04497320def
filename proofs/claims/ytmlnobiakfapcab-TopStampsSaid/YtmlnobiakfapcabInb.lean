/- The code of package inbox: what each call answers, and what is where behind it. Conditions: not more than a thousand frames wait. -/
import Derived.Test.YtmlnobiakfapcabIna
import Derived.Deep.RegionLaw
import Derived.Lib.LazyBuf
import Derived.Deep.DeepCutAuto
import Derived.Deep.RegionWith
import Derived.BigQuiet
import Derived.Deep.QuietTactic
import Derived.Deep.Cut
namespace Go.Proofs.Ytmlnobiakfapcab
open Go.RowKit
/-- A stamped frame. -/
structure SD where
  e : Bool
  n : Int
  q : Bool
  l : Int
  x0 : Int
  x1 : Int
  x2 : Int
  x3 : Int
  x4 : Int
  x5 : Int
  x6 : Int
  x7 : Int
  f : Int
  t : Int
def SD.C (s : SD) : List Value := [.bool s.e, .int .u32 s.n, .bool s.q, .int .i64 s.l, .int .u8 s.x0, .int .u8 s.x1, .int .u8 s.x2, .int .u8 s.x3, .int .u8 s.x4, .int .u8 s.x5, .int .u8 s.x6, .int .u8 s.x7, .int .i64 s.f, .int .i64 s.t]
def SD.V (s : SD) : Value := .agg #[.bool s.e, .int .u32 s.n, .bool s.q, .int .i64 s.l, .int .u8 s.x0, .int .u8 s.x1, .int .u8 s.x2, .int .u8 s.x3, .int .u8 s.x4, .int .u8 s.x5, .int .u8 s.x6, .int .u8 s.x7, .int .i64 s.f, .int .i64 s.t]
def SD.zero : SD := ⟨false, 0, false, 0, 0, 0, 0, 0, 0, 0, 0, 0, 0, 0⟩
def stC (Q : List SD) : List Value := Q.flatMap SD.C
theorem stC_len (Q : List SD) : (stC Q).length = Q.length * 14 := flat_len 14 SD.C (fun _ => rfl) Q
/-- An inbox in memory, of either kind: room, filters, what waits, and whether one was lost. -/
structure IA (W : World) (T : TypeId) (B : Nat) (room : Nat) (F : List Fl) (fv : Value) (Q : List SD) (v : Value) (o : Bool) : Prop where
  blk : Blk W B T [.int .i64 (room : Int), fv, v, .bool o]
  fil : Rd W 3 fv (flC F)
  flt : ∀ g, fv.ownBlock = some g → g < W.heap.size ∧ g ≠ B ∧ v.ownBlock ≠ some g
  row : Rw W 14 v (stC Q)
  own : v.ownBlock ≠ some B
theorem IA.lt {W : World} {T : TypeId} {B room : Nat} {F : List Fl} {fv : Value} {Q : List SD} {v : Value} {o : Bool} (h : IA W T B room F fv Q v o) : B < W.heap.size := h.blk.lt
theorem IA.on {W X : World} {T : TypeId} {B room : Nat} {F : List Fl} {fv : Value} {Q : List SD} {v : Value} {o : Bool} (h : IA W T B room F fv Q v o) (hb : Below W.heap.size W X) : IA X T B room F fv Q v o :=
  ⟨h.blk.keep hb h.lt, h.fil.kept hb (fun g hg => (h.flt g hg).1), fun g hg => ⟨Nat.lt_of_lt_of_le (h.flt g hg).1 hb.size, (h.flt g hg).2⟩, h.row.kept hb, h.own⟩
theorem IA.shape {W : World} {T : TypeId} {B room : Nat} {F : List Fl} {fv : Value} {Q : List SD} {v : Value} {o : Bool} (h : IA W T B room F fv Q v o) : ∃ a cap fa fcap, v = .slice a Q.length cap ∧ fv = .slice fa F.length fcap := by
  obtain ⟨_, ⟨n', cap', a', rfl, h1, _⟩, _, ⟨n, cap, a, rfl, h2, _⟩, _⟩ := h
  rw [flC_len] at h1; rw [stC_len] at h2
  exact ⟨a, cap, a', cap', by rw [show n = Q.length by omega], by rw [show n' = F.length by omega]⟩
/-- What offering makes of it: what waits, whether one was lost, and the answer. -/
def offF (room : Nat) (F : List Fl) (Q : List SD) (o : Bool) (s : SD) : List SD × Bool × Bool :=
  if letsB F s.e s.n = false then (Q, o, false) else if room ≤ Q.length then (Q, true, false) else (Q ++ [s], o, true)
set_option maxHeartbeats 1000000 in
theorem lets_any (B room : Nat) (F : List Fl) (fv : Value) (Q : List SD) (v : Value) (o : Bool) (e : Bool) (n : Int) (q : Bool) (l x0 x1 x2 x3 x4 x5 x6 x7 : Int) (hF : F.length ≤ 8) (w : World) (hI : IA w 155 B room F fv Q v o) :
    Calls Try.prog 82 #[.pointer (some ⟨B, 0, none⟩), .agg #[.bool e, .int .u32 n, .bool q, .int .i64 l, .int .u8 x0, .int .u8 x1, .int .u8 x2, .int .u8 x3, .int .u8 x4, .int .u8 x5, .int .u8 x6, .int .u8 x7]] w fun y w' => y = .returned (.bool (letsB F e n)) ∧ Below w.heap.size w w' := by
  obtain ⟨W0, hW0⟩ : ∃ W0, W0 = w.alloc (.cells #[.bool e, .int .u32 n, .bool q, .int .i64 l, .int .u8 x0, .int .u8 x1, .int .u8 x2, .int .u8 x3, .int .u8 x4, .int .u8 x5, .int .u8 x6, .int .u8 x7] 41) := ⟨_, rfl⟩
  have hb0 : Below w.heap.size w W0 := by rw [hW0]; exact (Below.refl _ w).alloc (Nat.le_refl _) _
  have hI0 := hI.on hb0
  have hlt := hI.lt
  have hs0 : w.heap.size < W0.heap.size := by rw [hW0]; simp
  have k0 : W0.cell? ⟨w.heap.size, 0, none⟩ = some (.bool e) := by rw [hW0]; simp
  have k1 : W0.cell? ⟨w.heap.size, 1, none⟩ = some (.int .u32 n) := by rw [hW0]; simp
  obtain ⟨a, cap, fa, fcap, rfl, rfl⟩ := hI.shape
  have c1 : W0.cell? ⟨B, 1, none⟩ = some (.slice fa F.length fcap) := hI0.blk.cellAt (i := 1) (by simp)
  have HC := Lib.hid (fcon_any F fa F.length fcap w.heap.size e n (by omega) W0 hI0.fil (fun g hg => (hI0.flt g hg).1) k0 k1)
  have HB0 := Lib.hid hb0
  have i0 : (F.length : Int) = 0 ∨ ¬ (F.length : Int) = 0 := by omega
  obtain ⟨R, hR⟩ : ∃ R, R = F.any (letF e n) := ⟨_, rfl⟩
  rw [← hR] at HC
  have HL := Lib.hid (show letsB F e n = (F.isEmpty || R) by rw [hR]; rfl)
  clear hI hI0 hb0 hlt hs0 k0 k1 hR
  by_cases hz : F.length = 0
  · have i1 : ((F.length : Int) == 0) = true := by rw [hz]; rfl
    have HZ := Lib.hid (show letsB F e n = true by rw [HL.out, List.eq_nil_of_length_eq_zero hz]; rfl)
    clear hz i0
    go_enter Try.func82, Try.ntmps82
    go_upto_region 1 with fail
    rw [← hW0]
    clear hW0
    go_wp2_with fail
    go_ret
    exact ⟨by rw [HZ.out]; rfl, HB0.out⟩
  · have i1 : ((F.length : Int) == 0) = false := by rw [beq_eq_false_iff_ne]; omega
    have HZ := Lib.hid (show letsB F e n = R by
      rw [HL.out, show F.isEmpty = false by
        cases F with
        | nil => exact absurd rfl hz
        | cons x L => rfl]
      rfl)
    clear hz i0
    go_enter Try.func82, Try.ntmps82
    go_upto_region 1 with fail
    rw [← hW0]
    clear hW0
    go_wp2_with fail
    refine HC.out.mono ?_
    rintro y w1 ⟨rfl, hb⟩
    have HB1 := Lib.hid (HB0.out.trans (hb.mono HB0.out.size))
    clear hb
    go_wp2_with fail
    go_ret
    exact ⟨by rw [HZ.out]; rfl, HB1.out⟩
theorem lets_nil (e : Bool) (n : Int) (q : Bool) (l x0 x1 x2 x3 x4 x5 x6 x7 : Int) (w : World) : Calls Try.prog 82 #[.pointer none, .agg #[.bool e, .int .u32 n, .bool q, .int .i64 l, .int .u8 x0, .int .u8 x1, .int .u8 x2, .int .u8 x3, .int .u8 x4, .int .u8 x5, .int .u8 x6, .int .u8 x7]] w fun y w' => y = .returned (.bool false) ∧ Below w.heap.size w w' := by
  go_enter Try.func82, Try.ntmps82
  go_wp2_with fail
  go_ret
  exact ⟨rfl, (Below.refl _ w).alloc (Nat.le_refl _) _⟩
theorem ilen_any (B room : Nat) (F : List Fl) (fv : Value) (Q : List SD) (v : Value) (o : Bool) (w : World) (hI : IA w 155 B room F fv Q v o) :
    Calls Try.prog 83 #[.pointer (some ⟨B, 0, none⟩)] w fun y w' => y = .returned (.int .i64 (Q.length : Int)) ∧ w = w' := by
  obtain ⟨a, cap, fa, fcap, rfl, rfl⟩ := hI.shape
  have c2 : w.cell? ⟨B, 2, none⟩ = some (.slice a Q.length cap) := hI.blk.cellAt (i := 2) (by simp)
  clear hI
  go_enter Try.func83, Try.ntmps83
  go_wp2_with fail
  go_ret
  exact ⟨rfl, rfl⟩
theorem ilen_nil (w : World) : Calls Try.prog 83 #[.pointer none] w fun y w' => y = .returned (.int .i64 0) ∧ w = w' := by
  go_enter Try.func83, Try.ntmps83
  go_wp2_with fail
  go_ret
  exact ⟨rfl, rfl⟩
theorem iover_any (B room : Nat) (F : List Fl) (fv : Value) (Q : List SD) (v : Value) (o : Bool) (w : World) (hI : IA w 155 B room F fv Q v o) :
    Calls Try.prog 84 #[.pointer (some ⟨B, 0, none⟩)] w fun y w' => y = .returned (.bool o) ∧ w = w' := by
  have c3 : w.cell? ⟨B, 3, none⟩ = some (.bool o) := hI.blk.cellAt (i := 3) (by simp)
  clear hI
  go_enter Try.func84, Try.ntmps84
  go_wp2_with fail
  go_ret
  exact ⟨rfl, rfl⟩
theorem iover_nil (w : World) : Calls Try.prog 84 #[.pointer none] w fun y w' => y = .returned (.bool false) ∧ w = w' := by
  go_enter Try.func84, Try.ntmps84
  go_wp2_with fail
  go_ret
  exact ⟨rfl, rfl⟩
theorem IA.set {W : World} {T : TypeId} {B room : Nat} {F : List Fl} {fv : Value} {Q : List SD} {v : Value} {o : Bool} (h : IA W T B room F fv Q v o) (o' : Bool) : IA (W.setCell ⟨B, 3, none⟩ (.bool o')) T B room F fv Q v o' := by
  have hb : ∀ k, k ≠ B → (W.setCell ⟨B, 3, none⟩ (.bool o')).heap[k]? = W.heap[k]? := fun k hk => Below.heap_setCell W ⟨B, 3, none⟩ _ k hk
  have hs := setCell_sizeG W ⟨B, 3, none⟩ (.bool o')
  obtain ⟨h1, ⟨n', cap', a', rfl, f1, f2, f3, f4⟩, h3, h4, h5⟩ := h
  refine ⟨h1.put1 (i := 3) (by simp) _, ⟨n', cap', a', rfl, f1, f2, f3, ?_⟩, fun g hg => by rw [hs]; exact h3 g hg, h4.on (by rw [hs]; exact Nat.le_refl _) (fun g hg => hb g (fun e => h5 (by rw [← e]; exact hg))), h5⟩
  rcases f4 with f4 | ⟨g, off, rfl, hg, hc⟩
  · exact .inl f4
  · exact .inr ⟨g, off, rfl, by rw [hs]; exact hg, fun j u hj => by rw [World.cell?_of_block (hb g (h3 g rfl).2.1)]; exact hc j u hj⟩
end Go.Proofs.Ytmlnobiakfapcab
