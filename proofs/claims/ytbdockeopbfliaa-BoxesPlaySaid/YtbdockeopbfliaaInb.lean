/- The code of package inbox: what each call answers, and what is where behind it. Conditions: not more than a thousand frames wait. -/
import Derived.Test.YtbdockeopbfliaaIna
import Derived.Deep.RegionLaw
import Derived.Lib.LazyBuf
import Derived.Deep.DeepCutAuto
import Derived.Deep.RegionWith
import Derived.BigQuiet
import Derived.Deep.QuietTactic
import Derived.Deep.Cut
namespace Go.Proofs.Ytbdockeopbfliaa
open Go.RowKit
/-- A stamped frame. -/
structure SD where
  e : Bool
  n : Int
  q : Bool
  l : Int
  x0 : Int
  x1 : Int
  x2 : Int
  x3 : Int
  x4 : Int
  x5 : Int
  x6 : Int
  x7 : Int
  f : Int
  t : Int
def SD.C (s : SD) : List Value := [.bool s.e, .int .u32 s.n, .bool s.q, .int .i64 s.l, .int .u8 s.x0, .int .u8 s.x1, .int .u8 s.x2, .int .u8 s.x3, .int .u8 s.x4, .int .u8 s.x5, .int .u8 s.x6, .int .u8 s.x7, .int .i64 s.f, .int .i64 s.t]
def SD.V (s : SD) : Value := .agg #[.bool s.e, .int .u32 s.n, .bool s.q, .int .i64 s.l, .int .u8 s.x0, .int .u8 s.x1, .int .u8 s.x2, .int .u8 s.x3, .int .u8 s.x4, .int .u8 s.x5, .int .u8 s.x6, .int .u8 s.x7, .int .i64 s.f, .int .i64 s.t]
def SD.zero : SD := ⟨false, 0, false, 0, 0, 0, 0, 0, 0, 0, 0, 0, 0, 0⟩
def stC (Q : List SD) : List Value := Q.flatMap SD.C
theorem stC_len (Q : List SD) : (stC Q).length = Q.length * 14 := flat_len 14 SD.C (fun _ => rfl) Q
/-- An inbox in memory, of either kind: room, filters, what waits, and whether one was lost. -/
structure IA (W : World) (T : TypeId) (B : Nat) (room : Nat) (F : List Fl) (fv : Value) (Q : List SD) (v : Value) (o : Bool) : Prop where
  blk : Blk W B T [.int .i64 (room : Int), fv, v, .bool o]
  fil : Rd W 3 fv (flC F)
  flt : ∀ g, fv.ownBlock = some g → g < W.heap.size ∧ g ≠ B ∧ v.ownBlock ≠ some g
  row : Rw W 14 v (stC Q)
  own : v.ownBlock ≠ some B
theorem IA.lt {W : World} {T : TypeId} {B room : Nat} {F : List Fl} {fv : Value} {Q : List SD} {v : Value} {o : Bool} (h : IA W T B room F fv Q v o) : B < W.heap.size := h.blk.lt
theorem IA.on {W X : World} {T : TypeId} {B room : Nat} {F : List Fl} {fv : Value} {Q : List SD} {v : Value} {o : Bool} (h : IA W T B room F fv Q v o) (hb : Below W.heap.size W X) : IA X T B room F fv Q v o :=
  ⟨h.blk.keep hb h.lt, h.fil.kept hb (fun g hg => (h.flt g hg).1), fun g hg => ⟨Nat.lt_of_lt_of_le (h.flt g hg).1 hb.size, (h.flt g hg).2⟩, h.row.kept hb, h.own⟩
theorem IA.shape {W : World} {T : TypeId} {B room : Nat} {F : List Fl} {fv : Value} {Q : List SD} {v : Value} {o : Bool} (h : IA W T B room F fv Q v o) : ∃ a cap fa fcap, v = .slice a Q.length cap ∧ fv = .slice fa F.length fcap := by
  obtain ⟨_, ⟨n', cap', a', rfl, h1, _⟩, _, ⟨n, cap, a, rfl, h2, _⟩, _⟩ := h
  rw [flC_len] at h1; rw [stC_len] at h2
  exact ⟨a, cap, a', cap', by rw [show n = Q.length by omega], by rw [show n' = F.length by omega]⟩
/-- What offering makes of it: what waits, whether one was lost, and the answer. -/
def offF (room : Nat) (F : List Fl) (Q : List SD) (o : Bool) (s : SD) : List SD × Bool × Bool :=
  if letsB F s.e s.n = false then (Q, o, false) else if room ≤ Q.length then (Q, true, false) else (Q ++ [s], o, true)
theorem IA.set {W : World} {T : TypeId} {B room : Nat} {F : List Fl} {fv : Value} {Q : List SD} {v : Value} {o : Bool} (h : IA W T B room F fv Q v o) (o' : Bool) : IA (W.setCell ⟨B, 3, none⟩ (.bool o')) T B room F fv Q v o' := by
  have hb : ∀ k, k ≠ B → (W.setCell ⟨B, 3, none⟩ (.bool o')).heap[k]? = W.heap[k]? := fun k hk => Below.heap_setCell W ⟨B, 3, none⟩ _ k hk
  have hs := setCell_sizeG W ⟨B, 3, none⟩ (.bool o')
  obtain ⟨h1, ⟨n', cap', a', rfl, f1, f2, f3, f4⟩, h3, h4, h5⟩ := h
  refine ⟨h1.put1 (i := 3) (by simp) _, ⟨n', cap', a', rfl, f1, f2, f3, ?_⟩, fun g hg => by rw [hs]; exact h3 g hg, h4.on (by rw [hs]; exact Nat.le_refl _) (fun g hg => hb g (fun e => h5 (by rw [← e]; exact hg))), h5⟩
  rcases f4 with f4 | ⟨g, off, rfl, hg, hc⟩
  · exact .inl f4
  · exact .inr ⟨g, off, rfl, by rw [hs]; exact hg, fun j u hj => by rw [World.cell?_of_block (hb g (h3 g rfl).2.1)]; exact hc j u hj⟩
end Go.Proofs.Ytbdockeopbfliaa
