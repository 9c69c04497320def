/- A listener in memory: its block's cells, and what a call may change. No conditions. -/
import Derived.Test.YtmfnkfiocnngeaaDoorWrn
import Derived.Deep.AppendLies
namespace Go.Proofs.YtmfnkfiocnngeaaDoor
open Go.RowKit Go.Shelf
theorem Blk.cellAt {W : World} {B : Nat} {T : TypeId} {l : List Value} (h : Blk W B T l) {i : Nat} (_hi : i < l.length) : W.cell? ⟨B, i, none⟩ = some l[i] := by
  have := h.row.cell (i := i) _hi
  rw [this]
  simp [_hi]
theorem Blk.frozenAt {W : World} {B : Nat} {T : TypeId} {l : List Value} (h : Blk W B T l) (i : Nat) : W.frozen? ⟨B, i, none⟩ = false := h.row.frozen i
theorem Blk.put1 {W : World} {B : Nat} {T : TypeId} {l : List Value} (h : Blk W B T l) {i : Nat} (_hi : i < l.length) (v : Value) : Blk (W.setCell ⟨B, i, none⟩ v) B T (l.set i v) := by
  refine Blk.of_row (Go.rowIs_setCells [v] i W _ h.row) (l.set i v) (by simp) (fun j hj => ?_)
  rw [List.length_set] at hj
  by_cases e : i = j
  · subst e
    rw [if_pos (by simp)]
    simp
  · rw [if_neg (by simp; omega)]
    simp [e, hj]
theorem Blk.on {W X : World} {B : Nat} {T : TypeId} {l : List Value} (h : Blk W B T l) (hb : X.heap[B]? = W.heap[B]?) : Blk X B T l := hb.trans h
theorem Blk.puts {W : World} {B C : Nat} {T : TypeId} {l : List Value} (h : Blk W B T l) (hne : C ≠ B) (o : Nat) (v : Value) : Blk (W.setCell ⟨C, o, none⟩ v) B T l := by
  refine h.on ?_
  exact Below.heap_setCell W ⟨C, o, none⟩ v B (fun e => hne e.symm)
/-- What a call may change that writes to the block B, and grows the row v: the rest is as it was. -/
structure Kp (B : Nat) (v : Value) (w w' : World) : Prop where
  os : w'.os = w.os
  tape : w'.tape = w.tape
  output : w'.output = w.output
  size : w.heap.size ≤ w'.heap.size
  block : ∀ k, k < w.heap.size → k ≠ B → v.ownBlock ≠ some k → w'.heap[k]? = w.heap[k]?
theorem Kp.of_below {B : Nat} {v : Value} {w w' : World} (h : Below w.heap.size w w') : Kp B v w w' := ⟨h.os, h.tape, h.output, h.size, fun k hk _ _ => h.block k hk⟩
theorem Kp.refl (B : Nat) (v : Value) (w : World) : Kp B v w w := ⟨rfl, rfl, rfl, Nat.le_refl _, fun _ _ _ _ => rfl⟩
theorem Kp.below {B : Nat} {v : Value} {w w' : World} (h : Kp B v w w') (hB : B ≤ w.heap.size) (hv : ∀ k, v.ownBlock = some k → B ≤ k) : Below B w w' :=
  ⟨h.os, h.tape, h.output, h.size, fun k hk => h.block k (by omega) (by omega) (fun e => by have := hv k e; omega)⟩
/-- The row behind is the one ahead, or a newer one. -/
def Nx (w : World) (v v' : Value) : Prop := ∀ k, v'.ownBlock = some k → v.ownBlock = some k ∨ w.heap.size ≤ k
theorem Nx.refl (w : World) (v : Value) : Nx w v v := fun _ h => .inl h
theorem Kp.trans {B : Nat} {v v' : Value} {w w' w'' : World} (h : Kp B v w w') (h2 : Kp B v' w' w'') (hn : Nx w v v') : Kp B v w w'' :=
  ⟨h2.os.trans h.os, h2.tape.trans h.tape, h2.output.trans h.output, Nat.le_trans h.size h2.size, fun k hk hB hv => (h2.block k (Nat.lt_of_lt_of_le hk h.size) hB (fun e => by
    rcases hn k e with g | g
    · exact hv g
    · omega)).trans (h.block k hk hB hv)⟩
theorem Nx.trans {v v' v'' : Value} {w w' : World} (h : Nx w v v') (h2 : Nx w' v' v'') (hs : w.heap.size ≤ w'.heap.size) : Nx w v v'' := fun k e => by
  rcases h2 k e with g | g
  · exact h k g
  · exact .inr (by omega)
theorem Kp.set {B : Nat} {v : Value} {w w' : World} (h : Kp B v w w') (o : Nat) (x : Value) : Kp B v w (w'.setCell ⟨B, o, none⟩ x) := by
  refine ⟨h.os, h.tape, h.output, by rw [setCell_size2]; exact h.size, fun k hk hB hv => ?_⟩
  rw [Below.heap_setCell w' ⟨B, o, none⟩ x k hB]
  exact h.block k hk hB hv
/-- A listener's cells. -/
def lisL (p h : Nat) (r : Nat × Nat) (v : Value) (fr : List Value) (g : Bool) (en : Nat) (vl : Bool) : List Value :=
  .int .i64 (p : Int) :: .int .i64 (h : Int) :: .int .u8 (r.1 : Int) :: .int .i64 (r.2 : Int) :: v :: (fr ++ [.bool g, .int .i64 (en : Int), .bool vl])
theorem twelve {fr : List Value} (h : fr.length = 12) : ∃ y0 y1 y2 y3 y4 y5 y6 y7 y8 y9 y10 y11, fr = [y0, y1, y2, y3, y4, y5, y6, y7, y8, y9, y10, y11] := by
  match fr, h with
  | [y0, y1, y2, y3, y4, y5, y6, y7, y8, y9, y10, y11], _ => exact ⟨y0, y1, y2, y3, y4, y5, y6, y7, y8, y9, y10, y11, rfl⟩
/-- What a listener of the code holds. -/
structure LS where
  p : Nat
  h : Nat
  r : Nat × Nat
  raw : List Nat
  fr : List Value
  g : Bool
  en : Nat
  vl : Bool
def frC : Except Nat (Bool × Nat × Bool × Nat × List Nat × Nat) → List Value
  | .error _ => frameC false 0 false 0 [0, 0, 0, 0, 0, 0, 0, 0]
  | .ok (e, n, r, len, data, _) => frameC e n r (len : Int) data
def okP : Except Nat (Bool × Nat × Bool × Nat × List Nat × Nat) → Bool
  | .error _ => false
  | .ok _ => true
def LS.step (s : LS) (r' : Nat × Nat) (raw' : List Nat) : LS :=
  if fullB r' (bitsOf raw') = true then ⟨1, s.h, r', raw', frC (parseB (bitsOf raw')), okP (parseB (bitsOf raw')), s.en, s.vl⟩ else ⟨s.p, s.h, r', raw', s.fr, s.g, s.en, s.vl⟩
/-- A bit of the body. -/
def LS.body (s : LS) (x : Nat) : LS × Nat :=
  if s.raw = [] ∧ x ≠ 0 then (s, 2)
  else if 5 ≤ s.r.2 then (if bitN x = 1 - s.r.1 then (s.step (bitN x, 1) s.raw, 0) else (s, 1))
  else (s.step (nx s.r (bitN x)) (s.raw ++ [x]), 0)
/-- A bit of the end. -/
def LS.last (s : LS) (x : Nat) : LS × Nat :=
  if s.en + 1 = 7 then (⟨s.p, s.h, s.r, s.raw, s.fr, s.g, s.en + 1, s.vl⟩, if x = 0 then 6 else 5)
  else if x = 0 then (⟨s.p, s.h, s.r, s.raw, s.fr, s.g, s.en + 1, s.vl⟩, 2)
  else if s.en + 1 = 6 then (⟨s.p, s.h, s.r, s.raw, s.fr, s.g, s.en + 1, true⟩, 4)
  else (⟨s.p, s.h, s.r, s.raw, s.fr, s.g, s.en + 1, s.vl⟩, 0)
def LS.take (s : LS) (x : Nat) : LS × Nat :=
  if s.p = 0 then s.body x else if s.p = 4 then s.last x
  else if s.p = 3 ∧ x ≠ 0 ∧ s.g = false then (s, 3)
  else if (s.p = 3 ∨ s.p = 1) ∧ x = 0 then (s, 2)
  else (⟨s.p + 1, s.h, s.r, s.raw, s.fr, s.g, s.en, s.vl⟩, 0)
def LS.tick (s : LS) : LS := ⟨s.p, s.h + 1, s.r, s.raw, s.fr, s.g, s.en, s.vl⟩
def LS.off (s : LS) : LS := ⟨5, s.h, s.r, s.raw, s.fr, s.g, s.en, s.vl⟩
def LS.hear (s : LS) (x : Nat) : LS × Nat :=
  if s.p = 5 then (s, 0)
  else if (s.tick.take x).2 = 0 ∨ (s.tick.take x).2 = 4 then s.tick.take x else ((s.tick.take x).1.off, (s.tick.take x).2)
theorem pr_form (l : List Nat) : ∃ (e : Bool) (n : Nat) (q : Bool) (m : Nat) (x0 x1 x2 x3 x4 x5 x6 x7 k c : Nat), prV (parseB l) = .tuple #[frameV e n q (m : Int) [x0, x1, x2, x3, x4, x5, x6, x7], .int .i64 (k : Int), .int .i64 (c : Int)] ∧ frC (parseB l) = frameC e n q (m : Int) [x0, x1, x2, x3, x4, x5, x6, x7] ∧ okP (parseB l) = decide (c = 0) := by
  cases hp : parseB l with
  | error c =>
    have hc : c ≠ 0 := by
      unfold parseB at hp
      split at hp
      · injection hp with h; omega
      · split at hp
        · injection hp with h; omega
        · split at hp
          · injection hp with h; omega
          · split at hp
            · split at hp <;> cases hp
            · injection hp with h; omega
    exact ⟨false, 0, false, 0, 0, 0, 0, 0, 0, 0, 0, 0, 0, c, rfl, rfl, by simp [okP, hc]⟩
  | ok t =>
    obtain ⟨e, n, r, len, data, k⟩ := t
    obtain ⟨x0, x1, x2, x3, x4, x5, x6, x7, rfl⟩ := eight (parse_len hp)
    exact ⟨e, n, r, len, x0, x1, x2, x3, x4, x5, x6, x7, k, 0, rfl, rfl, rfl⟩
end Go.Proofs.YtmfnkfiocnngeaaDoor
