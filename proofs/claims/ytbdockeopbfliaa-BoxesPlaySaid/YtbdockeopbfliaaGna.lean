/- Blocks of cells; what a call may change; rows of elements of several cells, and appends to them. No program in it. Conditions: each theorem says its own. -/
import Derived.WalkKit
import Derived.ProofKit
import Derived.Below
import Derived.Lib.LazyBuf
import Derived.Deep.AppendSrc
import Derived.Laws.IdiomCopy
import Derived.Laws.IdiomStrings
import Derived.Room.Entries
import Derived.Deep.Draws
namespace Go.Proofs.Ytbdockeopbfliaa
open Go.RowKit
/-- A block's cells, all of them. -/
def Blk (W : World) (B : Nat) (T : TypeId) (l : List Value) : Prop := W.heap[B]? = some (.cells l.toArray T (0, 0))
theorem Blk.row {W : World} {B : Nat} {T : TypeId} {l : List Value} (h : Blk W B T l) : W.rowIs B T l.length (fun i => (l[i]?).getD (.bool false)) :=
  ⟨l.toArray, h, by simp, fun i hi => by simp [hi]⟩
theorem Blk.of_row {W : World} {B : Nat} {T : TypeId} {f : Nat → Value} {n : Nat} (h : W.rowIs B T n f) (l : List Value) (hl : l.length = n) (hf : ∀ i (hi : i < l.length), f i = l[i]) : Blk W B T l := by
  obtain ⟨c, h1, h2, h3⟩ := h
  unfold Blk
  rw [h1]
  congr 2
  apply Array.ext
  · simp [h2, hl]
  · intro i h4 h5
    have h6 := h3 i (by omega)
    rw [Array.getElem?_eq_getElem h4] at h6
    rw [Option.some.inj h6, hf i (by simpa using h5)]
    simp
theorem Blk.keep {W X : World} {B n : Nat} {T : TypeId} {l : List Value} (h : Blk W B T l) (hb : Below n W X) (hB : B < n) : Blk X B T l := (hb.block B hB).trans h
theorem Blk.lt {W : World} {B : Nat} {T : TypeId} {l : List Value} (h : Blk W B T l) : B < W.heap.size := (Blk.row h).lt
theorem Blk.new (W : World) (T : TypeId) (l : List Value) : Blk (W.alloc (.cells l.toArray T)) W.heap.size T l := by
  show (W.heap.push _)[W.heap.size]? = some _
  simp
theorem Blk.set {W : World} {B : Nat} {T : TypeId} {l : List Value} (h : Blk W B T l) (l' : List Value) (hl : l'.length = l.length) : Blk (W.setCells B 0 l') B T l' :=
  Blk.of_row (Go.rowIs_setCells l' 0 W _ h.row) l' hl (fun i hi => by
    rw [if_pos (by omega)]
    simp [hi])
theorem Blk.cellAt {W : World} {B : Nat} {T : TypeId} {l : List Value} (h : Blk W B T l) {i : Nat} (_hi : i < l.length) : W.cell? ⟨B, i, none⟩ = some l[i] := by
  have := h.row.cell (i := i) _hi
  rw [this]
  simp [_hi]
theorem Blk.frozenAt {W : World} {B : Nat} {T : TypeId} {l : List Value} (h : Blk W B T l) (i : Nat) : W.frozen? ⟨B, i, none⟩ = false := h.row.frozen i
theorem Blk.put1 {W : World} {B : Nat} {T : TypeId} {l : List Value} (h : Blk W B T l) {i : Nat} (_hi : i < l.length) (v : Value) : Blk (W.setCell ⟨B, i, none⟩ v) B T (l.set i v) := by
  refine Blk.of_row (Go.rowIs_setCells [v] i W _ h.row) (l.set i v) (by simp) (fun j hj => ?_)
  rw [List.length_set] at hj
  by_cases e : i = j
  · subst e
    rw [if_pos (by simp)]
    simp
  · rw [if_neg (by simp; omega)]
    simp [e, hj]
theorem Blk.on {W X : World} {B : Nat} {T : TypeId} {l : List Value} (h : Blk W B T l) (hb : X.heap[B]? = W.heap[B]?) : Blk X B T l := hb.trans h
theorem Blk.puts {W : World} {B C : Nat} {T : TypeId} {l : List Value} (h : Blk W B T l) (hne : C ≠ B) (o : Nat) (v : Value) : Blk (W.setCell ⟨C, o, none⟩ v) B T l := by
  refine h.on ?_
  exact Below.heap_setCell W ⟨C, o, none⟩ v B (fun e => hne e.symm)
theorem setCell_sizeG (w : World) (a : Addr) (v : Value) : (w.setCell a v).heap.size = w.heap.size := by simp [World.setCell]
theorem below_transG {w w1 w2 : World} (h1 : Below w.heap.size w w1) (h2 : Below w1.heap.size w1 w2) : Below w.heap.size w w2 := h1.trans (h2.mono h1.size)
theorem cell_ltG {W : World} {x : Addr} {v : Value} (h : W.cell? x = some v) : x.block < W.heap.size := by
  by_cases c : x.block < W.heap.size
  · exact c
  · exfalso
    have e : W.heap[x.block]? = none := Array.getElem?_eq_none (by omega)
    simp [World.cell?, e] at h
theorem below_drewG {B : Nat} {a w : World} (h : Below B a w) (n : Nat) : Below B a (w.drewN n) := ⟨h.os, h.tape, h.output, h.size, h.block⟩
/-- What a call may change that writes to the block B, and grows the row v: the rest is as it was. -/
structure Kp (B : Nat) (v : Value) (w w' : World) : Prop where
  os : w'.os = w.os
  tape : w'.tape = w.tape
  output : w'.output = w.output
  size : w.heap.size ≤ w'.heap.size
  block : ∀ k, k < w.heap.size → k ≠ B → v.ownBlock ≠ some k → w'.heap[k]? = w.heap[k]?
theorem Kp.of_below {B : Nat} {v : Value} {w w' : World} (h : Below w.heap.size w w') : Kp B v w w' := ⟨h.os, h.tape, h.output, h.size, fun k hk _ _ => h.block k hk⟩
theorem Kp.refl (B : Nat) (v : Value) (w : World) : Kp B v w w := ⟨rfl, rfl, rfl, Nat.le_refl _, fun _ _ _ _ => rfl⟩
theorem Kp.below {B : Nat} {v : Value} {w w' : World} (h : Kp B v w w') (hB : B ≤ w.heap.size) (hv : ∀ k, v.ownBlock = some k → B ≤ k) : Below B w w' :=
  ⟨h.os, h.tape, h.output, h.size, fun k hk => h.block k (by omega) (by omega) (fun e => by have := hv k e; omega)⟩
theorem Kp.belowN {B N : Nat} {v : Value} {w w' : World} (h : Kp B v w w') (hB : N ≤ B) (hN : N ≤ w.heap.size) (hv : ∀ k, v.ownBlock = some k → N ≤ k) : Below N w w' :=
  ⟨h.os, h.tape, h.output, h.size, fun k hk => h.block k (by omega) (by omega) (fun e => by have := hv k e; omega)⟩
/-- The row behind is the one ahead, or a newer one. -/
def Nx (w : World) (v v' : Value) : Prop := ∀ k, v'.ownBlock = some k → v.ownBlock = some k ∨ w.heap.size ≤ k
theorem Nx.refl (w : World) (v : Value) : Nx w v v := fun _ h => .inl h
theorem Kp.trans {B : Nat} {v v' : Value} {w w' w'' : World} (h : Kp B v w w') (h2 : Kp B v' w' w'') (hn : Nx w v v') : Kp B v w w'' :=
  ⟨h2.os.trans h.os, h2.tape.trans h.tape, h2.output.trans h.output, Nat.le_trans h.size h2.size, fun k hk hB hv => (h2.block k (Nat.lt_of_lt_of_le hk h.size) hB (fun e => by
    rcases hn k e with g | g
    · exact hv g
    · omega)).trans (h.block k hk hB hv)⟩
theorem Nx.trans {v v' v'' : Value} {w w' : World} (h : Nx w v v') (h2 : Nx w' v' v'') (hs : w.heap.size ≤ w'.heap.size) : Nx w v v'' := fun k e => by
  rcases h2 k e with g | g
  · exact h k g
  · exact .inr (by omega)
theorem Kp.set {B : Nat} {v : Value} {w w' : World} (h : Kp B v w w') (o : Nat) (x : Value) : Kp B v w (w'.setCell ⟨B, o, none⟩ x) := by
  refine ⟨h.os, h.tape, h.output, by rw [setCell_sizeG]; exact h.size, fun k hk hB hv => ?_⟩
  rw [Below.heap_setCell w' ⟨B, o, none⟩ x k hB]
  exact h.block k hk hB hv
theorem Kp.step {B : Nat} {v : Value} {w w' w'' : World} (h : Kp B v w w') (hb : Below w'.heap.size w' w'') : Kp B v w w'' :=
  ⟨hb.os.trans h.os, hb.tape.trans h.tape, hb.output.trans h.output, Nat.le_trans h.size hb.size, fun k hk hB hv => (hb.block k (Nat.lt_of_lt_of_le hk h.size)).trans (h.block k hk hB hv)⟩
/-- What is read of a slice of elements of k cells each: all cells, one behind the other. -/
def Rd (W : World) (k : Nat) (v : Value) (L : List Value) : Prop :=
  ∃ n cap a, v = .slice a n cap ∧ L.length = n * k ∧ n ≤ cap ∧ cap ≤ maxLen ∧ (n = 0 ∨ ∃ g off, a = some ⟨g, off, none⟩ ∧ g < W.heap.size ∧ ∀ j u, L[j]? = some u → W.cell? ⟨g, off + j, none⟩ = some u)
/-- The same, of a slice that may be appended to in place. -/
def Rw (W : World) (k : Nat) (v : Value) (L : List Value) : Prop :=
  ∃ n cap a, v = .slice a n cap ∧ L.length = n * k ∧ n ≤ cap ∧ cap ≤ maxLen ∧ ((a = none ∧ cap = 0) ∨ ∃ g off, a = some ⟨g, off, none⟩ ∧ g < W.heap.size ∧
    (∀ j, j < cap * k → (W.cell? ⟨g, off + j, none⟩).isSome = true ∧ W.frozen? ⟨g, off + j, none⟩ = false) ∧ ∀ j u, L[j]? = some u → W.cell? ⟨g, off + j, none⟩ = some u)
theorem Rw.nil (W : World) (k : Nat) : Rw W k (.slice none 0 0) [] := ⟨0, 0, none, rfl, by simp, Nat.le_refl _, Nat.zero_le _, .inl ⟨rfl, rfl⟩⟩
theorem Rw.rd {W : World} {k : Nat} {v : Value} {L : List Value} (h : Rw W k v L) : Rd W k v L := by
  obtain ⟨n, cap, a, rfl, h1, h2, h3, h4⟩ := h
  refine ⟨n, cap, a, rfl, h1, h2, h3, ?_⟩
  rcases h4 with ⟨_, h5⟩ | ⟨g, off, rfl, hg, _, hc⟩
  · exact .inl (by omega)
  · exact .inr ⟨g, off, rfl, hg, hc⟩
theorem Rw.lt {W : World} {k : Nat} {v : Value} {L : List Value} (h : Rw W k v L) : ∀ g, v.ownBlock = some g → g < W.heap.size := by
  obtain ⟨n, cap, a, rfl, h1, h2, h3, h4⟩ := h
  intro g hg
  rcases h4 with ⟨rfl, _⟩ | ⟨g', off, rfl, hlt, _⟩
  · cases hg
  · have : g' = g := by simpa [Value.ownBlock] using hg
    omega
theorem Rw.on {W X : World} {k : Nat} {v : Value} {L : List Value} (h : Rw W k v L) (hs : W.heap.size ≤ X.heap.size) (hb : ∀ g, v.ownBlock = some g → X.heap[g]? = W.heap[g]?) : Rw X k v L := by
  obtain ⟨n, cap, a, rfl, h1, h2, h3, h4⟩ := h
  refine ⟨n, cap, a, rfl, h1, h2, h3, ?_⟩
  rcases h4 with h5 | ⟨g, off, rfl, hg, hw, hc⟩
  · exact .inl h5
  · have e := hb g rfl
    refine .inr ⟨g, off, rfl, by omega, fun j hj => ?_, fun j u hj => ?_⟩
    · rw [World.cell?_of_block e, World.frozen?_of_block e]; exact hw j hj
    · rw [World.cell?_of_block e]; exact hc j u hj
theorem Rw.keep {W X : World} {k N : Nat} {v : Value} {L : List Value} (h : Rw W k v L) (hb : Below N W X) (hN : ∀ g, v.ownBlock = some g → g < N) : Rw X k v L := h.on hb.size (fun g hg => hb.block g (hN g hg))
theorem Rw.kept {W X : World} {k : Nat} {v : Value} {L : List Value} (h : Rw W k v L) (hb : Below W.heap.size W X) : Rw X k v L := h.keep hb h.lt
theorem Rd.kept {W X : World} {k : Nat} {v : Value} {L : List Value} (h : Rd W k v L) {N : Nat} (hb : Below N W X) (hN : ∀ g, v.ownBlock = some g → g < N) : Rd X k v L := by
  obtain ⟨n, cap, a, rfl, h1, h2, h3, h4⟩ := h
  refine ⟨n, cap, a, rfl, h1, h2, h3, ?_⟩
  rcases h4 with h5 | ⟨g, off, rfl, hg, hc⟩
  · exact .inl h5
  · refine .inr ⟨g, off, rfl, Nat.lt_of_lt_of_le hg hb.size, fun j u hj => ?_⟩
    rw [World.cell?_of_block (hb.block g (hN g rfl))]; exact hc j u hj
/-- The first element's cells, and what is left without it. -/
theorem Rw.front {W : World} {k : Nat} {n cap : Nat} {a : Option Addr} {L : List Value} (h : Rw W k (.slice a (n + 1) cap) L) : ∃ g off, a = some ⟨g, off, none⟩ ∧ g < W.heap.size ∧ n + 1 ≤ cap ∧ cap ≤ maxLen ∧ L.length = (n + 1) * k ∧ (∀ j u, L[j]? = some u → W.cell? ⟨g, off + j, none⟩ = some u) ∧
    (∀ c, n ≤ c → c < cap → Rw W k (.slice (some ⟨g, off + k, none⟩) n c) (L.drop k)) ∧ Rw W k (.slice (some ⟨g, off, none⟩) 0 0) [] := by
  obtain ⟨n', cap', a', e, h1, h2, h3, h4⟩ := h
  injection e with e1 e2 e3
  subst e1 e2 e3
  rcases h4 with ⟨_, h5⟩ | ⟨g, off, rfl, hg, hw, hc⟩
  · omega
  · refine ⟨g, off, rfl, hg, h2, h3, h1, hc, fun c hn hcl => ⟨n, c, _, rfl, ?_, hn, by omega, .inr ⟨g, off + k, rfl, hg, fun j hj => ?_, fun j u hj => ?_⟩⟩, ⟨0, 0, _, rfl, by simp, Nat.le_refl _, Nat.zero_le _, .inr ⟨g, off, rfl, hg, fun j hj => by omega, fun j u hj => by simp at hj⟩⟩⟩
    · rw [List.length_drop, h1, Nat.succ_mul]; omega
    · rw [Nat.add_assoc]
      refine hw (k + j) ?_
      have : (c + 1) * k ≤ cap * k := Nat.mul_le_mul_right k hcl
      rw [Nat.succ_mul] at this
      omega
    · rw [List.getElem?_drop] at hj
      rw [Nat.add_assoc]
      exact hc _ u hj
theorem newsG {w : World} {T : TypeId} {cs : Array Value} (j : Nat) (u : Value) (h : cs.toList[j]? = some u) : (w.alloc (.cells cs T)).cell? ((⟨w.heap.size, 0, none⟩ : Addr).add j) = some u := by
  rw [Addr.add_lit, Nat.zero_add]
  exact (World.cell?_alloc_mark w cs T (0, 0) j).trans (by simpa using h)
theorem newsGd {w : World} {T : TypeId} {cs : Array Value} (j : Nat) (u : Value) (h : cs.toList[j]? = some u) : (w.alloc (.cells cs T)).drew.cell? ((⟨w.heap.size, 0, none⟩ : Addr).add j) = some u := newsG j u h
section
variable {P : Program} (w : World)
/-- An append to such a row. -/
theorem run_append_rw (t tx ty e : TypeId) (i : TypeInfo) (z : Value) (k by_ : Nat) (ht : P.underlying t = some (.slice e)) (hi : P.info? e = some i) (hz : i.zero = some z) (hsize : i.size = k) (hby : i.bytes = by_) (hzc : z.cells.size = k)
    (a : Option Addr) (n cap : Nat) (L : List Value) (hv : Rw w k (.slice a n cap) L) (x : Value) (m : Nat) (news : List Value) (hs : Src P k tx x m news w) (hm : 0 < m ∨ a ≠ none) (h63 : n + m ≤ 1000000) (hbl : by_ ≤ 1000) :
    ∃ g off cap' w', (Builtin.append_ #[t, tx] ty #[.slice a n cap, x]).run P w = .ok (.slice (some ⟨g, off, none⟩) (n + m) cap') w' ∧ Rw w' k (.slice (some ⟨g, off, none⟩) (n + m) cap') (L ++ news) ∧
      (∀ B, Kp B (.slice a n cap) w w') ∧ (∀ j, j < w.heap.size → (Value.slice a n cap).ownBlock ≠ some j → w'.heap[j]? = w.heap[j]?) ∧ ((Value.slice a n cap).ownBlock = some g ∨ g = w.heap.size) := by
  subst hsize
  obtain ⟨n', cap0, a', e0, h1, h2, h3, h4⟩ := hv
  injection e0 with e1 e2 e3
  subst e1 e2 e3
  have hnl := hs.newsLen
  have hlen : (L ++ news).length = (n + m) * i.size := by rw [List.length_append, h1, hnl, Nat.add_mul]
  by_cases hroom : n + m ≤ cap
  · rcases h4 with ⟨h6, h5⟩ | ⟨g, off, rfl, hg, hw, hc⟩
    · rcases hm with hm | hm
      · omega
      · exact absurd h6 hm
    have hmul : (n + m) * i.size ≤ cap * i.size := Nat.mul_le_mul_right _ hroom
    rw [Nat.add_mul] at hmul
    have hin : ∀ j, j < news.length → n * i.size + j < cap * i.size := fun j hj => by omega
    have hr := run_append_room_src (P := P) w t tx ty e i ht hi g off n cap x m news hs hroom
      (fun j hj => by have := hw _ (hin j hj); rw [Nat.add_assoc]; exact this.1)
      (fun j hj => by have := hw _ (hin j hj); rw [Nat.add_assoc]; exact this.2)
    have hsome : ∀ j, j < news.length → (w.cell? ⟨g, off + n * i.size + j, none⟩).isSome = true := fun j hj => by have := hw _ (hin j hj); rw [Nat.add_assoc]; exact this.1
    have hsz : (w.setCells g (off + n * i.size) news).heap.size = w.heap.size := by
      have : ∀ (vs : List Value) (o : Nat) (u : World), (u.setCells g o vs).heap.size = u.heap.size := by
        intro vs
        induction vs with
        | nil => intro o u; rfl
        | cons v vs ih => intro o u; exact (ih _ _).trans (setCell_sizeG _ _ _)
      exact this _ _ _
    have hother : ∀ j, j < w.heap.size → j ≠ g → (w.setCells g (off + n * i.size) news).heap[j]? = w.heap[j]? := by
      have : ∀ (vs : List Value) (o : Nat) (u : World) (j : Nat), j ≠ g → (u.setCells g o vs).heap[j]? = u.heap[j]? := by
        intro vs
        induction vs with
        | nil => intro o u j _; rfl
        | cons v vs ih => intro o u j hj; exact (ih _ _ j hj).trans (Below.heap_setCell u ⟨g, o, none⟩ v j hj)
      exact fun j _ hj => this _ _ _ j hj
    have hb0 := Go.below_setCells (B := 0) (b := g) (a := w) (Nat.zero_le _) news (off + n * i.size) w (Below.refl _ _)
    refine ⟨g, off, cap, _, hr, ⟨n + m, cap, _, rfl, hlen, hroom, h3, .inr ⟨g, off, rfl, by rw [hsz]; exact hg, fun j hj => ?_, fun j u hj => ?_⟩⟩, fun B => ⟨hb0.os, hb0.tape, hb0.output, by rw [hsz]; exact Nat.le_refl _, fun j hj _ hn => hother j hj (fun e => hn (by rw [e]; rfl))⟩, fun j hj hn => hother j hj (fun e => hn (by rw [e]; rfl)), .inl rfl⟩
    · rw [World.frozen?_setCells]
      refine ⟨?_, (hw j hj).2⟩
      by_cases hjn : n * i.size ≤ j ∧ j < n * i.size + news.length
      · have h6 := World.cell?_setCells_in g news (off + n * i.size) w hsome (j - n * i.size) (by omega)
        rw [show off + n * i.size + (j - n * i.size) = off + j by omega] at h6
        rw [h6]; rfl
      · rw [World.cell?_setCells_out g news (off + n * i.size) w ⟨g, off + j, none⟩ (fun _ _ => by show off + j < off + n * i.size ∨ _ ≤ off + j; omega)]
        exact (hw j hj).1
    · by_cases hjn : j < n * i.size
      · rw [List.getElem?_append_left (by omega)] at hj
        rw [World.cell?_setCells_out g news (off + n * i.size) w ⟨g, off + j, none⟩ (fun _ _ => .inl (by show off + j < _; omega))]
        exact hc j u hj
      · rw [List.getElem?_append_right (by omega), h1] at hj
        have hlt := (List.getElem?_eq_some_iff.1 hj).1
        have h6 := World.cell?_setCells_in g news (off + n * i.size) w hsome (j - n * i.size) hlt
        rw [show off + n * i.size + (j - n * i.size) = off + j by omega] at h6
        rw [h6, ← hj, List.getElem?_eq_getElem hlt]
  · have hcells : (Builtin.firstCells i.size n (.slice a n cap)).run P w.drew = .ok L.toArray w.drew := by
      rcases h4 with ⟨rfl, h5⟩ | ⟨g, off, rfl, hg, hw, hc⟩
      · have : L = [] := List.eq_nil_of_length_eq_zero (by rw [h1, show n = 0 by omega]; simp)
        subst this
        exact run_firstCells_none _ _ _ _ _
      · exact run_firstCells_some w.drew i.size n ⟨g, off, none⟩ n cap L (by rw [h1]) (fun j u hj => by
          rw [Addr.add_lit]
          exact hc j u hj)
    have hcap := Room.nextslicecap_le' (need := n + m) (old := cap) (by omega)
    have hmulb : Builtin.nextslicecap (n + m) cap * i.bytes ≤ (2 * (n + m)) * 1000 := Nat.mul_le_mul hcap (by omega)
    have hr := run_append_grow_src (P := P) w t tx ty e i z ht hi hz a n cap L hcells x m news hs (by omega) (by omega) (by omega)
    have hgc : n + m ≤ grownCap w (n + m) cap e ∧ grownCap w (n + m) cap e ≤ maxLen := by
      constructor
      · exact grownCap_ge w (n + m) cap e
      · exact grownCap_le_maxLen w _ _ _ (by unfold maxLen; omega)
    obtain ⟨C, hC⟩ : ∃ C, C = grownCap w (n + m) cap e := ⟨_, rfl⟩
    rw [← hC] at hr hgc
    have hzs : (Builtin.zeroCells z.cells (C - (n + m))).size = (C - (n + m)) * i.size := by
      rw [← hzc]; simp [Builtin.zeroCells]
    refine ⟨w.heap.size, 0, C, _, hr, ⟨n + m, C, _, rfl, hlen, hgc.1, hgc.2, .inr ⟨w.heap.size, 0, rfl, by simp, fun j hj => ⟨?_, ?_⟩, fun j u hj => ?_⟩⟩, fun B => Kp.of_below (((Below.refl _ w).drew).alloc (Nat.le_refl _) _), fun j hj _ => (((Below.refl w.heap.size w).drew).alloc (Nat.le_refl _) _).block j hj, .inr rfl⟩
    · have h3 := World.cell?_alloc_mark w.drew ((L ++ news).toArray ++ Builtin.zeroCells z.cells (C - (n + m))) e (0, 0) j
      rw [Nat.zero_add]
      refine (congrArg Option.isSome h3).trans ?_
      rw [Array.getElem?_eq_getElem (by
        rw [Array.size_append, hzs, List.size_toArray, hlen, ← Nat.add_mul, show n + m + (C - (n + m)) = C by omega]; exact hj)]
      rfl
    · rw [Nat.zero_add]
      refine (World.frozen?_alloc_mark w.drew _ e 0 0 j).trans ?_
      simp
    · have hlt := (List.getElem?_eq_some_iff.1 hj).1
      rw [Nat.zero_add]
      refine (World.cell?_alloc_mark w.drew _ e (0, 0) j).trans ?_
      rw [Array.getElem?_append_left (by simpa using hlt), List.getElem?_toArray]
      exact hj
theorem wp_append_rw {o : Oper} {act : Act} {K : Act → World → Prop} {Q : Exit → Act → World → Prop} (s x : Operand) (t tx : TypeId)
    (ho : o.op = .call { callee := .builtin .append, args := #[s, x], argTypes := #[t, tx] })
    (e : TypeId) (i : TypeInfo) (z : Value) (k by_ : Nat) (ht : P.underlying t = some (.slice e)) (hi : P.info? e = some i) (hz : i.zero = some z) (hsize : i.size = k) (hby : i.bytes = by_) (hzc : z.cells.size = k)
    (a : Option Addr) (n cap : Nat) (L : List Value) (hse : act.eval s = .slice a n cap) (hv : Rw w k (.slice a n cap) L) (xv : Value) (hx : act.eval x = xv) (m : Nat) (news : List Value) (hs : Src P k tx xv m news w) (hm : 0 < m ∨ a ≠ none) (h63 : n + m ≤ 1000000) (hbl : by_ ≤ 1000)
    (h : ∀ g off cap' w', Rw w' k (.slice (some ⟨g, off, none⟩) (n + m) cap') (L ++ news) → (∀ B, Kp B (.slice a n cap) w w') → (∀ j, j < w.heap.size → (Value.slice a n cap).ownBlock ≠ some j → w'.heap[j]? = w.heap[j]?) → ((Value.slice a n cap).ownBlock = some g ∨ g = w.heap.size) → K (act.put o.dst (.slice (some ⟨g, off, none⟩) (n + m) cap')) w') : o.wp P act w K Q := by
  obtain ⟨g, off, cap', w', hr, h2, h3, h4, h5⟩ := run_append_rw w t tx o.type e i z k by_ ht hi hz hsize hby hzc a n cap L hv xv m news hs hm h63 hbl
  unfold Oper.wp execOp
  simp only [ho, resolve, invoke, builtin, Sem.run_bind, Sem.run_pure, Result.andThen_ok, List.map_toArray, List.map_cons, List.map_nil, hse, hx, hr]
  exact h g off cap' w' h2 h3 h4 h5
theorem wpList_append_rw {ops : Array Oper} {rest : List Oper} {o : Oper} {act : Act} {Q : Exit → Act → World → Prop} (hgd : o.guard = none) (s x : Operand) (t tx : TypeId)
    (ho : o.op = .call { callee := .builtin .append, args := #[s, x], argTypes := #[t, tx] })
    (e : TypeId) (i : TypeInfo) (z : Value) (k by_ : Nat) (ht : P.underlying t = some (.slice e)) (hi : P.info? e = some i) (hz : i.zero = some z) (hsize : i.size = k) (hby : i.bytes = by_) (hzc : z.cells.size = k)
    (a : Option Addr) (n cap : Nat) (L : List Value) (hse : act.eval s = .slice a n cap) (hv : Rw w k (.slice a n cap) L) (xv : Value) (hx : act.eval x = xv) (m : Nat) (news : List Value) (hs : Src P k tx xv m news w) (hm : 0 < m ∨ a ≠ none) (h63 : n + m ≤ 1000000) (hbl : by_ ≤ 1000)
    (h : ∀ g off cap' w', Rw w' k (.slice (some ⟨g, off, none⟩) (n + m) cap') (L ++ news) → (∀ B, Kp B (.slice a n cap) w w') → (∀ j, j < w.heap.size → (Value.slice a n cap).ownBlock ≠ some j → w'.heap[j]? = w.heap[j]?) → ((Value.slice a n cap).ownBlock = some g ∨ g = w.heap.size) → wpList P ops Q rest (act.put o.dst (.slice (some ⟨g, off, none⟩) (n + m) cap')) w') : wpList P ops Q (o :: rest) act w :=
  wpList_plain hgd fun _ hK => wp_append_rw w s x t tx ho e i z k by_ ht hi hz hsize hby hzc a n cap L hse hv xv hx m news hs hm h63 hbl fun g off cap' w' h2 h3 h4 h5 => hK _ _ (h g off cap' w' h2 h3 h4 h5)
theorem step_append_rw {ops : Array Oper} {o : Oper} {act : Act} {K : Act → World → Prop} {Q : Exit → Act → World → Prop} {E : Prop} (hgd : o.guard = none) (s x : Operand) (t tx : TypeId)
    (ho : o.op = .call { callee := .builtin .append, args := #[s, x], argTypes := #[t, tx] })
    (e : TypeId) (i : TypeInfo) (z : Value) (k by_ : Nat) (ht : P.underlying t = some (.slice e)) (hi : P.info? e = some i) (hz : i.zero = some z) (hsize : i.size = k) (hby : i.bytes = by_) (hzc : z.cells.size = k)
    (a : Option Addr) (n cap : Nat) (L : List Value) (hse : act.eval s = .slice a n cap) (hv : Rw w k (.slice a n cap) L) (xv : Value) (hx : act.eval x = xv) (m : Nat) (news : List Value) (hs : Src P k tx xv m news w) (hm : 0 < m ∨ a ≠ none) (h63 : n + m ≤ 1000000) (hbl : by_ ≤ 1000)
    (h : ∀ g off cap' w', Rw w' k (.slice (some ⟨g, off, none⟩) (n + m) cap') (L ++ news) → (∀ B, Kp B (.slice a n cap) w w') → (∀ j, j < w.heap.size → (Value.slice a n cap).ownBlock ≠ some j → w'.heap[j]? = w.heap[j]?) → ((Value.slice a n cap).ownBlock = some g ∨ g = w.heap.size) → K (act.put o.dst (.slice (some ⟨g, off, none⟩) (n + m) cap')) w') :
    if Region.wanted o (yielded ops act.tmps) = true then Oper.wp P o act w K Q else E := by
  have hw : Region.wanted o (yielded ops act.tmps) = true := by simp [Region.wanted, hgd]
  rw [if_pos hw]
  exact wp_append_rw w s x t tx ho e i z k by_ ht hi hz hsize hby hzc a n cap L hse hv xv hx m news hs hm h63 hbl h
end
end Go.Proofs.Ytbdockeopbfliaa
