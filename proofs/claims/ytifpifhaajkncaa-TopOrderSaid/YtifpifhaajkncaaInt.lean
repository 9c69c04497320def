/- Two inboxes in one memory, the code's and the document's. Conditions: not more than a thousand frames wait. -/
import Derived.Test.YtifpifhaajkncaaIns
namespace Go.Proofs.Ytifpifhaajkncaa
open Go.RowKit
theorem IA.moved {W X : World} {T : TypeId} {B room : Nat} {F : List Fl} {fv : Value} {Q : List SD} {v : Value} {o : Bool} (h : IA W T B room F fv Q v o) (hs : W.heap.size ≤ X.heap.size)
    (hb : ∀ g, g < W.heap.size → (g = B ∨ fv.ownBlock = some g ∨ v.ownBlock = some g) → X.heap[g]? = W.heap[g]?) : IA X T B room F fv Q v o := by
  have hlt := h.lt
  obtain ⟨h1, ⟨n', cap', a', rfl, f1, f2, f3, f4⟩, h3, h4, h5⟩ := h
  refine ⟨h1.on (hb B hlt (.inl rfl)), ⟨n', cap', a', rfl, f1, f2, f3, ?_⟩, fun g hg => ⟨Nat.lt_of_lt_of_le (h3 g hg).1 hs, (h3 g hg).2⟩, h4.on hs (fun g hg => hb g (h4.lt g hg) (.inr (.inr hg))), h5⟩
  rcases f4 with f4 | ⟨g, off, rfl, hg, hc⟩
  · exact .inl f4
  · exact .inr ⟨g, off, rfl, Nat.lt_of_lt_of_le hg hs, fun j u hj => by rw [World.cell?_of_block (hb g hg (.inr (.inl rfl)))]; exact hc j u hj⟩
theorem IA.foot {W : World} {T : TypeId} {B room : Nat} {F : List Fl} {fv : Value} {Q : List SD} {v : Value} {o : Bool} (h : IA W T B room F fv Q v o) {g : Nat} (hg : g = B ∨ fv.ownBlock = some g ∨ v.ownBlock = some g) : g < W.heap.size := by
  rcases hg with rfl | hg | hg
  · exact h.lt
  · exact (h.flt g hg).1
  · exact h.row.lt g hg
/-- The code's inbox and the document's, apart from each other, behind the N oldest blocks. -/
structure I2 (N : Nat) (W : World) (B B' room : Nat) (F : List Fl) (fv fv' : Value) (Qa : List SD) (va : Value) (oa : Bool) (Qb : List SD) (vb : Value) (ob : Bool) : Prop where
  a : IA W 103 B room F fv Qa va oa
  b : IA W 78 B' room F fv' Qb vb ob
  ap : ∀ g, (g = B ∨ fv.ownBlock = some g ∨ va.ownBlock = some g) → (g = B' ∨ fv'.ownBlock = some g ∨ vb.ownBlock = some g) → False
  lo : N ≤ B ∧ N ≤ B' ∧ (∀ g, va.ownBlock = some g → N ≤ g) ∧ (∀ g, vb.ownBlock = some g → N ≤ g) ∧ N ≤ W.heap.size
theorem I2.on {N : Nat} {W : World} {B B' room : Nat} {F : List Fl} {fv fv' : Value} {Qa : List SD} {va : Value} {oa : Bool} {Qb : List SD} {vb : Value} {ob : Bool} (h : I2 N W B B' room F fv fv' Qa va oa Qb vb ob) {X : World} (hb : Below W.heap.size W X) : I2 N X B B' room F fv fv' Qa va oa Qb vb ob :=
  ⟨h.a.on hb, h.b.on hb, h.ap, h.lo.1, h.lo.2.1, h.lo.2.2.1, h.lo.2.2.2.1, Nat.le_trans h.lo.2.2.2.2 hb.size⟩
theorem I2.stepA {N : Nat} {W : World} {B B' room : Nat} {F : List Fl} {fv fv' : Value} {Qa : List SD} {va : Value} {oa : Bool} {Qb : List SD} {vb : Value} {ob : Bool} (h : I2 N W B B' room F fv fv' Qa va oa Qb vb ob) {X : World} {Q2 : List SD} {v2 : Value} {o2 : Bool} (ha : IA X 103 B room F fv Q2 v2 o2) (hk : Kp B va W X) (hn : Nx W va v2) : I2 N X B B' room F fv fv' Q2 v2 o2 Qb vb ob ∧ Below N W X := by
  refine ⟨⟨ha, h.b.moved hk.size (fun g hg hf => hk.block g hg (fun e => h.ap g (.inl e) hf) (fun e => h.ap g (.inr (.inr e)) hf)), fun g h1 h2 => ?_, h.lo.1, h.lo.2.1, fun g hg => ?_, h.lo.2.2.2.1, Nat.le_trans h.lo.2.2.2.2 hk.size⟩, hk.belowN h.lo.1 h.lo.2.2.2.2 h.lo.2.2.1⟩
  · rcases h1 with h1 | h1 | h1
    · exact h.ap g (.inl h1) h2
    · exact h.ap g (.inr (.inl h1)) h2
    · rcases hn g h1 with h3 | h3
      · exact h.ap g (.inr (.inr h3)) h2
      · have := h.b.foot h2; omega
  · rcases hn g hg with h3 | h3
    · exact h.lo.2.2.1 g h3
    · have := h.lo.2.2.2.2; omega
theorem I2.stepB {N : Nat} {W : World} {B B' room : Nat} {F : List Fl} {fv fv' : Value} {Qa : List SD} {va : Value} {oa : Bool} {Qb : List SD} {vb : Value} {ob : Bool} (h : I2 N W B B' room F fv fv' Qa va oa Qb vb ob) {X : World} {Q2 : List SD} {v2 : Value} {o2 : Bool} (hbb : IA X 78 B' room F fv' Q2 v2 o2) (hk : Kp B' vb W X) (hn : Nx W vb v2) : I2 N X B B' room F fv fv' Qa va oa Q2 v2 o2 ∧ Below N W X := by
  refine ⟨⟨h.a.moved hk.size (fun g hg hf => hk.block g hg (fun e => h.ap g hf (.inl e)) (fun e => h.ap g hf (.inr (.inr e)))), hbb, fun g h1 h2 => ?_, h.lo.1, h.lo.2.1, h.lo.2.2.1, fun g hg => ?_, Nat.le_trans h.lo.2.2.2.2 hk.size⟩, hk.belowN h.lo.2.1 h.lo.2.2.2.2 h.lo.2.2.2.1⟩
  · rcases h2 with h2 | h2 | h2
    · exact h.ap g h1 (.inl h2)
    · exact h.ap g h1 (.inr (.inl h2))
    · rcases hn g h2 with h3 | h3
      · exact h.ap g h1 (.inr (.inr h3))
      · have := h.a.foot h1; omega
  · rcases hn g hg with h3 | h3
    · exact h.lo.2.2.2.1 g h3
    · have := h.lo.2.2.2.2; omega
theorem I2.left {N : Nat} {W : World} {B B' room : Nat} {F : List Fl} {fv fv' : Value} {Qa : List SD} {va : Value} {oa : Bool} {Qb : List SD} {vb : Value} {ob : Bool} (h : I2 N W B B' room F fv fv' Qa va oa Qb vb ob) {X : World} (hb : Below W.heap.size W X) : I2 N X B B' room F fv fv' Qa va oa Qb vb ob := h.on hb
/-- A box beside both. -/
structure Bs (W : World) (B B' : Nat) (va vb : Value) (D : Nat) (T : TypeId) (l : List Value) : Prop where
  blk : Blk W D T l
  ne : D ≠ B ∧ D ≠ B' ∧ va.ownBlock ≠ some D ∧ vb.ownBlock ≠ some D
theorem Bs.on {W X : World} {B B' : Nat} {va vb : Value} {D : Nat} {T : TypeId} {l : List Value} (h : Bs W B B' va vb D T l) (hb : Below W.heap.size W X) : Bs X B B' va vb D T l := ⟨h.blk.keep hb h.blk.lt, h.ne⟩
theorem Bs.stepA {W X : World} {B B' : Nat} {va vb v2 : Value} {D : Nat} {T : TypeId} {l : List Value} (h : Bs W B B' va vb D T l) (hk : Kp B va W X) (hn : Nx W va v2) : Bs X B B' v2 vb D T l :=
  ⟨h.blk.on (hk.block D h.blk.lt h.ne.1 h.ne.2.2.1), h.ne.1, h.ne.2.1, fun e => by
    rcases hn D e with h3 | h3
    · exact h.ne.2.2.1 h3
    · have := h.blk.lt; omega, h.ne.2.2.2⟩
theorem Bs.stepB {W X : World} {B B' : Nat} {va vb v2 : Value} {D : Nat} {T : TypeId} {l : List Value} (h : Bs W B B' va vb D T l) (hk : Kp B' vb W X) (hn : Nx W vb v2) : Bs X B B' va v2 D T l :=
  ⟨h.blk.on (hk.block D h.blk.lt h.ne.2.1 h.ne.2.2.2), h.ne.1, h.ne.2.1, h.ne.2.2.1, fun e => by
    rcases hn D e with h3 | h3
    · exact h.ne.2.2.2 h3
    · have := h.blk.lt; omega⟩
theorem Bs.new {N : Nat} {W : World} {B B' room : Nat} {F : List Fl} {fv fv' : Value} {Qa : List SD} {va : Value} {oa : Bool} {Qb : List SD} {vb : Value} {ob : Bool} (h : I2 N W B B' room F fv fv' Qa va oa Qb vb ob) (T : TypeId) (l : List Value) : Bs (W.alloc (.cells l.toArray T)) B B' va vb W.heap.size T l := by
  refine ⟨Blk.new W T l, fun e => ?_, fun e => ?_, fun e => ?_, fun e => ?_⟩
  · have := h.a.lt; omega
  · have := h.b.lt; omega
  · have := h.a.row.lt _ e; omega
  · have := h.b.row.lt _ e; omega
theorem I2.offA {N : Nat} {W : World} {B B' room : Nat} {F : List Fl} {fv fv' : Value} {Qa : List SD} {va : Value} {oa : Bool} {Qb : List SD} {vb : Value} {ob : Bool} (h : I2 N W B B' room F fv fv' Qa va oa Qb vb ob) (s : SD) (hF : F.length ≤ 8) (hQ : Qa.length ≤ 1000) :
    Calls Try.prog 34 #[.pointer (some ⟨B, 0, none⟩), s.V] W fun y X => ∃ v2, y = .returned (.bool (offF room F Qa oa s).2.2) ∧ I2 N X B B' room F fv fv' (offF room F Qa oa s).1 v2 (offF room F Qa oa s).2.1 Qb vb ob ∧ Below N W X ∧ Kp B va W X ∧ Nx W va v2 :=
  (offer_any B room F fv Qa va oa s hF hQ W h.a).mono fun _ _ ⟨v2, he, ha, hk, hn⟩ => ⟨v2, he, (h.stepA ha hk hn).1, (h.stepA ha hk hn).2, hk, hn⟩
theorem I2.offB {N : Nat} {W : World} {B B' room : Nat} {F : List Fl} {fv fv' : Value} {Qa : List SD} {va : Value} {oa : Bool} {Qb : List SD} {vb : Value} {ob : Bool} (h : I2 N W B B' room F fv fv' Qa va oa Qb vb ob) (s : SD) (hF : F.length ≤ 8) (hQ : Qb.length ≤ 1000) (hQr : Qb.length ≤ room) :
    Calls Try.prog 35 #[.pointer (some ⟨B', 0, none⟩), s.V] W fun y X => ∃ v2, y = .returned (.bool (offF room F Qb ob s).2.2) ∧ I2 N X B B' room F fv fv' Qa va oa (offF room F Qb ob s).1 v2 (offF room F Qb ob s).2.1 ∧ Below N W X ∧ Kp B' vb W X ∧ Nx W vb v2 :=
  (roffer_any B' room F fv' Qb vb ob s hF hQ hQr W h.b).mono fun _ _ ⟨v2, he, ha, hk, hn⟩ => ⟨v2, he, (h.stepB ha hk hn).1, (h.stepB ha hk hn).2, hk, hn⟩
/-- What is popped: its value, whether there is one, and what is left. -/
def popF : List SD → SD × Bool × List SD
  | [] => (SD.zero, false, [])
  | s :: Q => (s, true, Q)
theorem I2.popA {N : Nat} {W : World} {B B' room : Nat} {F : List Fl} {fv fv' : Value} {Qa : List SD} {va : Value} {oa : Bool} {Qb : List SD} {vb : Value} {ob : Bool} (h : I2 N W B B' room F fv fv' Qa va oa Qb vb ob) (hQ : Qa.length ≤ 1000) :
    Calls Try.prog 36 #[.pointer (some ⟨B, 0, none⟩)] W fun y X => ∃ v2, y = .returned (.tuple #[(popF Qa).1.V, .bool (popF Qa).2.1]) ∧ I2 N X B B' room F fv fv' (popF Qa).2.2 v2 oa Qb vb ob ∧ Below N W X ∧ Kp B va W X ∧ Nx W va v2 := by
  cases Qa with
  | nil => exact (pop_none B room F fv va oa W h.a).mono fun _ _ ⟨he, ha, hb⟩ => ⟨va, he, h.on hb, hb.mono h.lo.2.2.2.2, Kp.of_below hb, Nx.refl _ _⟩
  | cons s Q => exact (pop_some B room F fv s Q va oa (by simp at hQ; omega) W h.a).mono fun _ _ ⟨v2, he, ha, hk, hn⟩ => ⟨v2, he, (h.stepA ha hk hn).1, (h.stepA ha hk hn).2, hk, hn⟩
theorem I2.popB {N : Nat} {W : World} {B B' room : Nat} {F : List Fl} {fv fv' : Value} {Qa : List SD} {va : Value} {oa : Bool} {Qb : List SD} {vb : Value} {ob : Bool} (h : I2 N W B B' room F fv fv' Qa va oa Qb vb ob) (hQ : Qb.length ≤ 1000) :
    Calls Try.prog 37 #[.pointer (some ⟨B', 0, none⟩)] W fun y X => ∃ v2, y = .returned (.tuple #[(popF Qb).1.V, .bool (popF Qb).2.1]) ∧ I2 N X B B' room F fv fv' Qa va oa (popF Qb).2.2 v2 ob ∧ Below N W X ∧ Kp B' vb W X ∧ Nx W vb v2 := by
  cases Qb with
  | nil => exact (rpop_none B' room F fv' vb ob W h.b).mono fun _ _ ⟨he, ha, hb⟩ => ⟨vb, he, h.on hb, hb.mono h.lo.2.2.2.2, Kp.of_below hb, Nx.refl _ _⟩
  | cons s Q => exact (rpop_some B' room F fv' s Q vb ob (by simp at hQ; omega) W h.b).mono fun _ _ ⟨v2, he, ha, hk, hn⟩ => ⟨v2, he, (h.stepB ha hk hn).1, (h.stepB ha hk hn).2, hk, hn⟩
theorem I2.clrA {N : Nat} {W : World} {B B' room : Nat} {F : List Fl} {fv fv' : Value} {Qa : List SD} {va : Value} {oa : Bool} {Qb : List SD} {vb : Value} {ob : Bool} (h : I2 N W B B' room F fv fv' Qa va oa Qb vb ob) :
    Calls Try.prog 38 #[.pointer (some ⟨B, 0, none⟩)] W fun y X => y = .returned (.tuple #[]) ∧ I2 N X B B' room F fv fv' Qa va false Qb vb ob ∧ Below N W X ∧ Kp B va W X :=
  (iclear_any B room F fv Qa va oa W h.a).mono fun _ _ ⟨he, ha, hk⟩ => ⟨he, (h.stepA ha hk (Nx.refl _ _)).1, (h.stepA ha hk (Nx.refl _ _)).2, hk⟩
theorem off_len (room : Nat) (F : List Fl) (Q : List SD) (o : Bool) (s : SD) (h : Q.length ≤ room) : (offF room F Q o s).1.length ≤ room := by
  unfold offF
  by_cases h1 : letsB F s.e s.n = false
  · rw [if_pos h1]; exact h
  · rw [if_neg h1]
    by_cases h2 : room ≤ Q.length
    · rw [if_pos h2]; exact h
    · rw [if_neg h2]; simp; omega
theorem pop_len (Q : List SD) (n : Nat) (h : Q.length ≤ n) : (popF Q).2.2.length ≤ n := by
  cases Q with
  | nil => exact h
  | cons s Q => simp [popF] at h ⊢; omega
end Go.Proofs.Ytifpifhaajkncaa
