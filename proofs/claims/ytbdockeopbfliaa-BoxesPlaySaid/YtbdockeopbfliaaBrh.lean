/- Both boxes in one memory: the code's and the document's own. Conditions: there are at most eight. -/
import Derived.Test.YtbdockeopbfliaaBrg
import Derived.Test.YtbdockeopbfliaaBre
import Derived.Test.YtbdockeopbfliaaBxf
namespace Go.Proofs.Ytbdockeopbfliaa
open Go.RowKit
set_option linter.unusedSimpArgs false
set_option linter.unusedVariables false
/-- What is in boxes is such: an empty one holds the zero post, and identifiers are of 32 bits. -/
structure BOk (L : List BD) : Prop where
  eight : L.length = 8
  zero : ∀ j, (bxAt L j).full = false → (bxAt L j).p = PD.zero
  small : ∀ j, (bxAt L j).p.n < 4294967296
theorem BOk.start : BOk (List.replicate 8 BD.zero) := by
  have e : ∀ j, bxAt (List.replicate 8 BD.zero) j = BD.zero := fun j => by
    unfold bxAt
    rw [List.getElem?_replicate]
    split <;> rfl
  exact ⟨by simp, fun j _ => by rw [e]; rfl, fun j => by rw [e]; decide⟩
theorem BOk.set {L : List BD} (h : BOk L) {j : Nat} (hj : j < 8) {b : BD} (hz : b.full = false → b.p = PD.zero) (hs : b.p.n < 4294967296) : BOk (L.set j b) := by
  have h8 := h.eight
  refine ⟨by rw [List.length_set]; exact h8, fun k hk => ?_, fun k => ?_⟩
  · rw [bxAt_set L j (by omega)] at hk ⊢
    split
    · rename_i e; rw [if_pos e] at hk; exact hz hk
    · rename_i e; rw [if_neg e] at hk; exact h.zero k hk
  · rw [bxAt_set L j (by omega)]
    split
    · exact hs
    · exact h.small k
theorem BOk.put {L : List BD} (h : BOk L) {m : Nat} (hm : m ≤ 8) {p : PD} (hp : p.n < 4294967296) : BOk (putF m L p).2.2 := by
  unfold putF
  split
  · exact h
  · split
    · exact h
    · split
      · exact h
      · rename_i h1 h2 h3
        have he : ∃ k : Nat, emptyF L m = (k : Int) ∧ k < m := by
          rcases firstI_cases (fun j => emptyB (bxAt L j)) m with ⟨e, _⟩ | ⟨k, e, hk, _⟩
          · exact absurd e h3
          · exact ⟨k, e, hk⟩
        obtain ⟨k, e, hk⟩ := he
        show BOk (L.set (emptyF L m).toNat ⟨true, p⟩)
        rw [e]
        exact h.set (j := k) (by omega) (fun q => by cases q) hp
theorem BOk.take {L : List BD} (h : BOk L) {m : Nat} (hm : m ≤ 8) (i : Int) : BOk (takeF m L i).2.2 := by
  unfold takeF
  split
  · rename_i hi
    split
    · exact h.set (j := i.toNat) (by omega) (fun _ => rfl) (by decide)
    · exact h
  · exact h
/-- Both in one memory, younger than some world's. -/
structure M2 (w W : World) (B1 B P H m : Nat) (Lco Ldo : List BD) : Prop where
  a : BxA W B1 Lco m
  r : RB W B P H Ldo m
  n1 : B1 ≠ B
  n2 : B1 ≠ P
  n3 : B1 ≠ H
  l1 : w.heap.size ≤ B1
  l2 : w.heap.size ≤ P
  l3 : w.heap.size ≤ H
  bel : Below w.heap.size w W
theorem M2.on {w W X : World} {B1 B P H m : Nat} {Lco Ldo : List BD} (h : M2 w W B1 B P H m Lco Ldo) (hb : Below W.heap.size W X) : M2 w X B1 B P H m Lco Ldo :=
  ⟨h.a.on hb, h.r.on hb, h.n1, h.n2, h.n3, h.l1, h.l2, h.l3, h.bel.trans (hb.mono h.bel.size)⟩
theorem M2.stepA {w W X : World} {B1 B P H m : Nat} {Lco Lco' Ldo : List BD} (h : M2 w W B1 B P H m Lco Ldo) (ha : BxA X B1 Lco' m) (hk : Kp B1 (.slice none 0 0) W X) : M2 w X B1 B P H m Lco' Ldo := by
  have hn : ∀ k, k < W.heap.size → k ≠ B1 → X.heap[k]? = W.heap[k]? := fun k h1 h2 => hk.block k h1 h2 (fun e => by cases e)
  refine ⟨ha, ⟨h.r.blk.on (hn B h.r.blk.lt (fun e => h.n1 e.symm)), h.r.posts.on (hn P h.r.posts.lt (fun e => h.n2 e.symm)), h.r.has.on (hn H h.r.has.lt (fun e => h.n3 e.symm)), h.r.eight, h.r.r1, h.r.r8, h.r.bp, h.r.bh, h.r.ph⟩, h.n1, h.n2, h.n3, h.l1, h.l2, h.l3, h.bel.trans ?_⟩
  exact ⟨hk.os, hk.tape, hk.output, hk.size, fun k h1 => hn k (Nat.lt_of_lt_of_le h1 h.bel.size) (fun e => by have := h.l1; omega)⟩
theorem M2.stepR {w W X : World} {B1 B P H m : Nat} {Lco Ldo Ldo' : List BD} (h : M2 w W B1 B P H m Lco Ldo) (hr : RB X B P H Ldo' m) (hk : Kp P (.slice (some ⟨H, 0, none⟩) m m) W X) : M2 w X B1 B P H m Lco Ldo' := by
  have hn : ∀ k, k < W.heap.size → k ≠ P → k ≠ H → X.heap[k]? = W.heap[k]? := fun k h1 h2 h3 => hk.block k h1 h2 (fun e => h3 (by have e2 : H = k := by simpa [Value.ownBlock] using e
                                                                                                                                  exact e2.symm))
  refine ⟨⟨h.a.blk.on (hn B1 h.a.lt h.n2 h.n3), h.a.eight, h.a.r1, h.a.r8⟩, hr, h.n1, h.n2, h.n3, h.l1, h.l2, h.l3, h.bel.trans ?_⟩
  exact ⟨hk.os, hk.tape, hk.output, hk.size, fun k h1 => hn k (Nat.lt_of_lt_of_le h1 h.bel.size) (fun e => by have := h.l2; omega) (fun e => by have := h.l3; omega)⟩
theorem m2_putA {w W : World} {B1 B P H m : Nat} {Lco Ldo : List BD} (h : M2 w W B1 B P H m Lco Ldo) (p : PD) : Calls Try.prog 6 #[.pointer (some ⟨B1, 0, none⟩), p.V] W fun y w' => y = .returned (.tuple #[.int .i64 (putF m Lco p).1, .int .i64 ((putF m Lco p).2.1 : Int)]) ∧ M2 w w' B1 B P H m (putF m Lco p).2.2 Ldo :=
  (put_any B1 Lco m p W h.a).mono fun _ _ ⟨h1, h2, h3⟩ => ⟨h1, h.stepA h2 h3⟩
theorem m2_putR {w W : World} {B1 B P H m : Nat} {Lco Ldo : List BD} (h : M2 w W B1 B P H m Lco Ldo) (p : PD) : Calls Try.prog 11 #[.pointer (some ⟨B, 0, none⟩), p.V] W fun y w' => y = .returned (.tuple #[.int .i64 (putF m Ldo p).1, .int .i64 ((putF m Ldo p).2.1 : Int)]) ∧ M2 w w' B1 B P H m Lco (putF m Ldo p).2.2 :=
  (rbput_any B P H Ldo m p W h.r).mono fun _ _ ⟨h1, h2, h3⟩ => ⟨h1, h.stepR h2 h3⟩
theorem m2_takeA {w W : World} {B1 B P H m : Nat} {Lco Ldo : List BD} (h : M2 w W B1 B P H m Lco Ldo) (i : Int) : Calls Try.prog 7 #[.pointer (some ⟨B1, 0, none⟩), .int .i64 i] W fun y w' => y = .returned (.tuple #[(takeF m Lco i).1.V, .int .i64 ((takeF m Lco i).2.1 : Int)]) ∧ M2 w w' B1 B P H m (takeF m Lco i).2.2 Ldo :=
  (take_any B1 Lco m i W h.a).mono fun _ _ ⟨h1, h2, h3⟩ => ⟨h1, h.stepA h2 h3⟩
theorem m2_takeR {w W : World} {B1 B P H m : Nat} {Lco Ldo : List BD} (h : M2 w W B1 B P H m Lco Ldo) (i : Int) : Calls Try.prog 14 #[.pointer (some ⟨B, 0, none⟩), .int .i64 i] W fun y w' => y = .returned (.tuple #[(takeF m Ldo i).1.V, .int .i64 ((takeF m Ldo i).2.1 : Int)]) ∧ M2 w w' B1 B P H m Lco (takeF m Ldo i).2.2 := by
  by_cases hi : 0 ≤ i ∧ i < (m : Int)
  · obtain ⟨j, rfl⟩ : ∃ j : Nat, i = (j : Int) := ⟨i.toNat, by omega⟩
    have hj : j < m := by omega
    by_cases hf : (bxAt Ldo j).full = true
    · have e : takeF m Ldo (j : Int) = ((bxAt Ldo j).p, 0, Ldo.set j BD.zero) := by unfold takeF; rw [if_pos hi, Int.toNat_natCast, if_pos hf]
      rw [e]
      exact (rbtake_yes B P H Ldo m j hj hf W h.r).mono fun _ _ ⟨h1, h2, h3⟩ => ⟨h1, h.stepR h2 h3⟩
    · have hf : (bxAt Ldo j).full = false := by simpa using hf
      have e : takeF m Ldo (j : Int) = (PD.zero, 7, Ldo) := by unfold takeF; rw [if_pos hi, Int.toNat_natCast, if_neg (by rw [hf]; decide)]
      rw [e]
      exact (rbtake_free B P H Ldo m j hj hf W h.r).mono fun _ _ ⟨h1, h2⟩ => ⟨h1, h.on h2⟩
  · have e : takeF m Ldo i = (PD.zero, 1, Ldo) := by unfold takeF; rw [if_neg hi]
    rw [e]
    by_cases h0 : i < 0
    · exact (rbtake_low B P H Ldo m i h0 W h.r).mono fun _ _ ⟨h1, h2⟩ => ⟨h1, h.on h2⟩
    · exact (rbtake_high B P H Ldo m i (by omega) W h.r).mono fun _ _ ⟨h1, h2⟩ => ⟨h1, h.on h2⟩
theorem rbtake_any (B P H : Nat) (L : List BD) (m : Nat) (i : Int) (W : World) (h : RB W B P H L m) : Calls Try.prog 14 #[.pointer (some ⟨B, 0, none⟩), .int .i64 i] W fun y w' => y = .returned (.tuple #[(takeF m L i).1.V, .int .i64 ((takeF m L i).2.1 : Int)]) ∧ RB w' B P H (takeF m L i).2.2 m ∧ Kp P (.slice (some ⟨H, 0, none⟩) m m) W w' := by
  by_cases hi : 0 ≤ i ∧ i < (m : Int)
  · obtain ⟨j, rfl⟩ : ∃ j : Nat, i = (j : Int) := ⟨i.toNat, by omega⟩
    have hj : j < m := by omega
    by_cases hf : (bxAt L j).full = true
    · have e : takeF m L (j : Int) = ((bxAt L j).p, 0, L.set j BD.zero) := by unfold takeF; rw [if_pos hi, Int.toNat_natCast, if_pos hf]
      rw [e]
      exact rbtake_yes B P H L m j hj hf W h
    · have hf : (bxAt L j).full = false := by simpa using hf
      have e : takeF m L (j : Int) = (PD.zero, 7, L) := by unfold takeF; rw [if_pos hi, Int.toNat_natCast, if_neg (by rw [hf]; decide)]
      rw [e]
      exact (rbtake_free B P H L m j hj hf W h).mono fun _ _ ⟨h1, h2⟩ => ⟨h1, h.on h2, Kp.of_below h2⟩
  · have e : takeF m L i = (PD.zero, 1, L) := by unfold takeF; rw [if_neg hi]
    rw [e]
    by_cases h0 : i < 0
    · exact (rbtake_low B P H L m i h0 W h).mono fun _ _ ⟨h1, h2⟩ => ⟨h1, h.on h2, Kp.of_below h2⟩
    · exact (rbtake_high B P H L m i (by omega) W h).mono fun _ _ ⟨h1, h2⟩ => ⟨h1, h.on h2, Kp.of_below h2⟩
/-- What both Gets tell. -/
def getF (m : Nat) (L : List BD) (i : Int) : PD × Bool := if 0 ≤ i ∧ i < (m : Int) then ((bxAt L i.toNat).p, (bxAt L i.toNat).full) else (PD.zero, false)
theorem m2_getA {w W : World} {B1 B P H m : Nat} {Lco Ldo : List BD} (h : M2 w W B1 B P H m Lco Ldo) (i : Int) : Calls Try.prog 15 #[.pointer (some ⟨B1, 0, none⟩), .int .i64 i] W fun y w' => y = .returned (.tuple #[(getF m Lco i).1.V, .bool (getF m Lco i).2]) ∧ Below W.heap.size W w' := by
  by_cases hi : 0 ≤ i ∧ i < (m : Int)
  · obtain ⟨j, rfl⟩ : ∃ j : Nat, i = (j : Int) := ⟨i.toNat, by omega⟩
    have e : getF m Lco (j : Int) = ((bxAt Lco j).p, (bxAt Lco j).full) := by unfold getF; rw [if_pos hi, Int.toNat_natCast]
    rw [e]
    exact get_yes B1 Lco m j (by omega) W h.a
  · have e : getF m Lco i = (PD.zero, false) := by unfold getF; rw [if_neg hi]
    rw [e]
    exact get_no B1 Lco m i hi W h.a
theorem m2_getR {w W : World} {B1 B P H m : Nat} {Lco Ldo : List BD} (h : M2 w W B1 B P H m Lco Ldo) (hz : BOk Ldo) (i : Int) : Calls Try.prog 16 #[.pointer (some ⟨B, 0, none⟩), .int .i64 i] W fun y w' => y = .returned (.tuple #[(getF m Ldo i).1.V, .bool (getF m Ldo i).2]) ∧ Below W.heap.size W w' := by
  by_cases hi : 0 ≤ i ∧ i < (m : Int)
  · obtain ⟨j, rfl⟩ : ∃ j : Nat, i = (j : Int) := ⟨i.toNat, by omega⟩
    have e : getF m Ldo (j : Int) = ((bxAt Ldo j).p, (bxAt Ldo j).full) := by unfold getF; rw [if_pos hi, Int.toNat_natCast]
    rw [e]
    by_cases hf : (bxAt Ldo j).full = true
    · rw [hf]
      exact rbget_yes B P H Ldo m j (by omega) hf W h.r
    · have hf : (bxAt Ldo j).full = false := by simpa using hf
      rw [hf, hz.zero j hf]
      exact rbget_free B P H Ldo m j (by omega) hf W h.r
  · have e : getF m Ldo i = (PD.zero, false) := by unfold getF; rw [if_neg hi]
    rw [e]
    by_cases h0 : i < 0
    · exact rbget_low B P H Ldo m i h0 W h.r
    · exact rbget_high B P H Ldo m i (by omega) W h.r
end Go.Proofs.Ytbdockeopbfliaa
