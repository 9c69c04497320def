/- Slices of numbers of any kind; two oscillators in one memory, the program's and the document's. Conditions: each theorem says its own. -/
import Derived.Test.YtpamkmpaldepnaaOsl
namespace Go.Proofs.Ytpamkmpaldepnaa
open Go.RowKit
/-- What a slice of numbers of a kind holds. -/
def RowI (kd : IntKind) (w : World) (a : Option Addr) (len cap : Nat) (zs : List Int) : Prop :=
  (a = none ∧ len = 0 ∧ cap = 0 ∧ zs = []) ∨
  ∃ x, a = some x ∧ len ≤ cap ∧ cap ≤ maxLen ∧ zs.length = cap ∧ (∀ i, i < zs.length → w.cell? (x.add i) = some (.int kd (zs.getD i 0))) ∧ ∀ n ∈ zs, (Lit.int kd n).wf = true
theorem rowI_at {kd : IntKind} {w : World} {a : Option Addr} {len cap : Nat} {zs : List Int} (h : RowI kd w a len cap zs) : (len = 0 ∨ ∃ b off, a = some ⟨b, off, none⟩ ∧ b < w.heap.size ∧ ∀ i, i < len → ∃ n : Int, (Lit.int kd n).wf = true ∧ ∀ X, Below w.heap.size w X → X.cell? ⟨b, off + i, none⟩ = some (.int kd n)) ∧ len ≤ cap ∧ cap ≤ maxLen := by
  rcases h with ⟨_, rfl, rfl, _⟩ | ⟨x, rfl, hl, hm, hz, hc, hwf⟩
  · exact ⟨.inl rfl, Nat.le_refl _, by unfold maxLen; omega⟩
  · refine ⟨?_, hl, hm⟩
    by_cases h0 : len = 0
    · exact .inl h0
    · obtain ⟨b, off, spot⟩ := x
      have hc0 := hc 0 (by omega)
      have hspot : spot = none := by simpa [Addr.add] using World.cell?_spot hc0
      subst hspot
      have hbl : b < w.heap.size := by have := cell_ltG hc0; simpa [Addr.add] using this
      refine .inr ⟨b, off, rfl, hbl, fun i hi => ?_⟩
      have hci := hc i (by omega)
      have hmem : zs.getD i 0 ∈ zs := by
        rw [List.getD_eq_getElem?_getD, List.getElem?_eq_getElem (by omega), Option.getD_some]
        exact List.getElem_mem _
      refine ⟨zs.getD i 0, hwf _ hmem, fun X hX => ?_⟩
      rw [Addr.add_lit] at hci
      exact (hX.cell (p := ⟨b, off + i, none⟩) hbl).trans hci
/-- Two oscillators in one memory. -/
structure O2 (N : Nat) (W : World) (B B' : Nat) (n d c : Int) (u : Bool) (c' : Int) (u' : Bool) : Prop where
  a : OS W 85 B n d c u
  b : OS W 104 B' n d c' u'
  ne : B ≠ B'
  na : N ≤ B
  nb : N ≤ B'
  nw : N ≤ W.heap.size
theorem O2.on {N : Nat} {W X : World} {B B' : Nat} {n d c c' : Int} {u u' : Bool} (h : O2 N W B B' n d c u c' u') (hb : Below W.heap.size W X) : O2 N X B B' n d c u c' u' := ⟨h.a.on hb, h.b.on hb, h.ne, h.na, h.nb, Nat.le_trans h.nw hb.size⟩
theorem O2.stepA {N : Nat} {W : World} {B B' : Nat} {n d c c' : Int} {u u' : Bool} (h : O2 N W B B' n d c u c' u') (t : Int) (ht : -9223372036854775808 ≤ t ∧ t ≤ 9223372036854775807) : Calls Try.prog 57 #[.pointer (some ⟨B, 0, none⟩), .int .i64 t] W fun y w' => y = .returned (.int .i64 (stepE c t)) ∧ O2 N w' B B' n d (stepC c t) (stepU n d c u t) c' u' ∧ Below N W w' :=
  (ostep_any t ht n d c u B W h.a).mono fun y w' ⟨h1, h2, h3⟩ => ⟨h1, ⟨h2, h.b.moved (h3.block B' h.b.lt (fun e => h.ne e.symm) (fun e => by cases e)), h.ne, h.na, h.nb, Nat.le_trans h.nw h3.size⟩, h3.belowN h.na h.nw (fun k e => by cases e)⟩
theorem O2.stepB {N : Nat} {W : World} {B B' : Nat} {n d c c' : Int} {u u' : Bool} (h : O2 N W B B' n d c u c' u') (t : Int) (ht : -9223372036854775808 ≤ t ∧ t ≤ 9223372036854775807) : Calls Try.prog 58 #[.pointer (some ⟨B', 0, none⟩), .int .i64 t] W fun y w' => y = .returned (.int .i64 (stepE c' t)) ∧ O2 N w' B B' n d c u (stepC c' t) (stepU n d c' u' t) ∧ Below N W w' :=
  (rostep_any t ht n d c' u' B' W h.b).mono fun y w' ⟨h1, h2, h3⟩ => ⟨h1, ⟨h.a.moved (h3.block B h.a.lt h.ne (fun e => by cases e)), h2, h.ne, h.na, h.nb, Nat.le_trans h.nw h3.size⟩, h3.belowN h.nb h.nw (fun k e => by cases e)⟩
end Go.Proofs.Ytpamkmpaldepnaa
