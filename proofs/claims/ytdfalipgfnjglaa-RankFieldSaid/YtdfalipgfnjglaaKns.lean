/- A node of the program and one of the document in one memory; slices of slices of whole numbers, opened. Conditions: each theorem says its own. -/
import Derived.Test.YtdfalipgfnjglaaKno
import Derived.OpenShut
import Derived.Deep.Matrix
namespace Go.Proofs.Ytdfalipgfnjglaa
open Go.ChangeShapes Go.WideShapes Go.ChangeAt Go.RowKit
/-- A node of the program at B, one of the document at D, a config at C. -/
structure N2 (N0 : Nat) (w : World) (B D C : Nat) (b s p k : Int) (d e : Nd) : Prop where
  a : Blk w B 214 (ndC b s p k d)
  r : Blk w D 128 (ndC b s p k e)
  c : Blk w C 115 [.int .i64 b, .int .i64 s, .int .i64 p]
  cb : C ≠ B
  cd : C ≠ D
  bd : B ≠ D
  hB : N0 ≤ B
  hD : N0 ≤ D
  hs : N0 ≤ w.heap.size
theorem N2.on {N0 : Nat} {w x : World} {B D C : Nat} {b s p k : Int} {d e : Nd} (h : N2 N0 w B D C b s p k d e) (hb : Below w.heap.size w x) : N2 N0 x B D C b s p k d e :=
  ⟨h.a.keep hb h.a.lt, h.r.keep hb h.r.lt, h.c.keep hb h.c.lt, h.cb, h.cd, h.bd, h.hB, h.hD, Nat.le_trans h.hs hb.size⟩
theorem Blk.other {W X : World} {B C : Nat} {v : Value} {T : TypeId} {l : List Value} (h : Blk W C T l) (hk : Kp B v W X) (hne : C ≠ B) (hv : v.ownBlock ≠ some C) : Blk X C T l := (hk.block C h.lt hne hv).trans h
theorem N2.stepA {N0 : Nat} {w x : World} {B D C : Nat} {b s p k : Int} {d e d' : Nd} (h : N2 N0 w B D C b s p k d e) (h1 : Blk x B 214 (ndC b s p k d')) (hk : Kp B (.slice none 0 0) w x) : N2 N0 x B D C b s p k d' e ∧ Below N0 w x :=
  ⟨⟨h1, h.r.other hk (Ne.symm h.bd) (by simp [Value.ownBlock]), h.c.other hk h.cb (by simp [Value.ownBlock]), h.cb, h.cd, h.bd, h.hB, h.hD, Nat.le_trans h.hs hk.size⟩, hk.belowN h.hB h.hs (fun g hg => by simp [Value.ownBlock] at hg)⟩
theorem N2.stepD {N0 : Nat} {w x : World} {B D C : Nat} {b s p k : Int} {d e e' : Nd} (h : N2 N0 w B D C b s p k d e) (h1 : Blk x D 128 (ndC b s p k e')) (hk : Kp D (.slice none 0 0) w x) : N2 N0 x B D C b s p k d e' ∧ Below N0 w x :=
  ⟨⟨h.a.other hk h.bd (by simp [Value.ownBlock]), h1, h.c.other hk h.cd (by simp [Value.ownBlock]), h.cb, h.cd, h.bd, h.hB, h.hD, Nat.le_trans h.hs hk.size⟩, hk.belowN h.hD h.hs (fun g hg => by simp [Value.ownBlock] at hg)⟩
theorem Ints.onN {W X : World} {N : Nat} {a : Option Addr} {h : List Int} (hi : Ints W a h) (hN : W.heap.size ≤ N) (hb : Below N W X) : Ints X a h := fun j hj => by
  obtain ⟨g, off, e, hg, hc⟩ := hi j hj
  exact ⟨g, off, e, Nat.lt_of_lt_of_le hg hb.size, (hb.cell (p := ⟨g, off + j, none⟩) (Nat.lt_of_lt_of_le hg hN)).trans hc⟩
/-- Rows of whole numbers. -/
def RowsI (W : World) (a : Option Addr) (len : Nat) (A : Nat → Option Addr) (L C : Nat → Nat) (Z : Nat → List Int) : Prop :=
  ∀ r, r < len → (∃ g off, a = some ⟨g, off, none⟩ ∧ g < W.heap.size ∧ W.cell? ⟨g, off + r, none⟩ = some (.slice (A r) (L r) (C r))) ∧ L r ≤ C r ∧ C r ≤ maxLen ∧ (Z r).length = L r ∧ Ints W (A r) (Z r)
section
variable {H : Type} {enc : TypeId × Value → H} {W : World} {base : Nat} {held : Bool}
theorem open_rowsI {fuel : Nat} {a : Option Addr} {len cap : Nat} {x : DataW H × List MemPlace} (h : DataW.trod enc Try.prog W base (fun _ => true) held fuel 116 [.slice a len cap] = some x) : ∃ A L C Z, RowsI W a len A L C Z := by
  rcases Deep.open_int_rows Try.underlying116 Try.underlying79 Try.underlying3 (by kernel_rfl) (by kernel_rfl) h with ⟨hcs, _⟩ | ⟨x, l, c, A, L, C, Z, hcs, _, hl, hm, _, hr⟩
  · injection hcs with hcs _
    injection hcs with h1 h2 h3
    subst h1 h2 h3
    exact ⟨fun _ => none, fun _ => 0, fun _ => 0, fun _ => [], fun r hr => by omega⟩
  · injection hcs with hcs _
    injection hcs with h1 h2 h3
    subst h1 h2 h3
    obtain ⟨b, off, spot⟩ := x
    refine ⟨A, L, C, fun r => (Z r).take (L r), fun r hrl => ?_⟩
    obtain ⟨h1, h2, h3, h4, _, h6, h7⟩ := hr r (by omega)
    have hspot : spot = none := by
      have hs := World.cell?_spot (hr 0 (by omega)).1
      simpa [Addr.add] using hs
    subst hspot
    rw [Addr.add_lit] at h1
    refine ⟨⟨b, off, rfl, cell_ltG h1, h1⟩, h2, h3, by rw [List.length_take]; omega, fun j hj => ?_⟩
    rw [List.length_take] at hj
    cases hA : A r with
    | none => have := h6 hA; omega
    | some a' =>
      obtain ⟨b', off', spot'⟩ := a'
      have h8 := (h7 _ hA).2 j (by omega)
      have hspot : spot' = none := by
        have hs := World.cell?_spot ((h7 _ hA).2 0 (by omega))
        simpa [Addr.add] using hs
      subst hspot
      rw [Addr.add_lit] at h8
      refine ⟨b', off', rfl, cell_ltG h8, ?_⟩
      rw [h8, List.getElem_take]
      congr 2
      rw [List.getD_eq_getElem?_getD, List.getElem?_eq_getElem (by omega)]
      rfl
end
end Go.Proofs.Ytdfalipgfnjglaa
