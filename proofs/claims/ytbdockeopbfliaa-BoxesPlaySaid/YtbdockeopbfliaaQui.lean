/- Regions that draw their order and whose operations have one value in every world of a class (calls keep the class): one walk in the order of the text serves every order. No program in it. Conditions: the theorem says its own. -/
import Derived.WalkKit
import Derived.Deep.QuietTactic
import Derived.Deep.RegionHeld3
namespace Go.Proofs.Ytbdockeopbfliaa
open Go.RowKit
theorem wp_region_class {P : Program} {C : World → Prop} {id : Nat} {Q : Exit → Act → World → Prop} {a : Act} {w : World} {l : List Oper} (hm : P.follows .mixedOrders = true) (hB : Region.lexB .any l.toArray = true) (hC : C w.drew)
    (h : wpQuiet P l.toArray C (fun a' => ∀ w', C w' → Q .normal a' w') l a) : (Code.region id l.toArray true).wp P Q a w :=
  wp_region_quiet (C := C) hm hB hC (by simpa using h)
theorem quiet_want {P : Program} {C : World → Prop} {ops : Array Oper} {a : Act} {o : Oper} {K : Act → Prop} (hw : Region.wanted o (yielded ops a.tmps) = true) (h : o.quiet P a C K) : if Region.wanted o (yielded ops a.tmps) then o.quiet P a C K else K (a.put o.dst undef) := by
  rw [if_pos hw]; exact h
theorem quiet_skip {P : Program} {C : World → Prop} {ops : Array Oper} {a : Act} {o : Oper} {K : Act → Prop} (hw : Region.wanted o (yielded ops a.tmps) = false) (hK : K (a.put o.dst undef)) : if Region.wanted o (yielded ops a.tmps) then o.quiet P a C K else K (a.put o.dst undef) := by
  rw [if_neg (by rw [hw]; decide)]; exact hK
/-- A region that is walked under S may go on at a class of worlds that meet S, in the order of the text. -/
theorem wpAnyH_of_quiet {P : Program} {md : Region.Mode} {ops : Array Oper} {S C : World → Prop} {Q : Act → Prop} {Q' : Exit → Act → World → Prop} (hCS : ∀ x, C x → S x) (hQ : ∀ a w, C w → Q a → Q' .normal a w) : ∀ (fuel : Nat) (listed : Array Bool) (a : Act) (w : World), C w →
    wpAnyQ P md ops C Q fuel listed a → wpAnyH P md ops Q' S fuel listed a w
  | 0, _, _, _, hw, h => ⟨h.1, hQ _ _ hw h.2⟩
  | fuel + 1, _, _, _, hw, h => ⟨fun h0 => hQ _ _ hw (h.1 h0), fun i hi => wpOp_of_qOp hw (fun a' w' hw' hk => ⟨hCS w' hw', wpAnyH_of_quiet hCS hQ fuel _ a' w' hw' hk⟩) (h.2 i hi)⟩
theorem wpAnyH_class {P : Program} {l0 : List Oper} {S C : World → Prop} {Q : Exit → Act → World → Prop} {fuel : Nat} {listed : Array Bool} {a : Act} {w : World} (k : Nat) (l : List Oper) (hd : l0.drop k = l) (hs : Region.noSelect l0.toArray = true) (hf : l.length = fuel) (hB : Region.lexFrom .any l0.toArray l.length k listed = true)
    (hCS : ∀ x, C x → S x) (hC : C w) (h : wpQuiet P l0.toArray C (fun a' => ∀ w', C w' → Q .normal a' w') l a) : wpAnyH P .any l0.toArray Q S fuel listed a w := by
  subst hf
  refine wpAnyH_of_quiet (C := C) (Q := fun a' => ∀ w', C w' → Q .normal a' w') hCS (fun _ w' hw' h => h w' hw') _ _ _ _ hC ?_
  exact wpAnyQ_lex (C := C) (md := .any) hs l k listed a (fun j => by rw [← hd]; simp) hB h
end Go.Proofs.Ytbdockeopbfliaa
