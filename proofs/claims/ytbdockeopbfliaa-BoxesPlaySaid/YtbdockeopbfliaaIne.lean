/- The code of package inbox: what is taken out. Conditions: not more than a thousand frames wait. -/
import Derived.Test.YtbdockeopbfliaaInd
namespace Go.Proofs.Ytbdockeopbfliaa
open Go.RowKit
theorem Kp.stepN {B : Nat} {v : Value} {w w' w'' : World} (h : Kp B v w w') (hb : Below w.heap.size w' w'') : Kp B v w w'' :=
  ⟨hb.os.trans h.os, hb.tape.trans h.tape, hb.output.trans h.output, Nat.le_trans h.size hb.size, fun k hk hB hv => (hb.block k hk).trans (h.block k hk hB hv)⟩
theorem IA.onN {W X : World} {T : TypeId} {B room N : Nat} {F : List Fl} {fv : Value} {Q : List SD} {v : Value} {o : Bool} (h : IA W T B room F fv Q v o) (hb : Below N W X) (h1 : B < N) (h2 : ∀ g, fv.ownBlock = some g → g < N) (h3 : ∀ g, v.ownBlock = some g → g < N) : IA X T B room F fv Q v o :=
  ⟨h.blk.keep hb h1, h.fil.kept hb h2, fun g hg => ⟨Nat.lt_of_lt_of_le (h.flt g hg).1 hb.size, (h.flt g hg).2⟩, h.row.keep hb h3, h.own⟩
end Go.Proofs.Ytbdockeopbfliaa
