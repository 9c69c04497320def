/- What the fixed calls of package strand that every statement of its layer asks come to: true. No conditions. -/
import Derived.Test.YtodeaddmachcjaaStd
import Derived.Test.YtodeaddmachcjaaSte
import Derived.Test.YtodeaddmachcjaaStf
import Derived.Test.YtodeaddmachcjaaStg
import Derived.Test.YtodeaddmachcjaaSti
namespace Go.Proofs.Ytodeaddmachcjaa
open Go.RowKit
theorem below_trans' {w w1 w2 : World} (h1 : Below w.heap.size w w1) (h2 : Below w1.heap.size w1 w2) : Below w.heap.size w w2 := h1.trans (h2.mono h1.size)
theorem Str.on {w1 w2 : World} {v : Value} {bs : List Nat} (h : Str w1.heap.size w1 v bs) (h2 : Below w1.heap.size w1 w2) : Str w2.heap.size w2 v bs := (h.below h2).mono h2.size
theorem Strs.on {w1 w2 : World} {v : Value} {L : List (Value × List Nat)} (h : Strs w1.heap.size w1 v L) (h2 : Below w1.heap.size w1 w2) : Strs w2.heap.size w2 v L := (h.below h2).mono h2.size
theorem str_lit (W : World) (bs : List Nat) (c : Array Value) (T : TypeId) (hl : bs.length ≤ 281474976710656) (hc : c = (bs.map (fun n : Nat => Value.int .u8 ((n : Nat) : Int))).toArray) :
    Str (W.alloc (.cells c T)).heap.size (W.alloc (.cells c T)) (.slice (some ⟨W.heap.size, 0, none⟩) bs.length bs.length) bs := by
  subst hc
  refine .inr ⟨W.heap.size, 0, bs.length, rfl, Nat.le_refl _, by omega, by simp, fun j hj => ?_⟩
  simp [hj]
theorem str_nil (n₀ : Nat) (W : World) : Str n₀ W (.slice none 0 0) [] := .inl ⟨none, 0, rfl, by omega, rfl⟩
theorem strs_lit (W : World) (L : List (Value × List Nat)) (c : Array Value) (T : TypeId) (hl : L.length ≤ 281474976710656) (hc : c = (L.map (·.1)).toArray) (hs : ∀ p ∈ L, Str W.heap.size W p.1 p.2 ∧ ∃ a cap, p.1 = .slice a p.2.length cap) :
    Strs (W.alloc (.cells c T)).heap.size (W.alloc (.cells c T)) (.slice (some ⟨W.heap.size, 0, none⟩) L.length L.length) L := by
  subst hc
  refine .inr ⟨W.heap.size, 0, L.length, rfl, Nat.le_refl _, by omega, by simp, fun j p hp => ?_, fun p hp => ⟨(hs p hp).1.on ((Below.refl _ W).alloc (Nat.le_refl _) _), (hs p hp).2⟩⟩
  simp [hp]
end Go.Proofs.Ytodeaddmachcjaa
