/- What Same of package strand returns: whether there are xs many bits, each alike. Conditions: xs for places. -/
import Derived.Test.YtodeaddmachcjaaStc
namespace Go.Proofs.Ytodeaddmachcjaa
open Go.RowKit Go.Shelf
attribute [local go_sem] Oper.semAt_some
def sameV (a b : List Nat) : Bool := decide (bitsOf a = bitsOf b)
theorem same_len {a b : List Nat} (h : a.length ≠ b.length) : sameV a b = false := decide_eq_false (fun e => h (by have := congrArg List.length e; simpa [bitsOf] using this))
theorem bits_ext {a b : List Nat} (h : a.length = b.length) (hb : ∀ j, j < a.length → bitAt a j = bitAt b j) : bitsOf a = bitsOf b := by
  apply List.ext_getElem
  · simpa [bitsOf] using h
  · intro i h1 h2
    have h1' : i < a.length := by simpa [bitsOf] using h1
    have h2' : i < b.length := by omega
    have e := hb i h1'
    simpa [bitsOf, bitAt, h1', h2'] using e
theorem same_no {a b : List Nat} {k : Nat} (h : k < a.length) (hl : a.length = b.length) (hb : bitAt a k ≠ bitAt b k) : sameV a b = false := by
  refine decide_eq_false (fun e => hb ?_)
  have : (bitsOf a)[k]?.getD 0 = (bitsOf b)[k]?.getD 0 := by rw [e]
  rwa [bitsOf_get a k h, bitsOf_get b k (by omega)] at this
end Go.Proofs.Ytodeaddmachcjaa
