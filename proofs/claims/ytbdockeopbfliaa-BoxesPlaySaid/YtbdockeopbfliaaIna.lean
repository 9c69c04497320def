/- The code of package inbox: which frames come through. Conditions: not more than a thousand filters. -/
import Derived.Test.YtbdockeopbfliaaRows
import Derived.Test.YtbdockeopbfliaaGna
import Derived.Laws.BitsAllLaws
import Derived.Lib.Hide
import Derived.Deep.RegionHeld3
namespace Go.Proofs.Ytbdockeopbfliaa
open Go.RowKit
/-- A filter. -/
structure Fl where
  x : Bool
  m : Int
  t : Int
def Fl.C (f : Fl) : List Value := [.bool f.x, .int .u32 f.m, .int .u32 f.t]
def Fl.V (f : Fl) : Value := .agg #[.bool f.x, .int .u32 f.m, .int .u32 f.t]
/-- All filters' cells. -/
def flC (L : List Fl) : List Value := L.flatMap Fl.C
/-- Does one let a frame through? -/
def letF (e : Bool) (n : Int) (f : Fl) : Bool := (f.x == e) && (bits .and .u32 f.m (bits .xor .u32 f.t n) == 0)
/-- Do all of them? -/
def letsB (L : List Fl) (e : Bool) (n : Int) : Bool := L.isEmpty || L.any (letF e n)
theorem flat_len {α : Type} (k : Nat) (c : α → List Value) (hc : ∀ x, (c x).length = k) (L : List α) : (L.flatMap c).length = L.length * k := by
  induction L with
  | nil => simp
  | cons x L ih => rw [List.flatMap_cons, List.length_append, hc, ih, List.length_cons, Nat.succ_mul, Nat.add_comm]
theorem flat_at {α : Type} (k : Nat) (c : α → List Value) (hc : ∀ x, (c x).length = k) (L : List α) (j i : Nat) (hj : j < L.length) (hi : i < k) : (L.flatMap c)[j * k + i]? = (c (L[j]'hj))[i]? := by
  induction L generalizing j with
  | nil => simp at hj
  | cons x L ih =>
    rw [List.flatMap_cons]
    match j, hj with
    | 0, _ =>
      rw [Nat.zero_mul, Nat.zero_add, List.getElem?_append_left (by rw [hc]; exact hi)]
      rfl
    | j + 1, hj =>
      rw [List.getElem?_append_right (by rw [hc, Nat.succ_mul]; omega), hc, show (j + 1) * k + i - k = j * k + i by rw [Nat.succ_mul]; omega]
      exact ih j (by simpa using hj)
theorem flC_len (L : List Fl) : (flC L).length = L.length * 3 := flat_len 3 Fl.C (fun _ => rfl) L
/-- What is read of the filters' row. -/
theorem Rd.fl {W : World} {a : Option Addr} {n cap : Nat} {L : List Fl} (h : Rd W 3 (.slice a n cap) (flC L)) {j : Nat} (hj : j < L.length) : n = L.length ∧ ∃ g off, a = some ⟨g, off, none⟩ ∧ g < W.heap.size ∧ W.cell? ⟨g, off + j * 3, none⟩ = some (.bool L[j].x) ∧ W.cell? ⟨g, off + j * 3 + 1, none⟩ = some (.int .u32 L[j].m) ∧ W.cell? ⟨g, off + j * 3 + 2, none⟩ = some (.int .u32 L[j].t) := by
  obtain ⟨n', cap', a', e, h1, h2, h3, h4⟩ := h
  injection e with e1 e2 e3
  subst e1 e2 e3
  rw [flC_len] at h1
  refine ⟨by omega, ?_⟩
  rcases h4 with h5 | ⟨g, off, rfl, hg, hc⟩
  · omega
  · refine ⟨g, off, rfl, hg, ?_, ?_, ?_⟩
    · exact hc (j * 3) _ ((flat_at 3 Fl.C (fun _ => rfl) L j 0 hj (by omega)).trans rfl)
    · rw [Nat.add_assoc]; exact hc (j * 3 + 1) _ ((flat_at 3 Fl.C (fun _ => rfl) L j 1 hj (by omega)).trans rfl)
    · rw [Nat.add_assoc]; exact hc (j * 3 + 2) _ ((flat_at 3 Fl.C (fun _ => rfl) L j 2 hj (by omega)).trans rfl)
theorem Rd.len3 {W : World} {a : Option Addr} {n cap : Nat} {L : List Fl} (h : Rd W 3 (.slice a n cap) (flC L)) : n = L.length := by
  obtain ⟨n', cap', a', e, h1, _⟩ := h
  injection e with e1 e2 e3
  subst e1 e2 e3
  rw [flC_len] at h1
  omega
end Go.Proofs.Ytbdockeopbfliaa
