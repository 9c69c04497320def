/- What And of package strand returns: as long as the shortest one, 1 where all are 1. Conditions: none but that the strings are strings. -/
import Derived.Test.YtodeaddmachcjaaSth
namespace Go.Proofs.Ytodeaddmachcjaa
open Go.RowKit Go.Shelf
attribute [local go_sem] Oper.semAt_some
def markOf (D : Nat) : Deferred := { target := .collected D, args := #[] }
/-- The blocks for the rounds' deferred calls, each empty. -/
def Marks (B : Nat) (W : World) (Ds : List Nat) : Prop := Ds.Nodup ∧ ∀ D ∈ Ds, B ≤ D ∧ W.heap[D]? = some (.deferred (some []))
/-- 1, where all are 1. -/
def andAt (L : List (List Nat)) (j : Nat) : Nat := if L.all (fun b => bitAt b j == 1) then 1 else 0
theorem andAt_le (L : List (List Nat)) (j : Nat) : andAt L j ≤ 1 := by unfold andAt; split <;> omega
theorem andAt_succ {L : List (List Nat)} {j : Nat} {b : List Nat} (h : L[j]? = some b) (i : Nat) : andAt (L.take (j + 1)) i = if andAt (L.take j) i = 1 ∧ bitAt b i = 1 then 1 else 0 := by
  unfold andAt
  rw [List.take_add_one, h]
  simp only [Option.toList_some, List.all_append, List.all_cons, List.all_nil, Bool.and_true, Bool.and_eq_true, beq_iff_eq]
  by_cases c : ((L.take j).all fun b => bitAt b i == 1) = true <;> by_cases d : bitAt b i = 1 <;> simp [c, d]
theorem and_u8 (c v : Nat) (hc : c ≤ 1) (hv : v ≤ 1) : bits .and .u8 (c : Int) (v : Int) = ((if c = 1 ∧ v = 1 then 1 else 0 : Nat) : Int) := by
  obtain rfl | rfl : c = 0 ∨ c = 1 := by omega
  · obtain rfl | rfl : v = 0 ∨ v = 1 := by omega
    · decide
    · decide
  · obtain rfl | rfl : v = 0 ∨ v = 1 := by omega
    · decide
    · decide
theorem bitAt_take (bs : List Nat) (m i : Nat) (h : i < m) : bitAt (bs.take m) i = bitAt bs i := by unfold bitAt; rw [List.getElem?_take_of_lt h]
def andTo (L : List (Value × List Nat)) (j : Nat) : Nat → Nat := andAt ((L.map (·.2)).take j)
theorem Strs.len {n₀ len cap : Nat} {a : Option Addr} {W : World} {L : List (Value × List Nat)} (h : Strs n₀ W (.slice a len cap) L) : len = L.length := by
  rcases h with ⟨a', cap', e, _, rfl⟩ | ⟨b, off, cap', e, _⟩
  · injection e with _ e2 _
  · injection e with _ e2 _
theorem leaves_marks {F : Fence} {n : Nat} {P : Program} {fn : Func} {tmps : Array Value} {R : Ending → World → Prop} (B : Nat) (Q : World → Prop)
    (hQ : ∀ W D, Q W → B ≤ D → W.heap[D]? = some (.deferred (some [])) → Q (W.putObj D (.deferred none))) (hend : ∀ W, Q W → LeavesIn F n P fn tmps R [] .returning W) :
    ∀ (Ds : List Nat) (W : World), Q W → Marks B W Ds → LeavesInM F n P fn tmps R (Ds.map markOf) .returning W
  | [], W, hq, _ => hend W hq
  | D :: Ds, W, hq, ⟨hn, hm⟩ => by
    obtain ⟨hD, hK⟩ := hm D (List.mem_cons_self ..)
    refine ⟨by simp, .inl ⟨D, W.putObj D (.deferred none), rfl, run_takeDeferred hK, leaves_marks B Q hQ hend Ds _ (hQ W D hq hD hK) ⟨(List.nodup_cons.1 hn).2, fun D' hD' => ?_⟩⟩⟩
    obtain ⟨h1, h2⟩ := hm D' (List.mem_cons_of_mem _ hD')
    have hne : D' ≠ D := fun e => (List.nodup_cons.1 hn).1 (e ▸ hD')
    exact ⟨h1, ((grownBy_putObj' W D (.deferred none)).block D' (Array.getElem?_eq_some_iff.1 h2).1 (fun e => hne (by simpa using e))).trans h2⟩
def andB (L : List (List Nat)) : List Nat := (List.range (leastN L)).map (andAt L)
theorem andB_length (L : List (List Nat)) : (andB L).length = leastN L := by simp [andB]
theorem andB_get (L : List (List Nat)) (j : Nat) (h : j < leastN L) : (andB L)[j]?.getD 0 = andAt L j := by simp [andB, h]
theorem box_lt {W : World} {b : Nat} {v : Value} (h : W.cell? ⟨b, 0, none⟩ = some v) : b + 1 ≤ W.heap.size := by
  by_cases c : b < W.heap.size
  · exact c
  · exfalso
    have e : W.heap[b]? = none := Array.getElem?_eq_none (by omega)
    simp [World.cell?, e] at h
end Go.Proofs.Ytodeaddmachcjaa
