/- An append to a row whose cells are known and whose spare cells may be written, whatever its mark says: in place, or a new row. No program in it. Conditions: not more than a thousand elements of one cell. -/
import Derived.Test.YtmfnkfiocnngeaaDoorRdb
import Derived.Deep.AppendSrc
import Derived.Laws.IdiomCopy
import Derived.Room.Entries
namespace Go.Proofs.YtmfnkfiocnngeaaDoor
open Go.RowKit Go.Shelf
theorem step_append_came {P : Program} (w : World) {ops : Array Oper} {o : Oper} {a : Act} {K : Act → World → Prop} {Q : Exit → Act → World → Prop} {E : Prop} (hgd : o.guard = none) (s x : Operand) (t : TypeId)
    (ho : o.op = .call { callee := .builtin .append, args := #[s, x], argTypes := #[t, t] })
    (e : TypeId) (i : TypeInfo) (z : Value) (ht : P.underlying t = some (.slice e)) (hi : P.info? e = some i) (hz : i.zero = some z) (hsize : i.size = 1) (hby : i.bytes = 1)
    (b n cap : Nat) (olds news : List Value) (hs : a.eval s = .slice (some ⟨b, 0, none⟩) n cap) (ad : Addr) (m c : Nat) (hx : a.eval x = .slice (some ad) m c) (hol : olds.length = n) (hl : news.length = m)
    (hold : ∀ j u, olds[j]? = some u → w.cell? ⟨b, j, none⟩ = some u) (hnews : ∀ j u, news[j]? = some u → w.cell? (ad.add j) = some u) (h1 : ∀ u ∈ news, u.oneCell' = true)
    (hsp : n + m ≤ cap → ∀ j, j < m → (w.cell? ⟨b, n + j, none⟩).isSome = true ∧ w.frozen? ⟨b, n + j, none⟩ = false) (hb : b ≤ w.heap.size) (h63 : n + m ≤ 1000)
    (h : ∀ g cap' w', (∀ j u, (olds ++ news)[j]? = some u → w'.cell? ⟨g, j, none⟩ = some u) → Below b w w' → K (a.put o.dst (.slice (some ⟨g, 0, none⟩) (n + m) cap')) w') :
    if Region.wanted o (yielded ops a.tmps) = true then Oper.wp P o a w K Q else E := by
  have hw : Region.wanted o (yielded ops a.tmps) = true := by simp [Region.wanted, hgd]
  rw [if_pos hw]
  have hsrc : Src P i.size t (.slice (some ad) m c) m news w := Src.ofSlice w ht ad m c news (by rw [hsize, hl, Nat.mul_one]) hnews h1
  by_cases hroom : n + m ≤ cap
  · have hr := run_append_room_src (P := P) w t t o.type e i ht hi b 0 n cap (.slice (some ad) m c) m news hsrc hroom
      (fun j hj => by rw [hsize, Nat.mul_one, Nat.zero_add]; exact (hsp hroom j (by omega)).1)
      (fun j hj => by rw [hsize, Nat.mul_one, Nat.zero_add]; exact (hsp hroom j (by omega)).2)
    rw [hsize, Nat.mul_one, Nat.zero_add] at hr
    unfold Oper.wp execOp
    simp only [ho, resolve, invoke, builtin, Sem.run_bind, Sem.run_pure, Result.andThen_ok, List.map_toArray, List.map_cons, List.map_nil, hs, hx, hr]
    refine h b cap _ (fun j u hj => ?_) (Go.below_setCells (Nat.le_refl _) news n w (Below.refl _ _))
    by_cases hjn : j < n
    · rw [List.getElem?_append_left (by omega)] at hj
      rw [World.cell?_setCells_out b news n w ⟨b, j, none⟩ (fun _ _ => .inl hjn)]
      exact hold j u hj
    · rw [List.getElem?_append_right (by omega), hol] at hj
      have hlt := (List.getElem?_eq_some_iff.1 hj).1
      have h2 := World.cell?_setCells_in b news n w (fun j hj => (hsp hroom j (by omega)).1) (j - n) hlt
      rw [show n + (j - n) = j by omega] at h2
      rw [h2, ← hj, List.getElem?_eq_getElem hlt]
  · have hcells : (Builtin.firstCells i.size n (.slice (some ⟨b, 0, none⟩) n cap)).run P w.drew = .ok olds.toArray w.drew :=
      run_firstCells_some w.drew i.size n ⟨b, 0, none⟩ n cap olds (by rw [hsize, hol, Nat.mul_one]) (fun j u hj => by
        rw [Addr.add_lit, Nat.zero_add]
        exact hold j u hj)
    have hr := run_append_grow_src (P := P) w t t o.type e i z ht hi hz (some ⟨b, 0, none⟩) n cap olds hcells (.slice (some ad) m c) m news hsrc (by omega) (by omega)
      (by have := Room.nextslicecap_le' (need := n + m) (old := cap) (by omega); rw [hby, Nat.mul_one]; omega)
    unfold Oper.wp execOp
    simp only [ho, resolve, invoke, builtin, Sem.run_bind, Sem.run_pure, Result.andThen_ok, List.map_toArray, List.map_cons, List.map_nil, hs, hx, hr]
    refine h w.heap.size _ _ (fun j u hj => ?_) (((Below.refl b w).drew).alloc hb _)
    have hlt := (List.getElem?_eq_some_iff.1 hj).1
    refine (World.cell?_alloc_mark w.drew _ e (0, 0) j).trans ?_
    rw [Array.getElem?_append_left (by simpa using hlt), List.getElem?_toArray]
    exact hj
end Go.Proofs.YtmfnkfiocnngeaaDoor
