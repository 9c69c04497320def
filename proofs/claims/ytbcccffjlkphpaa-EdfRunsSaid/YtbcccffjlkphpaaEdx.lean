/- Slices of jobs, handed in or made; of what is sent, none that came by then is ahead. Conditions: none. -/
import Derived.Test.YtbcccffjlkphpaaEdw
import Derived.Test.YtbcccffjlkphpaaOpj
namespace Go.Proofs.Ytbcccffjlkphpaa
open Go.RowKit Go.Shelf Go.Sort
set_option linter.unusedSimpArgs false
set_option linter.unusedVariables false
theorem Jbs.ofRdJ {W : World} {a : Option Addr} {n cap : Nat} {L : List Jb} (h : Rd W 4 (.slice a n cap) (L.flatMap Jb.C)) (hl : L.length = n) : Jbs W.heap.size W (.slice a n cap) L := by
  by_cases h0 : L = []
  · subst h0
    exact .inl ⟨a, cap, by rw [← hl]; rfl, rfl⟩
  · have hp : 0 < L.length := List.length_pos_iff.2 h0
    obtain ⟨g, off, e, hg, _⟩ := rd_at Jb.C 4 Jb.C_len h (j := 0) hp (by decide)
    refine .inr ⟨g, off, cap, by rw [e, hl], hg, fun j hj i u hu => ?_⟩
    obtain ⟨g', off', e', _, hc⟩ := rd_at Jb.C 4 Jb.C_len h hj (by decide)
    rw [e] at e'
    injection e' with e'
    injection e' with e1 e2 _
    subst e1; subst e2
    exact hc i u hu
theorem Jbs.ofOwnJ {W : World} {b n : Nat} {v : Value} {L : List Jb} (h : W.ownsRow b 42 4 v n (L.flatMap Jb.C)) : n = L.length ∧ Jbs W.heap.size W v L ∧ ∃ a cap, v = .slice a n cap := by
  have hl := h.1
  rw [flat_len 4 Jb.C Jb.C_len] at hl
  have hn : n = L.length := by omega
  subst hn
  refine ⟨rfl, ?_⟩
  have h2 := h.2
  rcases h2 with ⟨e, e0⟩ | ⟨g, cap, cur, e, _, hg, _⟩
  · have : L = [] := List.eq_nil_of_length_eq_zero e0
    subst this
    exact ⟨.inl ⟨none, 0, e, rfl⟩, none, 0, e⟩
  · refine ⟨.inr ⟨g, 0, cap, e, (Array.getElem?_eq_some_iff.1 hg).1, fun j hj i u hu => ?_⟩, some ⟨g, 0, none⟩, cap, e⟩
    subst e
    have hi : i < 4 := by have := (List.getElem?_eq_some_iff.1 hu).1; rwa [Jb.C_len] at this
    have h3 := h.cells (g := g) rfl (j * 4 + i) u (by rw [flat_at 4 Jb.C Jb.C_len L j i hj hi]; exact hu)
    have e2 : ((⟨g, 0, none⟩ : Addr).add (j * 4 + i)) = ⟨g, 0 + j * 4 + i, none⟩ := by
      cases hk : j * 4 + i <;> simp [Addr.add] <;> omega
    rw [← e2]; exact h3
theorem Tr.beyond {L : List Jb} {len : Int} {S : List Sn} (h : Tr L len S) {i k : Nat} (hik : i < k) (hk : k < S.length) : S[k].j ∉ (S.take i).map Sn.j ∧ S[k].j ≠ S[i].j := by
  have hn := (h k hk).1.nd
  refine ⟨fun hm => hn ?_, fun e => hn ?_⟩
  · obtain ⟨x, hx, e⟩ := List.mem_map.1 hm
    rw [← e]
    exact List.mem_map_of_mem ((List.take_subset_take_left S (Nat.le_of_lt hik)) hx)
  · rw [e]
    exact List.mem_map_of_mem (List.mem_take_iff_getElem.2 ⟨i, by omega, rfl⟩)
theorem Tr.noneAhead {L : List Jb} {len : Int} {S : List Sn} (h : Tr L len S) (hl : 1 ≤ len ∧ len ≤ 1073741824) (hr : ∀ i, i < L.length → rightJ (L.getD i jb0) = true) {i k : Nat} (hik : i < k) (hk : k < S.length) (hc : (L.getD S[k].j jb0).r ≤ S[i].a) : aheadJ (L.getD S[k].j jb0) (L.getD S[i].j jb0) len = false := by
  have hi : i < S.length := by omega
  have n1 := (h i hi).1
  have n2 := (h k hk).1
  obtain ⟨l1, l2⟩ := h.beyond hik hk
  have hm := n1.hmin S[k].j n2.hb l1 hc l2
  have rx := hr _ n2.hb
  have ry := hr _ n1.hb
  obtain ⟨x, hx⟩ : ∃ x, x = L.getD S[k].j jb0 := ⟨_, rfl⟩
  obtain ⟨y, hy⟩ : ∃ x, x = L.getD S[i].j jb0 := ⟨_, rfl⟩
  unfold klt plc at hm
  simp only at hm
  rw [← hx, ← hy] at hm ⊢
  rw [← hx] at rx
  rw [← hy] at ry
  unfold aheadJ
  rw [Bool.and_eq_false_iff]
  refine .inr (decide_eq_false fun ho => ?_)
  have k1 := (ord_lt rx ry hl).1 ho
  have dx := rightJ_d rx
  have dy := rightJ_d ry
  rw [epoch_div (d := y.d) (by omega) hl, epoch_div (d := x.d) (by omega) hl] at hm
  unfold ltJ at k1
  obtain ⟨p, hp⟩ : ∃ p, p = x.d / len := ⟨_, rfl⟩
  obtain ⟨q, hq⟩ : ∃ q, q = y.d / len := ⟨_, rfl⟩
  rw [← hp, ← hq] at hm k1
  have e1 : p < q → len * p < len * q := fun hh => Int.mul_lt_mul_of_pos_left hh (by omega)
  have e2 : p = q → len * p = len * q := fun hh => by rw [hh]
  rcases k1 with g | ⟨g, g2⟩
  · have := e1 g
    omega
  · have := e2 g
    omega
end Go.Proofs.Ytbcccffjlkphpaa
