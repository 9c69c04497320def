/- Frames one behind the other on the wire: their bits together. No program in it. No conditions. -/
import Derived.Test.YtndjennhbggoiaaDoorLij
import Derived.Test.YtndjennhbggoiaaDoorOpf
namespace Go.Proofs.YtndjennhbggoiaaDoor
open Go.RowKit Go.Shelf
theorem trimD_lt {data : List Nat} (h : ∀ y ∈ data, y < 256) (r : Bool) (m j : Nat) : ∀ y ∈ trimD data r m j, y < 256 := by
  intro y hy
  unfold trimD at hy
  obtain ⟨i, _, rfl⟩ := List.mem_map.1 hy
  split
  · decide
  · cases hc : data[i]? with
    | none => decide
    | some z => exact h z (List.mem_of_getElem? hc)
/-- A frame as it was handed in. -/
abbrev FT := Bool × Nat × Bool × Int × List Nat
def FT.n (t : FT) : Nat := cutN t.1 t.2.1
def FT.m (t : FT) : Nat := cutL t.2.2.2.1
def FT.d (t : FT) : List Nat := trimD t.2.2.2.2 t.2.2.1 (cutL t.2.2.2.1) 8
def FT.wire (t : FT) : List Nat := encB t.1 (FT.n t) t.2.2.1 (FT.m t) (FT.d t)
def FT.Ok (t : FT) : Prop := t.2.1 < 4294967296 ∧ t.2.2.2.2.length = 8 ∧ ∀ y ∈ t.2.2.2.2, y < 256
theorem FT.right (t : FT) : rightF t.1 (FT.n t) t.2.2.1 (FT.m t : Int) (FT.d t) = 0 := cut_can _ _ _ _ _
theorem FT.d8 (t : FT) : (FT.d t).length = 8 := trimD_length _ _ _ _
theorem FT.n_lt (t : FT) : FT.n t < 4294967296 := by unfold FT.n cutN; split <;> omega
theorem FT.long (t : FT) : 44 ≤ (FT.wire t).length ∧ (FT.wire t).length ≤ 160 := by
  have := enc_long (FT.right t)
  exact ⟨this.1, this.2.1⟩
def catW (q : Nat → FT) : Nat → List Nat
  | 0 => []
  | j + 1 => catW q j ++ FT.wire (q j)
theorem catW_len (q : Nat → FT) (j : Nat) : (catW q j).length ≤ 160 * j := by
  induction j with
  | zero => exact Nat.le_refl _
  | succ j ih => have := FT.long (q j); rw [catW, List.length_append]; omega
theorem catW_mono (q : Nat → FT) (j d : Nat) : ∃ m, catW q (j + d) = catW q j ++ m := by
  induction d with
  | zero => exact ⟨[], by simp⟩
  | succ d ih =>
    obtain ⟨m, hm⟩ := ih
    exact ⟨m ++ FT.wire (q (j + d)), by rw [show j + (d + 1) = j + d + 1 by omega, catW, hm, List.append_assoc]⟩
theorem catW_at (q : Nat → FT) (j K k : Nat) (hj : j < K) (hk : k < (FT.wire (q j)).length) : (catW q j).length + k < (catW q K).length ∧ (catW q K)[(catW q j).length + k]?.getD 0 = (FT.wire (q j))[k]?.getD 0 := by
  obtain ⟨m, hm⟩ := catW_mono q (j + 1) (K - (j + 1))
  rw [show j + 1 + (K - (j + 1)) = K by omega, catW] at hm
  rw [hm]
  refine ⟨by simp; omega, ?_⟩
  rw [List.append_assoc, List.getElem?_append_right (by omega), show (catW q j).length + k - (catW q j).length = k by omega, List.getElem?_append_left hk]
theorem Ow.news {B : Nat} {W : World} {a : Option Addr} {L cap : Nat} {bs : List Nat} (h : Ow B W (.slice a L cap) bs) (hL : 0 < bs.length) : ∃ g, a = some ⟨g, 0, none⟩ ∧ ∀ (j : Nat) (u : Value), (bs.map (fun n : Nat => Value.int .u8 ((n : Nat) : Int)))[j]? = some u → W.cell? ((⟨g, 0, none⟩ : Addr).add j) = some u := by
  obtain ⟨g, cap', hv, _, _⟩ := World.ownsRow.form h.own hL
  injection hv with h1 h2 h3
  subst h1
  refine ⟨g, rfl, fun j u hj => ?_⟩
  have hjl : j < bs.length := by
    by_cases hh : j < bs.length
    · exact hh
    · rw [List.getElem?_eq_none (by rw [List.length_map]; omega)] at hj; exact absurd hj (by simp)
  have hs := h.str
  rw [h2] at hs
  obtain ⟨b2, o2, he, _, hc⟩ := hs.at (k := j) hjl
  injection he with he
  injection he with he1 he2 _
  subst he1 he2
  rw [add_off, hc W (Below.refl _ _)]
  rw [List.getElem?_map, List.getElem?_eq_getElem hjl] at hj
  rw [List.getElem?_eq_getElem hjl]
  exact hj
theorem zero_long : 44 < (encB false 0 false 0 [0, 0, 0, 0, 0, 0, 0, 0]).length := by decide +kernel
theorem zero_right0 : rightF false 0 false ((0 : Nat) : Int) [0, 0, 0, 0, 0, 0, 0, 0] = 0 := by decide
end Go.Proofs.YtndjennhbggoiaaDoor
