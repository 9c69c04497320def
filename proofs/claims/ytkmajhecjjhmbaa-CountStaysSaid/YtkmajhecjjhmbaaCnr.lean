/- What a statement is told of a string that came in, said as a list of bytes. No program in it. No conditions. -/
import Derived.Test.YtkmajhecjjhmbaaCnl
import Derived.ProofKit
import Derived.OpenShut
namespace Go.Proofs.Ytkmajhecjjhmbaa
open Go.RowKit
/-- The slice value sv holds the bytes bs, in a block below n₀; or it is empty, wherever it leads, and there are none. -/
def Str (n₀ : Nat) (W : World) (sv : Value) (bs : List Nat) : Prop :=
  (∃ a cap, sv = .slice a 0 cap ∧ cap ≤ 9223372036854775807 ∧ bs = []) ∨ ∃ b off cap, sv = .slice (some ⟨b, off, none⟩) bs.length cap ∧ bs.length ≤ cap ∧ cap ≤ 9223372036854775807 ∧ b < n₀ ∧ ∀ j, j < bs.length → W.cell? ⟨b, off + j, none⟩ = some (.int .u8 ((bs[j]?.getD 0 : Nat) : Int))
theorem Str.below {n₀ : Nat} {A B : World} (h : Below n₀ A B) {sv : Value} {bs : List Nat} : Str n₀ A sv bs → Str n₀ B sv bs
  | .inl e => .inl e
  | .inr ⟨b, off, cap, e, h1, h2, hb, hc⟩ => .inr ⟨b, off, cap, e, h1, h2, hb, fun j hj => (h.cell (p := ⟨b, off + j, none⟩) hb).trans (hc j hj)⟩
theorem Str.mono {n₀ n₁ : Nat} (h : n₀ ≤ n₁) {A : World} {sv : Value} {bs : List Nat} : Str n₀ A sv bs → Str n₁ A sv bs
  | .inl e => .inl e
  | .inr ⟨b, off, cap, e, h1, h2, hb, hc⟩ => .inr ⟨b, off, cap, e, h1, h2, Nat.lt_of_lt_of_le hb h, hc⟩
theorem Str.len {n₀ len cap : Nat} {a : Option Addr} {W : World} {bs : List Nat} (h : Str n₀ W (.slice a len cap) bs) : len = bs.length := by
  rcases h with ⟨a', cap', e, _, rfl⟩ | ⟨b, off, cap', e, _⟩
  · injection e with _ e2 _
  · injection e with _ e2 _
theorem Str.capLe {n₀ len cap : Nat} {a : Option Addr} {W : World} {bs : List Nat} (h : Str n₀ W (.slice a len cap) bs) : cap ≤ 9223372036854775807 := by
  rcases h with ⟨a', cap', e, h1, rfl⟩ | ⟨b, off, cap', e, _, h1, _⟩
  · injection e with _ _ e3; omega
  · injection e with _ _ e3; omega
theorem Str.lenCap {n₀ len cap : Nat} {a : Option Addr} {W : World} {bs : List Nat} (h : Str n₀ W (.slice a len cap) bs) : bs.length ≤ cap := by
  rcases h with ⟨a', cap', e, h1, rfl⟩ | ⟨b, off, cap', e, h1, _⟩
  · exact Nat.zero_le _
  · injection e with _ _ e3; omega
/-- What a walk is told of a slice of bytes that came in: it is nil; or it leads to a row of cap cells. -/
def IsRow (w : World) (a : Option Addr) (len cap : Nat) (zs : List Int) : Prop :=
  (a = none ∧ len = 0 ∧ cap = 0 ∧ zs = []) ∨
  ∃ x, a = some x ∧ len ≤ cap ∧ cap ≤ maxLen ∧ zs.length = cap ∧ (∀ i, i < zs.length → w.cell? (x.add i) = some (.int .u8 (zs.getD i 0))) ∧ ∀ n ∈ zs, (Lit.int .u8 n).wf = true
theorem wfu8 {a : Int} (h : (Lit.int .u8 a).wf = true) : 0 ≤ a ∧ a ≤ 255 := by
  simpa [Lit.wf, IntKind.min, IntKind.max, IntKind.signed, IntKind.bits] using h
theorem cell_lt {W : World} {x : Addr} {v : Value} (h : W.cell? x = some v) : x.block < W.heap.size := by
  by_cases c : x.block < W.heap.size
  · exact c
  · exfalso
    have e : W.heap[x.block]? = none := Array.getElem?_eq_none (by omega)
    simp [World.cell?, e] at h
theorem isRow_str {w : World} {a : Option Addr} {len cap : Nat} {zs : List Int} (h : IsRow w a len cap zs) : ∃ bs : List Nat, (∀ j : Nat, bs[j]?.getD 0 < 256) ∧ Str w.heap.size w (.slice a len cap) bs := by
  rcases h with ⟨rfl, rfl, rfl, rfl⟩ | ⟨x, rfl, hl, hm, hz, hc, hwf⟩
  · exact ⟨[], fun j => by simp, .inl ⟨none, 0, rfl, by omega, rfl⟩⟩
  · have hm' : cap ≤ 9223372036854775807 := by unfold maxLen at hm; exact hm
    by_cases h0 : len = 0
    · subst h0
      exact ⟨[], fun j => by simp, .inl ⟨some x, cap, rfl, hm', rfl⟩⟩
    · obtain ⟨b, off, spot⟩ := x
      have hc0 := hc 0 (by omega)
      have hspot : spot = none := by simpa [Addr.add] using World.cell?_spot hc0
      subst hspot
      have hlen : ((zs.take len).map Int.toNat).length = len := by rw [List.length_map, List.length_take, hz, Nat.min_eq_left hl]
      refine ⟨(zs.take len).map Int.toNat, fun j => ?_, .inr ⟨b, off, cap, by rw [hlen], by omega, hm', by have := cell_lt hc0; simpa [Addr.add] using this, fun j hj => ?_⟩⟩
      · by_cases hj : j < ((zs.take len).map Int.toNat).length
        · rw [List.getElem?_eq_getElem hj, Option.getD_some, List.getElem_map]
          have hj2 : j < (zs.take len).length := by simpa using hj
          have := wfu8 (hwf (zs.take len)[j] (List.mem_of_mem_take (List.getElem_mem hj2)))
          omega
        · rw [List.getElem?_eq_none (by omega)]; simp
      · rw [hlen] at hj
        have hz1 : j < zs.length := by omega
        have e := hc j hz1
        have e2 : ((((zs.take len).map Int.toNat)[j]?.getD 0 : Nat) : Int) = zs.getD j 0 := by
          rw [List.getElem?_map, List.getElem?_take_of_lt hj, List.getElem?_eq_getElem hz1, List.getD_eq_getElem?_getD, List.getElem?_eq_getElem hz1]
          have := wfu8 (hwf zs[j] (List.getElem_mem hz1))
          simp only [Option.map_some, Option.getD_some]
          omega
        have ea : (⟨b, off, none⟩ : Addr).add j = ⟨b, off + j, none⟩ := by
          unfold Addr.add
          split
          · rename_i h; rw [h]; rfl
          · rfl
        rw [e2, ← ea]
        exact e
end Go.Proofs.Ytkmajhecjjhmbaa
