/- What a statement is told of a string that came in, said as a list of bytes; and the plain facts on packed and flipped strings. No conditions. -/
import Derived.Test.YtodeaddmachcjaaStl
import Derived.Test.YtodeaddmachcjaaNum
import Derived.ProofKit
import Derived.OpenShut
namespace Go.Proofs.Ytodeaddmachcjaa
open Go.RowKit
/-- What a walk is told of a slice of bytes that came in: it is nil; or it leads to a row of cap cells. -/
def IsRow (w : World) (a : Option Addr) (len cap : Nat) (zs : List Int) : Prop :=
  (a = none ∧ len = 0 ∧ cap = 0 ∧ zs = []) ∨
  ∃ x, a = some x ∧ len ≤ cap ∧ cap ≤ maxLen ∧ zs.length = cap ∧ (∀ i, i < zs.length → w.cell? (x.add i) = some (.int .u8 (zs.getD i 0))) ∧ ∀ n ∈ zs, (Lit.int .u8 n).wf = true
theorem wfu8 {a : Int} (h : (Lit.int .u8 a).wf = true) : 0 ≤ a ∧ a ≤ 255 := by
  simpa [Lit.wf, IntKind.min, IntKind.max, IntKind.signed, IntKind.bits] using h
theorem cell_lt {W : World} {x : Addr} {v : Value} (h : W.cell? x = some v) : x.block < W.heap.size := by
  by_cases c : x.block < W.heap.size
  · exact c
  · exfalso
    have e : W.heap[x.block]? = none := Array.getElem?_eq_none (by omega)
    simp [World.cell?, e] at h
theorem isRow_str {w : World} {a : Option Addr} {len cap : Nat} {zs : List Int} (h : IsRow w a len cap zs) : ∃ bs : List Nat, (∀ j : Nat, bs[j]?.getD 0 < 256) ∧ Str w.heap.size w (.slice a len cap) bs := by
  rcases h with ⟨rfl, rfl, rfl, rfl⟩ | ⟨x, rfl, hl, hm, hz, hc, hwf⟩
  · exact ⟨[], fun j => by simp, .inl ⟨none, 0, rfl, by omega, rfl⟩⟩
  · have hm' : cap ≤ 9223372036854775807 := by unfold maxLen at hm; exact hm
    by_cases h0 : len = 0
    · subst h0
      exact ⟨[], fun j => by simp, .inl ⟨some x, cap, rfl, hm', rfl⟩⟩
    · obtain ⟨b, off, spot⟩ := x
      have hc0 := hc 0 (by omega)
      have hspot : spot = none := by simpa [Addr.add] using World.cell?_spot hc0
      subst hspot
      have hlen : ((zs.take len).map Int.toNat).length = len := by rw [List.length_map, List.length_take, hz, Nat.min_eq_left hl]
      refine ⟨(zs.take len).map Int.toNat, fun j => ?_, .inr ⟨b, off, cap, by rw [hlen], by omega, hm', by have := cell_lt hc0; simpa [Addr.add] using this, fun j hj => ?_⟩⟩
      · by_cases hj : j < ((zs.take len).map Int.toNat).length
        · rw [List.getElem?_eq_getElem hj, Option.getD_some, List.getElem_map]
          have hj2 : j < (zs.take len).length := by simpa using hj
          have := wfu8 (hwf (zs.take len)[j] (List.mem_of_mem_take (List.getElem_mem hj2)))
          omega
        · rw [List.getElem?_eq_none (by omega)]; simp
      · rw [hlen] at hj
        have hz1 : j < zs.length := by omega
        have e := hc j hz1
        have e2 : ((((zs.take len).map Int.toNat)[j]?.getD 0 : Nat) : Int) = zs.getD j 0 := by
          rw [List.getElem?_map, List.getElem?_take_of_lt hj, List.getElem?_eq_getElem hz1, List.getD_eq_getElem?_getD, List.getElem?_eq_getElem hz1]
          have := wfu8 (hwf zs[j] (List.getElem_mem hz1))
          simp only [Option.map_some, Option.getD_some]
          omega
        have ea : (⟨b, off, none⟩ : Addr).add j = ⟨b, off + j, none⟩ := by
          unfold Addr.add
          split
          · rename_i h; rw [h]; rfl
          · rfl
        rw [e2, ← ea]
        exact e
theorem bitN_bitN (x : Nat) : bitN (bitN x) = bitN x := by unfold bitN; split <;> rfl
theorem bitN_flip (x : Nat) : bitN (1 - bitN x) = 1 - bitN x := by
  by_cases h : x = 0
  · subst h; rfl
  · rw [bitN_pos h]; rfl
theorem bitsOf_bitsOf (bs : List Nat) : bitsOf (bitsOf bs) = bitsOf bs := by
  unfold bitsOf
  rw [List.map_map]
  exact List.map_congr_left fun x _ => bitN_bitN x
theorem same_clean (bs : List Nat) : sameV (bitsOf bs) bs = true := decide_eq_true (bitsOf_bitsOf bs)
theorem bitAt_bitsOf (bs : List Nat) (j : Nat) (h : j < bs.length) : bitAt (bitsOf bs) j = bitAt bs j := by
  unfold bitAt
  rw [bitsOf_get bs j h]
  exact bitN_bitN _
theorem flipB_length (bs : List Nat) (k : Int) : (flipB bs k).length = bs.length := by
  unfold flipB
  split
  · rw [List.length_set, bitsOf_length]
  · exact bitsOf_length bs
theorem bitAt_flip (bs : List Nat) (k : Int) (j : Nat) (h : j < bs.length) : bitAt (flipB bs k) j = if (j : Int) = k then 1 - bitAt bs j else bitAt bs j := by
  by_cases hk : 0 ≤ k ∧ k < bs.length
  · have e : flipB bs k = (bitsOf bs).set k.toNat (1 - bitAt bs k.toNat) := if_pos hk
    rw [e]
    by_cases hj : (j : Int) = k
    · obtain rfl : k.toNat = j := by omega
      rw [if_pos hj]
      unfold bitAt
      rw [List.getElem?_set_self (by rw [bitsOf_length]; exact h), Option.getD_some]
      exact bitN_flip _
    · rw [if_neg hj]
      unfold bitAt
      rw [List.getElem?_set_ne (by omega), bitsOf_get bs j h]
      exact bitN_bitN _
  · have e : flipB bs k = bitsOf bs := if_neg hk
    rw [e, bitAt_bitsOf bs j h, if_neg (fun hj => hk ⟨by omega, by omega⟩)]
theorem same_flips (bs : List Nat) (k : Int) : sameV (flipB (flipB bs k) k) bs = true := by
  refine decide_eq_true (bits_ext (by rw [flipB_length, flipB_length]) (fun j hj => ?_))
  rw [flipB_length, flipB_length] at hj
  rw [bitAt_flip _ _ _ (by rw [flipB_length]; exact hj), bitAt_flip _ _ _ hj]
  have := bitAt_le bs j
  split <;> omega
theorem packOn_bit (bs : List Nat) (j s : Nat) : ∀ (l : List Nat) (c : Nat), (l.foldl (fun c i => if i / 8 = j then c ||| (bitAt bs i * 2 ^ (7 - i % 8)) else c) c).testBit s = (c.testBit s || l.any (fun i => decide (i / 8 = j) && (bitAt bs i * 2 ^ (7 - i % 8)).testBit s))
  | [], c => by simp
  | i :: l, c => by
    rw [List.foldl_cons, packOn_bit bs j s l, List.any_cons]
    by_cases h : i / 8 = j
    · simp [h, Nat.testBit_or, Bool.or_assoc]
    · simp [h]
theorem bit_shift (v e s : Nat) (hv : v ≤ 1) : (v * 2 ^ e).testBit s = (decide (v = 1) && decide (s = e)) := by
  obtain rfl | rfl : v = 0 ∨ v = 1 := by omega
  · simp
  · rw [Nat.one_mul, Nat.testBit_two_pow]
    by_cases h : s = e
    · subst h; simp
    · rw [decide_eq_false h, decide_eq_false (fun h2 : e = s => h h2.symm)]; rfl
theorem unp_pack (bs : List Nat) : unpB (packB bs) bs.length = bitsOf bs := by
  apply List.ext_getElem
  · rw [unpB_length, bitsOf_length]
  · intro i h1 h2
    rw [unpB_length] at h1
    have e1 : (unpB (packB bs) bs.length)[i] = bitOfB (packB bs) i := by simp [unpB]
    have e2 : (bitsOf bs)[i] = bitAt bs i := by simp [bitsOf, bitAt, h1]
    rw [e1, e2]
    unfold bitOfB
    rw [packB_get _ _ (by omega)]
    have key := packOn_bit bs (i / 8) (7 - i % 8) (List.range bs.length) 0
    have e3 : packOn bs (List.range bs.length) (i / 8) / 2 ^ (7 - i % 8) % 2 = ((packOn bs (List.range bs.length) (i / 8)).testBit (7 - i % 8)).toNat := (Nat.toNat_testBit _ _).symm
    rw [e3]
    show ((List.foldl _ 0 (List.range bs.length)).testBit (7 - i % 8)).toNat = _
    rw [key, Nat.zero_testBit, Bool.false_or]
    have hb := bitAt_le bs i
    by_cases hb1 : bitAt bs i = 1
    · have : ((List.range bs.length).any fun i' => decide (i' / 8 = i / 8) && (bitAt bs i' * 2 ^ (7 - i' % 8)).testBit (7 - i % 8)) = true := by
        rw [List.any_eq_true]
        exact ⟨i, List.mem_range.2 h1, by rw [bit_shift _ _ _ hb]; simp [hb1]⟩
      rw [this, hb1]; rfl
    · have : ((List.range bs.length).any fun i' => decide (i' / 8 = i / 8) && (bitAt bs i' * 2 ^ (7 - i' % 8)).testBit (7 - i % 8)) = false := by
        rw [List.any_eq_false]
        intro i' hi' h
        rw [bit_shift _ _ _ (bitAt_le _ _)] at h
        simp at h
        obtain ⟨h3, h4, h5⟩ := h
        have : i' = i := by omega
        exact hb1 (this ▸ h4)
      rw [this]
      show 0 = _
      omega
theorem packB_byte (bs : List Nat) (j : Nat) : (packB bs)[j]?.getD 0 < 256 := by
  by_cases h : j < (bs.length + 7) / 8
  · rw [packB_get _ _ h]; exact packOn_lt _ _ _
  · rw [List.getElem?_eq_none (by rw [packB_length]; omega)]; simp
end Go.Proofs.Ytodeaddmachcjaa
