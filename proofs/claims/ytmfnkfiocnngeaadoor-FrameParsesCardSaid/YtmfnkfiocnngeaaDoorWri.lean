/- The document's own body of a frame that can't be, and the first two hundred bits of what comes: what they return. Conditions: a frame has eight bytes of data. -/
import Derived.Test.YtmfnkfiocnngeaaDoorWrh
namespace Go.Proofs.YtmfnkfiocnngeaaDoor
open Go.RowKit Go.Shelf Go.ChangeShapes
theorem ref6Body_no (e : Bool) (n : Nat) (r : Bool) (len : Int) (data : List Nat) (hd : data.length = 8) (hok : rightF e n r len data ≠ 0) (w : World) : Calls Tryd.prog 18 #[frameV e n r len data] w fun x w' => x = .returned (.slice none 0 0) ∧ Below w.heap.size w w' := by
  have HRI := Lib.hid (fun u => ref6Right_any e n r len data hd u)
  obtain ⟨rr, hrr⟩ : ∃ rr, rr = rightF e n r len data := ⟨_, rfl⟩
  rw [← hrr] at HRI hok
  have i1 : ((rr : Int) != 0) = true := by simp; omega
  obtain ⟨d0, d1, d2, d3, d4, d5, d6, d7, rfl⟩ := eight hd
  simp only [frameV, frameC, List.map] at HRI ⊢
  clear hd hrr hok
  go_enter Tryd.func18, Tryd.ntmps18
  go_wp2_with fail
  refine (HRI.out _).mono ?_
  rintro x w1 ⟨rfl, hb⟩
  have HB := Lib.hid (below_trans' ((Below.refl _ w).alloc (Nat.le_refl _) _) hb)
  clear hb
  go_wp2_with fail
  go_ret
  exact ⟨rfl, HB.out⟩
theorem dec_one (bs : List Nat) (h : bs[0]?.getD 0 ≠ 0) : dcV (bitsOf bs) = .tuple #[.agg #[.bool false, .int .u32 0, .bool false, .int .i64 0, .int .u8 0, .int .u8 0, .int .u8 0, .int .u8 0, .int .u8 0, .int .u8 0, .int .u8 0, .int .u8 0], .int .i64 0, .int .i64 3] := by
  have hn : 0 < bs.length := by
    cases bs
    · exact absurd rfl h
    · simp
  have h1 := drop_bits bs 0 hn
  rw [List.drop_zero] at h1
  have hb : bitN (bs[0]?.getD 0) ≠ 0 := by unfold bitN; rw [if_neg h]; decide
  have h2 : opnB (0, 0) [] 0 (bitsOf bs) = (3, 0, []) := by
    rw [h1, opnB_cons, if_neg (by decide), if_pos ⟨rfl, hb⟩]
  have h3 : decB (bitsOf bs) = (3, 0, []) := by rw [dec_bad (by rw [h2]; decide), h2]
  rw [dcV, h3]
  rfl
set_option maxHeartbeats 2000000 in
theorem ref7Decode_one (a : Option Addr) (len cap : Nat) (bs : List Nat) (h : bs[0]?.getD 0 ≠ 0) (w : World) (hI : Str w.heap.size w (.slice a len cap) bs) : Calls Tryd.prog 79 #[.slice a len cap] w fun x w' => x = .returned (dcV (bitsOf bs)) ∧ Below w.heap.size w w' := by
  rw [dec_one bs h]
  have hlen := hI.len
  have hn : 0 < bs.length := by
    cases bs
    · exact absurd rfl h
    · simp
  obtain ⟨bk, off, rfl, hbk, hc⟩ := hI.at (k := 0) (by omega)
  obtain ⟨x, hx⟩ : ∃ x, x = bs[0]?.getD 0 := ⟨_, rfl⟩
  rw [← hx] at hc h
  have i1 : (0 : Int) < (len : Int) := by omega
  have i2 : ((x : Int) != 0) = true := by simp; omega
  have c := hc _ ((Below.refl w.heap.size w).alloc (Nat.le_refl _) (.cells #[.bool false, .int .u32 0, .bool false, .int .i64 0, .int .u8 0, .int .u8 0, .int .u8 0, .int .u8 0, .int .u8 0, .int .u8 0, .int .u8 0, .int .u8 0] 27))
  rw [Nat.add_zero] at c
  clear hI hx h hc hlen hn
  go_enter Tryd.func79, Tryd.ntmps79
  go_wp2_with fail
  exact bodyPost_ret (v := .tuple #[.agg #[.bool false, .int .u32 0, .bool false, .int .i64 0, .int .u8 0, .int .u8 0, .int .u8 0, .int .u8 0, .int .u8 0, .int .u8 0, .int .u8 0, .int .u8 0], .int .i64 0, .int .i64 3]) (by simp [results, Tryd.results79, go_sem]) rfl ⟨rfl, (Below.refl _ w).alloc (Nat.le_refl _) _⟩
/-- The first two hundred of what comes, as a slice: nothing at all, or a row that holds it. -/
theorem few_two (a : Option Addr) (len cap : Nat) (z : List Int) (w : World) (h : IsRow w a len cap z) : ∃ (bs : List Nat) (a' : Option Addr) (q c' : Nat), bs.length = q ∧ q ≤ 200 ∧ (∀ u, Below w.heap.size w u → Calls Tryd.prog 21 #[.slice a len cap] u fun x w' => x = .returned (.slice a' q c') ∧ u = w') ∧ ((a' = none ∧ q = 0 ∧ c' = 0) ∨ ∃ ad, a' = some ad ∧ ∀ u, Below w.heap.size w u → ∀ (j : Nat) (v : Value), (bs.map (fun n : Nat => Value.int .u8 ((n : Nat) : Int)))[j]? = some v → u.cell? (Addr.add ad j) = some v) := by
  obtain ⟨bs, _, hI⟩ := isRow_str h
  have hlc := hI.lenCap
  by_cases hl : len = 0
  · subst hl
    have hc : a = none ∧ cap = 0 ∨ ∃ ad, a = some ad := by
      rcases h with ⟨rfl, _, rfl, _⟩ | ⟨x, rfl, _⟩
      · exact .inl ⟨rfl, rfl⟩
      · exact .inr ⟨x, rfl⟩
    refine ⟨[], a, 0, cap, rfl, by omega, fun u _ => ?_, ?_⟩
    · go_enter Tryd.func21, Tryd.ntmps21
      go_wp2
      go_ret
      exact ⟨rfl, rfl⟩
    · rcases hc with ⟨rfl, rfl⟩ | ⟨ad, rfl⟩
      · exact .inl ⟨rfl, rfl, rfl⟩
      · exact .inr ⟨ad, rfl, fun u _ j v hj => by simp at hj⟩
  · obtain ⟨bk, off, rfl, hbk, _⟩ := hI.at (k := 0) (by omega)
    have hlen := hI.len
    have hcell : ∀ u, Below w.heap.size w u → ∀ q, q ≤ len → ∀ (j : Nat) (v : Value), ((bs.take q).map (fun n : Nat => Value.int .u8 ((n : Nat) : Int)))[j]? = some v → u.cell? (Addr.add ⟨bk, off, none⟩ j) = some v := fun u hu q hq j v hj => by
      have hjq : j < (bs.take q).length := by
        by_cases hh : j < (bs.take q).length
        · exact hh
        · rw [List.getElem?_eq_none (by rw [List.length_map]; omega)] at hj; exact absurd hj (by simp)
      rw [List.length_take] at hjq
      obtain ⟨b2, o2, he, _, hc⟩ := hI.at (k := j) (by omega)
      injection he with he
      injection he with he1 he2 _
      subst he1 he2
      rw [add_off, hc u hu]
      rw [List.getElem?_map, List.getElem?_take_of_lt (by omega)] at hj
      rw [List.getElem?_eq_getElem (by omega)] at hj ⊢
      exact hj
    by_cases h200 : 200 < len
    · refine ⟨bs.take 200, some ⟨bk, off, none⟩, 200, cap, by rw [List.length_take]; omega, by omega, fun u hu => ?_, .inr ⟨_, rfl, fun u hu => hcell u hu 200 (by omega)⟩⟩
      have i1 : (200 : Int) < (len : Int) := by omega
      have i2 : (200 : Int) ≤ (cap : Int) := by omega
      clear hcell hlen hI h
      go_enter Tryd.func21, Tryd.ntmps21
      go_wp2
      go_ret
      exact ⟨rfl, rfl⟩
    · refine ⟨bs.take len, some ⟨bk, off, none⟩, len, cap, by rw [List.length_take]; omega, by omega, fun u hu => ?_, .inr ⟨_, rfl, fun u hu => hcell u hu len (by omega)⟩⟩
      have i1 : ¬ (200 : Int) < (len : Int) := by omega
      clear hcell hlen hI h
      go_enter Tryd.func21, Tryd.ntmps21
      go_wp2
      go_ret
      exact ⟨rfl, rfl⟩
end Go.Proofs.YtmfnkfiocnngeaaDoor
