/- What must be whatever is asked, of package stuff (live); and so many bits as are gone through (Few). Conditions: a string is a string. -/
import Derived.Test.YtdnonahpoklbfaaSfd
namespace Go.Proofs.Ytdnonahpoklbfaa
open Go.RowKit Go.Shelf
theorem few3_any (a : Option Addr) (len cap : Nat) (bs : List Nat) (w : World) (hI : Str w.heap.size w (.slice a len cap) bs) :
    Calls Try.prog 17 #[.slice a len cap] w fun e w' => (∃ a' len' cap', e = .returned (.slice a' len' cap') ∧ Str w.heap.size w (.slice a' len' cap') (bs.take 200)) ∧ w = w' := by
  have hl := hI.len
  have hc := hI.lenCap
  have hcm := hI.capLe
  by_cases h : 200 < len
  · have ht := hI.take (k := 200) (by omega)
    have HT := Lib.hid ht
    clear ht hI
    rw [← hl] at hc
    clear hl
    go_enter Try.func17, Try.ntmps17
    go_wp2
    go_ret
    exact ⟨⟨_, _, _, rfl, HT.out⟩, rfl⟩
  · have ht : bs.take 200 = bs := List.take_of_length_le (by omega)
    have HI := Lib.hid hI
    clear hI hl hc
    go_enter Try.func17, Try.ntmps17
    go_wp2
    go_ret
    exact ⟨⟨_, _, _, rfl, by rw [ht]; exact HI.out⟩, rfl⟩
theorem sStep_le (l : List Nat) (hb : ∀ x ∈ l, x ≤ 1) : ∀ y ∈ stuffB l, y ≤ 1 := by
  obtain ⟨k, hk⟩ : ∃ k, l.length = k := ⟨_, rfl⟩
  induction k generalizing l with
  | zero =>
    obtain rfl := List.length_eq_zero_iff.1 hk
    intro y hy
    cases hy
  | succ k ih =>
    rcases List.eq_nil_or_concat l with rfl | ⟨l', b, rfl⟩
    · cases hk
    · rw [List.concat_eq_append] at hk hb ⊢
      have hb1 : b ≤ 1 := hb b (by simp)
      have h' := ih l' (fun x hx => hb x (by simp [hx])) (by simpa using hk)
      intro y hy
      unfold stuffB at hy h'
      rw [sFold_snoc] at hy
      unfold sStep at hy
      split at hy
      · rcases List.mem_append.1 hy with hy | hy
        · rcases List.mem_append.1 hy with hy | hy
          · exact h' y hy
          · obtain rfl : y = b := by simpa using hy
            exact hb1
        · obtain rfl : y = 1 - b := by simpa using hy
          omega
      · rcases List.mem_append.1 hy with hy | hy
        · exact h' y hy
        · obtain rfl : y = b := by simpa using hy
          exact hb1
theorem bits_self (l : List Nat) (hb : ∀ x ∈ l, x ≤ 1) : bitsOf l = l := by
  unfold bitsOf
  conv => rhs; rw [← List.map_id l]
  exact List.map_congr_left (fun x hx => bitN_self (hb x hx))
theorem un_all {bs : List Nat} {k : Nat} (hk : k ≤ bs.length) (h : uFold (bitsTo bs k) = none) : uFold (bitsOf bs) = none := by
  have e : bitsOf bs = bitsTo bs k ++ (bitsOf bs).drop k := by
    have : bitsTo bs k = (bitsOf bs).take k := by
      apply List.ext_getElem
      · rw [bitsTo_length, List.length_take, bitsOf_length]; omega
      · intro i h1 h2
        rw [bitsTo_length] at h1
        have := bitsOf_get bs i (by omega)
        simp [bitsOf, show i < bs.length by omega] at this
        simp [bitsTo, bitsOf, this]
    rw [this, List.take_append_drop]
  rw [e]
  exact uFold_none _ _ h
theorem un_more {bs : List Nat} {k : Nat} (h : uFold (bitsTo bs k) = none) (d : Nat) : uFold (bitsTo bs (k + d)) = none := by
  induction d with
  | zero => exact h
  | succ d ih => rw [← Nat.add_assoc, bitsTo_succ, uFold_snoc, ih]; rfl
theorem un_uniq {bs : List Nat} {k j : Nat} {s s' : (Nat × Nat) × List Nat} (h1 : uFold (bitsTo bs k) = some s) (h2 : uFold (bitsTo bs (k + 1)) = none) (h3 : uFold (bitsTo bs j) = some s') (h4 : uFold (bitsTo bs (j + 1)) = none) : k = j := by
  rcases Nat.lt_trichotomy k j with h | h | h
  · have := un_more h2 (j - (k + 1))
    rw [show k + 1 + (j - (k + 1)) = j by omega, h3] at this
    cases this
  · exact h
  · have := un_more h4 (k - (j + 1))
    rw [show j + 1 + (k - (j + 1)) = k by omega, h1] at this
    cases this
theorem un_zero : ∀ k, k < 6 → uFold (bitsTo [0, 0, 0, 0, 0, 0] (k + 1)) = none → k = 5 := by decide
set_option maxHeartbeats 1000000 in
theorem live4 (w : World) : Calls Try.prog 14 #[] w fun e w' => e = .returned (.bool true) ∧ Below w.heap.size w w' := by
  go_enter Try.func14, Try.ntmps14
  go_wp2_with (fail)
  refine (unstuff_any _ 6 6 [0, 0, 0, 0, 0, 0] (by decide) _ (str_lit w [0, 0, 0, 0, 0, 0] _ _ (by decide) rfl)).mono ?_
  rintro e w1 ⟨hb, h⟩
  have he : e = .returned (.tuple #[.slice none 0 0, .int .i64 5, .int .i64 4]) := by
    rcases h with ⟨r, out, v, h, _⟩ | ⟨k, s, hk, _, hn, he⟩
    · cases h
    · obtain rfl := un_zero k hk hn
      exact he
  subst he
  have Z1 := Lib.hid ((str_lit w [0, 0, 0, 0, 0, 0] _ 5 (by decide) rfl).on hb)
  have B1 := Lib.hid (below_trans' ((Below.refl _ w).alloc (Nat.le_refl _) _) hb)
  clear h hb
  go_wp2_with (fail)
  refine (stuff_any _ 5 6 [0, 0, 0, 0, 0] (by decide) _ (Z1.out.take (k := 5) (by decide))).mono ?_
  rintro e w2 ⟨v, rfl, hown, hb⟩
  have e2 : stuffB (bitsOf [0, 0, 0, 0, 0]) = [0, 0, 0, 0, 0, 1] := by decide
  rw [e2] at hown
  obtain ⟨g, cg, rfl, hcells⟩ := hown.cells (by decide)
  have hc5 : w2.cell? ⟨g, 5, none⟩ = some (.int .u8 1) := hcells 5 _ rfl
  have B2 := Lib.hid (below_trans' B1.out hb)
  have S2 := Lib.hid hown.str
  have HC5 := Lib.hid hc5
  have hgl : g < w2.heap.size := (hown.own.lt g rfl).2
  clear hb hown hcells hc5 B1 Z1
  go_wp2_with (fail)
  refine (unstuff_any _ 6 _ [0, 0, 0, 0, 0, 1] (by decide) _ S2.out).mono ?_
  rintro e w3 ⟨hb, h⟩
  have he : ∃ v, e = .returned (.tuple #[v, .int .i64 6, .int .i64 0]) ∧ Ow w2.heap.size w3 v [0, 0, 0, 0, 0] := by
    rcases h with ⟨r, out, v, h, he, ho⟩ | ⟨k, s, hk, hs, hn, _⟩
    · have e3 : uFold (bitsOf [0, 0, 0, 0, 0, 1]) = some ((1, 1), [0, 0, 0, 0, 0]) := by decide
      rw [e3] at h
      cases h
      exact ⟨v, he, ho⟩
    · exfalso
      have : ∀ k, k < 6 → uFold (bitsTo [0, 0, 0, 0, 0, 1] (k + 1)) ≠ none := by decide
      exact this k hk hn
  obtain ⟨v, rfl, ho⟩ := he
  obtain ⟨av, cv, rfl⟩ := ho.shape
  have B3 := Lib.hid (below_trans' B2.out hb)
  have hc53 : w3.cell? ⟨g, 5, none⟩ = some (.int .u8 1) := (hb.cell (p := ⟨g, 5, none⟩) hgl).trans HC5.out
  have HC53 := Lib.hid hc53
  have hgl3 : g < w3.heap.size := Nat.lt_of_lt_of_le hgl hb.size
  clear h hb ho B2 S2 HC5 hc53
  have HD := Lib.hid (fun u => due_any 0 5 u)
  unfold runW at HD
  go_wp2_with (fail)
  refine (HD.out _).mono ?_
  rintro e w4 ⟨he, hb⟩
  have he' : e = .returned (.tuple #[.int .u8 1, .bool true]) := he
  subst he'
  have B4 := Lib.hid (below_trans' B3.out hb)
  have HC54 := Lib.hid ((hb.cell (p := ⟨g, 5, none⟩) hgl3).trans HC53.out)
  have hgl4 : g < w4.heap.size := Nat.lt_of_lt_of_le hgl3 hb.size
  clear he hb B3 HC53 HD
  have HN := Lib.hid (fun u => next_any 0 5 1 u)
  unfold runW at HN
  go_wp2_with (fail)
  refine (HN.out _).mono ?_
  rintro e w5 ⟨he, hb⟩
  have he' : e = .returned (.tuple #[.agg #[.int .u8 1, .int .i64 1], .int .i64 1]) := he
  subst he'
  have hgl5 : g < w5.heap.size := Nat.lt_of_lt_of_le hgl4 hb.size
  have B5 := Lib.hid ((below_trans' B4.out hb).alloc (below_trans' B4.out hb).size (.cells #[.int .u8 1, .int .i64 1] 23))
  have hcl : (w5.alloc (.cells #[.int .u8 1, .int .i64 1] 23)).cell? ⟨g, 5, none⟩ = some (.int .u8 1) := (((Below.refl _ w5).alloc (Nat.le_refl _) _).cell (p := ⟨g, 5, none⟩) hgl5).trans ((hb.cell (p := ⟨g, 5, none⟩) hgl4).trans HC54.out)
  clear he hb B4 HC54 HN
  have HM := Lib.hid (show ∀ u, Calls Try.prog 15 #[.int .i64 5] u fun e w' => e = .returned (.int .i64 6) ∧ u = w' from fun u => most_any 5 u)
  go_wp2_with (fail)
  refine (HM.out _).mono ?_
  rintro e w6 ⟨rfl, rfl⟩
  go_wp2_with (fail)
  go_ret
  exact ⟨rfl, B5.out⟩
end Go.Proofs.Ytdnonahpoklbfaa
