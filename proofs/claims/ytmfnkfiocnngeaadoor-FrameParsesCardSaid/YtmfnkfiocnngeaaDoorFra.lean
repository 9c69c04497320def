/- The document's own answers of layer 6 in plain words (at, length, digit, hex): what they return. Conditions: strings are strings. -/
import Derived.Test.YtmfnkfiocnngeaaDoorBat
import Derived.Test.YtmfnkfiocnngeaaDoorBas
namespace Go.Proofs.YtmfnkfiocnngeaaDoor
open Go.RowKit Go.Shelf
theorem bitsOf_self {bs : List Nat} (h : ∀ x ∈ bs, x ≤ 1) : bitsOf bs = bs := by
  have e : ∀ x ∈ bs, bitN x = x := by
    intro x hx
    have := h x hx
    unfold bitN
    split <;> omega
  calc bitsOf bs = bs.map bitN := rfl
    _ = bs.map id := List.map_congr_left e
    _ = bs := List.map_id bs
theorem ref6at_any (a : Option Addr) (len cap k : Nat) (bs : List Nat) (w : World) (hI : Str w.heap.size w (.slice a len cap) bs) (hk : k < bs.length) :
    Calls Tryd.prog 66 #[.slice a len cap, .int .i64 k] w fun x w' => x = .returned (.bool (decide (bs[k]?.getD 0 ≠ 0))) ∧ Below w.heap.size w w' := by
  obtain rfl := hI.len
  have hcl := hI.lenCap
  have hcm := hI.capLe
  obtain ⟨b, off, rfl, _, hcx⟩ := hI.at hk
  have hc := hcx w (Below.refl _ _)
  have i1 : (0 : Int) ≤ (k : Int) := by omega
  have i2 : (k : Int) < (bs.length : Int) := by omega
  obtain ⟨x, hx⟩ : ∃ x, x = bs[k]?.getD 0 := ⟨_, rfl⟩
  rw [← hx] at hc ⊢
  clear hx hcx hI
  have hne : ((x : Int) != 0) = decide (x ≠ 0) := by rw [Bool.eq_iff_iff]; simp
  obtain ⟨d, hd⟩ : ∃ d, d = decide (x ≠ 0) := ⟨_, rfl⟩
  rw [← hd] at hne ⊢
  clear hd
  go_enter Tryd.func66, Tryd.ntmps66
  go_wp2_with fail
  go_ret
  exact ⟨rfl, Below.refl _ _⟩
theorem ref6length_any (a : Option Addr) (len cap : Nat) (bs : List Nat) (w : World) (hI : Str w.heap.size w (.slice a len cap) bs) (hl : bs.length = 4) :
    Calls Tryd.prog 69 #[.slice a len cap] w fun x w' => x = .returned (.int .i64 ((min 8 (numP (bitsOf bs)) : Nat) : Int)) ∧ Below w.heap.size w w' := by
  have HN := Lib.hid (refNumber_any a len cap bs w hI)
  have hbl := bitsOf_length bs
  have e : numB (bitsOf bs) = numP (bitsOf bs) := numB_numP _ (bitsOf_le bs) (by omega)
  have hlt : numP (bitsOf bs) < 16 := by have := numP_lt (bitsOf bs) (bitsOf_le bs); rw [hbl, hl] at this; exact this
  rw [e] at HN
  obtain ⟨v, hv⟩ : ∃ v, v = numP (bitsOf bs) := ⟨_, rfl⟩
  rw [← hv] at HN hlt ⊢
  have hwr : IntKind.i64.wrap (v : Int) = (v : Int) := by rw [IntKind.wrap_i64]; omega
  clear hv e hl hI hbl
  by_cases h8 : 8 < v
  · have hc : ((8 : Int) < (v : Int)) := by omega
    have hm : min 8 v = 8 := by omega
    rw [hm]
    clear hm
    go_enter Tryd.func69, Tryd.ntmps69
    go_wp2_with fail
    refine HN.out.mono ?_
    rintro x w1 ⟨rfl, rfl⟩
    go_wp2_with fail
    go_ret
    exact ⟨rfl, Below.refl _ _⟩
  · have hc : ¬ ((8 : Int) < (v : Int)) := by omega
    have hm : min 8 v = v := by omega
    rw [hm]
    clear hm
    go_enter Tryd.func69, Tryd.ntmps69
    go_wp2_with fail
    refine HN.out.mono ?_
    rintro x w1 ⟨rfl, rfl⟩
    go_wp2_with fail
    go_ret
    exact ⟨rfl, Below.refl _ _⟩
theorem hex_get (k : Nat) (hk : k < 16) (h : k < (ByteArray.mk #[48, 49, 50, 51, 52, 53, 54, 55, 56, 57, 97, 98, 99, 100, 101, 102]).size) : ((ByteArray.mk #[48, 49, 50, 51, 52, 53, 54, 55, 56, 57, 97, 98, 99, 100, 101, 102])[k]'h).toNat = hexD k := by
  have h : k = 0 ∨ k = 1 ∨ k = 2 ∨ k = 3 ∨ k = 4 ∨ k = 5 ∨ k = 6 ∨ k = 7 ∨ k = 8 ∨ k = 9 ∨ k = 10 ∨ k = 11 ∨ k = 12 ∨ k = 13 ∨ k = 14 ∨ k = 15 := by omega
  rcases h with rfl | rfl | rfl | rfl | rfl | rfl | rfl | rfl | rfl | rfl | rfl | rfl | rfl | rfl | rfl | rfl <;> rfl
theorem hex_idx (k : Nat) (hk : k < 16) (w : World) : Sem.run Tryd.prog (Instr.index 9 (.string ⟨#[48, 49, 50, 51, 52, 53, 54, 55, 56, 57, 97, 98, 99, 100, 101, 102]⟩) (.int .i64 (k : Int))) w = .ok (.int .u8 (hexD k : Int)) w := by
  have h := run_index_string (P := Tryd.prog) w 9 ⟨#[48, 49, 50, 51, 52, 53, 54, 55, 56, 57, 97, 98, 99, 100, 101, 102]⟩ .i64 (k : Int) Tryd.underlying9
  have hz : (ByteArray.mk #[48, 49, 50, 51, 52, 53, 54, 55, 56, 57, 97, 98, 99, 100, 101, 102]).size = 16 := rfl
  rw [dif_pos ⟨by omega, by rw [hz]; omega⟩] at h
  rw [h]
  have e : ((ByteArray.mk #[48, 49, 50, 51, 52, 53, 54, 55, 56, 57, 97, 98, 99, 100, 101, 102])[((k : Int)).toNat]'(by rw [hz]; omega)).toNat = hexD k := hex_get k hk _
  rw [e]
theorem ref6digit_any (c : Nat) (hc : c < 256) (w : World) :
    Calls Tryd.prog 46 #[.int .u8 (c : Int)] w fun x w' => x = .returned (.int .i64 (if unhex c = 16 then -1 else (unhex c : Int))) ∧ Below w.heap.size w w' := by
  obtain ⟨v, hv⟩ : ∃ v : Int, v = if unhex c = 16 then -1 else (unhex c : Int) := ⟨_, rfl⟩
  rw [← hv]
  have HV := Lib.hid hv
  clear hv
  go_enter Tryd.func46, Tryd.ntmps46
  go_wp2_with fail
  go_loopw [3] (fun i wr => ∃ (k : Nat), k ≤ 16 ∧ i = .int .i64 k ∧ (∀ j, j < k → hexD j ≠ c) ∧ wr = w) (fun i _ => 16 - (intOf i).toNat)
  case atStart => exact ⟨0, Nat.zero_le _, rfl, (fun j hj => by cases hj), rfl⟩
  case round =>
    obtain ⟨k, hk, rfl, hall, rfl⟩ := hrel
    have HALL := Lib.hid hall
    clear hall
    by_cases hlt : k < 16
    · have hrun := hex_idx k hlt wr
      have i1 : (0 : Int) ≤ (k : Int) := by omega
      have i2 : (k : Int) < 16 := by omega
      have hw : IntKind.i64.wrap ((k : Int) + 1) = (k : Int) + 1 := by rw [IntKind.wrap_i64]; omega
      have HU := Lib.hid (unhex_hexD k hlt)
      obtain ⟨d, hd⟩ : ∃ d, d = hexD k := ⟨_, rfl⟩
      have HD := Lib.hid hd
      rw [← hd] at hrun HU
      clear hd
      by_cases hdc : d = c
      · subst hdc
        have hb : ((d : Int) == (d : Int)) = true := by simp
        go_wp2_with fail
        go_ret
        exact ⟨by have h := HV.out; rw [HU.out, if_neg (by omega)] at h; rw [h]; rfl, Below.refl _ _⟩
      · have hb : ((d : Int) == (c : Int)) = false := by rw [beq_eq_false_iff_ne]; omega
        have HN := Lib.hid hdc
        clear hdc
        go_wp2_with fail
        refine ⟨⟨k + 1, by omega, by simp, ?_, trivial⟩, by simp [intOf]; omega⟩
        intro j hj
        by_cases e : j = k
        · rw [e, ← HD.out]
          exact HN.out
        · exact HALL.out j (by omega)
    · have HU := Lib.hid (show unhex c = 16 by
        by_cases h : unhex c = 16
        · exact h
        · obtain ⟨h1, h2⟩ := hexD_unhex c h
          exact absurd h1 (HALL.out _ (by omega)))
      have i2 : ¬ ((k : Int) < 16) := by omega
      go_wp2_with fail
      go_ret
      exact ⟨by have h := HV.out; rw [if_pos HU.out] at h; rw [h]; rfl, Below.refl _ _⟩
theorem hex_run8 (d : Nat) (hd : d < 16) (w : World) : Sem.run Tryd.prog (Instr.slice 9 (.string ⟨#[48, 49, 50, 51, 52, 53, 54, 55, 56, 57, 97, 98, 99, 100, 101, 102]⟩) (some (.int .u8 (d : Int))) (some (.int .u8 ((d : Int) + 1))) none) w = .ok (.string ⟨#[UInt8.ofNat (hexD d)]⟩) w := by
  have h := run_slice_string (P := Tryd.prog) w 9 ⟨#[48, 49, 50, 51, 52, 53, 54, 55, 56, 57, 97, 98, 99, 100, 101, 102]⟩ .u8 .u8 (d : Int) ((d : Int) + 1) Tryd.underlying9 (by omega) (by omega) (by show _ ≤ ((16 : Nat) : Int); omega)
  rw [show ((d : Int) + 1).toNat = d + 1 by omega, show ((d : Int)).toNat = d by omega, hex_at d hd] at h
  exact h
theorem ref6hex_any (c : Nat) (hc : c < 256) (w : World) :
    Calls Tryd.prog 61 #[.int .u8 (c : Int)] w fun x w' => ∃ t, x = .returned (.string t) ∧ tx t = [hexD (c / 16), hexD (c % 16)] ∧ Below w.heap.size w w' := by
  obtain ⟨p, hp⟩ : ∃ p, p = c / 16 := ⟨_, rfl⟩
  obtain ⟨q, hq⟩ : ∃ q, q = c % 16 := ⟨_, rfl⟩
  rw [← hp, ← hq]
  have hp16 : p < 16 := by omega
  have hq16 : q < 16 := by omega
  have e1 : (c : Int).tdiv 16 = (p : Int) := by rw [Int.tdiv_eq_ediv_of_nonneg (by omega)]; omega
  have e2 : (c : Int).tmod 16 = (q : Int) := by rw [Int.tmod_eq_emod_of_nonneg (by omega)]; omega
  have e3 : ((p : Int) + 1) % 256 = (p : Int) + 1 := by omega
  have e4 : ((q : Int) + 1) % 256 = (q : Int) + 1 := by omega
  have hrun := fun u => hex_run8 p hp16 u
  have hrun2 := fun u => hex_run8 q hq16 u
  clear hp hq
  go_enter Tryd.func61, Tryd.ntmps61
  go_wp2_with fail
  go_region
  all_goals
    go_wp2_with fail
    go_ret
    refine ⟨_, rfl, ?_, (Below.refl _ _).drew⟩
    rw [tx_app, tx_one p hp16, tx_one q hq16]
    rfl
end Go.Proofs.YtmfnkfiocnngeaaDoor
