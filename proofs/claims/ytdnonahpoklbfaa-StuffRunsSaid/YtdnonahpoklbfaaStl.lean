/- What the fixed calls of package strand that every statement of its layer asks come to: true. No conditions. -/
import Derived.Test.YtdnonahpoklbfaaStd
import Derived.Test.YtdnonahpoklbfaaSte
import Derived.Test.YtdnonahpoklbfaaStf
import Derived.Test.YtdnonahpoklbfaaStg
import Derived.Test.YtdnonahpoklbfaaSti
namespace Go.Proofs.Ytdnonahpoklbfaa
open Go.RowKit
theorem below_trans' {w w1 w2 : World} (h1 : Below w.heap.size w w1) (h2 : Below w1.heap.size w1 w2) : Below w.heap.size w w2 := h1.trans (h2.mono h1.size)
theorem Str.on {w1 w2 : World} {v : Value} {bs : List Nat} (h : Str w1.heap.size w1 v bs) (h2 : Below w1.heap.size w1 w2) : Str w2.heap.size w2 v bs := (h.below h2).mono h2.size
theorem Strs.on {w1 w2 : World} {v : Value} {L : List (Value × List Nat)} (h : Strs w1.heap.size w1 v L) (h2 : Below w1.heap.size w1 w2) : Strs w2.heap.size w2 v L := (h.below h2).mono h2.size
theorem str_lit (W : World) (bs : List Nat) (c : Array Value) (T : TypeId) (hl : bs.length ≤ 281474976710656) (hc : c = (bs.map (fun n : Nat => Value.int .u8 ((n : Nat) : Int))).toArray) :
    Str (W.alloc (.cells c T)).heap.size (W.alloc (.cells c T)) (.slice (some ⟨W.heap.size, 0, none⟩) bs.length bs.length) bs := by
  subst hc
  refine .inr ⟨W.heap.size, 0, bs.length, rfl, Nat.le_refl _, by omega, by simp, fun j hj => ?_⟩
  simp [hj]
theorem str_nil (n₀ : Nat) (W : World) : Str n₀ W (.slice none 0 0) [] := .inl ⟨none, 0, rfl, by omega, rfl⟩
theorem strs_lit (W : World) (L : List (Value × List Nat)) (c : Array Value) (T : TypeId) (hl : L.length ≤ 281474976710656) (hc : c = (L.map (·.1)).toArray) (hs : ∀ p ∈ L, Str W.heap.size W p.1 p.2 ∧ ∃ a cap, p.1 = .slice a p.2.length cap) :
    Strs (W.alloc (.cells c T)).heap.size (W.alloc (.cells c T)) (.slice (some ⟨W.heap.size, 0, none⟩) L.length L.length) L := by
  subst hc
  refine .inr ⟨W.heap.size, 0, L.length, rfl, Nat.le_refl _, by omega, by simp, fun j p hp => ?_, fun p hp => ⟨(hs p hp).1.on ((Below.refl _ W).alloc (Nat.le_refl _) _), (hs p hp).2⟩⟩
  simp [hp]
set_option maxHeartbeats 1000000 in
theorem live_st (w : World) : Calls Try.prog 26 #[] w fun e w' => e = .returned (.bool true) ∧ Below w.heap.size w w' := by
  have e54 : ofB 5 4 = [0, 1, 0, 1] := by decide
  have CO := of_yes 5 4 (by omega) (by omega) (by omega) w
  rw [e54] at CO
  have HCO := Lib.hid CO; clear CO e54
  go_enter Try.func26, Try.ntmps26
  go_wp2_with (fail)
  refine HCO.out.mono ?_
  rintro e w1 ⟨v, rfl, hm, hb1⟩
  have S1 := Lib.hid hm.str
  obtain ⟨b, rfl, hbB, _, hrow⟩ := hm
  have B1 := Lib.hid hb1
  clear hb1 hrow
  clear hbB
  -- is it 0101?
  go_wp2_with (fail)
  refine (bytes_any _ 4 4 [0, 1, 0, 1] _ 4 4 [0, 1, 0, 1] _ (S1.out.on ((Below.refl _ w1).alloc (Nat.le_refl _) _)) (str_lit w1 [0, 1, 0, 1] _ _ (by decide) rfl)).mono ?_
  rintro e w2 ⟨he, hb⟩
  have he' : e = .returned (.bool true) := he
  subst he'
  have B2 := Lib.hid (below_trans' (B1.out.alloc B1.out.size _) hb)
  have S2 := Lib.hid ((S1.out.on ((Below.refl _ w1).alloc (Nat.le_refl _) _)).on hb)
  clear he hb B1 S1
  -- its number
  go_wp2_with (fail)
  refine (number_any _ 4 4 [0, 1, 0, 1] (by decide) _ S2.out).mono ?_
  rintro e w3 ⟨he, hb⟩
  have he' : e = .returned (.int .u64 5) := he
  subst he'
  have B3 := Lib.hid (below_trans' B2.out hb)
  have S3 := Lib.hid (S2.out.on hb)
  clear he hb B2 S2
  -- a run
  go_wp2_with (fail)
  refine (run_any _ 3 3 [1, 1, 0] (by decide) _ (str_lit w3 [1, 1, 0] _ _ (by decide) rfl)).mono ?_
  rintro e w4 ⟨he, hb⟩
  have he' : e = .returned (.int .i64 2) := he
  subst he'
  have B4 := Lib.hid (below_trans' (B3.out.alloc B3.out.size _) hb)
  have S4 := Lib.hid ((S3.out.on ((Below.refl _ w3).alloc (Nat.le_refl _) _)).on hb)
  clear he hb B3 S3
  -- clean
  go_wp2_with (fail)
  refine (clean_any _ 4 4 [0, 9, 0, 7] (by decide) _ (str_lit w4 [0, 9, 0, 7] _ _ (by decide) rfl)).mono ?_
  rintro e w5 ⟨v, rfl, hm, hb⟩
  have B5 := Lib.hid (below_trans' (B4.out.alloc B4.out.size _) hb)
  have S5 := Lib.hid ((S4.out.on ((Below.refl _ w4).alloc (Nat.le_refl _) _)).on hb)
  have T5 := Lib.hid hm.str
  obtain ⟨c, rfl, _, _, _⟩ := hm
  clear hb B4 S4
  go_wp2_with (fail)
  refine (same_any _ 4 4 [0, 1, 0, 1] _ 4 4 [0, 1, 0, 1] (by decide) _ S5.out T5.out).mono ?_
  rintro e w6 ⟨he, hb⟩
  have he' : e = .returned (.bool true) := he
  subst he'
  have B6 := Lib.hid (below_trans' B5.out hb)
  have S6 := Lib.hid (S5.out.on hb)
  clear he hb B5 S5 T5
  -- not the same as none
  go_wp2_with (fail)
  refine (same_any _ 4 4 [0, 1, 0, 1] _ 0 0 [] (by decide) _ S6.out (str_nil _ _)).mono ?_
  rintro e w7 ⟨he, hb⟩
  have he' : e = .returned (.bool false) := he
  subst he'
  have B7 := Lib.hid (below_trans' B6.out hb)
  have S7 := Lib.hid (S6.out.on hb)
  clear he hb B6 S6
  -- packed
  go_wp2_with (fail)
  refine (pack_any _ 4 4 [0, 1, 0, 1] (by decide) _ S7.out).mono ?_
  rintro e w8 ⟨v, rfl, hm, hb⟩
  have B8 := Lib.hid (below_trans' B7.out hb)
  have S8 := Lib.hid (S7.out.on hb)
  obtain ⟨c2, hv, _, _, _⟩ := hm
  have hv' : v = .slice (some ⟨c2, 0, none⟩) 1 1 := hv
  subst hv'
  clear hb hv B7 S7
  -- unpacked
  go_wp2_with (fail)
  refine (unpack_yes _ 1 1 [80] 4 (by omega) (by omega) (fun j => by cases j <;> simp) _ (str_lit w8 [80] _ _ (by decide) rfl)).mono ?_
  rintro e w9 ⟨v, rfl, hm, hb⟩
  have B9 := Lib.hid (below_trans' (B8.out.alloc B8.out.size _) hb)
  have S9 := Lib.hid ((S8.out.on ((Below.refl _ w8).alloc (Nat.le_refl _) _)).on hb)
  obtain ⟨c3, hv, _, _, _⟩ := hm
  have hv' : v = .slice (some ⟨c3, 0, none⟩) 4 4 := hv
  subst hv'
  clear hb hv B8 S8
  -- with none on one wire
  go_wp2_with (fail)
  obtain ⟨vb, hvb⟩ : ∃ vb, vb = Value.slice (some ⟨b, 0, none⟩) 4 4 := ⟨_, rfl⟩
  have hL : ∀ p ∈ [(vb, [0, 1, 0, 1]), (Value.slice none 0 0, ([] : List Nat))], p.2.length ≤ 281474976710656 ∧ Str w9.heap.size w9 p.1 p.2 ∧ ∃ a cap, p.1 = .slice a p.2.length cap := by
    intro p hp
    rcases List.mem_cons.1 hp with rfl | hp
    · exact ⟨by show 4 ≤ _; omega, by rw [hvb]; exact S9.out, some ⟨b, 0, none⟩, 4, hvb⟩
    · rcases List.mem_cons.1 hp with rfl | hp
      · exact ⟨Nat.zero_le _, str_nil _ _, none, 0, rfl⟩
      · cases hp
  have HS := strs_lit w9 [(vb, [0, 1, 0, 1]), (Value.slice none 0 0, ([] : List Nat))] #[vb, .slice none 0 0] 36 (by show 2 ≤ _; omega) rfl (fun p hp => (hL p hp).2)
  have hA := and_any _ 2 2 [(vb, [0, 1, 0, 1]), (Value.slice none 0 0, ([] : List Nat))] (fun p hp => (hL p hp).1) _ HS
  rw [hvb] at hA
  refine hA.mono ?_
  clear hA HS hL hvb
  rintro e w10 ⟨v, rfl, hm, hb⟩
  have B10 := Lib.hid (below_trans' (B9.out.alloc B9.out.size _) hb)
  have S10 := Lib.hid ((S9.out.on ((Below.refl _ w9).alloc (Nat.le_refl _) _)).on hb)
  obtain ⟨c4, hv, _, _, _⟩ := hm
  have hv' : v = .slice (some ⟨c4, 0, none⟩) 0 0 := hv
  subst hv'
  clear hb hv B9 S9
  -- flipped
  go_wp2_with (fail)
  refine (flip_any _ 4 4 [0, 1, 0, 1] 0 (by decide) _ S10.out).mono ?_
  rintro e w11 ⟨v, rfl, hm, hb⟩
  have B11 := Lib.hid (below_trans' B10.out hb)
  obtain ⟨c5, hv, _, _, hrow⟩ := hm
  have hv' : v = .slice (some ⟨c5, 0, none⟩) 4 4 := hv
  have hc0 : w11.cell? ⟨c5, 0, none⟩ = some (.int .u8 1) := hrow.cell (i := 0) (by decide)
  subst hv'
  clear hb hv B10 S10 hrow
  go_wp2_with (fail)
  go_ret
  exact ⟨rfl, B11.out⟩
end Go.Proofs.Ytdnonahpoklbfaa
