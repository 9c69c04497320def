/- The code of package frame (the reader of a body: data, number, asks, long, sum, size): what it returns. Conditions: the bits go as far as is read. -/
import Derived.Test.YtmfnkfiocnngeaaDoorFca
import Derived.Deep.RegionHeld3
namespace Go.Proofs.YtmfnkfiocnngeaaDoor
open Go.RowKit Go.Shelf
/-- A reader, as a value: whether its body is of an Ext one, the places of two bits, and the bits. -/
def rdV (e : Bool) (R L : Nat) (sv : Value) : Value := .agg #[.bool e, .int .i64 (R : Int), .int .i64 (L : Int), sv]
theorem layData_any (e : Bool) (R L : Nat) (hL : L ≤ 1000) (w : World) : Calls Tryd.prog 96 #[.agg #[.bool e, .int .i64 (R : Int), .int .i64 (L : Int)]] w fun x w' => x = .returned (.int .i64 ((L + 4 : Nat) : Int)) ∧ Below w.heap.size w w' := by
  go_enter Tryd.func96, Tryd.ntmps96
  go_wp2_with fail
  go_ret
  exact ⟨rfl, (Below.refl _ w).alloc (Nat.le_refl _) _⟩
theorem rdNumber_any (e : Bool) (R L : Nat) (a : Option Addr) (len cap : Nat) (bs : List Nat) (s m : Nat) (hm : 0 < m) (hs : s + m ≤ bs.length) (hl : bs.length ≤ 1000) (w : World) (hI : Str w.heap.size w (.slice a len cap) bs) : Calls Tryd.prog 124 #[rdV e R L (.slice a len cap), .int .i64 (s : Int), .int .i64 (m : Int)] w fun x w' => x = .returned (.int .u32 ((numB (bitsOf (subL bs s m)) % 4294967296 : Nat) : Int)) ∧ Below w.heap.size w w' := by
  obtain rfl := hI.len
  have hcl := hI.lenCap
  have hcm := hI.capLe
  obtain ⟨bk, off, rfl, hbk, _⟩ := hI.at (k := 0) (by omega)
  have HN := Lib.hid (show ∀ u, Below w.heap.size w u → Calls Tryd.prog 110 #[.slice (some ⟨bk, off + s, none⟩) m (cap - s)] u fun x w' => x = .returned (.int .u64 (numB (bitsOf (subL bs s m)) : Nat)) ∧ Below u.heap.size u w' from fun u hu => by
    have h1 : Str u.heap.size u (.slice (some ⟨bk, off, none⟩) (s + m) cap) (bs.take (s + m)) := ((hI.below hu).mono hu.size).take (by omega)
    have h2 := h1.drop
    rw [List.drop_take, show s + m - s = m by omega, Option.map_some, add_off] at h2
    exact number_any _ _ _ _ (by rw [subL_length bs s m hs]; omega) u h2)
  have hlt := numB_lt (bitsOf (subL bs s m))
  obtain ⟨v, hv⟩ : ∃ v, v = numB (bitsOf (subL bs s m)) := ⟨_, rfl⟩
  rw [← hv] at HN hlt ⊢
  have hwr : IntKind.u32.wrap (v : Int) = ((v % 4294967296 : Nat) : Int) := by rw [IntKind.wrap_u32]; omega
  obtain ⟨t, ht⟩ : ∃ t, t = s + m := ⟨_, rfl⟩
  have hsm : (s : Int) + (m : Int) = (t : Int) := by omega
  have h1 : (s : Int) ≤ (t : Int) := by omega
  have h2 : (t : Int) ≤ (cap : Int) := by omega
  have h3 : t - s = m := by omega
  have h4 : (0 : Int) ≤ (s : Int) := by omega
  have hne : cap ≠ s := by omega
  clear hv hI ht
  unfold rdV
  go_enter Tryd.func124, Tryd.ntmps124
  go_wp2_with fail
  refine (HN.out _ ((Below.refl _ w).alloc (Nat.le_refl _) _)).mono ?_
  rintro x w1 ⟨rfl, hb⟩
  have HB := Lib.hid (below_trans' ((Below.refl _ w).alloc (Nat.le_refl _) _) hb)
  clear hb
  go_wp2_with fail
  go_ret
  exact ⟨rfl, HB.out⟩
theorem rdAsks_any (e : Bool) (R L : Nat) (a : Option Addr) (len cap : Nat) (bs : List Nat) (hR : R < bs.length) (w : World) (hI : Str w.heap.size w (.slice a len cap) bs) : Calls Tryd.prog 100 #[rdV e R L (.slice a len cap)] w fun x w' => x = .returned (.bool (decide (bs[R]?.getD 0 ≠ 0))) ∧ Below w.heap.size w w' := by
  obtain rfl := hI.len
  obtain ⟨bk, off, rfl, hbk, hc⟩ := hI.at hR
  obtain ⟨x, hx⟩ : ∃ x, x = bs[R]?.getD 0 := ⟨_, rfl⟩
  rw [← hx] at hc ⊢
  have h0 : (0 : Int) ≤ (R : Int) := by omega
  have h1 : (R : Int) < (bs.length : Int) := by omega
  have hz : ((x : Int) != 0) = decide (x ≠ 0) := by rw [Bool.eq_iff_iff]; simp
  have c := hc _ ((Below.refl w.heap.size w).alloc (Nat.le_refl _) (.cells #[.bool e, .int .i64 (R : Int), .int .i64 (L : Int), .slice (some ⟨bk, off, none⟩) bs.length cap] 88))
  obtain ⟨b, hb⟩ : ∃ b, b = decide (x ≠ 0) := ⟨_, rfl⟩
  rw [← hb] at hz ⊢
  clear hc hx hb hI
  unfold rdV
  go_enter Tryd.func100, Tryd.ntmps100
  go_wp2_with fail
  go_ret
  exact ⟨rfl, (Below.refl _ w).alloc (Nat.le_refl _) _⟩
theorem numB_four (bs : List Nat) (L : Nat) (h : L + 4 ≤ bs.length) : numB (bitsOf (subL bs L 4)) < 16 ∧ numB (bitsOf (subL bs L 4)) = numP (bitsOf (subL bs L 4)) := by
  have hl : (bitsOf (subL bs L 4)).length = 4 := by rw [bitsOf_length, subL_length bs L 4 h]
  have e := numB_numP _ (bitsOf_le (subL bs L 4)) (by omega)
  have hlt := numP_lt _ (bitsOf_le (subL bs L 4))
  rw [hl] at hlt
  exact ⟨by rw [e]; exact hlt, e⟩
theorem rdLong_any (e : Bool) (R L : Nat) (a : Option Addr) (len cap : Nat) (bs : List Nat) (hL : L + 4 ≤ bs.length) (hl : bs.length ≤ 1000) (w : World) (hI : Str w.heap.size w (.slice a len cap) bs) : Calls Tryd.prog 101 #[rdV e R L (.slice a len cap)] w fun x w' => x = .returned (.int .i64 ((min 8 (numP (bitsOf (subL bs L 4))) : Nat) : Int)) ∧ Below w.heap.size w w' := by
  have HN := Lib.hid (show ∀ u, Below w.heap.size w u → Calls Tryd.prog 124 #[rdV e R L (.slice a len cap), .int .i64 (L : Int), .int .i64 4] u fun x w' => x = .returned (.int .u32 ((numB (bitsOf (subL bs L 4)) % 4294967296 : Nat) : Int)) ∧ Below u.heap.size u w' from fun u hu => rdNumber_any e R L a len cap bs L 4 (by omega) hL hl u ((hI.below hu).mono hu.size))
  obtain ⟨hlt, hp⟩ := numB_four bs L hL
  rw [Nat.mod_eq_of_lt (by omega), hp] at HN
  rw [hp] at hlt
  obtain ⟨v, hv⟩ : ∃ v, v = numP (bitsOf (subL bs L 4)) := ⟨_, rfl⟩
  rw [← hv] at HN hlt ⊢
  have hwr : IntKind.i64.wrap (v : Int) = (v : Int) := by rw [IntKind.wrap_i64]; omega
  clear hv hp hI hL hl
  unfold rdV at HN ⊢
  go_enter Tryd.func101, Tryd.ntmps101
  go_wp2_with fail
  refine (HN.out _ ((Below.refl _ w).alloc (Nat.le_refl _) _)).mono ?_
  rintro x w1 ⟨rfl, hb⟩
  have HB := Lib.hid (below_trans' ((Below.refl _ w).alloc (Nat.le_refl _) _) hb)
  clear hb
  go_wp2_with fail
  all_goals (go_ret; exact ⟨ret_i64 (by omega), HB.out⟩)
/-- How many bits a body has ahead of its sum. -/
def sumN (bs : List Nat) (R L : Nat) : Nat := L + 4 + 8 * (if bs[R]?.getD 0 ≠ 0 then 0 else min 8 (numP (bitsOf (subL bs L 4))))
set_option maxHeartbeats 2000000 in
theorem rdSum_any (e : Bool) (R L : Nat) (a : Option Addr) (len cap : Nat) (bs : List Nat) (hR : R < bs.length) (hL : L + 4 ≤ bs.length) (hl : bs.length ≤ 1000) (w : World) (hI : Str w.heap.size w (.slice a len cap) bs) : Calls Tryd.prog 97 #[rdV e R L (.slice a len cap)] w fun x w' => x = .returned (.int .i64 ((sumN bs R L : Nat) : Int)) ∧ Below w.heap.size w w' := by
  obtain ⟨b, hb⟩ : ∃ b, b = decide (bs[R]?.getD 0 ≠ 0) := ⟨_, rfl⟩
  obtain ⟨v, hv⟩ : ∃ v, v = min 8 (numP (bitsOf (subL bs L 4))) := ⟨_, rfl⟩
  have hv8 : v ≤ 8 := by omega
  obtain ⟨k, hk⟩ : ∃ k, k = if b then 0 else v := ⟨_, rfl⟩
  have hk8 : k ≤ 8 := by rw [hk]; split <;> omega
  obtain ⟨wr, hwr⟩ : ∃ wr, wr = w.alloc (.cells #[.bool e, .int .i64 (R : Int), .int .i64 (L : Int), .slice a len cap] 88) := ⟨_, rfl⟩
  have HB := Lib.hid (show Below w.heap.size w wr by rw [hwr]; exact (Below.refl _ w).alloc (Nat.le_refl _) _)
  have c0 : wr.cell? ⟨w.heap.size, 0, none⟩ = some (.bool e) := by rw [hwr]; simp
  have c1 : wr.cell? ⟨w.heap.size, 1, none⟩ = some (.int .i64 (R : Int)) := by rw [hwr]; simp
  have c2 : wr.cell? ⟨w.heap.size, 2, none⟩ = some (.int .i64 (L : Int)) := by rw [hwr]; simp
  have c3 : wr.cell? ⟨w.heap.size, 3, none⟩ = some (.slice a len cap) := by rw [hwr]; simp
  have hsz : w.heap.size < wr.heap.size := by rw [hwr]; simp
  have HS := Lib.hid (show ∀ u, Below wr.heap.size wr u → Below wr.heap.size wr u ∧ u.cell? ⟨w.heap.size, 0, none⟩ = some (.bool e) ∧ u.cell? ⟨w.heap.size, 1, none⟩ = some (.int .i64 (R : Int)) ∧ u.cell? ⟨w.heap.size, 2, none⟩ = some (.int .i64 (L : Int)) ∧ u.cell? ⟨w.heap.size, 3, none⟩ = some (.slice a len cap) from fun u hu => ⟨hu, ((bcell2 hu).1 _ _ hsz).trans c0, ((bcell2 hu).1 _ _ hsz).trans c1, ((bcell2 hu).1 _ _ hsz).trans c2, ((bcell2 hu).1 _ _ hsz).trans c3⟩)
  have hstr : ∀ u, Below wr.heap.size wr u → Str u.heap.size u (.slice a len cap) bs := fun u hu => by
    have h := HB.out.trans (hu.mono HB.out.size)
    exact (hI.below h).mono h.size
  have HD := Lib.hid (show ∀ u, (Below wr.heap.size wr u ∧ u.cell? ⟨w.heap.size, 0, none⟩ = some (.bool e) ∧ u.cell? ⟨w.heap.size, 1, none⟩ = some (.int .i64 (R : Int)) ∧ u.cell? ⟨w.heap.size, 2, none⟩ = some (.int .i64 (L : Int)) ∧ u.cell? ⟨w.heap.size, 3, none⟩ = some (.slice a len cap)) → Calls Tryd.prog 96 #[.agg #[.bool e, .int .i64 (R : Int), .int .i64 (L : Int)]] u fun x w' => x = .returned (.int .i64 ((L + 4 : Nat) : Int)) ∧ Below wr.heap.size wr w' ∧ w'.cell? ⟨w.heap.size, 0, none⟩ = some (.bool e) ∧ w'.cell? ⟨w.heap.size, 1, none⟩ = some (.int .i64 (R : Int)) ∧ w'.cell? ⟨w.heap.size, 2, none⟩ = some (.int .i64 (L : Int)) ∧ w'.cell? ⟨w.heap.size, 3, none⟩ = some (.slice a len cap) from fun u hu => (layData_any e R L (by omega) u).mono fun _ _ h => ⟨h.1, HS.out _ (below_trans' hu.1 h.2)⟩)
  have HA := Lib.hid (show ∀ u, (Below wr.heap.size wr u ∧ u.cell? ⟨w.heap.size, 0, none⟩ = some (.bool e) ∧ u.cell? ⟨w.heap.size, 1, none⟩ = some (.int .i64 (R : Int)) ∧ u.cell? ⟨w.heap.size, 2, none⟩ = some (.int .i64 (L : Int)) ∧ u.cell? ⟨w.heap.size, 3, none⟩ = some (.slice a len cap)) → Calls Tryd.prog 100 #[.agg #[.bool e, .int .i64 (R : Int), .int .i64 (L : Int), .slice a len cap]] u fun x w' => x = .returned (.bool b) ∧ Below wr.heap.size wr w' ∧ w'.cell? ⟨w.heap.size, 0, none⟩ = some (.bool e) ∧ w'.cell? ⟨w.heap.size, 1, none⟩ = some (.int .i64 (R : Int)) ∧ w'.cell? ⟨w.heap.size, 2, none⟩ = some (.int .i64 (L : Int)) ∧ w'.cell? ⟨w.heap.size, 3, none⟩ = some (.slice a len cap) from fun u hu => (rdAsks_any e R L a len cap bs hR u (hstr u hu.1)).mono fun _ _ h => ⟨h.1.trans (by rw [hb]), HS.out _ (below_trans' hu.1 h.2)⟩)
  have HL := Lib.hid (show ∀ u, (Below wr.heap.size wr u ∧ u.cell? ⟨w.heap.size, 0, none⟩ = some (.bool e) ∧ u.cell? ⟨w.heap.size, 1, none⟩ = some (.int .i64 (R : Int)) ∧ u.cell? ⟨w.heap.size, 2, none⟩ = some (.int .i64 (L : Int)) ∧ u.cell? ⟨w.heap.size, 3, none⟩ = some (.slice a len cap)) → Calls Tryd.prog 101 #[.agg #[.bool e, .int .i64 (R : Int), .int .i64 (L : Int), .slice a len cap]] u fun x w' => x = .returned (.int .i64 (v : Int)) ∧ Below wr.heap.size wr w' ∧ w'.cell? ⟨w.heap.size, 0, none⟩ = some (.bool e) ∧ w'.cell? ⟨w.heap.size, 1, none⟩ = some (.int .i64 (R : Int)) ∧ w'.cell? ⟨w.heap.size, 2, none⟩ = some (.int .i64 (L : Int)) ∧ w'.cell? ⟨w.heap.size, 3, none⟩ = some (.slice a len cap) from fun u hu => (rdLong_any e R L a len cap bs hL hl u (hstr u hu.1)).mono fun _ _ h => ⟨h.1.trans (by rw [hv]), HS.out _ (below_trans' hu.1 h.2)⟩)
  have HH := Lib.hid (show ∀ u, (Below wr.heap.size wr u ∧ u.cell? ⟨w.heap.size, 0, none⟩ = some (.bool e) ∧ u.cell? ⟨w.heap.size, 1, none⟩ = some (.int .i64 (R : Int)) ∧ u.cell? ⟨w.heap.size, 2, none⟩ = some (.int .i64 (L : Int)) ∧ u.cell? ⟨w.heap.size, 3, none⟩ = some (.slice a len cap)) → Calls Tryd.prog 48 #[.bool b, .int .i64 (v : Int)] u fun x w' => x = .returned (.int .i64 (k : Int)) ∧ Below wr.heap.size wr w' ∧ w'.cell? ⟨w.heap.size, 0, none⟩ = some (.bool e) ∧ w'.cell? ⟨w.heap.size, 1, none⟩ = some (.int .i64 (R : Int)) ∧ w'.cell? ⟨w.heap.size, 2, none⟩ = some (.int .i64 (L : Int)) ∧ w'.cell? ⟨w.heap.size, 3, none⟩ = some (.slice a len cap) from fun u hu => (held_any b (v : Int) u).mono fun _ _ h => ⟨h.1.trans (by rw [hk]; cases b <;> rfl), by rw [← h.2]; exact hu⟩)
  have HR := Lib.hid (show sumN bs R L = L + 4 + 8 * k by
    unfold sumN
    rw [hk, hb, hv]
    by_cases hx : bs[R]?.getD 0 = 0
    · simp [hx]
    · simp [hx])
  rw [HR.out]
  have k0 := HS.out _ (Below.refl wr.heap.size wr).drew
  obtain ⟨q, hq⟩ : ∃ q, q = 8 * k := ⟨_, rfl⟩
  obtain ⟨d, hd⟩ : ∃ d, d = L + 4 := ⟨_, rfl⟩
  obtain ⟨z, hz⟩ : ∃ z, z = d + q := ⟨_, rfl⟩
  have e1 : (8 : Int) * (k : Int) = (q : Int) := by omega
  have e2 : IntKind.i64.wrap (q : Int) = (q : Int) := by rw [IntKind.wrap_i64]; omega
  have e3 : (d : Int) + (q : Int) = (z : Int) := by omega
  have e4 : IntKind.i64.wrap (z : Int) = (z : Int) := by rw [IntKind.wrap_i64]; omega
  rw [← hd] at HD ⊢
  rw [← hq, ← hz]
  clear hb hv hk c0 c1 c2 c3 hsz hstr hI hR hL hl hq hd hz
  unfold rdV
  go_enter Tryd.func97, Tryd.ntmps97
  go_wp2_with fail
  rw [← hwr]
  clear hwr
  go_region_held3 (fun w' => Below wr.heap.size wr w' ∧ w'.cell? ⟨w.heap.size, 0, none⟩ = some (.bool e) ∧ w'.cell? ⟨w.heap.size, 1, none⟩ = some (.int .i64 (R : Int)) ∧ w'.cell? ⟨w.heap.size, 2, none⟩ = some (.int .i64 (L : Int)) ∧ w'.cell? ⟨w.heap.size, 3, none⟩ = some (.slice a len cap)) (assumption) (first | (go_at_call 96; refine (HD.out _ (by assumption)).mono ?_; rintro x w1 ⟨rfl, h1⟩) | (go_at_call 100; refine (HA.out _ (by assumption)).mono ?_; rintro x w2 ⟨rfl, h2⟩) | (go_at_call 101; refine (HL.out _ (by assumption)).mono ?_; rintro x w3 ⟨rfl, h3⟩) | (go_at_call 48; refine (HH.out _ (by assumption)).mono ?_; rintro x w4 ⟨rfl, h4⟩))
  have HE := Lib.hid (HB.out.trans (h4.1.mono HB.out.size))
  clear h1 h2 h3 h4 k0
  go_wp2_with fail
  go_ret
  exact ⟨rfl, HE.out⟩
theorem rdSize_any (e : Bool) (R L : Nat) (a : Option Addr) (len cap : Nat) (bs : List Nat) (hR : R < bs.length) (hL : L + 4 ≤ bs.length) (hl : bs.length ≤ 1000) (w : World) (hI : Str w.heap.size w (.slice a len cap) bs) : Calls Tryd.prog 63 #[rdV e R L (.slice a len cap)] w fun x w' => x = .returned (.int .i64 ((sumN bs R L + 15 : Nat) : Int)) ∧ Below w.heap.size w w' := by
  have HN := Lib.hid (show ∀ u, Below w.heap.size w u → Calls Tryd.prog 97 #[rdV e R L (.slice a len cap)] u fun x w' => x = .returned (.int .i64 ((sumN bs R L : Nat) : Int)) ∧ Below u.heap.size u w' from fun u hu => rdSum_any e R L a len cap bs hR hL hl u ((hI.below hu).mono hu.size))
  have hsm : sumN bs R L ≤ 1100 := by
    have : (if bs[R]?.getD 0 ≠ 0 then 0 else min 8 (numP (bitsOf (subL bs L 4)))) ≤ 8 := by split <;> omega
    unfold sumN
    omega
  obtain ⟨v, hv⟩ : ∃ v, v = sumN bs R L := ⟨_, rfl⟩
  rw [← hv] at HN hsm ⊢
  clear hv hI hR hL hl
  unfold rdV at HN ⊢
  go_enter Tryd.func63, Tryd.ntmps63
  go_wp2_with fail
  refine (HN.out _ ((Below.refl _ w).alloc (Nat.le_refl _) _)).mono ?_
  rintro x w1 ⟨rfl, hb⟩
  have HB := Lib.hid (below_trans' ((Below.refl _ w).alloc (Nat.le_refl _) _) hb)
  clear hb
  go_wp2_with fail
  go_ret
  exact ⟨rfl, HB.out⟩
end Go.Proofs.YtmfnkfiocnngeaaDoor
