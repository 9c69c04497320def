/- The code of package frame: the identifier of a body. Conditions: not more than a thousand bits, and as many as Len wants. -/
import Derived.Test.YtmfnkfiocnngeaaDoorFce
namespace Go.Proofs.YtmfnkfiocnngeaaDoor
open Go.RowKit Go.Shelf
theorem numB_small (bs : List Nat) (L m : Nat) (h : L + m ≤ bs.length) (hm : m ≤ 31) : numB (bitsOf (subL bs L m)) < 2 ^ m ∧ numB (bitsOf (subL bs L m)) = numP (bitsOf (subL bs L m)) := by
  have hl : (bitsOf (subL bs L m)).length = m := by rw [bitsOf_length, subL_length bs L m h]
  have e := numB_numP _ (bitsOf_le (subL bs L m)) (by omega)
  have hlt := numP_lt _ (bitsOf_le (subL bs L m))
  rw [hl] at hlt
  exact ⟨by rw [e]; exact hlt, e⟩
set_option maxHeartbeats 1000000 in
theorem rdId_std (R L : Nat) (a : Option Addr) (len cap : Nat) (bs : List Nat) (hn : 14 < bs.length) (hl : bs.length ≤ 1000) (w : World) (hI : Str w.heap.size w (.slice a len cap) bs) : Calls Tryd.prog 99 #[rdV false R L (.slice a len cap)] w fun x w' => x = .returned (.agg #[.bool false, .int .u32 ((numP (bitsOf (subL bs 1 11)) : Nat) : Int)]) ∧ Below w.heap.size w w' := by
  have HN := Lib.hid (show ∀ u, Below w.heap.size w u → Calls Tryd.prog 124 #[rdV false R L (.slice a len cap), .int .i64 1, .int .i64 11] u fun x w' => x = .returned (.int .u32 ((numP (bitsOf (subL bs 1 11)) : Nat) : Int)) ∧ Below u.heap.size u w' from fun u hu => (rdNumber_any false R L a len cap bs 1 11 (by omega) (by omega) hl u ((hI.below hu).mono hu.size)).mono fun _ _ h => ⟨by rw [h.1, Nat.mod_eq_of_lt (by have := (numB_small bs 1 11 (by omega) (by omega)).1; omega), (numB_small bs 1 11 (by omega) (by omega)).2], h.2⟩)
  have hv1 : numP (bitsOf (subL bs 1 11)) < 2048 := by have := numB_small bs 1 11 (by omega) (by omega); rw [this.2] at this; exact this.1
  obtain ⟨v, hv⟩ : ∃ v, v = numP (bitsOf (subL bs 1 11)) := ⟨_, rfl⟩
  rw [← hv] at HN hv1 ⊢
  clear hv hI hn hl
  unfold rdV at *
  go_enter Tryd.func99, Tryd.ntmps99
  go_wp2_with fail
  refine (HN.out _ ?_).mono ?_
  · exact ((Below.refl _ w).alloc (Nat.le_refl _) _).alloc (by simp) _
  rintro x w1 ⟨rfl, hb⟩
  have HB := Lib.hid (below_trans' (((Below.refl _ w).alloc (Nat.le_refl _) _).alloc (by simp) _) hb)
  have hsz : w.heap.size + 2 ≤ w1.heap.size := by have := hb.size; simpa using this
  have k0 : w1.cell? ⟨w.heap.size, 0, none⟩ = some (.bool false) := ((bcell2 hb).1 _ _ (by simp; omega)).trans (by rw [(bcell2 ((Below.refl _ (w.alloc (.cells #[.bool false, .int .i64 (R : Int), .int .i64 (L : Int), .slice a len cap] 88))).alloc (Nat.le_refl _) _)).1 _ _ (by simp)]; simp)
  have q0 : w1.cell? ⟨w.heap.size + 1, 0, none⟩ = some (.bool false) := ((bcell2 hb).1 _ _ (by simp)).trans (by simp)
  have g0 : w1.frozen? ⟨w.heap.size + 1, 0, none⟩ = false := ((bcell2 hb).2 _ _ (by simp)).trans (by simp)
  have q1 : w1.cell? ⟨w.heap.size + 1, 1, none⟩ = some (.int .u32 0) := ((bcell2 hb).1 _ _ (by simp)).trans (by simp)
  have g1 : w1.frozen? ⟨w.heap.size + 1, 1, none⟩ = false := ((bcell2 hb).2 _ _ (by simp)).trans (by simp)
  clear hb
  go_wp2_with fail
  exact bodyPost_ret (v := .agg #[.bool false, .int .u32 (v : Int)]) (by simp [results, Tryd.results99, go_sem, q0, q1]) rfl ⟨rfl, (HB.out.setCell (by simp) _).setCell (by simp) _⟩
set_option maxHeartbeats 1000000 in
theorem rdId_ext (R L : Nat) (a : Option Addr) (len cap : Nat) (bs : List Nat) (hn : 32 ≤ bs.length) (hl : bs.length ≤ 1000) (w : World) (hI : Str w.heap.size w (.slice a len cap) bs) : Calls Tryd.prog 99 #[rdV true R L (.slice a len cap)] w fun x w' => x = .returned (.agg #[.bool true, .int .u32 ((numP (bitsOf (subL bs 1 11)) * 262144 + numP (bitsOf (subL bs 14 18)) : Nat) : Int)]) ∧ Below w.heap.size w w' := by
  have HN := Lib.hid (show ∀ u, Below w.heap.size w u → Calls Tryd.prog 124 #[rdV true R L (.slice a len cap), .int .i64 1, .int .i64 11] u fun x w' => x = .returned (.int .u32 ((numP (bitsOf (subL bs 1 11)) : Nat) : Int)) ∧ Below u.heap.size u w' from fun u hu => (rdNumber_any true R L a len cap bs 1 11 (by omega) (by omega) hl u ((hI.below hu).mono hu.size)).mono fun _ _ h => ⟨by rw [h.1, Nat.mod_eq_of_lt (by have := (numB_small bs 1 11 (by omega) (by omega)).1; omega), (numB_small bs 1 11 (by omega) (by omega)).2], h.2⟩)
  have HM := Lib.hid (show ∀ u, Below w.heap.size w u → Calls Tryd.prog 124 #[rdV true R L (.slice a len cap), .int .i64 14, .int .i64 18] u fun x w' => x = .returned (.int .u32 ((numP (bitsOf (subL bs 14 18)) : Nat) : Int)) ∧ Below u.heap.size u w' from fun u hu => (rdNumber_any true R L a len cap bs 14 18 (by omega) (by omega) hl u ((hI.below hu).mono hu.size)).mono fun _ _ h => ⟨by rw [h.1, Nat.mod_eq_of_lt (by have := (numB_small bs 14 18 (by omega) (by omega)).1; omega), (numB_small bs 14 18 (by omega) (by omega)).2], h.2⟩)
  have hv1 : numP (bitsOf (subL bs 1 11)) < 2048 := by have := numB_small bs 1 11 (by omega) (by omega); rw [this.2] at this; exact this.1
  obtain ⟨v, hv⟩ : ∃ v, v = numP (bitsOf (subL bs 1 11)) := ⟨_, rfl⟩
  rw [← hv] at HN hv1 ⊢
  have hu1 : numP (bitsOf (subL bs 14 18)) < 262144 := by have := numB_small bs 14 18 (by omega) (by omega); rw [this.2] at this; exact this.1
  obtain ⟨u, hu⟩ : ∃ u, u = numP (bitsOf (subL bs 14 18)) := ⟨_, rfl⟩
  rw [← hu] at HM hu1 ⊢
  clear hu
  have HO := Lib.hid (show bits BinOp.or IntKind.u32 ((v : Int) * 262144) (u : Int) = ((v * 262144 + u : Nat) : Int) by
    rw [show (v : Int) * 262144 = ((v * 262144 : Nat) : Int) by omega, u32_or_nat _ _ (by omega) (by omega), or_plus _ _ hu1])
  clear hv hI hn hl
  unfold rdV at *
  go_enter Tryd.func99, Tryd.ntmps99
  go_wp2_with fail
  refine (HN.out _ ?_).mono ?_
  · exact ((Below.refl _ w).alloc (Nat.le_refl _) _).alloc (by simp) _
  rintro x w1 ⟨rfl, hb⟩
  have HB := Lib.hid (below_trans' (((Below.refl _ w).alloc (Nat.le_refl _) _).alloc (by simp) _) hb)
  have hsz : w.heap.size + 2 ≤ w1.heap.size := by have := hb.size; simpa using this
  have k0 : w1.cell? ⟨w.heap.size, 0, none⟩ = some (.bool true) := ((bcell2 hb).1 _ _ (by simp; omega)).trans (by rw [(bcell2 ((Below.refl _ (w.alloc (.cells #[.bool true, .int .i64 (R : Int), .int .i64 (L : Int), .slice a len cap] 88))).alloc (Nat.le_refl _) _)).1 _ _ (by simp)]; simp)
  have k1 : w1.cell? ⟨w.heap.size, 1, none⟩ = some (.int .i64 (R : Int)) := ((bcell2 hb).1 _ _ (by simp; omega)).trans (by rw [(bcell2 ((Below.refl _ (w.alloc (.cells #[.bool true, .int .i64 (R : Int), .int .i64 (L : Int), .slice a len cap] 88))).alloc (Nat.le_refl _) _)).1 _ _ (by simp)]; simp)
  have k2 : w1.cell? ⟨w.heap.size, 2, none⟩ = some (.int .i64 (L : Int)) := ((bcell2 hb).1 _ _ (by simp; omega)).trans (by rw [(bcell2 ((Below.refl _ (w.alloc (.cells #[.bool true, .int .i64 (R : Int), .int .i64 (L : Int), .slice a len cap] 88))).alloc (Nat.le_refl _) _)).1 _ _ (by simp)]; simp)
  have k3 : w1.cell? ⟨w.heap.size, 3, none⟩ = some (.slice a len cap) := ((bcell2 hb).1 _ _ (by simp; omega)).trans (by rw [(bcell2 ((Below.refl _ (w.alloc (.cells #[.bool true, .int .i64 (R : Int), .int .i64 (L : Int), .slice a len cap] 88))).alloc (Nat.le_refl _) _)).1 _ _ (by simp)]; simp)
  have q0 : w1.cell? ⟨w.heap.size + 1, 0, none⟩ = some (.bool false) := ((bcell2 hb).1 _ _ (by simp)).trans (by simp)
  have g0 : w1.frozen? ⟨w.heap.size + 1, 0, none⟩ = false := ((bcell2 hb).2 _ _ (by simp)).trans (by simp)
  have q1 : w1.cell? ⟨w.heap.size + 1, 1, none⟩ = some (.int .u32 0) := ((bcell2 hb).1 _ _ (by simp)).trans (by simp)
  have g1 : w1.frozen? ⟨w.heap.size + 1, 1, none⟩ = false := ((bcell2 hb).2 _ _ (by simp)).trans (by simp)
  go_wp2_with fail
  refine (HM.out _ HB.out).mono ?_
  rintro x w2 ⟨rfl, hb2⟩
  have HB2 := Lib.hid (below_trans' HB.out hb2)
  have q0 := ((bcell2 hb2).1 _ _ (by omega)).trans q0
  have q1 := ((bcell2 hb2).1 _ _ (by omega)).trans q1
  have g0 := ((bcell2 hb2).2 _ _ (by omega)).trans g0
  have g1 := ((bcell2 hb2).2 _ _ (by omega)).trans g1
  clear hb hb2 k0 k1 k2 k3
  go_wp2_with fail
  rw [HO.out]
  exact bodyPost_ret (v := .agg #[.bool true, .int .u32 ((v * 262144 + u : Nat) : Int)]) (by simp [results, Tryd.results99, go_sem, q0, q1]) rfl ⟨rfl, (HB2.out.setCell (by simp) _).setCell (by simp) _⟩
end Go.Proofs.YtmfnkfiocnngeaaDoor
