/- The code of package frame: the reader of a body is opened. Conditions: not more than a thousand bits. -/
import Derived.Test.YtmfnkfiocnngeaaDoorFcd
namespace Go.Proofs.YtmfnkfiocnngeaaDoor
open Go.RowKit Go.Shelf
theorem open_few (a : Option Addr) (len cap : Nat) (bs : List Nat) (h : bs.length ≤ 13) (w : World) (hI : Str w.heap.size w (.slice a len cap) bs) : Calls Tryd.prog 62 #[.slice a len cap] w fun x w' => x = .returned (.tuple #[rdV false 0 0 (.slice none 0 0), .bool false]) ∧ Below w.heap.size w w' := by
  obtain rfl := hI.len
  have i1 : (bs.length : Int) ≤ 13 := by omega
  clear hI h
  go_enter Tryd.func62, Tryd.ntmps62
  go_wp2_with fail
  exact bodyPost_ret (v := .tuple #[rdV false 0 0 (.slice none 0 0), .bool false]) (by simp [results, Tryd.results62, go_sem, rdV]) rfl ⟨rfl, (Below.refl _ w).alloc (Nat.le_refl _) _⟩
theorem open_any (a : Option Addr) (len cap : Nat) (bs : List Nat) (h : 13 < bs.length) (w : World) (hI : Str w.heap.size w (.slice a len cap) bs) (e : Bool) (he : e = decide (bs[13]?.getD 0 ≠ 0)) (R L : Nat) (hR : R = if e then 32 else 12) (hL : L = if e then 35 else 15) : Calls Tryd.prog 62 #[.slice a len cap] w fun x w' => x = .returned (.tuple #[rdV e R L (.slice a len cap), .bool (decide (L + 4 ≤ bs.length))]) ∧ Below w.heap.size w w' := by
  obtain rfl := hI.len
  obtain ⟨bk, off, rfl, hbk, hc⟩ := hI.at h
  obtain ⟨x, hx⟩ : ∃ x, x = bs[13]?.getD 0 := ⟨_, rfl⟩
  rw [← hx] at hc he
  have i1 : ¬ ((bs.length : Int) ≤ 13) := by omega
  have i2 : (13 : Int) < (bs.length : Int) := by omega
  have hz : ((x : Int) != 0) = e := by rw [he, Bool.eq_iff_iff]; simp
  have c := hc _ ((Below.refl w.heap.size w).alloc (Nat.le_refl _) (.cells #[.bool false, .int .i64 0, .int .i64 0, .slice none 0 0] 88))
  have hLL : L ≤ 1000 := by rw [hL]; split <;> omega
  have HY := Lib.hid (fun u => layoutOf_any e u)
  have hV : layV e = .agg #[.bool e, .int .i64 (R : Int), .int .i64 (L : Int)] := by rw [hR, hL]; cases e <;> rfl
  rw [hV] at HY
  have HD := Lib.hid (fun u => layData_any e R L hLL u)
  have HG := Lib.hid (show decide ((bs.length : Int) ≥ ((L + 4 : Nat) : Int)) = decide (L + 4 ≤ bs.length) by rw [Bool.eq_iff_iff]; simp; omega)
  obtain ⟨d, hd⟩ : ∃ d, d = L + 4 := ⟨_, rfl⟩
  rw [← hd] at HD HG ⊢
  obtain ⟨g, hg⟩ : ∃ g, g = decide (d ≤ bs.length) := ⟨_, rfl⟩
  rw [← hg] at HG ⊢
  have HG2 := Lib.hid hg
  clear hI h hc hx he hR hL hV hLL hd hg
  go_enter Tryd.func62, Tryd.ntmps62
  go_wp2_with fail
  refine (HY.out _).mono ?_
  rintro x w1 ⟨rfl, hb⟩
  have HB := Lib.hid (below_trans' ((Below.refl _ w).alloc (Nat.le_refl _) _) hb)
  have hs1 : w.heap.size < w1.heap.size := by have := hb.size; simp at this; omega
  have k0 : w1.cell? ⟨w.heap.size, 0, none⟩ = some (.bool false) := ((bcell2 hb).1 _ _ (by simp)).trans (by simp)
  have k1 : w1.cell? ⟨w.heap.size, 1, none⟩ = some (.int .i64 0) := ((bcell2 hb).1 _ _ (by simp)).trans (by simp)
  have k2 : w1.cell? ⟨w.heap.size, 2, none⟩ = some (.int .i64 0) := ((bcell2 hb).1 _ _ (by simp)).trans (by simp)
  have k3 : w1.cell? ⟨w.heap.size, 3, none⟩ = some (.slice none 0 0) := ((bcell2 hb).1 _ _ (by simp)).trans (by simp)
  have f0 : w1.frozen? ⟨w.heap.size, 0, none⟩ = false := ((bcell2 hb).2 _ _ (by simp)).trans (by simp)
  have f1 : w1.frozen? ⟨w.heap.size, 1, none⟩ = false := ((bcell2 hb).2 _ _ (by simp)).trans (by simp)
  have f2 : w1.frozen? ⟨w.heap.size, 2, none⟩ = false := ((bcell2 hb).2 _ _ (by simp)).trans (by simp)
  have f3 : w1.frozen? ⟨w.heap.size, 3, none⟩ = false := ((bcell2 hb).2 _ _ (by simp)).trans (by simp)
  clear hb
  go_wp2_with fail
  obtain ⟨wr, hwr⟩ : ∃ wr, wr = w1.alloc (.cells #[.bool e, .int .i64 (R : Int), .int .i64 (L : Int), .slice (some ⟨bk, off, none⟩) bs.length cap] 88) := ⟨_, rfl⟩
  have hba : Below w1.heap.size w1 wr := by rw [hwr]; exact (Below.refl _ w1).alloc (Nat.le_refl _) _
  have hsr : w1.heap.size < wr.heap.size := by rw [hwr]; simp
  have kk0 := ((bcell2 hba).1 _ _ hs1).trans k0
  have ff0 := ((bcell2 hba).2 _ _ hs1).trans f0
  have rr0 : wr.cell? ⟨w1.heap.size, 0, none⟩ = some (.bool e) := by rw [hwr]; simp
  have kk1 := ((bcell2 hba).1 _ _ hs1).trans k1
  have ff1 := ((bcell2 hba).2 _ _ hs1).trans f1
  have rr1 : wr.cell? ⟨w1.heap.size, 1, none⟩ = some (.int .i64 (R : Int)) := by rw [hwr]; simp
  have kk2 := ((bcell2 hba).1 _ _ hs1).trans k2
  have ff2 := ((bcell2 hba).2 _ _ hs1).trans f2
  have rr2 : wr.cell? ⟨w1.heap.size, 2, none⟩ = some (.int .i64 (L : Int)) := by rw [hwr]; simp
  have kk3 := ((bcell2 hba).1 _ _ hs1).trans k3
  have ff3 := ((bcell2 hba).2 _ _ hs1).trans f3
  have rr3 : wr.cell? ⟨w1.heap.size, 3, none⟩ = some (.slice (some ⟨bk, off, none⟩) bs.length cap) := by rw [hwr]; simp
  rw [← hwr]
  have HE := Lib.hid (below_trans' HB.out hba)
  clear hwr hba k0 k1 k2 k3 f0 f1 f2 f3
  go_region_with (go_at_call 96; refine (HD.out _).mono ?_; rintro x w2 ⟨rfl, hb2⟩; have q0 := ((bcell2 hb2).1 w.heap.size 0 (by simp; omega)).trans kk0; have q1 := ((bcell2 hb2).1 w.heap.size 1 (by simp; omega)).trans kk1; have q2 := ((bcell2 hb2).1 w.heap.size 2 (by simp; omega)).trans kk2; have q3 := ((bcell2 hb2).1 w.heap.size 3 (by simp; omega)).trans kk3; have g0 := ((bcell2 hb2).2 w.heap.size 0 (by simp; omega)).trans ff0; have g1 := ((bcell2 hb2).2 w.heap.size 1 (by simp; omega)).trans ff1; have g2 := ((bcell2 hb2).2 w.heap.size 2 (by simp; omega)).trans ff2; have g3 := ((bcell2 hb2).2 w.heap.size 3 (by simp; omega)).trans ff3; have r0 := ((bcell2 hb2).1 w1.heap.size 0 (by simp; omega)).trans rr0; have r1 := ((bcell2 hb2).1 w1.heap.size 1 (by simp; omega)).trans rr1; have r2 := ((bcell2 hb2).1 w1.heap.size 2 (by simp; omega)).trans rr2; have r3 := ((bcell2 hb2).1 w1.heap.size 3 (by simp; omega)).trans rr3; have HZ := Lib.hid hb2; clear hb2)
  all_goals (try go_wp2_with fail)
  all_goals (
    refine bodyPost_ret (v := .tuple #[rdV e R L (.slice (some ⟨bk, off, none⟩) bs.length cap), .bool (decide (d ≤ bs.length))]) (by simp [results, Tryd.results62, go_sem, rdV, q0, q1, q2, q3]) rfl ⟨by rw [HG2.out], ?_⟩
    refine ((((?_ : Below w.heap.size w w2).setCell (Nat.le_refl _) _).setCell (Nat.le_refl _) _).setCell (Nat.le_refl _) _).setCell (Nat.le_refl _) _
    first | exact below_trans' HE.out HZ.out | exact below_trans' HE.out.drew HZ.out | exact below_trans' HE.out.drew.drew HZ.out | exact below_trans' HE.out.drew.drew.drew HZ.out)
end Go.Proofs.YtmfnkfiocnngeaaDoor
