/- Who sends: what is called on one that goes on, and on one that is over; what must be whatever is asked, of package speak (live of layer 9). Conditions: the divisor's cells hold what the program's own text lays in them. -/
import Derived.Test.YtmfnkfiocnngeaaDoorSpf
namespace Go.Proofs.YtmfnkfiocnngeaaDoor
open Go.RowKit Go.Shelf
section
variable (B D : Nat) (fr : List Value) (L : List PB) (k : Nat)
theorem sbit_on (b : Nat) (a e s l : Bool) (hp : L[k]? = some ⟨b, a, e, s, l⟩) (w : World) (hS : SPA w B D fr L k true) : Calls Tryd.prog 32 #[.pointer (some ⟨B, 0, none⟩)] w fun y w' => y = .returned (.int .u8 (b : Int)) ∧ SPA w' B D fr L k true ∧ Below w.heap.size w w' :=
  (pbit_of _ b a e s l true w (pnext_on B D fr L k b a e s l hp w hS)).mono fun _ _ h => ⟨h.1, hS.keep h.2, h.2⟩
theorem sbit_off (w : World) (hS : SPA w B D fr L k false) : Calls Tryd.prog 32 #[.pointer (some ⟨B, 0, none⟩)] w fun y w' => y = .returned (.int .u8 1) ∧ SPA w' B D fr L k false ∧ Below w.heap.size w w' :=
  (pbit_of _ 1 false false false false false w (pnext_off B D fr L k w hS)).mono fun _ _ h => ⟨h.1, hS.keep h.2, h.2⟩
theorem sask_on (b : Nat) (a e s l : Bool) (hp : L[k]? = some ⟨b, a, e, s, l⟩) (w : World) (hS : SPA w B D fr L k true) : Calls Tryd.prog 74 #[.pointer (some ⟨B, 0, none⟩)] w fun y w' => y = .returned (.bool a) ∧ SPA w' B D fr L k true ∧ Below w.heap.size w w' :=
  (pask_of _ b a e s l true w (pnext_on B D fr L k b a e s l hp w hS)).mono fun _ _ h => ⟨h.1, hS.keep h.2, h.2⟩
theorem sask_off (w : World) (hS : SPA w B D fr L k false) : Calls Tryd.prog 74 #[.pointer (some ⟨B, 0, none⟩)] w fun y w' => y = .returned (.bool false) ∧ SPA w' B D fr L k false ∧ Below w.heap.size w w' :=
  (pask_of _ 1 false false false false false w (pnext_off B D fr L k w hS)).mono fun _ _ h => ⟨h.1, hS.keep h.2, h.2⟩
theorem shd_on (b : Nat) (a e s l : Bool) (hp : L[k]? = some ⟨b, a, e, s, l⟩) (hL : L.length ≤ 1000) (x V : Nat) (hV : verd b a e s l x = V) (hfin : V = 0 → k + 1 < L.length) (w : World) (hS : SPA w B D fr L k true) :
    Calls Tryd.prog 33 #[.pointer (some ⟨B, 0, none⟩), .int .u8 (x : Int)] w fun y w' => y = .returned (.int .i64 (V : Int)) ∧ SPA w' B D fr L (k + 1) (decide (V = 0)) ∧ Below B w w' := by
  subst hV
  exact (phd_on B D fr L k b a e s l hp hL x hfin w hS).mono fun _ _ h => ⟨h.1, h.2.1, h.2.2.below (Nat.le_of_lt hS.blk.lt) (fun k e => by rw [ownN] at e; exact absurd e (by simp))⟩
theorem shd_off (x : Nat) (w : World) (hS : SPA w B D fr L k false) : Calls Tryd.prog 33 #[.pointer (some ⟨B, 0, none⟩), .int .u8 (x : Int)] w fun y w' => y = .returned (.int .i64 0) ∧ SPA w' B D fr L k false ∧ Below w.heap.size w w' :=
  (phd_over _ 1 false false false false x w (pnext_off B D fr L k w hS)).mono fun _ _ h => ⟨h.1, hS.keep h.2, h.2⟩
end
theorem nbit_any (w : World) : Calls Tryd.prog 32 #[.pointer none] w fun y w' => y = .returned (.int .u8 1) ∧ Below w.heap.size w w' :=
  pbit_of none 1 false false false false false w (pnext_nil w)
theorem nhd_any (x : Nat) (w : World) : Calls Tryd.prog 33 #[.pointer none, .int .u8 (x : Int)] w fun y w' => y = .returned (.int .i64 0) ∧ Below w.heap.size w w' :=
  phd_over none 1 false false false false x w (pnext_nil w)
theorem nsent_any (w : World) : Calls Tryd.prog 35 #[.pointer none] w fun y w' => y = .returned (.int .i64 0) ∧ w = w' := by
  go_enter Tryd.func35, Tryd.ntmps35
  go_wp2_with fail
  go_ret
  exact ⟨rfl, rfl⟩
theorem pb_eq (p : PB) {b : Nat} {a e s l : Bool} (h : p.b = b ∧ p.a = a ∧ p.e = e ∧ p.s = s ∧ p.l = l) : p = ⟨b, a, e, s, l⟩ := by
  obtain ⟨rfl, rfl, rfl, rfl, rfl⟩ := h
  rfl
theorem parts9 : (partsB (1 + (idBits false 291 false).length) (stuffB (bodyB false 291 false 1 [10, 0, 0, 0, 0, 0, 0, 0])))[0]? = some ⟨0, false, false, false, false⟩ ∧ (partsB (1 + (idBits false 291 false).length) (stuffB (bodyB false 291 false 1 [10, 0, 0, 0, 0, 0, 0, 0])))[1]? = some ⟨0, true, false, false, false⟩ ∧ (partsB (1 + (idBits false 291 false).length) (stuffB (bodyB false 291 false 1 [10, 0, 0, 0, 0, 0, 0, 0])))[2]? = some ⟨0, true, false, false, false⟩ ∧ (partsB (1 + (idBits false 291 false).length) (stuffB (bodyB false 291 false 1 [10, 0, 0, 0, 0, 0, 0, 0])))[3]? = some ⟨1, true, false, false, false⟩ := by
  refine ⟨?_, ?_, ?_, ?_⟩
  all_goals
    rw [partsB_get _ _ (by omega)]
    exact congrArg some (pb_eq _ (by decide +kernel))
set_option maxRecDepth 100000 in
set_option maxHeartbeats 8000000 in
theorem live9 (w : World) (h0 : 1 < w.heap.size) (hT : Tab w) : Calls Tryd.prog 30 #[] w fun x w' => x = .returned (.bool true) ∧ Below w.heap.size w w' := by
  obtain ⟨q0, q1, q2, q3⟩ := parts9
  have hlen : (partsB (1 + (idBits false 291 false).length) (stuffB (bodyB false 291 false 1 [10, 0, 0, 0, 0, 0, 0, 0]))).length = (encB false 291 false 1 [10, 0, 0, 0, 0, 0, 0, 0]).length := by rw [partsB_length, encB_length]
  have hlong := enc_long f0_right
  have HNW := Lib.hid (fun u (hu : Below w.heap.size w u) => snew_yes false 291 (by omega) false 1 [10, 0, 0, 0, 0, 0, 0, 0] rfl (by decide) f0_right u (Nat.lt_of_lt_of_le h0 hu.size) (hT.onB hu h0))
  have HNB := Lib.hid (fun u => snew_no false 0 false 9 [0, 0, 0, 0, 0, 0, 0, 0] rfl 2 (by decide) (by decide) u)
  obtain ⟨L, hL⟩ : ∃ L, L = partsB (1 + (idBits false 291 false).length) (stuffB (bodyB false 291 false 1 [10, 0, 0, 0, 0, 0, 0, 0])) := ⟨_, rfl⟩
  rw [← hL] at q0 q1 q2 q3 hlen HNW
  have HP0 := Lib.hid q0; have HP1 := Lib.hid q1; have HP2 := Lib.hid q2; have HP3 := Lib.hid q3
  have HLEN := Lib.hid (show 44 ≤ L.length ∧ L.length ≤ 160 by rw [hlen]; exact ⟨hlong.1, hlong.2.1⟩)
  have heq : ∀ u : World, Sem.run Tryd.prog (Op.equalIn 9999 25 (.agg #[.int .u8 10, .int .u8 0, .int .u8 0, .int .u8 0, .int .u8 0, .int .u8 0, .int .u8 0, .int .u8 0]) (.agg #[.int .u8 10, .int .u8 0, .int .u8 0, .int .u8 0, .int .u8 0, .int .u8 0, .int .u8 0, .int .u8 0])) u = .ok true u := fun u => frame_same 9997 10 0 0 0 0 0 0 0 u
  have HFA := Lib.hid (FrameAt.new w 27 false 291 false 1 [10, 0, 0, 0, 0, 0, 0, 0] rfl)
  simp only [frameV, frameC, List.map] at HFA HNW HNB
  obtain ⟨c0, c1, c2, c3, c4, c5, c6, c7, c8, c9, c10, c11⟩ := HFA.out.cells
  clear q0 q1 q2 q3 hlen hlong hL h0 hT
  go_enter Tryd.func30, Tryd.ntmps30
  go_wp2_with fail
  refine (HNW.out _ ((Below.refl _ w).alloc (Nat.le_refl _) _)).mono ?_
  rintro y w2 ⟨B, D, rfl, hBB, hDD, hs, hb⟩
  have HB2 := Lib.hid (below_trans' ((Below.refl _ w).alloc (Nat.le_refl _) _) hb)
  have HF2 := Lib.hid (FrameAt.keep HFA.out hb (by simp))
  have HS2 := Lib.hid hs
  have HFB := Lib.hid (show w.heap.size < B ∧ w.heap.size ≤ B by simp at hBB; omega)
  clear hBB hDD hs hb c0 c1 c2 c3 c4 c5 c6 c7 c8 c9 c10 c11
  go_wp2_with fail
  refine (HNB.out _).mono ?_
  rintro y w3 ⟨rfl, hb⟩
  have HS3 := Lib.hid (HS2.out.keep hb); have HB3 := Lib.hid (below_trans' HB2.out hb); have HF3 := Lib.hid (HF2.out.keep hb (by have := HFB.out; have := HS2.out.blk.lt; omega))
  clear hb
  go_wp2_with fail
  refine (sbit_on B D _ _ 0 _ _ _ _ _ HP0.out _ HS3.out).mono ?_
  rintro y w4 ⟨rfl, hs, hb⟩
  have HS4 := Lib.hid hs; have HB4 := Lib.hid (below_trans' HB3.out hb); have HF4 := Lib.hid (HF3.out.keep hb (by have := HFB.out; have := HS3.out.blk.lt; omega))
  clear hs hb
  go_wp2_with fail
  have HD5 := Lib.hid (shd_on B D _ _ 0 _ _ _ _ _ HP0.out (by have := HLEN.out; omega) 0 0 (by decide) (fun _ => by have := HLEN.out; omega) _ HS4.out)
  refine HD5.out.mono ?_
  rintro y w5 ⟨rfl, hs, hb⟩
  have HS5 := Lib.hid hs; have HB5 := Lib.hid (HB4.out.trans (hb.mono HFB.out.2)); have HF5 := Lib.hid (HF4.out.keepAt hb HFB.out.1)
  clear hs hb
  go_wp2_with fail
  refine (sask_on B D _ _ 1 _ _ _ _ _ HP1.out _ HS5.out).mono ?_
  rintro y w6 ⟨rfl, hs, hb⟩
  have HS6 := Lib.hid hs; have HB6 := Lib.hid (below_trans' HB5.out hb); have HF6 := Lib.hid (HF5.out.keep hb (by have := HFB.out; have := HS5.out.blk.lt; omega))
  clear hs hb
  go_wp2_with fail
  refine (sbit_on B D _ _ 1 _ _ _ _ _ HP1.out _ HS6.out).mono ?_
  rintro y w7 ⟨rfl, hs, hb⟩
  have HS7 := Lib.hid hs; have HB7 := Lib.hid (below_trans' HB6.out hb); have HF7 := Lib.hid (HF6.out.keep hb (by have := HFB.out; have := HS6.out.blk.lt; omega))
  clear hs hb
  go_wp2_with fail
  have HD8 := Lib.hid (shd_on B D _ _ 1 _ _ _ _ _ HP1.out (by have := HLEN.out; omega) 0 0 (by decide) (fun _ => by have := HLEN.out; omega) _ HS7.out)
  refine HD8.out.mono ?_
  rintro y w8 ⟨rfl, hs, hb⟩
  have HS8 := Lib.hid hs; have HB8 := Lib.hid (HB7.out.trans (hb.mono HFB.out.2)); have HF8 := Lib.hid (HF7.out.keepAt hb HFB.out.1)
  clear hs hb
  go_wp2_with fail
  refine (sbit_on B D _ _ 2 _ _ _ _ _ HP2.out _ HS8.out).mono ?_
  rintro y w9 ⟨rfl, hs, hb⟩
  have HS9 := Lib.hid hs; have HB9 := Lib.hid (below_trans' HB8.out hb); have HF9 := Lib.hid (HF8.out.keep hb (by have := HFB.out; have := HS8.out.blk.lt; omega))
  clear hs hb
  go_wp2_with fail
  have HD10 := Lib.hid (shd_on B D _ _ 2 _ _ _ _ _ HP2.out (by have := HLEN.out; omega) 0 0 (by decide) (fun _ => by have := HLEN.out; omega) _ HS9.out)
  refine HD10.out.mono ?_
  rintro y w10 ⟨rfl, hs, hb⟩
  have HS10 := Lib.hid hs; have HB10 := Lib.hid (HB9.out.trans (hb.mono HFB.out.2)); have HF10 := Lib.hid (HF9.out.keepAt hb HFB.out.1)
  clear hs hb
  go_wp2_with fail
  refine (sbit_on B D _ _ 3 _ _ _ _ _ HP3.out _ HS10.out).mono ?_
  rintro y w11 ⟨rfl, hs, hb⟩
  have HS11 := Lib.hid hs; have HB11 := Lib.hid (below_trans' HB10.out hb); have HF11 := Lib.hid (HF10.out.keep hb (by have := HFB.out; have := HS10.out.blk.lt; omega))
  clear hs hb
  go_wp2_with fail
  have HD12 := Lib.hid (shd_on B D _ _ 3 _ _ _ _ _ HP3.out (by have := HLEN.out; omega) 0 1 (by decide) (fun _ => by have := HLEN.out; omega) _ HS11.out)
  refine HD12.out.mono ?_
  rintro y w12 ⟨rfl, hs, hb⟩
  have HS12 := Lib.hid hs; have HB12 := Lib.hid (HB11.out.trans (hb.mono HFB.out.2)); have HF12 := Lib.hid (HF11.out.keepAt hb HFB.out.1)
  clear hs hb
  go_wp2_with fail
  have HZ := Lib.hid (show ∀ u, Below w12.heap.size w12 u → (Below w12.heap.size w12 u ∧ u.cell? ⟨w.heap.size, 0, none⟩ = some (.bool false) ∧ u.cell? ⟨w.heap.size, 1, none⟩ = some (.int .u32 291) ∧ u.cell? ⟨w.heap.size, 2, none⟩ = some (.bool false) ∧ u.cell? ⟨w.heap.size, 3, none⟩ = some (.int .i64 1) ∧ u.cell? ⟨w.heap.size, 4, none⟩ = some (.int .u8 10) ∧ u.cell? ⟨w.heap.size, 5, none⟩ = some (.int .u8 0) ∧ u.cell? ⟨w.heap.size, 6, none⟩ = some (.int .u8 0) ∧ u.cell? ⟨w.heap.size, 7, none⟩ = some (.int .u8 0) ∧ u.cell? ⟨w.heap.size, 8, none⟩ = some (.int .u8 0) ∧ u.cell? ⟨w.heap.size, 9, none⟩ = some (.int .u8 0) ∧ u.cell? ⟨w.heap.size, 10, none⟩ = some (.int .u8 0) ∧ u.cell? ⟨w.heap.size, 11, none⟩ = some (.int .u8 0)) from fun u hu => by
    obtain ⟨c0, c1, c2, c3, c4, c5, c6, c7, c8, c9, c10, c11⟩ := (HF12.out.keep hu (by have := HFB.out; have := HS12.out.blk.lt; omega)).cells
    exact ⟨hu, c0, c1, c2, c3, c4, c5, c6, c7, c8, c9, c10, c11⟩)
  have HZA := Lib.hid (show ∀ u o, (Below w12.heap.size w12 u ∧ u.cell? ⟨w.heap.size, 0, none⟩ = some (.bool false) ∧ u.cell? ⟨w.heap.size, 1, none⟩ = some (.int .u32 291) ∧ u.cell? ⟨w.heap.size, 2, none⟩ = some (.bool false) ∧ u.cell? ⟨w.heap.size, 3, none⟩ = some (.int .i64 1) ∧ u.cell? ⟨w.heap.size, 4, none⟩ = some (.int .u8 10) ∧ u.cell? ⟨w.heap.size, 5, none⟩ = some (.int .u8 0) ∧ u.cell? ⟨w.heap.size, 6, none⟩ = some (.int .u8 0) ∧ u.cell? ⟨w.heap.size, 7, none⟩ = some (.int .u8 0) ∧ u.cell? ⟨w.heap.size, 8, none⟩ = some (.int .u8 0) ∧ u.cell? ⟨w.heap.size, 9, none⟩ = some (.int .u8 0) ∧ u.cell? ⟨w.heap.size, 10, none⟩ = some (.int .u8 0) ∧ u.cell? ⟨w.heap.size, 11, none⟩ = some (.int .u8 0)) → (Below w12.heap.size w12 (u.alloc o) ∧ (u.alloc o).cell? ⟨w.heap.size, 0, none⟩ = some (.bool false) ∧ (u.alloc o).cell? ⟨w.heap.size, 1, none⟩ = some (.int .u32 291) ∧ (u.alloc o).cell? ⟨w.heap.size, 2, none⟩ = some (.bool false) ∧ (u.alloc o).cell? ⟨w.heap.size, 3, none⟩ = some (.int .i64 1) ∧ (u.alloc o).cell? ⟨w.heap.size, 4, none⟩ = some (.int .u8 10) ∧ (u.alloc o).cell? ⟨w.heap.size, 5, none⟩ = some (.int .u8 0) ∧ (u.alloc o).cell? ⟨w.heap.size, 6, none⟩ = some (.int .u8 0) ∧ (u.alloc o).cell? ⟨w.heap.size, 7, none⟩ = some (.int .u8 0) ∧ (u.alloc o).cell? ⟨w.heap.size, 8, none⟩ = some (.int .u8 0) ∧ (u.alloc o).cell? ⟨w.heap.size, 9, none⟩ = some (.int .u8 0) ∧ (u.alloc o).cell? ⟨w.heap.size, 10, none⟩ = some (.int .u8 0) ∧ (u.alloc o).cell? ⟨w.heap.size, 11, none⟩ = some (.int .u8 0)) from fun u o h => HZ.out _ (h.1.alloc h.1.size o))
  have HZD := Lib.hid (show ∀ u, (Below w12.heap.size w12 u ∧ u.cell? ⟨w.heap.size, 0, none⟩ = some (.bool false) ∧ u.cell? ⟨w.heap.size, 1, none⟩ = some (.int .u32 291) ∧ u.cell? ⟨w.heap.size, 2, none⟩ = some (.bool false) ∧ u.cell? ⟨w.heap.size, 3, none⟩ = some (.int .i64 1) ∧ u.cell? ⟨w.heap.size, 4, none⟩ = some (.int .u8 10) ∧ u.cell? ⟨w.heap.size, 5, none⟩ = some (.int .u8 0) ∧ u.cell? ⟨w.heap.size, 6, none⟩ = some (.int .u8 0) ∧ u.cell? ⟨w.heap.size, 7, none⟩ = some (.int .u8 0) ∧ u.cell? ⟨w.heap.size, 8, none⟩ = some (.int .u8 0) ∧ u.cell? ⟨w.heap.size, 9, none⟩ = some (.int .u8 0) ∧ u.cell? ⟨w.heap.size, 10, none⟩ = some (.int .u8 0) ∧ u.cell? ⟨w.heap.size, 11, none⟩ = some (.int .u8 0)) → (Below w12.heap.size w12 u.drew ∧ u.drew.cell? ⟨w.heap.size, 0, none⟩ = some (.bool false) ∧ u.drew.cell? ⟨w.heap.size, 1, none⟩ = some (.int .u32 291) ∧ u.drew.cell? ⟨w.heap.size, 2, none⟩ = some (.bool false) ∧ u.drew.cell? ⟨w.heap.size, 3, none⟩ = some (.int .i64 1) ∧ u.drew.cell? ⟨w.heap.size, 4, none⟩ = some (.int .u8 10) ∧ u.drew.cell? ⟨w.heap.size, 5, none⟩ = some (.int .u8 0) ∧ u.drew.cell? ⟨w.heap.size, 6, none⟩ = some (.int .u8 0) ∧ u.drew.cell? ⟨w.heap.size, 7, none⟩ = some (.int .u8 0) ∧ u.drew.cell? ⟨w.heap.size, 8, none⟩ = some (.int .u8 0) ∧ u.drew.cell? ⟨w.heap.size, 9, none⟩ = some (.int .u8 0) ∧ u.drew.cell? ⟨w.heap.size, 10, none⟩ = some (.int .u8 0) ∧ u.drew.cell? ⟨w.heap.size, 11, none⟩ = some (.int .u8 0)) from fun u h => HZ.out _ h.1.drew)
  have HZC := Lib.hid (show ∀ u u', (Below w12.heap.size w12 u ∧ u.cell? ⟨w.heap.size, 0, none⟩ = some (.bool false) ∧ u.cell? ⟨w.heap.size, 1, none⟩ = some (.int .u32 291) ∧ u.cell? ⟨w.heap.size, 2, none⟩ = some (.bool false) ∧ u.cell? ⟨w.heap.size, 3, none⟩ = some (.int .i64 1) ∧ u.cell? ⟨w.heap.size, 4, none⟩ = some (.int .u8 10) ∧ u.cell? ⟨w.heap.size, 5, none⟩ = some (.int .u8 0) ∧ u.cell? ⟨w.heap.size, 6, none⟩ = some (.int .u8 0) ∧ u.cell? ⟨w.heap.size, 7, none⟩ = some (.int .u8 0) ∧ u.cell? ⟨w.heap.size, 8, none⟩ = some (.int .u8 0) ∧ u.cell? ⟨w.heap.size, 9, none⟩ = some (.int .u8 0) ∧ u.cell? ⟨w.heap.size, 10, none⟩ = some (.int .u8 0) ∧ u.cell? ⟨w.heap.size, 11, none⟩ = some (.int .u8 0)) → Below u.heap.size u u' → (Below w12.heap.size w12 u' ∧ u'.cell? ⟨w.heap.size, 0, none⟩ = some (.bool false) ∧ u'.cell? ⟨w.heap.size, 1, none⟩ = some (.int .u32 291) ∧ u'.cell? ⟨w.heap.size, 2, none⟩ = some (.bool false) ∧ u'.cell? ⟨w.heap.size, 3, none⟩ = some (.int .i64 1) ∧ u'.cell? ⟨w.heap.size, 4, none⟩ = some (.int .u8 10) ∧ u'.cell? ⟨w.heap.size, 5, none⟩ = some (.int .u8 0) ∧ u'.cell? ⟨w.heap.size, 6, none⟩ = some (.int .u8 0) ∧ u'.cell? ⟨w.heap.size, 7, none⟩ = some (.int .u8 0) ∧ u'.cell? ⟨w.heap.size, 8, none⟩ = some (.int .u8 0) ∧ u'.cell? ⟨w.heap.size, 9, none⟩ = some (.int .u8 0) ∧ u'.cell? ⟨w.heap.size, 10, none⟩ = some (.int .u8 0) ∧ u'.cell? ⟨w.heap.size, 11, none⟩ = some (.int .u8 0)) from fun u u' h hb => HZ.out _ (h.1.trans (hb.mono h.1.size)))
  have HSU := Lib.hid (show ∀ u, (Below w12.heap.size w12 u ∧ u.cell? ⟨w.heap.size, 0, none⟩ = some (.bool false) ∧ u.cell? ⟨w.heap.size, 1, none⟩ = some (.int .u32 291) ∧ u.cell? ⟨w.heap.size, 2, none⟩ = some (.bool false) ∧ u.cell? ⟨w.heap.size, 3, none⟩ = some (.int .i64 1) ∧ u.cell? ⟨w.heap.size, 4, none⟩ = some (.int .u8 10) ∧ u.cell? ⟨w.heap.size, 5, none⟩ = some (.int .u8 0) ∧ u.cell? ⟨w.heap.size, 6, none⟩ = some (.int .u8 0) ∧ u.cell? ⟨w.heap.size, 7, none⟩ = some (.int .u8 0) ∧ u.cell? ⟨w.heap.size, 8, none⟩ = some (.int .u8 0) ∧ u.cell? ⟨w.heap.size, 9, none⟩ = some (.int .u8 0) ∧ u.cell? ⟨w.heap.size, 10, none⟩ = some (.int .u8 0) ∧ u.cell? ⟨w.heap.size, 11, none⟩ = some (.int .u8 0)) → SPA u B D (frameC false 291 false ((1 : Nat) : Int) [10, 0, 0, 0, 0, 0, 0, 0]) L 4 false from fun u hu => HS12.out.keep hu.1)
  have K1 := Lib.hid (show ∀ u, (Below w12.heap.size w12 u ∧ u.cell? ⟨w.heap.size, 0, none⟩ = some (.bool false) ∧ u.cell? ⟨w.heap.size, 1, none⟩ = some (.int .u32 291) ∧ u.cell? ⟨w.heap.size, 2, none⟩ = some (.bool false) ∧ u.cell? ⟨w.heap.size, 3, none⟩ = some (.int .i64 1) ∧ u.cell? ⟨w.heap.size, 4, none⟩ = some (.int .u8 10) ∧ u.cell? ⟨w.heap.size, 5, none⟩ = some (.int .u8 0) ∧ u.cell? ⟨w.heap.size, 6, none⟩ = some (.int .u8 0) ∧ u.cell? ⟨w.heap.size, 7, none⟩ = some (.int .u8 0) ∧ u.cell? ⟨w.heap.size, 8, none⟩ = some (.int .u8 0) ∧ u.cell? ⟨w.heap.size, 9, none⟩ = some (.int .u8 0) ∧ u.cell? ⟨w.heap.size, 10, none⟩ = some (.int .u8 0) ∧ u.cell? ⟨w.heap.size, 11, none⟩ = some (.int .u8 0)) → Calls Tryd.prog 32 #[.pointer (some ⟨B, 0, none⟩)] u fun y w' => y = .returned (.int .u8 1) ∧ (Below w12.heap.size w12 w' ∧ w'.cell? ⟨w.heap.size, 0, none⟩ = some (.bool false) ∧ w'.cell? ⟨w.heap.size, 1, none⟩ = some (.int .u32 291) ∧ w'.cell? ⟨w.heap.size, 2, none⟩ = some (.bool false) ∧ w'.cell? ⟨w.heap.size, 3, none⟩ = some (.int .i64 1) ∧ w'.cell? ⟨w.heap.size, 4, none⟩ = some (.int .u8 10) ∧ w'.cell? ⟨w.heap.size, 5, none⟩ = some (.int .u8 0) ∧ w'.cell? ⟨w.heap.size, 6, none⟩ = some (.int .u8 0) ∧ w'.cell? ⟨w.heap.size, 7, none⟩ = some (.int .u8 0) ∧ w'.cell? ⟨w.heap.size, 8, none⟩ = some (.int .u8 0) ∧ w'.cell? ⟨w.heap.size, 9, none⟩ = some (.int .u8 0) ∧ w'.cell? ⟨w.heap.size, 10, none⟩ = some (.int .u8 0) ∧ w'.cell? ⟨w.heap.size, 11, none⟩ = some (.int .u8 0)) from fun u hu => by
    refine (sbit_off B D _ _ 4 u (HSU.out u hu)).mono ?_
    rintro _ w' ⟨rfl, _, hb⟩
    exact ⟨rfl, HZC.out _ _ hu hb⟩)
  have K2 := Lib.hid (show ∀ u, (Below w12.heap.size w12 u ∧ u.cell? ⟨w.heap.size, 0, none⟩ = some (.bool false) ∧ u.cell? ⟨w.heap.size, 1, none⟩ = some (.int .u32 291) ∧ u.cell? ⟨w.heap.size, 2, none⟩ = some (.bool false) ∧ u.cell? ⟨w.heap.size, 3, none⟩ = some (.int .i64 1) ∧ u.cell? ⟨w.heap.size, 4, none⟩ = some (.int .u8 10) ∧ u.cell? ⟨w.heap.size, 5, none⟩ = some (.int .u8 0) ∧ u.cell? ⟨w.heap.size, 6, none⟩ = some (.int .u8 0) ∧ u.cell? ⟨w.heap.size, 7, none⟩ = some (.int .u8 0) ∧ u.cell? ⟨w.heap.size, 8, none⟩ = some (.int .u8 0) ∧ u.cell? ⟨w.heap.size, 9, none⟩ = some (.int .u8 0) ∧ u.cell? ⟨w.heap.size, 10, none⟩ = some (.int .u8 0) ∧ u.cell? ⟨w.heap.size, 11, none⟩ = some (.int .u8 0)) → Calls Tryd.prog 74 #[.pointer (some ⟨B, 0, none⟩)] u fun y w' => y = .returned (.bool false) ∧ (Below w12.heap.size w12 w' ∧ w'.cell? ⟨w.heap.size, 0, none⟩ = some (.bool false) ∧ w'.cell? ⟨w.heap.size, 1, none⟩ = some (.int .u32 291) ∧ w'.cell? ⟨w.heap.size, 2, none⟩ = some (.bool false) ∧ w'.cell? ⟨w.heap.size, 3, none⟩ = some (.int .i64 1) ∧ w'.cell? ⟨w.heap.size, 4, none⟩ = some (.int .u8 10) ∧ w'.cell? ⟨w.heap.size, 5, none⟩ = some (.int .u8 0) ∧ w'.cell? ⟨w.heap.size, 6, none⟩ = some (.int .u8 0) ∧ w'.cell? ⟨w.heap.size, 7, none⟩ = some (.int .u8 0) ∧ w'.cell? ⟨w.heap.size, 8, none⟩ = some (.int .u8 0) ∧ w'.cell? ⟨w.heap.size, 9, none⟩ = some (.int .u8 0) ∧ w'.cell? ⟨w.heap.size, 10, none⟩ = some (.int .u8 0) ∧ w'.cell? ⟨w.heap.size, 11, none⟩ = some (.int .u8 0)) from fun u hu => by
    refine (sask_off B D _ _ 4 u (HSU.out u hu)).mono ?_
    rintro _ w' ⟨rfl, _, hb⟩
    exact ⟨rfl, HZC.out _ _ hu hb⟩)
  have K3 := Lib.hid (show ∀ u, (Below w12.heap.size w12 u ∧ u.cell? ⟨w.heap.size, 0, none⟩ = some (.bool false) ∧ u.cell? ⟨w.heap.size, 1, none⟩ = some (.int .u32 291) ∧ u.cell? ⟨w.heap.size, 2, none⟩ = some (.bool false) ∧ u.cell? ⟨w.heap.size, 3, none⟩ = some (.int .i64 1) ∧ u.cell? ⟨w.heap.size, 4, none⟩ = some (.int .u8 10) ∧ u.cell? ⟨w.heap.size, 5, none⟩ = some (.int .u8 0) ∧ u.cell? ⟨w.heap.size, 6, none⟩ = some (.int .u8 0) ∧ u.cell? ⟨w.heap.size, 7, none⟩ = some (.int .u8 0) ∧ u.cell? ⟨w.heap.size, 8, none⟩ = some (.int .u8 0) ∧ u.cell? ⟨w.heap.size, 9, none⟩ = some (.int .u8 0) ∧ u.cell? ⟨w.heap.size, 10, none⟩ = some (.int .u8 0) ∧ u.cell? ⟨w.heap.size, 11, none⟩ = some (.int .u8 0)) → Calls Tryd.prog 35 #[.pointer (some ⟨B, 0, none⟩)] u fun y w' => y = .returned (.int .i64 4) ∧ (Below w12.heap.size w12 w' ∧ w'.cell? ⟨w.heap.size, 0, none⟩ = some (.bool false) ∧ w'.cell? ⟨w.heap.size, 1, none⟩ = some (.int .u32 291) ∧ w'.cell? ⟨w.heap.size, 2, none⟩ = some (.bool false) ∧ w'.cell? ⟨w.heap.size, 3, none⟩ = some (.int .i64 1) ∧ w'.cell? ⟨w.heap.size, 4, none⟩ = some (.int .u8 10) ∧ w'.cell? ⟨w.heap.size, 5, none⟩ = some (.int .u8 0) ∧ w'.cell? ⟨w.heap.size, 6, none⟩ = some (.int .u8 0) ∧ w'.cell? ⟨w.heap.size, 7, none⟩ = some (.int .u8 0) ∧ w'.cell? ⟨w.heap.size, 8, none⟩ = some (.int .u8 0) ∧ w'.cell? ⟨w.heap.size, 9, none⟩ = some (.int .u8 0) ∧ w'.cell? ⟨w.heap.size, 10, none⟩ = some (.int .u8 0) ∧ w'.cell? ⟨w.heap.size, 11, none⟩ = some (.int .u8 0)) from fun u hu => by
    refine (psent_any B D _ _ 4 false u (HSU.out u hu)).mono ?_
    rintro _ w' ⟨rfl, rfl⟩
    have hb := Below.refl u.heap.size u
    exact ⟨rfl, HZC.out _ _ hu hb⟩)
  have K4 := Lib.hid (show ∀ u, (Below w12.heap.size w12 u ∧ u.cell? ⟨w.heap.size, 0, none⟩ = some (.bool false) ∧ u.cell? ⟨w.heap.size, 1, none⟩ = some (.int .u32 291) ∧ u.cell? ⟨w.heap.size, 2, none⟩ = some (.bool false) ∧ u.cell? ⟨w.heap.size, 3, none⟩ = some (.int .i64 1) ∧ u.cell? ⟨w.heap.size, 4, none⟩ = some (.int .u8 10) ∧ u.cell? ⟨w.heap.size, 5, none⟩ = some (.int .u8 0) ∧ u.cell? ⟨w.heap.size, 6, none⟩ = some (.int .u8 0) ∧ u.cell? ⟨w.heap.size, 7, none⟩ = some (.int .u8 0) ∧ u.cell? ⟨w.heap.size, 8, none⟩ = some (.int .u8 0) ∧ u.cell? ⟨w.heap.size, 9, none⟩ = some (.int .u8 0) ∧ u.cell? ⟨w.heap.size, 10, none⟩ = some (.int .u8 0) ∧ u.cell? ⟨w.heap.size, 11, none⟩ = some (.int .u8 0)) → Calls Tryd.prog 75 #[.pointer (some ⟨B, 0, none⟩)] u fun y w' => y = .returned (.agg #[.bool false, .int .u32 291, .bool false, .int .i64 1, .int .u8 10, .int .u8 0, .int .u8 0, .int .u8 0, .int .u8 0, .int .u8 0, .int .u8 0, .int .u8 0]) ∧ (Below w12.heap.size w12 w' ∧ w'.cell? ⟨w.heap.size, 0, none⟩ = some (.bool false) ∧ w'.cell? ⟨w.heap.size, 1, none⟩ = some (.int .u32 291) ∧ w'.cell? ⟨w.heap.size, 2, none⟩ = some (.bool false) ∧ w'.cell? ⟨w.heap.size, 3, none⟩ = some (.int .i64 1) ∧ w'.cell? ⟨w.heap.size, 4, none⟩ = some (.int .u8 10) ∧ w'.cell? ⟨w.heap.size, 5, none⟩ = some (.int .u8 0) ∧ w'.cell? ⟨w.heap.size, 6, none⟩ = some (.int .u8 0) ∧ w'.cell? ⟨w.heap.size, 7, none⟩ = some (.int .u8 0) ∧ w'.cell? ⟨w.heap.size, 8, none⟩ = some (.int .u8 0) ∧ w'.cell? ⟨w.heap.size, 9, none⟩ = some (.int .u8 0) ∧ w'.cell? ⟨w.heap.size, 10, none⟩ = some (.int .u8 0) ∧ w'.cell? ⟨w.heap.size, 11, none⟩ = some (.int .u8 0)) from fun u hu => by
    refine (sframe_any B D false 291 false 1 10 0 0 0 0 0 0 0 _ 4 false u (HSU.out u hu)).mono ?_
    rintro _ w' ⟨rfl, hb⟩
    exact ⟨rfl, HZC.out _ _ hu hb⟩)
  have K5 := Lib.hid (show ∀ u, (Below w12.heap.size w12 u ∧ u.cell? ⟨w.heap.size, 0, none⟩ = some (.bool false) ∧ u.cell? ⟨w.heap.size, 1, none⟩ = some (.int .u32 291) ∧ u.cell? ⟨w.heap.size, 2, none⟩ = some (.bool false) ∧ u.cell? ⟨w.heap.size, 3, none⟩ = some (.int .i64 1) ∧ u.cell? ⟨w.heap.size, 4, none⟩ = some (.int .u8 10) ∧ u.cell? ⟨w.heap.size, 5, none⟩ = some (.int .u8 0) ∧ u.cell? ⟨w.heap.size, 6, none⟩ = some (.int .u8 0) ∧ u.cell? ⟨w.heap.size, 7, none⟩ = some (.int .u8 0) ∧ u.cell? ⟨w.heap.size, 8, none⟩ = some (.int .u8 0) ∧ u.cell? ⟨w.heap.size, 9, none⟩ = some (.int .u8 0) ∧ u.cell? ⟨w.heap.size, 10, none⟩ = some (.int .u8 0) ∧ u.cell? ⟨w.heap.size, 11, none⟩ = some (.int .u8 0)) → Calls Tryd.prog 32 #[.pointer none] u fun y w' => y = .returned (.int .u8 1) ∧ (Below w12.heap.size w12 w' ∧ w'.cell? ⟨w.heap.size, 0, none⟩ = some (.bool false) ∧ w'.cell? ⟨w.heap.size, 1, none⟩ = some (.int .u32 291) ∧ w'.cell? ⟨w.heap.size, 2, none⟩ = some (.bool false) ∧ w'.cell? ⟨w.heap.size, 3, none⟩ = some (.int .i64 1) ∧ w'.cell? ⟨w.heap.size, 4, none⟩ = some (.int .u8 10) ∧ w'.cell? ⟨w.heap.size, 5, none⟩ = some (.int .u8 0) ∧ w'.cell? ⟨w.heap.size, 6, none⟩ = some (.int .u8 0) ∧ w'.cell? ⟨w.heap.size, 7, none⟩ = some (.int .u8 0) ∧ w'.cell? ⟨w.heap.size, 8, none⟩ = some (.int .u8 0) ∧ w'.cell? ⟨w.heap.size, 9, none⟩ = some (.int .u8 0) ∧ w'.cell? ⟨w.heap.size, 10, none⟩ = some (.int .u8 0) ∧ w'.cell? ⟨w.heap.size, 11, none⟩ = some (.int .u8 0)) from fun u hu => by
    refine (nbit_any u).mono ?_
    rintro _ w' ⟨rfl, hb⟩
    exact ⟨rfl, HZC.out _ _ hu hb⟩)
  have K6 := Lib.hid (show ∀ u, (Below w12.heap.size w12 u ∧ u.cell? ⟨w.heap.size, 0, none⟩ = some (.bool false) ∧ u.cell? ⟨w.heap.size, 1, none⟩ = some (.int .u32 291) ∧ u.cell? ⟨w.heap.size, 2, none⟩ = some (.bool false) ∧ u.cell? ⟨w.heap.size, 3, none⟩ = some (.int .i64 1) ∧ u.cell? ⟨w.heap.size, 4, none⟩ = some (.int .u8 10) ∧ u.cell? ⟨w.heap.size, 5, none⟩ = some (.int .u8 0) ∧ u.cell? ⟨w.heap.size, 6, none⟩ = some (.int .u8 0) ∧ u.cell? ⟨w.heap.size, 7, none⟩ = some (.int .u8 0) ∧ u.cell? ⟨w.heap.size, 8, none⟩ = some (.int .u8 0) ∧ u.cell? ⟨w.heap.size, 9, none⟩ = some (.int .u8 0) ∧ u.cell? ⟨w.heap.size, 10, none⟩ = some (.int .u8 0) ∧ u.cell? ⟨w.heap.size, 11, none⟩ = some (.int .u8 0)) → Calls Tryd.prog 33 #[.pointer none, .int .u8 0] u fun y w' => y = .returned (.int .i64 0) ∧ (Below w12.heap.size w12 w' ∧ w'.cell? ⟨w.heap.size, 0, none⟩ = some (.bool false) ∧ w'.cell? ⟨w.heap.size, 1, none⟩ = some (.int .u32 291) ∧ w'.cell? ⟨w.heap.size, 2, none⟩ = some (.bool false) ∧ w'.cell? ⟨w.heap.size, 3, none⟩ = some (.int .i64 1) ∧ w'.cell? ⟨w.heap.size, 4, none⟩ = some (.int .u8 10) ∧ w'.cell? ⟨w.heap.size, 5, none⟩ = some (.int .u8 0) ∧ w'.cell? ⟨w.heap.size, 6, none⟩ = some (.int .u8 0) ∧ w'.cell? ⟨w.heap.size, 7, none⟩ = some (.int .u8 0) ∧ w'.cell? ⟨w.heap.size, 8, none⟩ = some (.int .u8 0) ∧ w'.cell? ⟨w.heap.size, 9, none⟩ = some (.int .u8 0) ∧ w'.cell? ⟨w.heap.size, 10, none⟩ = some (.int .u8 0) ∧ w'.cell? ⟨w.heap.size, 11, none⟩ = some (.int .u8 0)) from fun u hu => by
    refine (nhd_any 0 u).mono ?_
    rintro _ w' ⟨rfl, hb⟩
    exact ⟨rfl, HZC.out _ _ hu hb⟩)
  have K7 := Lib.hid (show ∀ u, (Below w12.heap.size w12 u ∧ u.cell? ⟨w.heap.size, 0, none⟩ = some (.bool false) ∧ u.cell? ⟨w.heap.size, 1, none⟩ = some (.int .u32 291) ∧ u.cell? ⟨w.heap.size, 2, none⟩ = some (.bool false) ∧ u.cell? ⟨w.heap.size, 3, none⟩ = some (.int .i64 1) ∧ u.cell? ⟨w.heap.size, 4, none⟩ = some (.int .u8 10) ∧ u.cell? ⟨w.heap.size, 5, none⟩ = some (.int .u8 0) ∧ u.cell? ⟨w.heap.size, 6, none⟩ = some (.int .u8 0) ∧ u.cell? ⟨w.heap.size, 7, none⟩ = some (.int .u8 0) ∧ u.cell? ⟨w.heap.size, 8, none⟩ = some (.int .u8 0) ∧ u.cell? ⟨w.heap.size, 9, none⟩ = some (.int .u8 0) ∧ u.cell? ⟨w.heap.size, 10, none⟩ = some (.int .u8 0) ∧ u.cell? ⟨w.heap.size, 11, none⟩ = some (.int .u8 0)) → Calls Tryd.prog 35 #[.pointer none] u fun y w' => y = .returned (.int .i64 0) ∧ (Below w12.heap.size w12 w' ∧ w'.cell? ⟨w.heap.size, 0, none⟩ = some (.bool false) ∧ w'.cell? ⟨w.heap.size, 1, none⟩ = some (.int .u32 291) ∧ w'.cell? ⟨w.heap.size, 2, none⟩ = some (.bool false) ∧ w'.cell? ⟨w.heap.size, 3, none⟩ = some (.int .i64 1) ∧ w'.cell? ⟨w.heap.size, 4, none⟩ = some (.int .u8 10) ∧ w'.cell? ⟨w.heap.size, 5, none⟩ = some (.int .u8 0) ∧ w'.cell? ⟨w.heap.size, 6, none⟩ = some (.int .u8 0) ∧ w'.cell? ⟨w.heap.size, 7, none⟩ = some (.int .u8 0) ∧ w'.cell? ⟨w.heap.size, 8, none⟩ = some (.int .u8 0) ∧ w'.cell? ⟨w.heap.size, 9, none⟩ = some (.int .u8 0) ∧ w'.cell? ⟨w.heap.size, 10, none⟩ = some (.int .u8 0) ∧ w'.cell? ⟨w.heap.size, 11, none⟩ = some (.int .u8 0)) from fun u hu => by
    refine (nsent_any u).mono ?_
    rintro _ w' ⟨rfl, rfl⟩
    have hb := Below.refl u.heap.size u
    exact ⟨rfl, HZC.out _ _ hu hb⟩)
  have z0 := HZ.out _ (Below.refl _ _)
  have z1 := HZ.out _ (Below.refl _ _).drew
  go_cut [0] (fun s0 wx => s0 = .bool true ∧ Below w12.heap.size w12 wx)
  case first =>
    go_region_held3 (fun u => (Below w12.heap.size w12 u ∧ u.cell? ⟨w.heap.size, 0, none⟩ = some (.bool false) ∧ u.cell? ⟨w.heap.size, 1, none⟩ = some (.int .u32 291) ∧ u.cell? ⟨w.heap.size, 2, none⟩ = some (.bool false) ∧ u.cell? ⟨w.heap.size, 3, none⟩ = some (.int .i64 1) ∧ u.cell? ⟨w.heap.size, 4, none⟩ = some (.int .u8 10) ∧ u.cell? ⟨w.heap.size, 5, none⟩ = some (.int .u8 0) ∧ u.cell? ⟨w.heap.size, 6, none⟩ = some (.int .u8 0) ∧ u.cell? ⟨w.heap.size, 7, none⟩ = some (.int .u8 0) ∧ u.cell? ⟨w.heap.size, 8, none⟩ = some (.int .u8 0) ∧ u.cell? ⟨w.heap.size, 9, none⟩ = some (.int .u8 0) ∧ u.cell? ⟨w.heap.size, 10, none⟩ = some (.int .u8 0) ∧ u.cell? ⟨w.heap.size, 11, none⟩ = some (.int .u8 0))) (repeat (first | (with_reducible assumption) | (with_reducible refine HZA.out _ _ ?_) | (with_reducible refine HZD.out _ ?_))) (first | (go_at_call 32; have zz := h24S; clear zz; refine (K5.out _ (by repeat (first | (with_reducible assumption) | (with_reducible refine HZA.out _ _ ?_) | (with_reducible refine HZD.out _ ?_)))).mono ?_; rintro y25 v25 ⟨rfl, h25S⟩) | (go_at_call 35; have zz := h26S; clear zz; refine (K7.out _ (by repeat (first | (with_reducible assumption) | (with_reducible refine HZA.out _ _ ?_) | (with_reducible refine HZD.out _ ?_)))).mono ?_; rintro y27 v27 ⟨rfl, h27S⟩) | (go_at_call 32; refine (K1.out _ (by repeat (first | (with_reducible assumption) | (with_reducible refine HZA.out _ _ ?_) | (with_reducible refine HZD.out _ ?_)))).mono ?_; rintro y21 v21 ⟨rfl, h21S⟩) | (go_at_call 74; refine (K2.out _ (by repeat (first | (with_reducible assumption) | (with_reducible refine HZA.out _ _ ?_) | (with_reducible refine HZD.out _ ?_)))).mono ?_; rintro y22 v22 ⟨rfl, h22S⟩) | (go_at_call 35; refine (K3.out _ (by repeat (first | (with_reducible assumption) | (with_reducible refine HZA.out _ _ ?_) | (with_reducible refine HZD.out _ ?_)))).mono ?_; rintro y23 v23 ⟨rfl, h23S⟩) | (go_at_call 75; refine (K4.out _ (by repeat (first | (with_reducible assumption) | (with_reducible refine HZA.out _ _ ?_) | (with_reducible refine HZD.out _ ?_)))).mono ?_; rintro y24 v24 ⟨rfl, h24S⟩) | (go_at_call 33; refine (K6.out _ (by repeat (first | (with_reducible assumption) | (with_reducible refine HZA.out _ _ ?_) | (with_reducible refine HZD.out _ ?_)))).mono ?_; rintro y26 v26 ⟨rfl, h26S⟩))
    all_goals (go_wp2_with fail; go_meet)
    all_goals exact ⟨rfl, h27S.1⟩
  case rest =>
  obtain ⟨rfl, hbx⟩ := hcut
  go_wp2_with fail
  go_ret
  exact ⟨rfl, below_trans' HB12.out hbx⟩
end Go.Proofs.YtmfnkfiocnngeaaDoor
