/- Who sends: a new one (New), and its frame (Frame). Conditions: the divisor's cells hold what the program's own text lays in them. -/
import Derived.Test.YtmfnkfiocnngeaaDoorSpe
namespace Go.Proofs.YtmfnkfiocnngeaaDoor
open Go.RowKit Go.Shelf
theorem SPA.new (u : World) (D : Nat) (fr : List Value) (hfr : fr.length = 12) (L : List PB) (h : Blk u D 104 (flatP L)) : SPA (u.alloc (.cells ((fr ++ [Value.slice (some ⟨D, 0, none⟩) L.length L.length, Value.int .i64 0]).toArray) 99)) u.heap.size D fr L 0 true := by
  refine ⟨?_, h.keep ((Below.refl _ _).alloc (Nat.le_refl _) _) h.lt, hfr, by have := h.lt; omega⟩
  rw [if_pos rfl, Nat.mul_zero, Nat.sub_zero]
  exact Blk.new u _ _
theorem snew_no (e : Bool) (n : Nat) (r : Bool) (m : Int) (data : List Nat) (hd : data.length = 8) (c : Nat) (hc : rightF e n r m data = c) (hok : c ≠ 0) (w : World) :
    Calls Tryd.prog 28 #[frameV e n r m data] w fun y w' => y = .returned (.tuple #[.pointer none, .int .i64 (c : Int)]) ∧ Below w.heap.size w w' := by
  have HR := Lib.hid (fun u => frameRight_any e n r m data hd u)
  rw [hc] at HR
  have HC := Lib.hid (FrameAt.new w 27 e n r m data hd)
  obtain ⟨d0, d1, d2, d3, d4, d5, d6, d7, rfl⟩ := eight hd
  simp only [frameV, frameC, List.map] at HC HR ⊢
  obtain ⟨p0, p1, p2, p3, p4, p5, p6, p7, p8, p9, p10, p11⟩ := HC.out.cells
  have i0 : ((c : Int) != 0) = true := by simp; omega
  clear hd hc hok
  go_enter Tryd.func28, Tryd.ntmps28
  go_wp2_with fail
  refine (HR.out _).mono ?_
  rintro y w1 ⟨rfl, hb⟩
  have HB1 := Lib.hid (below_trans' ((Below.refl _ w).alloc (Nat.le_refl _) _) hb)
  clear hb p0 p1 p2 p3 p4 p5 p6 p7 p8 p9 p10 p11
  go_wp2_with fail
  exact bodyPost_ret (v := .tuple #[.pointer none, .int .i64 (c : Int)]) (by simp [results, Tryd.results28, go_sem]) rfl ⟨rfl, HB1.out⟩
set_option maxRecDepth 100000 in
set_option maxHeartbeats 8000000 in
theorem snew_yes (e : Bool) (n : Nat) (hn : n < 4294967296) (r : Bool) (m : Nat) (data : List Nat) (hd : data.length = 8) (hdb : ∀ x ∈ data, x < 256) (hok : rightF e n r (m : Int) data = 0) (w : World) (h0 : 1 < w.heap.size) (hT : Tab w) :
    Calls Tryd.prog 28 #[frameV e n r (m : Int) data] w fun y w' => ∃ B D, y = .returned (.tuple #[.pointer (some ⟨B, 0, none⟩), .int .i64 0]) ∧ w.heap.size ≤ B ∧ w.heap.size ≤ D ∧ SPA w' B D (frameC e n r (m : Int) data) (partsB (1 + (idBits e n r).length) (stuffB (bodyB e n r m data))) 0 true ∧ Below w.heap.size w w' := by
  have HR := Lib.hid (fun u => frameRight_any e n r (m : Int) data hd u)
  rw [hok] at HR
  obtain ⟨W0, hW0⟩ : ∃ W0, W0 = w.alloc (.cells ((frameC e n r (m : Int) data).toArray) 27) := ⟨_, rfl⟩
  have hbW : Below w.heap.size w W0 := by rw [hW0]; exact (Below.refl _ w).alloc (Nat.le_refl _) _
  have HFA := Lib.hid (show FrameAt W0 w.heap.size e n r (m : Int) data by rw [hW0]; exact FrameAt.new w _ e n r m data hd)
  have hsz0 : w.heap.size < W0.heap.size := by rw [hW0]; simp
  have HSZ := Lib.hid hsz0
  have HBW := Lib.hid hbW
  have HPS := Lib.hid (fun u (hu : Below W0.heap.size W0 u) => parts_any e n hn r m data hd hdb hok u (by have := hu.size; omega) ((hT.onB hbW h0).onB hu (by omega)))
  have hel := encB_length (e := e) (n := n) (r := r) (len := m) (data := data)
  obtain ⟨PL, hPL⟩ : ∃ PL, PL = partsB (1 + (idBits e n r).length) (stuffB (bodyB e n r m data)) := ⟨_, rfl⟩
  have HLEN := Lib.hid (show PL.length = (encB e n r m data).length by rw [hPL, partsB_length, hel])
  rw [← hPL] at HPS ⊢
  rw [← HLEN.out] at HPS
  obtain ⟨N, hN⟩ : ∃ N, N = PL.length := ⟨_, rfl⟩
  have HN := Lib.hid hN
  rw [← hN] at HPS
  obtain ⟨d0, d1, d2, d3, d4, d5, d6, d7, rfl⟩ := eight hd
  have HNEW := Lib.hid (show ∀ u D, Blk u D 104 (flatP PL) → SPA (u.alloc (.cells #[.bool e, .int .u32 (n : Int), .bool r, .int .i64 (m : Int), .int .u8 (d0 : Int), .int .u8 (d1 : Int), .int .u8 (d2 : Int), .int .u8 (d3 : Int), .int .u8 (d4 : Int), .int .u8 (d5 : Int), .int .u8 (d6 : Int), .int .u8 (d7 : Int), .slice (some ⟨D, 0, none⟩) N N, .int .i64 0] 99)) u.heap.size D (frameC e n r (m : Int) [d0, d1, d2, d3, d4, d5, d6, d7]) PL 0 true from fun u D h => by
    have := SPA.new u D (frameC e n r (m : Int) [d0, d1, d2, d3, d4, d5, d6, d7]) rfl PL h
    rw [← HN.out] at this
    exact this)
  simp only [frameV, frameC, List.map] at HPS HR HNEW hW0 ⊢
  have HPSC := Lib.hid (show ∀ u, (Below W0.heap.size W0 u ∧ u.cell? ⟨w.heap.size, 0, none⟩ = some (.bool e) ∧ u.cell? ⟨w.heap.size, 1, none⟩ = some (.int .u32 (n : Int)) ∧ u.cell? ⟨w.heap.size, 2, none⟩ = some (.bool r) ∧ u.cell? ⟨w.heap.size, 3, none⟩ = some (.int .i64 (m : Int)) ∧ u.cell? ⟨w.heap.size, 4, none⟩ = some (.int .u8 (d0 : Int)) ∧ u.cell? ⟨w.heap.size, 5, none⟩ = some (.int .u8 (d1 : Int)) ∧ u.cell? ⟨w.heap.size, 6, none⟩ = some (.int .u8 (d2 : Int)) ∧ u.cell? ⟨w.heap.size, 7, none⟩ = some (.int .u8 (d3 : Int)) ∧ u.cell? ⟨w.heap.size, 8, none⟩ = some (.int .u8 (d4 : Int)) ∧ u.cell? ⟨w.heap.size, 9, none⟩ = some (.int .u8 (d5 : Int)) ∧ u.cell? ⟨w.heap.size, 10, none⟩ = some (.int .u8 (d6 : Int)) ∧ u.cell? ⟨w.heap.size, 11, none⟩ = some (.int .u8 (d7 : Int))) → Calls Tryd.prog 71 #[.agg #[.bool e, .int .u32 (n : Int), .bool r, .int .i64 (m : Int), .int .u8 (d0 : Int), .int .u8 (d1 : Int), .int .u8 (d2 : Int), .int .u8 (d3 : Int), .int .u8 (d4 : Int), .int .u8 (d5 : Int), .int .u8 (d6 : Int), .int .u8 (d7 : Int)]] u fun x w' => ∃ D, x = .returned (.slice (some ⟨D, 0, none⟩) N N) ∧ w.heap.size ≤ D ∧ Blk w' D 104 (flatP PL) ∧ Below u.heap.size u w' from fun u hu => (HPS.out u hu.1).mono fun x w' h => by
    obtain ⟨D, rfl, h1, h2, h3⟩ := h
    exact ⟨D, rfl, by have := hu.1.size; have := HSZ.out; omega, h2, h3⟩)
  have HS := Lib.hid (show ∀ u, Below W0.heap.size W0 u → (Below W0.heap.size W0 u ∧ u.cell? ⟨w.heap.size, 0, none⟩ = some (.bool e) ∧ u.cell? ⟨w.heap.size, 1, none⟩ = some (.int .u32 (n : Int)) ∧ u.cell? ⟨w.heap.size, 2, none⟩ = some (.bool r) ∧ u.cell? ⟨w.heap.size, 3, none⟩ = some (.int .i64 (m : Int)) ∧ u.cell? ⟨w.heap.size, 4, none⟩ = some (.int .u8 (d0 : Int)) ∧ u.cell? ⟨w.heap.size, 5, none⟩ = some (.int .u8 (d1 : Int)) ∧ u.cell? ⟨w.heap.size, 6, none⟩ = some (.int .u8 (d2 : Int)) ∧ u.cell? ⟨w.heap.size, 7, none⟩ = some (.int .u8 (d3 : Int)) ∧ u.cell? ⟨w.heap.size, 8, none⟩ = some (.int .u8 (d4 : Int)) ∧ u.cell? ⟨w.heap.size, 9, none⟩ = some (.int .u8 (d5 : Int)) ∧ u.cell? ⟨w.heap.size, 10, none⟩ = some (.int .u8 (d6 : Int)) ∧ u.cell? ⟨w.heap.size, 11, none⟩ = some (.int .u8 (d7 : Int))) from fun u hu => by
    obtain ⟨p0, p1, p2, p3, p4, p5, p6, p7, p8, p9, p10, p11⟩ := (HFA.out.keep hu HSZ.out).cells
    exact ⟨hu, p0, p1, p2, p3, p4, p5, p6, p7, p8, p9, p10, p11⟩)
  have HZA := Lib.hid (show ∀ u o, (Below W0.heap.size W0 u ∧ u.cell? ⟨w.heap.size, 0, none⟩ = some (.bool e) ∧ u.cell? ⟨w.heap.size, 1, none⟩ = some (.int .u32 (n : Int)) ∧ u.cell? ⟨w.heap.size, 2, none⟩ = some (.bool r) ∧ u.cell? ⟨w.heap.size, 3, none⟩ = some (.int .i64 (m : Int)) ∧ u.cell? ⟨w.heap.size, 4, none⟩ = some (.int .u8 (d0 : Int)) ∧ u.cell? ⟨w.heap.size, 5, none⟩ = some (.int .u8 (d1 : Int)) ∧ u.cell? ⟨w.heap.size, 6, none⟩ = some (.int .u8 (d2 : Int)) ∧ u.cell? ⟨w.heap.size, 7, none⟩ = some (.int .u8 (d3 : Int)) ∧ u.cell? ⟨w.heap.size, 8, none⟩ = some (.int .u8 (d4 : Int)) ∧ u.cell? ⟨w.heap.size, 9, none⟩ = some (.int .u8 (d5 : Int)) ∧ u.cell? ⟨w.heap.size, 10, none⟩ = some (.int .u8 (d6 : Int)) ∧ u.cell? ⟨w.heap.size, 11, none⟩ = some (.int .u8 (d7 : Int))) → (Below W0.heap.size W0 (u.alloc o) ∧ (u.alloc o).cell? ⟨w.heap.size, 0, none⟩ = some (.bool e) ∧ (u.alloc o).cell? ⟨w.heap.size, 1, none⟩ = some (.int .u32 (n : Int)) ∧ (u.alloc o).cell? ⟨w.heap.size, 2, none⟩ = some (.bool r) ∧ (u.alloc o).cell? ⟨w.heap.size, 3, none⟩ = some (.int .i64 (m : Int)) ∧ (u.alloc o).cell? ⟨w.heap.size, 4, none⟩ = some (.int .u8 (d0 : Int)) ∧ (u.alloc o).cell? ⟨w.heap.size, 5, none⟩ = some (.int .u8 (d1 : Int)) ∧ (u.alloc o).cell? ⟨w.heap.size, 6, none⟩ = some (.int .u8 (d2 : Int)) ∧ (u.alloc o).cell? ⟨w.heap.size, 7, none⟩ = some (.int .u8 (d3 : Int)) ∧ (u.alloc o).cell? ⟨w.heap.size, 8, none⟩ = some (.int .u8 (d4 : Int)) ∧ (u.alloc o).cell? ⟨w.heap.size, 9, none⟩ = some (.int .u8 (d5 : Int)) ∧ (u.alloc o).cell? ⟨w.heap.size, 10, none⟩ = some (.int .u8 (d6 : Int)) ∧ (u.alloc o).cell? ⟨w.heap.size, 11, none⟩ = some (.int .u8 (d7 : Int))) from fun u o h => HS.out _ (h.1.alloc h.1.size o))
  have HZD := Lib.hid (show ∀ u, (Below W0.heap.size W0 u ∧ u.cell? ⟨w.heap.size, 0, none⟩ = some (.bool e) ∧ u.cell? ⟨w.heap.size, 1, none⟩ = some (.int .u32 (n : Int)) ∧ u.cell? ⟨w.heap.size, 2, none⟩ = some (.bool r) ∧ u.cell? ⟨w.heap.size, 3, none⟩ = some (.int .i64 (m : Int)) ∧ u.cell? ⟨w.heap.size, 4, none⟩ = some (.int .u8 (d0 : Int)) ∧ u.cell? ⟨w.heap.size, 5, none⟩ = some (.int .u8 (d1 : Int)) ∧ u.cell? ⟨w.heap.size, 6, none⟩ = some (.int .u8 (d2 : Int)) ∧ u.cell? ⟨w.heap.size, 7, none⟩ = some (.int .u8 (d3 : Int)) ∧ u.cell? ⟨w.heap.size, 8, none⟩ = some (.int .u8 (d4 : Int)) ∧ u.cell? ⟨w.heap.size, 9, none⟩ = some (.int .u8 (d5 : Int)) ∧ u.cell? ⟨w.heap.size, 10, none⟩ = some (.int .u8 (d6 : Int)) ∧ u.cell? ⟨w.heap.size, 11, none⟩ = some (.int .u8 (d7 : Int))) → (Below W0.heap.size W0 u.drew ∧ u.drew.cell? ⟨w.heap.size, 0, none⟩ = some (.bool e) ∧ u.drew.cell? ⟨w.heap.size, 1, none⟩ = some (.int .u32 (n : Int)) ∧ u.drew.cell? ⟨w.heap.size, 2, none⟩ = some (.bool r) ∧ u.drew.cell? ⟨w.heap.size, 3, none⟩ = some (.int .i64 (m : Int)) ∧ u.drew.cell? ⟨w.heap.size, 4, none⟩ = some (.int .u8 (d0 : Int)) ∧ u.drew.cell? ⟨w.heap.size, 5, none⟩ = some (.int .u8 (d1 : Int)) ∧ u.drew.cell? ⟨w.heap.size, 6, none⟩ = some (.int .u8 (d2 : Int)) ∧ u.drew.cell? ⟨w.heap.size, 7, none⟩ = some (.int .u8 (d3 : Int)) ∧ u.drew.cell? ⟨w.heap.size, 8, none⟩ = some (.int .u8 (d4 : Int)) ∧ u.drew.cell? ⟨w.heap.size, 9, none⟩ = some (.int .u8 (d5 : Int)) ∧ u.drew.cell? ⟨w.heap.size, 10, none⟩ = some (.int .u8 (d6 : Int)) ∧ u.drew.cell? ⟨w.heap.size, 11, none⟩ = some (.int .u8 (d7 : Int))) from fun u h => HS.out _ h.1.drew)
  have HZC := Lib.hid (show ∀ u u', (Below W0.heap.size W0 u ∧ u.cell? ⟨w.heap.size, 0, none⟩ = some (.bool e) ∧ u.cell? ⟨w.heap.size, 1, none⟩ = some (.int .u32 (n : Int)) ∧ u.cell? ⟨w.heap.size, 2, none⟩ = some (.bool r) ∧ u.cell? ⟨w.heap.size, 3, none⟩ = some (.int .i64 (m : Int)) ∧ u.cell? ⟨w.heap.size, 4, none⟩ = some (.int .u8 (d0 : Int)) ∧ u.cell? ⟨w.heap.size, 5, none⟩ = some (.int .u8 (d1 : Int)) ∧ u.cell? ⟨w.heap.size, 6, none⟩ = some (.int .u8 (d2 : Int)) ∧ u.cell? ⟨w.heap.size, 7, none⟩ = some (.int .u8 (d3 : Int)) ∧ u.cell? ⟨w.heap.size, 8, none⟩ = some (.int .u8 (d4 : Int)) ∧ u.cell? ⟨w.heap.size, 9, none⟩ = some (.int .u8 (d5 : Int)) ∧ u.cell? ⟨w.heap.size, 10, none⟩ = some (.int .u8 (d6 : Int)) ∧ u.cell? ⟨w.heap.size, 11, none⟩ = some (.int .u8 (d7 : Int))) → Below u.heap.size u u' → (Below W0.heap.size W0 u' ∧ u'.cell? ⟨w.heap.size, 0, none⟩ = some (.bool e) ∧ u'.cell? ⟨w.heap.size, 1, none⟩ = some (.int .u32 (n : Int)) ∧ u'.cell? ⟨w.heap.size, 2, none⟩ = some (.bool r) ∧ u'.cell? ⟨w.heap.size, 3, none⟩ = some (.int .i64 (m : Int)) ∧ u'.cell? ⟨w.heap.size, 4, none⟩ = some (.int .u8 (d0 : Int)) ∧ u'.cell? ⟨w.heap.size, 5, none⟩ = some (.int .u8 (d1 : Int)) ∧ u'.cell? ⟨w.heap.size, 6, none⟩ = some (.int .u8 (d2 : Int)) ∧ u'.cell? ⟨w.heap.size, 7, none⟩ = some (.int .u8 (d3 : Int)) ∧ u'.cell? ⟨w.heap.size, 8, none⟩ = some (.int .u8 (d4 : Int)) ∧ u'.cell? ⟨w.heap.size, 9, none⟩ = some (.int .u8 (d5 : Int)) ∧ u'.cell? ⟨w.heap.size, 10, none⟩ = some (.int .u8 (d6 : Int)) ∧ u'.cell? ⟨w.heap.size, 11, none⟩ = some (.int .u8 (d7 : Int))) from fun u u' h hb => HS.out _ (h.1.trans (hb.mono h.1.size)))
  obtain ⟨_, p0, p1, p2, p3, p4, p5, p6, p7, p8, p9, p10, p11⟩ := HS.out _ (Below.refl _ _)
  clear hd hdb hok h0 hT hbW hsz0 hel hPL hN
  go_enter Tryd.func28, Tryd.ntmps28
  go_upto_region 1 with fail
  rw [← hW0]
  clear hW0
  go_wp2_with fail
  refine (HR.out _).mono ?_
  rintro y w1 ⟨rfl, hb⟩
  have hs1 := HS.out w1 hb
  clear p0 p1 p2 p3 p4 p5 p6 p7 p8 p9 p10 p11 hb
  go_upto_region 4 with fail
  have z1 := HZD.out _ hs1
  have HB1 := Lib.hid hs1.1
  go_cut [2, 3] (fun s2 s3 wx => ∃ B D, s2 = .pointer (some ⟨B, 0, none⟩) ∧ s3 = .int .i64 0 ∧ w.heap.size ≤ B ∧ w.heap.size ≤ D ∧ SPA wx B D [.bool e, .int .u32 (n : Int), .bool r, .int .i64 (m : Int), .int .u8 (d0 : Int), .int .u8 (d1 : Int), .int .u8 (d2 : Int), .int .u8 (d3 : Int), .int .u8 (d4 : Int), .int .u8 (d5 : Int), .int .u8 (d6 : Int), .int .u8 (d7 : Int)] PL 0 true ∧ Below w.heap.size w wx)
  case first =>
    go_region_held3 (fun u => (Below W0.heap.size W0 u ∧ u.cell? ⟨w.heap.size, 0, none⟩ = some (.bool e) ∧ u.cell? ⟨w.heap.size, 1, none⟩ = some (.int .u32 (n : Int)) ∧ u.cell? ⟨w.heap.size, 2, none⟩ = some (.bool r) ∧ u.cell? ⟨w.heap.size, 3, none⟩ = some (.int .i64 (m : Int)) ∧ u.cell? ⟨w.heap.size, 4, none⟩ = some (.int .u8 (d0 : Int)) ∧ u.cell? ⟨w.heap.size, 5, none⟩ = some (.int .u8 (d1 : Int)) ∧ u.cell? ⟨w.heap.size, 6, none⟩ = some (.int .u8 (d2 : Int)) ∧ u.cell? ⟨w.heap.size, 7, none⟩ = some (.int .u8 (d3 : Int)) ∧ u.cell? ⟨w.heap.size, 8, none⟩ = some (.int .u8 (d4 : Int)) ∧ u.cell? ⟨w.heap.size, 9, none⟩ = some (.int .u8 (d5 : Int)) ∧ u.cell? ⟨w.heap.size, 10, none⟩ = some (.int .u8 (d6 : Int)) ∧ u.cell? ⟨w.heap.size, 11, none⟩ = some (.int .u8 (d7 : Int)))) (repeat (first | (with_reducible assumption) | (with_reducible refine HZA.out _ _ ?_) | (with_reducible refine HZD.out _ ?_))) (first | (go_at_call 71; refine (HPSC.out _ (by repeat (first | (with_reducible assumption) | (with_reducible refine HZD.out _ ?_)))).mono ?_; rintro y4 w4 ⟨D4, rfl, hD4, hblk4, hb4⟩; have h4S := HZC.out _ _ (by repeat (first | (with_reducible assumption) | (with_reducible refine HZD.out _ ?_))) hb4))
    all_goals (go_wp2_with fail; go_meet)
    all_goals exact ⟨w4.heap.size, D4, rfl, rfl, by have := h4S.1.size; have := HSZ.out; omega, hD4, HNEW.out _ _ hblk4, (HBW.out.trans (h4S.1.mono HBW.out.size)).alloc (by have := h4S.1.size; have := HSZ.out; omega) _⟩
  case rest =>
  obtain ⟨B, D, rfl, rfl, h1, h2, h3, h4⟩ := hcut
  go_wp2_with fail
  exact bodyPost_ret (v := .tuple #[.pointer (some ⟨B, 0, none⟩), .int .i64 0]) (by simp [results, Tryd.results28, go_sem]) rfl ⟨B, D, rfl, h1, h2, h3, h4⟩
set_option maxRecDepth 100000 in
set_option maxHeartbeats 4000000 in
theorem sframe_any (B D : Nat) (e : Bool) (n : Nat) (q : Bool) (m : Nat) (x0 x1 x2 x3 x4 x5 x6 x7 : Nat) (L : List PB) (k : Nat) (on : Bool) (w : World) (hS : SPA w B D (frameC e n q (m : Int) [x0, x1, x2, x3, x4, x5, x6, x7]) L k on) :
    Calls Tryd.prog 75 #[.pointer (some ⟨B, 0, none⟩)] w fun y w' => y = .returned (frameV e n q (m : Int) [x0, x1, x2, x3, x4, x5, x6, x7]) ∧ Below w.heap.size w w' := by
  obtain ⟨wr, hwr⟩ : ∃ wr, wr = w.alloc (.cells #[.bool false, .int .u32 0, .bool false, .int .i64 0, .int .u8 0, .int .u8 0, .int .u8 0, .int .u8 0, .int .u8 0, .int .u8 0, .int .u8 0, .int .u8 0] 27) := ⟨_, rfl⟩
  have HR := Lib.hid (show Blk wr w.heap.size 27 (frameC false 0 false 0 [0, 0, 0, 0, 0, 0, 0, 0]) by rw [hwr]; exact Blk.new w _ _)
  have hB1 := hS.blk.keep (show Below w.heap.size w wr by rw [hwr]; exact (Below.refl _ w).alloc (Nat.le_refl _) _) hS.blk.lt
  have HW := Lib.hid (show Below w.heap.size w wr by rw [hwr]; exact (Below.refl _ w).alloc (Nat.le_refl _) _)
  have c0 : wr.cell? ⟨B, 0, none⟩ = some (.bool e) := hB1.cellAt (i := 0) (by simp [frameC])
  have g0 : wr.frozen? ⟨B, 0, none⟩ = false := hB1.frozenAt 0
  have c1 : wr.cell? ⟨B, 1, none⟩ = some (.int .u32 (n : Int)) := hB1.cellAt (i := 1) (by simp [frameC])
  have g1 : wr.frozen? ⟨B, 1, none⟩ = false := hB1.frozenAt 1
  have c2 : wr.cell? ⟨B, 2, none⟩ = some (.bool q) := hB1.cellAt (i := 2) (by simp [frameC])
  have g2 : wr.frozen? ⟨B, 2, none⟩ = false := hB1.frozenAt 2
  have c3 : wr.cell? ⟨B, 3, none⟩ = some (.int .i64 (m : Int)) := hB1.cellAt (i := 3) (by simp [frameC])
  have g3 : wr.frozen? ⟨B, 3, none⟩ = false := hB1.frozenAt 3
  have c4 : wr.cell? ⟨B, 4, none⟩ = some (.int .u8 (x0 : Int)) := hB1.cellAt (i := 4) (by simp [frameC])
  have g4 : wr.frozen? ⟨B, 4, none⟩ = false := hB1.frozenAt 4
  have c5 : wr.cell? ⟨B, 5, none⟩ = some (.int .u8 (x1 : Int)) := hB1.cellAt (i := 5) (by simp [frameC])
  have g5 : wr.frozen? ⟨B, 5, none⟩ = false := hB1.frozenAt 5
  have c6 : wr.cell? ⟨B, 6, none⟩ = some (.int .u8 (x2 : Int)) := hB1.cellAt (i := 6) (by simp [frameC])
  have g6 : wr.frozen? ⟨B, 6, none⟩ = false := hB1.frozenAt 6
  have c7 : wr.cell? ⟨B, 7, none⟩ = some (.int .u8 (x3 : Int)) := hB1.cellAt (i := 7) (by simp [frameC])
  have g7 : wr.frozen? ⟨B, 7, none⟩ = false := hB1.frozenAt 7
  have c8 : wr.cell? ⟨B, 8, none⟩ = some (.int .u8 (x4 : Int)) := hB1.cellAt (i := 8) (by simp [frameC])
  have g8 : wr.frozen? ⟨B, 8, none⟩ = false := hB1.frozenAt 8
  have c9 : wr.cell? ⟨B, 9, none⟩ = some (.int .u8 (x5 : Int)) := hB1.cellAt (i := 9) (by simp [frameC])
  have g9 : wr.frozen? ⟨B, 9, none⟩ = false := hB1.frozenAt 9
  have c10 : wr.cell? ⟨B, 10, none⟩ = some (.int .u8 (x6 : Int)) := hB1.cellAt (i := 10) (by simp [frameC])
  have g10 : wr.frozen? ⟨B, 10, none⟩ = false := hB1.frozenAt 10
  have c11 : wr.cell? ⟨B, 11, none⟩ = some (.int .u8 (x7 : Int)) := hB1.cellAt (i := 11) (by simp [frameC])
  have g11 : wr.frozen? ⟨B, 11, none⟩ = false := hB1.frozenAt 11
  obtain ⟨z0, z1, z2, z3, z4, z5, z6, z7, z8, z9, z10, z11⟩ := (HR.out.at rfl).cells
  obtain ⟨f0, f1, f2, f3, f4, f5, f6, f7, f8, f9, f10, f11⟩ := (HR.out.at rfl).frz
  clear hS hB1
  go_enter Tryd.func75, Tryd.ntmps75
  go_upto_region 1 with fail
  rw [← hwr]
  clear hwr
  go_wp2_with fail
  exact bodyPost_ret (v := frameV e n q (m : Int) [x0, x1, x2, x3, x4, x5, x6, x7]) (by simp [results, Tryd.results75, go_sem, World.cell?_setCell_same', z0, z1, z2, z3, z4, z5, z6, z7, z8, z9, z10, z11, frameV, frameC]) rfl ⟨rfl, below12 (Nat.le_refl _) HW.out _ _ _ _ _ _ _ _ _ _ _ _⟩
end Go.Proofs.YtmfnkfiocnngeaaDoor
