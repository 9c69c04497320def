/- The document's own boxes: a new one. Conditions: there are at most eight. -/
import Derived.Test.YtbdockeopbfliaaBra
import Derived.Test.YtbdockeopbfliaaBxe
namespace Go.Proofs.Ytbdockeopbfliaa
open Go.RowKit Go.Shelf
theorem info_post : (Try.prog.info? 39).map (fun i => (i.zero, i.size, i.bytes)) = some (some PD.zero.V, 14, 48) := by kernel_rfl
theorem info_has : (Try.prog.info? 4).map (fun i => (i.zero, i.size, i.bytes)) = some (some (.bool false), 1, 1) := by kernel_rfl
theorem zero_posts (n : Nat) : madeCells PD.zero.C.toArray (n * 14) = (rpC (List.replicate n BD.zero)).toArray := by
  apply Array.ext
  · rw [size_madeCells]; simp [rpC_len]
  · intro i h1 h2
    rw [size_madeCells] at h1
    have h := flat_at 14 (fun b : BD => b.p.C) (fun b => PD.len b.p) (List.replicate n BD.zero) (i / 14) (i % 14) (by simp; omega) (by omega)
    rw [show i / 14 * 14 + i % 14 = i by omega, List.getElem_replicate] at h
    have em : (madeCells PD.zero.C.toArray (n * 14))[i]'(by rw [size_madeCells]; exact h1) = PD.zero.C.toArray[i % 14]! := by
      simp [madeCells, PD.len]
    have e : (rpC (List.replicate n BD.zero)).toArray[i] = (rpC (List.replicate n BD.zero))[i]'(by simpa using h2) := by simp
    rw [em, e]
    have h3 : (rpC (List.replicate n BD.zero))[i]? = PD.zero.C[i % 14]? := h
    rw [List.getElem?_eq_getElem (by simpa using h2), List.getElem?_eq_getElem (by rw [PD.len]; omega)] at h3
    rw [Option.some.inj h3, getElem!_pos _ _ (by simp [PD.len]; omega)]
    simp
theorem zero_has (n : Nat) : madeCells #[.bool false] (n * 1) = (rhC (List.replicate n BD.zero)).toArray := by
  apply Array.ext
  · rw [size_madeCells]; simp [rhC_len]
  · intro i h1 h2
    rw [size_madeCells] at h1
    have em : (madeCells #[Value.bool false] (n * 1))[i]'(by rw [size_madeCells]; exact h1) = Value.bool false := by
      simp [madeCells, Nat.mod_one]
    rw [em]
    simp [rhC]
    rfl
theorem make_posts (n : Nat) (h : n ≤ 8) (u : World) : (Instr.makeSlice 48 (.int .i64 (n : Int)) (.int .i64 (n : Int))).run Try.prog u = .ok (.slice (some ⟨u.heap.size, 0, none⟩) n n) (u.alloc (.cells (rpC (List.replicate n BD.zero)).toArray 39)) := by
  obtain ⟨i0, hi, hz0, hz1, hz2⟩ := info_parts info_post
  have := run_make (P := Try.prog) u 48 39 i0 _ Try.underlying48 hi hz0 .i64 .i64 n n (by omega) (by omega) (by rw [hz2]; omega) (by omega)
  rw [hz1] at this
  rw [← zero_posts n]
  exact this
theorem make_has (n : Nat) (h : n ≤ 8) (u : World) : (Instr.makeSlice 49 (.int .i64 (n : Int)) (.int .i64 (n : Int))).run Try.prog u = .ok (.slice (some ⟨u.heap.size, 0, none⟩) n n) (u.alloc (.cells (rhC (List.replicate n BD.zero)).toArray 4)) := by
  obtain ⟨i0, hi, hz0, hz1, hz2⟩ := info_parts info_has
  have := run_make (P := Try.prog) u 49 4 i0 _ Try.underlying49 hi hz0 .i64 .i64 n n (by omega) (by omega) (by rw [hz2]; omega) (by omega)
  rw [hz1] at this
  rw [← zero_has n]
  exact this
theorem rb_of (w' : World) (B P H room : Nat) (h1 : 1 ≤ room) (h2 : room ≤ 8) (a : Blk w' B 51 [.slice (some ⟨P, 0, none⟩) room room, .slice (some ⟨H, 0, none⟩) room room]) (b : Blk w' P 39 (rpC (List.replicate room BD.zero))) (c : Blk w' H 4 (rhC (List.replicate room BD.zero))) (d : B ≠ P) (e : B ≠ H) (f : P ≠ H) : RB w' B P H (List.replicate 8 BD.zero) room := by
  have t : (List.replicate 8 BD.zero).take room = List.replicate room BD.zero := by rw [List.take_replicate, Nat.min_eq_left h2]
  exact ⟨a, by rw [t]; exact b, by rw [t]; exact c, rfl, h1, h2, d, e, f⟩
theorem three_blk (w : World) (T1 T2 T3 : TypeId) (l1 l2 l3 : List Value) : Blk (((w.alloc (.cells l1.toArray T1)).alloc (.cells l2.toArray T2)).alloc (.cells l3.toArray T3)).drew w.heap.size T1 l1 ∧ Blk (((w.alloc (.cells l1.toArray T1)).alloc (.cells l2.toArray T2)).alloc (.cells l3.toArray T3)).drew (w.heap.size + 1) T2 l2 ∧ Blk (((w.alloc (.cells l1.toArray T1)).alloc (.cells l2.toArray T2)).alloc (.cells l3.toArray T3)).drew (w.heap.size + 1 + 1) T3 l3 ∧ Below w.heap.size w (((w.alloc (.cells l1.toArray T1)).alloc (.cells l2.toArray T2)).alloc (.cells l3.toArray T3)).drew := by
  obtain ⟨u, hu⟩ : ∃ u, u = w.alloc (.cells l1.toArray T1) := ⟨_, rfl⟩
  have hs : u.heap.size = w.heap.size + 1 := by rw [hu]; simp
  have b1 : Blk u w.heap.size T1 l1 := by rw [hu]; exact Blk.new w T1 l1
  have k1 : Below w.heap.size w u := by rw [hu]; exact (Below.refl _ w).alloc (Nat.le_refl _) _
  rw [← hu]
  clear hu
  obtain ⟨v, hv⟩ : ∃ v, v = u.alloc (.cells l2.toArray T2) := ⟨_, rfl⟩
  have hs2 : v.heap.size = w.heap.size + 1 + 1 := by rw [hv]; simp [hs]
  have b2 : Blk v (w.heap.size + 1) T2 l2 := by rw [hv, ← hs]; exact Blk.new u T2 l2
  have k2 : Below u.heap.size u v := by rw [hv]; exact (Below.refl _ u).alloc (Nat.le_refl _) _
  rw [← hv]
  clear hv
  have k3 : Below v.heap.size v (v.alloc (.cells l3.toArray T3)) := (Below.refl _ v).alloc (Nat.le_refl _) _
  have b3 : Blk (v.alloc (.cells l3.toArray T3)) (w.heap.size + 1 + 1) T3 l3 := by rw [← hs2]; exact Blk.new v T3 l3
  exact ⟨((b1.keep k2 (by omega)).keep k3 (by omega)).drewG, (b2.keep k3 (by omega)).drewG, b3.drewG, (below_transG (below_transG k1 k2) k3).drew⟩
set_option maxRecDepth 100000 in
theorem rbnew_any (room : Nat) (h1 : 1 ≤ room) (h2 : room ≤ 8) (w : World) : Calls Try.prog 5 #[.int .i64 (room : Int)] w fun y w' => ∃ B, y = .returned (.tuple #[.pointer (some ⟨B, 0, none⟩), .int .i64 0]) ∧ ∃ P H : Nat, RB w' B P H (List.replicate 8 BD.zero) room ∧ w.heap.size ≤ B ∧ w.heap.size ≤ P ∧ w.heap.size ≤ H ∧ Below w.heap.size w w' := by
  have i1 : ¬ (room : Int) < 1 := by omega
  have i2 : ¬ (8 : Int) < (room : Int) := by omega
  have hm1 := fun u => make_posts room h2 u
  have hm2 := fun u => make_has room h2 u
  obtain ⟨Z, hZ⟩ : ∃ Z, Z = List.replicate 8 BD.zero := ⟨_, rfl⟩
  have HZ := Lib.hid hZ
  rw [← hZ]
  clear hZ
  go_enter Try.func5, Try.ntmps5
  go_upto_region 3 with fail
  go_region
  all_goals (go_wp2_with fail)
  all_goals refine bodyPost_ret (v := .tuple #[.pointer (some ⟨w.heap.size + 1 + 1, 0, none⟩), .int .i64 0]) (by simp [results, Try.results5, go_sem]) rfl ?_
  · obtain ⟨b1, b2, b3, k⟩ := three_blk w 39 4 51 (rpC (List.replicate room BD.zero)) (rhC (List.replicate room BD.zero)) [.slice (some ⟨w.heap.size, 0, none⟩) room room, .slice (some ⟨w.heap.size + 1, 0, none⟩) room room]
    exact ⟨_, rfl, _, _, by rw [HZ.out]; exact rb_of _ _ _ _ _ h1 h2 b3 b1 b2 (by omega) (by omega) (by omega), by omega, by omega, by omega, k⟩
  · obtain ⟨b1, b2, b3, k⟩ := three_blk w 4 39 51 (rhC (List.replicate room BD.zero)) (rpC (List.replicate room BD.zero)) [.slice (some ⟨w.heap.size + 1, 0, none⟩) room room, .slice (some ⟨w.heap.size, 0, none⟩) room room]
    exact ⟨_, rfl, _, _, by rw [HZ.out]; exact rb_of _ _ _ _ _ h1 h2 b3 b2 b1 (by omega) (by omega) (by omega), by omega, by omega, by omega, k⟩
end Go.Proofs.Ytbdockeopbfliaa
