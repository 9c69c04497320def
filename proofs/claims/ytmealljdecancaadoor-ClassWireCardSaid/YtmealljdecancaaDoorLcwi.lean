/- ClassWire (P23.3): the one that is before is the one whose identifier wins the bus; what a master tells wins over all. Conditions: none but the widths, which the card ties. -/
import Derived.Test.YtmealljdecancaaDoorRows
import Derived.Test.YtmealljdecancaaDoorCle
import Derived.Test.YtmealljdecancaaDoorClt
import Derived.WalkKit
import Derived.ProofKit
import Derived.OpenShut
import Derived.ShutString
import Derived.ChangeOld
import Derived.Below
namespace Go.Proofs.YtmealljdecancaaDoor.classWire
open Go.ChangeShapes Go.WideShapes Go.ChangeAt Go.RowKit
theorem own : ownKnob Tryd.prog.godebug = none := by kernel_rfl
theorem laidOut : laidOutB Tryd.prog = true := by kernel_rfl
theorem num_nat (c s t n : Int) (h : rightL c s t n = true) : ∃ N : Nat, numL c s t n = (N : Int) ∧ N < 536870912 ∧ 134217728 ≤ N := by
  have hin := of_decide_eq_true h
  refine ⟨(numL c s t n).toNat, ?_, ?_, ?_⟩
  · unfold numL; omega
  · unfold numL; omega
  · unfold numL; omega
theorem wins_num {N M : Nat} (hN : N < 536870912) (hM : M < 536870912) : winsI true N false true M false = decide (N < M) := by
  unfold winsI idKey rightI askN
  simp [hN, hM]
  omega
theorem wins_short {n N : Nat} (hn : n < 256) (hN : N < 536870912) (hN2 : 134217728 ≤ N) : winsI false n false true N false = true := by
  unfold winsI idKey rightI askN
  have : n < 2048 := by omega
  simp [hN, this]
  omega
theorem bef_num {c s t n c' s' t' n' : Int} (h : rightL c s t n = true) (h' : rightL c' s' t' n' = true) : befL c s t n c' s' t' n' = decide (numL c s t n < numL c' s' t' n') := by
  have h1 := of_decide_eq_true h
  have h2 := of_decide_eq_true h'
  unfold befL numL
  split
  · rw [decide_eq_decide]; omega
  · split
    · rw [decide_eq_decide]; omega
    · split
      · rw [decide_eq_decide]; omega
      · rw [decide_eq_decide]; omega
set_option maxRecDepth 100000 in
set_option maxHeartbeats 8000000 in
theorem walk (l m : Lb) (k : Int) (wk : (Lit.int .u8 k).wf = true) (w : World) (h0 : 0 < w.heap.size) (hT : TabW w) : Calls Tryd.prog 5 #[l.v, m.v, .int .u8 k] w fun y w' => y = .returned (.bool true) ∧ Below w.heap.size w w' := by
  have HTX := Lib.hid (show ∀ x, Below w.heap.size w x → 0 < x.heap.size ∧ TabW x from fun x hx => ⟨Nat.lt_of_lt_of_le h0 hx.size, hT.on hx h0⟩)
  have HTZ := Lib.hid hT; have H00 := Lib.hid h0
  clear hT h0
  have HL := Lib.hid (fun u a b => live23 u a b)
  have HR1 := Lib.hid (fun u => r23right_any l.c l.s l.t l.n u); have HR2 := Lib.hid (fun u => r23right_any m.c m.s m.t m.n u)
  have hk : 0 ≤ k ∧ k < 256 := by
    simp [Lit.wf, IntKind.min, IntKind.max, IntKind.bits, IntKind.signed] at wk
    omega
  obtain ⟨K, rfl⟩ := Int.eq_ofNat_of_zero_le hk.1
  have hK : K < 256 := by omega
  have eK : IntKind.u32.wrap (K : Int) = (K : Int) := by rw [IntKind.wrap_u32]; omega
  have eK2 : (K : Int) % 4294967296 = (K : Int) := by omega
  unfold Lb.v
  cases h1 : rightL l.c l.s l.t l.n
  · cases h2 : rightL m.c m.s m.t m.n
    · rw [h1] at HR1
      rw [h2] at HR2
      have HA := Lib.hid (fun u => clid_no l.c l.s l.t l.n h1 u)
      have HB' := Lib.hid (fun u => clid_no m.c m.s m.t m.n h2 u)
      clear h1 h2 hk wk
      go_enter Tryd.func5, Tryd.ntmps5
      go_upto_region 1 with fail
      obtain ⟨W1, hW1⟩ : ∃ W, W = ((w.alloc (.cells #[.int .i64 l.c, .int .i64 l.s, .int .i64 l.t, .int .i64 l.n] 24)).alloc (.cells #[.int .i64 m.c, .int .i64 m.s, .int .i64 m.t, .int .i64 m.n] 24)) := ⟨_, rfl⟩
      have hbel_ : Below w.heap.size w W1 := by rw [hW1]; exact (((Below.refl w.heap.size w).alloc (Nat.le_refl w.heap.size) _).alloc (by have := (Nat.le_refl w.heap.size); simp only [World.size_alloc]; omega) _)
      have h_l : Blk W1 w.heap.size 24 [.int .i64 l.c, .int .i64 l.s, .int .i64 l.t, .int .i64 l.n] := by rw [hW1]; exact (blk_at (w) w.heap.size (by rfl) 24 [.int .i64 l.c, .int .i64 l.s, .int .i64 l.t, .int .i64 l.n]).keep ((Below.refl (w.heap.size + 1) _).alloc (by simp only [World.size_alloc]; omega) _) (by omega)
      have h_m : Blk W1 (w.heap.size + 1) 24 [.int .i64 m.c, .int .i64 m.s, .int .i64 m.t, .int .i64 m.n] := by rw [hW1]; exact (blk_at ((w.alloc (.cells #[.int .i64 l.c, .int .i64 l.s, .int .i64 l.t, .int .i64 l.n] 24))) (w.heap.size + 1) (by simp only [World.size_alloc]) 24 [.int .i64 m.c, .int .i64 m.s, .int .i64 m.t, .int .i64 m.n]).keep (Below.refl ((w.heap.size + 1) + 1) _) (by omega)
      rw [← hW1]
      have HB1 := Lib.hid hbel_
      have Hl1 := Lib.hid h_l
      have Hm1 := Lib.hid h_m
      clear hbel_ hW1  h_l h_m
      have l_0 : W1.cell? ⟨w.heap.size, 0, none⟩ = some (.int .i64 l.c) := Hl1.out.cellAt (i := 0) (by simp)
      have l_1 : W1.cell? ⟨w.heap.size, 1, none⟩ = some (.int .i64 l.s) := Hl1.out.cellAt (i := 1) (by simp)
      have l_2 : W1.cell? ⟨w.heap.size, 2, none⟩ = some (.int .i64 l.t) := Hl1.out.cellAt (i := 2) (by simp)
      have l_3 : W1.cell? ⟨w.heap.size, 3, none⟩ = some (.int .i64 l.n) := Hl1.out.cellAt (i := 3) (by simp)
      go_wp2_with fail
      clear l_0 l_1 l_2 l_3
      refine (HA.out _ ).mono ?_
      rintro y w2 ⟨rfl, hb⟩
      have HB2 := Lib.hid (below_transG HB1.out hb)
      have Hl2 := Lib.hid (Hl1.out.keep hb Hl1.out.lt)
      have Hm2 := Lib.hid (Hm1.out.keep hb Hm1.out.lt)
      clear hb
      go_upto_region 2 with fail
      obtain ⟨W3, hW3⟩ : ∃ W, W = (w2.alloc (.cells #[.bool false, .int .u32 0] 27)) := ⟨_, rfl⟩
      have hbel_ : Below w.heap.size w W3 := by rw [hW3]; exact (HB2.out.alloc HB2.out.size _)
      have h_l : Blk W3 w.heap.size 24 [.int .i64 l.c, .int .i64 l.s, .int .i64 l.t, .int .i64 l.n] := by rw [hW3]; exact Hl2.out.keep ((Below.refl w2.heap.size w2).alloc (Nat.le_refl _) _) Hl2.out.lt
      have h_m : Blk W3 (w.heap.size + 1) 24 [.int .i64 m.c, .int .i64 m.s, .int .i64 m.t, .int .i64 m.n] := by rw [hW3]; exact Hm2.out.keep ((Below.refl w2.heap.size w2).alloc (Nat.le_refl _) _) Hm2.out.lt
      have h_x : Blk W3 w2.heap.size 27 [.bool false, .int .u32 0] := by rw [hW3]; exact (blk_at (w2) w2.heap.size (by rfl) 27 [.bool false, .int .u32 0]).keep (Below.refl (w2.heap.size + 1) _) (by omega)
      rw [← hW3]
      have HB3 := Lib.hid hbel_
      have Hl3 := Lib.hid h_l
      have Hm3 := Lib.hid h_m
      have Hx3 := Lib.hid h_x
      clear hbel_ hW3 h_l h_m h_x
      have m_0 : W3.cell? ⟨(w.heap.size + 1), 0, none⟩ = some (.int .i64 m.c) := Hm3.out.cellAt (i := 0) (by simp)
      have m_1 : W3.cell? ⟨(w.heap.size + 1), 1, none⟩ = some (.int .i64 m.s) := Hm3.out.cellAt (i := 1) (by simp)
      have m_2 : W3.cell? ⟨(w.heap.size + 1), 2, none⟩ = some (.int .i64 m.t) := Hm3.out.cellAt (i := 2) (by simp)
      have m_3 : W3.cell? ⟨(w.heap.size + 1), 3, none⟩ = some (.int .i64 m.n) := Hm3.out.cellAt (i := 3) (by simp)
      go_wp2_with fail
      clear m_0 m_1 m_2 m_3
      refine (HB'.out _ ).mono ?_
      rintro y w4 ⟨rfl, hb⟩
      have HB4 := Lib.hid (below_transG HB3.out hb)
      have Hl4 := Lib.hid (Hl3.out.keep hb Hl3.out.lt)
      have Hm4 := Lib.hid (Hm3.out.keep hb Hm3.out.lt)
      have Hx4 := Lib.hid (Hx3.out.keep hb Hx3.out.lt)
      clear hb
      go_upto_region 4 with fail
      obtain ⟨W5, hW5⟩ : ∃ W, W = (w4.alloc (.cells #[.bool false, .int .u32 0] 27)) := ⟨_, rfl⟩
      have hbel_ : Below w.heap.size w W5 := by rw [hW5]; exact (HB4.out.alloc HB4.out.size _)
      have h_l : Blk W5 w.heap.size 24 [.int .i64 l.c, .int .i64 l.s, .int .i64 l.t, .int .i64 l.n] := by rw [hW5]; exact Hl4.out.keep ((Below.refl w4.heap.size w4).alloc (Nat.le_refl _) _) Hl4.out.lt
      have h_m : Blk W5 (w.heap.size + 1) 24 [.int .i64 m.c, .int .i64 m.s, .int .i64 m.t, .int .i64 m.n] := by rw [hW5]; exact Hm4.out.keep ((Below.refl w4.heap.size w4).alloc (Nat.le_refl _) _) Hm4.out.lt
      have h_x : Blk W5 w2.heap.size 27 [.bool false, .int .u32 0] := by rw [hW5]; exact Hx4.out.keep ((Below.refl w4.heap.size w4).alloc (Nat.le_refl _) _) Hx4.out.lt
      have h_y : Blk W5 w4.heap.size 27 [.bool false, .int .u32 0] := by rw [hW5]; exact (blk_at (w4) w4.heap.size (by rfl) 27 [.bool false, .int .u32 0]).keep (Below.refl (w4.heap.size + 1) _) (by omega)
      rw [← hW5]
      have HB5 := Lib.hid hbel_
      have Hl5 := Lib.hid h_l
      have Hm5 := Lib.hid h_m
      have Hx5 := Lib.hid h_x
      have Hy5 := Lib.hid h_y
      clear hbel_ hW5 h_l h_m h_x h_y
      go_wp2_with fail
      refine (HL.out _ (HTX.out _ HB5.out).1 (HTX.out _ HB5.out).2).mono ?_
      rintro y w6 ⟨rfl, hb⟩
      have HB6 := Lib.hid (below_transG HB5.out hb)
      have Hl6 := Lib.hid (Hl5.out.keep hb Hl5.out.lt)
      have Hm6 := Lib.hid (Hm5.out.keep hb Hm5.out.lt)
      have Hx6 := Lib.hid (Hx5.out.keep hb Hx5.out.lt)
      have Hy6 := Lib.hid (Hy5.out.keep hb Hy5.out.lt)
      clear hb
      have l_0 : w6.cell? ⟨w.heap.size, 0, none⟩ = some (.int .i64 l.c) := Hl6.out.cellAt (i := 0) (by simp)
      have l_1 : w6.cell? ⟨w.heap.size, 1, none⟩ = some (.int .i64 l.s) := Hl6.out.cellAt (i := 1) (by simp)
      have l_2 : w6.cell? ⟨w.heap.size, 2, none⟩ = some (.int .i64 l.t) := Hl6.out.cellAt (i := 2) (by simp)
      have l_3 : w6.cell? ⟨w.heap.size, 3, none⟩ = some (.int .i64 l.n) := Hl6.out.cellAt (i := 3) (by simp)
      have m_0 : w6.cell? ⟨(w.heap.size + 1), 0, none⟩ = some (.int .i64 m.c) := Hm6.out.cellAt (i := 0) (by simp)
      have m_1 : w6.cell? ⟨(w.heap.size + 1), 1, none⟩ = some (.int .i64 m.s) := Hm6.out.cellAt (i := 1) (by simp)
      have m_2 : w6.cell? ⟨(w.heap.size + 1), 2, none⟩ = some (.int .i64 m.t) := Hm6.out.cellAt (i := 2) (by simp)
      have m_3 : w6.cell? ⟨(w.heap.size + 1), 3, none⟩ = some (.int .i64 m.n) := Hm6.out.cellAt (i := 3) (by simp)
      go_wp2_with fail
      clear l_0 l_1 l_2 l_3 m_0 m_1 m_2 m_3
      refine (HR1.out _).mono ?_
      rintro y w7 ⟨rfl, hb⟩
      have HB7 := Lib.hid (below_transG HB6.out hb)
      have Hl7 := Lib.hid (Hl6.out.keep hb Hl6.out.lt)
      have Hm7 := Lib.hid (Hm6.out.keep hb Hm6.out.lt)
      have Hx7 := Lib.hid (Hx6.out.keep hb Hx6.out.lt)
      have Hy7 := Lib.hid (Hy6.out.keep hb Hy6.out.lt)
      clear hb
      have l_0 : w7.cell? ⟨w.heap.size, 0, none⟩ = some (.int .i64 l.c) := Hl7.out.cellAt (i := 0) (by simp)
      have l_1 : w7.cell? ⟨w.heap.size, 1, none⟩ = some (.int .i64 l.s) := Hl7.out.cellAt (i := 1) (by simp)
      have l_2 : w7.cell? ⟨w.heap.size, 2, none⟩ = some (.int .i64 l.t) := Hl7.out.cellAt (i := 2) (by simp)
      have l_3 : w7.cell? ⟨w.heap.size, 3, none⟩ = some (.int .i64 l.n) := Hl7.out.cellAt (i := 3) (by simp)
      have m_0 : w7.cell? ⟨(w.heap.size + 1), 0, none⟩ = some (.int .i64 m.c) := Hm7.out.cellAt (i := 0) (by simp)
      have m_1 : w7.cell? ⟨(w.heap.size + 1), 1, none⟩ = some (.int .i64 m.s) := Hm7.out.cellAt (i := 1) (by simp)
      have m_2 : w7.cell? ⟨(w.heap.size + 1), 2, none⟩ = some (.int .i64 m.t) := Hm7.out.cellAt (i := 2) (by simp)
      have m_3 : w7.cell? ⟨(w.heap.size + 1), 3, none⟩ = some (.int .i64 m.n) := Hm7.out.cellAt (i := 3) (by simp)
      go_wp2_with fail
      clear l_0 l_1 l_2 l_3 m_0 m_1 m_2 m_3
      refine (HR2.out _).mono ?_
      rintro y w8 ⟨rfl, hb⟩
      have HB8 := Lib.hid (below_transG HB7.out hb)
      have Hl8 := Lib.hid (Hl7.out.keep hb Hl7.out.lt)
      have Hm8 := Lib.hid (Hm7.out.keep hb Hm7.out.lt)
      have Hx8 := Lib.hid (Hx7.out.keep hb Hx7.out.lt)
      have Hy8 := Lib.hid (Hy7.out.keep hb Hy7.out.lt)
      clear hb
      go_wp2_with fail
      go_ret
      exact ⟨rfl, HB8.out⟩
    · rw [h1] at HR1
      rw [h2] at HR2
      have HA := Lib.hid (fun u => clid_no l.c l.s l.t l.n h1 u)
      obtain ⟨Q, hQ, hQ1, hQ2⟩ := num_nat _ _ _ _ h2
      have HB' := Lib.hid (fun u a b => clid_yes m.c m.s m.t m.n h2 u a b)
      rw [hQ] at HB'
      clear h1 h2 hk wk
      go_enter Tryd.func5, Tryd.ntmps5
      go_upto_region 1 with fail
      obtain ⟨W1, hW1⟩ : ∃ W, W = ((w.alloc (.cells #[.int .i64 l.c, .int .i64 l.s, .int .i64 l.t, .int .i64 l.n] 24)).alloc (.cells #[.int .i64 m.c, .int .i64 m.s, .int .i64 m.t, .int .i64 m.n] 24)) := ⟨_, rfl⟩
      have hbel_ : Below w.heap.size w W1 := by rw [hW1]; exact (((Below.refl w.heap.size w).alloc (Nat.le_refl w.heap.size) _).alloc (by have := (Nat.le_refl w.heap.size); simp only [World.size_alloc]; omega) _)
      have h_l : Blk W1 w.heap.size 24 [.int .i64 l.c, .int .i64 l.s, .int .i64 l.t, .int .i64 l.n] := by rw [hW1]; exact (blk_at (w) w.heap.size (by rfl) 24 [.int .i64 l.c, .int .i64 l.s, .int .i64 l.t, .int .i64 l.n]).keep ((Below.refl (w.heap.size + 1) _).alloc (by simp only [World.size_alloc]; omega) _) (by omega)
      have h_m : Blk W1 (w.heap.size + 1) 24 [.int .i64 m.c, .int .i64 m.s, .int .i64 m.t, .int .i64 m.n] := by rw [hW1]; exact (blk_at ((w.alloc (.cells #[.int .i64 l.c, .int .i64 l.s, .int .i64 l.t, .int .i64 l.n] 24))) (w.heap.size + 1) (by simp only [World.size_alloc]) 24 [.int .i64 m.c, .int .i64 m.s, .int .i64 m.t, .int .i64 m.n]).keep (Below.refl ((w.heap.size + 1) + 1) _) (by omega)
      rw [← hW1]
      have HB1 := Lib.hid hbel_
      have Hl1 := Lib.hid h_l
      have Hm1 := Lib.hid h_m
      clear hbel_ hW1  h_l h_m
      have l_0 : W1.cell? ⟨w.heap.size, 0, none⟩ = some (.int .i64 l.c) := Hl1.out.cellAt (i := 0) (by simp)
      have l_1 : W1.cell? ⟨w.heap.size, 1, none⟩ = some (.int .i64 l.s) := Hl1.out.cellAt (i := 1) (by simp)
      have l_2 : W1.cell? ⟨w.heap.size, 2, none⟩ = some (.int .i64 l.t) := Hl1.out.cellAt (i := 2) (by simp)
      have l_3 : W1.cell? ⟨w.heap.size, 3, none⟩ = some (.int .i64 l.n) := Hl1.out.cellAt (i := 3) (by simp)
      go_wp2_with fail
      clear l_0 l_1 l_2 l_3
      refine (HA.out _ ).mono ?_
      rintro y w2 ⟨rfl, hb⟩
      have HB2 := Lib.hid (below_transG HB1.out hb)
      have Hl2 := Lib.hid (Hl1.out.keep hb Hl1.out.lt)
      have Hm2 := Lib.hid (Hm1.out.keep hb Hm1.out.lt)
      clear hb
      go_upto_region 2 with fail
      obtain ⟨W3, hW3⟩ : ∃ W, W = (w2.alloc (.cells #[.bool false, .int .u32 0] 27)) := ⟨_, rfl⟩
      have hbel_ : Below w.heap.size w W3 := by rw [hW3]; exact (HB2.out.alloc HB2.out.size _)
      have h_l : Blk W3 w.heap.size 24 [.int .i64 l.c, .int .i64 l.s, .int .i64 l.t, .int .i64 l.n] := by rw [hW3]; exact Hl2.out.keep ((Below.refl w2.heap.size w2).alloc (Nat.le_refl _) _) Hl2.out.lt
      have h_m : Blk W3 (w.heap.size + 1) 24 [.int .i64 m.c, .int .i64 m.s, .int .i64 m.t, .int .i64 m.n] := by rw [hW3]; exact Hm2.out.keep ((Below.refl w2.heap.size w2).alloc (Nat.le_refl _) _) Hm2.out.lt
      have h_x : Blk W3 w2.heap.size 27 [.bool false, .int .u32 0] := by rw [hW3]; exact (blk_at (w2) w2.heap.size (by rfl) 27 [.bool false, .int .u32 0]).keep (Below.refl (w2.heap.size + 1) _) (by omega)
      rw [← hW3]
      have HB3 := Lib.hid hbel_
      have Hl3 := Lib.hid h_l
      have Hm3 := Lib.hid h_m
      have Hx3 := Lib.hid h_x
      clear hbel_ hW3 h_l h_m h_x
      have m_0 : W3.cell? ⟨(w.heap.size + 1), 0, none⟩ = some (.int .i64 m.c) := Hm3.out.cellAt (i := 0) (by simp)
      have m_1 : W3.cell? ⟨(w.heap.size + 1), 1, none⟩ = some (.int .i64 m.s) := Hm3.out.cellAt (i := 1) (by simp)
      have m_2 : W3.cell? ⟨(w.heap.size + 1), 2, none⟩ = some (.int .i64 m.t) := Hm3.out.cellAt (i := 2) (by simp)
      have m_3 : W3.cell? ⟨(w.heap.size + 1), 3, none⟩ = some (.int .i64 m.n) := Hm3.out.cellAt (i := 3) (by simp)
      go_wp2_with fail
      clear m_0 m_1 m_2 m_3
      refine (HB'.out _ (HTX.out _ HB3.out).1 (HTX.out _ HB3.out).2).mono ?_
      rintro y w4 ⟨rfl, hb⟩
      have HB4 := Lib.hid (below_transG HB3.out hb)
      have Hl4 := Lib.hid (Hl3.out.keep hb Hl3.out.lt)
      have Hm4 := Lib.hid (Hm3.out.keep hb Hm3.out.lt)
      have Hx4 := Lib.hid (Hx3.out.keep hb Hx3.out.lt)
      clear hb
      go_upto_region 4 with fail
      obtain ⟨W5, hW5⟩ : ∃ W, W = (w4.alloc (.cells #[.bool true, .int .u32 (Q : Int)] 27)) := ⟨_, rfl⟩
      have hbel_ : Below w.heap.size w W5 := by rw [hW5]; exact (HB4.out.alloc HB4.out.size _)
      have h_l : Blk W5 w.heap.size 24 [.int .i64 l.c, .int .i64 l.s, .int .i64 l.t, .int .i64 l.n] := by rw [hW5]; exact Hl4.out.keep ((Below.refl w4.heap.size w4).alloc (Nat.le_refl _) _) Hl4.out.lt
      have h_m : Blk W5 (w.heap.size + 1) 24 [.int .i64 m.c, .int .i64 m.s, .int .i64 m.t, .int .i64 m.n] := by rw [hW5]; exact Hm4.out.keep ((Below.refl w4.heap.size w4).alloc (Nat.le_refl _) _) Hm4.out.lt
      have h_x : Blk W5 w2.heap.size 27 [.bool false, .int .u32 0] := by rw [hW5]; exact Hx4.out.keep ((Below.refl w4.heap.size w4).alloc (Nat.le_refl _) _) Hx4.out.lt
      have h_y : Blk W5 w4.heap.size 27 [.bool true, .int .u32 (Q : Int)] := by rw [hW5]; exact (blk_at (w4) w4.heap.size (by rfl) 27 [.bool true, .int .u32 (Q : Int)]).keep (Below.refl (w4.heap.size + 1) _) (by omega)
      rw [← hW5]
      have HB5 := Lib.hid hbel_
      have Hl5 := Lib.hid h_l
      have Hm5 := Lib.hid h_m
      have Hx5 := Lib.hid h_x
      have Hy5 := Lib.hid h_y
      clear hbel_ hW5 h_l h_m h_x h_y
      go_wp2_with fail
      refine (HL.out _ (HTX.out _ HB5.out).1 (HTX.out _ HB5.out).2).mono ?_
      rintro y w6 ⟨rfl, hb⟩
      have HB6 := Lib.hid (below_transG HB5.out hb)
      have Hl6 := Lib.hid (Hl5.out.keep hb Hl5.out.lt)
      have Hm6 := Lib.hid (Hm5.out.keep hb Hm5.out.lt)
      have Hx6 := Lib.hid (Hx5.out.keep hb Hx5.out.lt)
      have Hy6 := Lib.hid (Hy5.out.keep hb Hy5.out.lt)
      clear hb
      have l_0 : w6.cell? ⟨w.heap.size, 0, none⟩ = some (.int .i64 l.c) := Hl6.out.cellAt (i := 0) (by simp)
      have l_1 : w6.cell? ⟨w.heap.size, 1, none⟩ = some (.int .i64 l.s) := Hl6.out.cellAt (i := 1) (by simp)
      have l_2 : w6.cell? ⟨w.heap.size, 2, none⟩ = some (.int .i64 l.t) := Hl6.out.cellAt (i := 2) (by simp)
      have l_3 : w6.cell? ⟨w.heap.size, 3, none⟩ = some (.int .i64 l.n) := Hl6.out.cellAt (i := 3) (by simp)
      have m_0 : w6.cell? ⟨(w.heap.size + 1), 0, none⟩ = some (.int .i64 m.c) := Hm6.out.cellAt (i := 0) (by simp)
      have m_1 : w6.cell? ⟨(w.heap.size + 1), 1, none⟩ = some (.int .i64 m.s) := Hm6.out.cellAt (i := 1) (by simp)
      have m_2 : w6.cell? ⟨(w.heap.size + 1), 2, none⟩ = some (.int .i64 m.t) := Hm6.out.cellAt (i := 2) (by simp)
      have m_3 : w6.cell? ⟨(w.heap.size + 1), 3, none⟩ = some (.int .i64 m.n) := Hm6.out.cellAt (i := 3) (by simp)
      go_wp2_with fail
      clear l_0 l_1 l_2 l_3 m_0 m_1 m_2 m_3
      refine (HR1.out _).mono ?_
      rintro y w7 ⟨rfl, hb⟩
      have HB7 := Lib.hid (below_transG HB6.out hb)
      have Hl7 := Lib.hid (Hl6.out.keep hb Hl6.out.lt)
      have Hm7 := Lib.hid (Hm6.out.keep hb Hm6.out.lt)
      have Hx7 := Lib.hid (Hx6.out.keep hb Hx6.out.lt)
      have Hy7 := Lib.hid (Hy6.out.keep hb Hy6.out.lt)
      clear hb
      have l_0 : w7.cell? ⟨w.heap.size, 0, none⟩ = some (.int .i64 l.c) := Hl7.out.cellAt (i := 0) (by simp)
      have l_1 : w7.cell? ⟨w.heap.size, 1, none⟩ = some (.int .i64 l.s) := Hl7.out.cellAt (i := 1) (by simp)
      have l_2 : w7.cell? ⟨w.heap.size, 2, none⟩ = some (.int .i64 l.t) := Hl7.out.cellAt (i := 2) (by simp)
      have l_3 : w7.cell? ⟨w.heap.size, 3, none⟩ = some (.int .i64 l.n) := Hl7.out.cellAt (i := 3) (by simp)
      have m_0 : w7.cell? ⟨(w.heap.size + 1), 0, none⟩ = some (.int .i64 m.c) := Hm7.out.cellAt (i := 0) (by simp)
      have m_1 : w7.cell? ⟨(w.heap.size + 1), 1, none⟩ = some (.int .i64 m.s) := Hm7.out.cellAt (i := 1) (by simp)
      have m_2 : w7.cell? ⟨(w.heap.size + 1), 2, none⟩ = some (.int .i64 m.t) := Hm7.out.cellAt (i := 2) (by simp)
      have m_3 : w7.cell? ⟨(w.heap.size + 1), 3, none⟩ = some (.int .i64 m.n) := Hm7.out.cellAt (i := 3) (by simp)
      go_wp2_with fail
      clear l_0 l_1 l_2 l_3 m_0 m_1 m_2 m_3
      refine (HR2.out _).mono ?_
      rintro y w8 ⟨rfl, hb⟩
      have HB8 := Lib.hid (below_transG HB7.out hb)
      have Hl8 := Lib.hid (Hl7.out.keep hb Hl7.out.lt)
      have Hm8 := Lib.hid (Hm7.out.keep hb Hm7.out.lt)
      have Hx8 := Lib.hid (Hx7.out.keep hb Hx7.out.lt)
      have Hy8 := Lib.hid (Hy7.out.keep hb Hy7.out.lt)
      clear hb
      go_wp2_with fail
      go_ret
      exact ⟨rfl, HB8.out⟩
  · cases h2 : rightL m.c m.s m.t m.n
    · rw [h1] at HR1
      rw [h2] at HR2
      obtain ⟨P, hP, hP1, hP2⟩ := num_nat _ _ _ _ h1
      have HA := Lib.hid (fun u a b => clid_yes l.c l.s l.t l.n h1 u a b)
      rw [hP] at HA
      have HB' := Lib.hid (fun u => clid_no m.c m.s m.t m.n h2 u)
      clear h1 h2 hk wk
      go_enter Tryd.func5, Tryd.ntmps5
      go_upto_region 1 with fail
      obtain ⟨W1, hW1⟩ : ∃ W, W = ((w.alloc (.cells #[.int .i64 l.c, .int .i64 l.s, .int .i64 l.t, .int .i64 l.n] 24)).alloc (.cells #[.int .i64 m.c, .int .i64 m.s, .int .i64 m.t, .int .i64 m.n] 24)) := ⟨_, rfl⟩
      have hbel_ : Below w.heap.size w W1 := by rw [hW1]; exact (((Below.refl w.heap.size w).alloc (Nat.le_refl w.heap.size) _).alloc (by have := (Nat.le_refl w.heap.size); simp only [World.size_alloc]; omega) _)
      have h_l : Blk W1 w.heap.size 24 [.int .i64 l.c, .int .i64 l.s, .int .i64 l.t, .int .i64 l.n] := by rw [hW1]; exact (blk_at (w) w.heap.size (by rfl) 24 [.int .i64 l.c, .int .i64 l.s, .int .i64 l.t, .int .i64 l.n]).keep ((Below.refl (w.heap.size + 1) _).alloc (by simp only [World.size_alloc]; omega) _) (by omega)
      have h_m : Blk W1 (w.heap.size + 1) 24 [.int .i64 m.c, .int .i64 m.s, .int .i64 m.t, .int .i64 m.n] := by rw [hW1]; exact (blk_at ((w.alloc (.cells #[.int .i64 l.c, .int .i64 l.s, .int .i64 l.t, .int .i64 l.n] 24))) (w.heap.size + 1) (by simp only [World.size_alloc]) 24 [.int .i64 m.c, .int .i64 m.s, .int .i64 m.t, .int .i64 m.n]).keep (Below.refl ((w.heap.size + 1) + 1) _) (by omega)
      rw [← hW1]
      have HB1 := Lib.hid hbel_
      have Hl1 := Lib.hid h_l
      have Hm1 := Lib.hid h_m
      clear hbel_ hW1  h_l h_m
      have l_0 : W1.cell? ⟨w.heap.size, 0, none⟩ = some (.int .i64 l.c) := Hl1.out.cellAt (i := 0) (by simp)
      have l_1 : W1.cell? ⟨w.heap.size, 1, none⟩ = some (.int .i64 l.s) := Hl1.out.cellAt (i := 1) (by simp)
      have l_2 : W1.cell? ⟨w.heap.size, 2, none⟩ = some (.int .i64 l.t) := Hl1.out.cellAt (i := 2) (by simp)
      have l_3 : W1.cell? ⟨w.heap.size, 3, none⟩ = some (.int .i64 l.n) := Hl1.out.cellAt (i := 3) (by simp)
      go_wp2_with fail
      clear l_0 l_1 l_2 l_3
      refine (HA.out _ (HTX.out _ HB1.out).1 (HTX.out _ HB1.out).2).mono ?_
      rintro y w2 ⟨rfl, hb⟩
      have HB2 := Lib.hid (below_transG HB1.out hb)
      have Hl2 := Lib.hid (Hl1.out.keep hb Hl1.out.lt)
      have Hm2 := Lib.hid (Hm1.out.keep hb Hm1.out.lt)
      clear hb
      go_upto_region 2 with fail
      obtain ⟨W3, hW3⟩ : ∃ W, W = (w2.alloc (.cells #[.bool true, .int .u32 (P : Int)] 27)) := ⟨_, rfl⟩
      have hbel_ : Below w.heap.size w W3 := by rw [hW3]; exact (HB2.out.alloc HB2.out.size _)
      have h_l : Blk W3 w.heap.size 24 [.int .i64 l.c, .int .i64 l.s, .int .i64 l.t, .int .i64 l.n] := by rw [hW3]; exact Hl2.out.keep ((Below.refl w2.heap.size w2).alloc (Nat.le_refl _) _) Hl2.out.lt
      have h_m : Blk W3 (w.heap.size + 1) 24 [.int .i64 m.c, .int .i64 m.s, .int .i64 m.t, .int .i64 m.n] := by rw [hW3]; exact Hm2.out.keep ((Below.refl w2.heap.size w2).alloc (Nat.le_refl _) _) Hm2.out.lt
      have h_x : Blk W3 w2.heap.size 27 [.bool true, .int .u32 (P : Int)] := by rw [hW3]; exact (blk_at (w2) w2.heap.size (by rfl) 27 [.bool true, .int .u32 (P : Int)]).keep (Below.refl (w2.heap.size + 1) _) (by omega)
      rw [← hW3]
      have HB3 := Lib.hid hbel_
      have Hl3 := Lib.hid h_l
      have Hm3 := Lib.hid h_m
      have Hx3 := Lib.hid h_x
      clear hbel_ hW3 h_l h_m h_x
      have m_0 : W3.cell? ⟨(w.heap.size + 1), 0, none⟩ = some (.int .i64 m.c) := Hm3.out.cellAt (i := 0) (by simp)
      have m_1 : W3.cell? ⟨(w.heap.size + 1), 1, none⟩ = some (.int .i64 m.s) := Hm3.out.cellAt (i := 1) (by simp)
      have m_2 : W3.cell? ⟨(w.heap.size + 1), 2, none⟩ = some (.int .i64 m.t) := Hm3.out.cellAt (i := 2) (by simp)
      have m_3 : W3.cell? ⟨(w.heap.size + 1), 3, none⟩ = some (.int .i64 m.n) := Hm3.out.cellAt (i := 3) (by simp)
      go_wp2_with fail
      clear m_0 m_1 m_2 m_3
      refine (HB'.out _ ).mono ?_
      rintro y w4 ⟨rfl, hb⟩
      have HB4 := Lib.hid (below_transG HB3.out hb)
      have Hl4 := Lib.hid (Hl3.out.keep hb Hl3.out.lt)
      have Hm4 := Lib.hid (Hm3.out.keep hb Hm3.out.lt)
      have Hx4 := Lib.hid (Hx3.out.keep hb Hx3.out.lt)
      clear hb
      go_upto_region 4 with fail
      obtain ⟨W5, hW5⟩ : ∃ W, W = (w4.alloc (.cells #[.bool false, .int .u32 0] 27)) := ⟨_, rfl⟩
      have hbel_ : Below w.heap.size w W5 := by rw [hW5]; exact (HB4.out.alloc HB4.out.size _)
      have h_l : Blk W5 w.heap.size 24 [.int .i64 l.c, .int .i64 l.s, .int .i64 l.t, .int .i64 l.n] := by rw [hW5]; exact Hl4.out.keep ((Below.refl w4.heap.size w4).alloc (Nat.le_refl _) _) Hl4.out.lt
      have h_m : Blk W5 (w.heap.size + 1) 24 [.int .i64 m.c, .int .i64 m.s, .int .i64 m.t, .int .i64 m.n] := by rw [hW5]; exact Hm4.out.keep ((Below.refl w4.heap.size w4).alloc (Nat.le_refl _) _) Hm4.out.lt
      have h_x : Blk W5 w2.heap.size 27 [.bool true, .int .u32 (P : Int)] := by rw [hW5]; exact Hx4.out.keep ((Below.refl w4.heap.size w4).alloc (Nat.le_refl _) _) Hx4.out.lt
      have h_y : Blk W5 w4.heap.size 27 [.bool false, .int .u32 0] := by rw [hW5]; exact (blk_at (w4) w4.heap.size (by rfl) 27 [.bool false, .int .u32 0]).keep (Below.refl (w4.heap.size + 1) _) (by omega)
      rw [← hW5]
      have HB5 := Lib.hid hbel_
      have Hl5 := Lib.hid h_l
      have Hm5 := Lib.hid h_m
      have Hx5 := Lib.hid h_x
      have Hy5 := Lib.hid h_y
      clear hbel_ hW5 h_l h_m h_x h_y
      go_wp2_with fail
      refine (HL.out _ (HTX.out _ HB5.out).1 (HTX.out _ HB5.out).2).mono ?_
      rintro y w6 ⟨rfl, hb⟩
      have HB6 := Lib.hid (below_transG HB5.out hb)
      have Hl6 := Lib.hid (Hl5.out.keep hb Hl5.out.lt)
      have Hm6 := Lib.hid (Hm5.out.keep hb Hm5.out.lt)
      have Hx6 := Lib.hid (Hx5.out.keep hb Hx5.out.lt)
      have Hy6 := Lib.hid (Hy5.out.keep hb Hy5.out.lt)
      clear hb
      have l_0 : w6.cell? ⟨w.heap.size, 0, none⟩ = some (.int .i64 l.c) := Hl6.out.cellAt (i := 0) (by simp)
      have l_1 : w6.cell? ⟨w.heap.size, 1, none⟩ = some (.int .i64 l.s) := Hl6.out.cellAt (i := 1) (by simp)
      have l_2 : w6.cell? ⟨w.heap.size, 2, none⟩ = some (.int .i64 l.t) := Hl6.out.cellAt (i := 2) (by simp)
      have l_3 : w6.cell? ⟨w.heap.size, 3, none⟩ = some (.int .i64 l.n) := Hl6.out.cellAt (i := 3) (by simp)
      have m_0 : w6.cell? ⟨(w.heap.size + 1), 0, none⟩ = some (.int .i64 m.c) := Hm6.out.cellAt (i := 0) (by simp)
      have m_1 : w6.cell? ⟨(w.heap.size + 1), 1, none⟩ = some (.int .i64 m.s) := Hm6.out.cellAt (i := 1) (by simp)
      have m_2 : w6.cell? ⟨(w.heap.size + 1), 2, none⟩ = some (.int .i64 m.t) := Hm6.out.cellAt (i := 2) (by simp)
      have m_3 : w6.cell? ⟨(w.heap.size + 1), 3, none⟩ = some (.int .i64 m.n) := Hm6.out.cellAt (i := 3) (by simp)
      go_wp2_with fail
      clear l_0 l_1 l_2 l_3 m_0 m_1 m_2 m_3
      refine (HR1.out _).mono ?_
      rintro y w7 ⟨rfl, hb⟩
      have HB7 := Lib.hid (below_transG HB6.out hb)
      have Hl7 := Lib.hid (Hl6.out.keep hb Hl6.out.lt)
      have Hm7 := Lib.hid (Hm6.out.keep hb Hm6.out.lt)
      have Hx7 := Lib.hid (Hx6.out.keep hb Hx6.out.lt)
      have Hy7 := Lib.hid (Hy6.out.keep hb Hy6.out.lt)
      clear hb
      have l_0 : w7.cell? ⟨w.heap.size, 0, none⟩ = some (.int .i64 l.c) := Hl7.out.cellAt (i := 0) (by simp)
      have l_1 : w7.cell? ⟨w.heap.size, 1, none⟩ = some (.int .i64 l.s) := Hl7.out.cellAt (i := 1) (by simp)
      have l_2 : w7.cell? ⟨w.heap.size, 2, none⟩ = some (.int .i64 l.t) := Hl7.out.cellAt (i := 2) (by simp)
      have l_3 : w7.cell? ⟨w.heap.size, 3, none⟩ = some (.int .i64 l.n) := Hl7.out.cellAt (i := 3) (by simp)
      have m_0 : w7.cell? ⟨(w.heap.size + 1), 0, none⟩ = some (.int .i64 m.c) := Hm7.out.cellAt (i := 0) (by simp)
      have m_1 : w7.cell? ⟨(w.heap.size + 1), 1, none⟩ = some (.int .i64 m.s) := Hm7.out.cellAt (i := 1) (by simp)
      have m_2 : w7.cell? ⟨(w.heap.size + 1), 2, none⟩ = some (.int .i64 m.t) := Hm7.out.cellAt (i := 2) (by simp)
      have m_3 : w7.cell? ⟨(w.heap.size + 1), 3, none⟩ = some (.int .i64 m.n) := Hm7.out.cellAt (i := 3) (by simp)
      go_wp2_with fail
      clear l_0 l_1 l_2 l_3 m_0 m_1 m_2 m_3
      refine (HR2.out _).mono ?_
      rintro y w8 ⟨rfl, hb⟩
      have HB8 := Lib.hid (below_transG HB7.out hb)
      have Hl8 := Lib.hid (Hl7.out.keep hb Hl7.out.lt)
      have Hm8 := Lib.hid (Hm7.out.keep hb Hm7.out.lt)
      have Hx8 := Lib.hid (Hx7.out.keep hb Hx7.out.lt)
      have Hy8 := Lib.hid (Hy7.out.keep hb Hy7.out.lt)
      clear hb
      go_wp2_with fail
      go_ret
      exact ⟨rfl, HB8.out⟩
    · rw [h1] at HR1
      rw [h2] at HR2
      obtain ⟨P, hP, hP1, hP2⟩ := num_nat _ _ _ _ h1
      have HA := Lib.hid (fun u a b => clid_yes l.c l.s l.t l.n h1 u a b)
      rw [hP] at HA
      obtain ⟨Q, hQ, hQ1, hQ2⟩ := num_nat _ _ _ _ h2
      have HB' := Lib.hid (fun u a b => clid_yes m.c m.s m.t m.n h2 u a b)
      rw [hQ] at HB'
      have HBE := Lib.hid (fun u => clbefore_any l.c l.s l.t l.n m.c m.s m.t m.n u)
      rw [bef_num h1 h2, hP, hQ] at HBE
      have HW1 := Lib.hid (fun u => refWins_any true P false true Q false (by omega) (by omega) u)
      have HW2 := Lib.hid (fun u => refWins_any false K false true P false (by omega) (by omega) u)
      rw [wins_num hP1 hQ1] at HW1
      rw [wins_short hK hP1 hP2] at HW2
      unfold identV at HW1 HW2
      obtain ⟨d, hd⟩ : ∃ d, d = decide (P < Q) := ⟨_, rfl⟩
      have hd2 : decide ((P : Int) < (Q : Int)) = d := by rw [hd, decide_eq_decide]; omega
      rw [hd2] at HBE
      rw [← hd] at HW1
      clear hd hd2 hP hQ hP1 hP2 hQ1 hQ2
      have ed : (d == d) = true := by simp
      clear h1 h2 hk wk
      go_enter Tryd.func5, Tryd.ntmps5
      go_upto_region 1 with fail
      obtain ⟨W1, hW1⟩ : ∃ W, W = ((w.alloc (.cells #[.int .i64 l.c, .int .i64 l.s, .int .i64 l.t, .int .i64 l.n] 24)).alloc (.cells #[.int .i64 m.c, .int .i64 m.s, .int .i64 m.t, .int .i64 m.n] 24)) := ⟨_, rfl⟩
      have hbel_ : Below w.heap.size w W1 := by rw [hW1]; exact (((Below.refl w.heap.size w).alloc (Nat.le_refl w.heap.size) _).alloc (by have := (Nat.le_refl w.heap.size); simp only [World.size_alloc]; omega) _)
      have h_l : Blk W1 w.heap.size 24 [.int .i64 l.c, .int .i64 l.s, .int .i64 l.t, .int .i64 l.n] := by rw [hW1]; exact (blk_at (w) w.heap.size (by rfl) 24 [.int .i64 l.c, .int .i64 l.s, .int .i64 l.t, .int .i64 l.n]).keep ((Below.refl (w.heap.size + 1) _).alloc (by simp only [World.size_alloc]; omega) _) (by omega)
      have h_m : Blk W1 (w.heap.size + 1) 24 [.int .i64 m.c, .int .i64 m.s, .int .i64 m.t, .int .i64 m.n] := by rw [hW1]; exact (blk_at ((w.alloc (.cells #[.int .i64 l.c, .int .i64 l.s, .int .i64 l.t, .int .i64 l.n] 24))) (w.heap.size + 1) (by simp only [World.size_alloc]) 24 [.int .i64 m.c, .int .i64 m.s, .int .i64 m.t, .int .i64 m.n]).keep (Below.refl ((w.heap.size + 1) + 1) _) (by omega)
      rw [← hW1]
      have HB1 := Lib.hid hbel_
      have Hl1 := Lib.hid h_l
      have Hm1 := Lib.hid h_m
      clear hbel_ hW1  h_l h_m
      have l_0 : W1.cell? ⟨w.heap.size, 0, none⟩ = some (.int .i64 l.c) := Hl1.out.cellAt (i := 0) (by simp)
      have l_1 : W1.cell? ⟨w.heap.size, 1, none⟩ = some (.int .i64 l.s) := Hl1.out.cellAt (i := 1) (by simp)
      have l_2 : W1.cell? ⟨w.heap.size, 2, none⟩ = some (.int .i64 l.t) := Hl1.out.cellAt (i := 2) (by simp)
      have l_3 : W1.cell? ⟨w.heap.size, 3, none⟩ = some (.int .i64 l.n) := Hl1.out.cellAt (i := 3) (by simp)
      go_wp2_with fail
      clear l_0 l_1 l_2 l_3
      refine (HA.out _ (HTX.out _ HB1.out).1 (HTX.out _ HB1.out).2).mono ?_
      rintro y w2 ⟨rfl, hb⟩
      have HB2 := Lib.hid (below_transG HB1.out hb)
      have Hl2 := Lib.hid (Hl1.out.keep hb Hl1.out.lt)
      have Hm2 := Lib.hid (Hm1.out.keep hb Hm1.out.lt)
      clear hb
      go_upto_region 2 with fail
      obtain ⟨W3, hW3⟩ : ∃ W, W = (w2.alloc (.cells #[.bool true, .int .u32 (P : Int)] 27)) := ⟨_, rfl⟩
      have hbel_ : Below w.heap.size w W3 := by rw [hW3]; exact (HB2.out.alloc HB2.out.size _)
      have h_l : Blk W3 w.heap.size 24 [.int .i64 l.c, .int .i64 l.s, .int .i64 l.t, .int .i64 l.n] := by rw [hW3]; exact Hl2.out.keep ((Below.refl w2.heap.size w2).alloc (Nat.le_refl _) _) Hl2.out.lt
      have h_m : Blk W3 (w.heap.size + 1) 24 [.int .i64 m.c, .int .i64 m.s, .int .i64 m.t, .int .i64 m.n] := by rw [hW3]; exact Hm2.out.keep ((Below.refl w2.heap.size w2).alloc (Nat.le_refl _) _) Hm2.out.lt
      have h_x : Blk W3 w2.heap.size 27 [.bool true, .int .u32 (P : Int)] := by rw [hW3]; exact (blk_at (w2) w2.heap.size (by rfl) 27 [.bool true, .int .u32 (P : Int)]).keep (Below.refl (w2.heap.size + 1) _) (by omega)
      rw [← hW3]
      have HB3 := Lib.hid hbel_
      have Hl3 := Lib.hid h_l
      have Hm3 := Lib.hid h_m
      have Hx3 := Lib.hid h_x
      clear hbel_ hW3 h_l h_m h_x
      have m_0 : W3.cell? ⟨(w.heap.size + 1), 0, none⟩ = some (.int .i64 m.c) := Hm3.out.cellAt (i := 0) (by simp)
      have m_1 : W3.cell? ⟨(w.heap.size + 1), 1, none⟩ = some (.int .i64 m.s) := Hm3.out.cellAt (i := 1) (by simp)
      have m_2 : W3.cell? ⟨(w.heap.size + 1), 2, none⟩ = some (.int .i64 m.t) := Hm3.out.cellAt (i := 2) (by simp)
      have m_3 : W3.cell? ⟨(w.heap.size + 1), 3, none⟩ = some (.int .i64 m.n) := Hm3.out.cellAt (i := 3) (by simp)
      go_wp2_with fail
      clear m_0 m_1 m_2 m_3
      refine (HB'.out _ (HTX.out _ HB3.out).1 (HTX.out _ HB3.out).2).mono ?_
      rintro y w4 ⟨rfl, hb⟩
      have HB4 := Lib.hid (below_transG HB3.out hb)
      have Hl4 := Lib.hid (Hl3.out.keep hb Hl3.out.lt)
      have Hm4 := Lib.hid (Hm3.out.keep hb Hm3.out.lt)
      have Hx4 := Lib.hid (Hx3.out.keep hb Hx3.out.lt)
      clear hb
      go_upto_region 5 with fail
      obtain ⟨W5, hW5⟩ : ∃ W, W = (w4.alloc (.cells #[.bool true, .int .u32 (Q : Int)] 27)) := ⟨_, rfl⟩
      have hbel_ : Below w.heap.size w W5 := by rw [hW5]; exact (HB4.out.alloc HB4.out.size _)
      have h_l : Blk W5 w.heap.size 24 [.int .i64 l.c, .int .i64 l.s, .int .i64 l.t, .int .i64 l.n] := by rw [hW5]; exact Hl4.out.keep ((Below.refl w4.heap.size w4).alloc (Nat.le_refl _) _) Hl4.out.lt
      have h_m : Blk W5 (w.heap.size + 1) 24 [.int .i64 m.c, .int .i64 m.s, .int .i64 m.t, .int .i64 m.n] := by rw [hW5]; exact Hm4.out.keep ((Below.refl w4.heap.size w4).alloc (Nat.le_refl _) _) Hm4.out.lt
      have h_x : Blk W5 w2.heap.size 27 [.bool true, .int .u32 (P : Int)] := by rw [hW5]; exact Hx4.out.keep ((Below.refl w4.heap.size w4).alloc (Nat.le_refl _) _) Hx4.out.lt
      have h_y : Blk W5 w4.heap.size 27 [.bool true, .int .u32 (Q : Int)] := by rw [hW5]; exact (blk_at (w4) w4.heap.size (by rfl) 27 [.bool true, .int .u32 (Q : Int)]).keep (Below.refl (w4.heap.size + 1) _) (by omega)
      rw [← hW5]
      have HB5 := Lib.hid hbel_
      have Hl5 := Lib.hid h_l
      have Hm5 := Lib.hid h_m
      have Hx5 := Lib.hid h_x
      have Hy5 := Lib.hid h_y
      clear hbel_ hW5 h_l h_m h_x h_y
      have HZ := Lib.hid (show ∀ x, Below W5.heap.size W5 x → Below W5.heap.size W5 x ∧ x.cell? ⟨w.heap.size, 0, none⟩ = some (.int .i64 l.c) ∧ x.cell? ⟨w.heap.size, 1, none⟩ = some (.int .i64 l.s) ∧ x.cell? ⟨w.heap.size, 2, none⟩ = some (.int .i64 l.t) ∧ x.cell? ⟨w.heap.size, 3, none⟩ = some (.int .i64 l.n) ∧ x.cell? ⟨(w.heap.size + 1), 0, none⟩ = some (.int .i64 m.c) ∧ x.cell? ⟨(w.heap.size + 1), 1, none⟩ = some (.int .i64 m.s) ∧ x.cell? ⟨(w.heap.size + 1), 2, none⟩ = some (.int .i64 m.t) ∧ x.cell? ⟨(w.heap.size + 1), 3, none⟩ = some (.int .i64 m.n) ∧ x.cell? ⟨w2.heap.size, 0, none⟩ = some (.bool true) ∧ x.cell? ⟨w2.heap.size, 1, none⟩ = some (.int .u32 (P : Int)) ∧ x.cell? ⟨w4.heap.size, 0, none⟩ = some (.bool true) ∧ x.cell? ⟨w4.heap.size, 1, none⟩ = some (.int .u32 (Q : Int)) from fun x hx => ⟨hx, (Hl5.out.keep hx Hl5.out.lt).cellAt (i := 0) (by simp), (Hl5.out.keep hx Hl5.out.lt).cellAt (i := 1) (by simp), (Hl5.out.keep hx Hl5.out.lt).cellAt (i := 2) (by simp), (Hl5.out.keep hx Hl5.out.lt).cellAt (i := 3) (by simp), (Hm5.out.keep hx Hm5.out.lt).cellAt (i := 0) (by simp), (Hm5.out.keep hx Hm5.out.lt).cellAt (i := 1) (by simp), (Hm5.out.keep hx Hm5.out.lt).cellAt (i := 2) (by simp), (Hm5.out.keep hx Hm5.out.lt).cellAt (i := 3) (by simp), (Hx5.out.keep hx Hx5.out.lt).cellAt (i := 0) (by simp), (Hx5.out.keep hx Hx5.out.lt).cellAt (i := 1) (by simp), (Hy5.out.keep hx Hy5.out.lt).cellAt (i := 0) (by simp), (Hy5.out.keep hx Hy5.out.lt).cellAt (i := 1) (by simp)⟩)
      refine wp_region_class (C := fun x => Below W5.heap.size W5 x ∧ x.cell? ⟨w.heap.size, 0, none⟩ = some (.int .i64 l.c) ∧ x.cell? ⟨w.heap.size, 1, none⟩ = some (.int .i64 l.s) ∧ x.cell? ⟨w.heap.size, 2, none⟩ = some (.int .i64 l.t) ∧ x.cell? ⟨w.heap.size, 3, none⟩ = some (.int .i64 l.n) ∧ x.cell? ⟨(w.heap.size + 1), 0, none⟩ = some (.int .i64 m.c) ∧ x.cell? ⟨(w.heap.size + 1), 1, none⟩ = some (.int .i64 m.s) ∧ x.cell? ⟨(w.heap.size + 1), 2, none⟩ = some (.int .i64 m.t) ∧ x.cell? ⟨(w.heap.size + 1), 3, none⟩ = some (.int .i64 m.n) ∧ x.cell? ⟨w2.heap.size, 0, none⟩ = some (.bool true) ∧ x.cell? ⟨w2.heap.size, 1, none⟩ = some (.int .u32 (P : Int)) ∧ x.cell? ⟨w4.heap.size, 0, none⟩ = some (.bool true) ∧ x.cell? ⟨w4.heap.size, 1, none⟩ = some (.int .u32 (Q : Int))) (by kernel_rfl) (by kernel_rfl) (HZ.out _ (Below.refl _ _).drew) ?_
      repeat
        with_reducible refine wpQuiet_step (fun K hK => ?_)
        first
          | (refine quiet_skip (by rfl) ?_; (with_reducible refine hK _ ?_); clear hK K)
          | (refine quiet_want (by rfl) ?_
             apply Exists.intro
             refine ⟨fun x hx => ?_, hK _ ?_⟩
             (obtain ⟨_, hx1, hx2, hx3, hx4, hx5, hx6, hx7, hx8, hx9, hx10, hx11, hx12⟩ := id hx; go_simp; first | done | rfl | (first | (go_at_call 13; with_reducible exact Calls.mono (HL.out _ (HTX.out _ (below_transG HB5.out hx.1)).1 (HTX.out _ (below_transG HB5.out hx.1)).2) (fun y w' hh => ⟨hh.1, HZ.out _ (below_transG hx.1 hh.2)⟩)) | (go_at_call 18; with_reducible exact Calls.mono (HBE.out _) (fun y w' hh => ⟨hh.1, HZ.out _ (below_transG hx.1 hh.2)⟩)) | (go_at_call 22; with_reducible exact Calls.mono (HW1.out _) (fun y w' hh => ⟨hh.1, HZ.out _ (below_transG hx.1 hh.2)⟩)) | (go_at_call 22; with_reducible exact Calls.mono (HW2.out _) (fun y w' hh => ⟨hh.1, HZ.out _ (below_transG hx.1 hh.2)⟩))))
             clear hK K)
        try simp only [Act.put, List.setIfInBounds_toArray, List.set_cons_zero, List.set_cons_succ]
      with_reducible refine wpQuiet_nil ?_
      intro wq hq
      have HB6 := Lib.hid (below_transG HB5.out hq.1)
      have Hl6 := Lib.hid (Hl5.out.keep hq.1 Hl5.out.lt)
      have Hm6 := Lib.hid (Hm5.out.keep hq.1 Hm5.out.lt)
      have Hx6 := Lib.hid (Hx5.out.keep hq.1 Hx5.out.lt)
      have Hy6 := Lib.hid (Hy5.out.keep hq.1 Hy5.out.lt)
      obtain ⟨W6, hW6⟩ : ∃ W, W = wq := ⟨_, rfl⟩
      rw [← hW6]
      rw [← hW6] at HB6
      rw [← hW6] at Hl6
      rw [← hW6] at Hm6
      rw [← hW6] at Hx6
      rw [← hW6] at Hy6
      clear hq HZ hW6
      go_wp2_with fail
      go_ret
      exact ⟨rfl, HB6.out⟩
theorem door_met (os : Os) (args : Array Value) : laidMetH Tryd.prog laidD ((World.doorLaid Tryd.prog 400 os).forCall (fun _ _ => 0) ⟨#[], args, []⟩).memory :=
  laidMetH_of_parts3 (fuel := 8) (laidMet_of_run' 8 (by kernel_rfl) (by kernel_rfl)) (by kernel_rfl) (by kernel_rfl)
set_option maxRecDepth 100000 in
theorem lifted (os : Os) (started : os.Started) (H : Type) (enc : TypeId × Value → H) :
    ReturnsInHanded {} Tryd.checked os 5 .any (fun w args => (Rows.classWireSpec.pre enc Tryd.prog Tryd.f5 [] false w args ∧ laidMetH Tryd.prog laidD w) ∧ sizedMet enc Tryd.prog Tryd.f5 (OpenSpec.ofChange Rows.classWireSpec) false w args)
      (Rows.classWireSpec.post enc Tryd.prog Tryd.f5 false true false false) := by
  refine returnsInHanded_of_change_and (C := Tryd.checked) (X := fun w _ => laidMetH Tryd.prog laidD w) (fun _ _ _ hh h => h.of_heap hh) own started (by kernel_rfl) Tryd.func5
    (ChangeSpec.witness_shaped (enc := enc) (C := Tryd.checked) (os := os) (X := fun w _ => laidMetH Tryd.prog laidD w) false (World.doorLaid Tryd.prog 400 os) #[.agg #[.int .i64 0, .int .i64 0, .int .i64 0, .int .i64 0], .agg #[.int .i64 0, .int .i64 0, .int .i64 0, .int .i64 0], .int .u8 0] 8 rfl (World.shaped_of_RefB (by kernel_rfl) (by kernel_rfl)) (by kernel_rfl) (by kernel_rfl) (by kernel_rfl) (door_met os _)) ?_
  intro W base args ds gs before hval0 hW _ _ hL _
  have hval : ∀ (j : Nat) t v, Tryd.f5.params[j]? = some t → args[j]? = some v → Value.okWide Tryd.prog W .any base t v := hval0
  have hW' := hW
  obtain ⟨p, q, hA0, hV, rfl, hfz, hnd⟩ := hW
  have hA : DataW.TrodAll enc Tryd.prog W 0 (fun _ => true) true Tryd.f5.params.toList args.toList ds p := hA0
  rw [Tryd.params5] at hA hval
  obtain ⟨v0, vs0, d0, ds0, p0, q0, hargs, rfl, rfl, h0, r0⟩ := trodAll_cons hA
  obtain ⟨v1, vs1, d1, ds1, p1, q1, rfl, rfl, rfl, h1, r1⟩ := trodAll_cons r0
  obtain ⟨v2, vs2, d2, ds2, p2, q2, rfl, rfl, rfl, h2, r2⟩ := trodAll_cons r1
  obtain ⟨rfl, rfl, rfl⟩ := trodAll_nil r2
  obtain rfl : args = #[v0, v1, v2] := by cases args; simp_all
  obtain ⟨rfl, rfl⟩ := trodVars_none hV
  have k0 := h0
  have lt0 : ∀ x ∈ p0, x.block < W.heap.size := by obtain ⟨m, hm⟩ := k0; exact DataW.trod_lt m _ _ _ hm
  obtain ⟨l0, rfl⟩ := open_label (hval 0 24 v0 rfl rfl) h0
  have k1 := h1
  have lt1 : ∀ x ∈ p1, x.block < W.heap.size := by obtain ⟨m, hm⟩ := k1; exact DataW.trod_lt m _ _ _ hm
  obtain ⟨l1, rfl⟩ := open_label (hval 1 24 v1 rfl rfl) h1
  obtain ⟨a2, rfl, rfl, rfl, w2⟩ := open_int Tryd.underlying5 (hval 2 5 v2 rfl rfl) h2
  clear hA0 hval0
  obtain ⟨hTab, hsz0⟩ := tab_of_wid hL
  refine (walk l0 l1 a2 w2 W hsz0 hTab).mono fun e W' ⟨he, bel⟩ => ?_
  subst he
  exact ⟨_, rfl, _, _, _, [], _, [], hW', trodAll_mk1 (shut_bool Tryd.underlying4 _), (trodAll_cons_mk (Below.trod laidOut (by kernel_rfl) (of_decide_eq_true (by kernel_rfl)) k0 bel lt0) (trodAll_cons_mk (Below.trod laidOut (by kernel_rfl) (of_decide_eq_true (by kernel_rfl)) k1 bel lt1) (trodAll_cons_mk (shut_int Tryd.underlying5 w2) trodAll_mk0))), rfl, bel.frame _, fun h => by cases h⟩
theorem over : Rows.classWireRow.holds Tryd.pinned (OpenSpec.ofChange Rows.classWireSpec) :=
  OpenClaim.holds_of_wide 5 Tryd.f5 rfl rfl rfl rfl rfl rfl rfl ⟨rfl, rfl, rfl, rfl, rfl⟩ rfl rfl rfl rfl rfl (by kernel_rfl) Tryd.func5 (by kernel_rfl)
    (of_decide_eq_true (by kernel_rfl)) (by unfold Func.isWrapper; first | (rw [if_pos (by decide +kernel)]; kernel_rfl) | (rw [if_neg (by decide +kernel)]; exact ⟨rfl, rfl⟩))
    (fun os started H enc _ => lifted os started H enc)
/-- The statement: the row, and what it lists tied to the program's text. -/
theorem proved : Rows.ClassWireCardSaid :=
  Claim7.holds_tied_plain_at .later [] [.data] true _ false
    over (fun _ h => by cases h) (by kernel_rfl) (fun _ h => by cases h) classWire_row_tie rfl ⟨rfl, rfl⟩ (by kernel_rfl) rfl
    (fun f fn hf hfn => by
      obtain rfl : f = 5 := Option.some.inj ((show Tryd.prog.funcNamed "bellbuoy/bellbuoylaw23.ClassWire" = some 5 by kernel_rfl).symm.trans hf) |>.symm
      obtain rfl : fn = Tryd.f5 := (Option.some.inj (Tryd.func5.symm.trans hfn)).symm
      exact ⟨by kernel_rfl, fun j t ht => by
        rw [Tryd.params5] at ht
        have hm : t ∈ [24, 24, 5] := by simpa using Array.mem_of_getElem? ht
        have hall : ([24, 24, 5].all fun u => !Tryd.prog.wantsStandIn u) = true := by kernel_rfl
        exact (show Tryd.prog.wantsStandIn t = false by simpa using List.all_eq_true.1 hall t hm)⟩)
    (by kernel_rfl)
end Go.Proofs.YtmealljdecancaaDoor.classWire
