/- The document's own pair of layer 19: a bit's ticks. Conditions: each theorem says its own. -/
import Derived.Test.YtbjelggbnmfblaaAcr
import Derived.Deep.DeepCutAuto
namespace Go.Proofs.Ytbjelggbnmfblaa
open Go.RowKit
theorem rp_step_nil (m x : Int) (w : World) : Calls Try.prog 51 #[.pointer none, .int .i64 m, .int .i64 x] w fun y w' => y = .returned (.int .i64 7) ∧ w = w' := by
  go_enter Try.func51, Try.ntmps51
  go_wp2_with fail
  go_ret
  exact ⟨rfl, rfl⟩
section
variable {w X : World} {B : Nat} {s : PD} {mo so km ks : Nat} {mine its at_ si : Int}
theorem RP.as {s2 : PD} (h : RP w B s mo so km ks mine its at_ si) (e : s = s2) : RP w B s2 mo so km ks mine its at_ si := e ▸ h
set_option maxRecDepth 100000 in
set_option maxHeartbeats 4000000 in
theorem rp_step_m (h : RP w B s mo so km ks mine its at_ si) (m x : Int) (hm : -9223372036854775808 ≤ m ∧ m ≤ 9223372036854775807) (he : ¬ stepE s.mc m = 0) : Calls Try.prog 51 #[.pointer (some ⟨B, 0, none⟩), .int .i64 m, .int .i64 x] w fun y w' => y = .returned (.int .i64 (stepE s.mc m)) ∧ RP w' B s mo so km ks mine its at_ si ∧ Fp (RPS B mo so km ks) w w' := by
  obtain ⟨W1, hW1⟩ : ∃ W, W = w.alloc (.cells #[.int .i64 s.n, .int .i64 s.d, .int .i64 s.mc, .bool s.mu] 218) := ⟨_, rfl⟩
  have hE : OS W1 218 w.heap.size s.n s.d s.mc s.mu := ⟨by rw [hW1]; exact Blk.new w 218 [.int .i64 s.n, .int .i64 s.d, .int .i64 s.mc, .bool s.mu], h.hmo.n1, h.hmo.n2, h.hmo.d0, h.hmo.dn, h.hmo.c0, h.hmo.c1⟩
  have hB1 : Below w.heap.size w W1 := by rw [hW1]; exact (Below.refl _ w).alloc (Nat.le_refl _) _
  have HST := Lib.hid (rostep_any m hm s.n s.d s.mc s.mu w.heap.size W1 hE)
  have HR1 := Lib.hid (h.on hB1)
  have HF1 := Lib.hid (show Fp (RPS B mo so km ks) w W1 from Fp.of_below hB1)
  have HEB := Lib.hid (show ¬ RPS B mo so km ks w.heap.size from fun e => by have := h.lt e; omega)
  have HSZ := Lib.hid hB1.size
  have b3 : w.cell? ⟨B, 3, none⟩ = some (.pointer (some ⟨mo, 0, none⟩)) := h.blk.cellAt (i := 3) (by simp)
  have o0 : w.cell? ⟨mo, 0, none⟩ = some (.int .i64 s.n) := h.hmo.blk.cellAt (i := 0) (by simp)
  have o1 : w.cell? ⟨mo, 1, none⟩ = some (.int .i64 s.d) := h.hmo.blk.cellAt (i := 1) (by simp)
  have o2 : w.cell? ⟨mo, 2, none⟩ = some (.int .i64 s.mc) := h.hmo.blk.cellAt (i := 2) (by simp)
  have o3 : w.cell? ⟨mo, 3, none⟩ = some (.bool s.mu) := h.hmo.blk.cellAt (i := 3) (by simp)
  obtain ⟨e, hee⟩ : ∃ e, e = stepE s.mc m := ⟨_, rfl⟩
  rw [← hee] at HST he ⊢
  have g1 : (e == 0) = false := by rw [beq_eq_false_iff_ne]; exact he
  clear h hE hB1 he hee
  go_enter Try.func51, Try.ntmps51
  go_upto_region 4 with fail
  rw [← hW1]
  clear hW1 b3 o0 o1 o2 o3
  go_wp2_with fail
  refine HST.out.mono ?_
  rintro y w2 ⟨rfl, hO2, hK2⟩
  have HR2 := Lib.hid (HR1.out.byKp hK2 HEB.out)
  have HF2 := Lib.hid (HF1.out.byKpN hK2 (Nat.le_refl _))
  clear hO2 hK2
  go_wp2_with fail
  go_ret
  exact ⟨rfl, HR2.out, HF2.out⟩
set_option maxRecDepth 100000 in
set_option maxHeartbeats 4000000 in
theorem rp_step_s (h : RP w B s mo so km ks mine its at_ si) (m x : Int) (hm : -9223372036854775808 ≤ m ∧ m ≤ 9223372036854775807) (hx : -9223372036854775808 ≤ x ∧ x ≤ 9223372036854775807) (he : stepE s.mc m = 0) (hf : ¬ stepE s.sc x = 0) : Calls Try.prog 51 #[.pointer (some ⟨B, 0, none⟩), .int .i64 m, .int .i64 x] w fun y w' => y = .returned (.int .i64 (stepE s.sc x)) ∧ RP w' B s mo so km ks mine its at_ si ∧ Fp (RPS B mo so km ks) w w' := by
  obtain ⟨W1, hW1⟩ : ∃ W, W = w.alloc (.cells #[.int .i64 s.n, .int .i64 s.d, .int .i64 s.mc, .bool s.mu] 218) := ⟨_, rfl⟩
  have hE : OS W1 218 w.heap.size s.n s.d s.mc s.mu := ⟨by rw [hW1]; exact Blk.new w 218 [.int .i64 s.n, .int .i64 s.d, .int .i64 s.mc, .bool s.mu], h.hmo.n1, h.hmo.n2, h.hmo.d0, h.hmo.dn, h.hmo.c0, h.hmo.c1⟩
  have hB1 : Below w.heap.size w W1 := by rw [hW1]; exact (Below.refl _ w).alloc (Nat.le_refl _) _
  have HST := Lib.hid (rostep_any m hm s.n s.d s.mc s.mu w.heap.size W1 hE)
  have HR1 := Lib.hid (h.on hB1)
  have HF1 := Lib.hid (show Fp (RPS B mo so km ks) w W1 from Fp.of_below hB1)
  have HEB := Lib.hid (show ¬ RPS B mo so km ks w.heap.size from fun e => by have := h.lt e; omega)
  have HSZ := Lib.hid hB1.size
  have b3 : w.cell? ⟨B, 3, none⟩ = some (.pointer (some ⟨mo, 0, none⟩)) := h.blk.cellAt (i := 3) (by simp)
  have o0 : w.cell? ⟨mo, 0, none⟩ = some (.int .i64 s.n) := h.hmo.blk.cellAt (i := 0) (by simp)
  have o1 : w.cell? ⟨mo, 1, none⟩ = some (.int .i64 s.d) := h.hmo.blk.cellAt (i := 1) (by simp)
  have o2 : w.cell? ⟨mo, 2, none⟩ = some (.int .i64 s.mc) := h.hmo.blk.cellAt (i := 2) (by simp)
  have o3 : w.cell? ⟨mo, 3, none⟩ = some (.bool s.mu) := h.hmo.blk.cellAt (i := 3) (by simp)
  rw [he] at HST
  have HSO := Lib.hid (fun u hu => rostep_any x hx s.n s.d s.sc s.su so u hu)
  obtain ⟨e1, e2⟩ := step_err (n := s.n) (d := s.d) (u := s.su) hf
  rw [e1, e2] at HSO
  obtain ⟨e, hee⟩ : ∃ e, e = stepE s.sc x := ⟨_, rfl⟩
  rw [← hee] at HSO hf ⊢
  have g1 : (e == 0) = false := by rw [beq_eq_false_iff_ne]; exact hf
  clear h hE hB1 he hf hee e1 e2
  go_enter Try.func51, Try.ntmps51
  go_upto_region 4 with fail
  rw [← hW1]
  clear hW1 b3 o0 o1 o2 o3
  go_wp2_with fail
  refine HST.out.mono ?_
  rintro y w2 ⟨rfl, hO2, hK2⟩
  have HR2 := Lib.hid (HR1.out.byKp hK2 HEB.out)
  have HF2 := Lib.hid (HF1.out.byKpN hK2 (Nat.le_refl _))
  clear hO2 hK2
  have b4 : w2.cell? ⟨B, 4, none⟩ = some (.pointer (some ⟨so, 0, none⟩)) := HR2.out.blk.cellAt (i := 4) (by simp)
  go_wp2_with fail
  refine (HSO.out _ HR2.out.hso).mono ?_
  rintro y w3 ⟨rfl, hO3, hK3⟩
  have HR3 := Lib.hid ((HR2.out.bySo hO3 hK3).as rfl)
  have HF3 := Lib.hid (HF2.out.byKp hK3 (.inr (.inr (.inl rfl))))
  clear hO3 hK3 b4
  go_wp2_with fail
  go_ret
  exact ⟨rfl, HR3.out, HF3.out⟩
set_option maxRecDepth 100000 in
set_option maxHeartbeats 8000000 in
theorem rp_step_ok (h : RP w B s mo so km ks mine its at_ si) (m x : Int) (hm : -9223372036854775808 ≤ m ∧ m ≤ 9223372036854775807) (hx : -9223372036854775808 ≤ x ∧ x ≤ 9223372036854775807) (hbi : 0 ≤ s.bi ∧ s.bi < 4611686018427387904) (he : stepE s.mc m = 0) (hf : stepE s.sc x = 0) : Calls Try.prog 51 #[.pointer (some ⟨B, 0, none⟩), .int .i64 m, .int .i64 x] w fun y w' => y = .returned (.int .i64 0) ∧ RP w' B (s.stepped m x) mo so km ks mine its at_ si ∧ Fp (RPS B mo so km ks) w w' := by
  obtain ⟨W1, hW1⟩ : ∃ W, W = w.alloc (.cells #[.int .i64 s.n, .int .i64 s.d, .int .i64 s.mc, .bool s.mu] 218) := ⟨_, rfl⟩
  have hE : OS W1 218 w.heap.size s.n s.d s.mc s.mu := ⟨by rw [hW1]; exact Blk.new w 218 [.int .i64 s.n, .int .i64 s.d, .int .i64 s.mc, .bool s.mu], h.hmo.n1, h.hmo.n2, h.hmo.d0, h.hmo.dn, h.hmo.c0, h.hmo.c1⟩
  have hB1 : Below w.heap.size w W1 := by rw [hW1]; exact (Below.refl _ w).alloc (Nat.le_refl _) _
  have HST := Lib.hid (rostep_any m hm s.n s.d s.mc s.mu w.heap.size W1 hE)
  have HR1 := Lib.hid (h.on hB1)
  have HF1 := Lib.hid (show Fp (RPS B mo so km ks) w W1 from Fp.of_below hB1)
  have HEB := Lib.hid (show ¬ RPS B mo so km ks w.heap.size from fun e => by have := h.lt e; omega)
  have HSZ := Lib.hid hB1.size
  have b3 : w.cell? ⟨B, 3, none⟩ = some (.pointer (some ⟨mo, 0, none⟩)) := h.blk.cellAt (i := 3) (by simp)
  have o0 : w.cell? ⟨mo, 0, none⟩ = some (.int .i64 s.n) := h.hmo.blk.cellAt (i := 0) (by simp)
  have o1 : w.cell? ⟨mo, 1, none⟩ = some (.int .i64 s.d) := h.hmo.blk.cellAt (i := 1) (by simp)
  have o2 : w.cell? ⟨mo, 2, none⟩ = some (.int .i64 s.mc) := h.hmo.blk.cellAt (i := 2) (by simp)
  have o3 : w.cell? ⟨mo, 3, none⟩ = some (.bool s.mu) := h.hmo.blk.cellAt (i := 3) (by simp)
  rw [he] at HST
  have HSO := Lib.hid (fun u hu => rostep_any x hx s.n s.d s.sc s.su so u hu)
  have HMO := Lib.hid (fun u hu => rostep_any m hm s.n s.d s.mc s.mu mo u hu)
  rw [hf, (step_zero hf h.hso.c0).1, stepU_zero hf] at HSO
  rw [he, (step_zero he h.hmo.c0).1, stepU_zero he] at HMO
  obtain ⟨C1, hC1⟩ : ∃ C, C = s.mc + m := ⟨_, rfl⟩
  obtain ⟨C2, hC2⟩ : ∃ C, C = s.sc + x := ⟨_, rfl⟩
  obtain ⟨U1, hU1⟩ : ∃ C, C = (s.mu || wildB s.n s.d m) := ⟨_, rfl⟩
  obtain ⟨U2, hU2⟩ : ∃ C, C = (s.su || wildB s.n s.d x) := ⟨_, rfl⟩
  rw [← hC1, ← hU1] at HMO
  rw [← hC2, ← hU2] at HSO
  have HC1 := Lib.hid (show -9223372036854775808 ≤ C1 ∧ C1 ≤ 9223372036854775807 by have := step_zero he h.hmo.c0; have := h.hmo.c0; omega)
  have HC2 := Lib.hid (show -9223372036854775808 ≤ C2 ∧ C2 ≤ 9223372036854775807 by have := step_zero hf h.hso.c0; have := h.hso.c0; omega)
  obtain ⟨T1, hT1⟩ : ∃ T, T = readT s.c s.v s.r s.t C1 := ⟨_, rfl⟩
  obtain ⟨T2, hT2⟩ : ∃ T, T = readT s.c2 s.v2 s.r2 s.t2 C2 := ⟨_, rfl⟩
  obtain ⟨LB, hLB⟩ : ∃ T, T = lookB s.c2 s.v2 s.r2 C2 := ⟨_, rfl⟩
  obtain ⟨LX, hLX⟩ : ∃ T, T = lookX s.c2 s.v2 s.r2 C2 := ⟨_, rfl⟩
  have HMR := Lib.hid (fun u hu => rckread_any C1 HC1.out s.c s.v s.r s.t km u hu)
  have HSR := Lib.hid (fun u hu => rckread_any C2 HC2.out s.c2 s.v2 s.r2 s.t2 ks u hu)
  have HSL := Lib.hid (fun u hu => rcklook_any C2 HC2.out s.c2 s.v2 s.r2 T2 ks u hu)
  rw [← hT1] at HMR
  rw [← hT2, ← hLB] at HSR
  rw [← hLB, ← hLX] at HSL
  obtain ⟨SE, hSE⟩ : ∃ b, b = (s.se || (s.ap.isSome && (LB && decide (T2 = LX)))) := ⟨_, rfl⟩
  have hst : s.stepped m x = ({ s with mc := C1, mu := U1, sc := C2, su := U2, bi := s.bi + 1, t := T1, t2 := T2, se := SE } : PD) := by
    unfold PD.stepped; rw [hSE, hLB, hT2, hLX, hT1, hC1, hC2, hU1, hU2]
  rw [hst]
  have hbw : wrap64 (s.bi + 1) = s.bi + 1 := w64_in _ (by omega)
  obtain ⟨B1, hB1_⟩ : ∃ b, b = s.bi + 1 := ⟨_, rfl⟩
  rw [← hB1_] at ⊢
  have HBW := Lib.hid (show wrap64 (s.bi + 1) = B1 by rw [hB1_]; exact hbw)
  clear hbw
  obtain ⟨AP, hAP⟩ : ∃ b, b = s.ap.isSome := ⟨_, rfl⟩
  have HSEQ := Lib.hid hSE
  have HAPQ := Lib.hid hAP
  clear h hE hB1 he hf hst hC1 hC2 hU1 hU2 hT1 hT2 hLB hLX hSE hB1_ hbi hAP
  go_enter Try.func51, Try.ntmps51
  go_upto_region 4 with fail
  rw [← hW1]
  clear hW1 b3 o0 o1 o2 o3
  go_wp2_with fail
  refine HST.out.mono ?_
  rintro y w2 ⟨rfl, hO2, hK2⟩
  have HR2 := Lib.hid (HR1.out.byKp hK2 HEB.out)
  have HF2 := Lib.hid (HF1.out.byKpN hK2 (Nat.le_refl _))
  clear hO2 hK2
  have b4 : w2.cell? ⟨B, 4, none⟩ = some (.pointer (some ⟨so, 0, none⟩)) := HR2.out.blk.cellAt (i := 4) (by simp)
  go_wp2_with fail
  refine (HSO.out _ HR2.out.hso).mono ?_
  rintro y w3 ⟨rfl, hO3, hK3⟩
  have HR3 := Lib.hid (HR2.out.bySo hO3 hK3)
  have HF3 := Lib.hid (HF2.out.byKp hK3 (.inr (.inr (.inl rfl))))
  clear hO3 hK3 b4
  have b3 : w3.cell? ⟨B, 3, none⟩ = some (.pointer (some ⟨mo, 0, none⟩)) := HR3.out.blk.cellAt (i := 3) (by simp)
  go_wp2_with fail
  refine (HMO.out _ HR3.out.hmo).mono ?_
  rintro y w4 ⟨rfl, hO4, hK4⟩
  have HR4 := Lib.hid (HR3.out.byMo hO4 hK4)
  have HF4 := Lib.hid (HF3.out.byKp hK4 (.inr (.inl rfl)))
  clear hO4 hK4 b3
  have b7 : w4.cell? ⟨B, 7, none⟩ = some (.int .i64 s.bi) := HR4.out.blk.cellAt (i := 7) (by simp)
  have f7 := HR4.out.blk.frozenAt 7
  have hcl := HR4.out.blk.lt
  have HR5 := Lib.hid (show RP (w4.setCell ⟨B, 7, none⟩ (.int .i64 B1)) B ({ s with mc := C1, mu := U1, sc := C2, su := U2, bi := B1 } : PD) mo so km ks mine its at_ si from HR4.out.byB (no := s.no) (ap := s.ap) (se := s.se) (bi := B1) (HR4.out.blk.put1 (i := 7) (by simp) (.int .i64 B1)) ((Kp.refl B (.slice none 0 0) w4).set 7 _) HR4.out.nx HR4.out.ax)
  have HF5 := Lib.hid (show Fp (RPS B mo so km ks) w (w4.setCell ⟨B, 7, none⟩ (.int .i64 B1)) from HF4.out.byKp ((Kp.refl B (.slice none 0 0) w4).set 7 _) (.inl rfl))
  go_upto_region 12 with fail
  rw [HBW.out]
  obtain ⟨w5, hw5⟩ : ∃ w5, w5 = w4.setCell ⟨B, 7, none⟩ (.int .i64 B1) := ⟨_, rfl⟩
  rw [← hw5] at HR5 HF5 ⊢
  clear hw5 b7 f7 hcl HBW HR4 HF4
  have HSW := Lib.hid (show ∀ x, Below w5.heap.size w5 x → True ∧ x.cell? ⟨B, 5, none⟩ = some (.pointer (some ⟨km, 0, none⟩)) ∧ x.cell? ⟨B, 3, none⟩ = some (.pointer (some ⟨mo, 0, none⟩)) ∧ x.cell? ⟨mo, 2, none⟩ = some (.int .i64 C1) from fun x hx => ⟨trivial, (HR5.out.on hx).blk.cellAt (i := 5) (by simp), (HR5.out.on hx).blk.cellAt (i := 3) (by simp), (HR5.out.on hx).hmo.blk.cellAt (i := 2) (by simp)⟩)
  go_upto_region 12 with fail
  go_cut [] (fun wx => RP wx B ({ s with mc := C1, mu := U1, sc := C2, su := U2, bi := B1, t := T1 } : PD) mo so km ks mine its at_ si ∧ Fp (RPS B mo so km ks) w wx)
  case first =>
    refine wp_region_held_drew (S := fun x => True ∧ x.cell? ⟨B, 5, none⟩ = some (.pointer (some ⟨km, 0, none⟩)) ∧ x.cell? ⟨B, 3, none⟩ = some (.pointer (some ⟨mo, 0, none⟩)) ∧ x.cell? ⟨mo, 2, none⟩ = some (.int .i64 C1)) (by kernel_rfl) (HSW.out _ (Below.refl _ _).drew) (fun hHeld => ?_)
    refine wpAnyH_take (i := 0) (oi := _) (v := ?_) rfl (by kernel_rfl) (by kernel_rfl) (by kernel_rfl) (fun _ _ _ h => h) (Or.inl ⟨by rfl, ?_⟩) (by assumption) ?_
    rotate_left
    · intro x hSx
      try dsimp only at hSx
      obtain ⟨_, hSx0, hSx1, hSx2⟩ := hSx
      go_simp
      first | done | with_reducible rfl
    try simp only [Act.put]
    refine wpAnyH_take (i := 1) (oi := _) (v := ?_) rfl (by kernel_rfl) (by kernel_rfl) (by kernel_rfl) (fun _ _ _ h => h) (Or.inl ⟨by rfl, ?_⟩) (by assumption) ?_
    rotate_left
    · intro x hSx
      try dsimp only at hSx
      obtain ⟨_, hSx0, hSx1, hSx2⟩ := hSx
      go_simp
      first | done | with_reducible rfl
    try simp only [Act.put]
    refine wpAnyH_take (i := 2) (oi := _) (v := ?_) rfl (by kernel_rfl) (by kernel_rfl) (by kernel_rfl) (fun _ _ _ h => h) (Or.inl ⟨by rfl, ?_⟩) (by assumption) ?_
    rotate_left
    · intro x hSx
      try dsimp only at hSx
      obtain ⟨_, hSx0, hSx1, hSx2⟩ := hSx
      go_simp
      first | done | with_reducible rfl
    try simp only [Act.put]
    refine wpAnyH_take (i := 3) (oi := _) (v := ?_) rfl (by kernel_rfl) (by kernel_rfl) (by kernel_rfl) (fun _ _ _ h => h) (Or.inl ⟨by rfl, ?_⟩) (by assumption) ?_
    rotate_left
    · intro x hSx
      try dsimp only at hSx
      obtain ⟨_, hSx0, hSx1, hSx2⟩ := hSx
      go_simp
      first | done | with_reducible rfl
    try simp only [Act.put]
    refine wpAnyH_take (i := 4) (oi := _) (v := ?_) rfl (by kernel_rfl) (by kernel_rfl) (by kernel_rfl) (fun _ _ _ h => h) (Or.inl ⟨by rfl, ?_⟩) (by assumption) ?_
    rotate_left
    · intro x hSx
      try dsimp only at hSx
      obtain ⟨_, hSx0, hSx1, hSx2⟩ := hSx
      go_simp
      first | done | with_reducible rfl
    try simp only [Act.put]
    refine wpAnyH_take (i := 5) (oi := _) (v := ?_) rfl (by kernel_rfl) (by kernel_rfl) (by kernel_rfl) (fun _ _ _ h => h) (Or.inl ⟨by rfl, ?_⟩) (by assumption) ?_
    rotate_left
    · intro x hSx
      try dsimp only at hSx
      obtain ⟨_, hSx0, hSx1, hSx2⟩ := hSx
      go_simp
      first | done | with_reducible rfl
    try simp only [Act.put]
    refine wpAnyH_take (i := 6) (oi := _) (v := ?_) rfl (by kernel_rfl) (by kernel_rfl) (by kernel_rfl) (fun _ _ _ h => h) (Or.inl ⟨by rfl, ?_⟩) (by assumption) ?_
    rotate_left
    · intro x hSx
      try dsimp only at hSx
      obtain ⟨_, hSx0, hSx1, hSx2⟩ := hSx
      go_simp
      first | done | with_reducible rfl
    try simp only [Act.put]
    refine wpAnyH_take (i := 7) (oi := _) (v := ?_) rfl (by kernel_rfl) (by kernel_rfl) (by kernel_rfl) (fun _ _ _ h => h) (Or.inl ⟨by rfl, ?_⟩) (by assumption) ?_
    rotate_left
    · intro x hSx
      try dsimp only at hSx
      obtain ⟨_, hSx0, hSx1, hSx2⟩ := hSx
      go_simp
      first | done | with_reducible rfl
    try simp only [Act.put]
    refine wpAnyH_take (i := 8) (oi := _) (v := ?_) rfl (by kernel_rfl) (by kernel_rfl) (by kernel_rfl) (fun _ _ _ h => h) (Or.inl ⟨by rfl, ?_⟩) (by assumption) ?_
    rotate_left
    · intro x hSx
      try dsimp only at hSx
      obtain ⟨_, hSx0, hSx1, hSx2⟩ := hSx
      go_simp
      first | done | with_reducible rfl
    try simp only [Act.put]
    refine wpAnyH_take (i := 9) (oi := _) (v := ?_) rfl (by kernel_rfl) (by kernel_rfl) (by kernel_rfl) (fun _ _ _ h => h) (Or.inl ⟨by rfl, ?_⟩) (by assumption) ?_
    rotate_left
    · intro x hSx
      try dsimp only at hSx
      obtain ⟨_, hSx0, hSx1, hSx2⟩ := hSx
      go_simp
      first | done | with_reducible rfl
    try simp only [Act.put]
    refine wpAnyH_take (i := 10) (oi := _) (v := ?_) rfl (by kernel_rfl) (by kernel_rfl) (by kernel_rfl) (fun _ _ _ h => h) (Or.inl ⟨by rfl, ?_⟩) (by assumption) ?_
    rotate_left
    · intro x hSx
      try dsimp only at hSx
      obtain ⟨_, hSx0, hSx1, hSx2⟩ := hSx
      go_simp
      first | done | with_reducible rfl
    try simp only [Act.put]
    refine wpAnyH_ready (rs := [11]) (by kernel_rfl) (by simp) ?_
    refine AllReadyH.cons (o := _) rfl (fun K hK => ?_) AllReadyH.nil
    go_simp
    refine (HMR.out _ (HR5.out.on (Below.refl _ _).drew).hkm).mono ?_
    rintro y wz ⟨rfl, hO6, hK6⟩
    have h6 := (HR5.out.on (Below.refl _ _).drew).byMk hO6 hK6
    have h6f := (HF5.out.step (Below.refl _ _).drew).byKp hK6 (.inr (.inr (.inr (.inl rfl))))
    have h6s := (show True ∧ wz.cell? ⟨B, 5, none⟩ = some (.pointer (some ⟨km, 0, none⟩)) ∧ wz.cell? ⟨B, 3, none⟩ = some (.pointer (some ⟨mo, 0, none⟩)) ∧ wz.cell? ⟨mo, 2, none⟩ = some (.int .i64 C1) from ⟨trivial, h6.blk.cellAt (i := 5) (by simp), h6.blk.cellAt (i := 3) (by simp), h6.hmo.blk.cellAt (i := 2) (by simp)⟩)
    go_wp2_with fail
    refine hK.out _ _ h6s (fun hHeld => ?_)
    clear hK K
    try simp only [Act.put]
    refine wpAnyH_class (C := fun x => x = wz) 12 _ rfl (by kernel_rfl) (by rfl) (by kernel_rfl) (fun x hx => by rw [hx]; exact h6s) rfl ?_
    simp only [List.drop_succ_cons, List.drop_zero]
    repeat
      with_reducible refine wpQuiet_step (fun K hK => ?_)
      first
        | (refine quiet_skip (by rfl) ?_; (with_reducible refine hK _ ?_); clear hK K)
        | (refine quiet_want (by rfl) ?_
           apply Exists.intro
           refine ⟨fun x hx => ?_, hK _ ?_⟩
           (obtain rfl := id hx; go_simp; first | done | rfl | (fail))
           clear hK K)
      try simp only [Act.put]
    with_reducible refine wpQuiet_nil ?_
    intro wq hq
    subst hq
    go_wp2_with fail
    go_meet
    exact ⟨h6, h6f⟩
  case rest =>
  obtain ⟨h6, h6f⟩ := hcut
  obtain ⟨w6, hw6⟩ : ∃ w6, w6 = wc := ⟨_, rfl⟩
  rw [← hw6] at h6 h6f ⊢
  have HR6 := Lib.hid h6; have HF6 := Lib.hid h6f
  clear h6 h6f hw6 HSW HR5 HF5
  have HSW := Lib.hid (show ∀ x, Below w6.heap.size w6 x → True ∧ x.cell? ⟨B, 6, none⟩ = some (.pointer (some ⟨ks, 0, none⟩)) ∧ x.cell? ⟨B, 4, none⟩ = some (.pointer (some ⟨so, 0, none⟩)) ∧ x.cell? ⟨so, 2, none⟩ = some (.int .i64 C2) from fun x hx => ⟨trivial, (HR6.out.on hx).blk.cellAt (i := 6) (by simp), (HR6.out.on hx).blk.cellAt (i := 4) (by simp), (HR6.out.on hx).hso.blk.cellAt (i := 2) (by simp)⟩)
  go_upto_region 13 with fail
  go_cut [10, 11] (fun s10 s11 wx => s10 = .int .i64 T2 ∧ s11 = .bool LB ∧ RP wx B ({ s with mc := C1, mu := U1, sc := C2, su := U2, bi := B1, t := T1, t2 := T2 } : PD) mo so km ks mine its at_ si ∧ Fp (RPS B mo so km ks) w wx)
  case first =>
    refine wp_region_held_drew (S := fun x => True ∧ x.cell? ⟨B, 6, none⟩ = some (.pointer (some ⟨ks, 0, none⟩)) ∧ x.cell? ⟨B, 4, none⟩ = some (.pointer (some ⟨so, 0, none⟩)) ∧ x.cell? ⟨so, 2, none⟩ = some (.int .i64 C2)) (by kernel_rfl) (HSW.out _ (Below.refl _ _).drew) (fun hHeld => ?_)
    refine wpAnyH_take (i := 0) (oi := _) (v := ?_) rfl (by kernel_rfl) (by kernel_rfl) (by kernel_rfl) (fun _ _ _ h => h) (Or.inl ⟨by rfl, ?_⟩) (by assumption) ?_
    rotate_left
    · intro x hSx
      try dsimp only at hSx
      obtain ⟨_, hSx0, hSx1, hSx2⟩ := hSx
      go_simp
      first | done | with_reducible rfl
    try simp only [Act.put]
    refine wpAnyH_take (i := 1) (oi := _) (v := ?_) rfl (by kernel_rfl) (by kernel_rfl) (by kernel_rfl) (fun _ _ _ h => h) (Or.inl ⟨by rfl, ?_⟩) (by assumption) ?_
    rotate_left
    · intro x hSx
      try dsimp only at hSx
      obtain ⟨_, hSx0, hSx1, hSx2⟩ := hSx
      go_simp
      first | done | with_reducible rfl
    try simp only [Act.put]
    refine wpAnyH_take (i := 2) (oi := _) (v := ?_) rfl (by kernel_rfl) (by kernel_rfl) (by kernel_rfl) (fun _ _ _ h => h) (Or.inl ⟨by rfl, ?_⟩) (by assumption) ?_
    rotate_left
    · intro x hSx
      try dsimp only at hSx
      obtain ⟨_, hSx0, hSx1, hSx2⟩ := hSx
      go_simp
      first | done | with_reducible rfl
    try simp only [Act.put]
    refine wpAnyH_take (i := 3) (oi := _) (v := ?_) rfl (by kernel_rfl) (by kernel_rfl) (by kernel_rfl) (fun _ _ _ h => h) (Or.inl ⟨by rfl, ?_⟩) (by assumption) ?_
    rotate_left
    · intro x hSx
      try dsimp only at hSx
      obtain ⟨_, hSx0, hSx1, hSx2⟩ := hSx
      go_simp
      first | done | with_reducible rfl
    try simp only [Act.put]
    refine wpAnyH_take (i := 4) (oi := _) (v := ?_) rfl (by kernel_rfl) (by kernel_rfl) (by kernel_rfl) (fun _ _ _ h => h) (Or.inl ⟨by rfl, ?_⟩) (by assumption) ?_
    rotate_left
    · intro x hSx
      try dsimp only at hSx
      obtain ⟨_, hSx0, hSx1, hSx2⟩ := hSx
      go_simp
      first | done | with_reducible rfl
    try simp only [Act.put]
    refine wpAnyH_take (i := 5) (oi := _) (v := ?_) rfl (by kernel_rfl) (by kernel_rfl) (by kernel_rfl) (fun _ _ _ h => h) (Or.inl ⟨by rfl, ?_⟩) (by assumption) ?_
    rotate_left
    · intro x hSx
      try dsimp only at hSx
      obtain ⟨_, hSx0, hSx1, hSx2⟩ := hSx
      go_simp
      first | done | with_reducible rfl
    try simp only [Act.put]
    refine wpAnyH_take (i := 6) (oi := _) (v := ?_) rfl (by kernel_rfl) (by kernel_rfl) (by kernel_rfl) (fun _ _ _ h => h) (Or.inl ⟨by rfl, ?_⟩) (by assumption) ?_
    rotate_left
    · intro x hSx
      try dsimp only at hSx
      obtain ⟨_, hSx0, hSx1, hSx2⟩ := hSx
      go_simp
      first | done | with_reducible rfl
    try simp only [Act.put]
    refine wpAnyH_take (i := 7) (oi := _) (v := ?_) rfl (by kernel_rfl) (by kernel_rfl) (by kernel_rfl) (fun _ _ _ h => h) (Or.inl ⟨by rfl, ?_⟩) (by assumption) ?_
    rotate_left
    · intro x hSx
      try dsimp only at hSx
      obtain ⟨_, hSx0, hSx1, hSx2⟩ := hSx
      go_simp
      first | done | with_reducible rfl
    try simp only [Act.put]
    refine wpAnyH_take (i := 8) (oi := _) (v := ?_) rfl (by kernel_rfl) (by kernel_rfl) (by kernel_rfl) (fun _ _ _ h => h) (Or.inl ⟨by rfl, ?_⟩) (by assumption) ?_
    rotate_left
    · intro x hSx
      try dsimp only at hSx
      obtain ⟨_, hSx0, hSx1, hSx2⟩ := hSx
      go_simp
      first | done | with_reducible rfl
    try simp only [Act.put]
    refine wpAnyH_take (i := 9) (oi := _) (v := ?_) rfl (by kernel_rfl) (by kernel_rfl) (by kernel_rfl) (fun _ _ _ h => h) (Or.inl ⟨by rfl, ?_⟩) (by assumption) ?_
    rotate_left
    · intro x hSx
      try dsimp only at hSx
      obtain ⟨_, hSx0, hSx1, hSx2⟩ := hSx
      go_simp
      first | done | with_reducible rfl
    try simp only [Act.put]
    refine wpAnyH_take (i := 10) (oi := _) (v := ?_) rfl (by kernel_rfl) (by kernel_rfl) (by kernel_rfl) (fun _ _ _ h => h) (Or.inl ⟨by rfl, ?_⟩) (by assumption) ?_
    rotate_left
    · intro x hSx
      try dsimp only at hSx
      obtain ⟨_, hSx0, hSx1, hSx2⟩ := hSx
      go_simp
      first | done | with_reducible rfl
    try simp only [Act.put]
    refine wpAnyH_ready (rs := [11]) (by kernel_rfl) (by simp) ?_
    refine AllReadyH.cons (o := _) rfl (fun K hK => ?_) AllReadyH.nil
    go_simp
    refine (HSR.out _ (HR6.out.on (Below.refl _ _).drew).hks).mono ?_
    rintro y wz ⟨rfl, hO7, hK7⟩
    have h7 := (HR6.out.on (Below.refl _ _).drew).bySk hO7 hK7
    have h7f := (HF6.out.step (Below.refl _ _).drew).byKp hK7 (.inr (.inr (.inr (.inr rfl))))
    have h7s := (show True ∧ wz.cell? ⟨B, 6, none⟩ = some (.pointer (some ⟨ks, 0, none⟩)) ∧ wz.cell? ⟨B, 4, none⟩ = some (.pointer (some ⟨so, 0, none⟩)) ∧ wz.cell? ⟨so, 2, none⟩ = some (.int .i64 C2) from ⟨trivial, h7.blk.cellAt (i := 6) (by simp), h7.blk.cellAt (i := 4) (by simp), h7.hso.blk.cellAt (i := 2) (by simp)⟩)
    go_wp2_with fail
    refine hK.out _ _ h7s (fun hHeld => ?_)
    clear hK K
    try simp only [Act.put]
    refine wpAnyH_class (C := fun x => x = wz) 12 _ rfl (by kernel_rfl) (by rfl) (by kernel_rfl) (fun x hx => by rw [hx]; exact h7s) rfl ?_
    simp only [List.drop_succ_cons, List.drop_zero]
    repeat
      with_reducible refine wpQuiet_step (fun K hK => ?_)
      first
        | (refine quiet_skip (by rfl) ?_; (with_reducible refine hK _ ?_); clear hK K)
        | (refine quiet_want (by rfl) ?_
           apply Exists.intro
           refine ⟨fun x hx => ?_, hK _ ?_⟩
           (obtain rfl := id hx; go_simp; first | done | rfl | (fail))
           clear hK K)
      try simp only [Act.put]
    with_reducible refine wpQuiet_nil ?_
    intro wq hq
    subst hq
    go_wp2_with fail
    go_meet
    exact ⟨rfl, rfl, h7, h7f⟩
  case rest =>
  obtain ⟨rfl, rfl, h7, h7f⟩ := hcut
  obtain ⟨w7, hw7⟩ : ∃ w7, w7 = wc := ⟨_, rfl⟩
  rw [← hw7] at h7 h7f ⊢
  have HR7 := Lib.hid h7; have HF7 := Lib.hid h7f
  clear h7 h7f hw7 HSW HR6 HF6
  have HSW := Lib.hid (show ∀ x, Below w7.heap.size w7 x → True ∧ x.cell? ⟨B, 6, none⟩ = some (.pointer (some ⟨ks, 0, none⟩)) ∧ x.cell? ⟨B, 4, none⟩ = some (.pointer (some ⟨so, 0, none⟩)) ∧ x.cell? ⟨so, 2, none⟩ = some (.int .i64 C2) from fun x hx => ⟨trivial, (HR7.out.on hx).blk.cellAt (i := 6) (by simp), (HR7.out.on hx).blk.cellAt (i := 4) (by simp), (HR7.out.on hx).hso.blk.cellAt (i := 2) (by simp)⟩)
  go_upto_region 14 with fail
  go_cut [12, 13] (fun s12 s13 wx => s12 = .int .i64 LX ∧ s13 = .bool LB ∧ RP wx B ({ s with mc := C1, mu := U1, sc := C2, su := U2, bi := B1, t := T1, t2 := T2 } : PD) mo so km ks mine its at_ si ∧ Fp (RPS B mo so km ks) w wx)
  case first =>
    refine wp_region_held_drew (S := fun x => True ∧ x.cell? ⟨B, 6, none⟩ = some (.pointer (some ⟨ks, 0, none⟩)) ∧ x.cell? ⟨B, 4, none⟩ = some (.pointer (some ⟨so, 0, none⟩)) ∧ x.cell? ⟨so, 2, none⟩ = some (.int .i64 C2)) (by kernel_rfl) (HSW.out _ (Below.refl _ _).drew) (fun hHeld => ?_)
    refine wpAnyH_take (i := 0) (oi := _) (v := ?_) rfl (by kernel_rfl) (by kernel_rfl) (by kernel_rfl) (fun _ _ _ h => h) (Or.inl ⟨by rfl, ?_⟩) (by assumption) ?_
    rotate_left
    · intro x hSx
      try dsimp only at hSx
      obtain ⟨_, hSx0, hSx1, hSx2⟩ := hSx
      go_simp
      first | done | with_reducible rfl
    try simp only [Act.put]
    refine wpAnyH_take (i := 1) (oi := _) (v := ?_) rfl (by kernel_rfl) (by kernel_rfl) (by kernel_rfl) (fun _ _ _ h => h) (Or.inl ⟨by rfl, ?_⟩) (by assumption) ?_
    rotate_left
    · intro x hSx
      try dsimp only at hSx
      obtain ⟨_, hSx0, hSx1, hSx2⟩ := hSx
      go_simp
      first | done | with_reducible rfl
    try simp only [Act.put]
    refine wpAnyH_take (i := 2) (oi := _) (v := ?_) rfl (by kernel_rfl) (by kernel_rfl) (by kernel_rfl) (fun _ _ _ h => h) (Or.inl ⟨by rfl, ?_⟩) (by assumption) ?_
    rotate_left
    · intro x hSx
      try dsimp only at hSx
      obtain ⟨_, hSx0, hSx1, hSx2⟩ := hSx
      go_simp
      first | done | with_reducible rfl
    try simp only [Act.put]
    refine wpAnyH_take (i := 3) (oi := _) (v := ?_) rfl (by kernel_rfl) (by kernel_rfl) (by kernel_rfl) (fun _ _ _ h => h) (Or.inl ⟨by rfl, ?_⟩) (by assumption) ?_
    rotate_left
    · intro x hSx
      try dsimp only at hSx
      obtain ⟨_, hSx0, hSx1, hSx2⟩ := hSx
      go_simp
      first | done | with_reducible rfl
    try simp only [Act.put]
    refine wpAnyH_take (i := 4) (oi := _) (v := ?_) rfl (by kernel_rfl) (by kernel_rfl) (by kernel_rfl) (fun _ _ _ h => h) (Or.inl ⟨by rfl, ?_⟩) (by assumption) ?_
    rotate_left
    · intro x hSx
      try dsimp only at hSx
      obtain ⟨_, hSx0, hSx1, hSx2⟩ := hSx
      go_simp
      first | done | with_reducible rfl
    try simp only [Act.put]
    refine wpAnyH_take (i := 5) (oi := _) (v := ?_) rfl (by kernel_rfl) (by kernel_rfl) (by kernel_rfl) (fun _ _ _ h => h) (Or.inl ⟨by rfl, ?_⟩) (by assumption) ?_
    rotate_left
    · intro x hSx
      try dsimp only at hSx
      obtain ⟨_, hSx0, hSx1, hSx2⟩ := hSx
      go_simp
      first | done | with_reducible rfl
    try simp only [Act.put]
    refine wpAnyH_take (i := 6) (oi := _) (v := ?_) rfl (by kernel_rfl) (by kernel_rfl) (by kernel_rfl) (fun _ _ _ h => h) (Or.inl ⟨by rfl, ?_⟩) (by assumption) ?_
    rotate_left
    · intro x hSx
      try dsimp only at hSx
      obtain ⟨_, hSx0, hSx1, hSx2⟩ := hSx
      go_simp
      first | done | with_reducible rfl
    try simp only [Act.put]
    refine wpAnyH_take (i := 7) (oi := _) (v := ?_) rfl (by kernel_rfl) (by kernel_rfl) (by kernel_rfl) (fun _ _ _ h => h) (Or.inl ⟨by rfl, ?_⟩) (by assumption) ?_
    rotate_left
    · intro x hSx
      try dsimp only at hSx
      obtain ⟨_, hSx0, hSx1, hSx2⟩ := hSx
      go_simp
      first | done | with_reducible rfl
    try simp only [Act.put]
    refine wpAnyH_take (i := 8) (oi := _) (v := ?_) rfl (by kernel_rfl) (by kernel_rfl) (by kernel_rfl) (fun _ _ _ h => h) (Or.inl ⟨by rfl, ?_⟩) (by assumption) ?_
    rotate_left
    · intro x hSx
      try dsimp only at hSx
      obtain ⟨_, hSx0, hSx1, hSx2⟩ := hSx
      go_simp
      first | done | with_reducible rfl
    try simp only [Act.put]
    refine wpAnyH_take (i := 9) (oi := _) (v := ?_) rfl (by kernel_rfl) (by kernel_rfl) (by kernel_rfl) (fun _ _ _ h => h) (Or.inl ⟨by rfl, ?_⟩) (by assumption) ?_
    rotate_left
    · intro x hSx
      try dsimp only at hSx
      obtain ⟨_, hSx0, hSx1, hSx2⟩ := hSx
      go_simp
      first | done | with_reducible rfl
    try simp only [Act.put]
    refine wpAnyH_take (i := 10) (oi := _) (v := ?_) rfl (by kernel_rfl) (by kernel_rfl) (by kernel_rfl) (fun _ _ _ h => h) (Or.inl ⟨by rfl, ?_⟩) (by assumption) ?_
    rotate_left
    · intro x hSx
      try dsimp only at hSx
      obtain ⟨_, hSx0, hSx1, hSx2⟩ := hSx
      go_simp
      first | done | with_reducible rfl
    try simp only [Act.put]
    refine wpAnyH_ready (rs := [11]) (by kernel_rfl) (by simp) ?_
    refine AllReadyH.cons (o := _) rfl (fun K hK => ?_) AllReadyH.nil
    go_simp
    refine (HSL.out _ (HR7.out.on (Below.refl _ _).drew).hks).mono ?_
    rintro y wz ⟨rfl, hb8⟩
    have h8 := HR7.out.on ((Below.refl _ _).drew.trans hb8)
    have h8f := HF7.out.step ((Below.refl _ _).drew.trans hb8)
    have h8s := (show True ∧ wz.cell? ⟨B, 6, none⟩ = some (.pointer (some ⟨ks, 0, none⟩)) ∧ wz.cell? ⟨B, 4, none⟩ = some (.pointer (some ⟨so, 0, none⟩)) ∧ wz.cell? ⟨so, 2, none⟩ = some (.int .i64 C2) from ⟨trivial, h8.blk.cellAt (i := 6) (by simp), h8.blk.cellAt (i := 4) (by simp), h8.hso.blk.cellAt (i := 2) (by simp)⟩)
    go_wp2_with fail
    refine hK.out _ _ h8s (fun hHeld => ?_)
    clear hK K
    try simp only [Act.put]
    refine wpAnyH_class (C := fun x => x = wz) 12 _ rfl (by kernel_rfl) (by rfl) (by kernel_rfl) (fun x hx => by rw [hx]; exact h8s) rfl ?_
    simp only [List.drop_succ_cons, List.drop_zero]
    repeat
      with_reducible refine wpQuiet_step (fun K hK => ?_)
      first
        | (refine quiet_skip (by rfl) ?_; (with_reducible refine hK _ ?_); clear hK K)
        | (refine quiet_want (by rfl) ?_
           apply Exists.intro
           refine ⟨fun x hx => ?_, hK _ ?_⟩
           (obtain rfl := id hx; go_simp; first | done | rfl | (fail))
           clear hK K)
      try simp only [Act.put]
    with_reducible refine wpQuiet_nil ?_
    intro wq hq
    subst hq
    go_wp2_with fail
    go_meet
    exact ⟨rfl, rfl, h8, h8f⟩
  case rest =>
  obtain ⟨rfl, rfl, h8, h8f⟩ := hcut
  obtain ⟨w8, hw8⟩ : ∃ w8, w8 = wc := ⟨_, rfl⟩
  rw [← hw8] at h8 h8f ⊢
  have HR8 := Lib.hid h8; have HF8 := Lib.hid h8f
  clear h8 h8f hw8 HSW HR7 HF7 HSR HSL HMR HSO HMO HST
  have b12 : w8.cell? ⟨B, 12, none⟩ = some (.bool s.ap.isSome) := HR8.out.blk.cellAt (i := 12) (by simp)
  have hseq := HSEQ.out
  cases ha : s.ap.isSome
  · rw [ha] at b12 hseq
    have hs : SE = s.se := by rw [hseq]; simp
    subst hs
    clear hseq ha
    go_wp2_with fail
    go_ret
    exact ⟨rfl, HR8.out, HF8.out⟩
  · rw [ha] at b12 hseq
    cases LB
    · have hs : SE = s.se := by rw [hseq]; simp
      subst hs
      clear hseq ha
      go_wp2_with fail
      go_ret
      exact ⟨rfl, HR8.out, HF8.out⟩
    · by_cases ht : T2 = LX
      · have hs : SE = true := by rw [hseq, ht]; simp
        subst hs
        have g1 : (T2 == LX) = true := by rw [ht]; simp
        have b14 := HR8.out.blk.cellAt (i := 14) (by simp)
        simp only [List.getElem_cons_succ, List.getElem_cons_zero] at b14
        have f14 := HR8.out.blk.frozenAt 14
        have hcl := HR8.out.blk.lt
        have HR9 := Lib.hid (HR8.out.byB (no := s.no) (ap := s.ap) (se := true) (bi := B1) (HR8.out.blk.put1 (i := 14) (by simp) (.bool true)) ((Kp.refl B (.slice none 0 0) w8).set 14 _) HR8.out.nx HR8.out.ax)
        have HF9 := Lib.hid (HF8.out.byKp ((Kp.refl B (.slice none 0 0) w8).set 14 (.bool true)) (.inl rfl))
        clear hseq ha ht
        go_wp2_with fail
        go_ret
        exact ⟨rfl, HR9.out, HF9.out⟩
      · have hs : SE = s.se := by rw [hseq, decide_eq_false ht]; simp
        subst hs
        have g1 : (T2 == LX) = false := by rw [beq_eq_false_iff_ne]; exact ht
        clear hseq ha ht
        go_wp2_with fail
        go_ret
        exact ⟨rfl, HR8.out, HF8.out⟩
end
end Go.Proofs.Ytbjelggbnmfblaa
