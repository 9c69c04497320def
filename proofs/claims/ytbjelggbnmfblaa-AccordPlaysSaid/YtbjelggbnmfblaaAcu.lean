/- The document's own pair of layer 19: what both have is noted, and applied. Conditions: each theorem says its own. -/
import Derived.Test.YtbjelggbnmfblaaAcs
namespace Go.Proofs.Ytbjelggbnmfblaa
open Go.RowKit
variable {w X : World} {B : Nat} {s : PD} {mo so km ks : Nat} {mine its at_ si : Int}
theorem rp_capture_nil (w : World) : Calls Try.prog 47 #[.pointer none] w fun y w' => y = .returned (.bool false) ∧ w = w' := by
  go_enter Try.func47, Try.ntmps47
  go_wp2_with fail
  go_ret
  exact ⟨rfl, rfl⟩
set_option maxRecDepth 100000 in
set_option maxHeartbeats 8000000 in
theorem rp_capture_no (h : RP w B s mo so km ks mine its at_ si) (hmc : -9223372036854775808 ≤ s.mc ∧ s.mc ≤ 9223372036854775807) (hsc : -9223372036854775808 ≤ s.sc ∧ s.sc ≤ 9223372036854775807) (hk : s.has = false) : Calls Try.prog 47 #[.pointer (some ⟨B, 0, none⟩)] w fun y w' => y = .returned (.bool false) ∧ RP w' B s mo so km ks mine its at_ si ∧ Below w.heap.size w w' := by
  have HR0 := Lib.hid h
  have HML := Lib.hid (fun u hu => rcklook_any s.mc hmc s.c s.v s.r s.t km u hu)
  have HSL := Lib.hid (fun u hu => rcklook_any s.sc hsc s.c2 s.v2 s.r2 s.t2 ks u hu)
  obtain ⟨MB, hMB⟩ : ∃ b, b = lookB s.c s.v s.r s.mc := ⟨_, rfl⟩
  obtain ⟨MX, hMX⟩ : ∃ b, b = lookX s.c s.v s.r s.mc := ⟨_, rfl⟩
  obtain ⟨SB_, hSB⟩ : ∃ b, b = lookB s.c2 s.v2 s.r2 s.sc := ⟨_, rfl⟩
  obtain ⟨SX, hSX⟩ : ∃ b, b = lookX s.c2 s.v2 s.r2 s.sc := ⟨_, rfl⟩
  rw [← hMB, ← hMX] at HML
  rw [← hSB, ← hSX] at HSL
  have hk2 : (MB && SB_) = false := by rw [hMB, hSB]; exact hk
  clear h hmc hsc hMB hMX hSB hSX hk
  go_enter Try.func47, Try.ntmps47
  have HSW := Lib.hid (show ∀ x, Below w.heap.size w x → True ∧ x.cell? ⟨B, 5, none⟩ = some (.pointer (some ⟨km, 0, none⟩)) ∧ x.cell? ⟨B, 3, none⟩ = some (.pointer (some ⟨mo, 0, none⟩)) ∧ x.cell? ⟨mo, 2, none⟩ = some (.int .i64 s.mc) from fun x hx => ⟨trivial, (HR0.out.on hx).blk.cellAt (i := 5) (by simp), (HR0.out.on hx).blk.cellAt (i := 3) (by simp), (HR0.out.on hx).hmo.blk.cellAt (i := 2) (by simp)⟩)
  go_upto_region 3 with fail
  go_cut [3, 4] (fun s3 s4 wx => s3 = .int .i64 MX ∧ s4 = .bool MB ∧ RP wx B s mo so km ks mine its at_ si ∧ Below w.heap.size w wx)
  case first =>
    refine wp_region_held_drew (S := fun x => True ∧ x.cell? ⟨B, 5, none⟩ = some (.pointer (some ⟨km, 0, none⟩)) ∧ x.cell? ⟨B, 3, none⟩ = some (.pointer (some ⟨mo, 0, none⟩)) ∧ x.cell? ⟨mo, 2, none⟩ = some (.int .i64 s.mc)) (by kernel_rfl) (HSW.out _ (Below.refl _ _).drew) (fun hHeld => ?_)
    refine wpAnyH_take (i := 0) (oi := _) (v := ?_) rfl (by kernel_rfl) (by kernel_rfl) (by kernel_rfl) (fun _ _ _ h => h) (Or.inl ⟨by rfl, ?_⟩) (by assumption) ?_
    rotate_left
    · intro x hSx
      try dsimp only at hSx
      obtain ⟨_, hSx0, hSx1, hSx2⟩ := hSx
      go_simp
      first | done | with_reducible rfl
    try simp only [Act.put]
    refine wpAnyH_take (i := 1) (oi := _) (v := ?_) rfl (by kernel_rfl) (by kernel_rfl) (by kernel_rfl) (fun _ _ _ h => h) (Or.inl ⟨by rfl, ?_⟩) (by assumption) ?_
    rotate_left
    · intro x hSx
      try dsimp only at hSx
      obtain ⟨_, hSx0, hSx1, hSx2⟩ := hSx
      go_simp
      first | done | with_reducible rfl
    try simp only [Act.put]
    refine wpAnyH_take (i := 2) (oi := _) (v := ?_) rfl (by kernel_rfl) (by kernel_rfl) (by kernel_rfl) (fun _ _ _ h => h) (Or.inl ⟨by rfl, ?_⟩) (by assumption) ?_
    rotate_left
    · intro x hSx
      try dsimp only at hSx
      obtain ⟨_, hSx0, hSx1, hSx2⟩ := hSx
      go_simp
      first | done | with_reducible rfl
    try simp only [Act.put]
    refine wpAnyH_take (i := 3) (oi := _) (v := ?_) rfl (by kernel_rfl) (by kernel_rfl) (by kernel_rfl) (fun _ _ _ h => h) (Or.inl ⟨by rfl, ?_⟩) (by assumption) ?_
    rotate_left
    · intro x hSx
      try dsimp only at hSx
      obtain ⟨_, hSx0, hSx1, hSx2⟩ := hSx
      go_simp
      first | done | with_reducible rfl
    try simp only [Act.put]
    refine wpAnyH_take (i := 4) (oi := _) (v := ?_) rfl (by kernel_rfl) (by kernel_rfl) (by kernel_rfl) (fun _ _ _ h => h) (Or.inl ⟨by rfl, ?_⟩) (by assumption) ?_
    rotate_left
    · intro x hSx
      try dsimp only at hSx
      obtain ⟨_, hSx0, hSx1, hSx2⟩ := hSx
      go_simp
      first | done | with_reducible rfl
    try simp only [Act.put]
    refine wpAnyH_take (i := 5) (oi := _) (v := ?_) rfl (by kernel_rfl) (by kernel_rfl) (by kernel_rfl) (fun _ _ _ h => h) (Or.inl ⟨by rfl, ?_⟩) (by assumption) ?_
    rotate_left
    · intro x hSx
      try dsimp only at hSx
      obtain ⟨_, hSx0, hSx1, hSx2⟩ := hSx
      go_simp
      first | done | with_reducible rfl
    try simp only [Act.put]
    refine wpAnyH_take (i := 6) (oi := _) (v := ?_) rfl (by kernel_rfl) (by kernel_rfl) (by kernel_rfl) (fun _ _ _ h => h) (Or.inl ⟨by rfl, ?_⟩) (by assumption) ?_
    rotate_left
    · intro x hSx
      try dsimp only at hSx
      obtain ⟨_, hSx0, hSx1, hSx2⟩ := hSx
      go_simp
      first | done | with_reducible rfl
    try simp only [Act.put]
    refine wpAnyH_take (i := 7) (oi := _) (v := ?_) rfl (by kernel_rfl) (by kernel_rfl) (by kernel_rfl) (fun _ _ _ h => h) (Or.inl ⟨by rfl, ?_⟩) (by assumption) ?_
    rotate_left
    · intro x hSx
      try dsimp only at hSx
      obtain ⟨_, hSx0, hSx1, hSx2⟩ := hSx
      go_simp
      first | done | with_reducible rfl
    try simp only [Act.put]
    refine wpAnyH_take (i := 8) (oi := _) (v := ?_) rfl (by kernel_rfl) (by kernel_rfl) (by kernel_rfl) (fun _ _ _ h => h) (Or.inl ⟨by rfl, ?_⟩) (by assumption) ?_
    rotate_left
    · intro x hSx
      try dsimp only at hSx
      obtain ⟨_, hSx0, hSx1, hSx2⟩ := hSx
      go_simp
      first | done | with_reducible rfl
    try simp only [Act.put]
    refine wpAnyH_take (i := 9) (oi := _) (v := ?_) rfl (by kernel_rfl) (by kernel_rfl) (by kernel_rfl) (fun _ _ _ h => h) (Or.inl ⟨by rfl, ?_⟩) (by assumption) ?_
    rotate_left
    · intro x hSx
      try dsimp only at hSx
      obtain ⟨_, hSx0, hSx1, hSx2⟩ := hSx
      go_simp
      first | done | with_reducible rfl
    try simp only [Act.put]
    refine wpAnyH_take (i := 10) (oi := _) (v := ?_) rfl (by kernel_rfl) (by kernel_rfl) (by kernel_rfl) (fun _ _ _ h => h) (Or.inl ⟨by rfl, ?_⟩) (by assumption) ?_
    rotate_left
    · intro x hSx
      try dsimp only at hSx
      obtain ⟨_, hSx0, hSx1, hSx2⟩ := hSx
      go_simp
      first | done | with_reducible rfl
    try simp only [Act.put]
    refine wpAnyH_ready (rs := [11]) (by kernel_rfl) (by simp) ?_
    refine AllReadyH.cons (o := _) rfl (fun K hK => ?_) AllReadyH.nil
    go_simp
    refine (HML.out _ (HR0.out.on (Below.refl _ _).drew).hkm).mono ?_
    rintro y wz ⟨rfl, hb8⟩
    have h8b := (Below.refl w.heap.size w).drew.trans hb8
    have h8 := HR0.out.on h8b
    have h8s := (show True ∧ wz.cell? ⟨B, 5, none⟩ = some (.pointer (some ⟨km, 0, none⟩)) ∧ wz.cell? ⟨B, 3, none⟩ = some (.pointer (some ⟨mo, 0, none⟩)) ∧ wz.cell? ⟨mo, 2, none⟩ = some (.int .i64 s.mc) from ⟨trivial, h8.blk.cellAt (i := 5) (by simp), h8.blk.cellAt (i := 3) (by simp), h8.hmo.blk.cellAt (i := 2) (by simp)⟩)
    go_wp2_with fail
    refine hK.out _ _ h8s (fun hHeld => ?_)
    clear hK K
    try simp only [Act.put]
    refine wpAnyH_class (C := fun x => x = wz) 12 _ rfl (by kernel_rfl) (by rfl) (by kernel_rfl) (fun x hx => by rw [hx]; exact h8s) rfl ?_
    simp only [List.drop_succ_cons, List.drop_zero]
    repeat
      with_reducible refine wpQuiet_step (fun K hK => ?_)
      first
        | (refine quiet_skip (by rfl) ?_; (with_reducible refine hK _ ?_); clear hK K)
        | (refine quiet_want (by rfl) ?_
           apply Exists.intro
           refine ⟨fun x hx => ?_, hK _ ?_⟩
           (obtain rfl := id hx; go_simp; first | done | rfl | (fail))
           clear hK K)
      try simp only [Act.put]
    with_reducible refine wpQuiet_nil ?_
    intro wq hq
    subst hq
    go_wp2_with fail
    go_meet
    exact ⟨rfl, rfl, h8, h8b⟩
  case rest =>
  obtain ⟨rfl, rfl, h7, h7b⟩ := hcut
  obtain ⟨w1, hw1⟩ : ∃ w7, w7 = wc := ⟨_, rfl⟩
  rw [← hw1] at h7 h7b ⊢
  have HR1 := Lib.hid h7; have HB1 := Lib.hid h7b
  clear h7 h7b hw1 HSW HR0
  have HSW := Lib.hid (show ∀ x, Below w1.heap.size w1 x → True ∧ x.cell? ⟨B, 6, none⟩ = some (.pointer (some ⟨ks, 0, none⟩)) ∧ x.cell? ⟨B, 4, none⟩ = some (.pointer (some ⟨so, 0, none⟩)) ∧ x.cell? ⟨so, 2, none⟩ = some (.int .i64 s.sc) from fun x hx => ⟨trivial, (HR1.out.on hx).blk.cellAt (i := 6) (by simp), (HR1.out.on hx).blk.cellAt (i := 4) (by simp), (HR1.out.on hx).hso.blk.cellAt (i := 2) (by simp)⟩)
  go_upto_region 4 with fail
  go_cut [5, 6] (fun s5 s6 wx => s5 = .int .i64 SX ∧ s6 = .bool SB_ ∧ RP wx B s mo so km ks mine its at_ si ∧ Below w1.heap.size w1 wx)
  case first =>
    refine wp_region_held_drew (S := fun x => True ∧ x.cell? ⟨B, 6, none⟩ = some (.pointer (some ⟨ks, 0, none⟩)) ∧ x.cell? ⟨B, 4, none⟩ = some (.pointer (some ⟨so, 0, none⟩)) ∧ x.cell? ⟨so, 2, none⟩ = some (.int .i64 s.sc)) (by kernel_rfl) (HSW.out _ (Below.refl _ _).drew) (fun hHeld => ?_)
    refine wpAnyH_take (i := 0) (oi := _) (v := ?_) rfl (by kernel_rfl) (by kernel_rfl) (by kernel_rfl) (fun _ _ _ h => h) (Or.inl ⟨by rfl, ?_⟩) (by assumption) ?_
    rotate_left
    · intro x hSx
      try dsimp only at hSx
      obtain ⟨_, hSx0, hSx1, hSx2⟩ := hSx
      go_simp
      first | done | with_reducible rfl
    try simp only [Act.put]
    refine wpAnyH_take (i := 1) (oi := _) (v := ?_) rfl (by kernel_rfl) (by kernel_rfl) (by kernel_rfl) (fun _ _ _ h => h) (Or.inl ⟨by rfl, ?_⟩) (by assumption) ?_
    rotate_left
    · intro x hSx
      try dsimp only at hSx
      obtain ⟨_, hSx0, hSx1, hSx2⟩ := hSx
      go_simp
      first | done | with_reducible rfl
    try simp only [Act.put]
    refine wpAnyH_take (i := 2) (oi := _) (v := ?_) rfl (by kernel_rfl) (by kernel_rfl) (by kernel_rfl) (fun _ _ _ h => h) (Or.inl ⟨by rfl, ?_⟩) (by assumption) ?_
    rotate_left
    · intro x hSx
      try dsimp only at hSx
      obtain ⟨_, hSx0, hSx1, hSx2⟩ := hSx
      go_simp
      first | done | with_reducible rfl
    try simp only [Act.put]
    refine wpAnyH_take (i := 3) (oi := _) (v := ?_) rfl (by kernel_rfl) (by kernel_rfl) (by kernel_rfl) (fun _ _ _ h => h) (Or.inl ⟨by rfl, ?_⟩) (by assumption) ?_
    rotate_left
    · intro x hSx
      try dsimp only at hSx
      obtain ⟨_, hSx0, hSx1, hSx2⟩ := hSx
      go_simp
      first | done | with_reducible rfl
    try simp only [Act.put]
    refine wpAnyH_take (i := 4) (oi := _) (v := ?_) rfl (by kernel_rfl) (by kernel_rfl) (by kernel_rfl) (fun _ _ _ h => h) (Or.inl ⟨by rfl, ?_⟩) (by assumption) ?_
    rotate_left
    · intro x hSx
      try dsimp only at hSx
      obtain ⟨_, hSx0, hSx1, hSx2⟩ := hSx
      go_simp
      first | done | with_reducible rfl
    try simp only [Act.put]
    refine wpAnyH_take (i := 5) (oi := _) (v := ?_) rfl (by kernel_rfl) (by kernel_rfl) (by kernel_rfl) (fun _ _ _ h => h) (Or.inl ⟨by rfl, ?_⟩) (by assumption) ?_
    rotate_left
    · intro x hSx
      try dsimp only at hSx
      obtain ⟨_, hSx0, hSx1, hSx2⟩ := hSx
      go_simp
      first | done | with_reducible rfl
    try simp only [Act.put]
    refine wpAnyH_take (i := 6) (oi := _) (v := ?_) rfl (by kernel_rfl) (by kernel_rfl) (by kernel_rfl) (fun _ _ _ h => h) (Or.inl ⟨by rfl, ?_⟩) (by assumption) ?_
    rotate_left
    · intro x hSx
      try dsimp only at hSx
      obtain ⟨_, hSx0, hSx1, hSx2⟩ := hSx
      go_simp
      first | done | with_reducible rfl
    try simp only [Act.put]
    refine wpAnyH_take (i := 7) (oi := _) (v := ?_) rfl (by kernel_rfl) (by kernel_rfl) (by kernel_rfl) (fun _ _ _ h => h) (Or.inl ⟨by rfl, ?_⟩) (by assumption) ?_
    rotate_left
    · intro x hSx
      try dsimp only at hSx
      obtain ⟨_, hSx0, hSx1, hSx2⟩ := hSx
      go_simp
      first | done | with_reducible rfl
    try simp only [Act.put]
    refine wpAnyH_take (i := 8) (oi := _) (v := ?_) rfl (by kernel_rfl) (by kernel_rfl) (by kernel_rfl) (fun _ _ _ h => h) (Or.inl ⟨by rfl, ?_⟩) (by assumption) ?_
    rotate_left
    · intro x hSx
      try dsimp only at hSx
      obtain ⟨_, hSx0, hSx1, hSx2⟩ := hSx
      go_simp
      first | done | with_reducible rfl
    try simp only [Act.put]
    refine wpAnyH_take (i := 9) (oi := _) (v := ?_) rfl (by kernel_rfl) (by kernel_rfl) (by kernel_rfl) (fun _ _ _ h => h) (Or.inl ⟨by rfl, ?_⟩) (by assumption) ?_
    rotate_left
    · intro x hSx
      try dsimp only at hSx
      obtain ⟨_, hSx0, hSx1, hSx2⟩ := hSx
      go_simp
      first | done | with_reducible rfl
    try simp only [Act.put]
    refine wpAnyH_take (i := 10) (oi := _) (v := ?_) rfl (by kernel_rfl) (by kernel_rfl) (by kernel_rfl) (fun _ _ _ h => h) (Or.inl ⟨by rfl, ?_⟩) (by assumption) ?_
    rotate_left
    · intro x hSx
      try dsimp only at hSx
      obtain ⟨_, hSx0, hSx1, hSx2⟩ := hSx
      go_simp
      first | done | with_reducible rfl
    try simp only [Act.put]
    refine wpAnyH_ready (rs := [11]) (by kernel_rfl) (by simp) ?_
    refine AllReadyH.cons (o := _) rfl (fun K hK => ?_) AllReadyH.nil
    go_simp
    refine (HSL.out _ (HR1.out.on (Below.refl _ _).drew).hks).mono ?_
    rintro y wz ⟨rfl, hb8⟩
    have h8b := (Below.refl _ w1).drew.trans hb8
    have h8 := HR1.out.on h8b
    have h8s := (show True ∧ wz.cell? ⟨B, 6, none⟩ = some (.pointer (some ⟨ks, 0, none⟩)) ∧ wz.cell? ⟨B, 4, none⟩ = some (.pointer (some ⟨so, 0, none⟩)) ∧ wz.cell? ⟨so, 2, none⟩ = some (.int .i64 s.sc) from ⟨trivial, h8.blk.cellAt (i := 6) (by simp), h8.blk.cellAt (i := 4) (by simp), h8.hso.blk.cellAt (i := 2) (by simp)⟩)
    go_wp2_with fail
    refine hK.out _ _ h8s (fun hHeld => ?_)
    clear hK K
    try simp only [Act.put]
    refine wpAnyH_class (C := fun x => x = wz) 12 _ rfl (by kernel_rfl) (by rfl) (by kernel_rfl) (fun x hx => by rw [hx]; exact h8s) rfl ?_
    simp only [List.drop_succ_cons, List.drop_zero]
    repeat
      with_reducible refine wpQuiet_step (fun K hK => ?_)
      first
        | (refine quiet_skip (by rfl) ?_; (with_reducible refine hK _ ?_); clear hK K)
        | (refine quiet_want (by rfl) ?_
           apply Exists.intro
           refine ⟨fun x hx => ?_, hK _ ?_⟩
           (obtain rfl := id hx; go_simp; first | done | rfl | (fail))
           clear hK K)
      try simp only [Act.put]
    with_reducible refine wpQuiet_nil ?_
    intro wq hq
    subst hq
    go_wp2_with fail
    go_meet
    exact ⟨rfl, rfl, h8, h8b⟩
  case rest =>
  obtain ⟨rfl, rfl, h7, h7b⟩ := hcut
  obtain ⟨w2, hw2⟩ : ∃ w7, w7 = wc := ⟨_, rfl⟩
  rw [← hw2] at h7 h7b ⊢
  have HR2 := Lib.hid h7; have HB2 := Lib.hid (below_transG HB1.out h7b)
  clear h7 h7b hw2 HSW HR1
  cases MB
  · clear hk2
    go_wp2_with fail
    go_ret
    exact ⟨rfl, HR2.out, HB2.out⟩
  · have hs : SB_ = false := by simpa using hk2
    subst hs
    clear hk2
    go_wp2_with fail
    go_ret
    exact ⟨rfl, HR2.out, HB2.out⟩
set_option maxRecDepth 100000 in
set_option maxHeartbeats 8000000 in
theorem rp_capture_yes (h : RP w B s mo so km ks mine its at_ si) (hmc : -9223372036854775808 ≤ s.mc ∧ s.mc ≤ 9223372036854775807) (hsc : -9223372036854775808 ≤ s.sc ∧ s.sc ≤ 9223372036854775807) (hk : s.has = true) : Calls Try.prog 47 #[.pointer (some ⟨B, 0, none⟩)] w fun y w' => y = .returned (.bool true) ∧ (∃ mine' its' at', RP w' B { s with no := some (s.less, s.bi) } mo so km ks mine' its' at' si) ∧ Fp (RPS B mo so km ks) w w' := by
  have HR0 := Lib.hid h
  have HML := Lib.hid (fun u hu => rcklook_any s.mc hmc s.c s.v s.r s.t km u hu)
  have HSL := Lib.hid (fun u hu => rcklook_any s.sc hsc s.c2 s.v2 s.r2 s.t2 ks u hu)
  obtain ⟨MB, hMB⟩ : ∃ b, b = lookB s.c s.v s.r s.mc := ⟨_, rfl⟩
  obtain ⟨MX, hMX⟩ : ∃ b, b = lookX s.c s.v s.r s.mc := ⟨_, rfl⟩
  obtain ⟨SB_, hSB⟩ : ∃ b, b = lookB s.c2 s.v2 s.r2 s.sc := ⟨_, rfl⟩
  obtain ⟨SX, hSX⟩ : ∃ b, b = lookX s.c2 s.v2 s.r2 s.sc := ⟨_, rfl⟩
  rw [← hMB, ← hMX] at HML
  rw [← hSB, ← hSX] at HSL
  have hk2 : MB = true ∧ SB_ = true := by
    unfold PD.has at hk
    rw [← hMB, ← hSB, Bool.and_eq_true] at hk
    exact hk
  obtain ⟨e1, e2⟩ := hk2
  subst e1 e2
  have HLS := Lib.hid (show s.less = MX - SX by unfold PD.less; rw [hMX, hSX])
  have HBX := Lib.hid (show (-1152921504606846976 ≤ MX ∧ MX ≤ 1152921504606846976) ∧ (-1152921504606846976 ≤ SX ∧ SX ≤ 1152921504606846976) by rw [hMX, hSX]; exact ⟨look_in _ _ _ _, look_in _ _ _ _⟩)
  clear h hmc hsc hMB hMX hSB hSX hk
  go_enter Try.func47, Try.ntmps47
  have HSW := Lib.hid (show ∀ x, Below w.heap.size w x → True ∧ x.cell? ⟨B, 5, none⟩ = some (.pointer (some ⟨km, 0, none⟩)) ∧ x.cell? ⟨B, 3, none⟩ = some (.pointer (some ⟨mo, 0, none⟩)) ∧ x.cell? ⟨mo, 2, none⟩ = some (.int .i64 s.mc) from fun x hx => ⟨trivial, (HR0.out.on hx).blk.cellAt (i := 5) (by simp), (HR0.out.on hx).blk.cellAt (i := 3) (by simp), (HR0.out.on hx).hmo.blk.cellAt (i := 2) (by simp)⟩)
  go_upto_region 3 with fail
  go_cut [3, 4] (fun s3 s4 wx => s3 = .int .i64 MX ∧ s4 = .bool true ∧ RP wx B s mo so km ks mine its at_ si ∧ Below w.heap.size w wx)
  case first =>
    refine wp_region_held_drew (S := fun x => True ∧ x.cell? ⟨B, 5, none⟩ = some (.pointer (some ⟨km, 0, none⟩)) ∧ x.cell? ⟨B, 3, none⟩ = some (.pointer (some ⟨mo, 0, none⟩)) ∧ x.cell? ⟨mo, 2, none⟩ = some (.int .i64 s.mc)) (by kernel_rfl) (HSW.out _ (Below.refl _ _).drew) (fun hHeld => ?_)
    refine wpAnyH_take (i := 0) (oi := _) (v := ?_) rfl (by kernel_rfl) (by kernel_rfl) (by kernel_rfl) (fun _ _ _ h => h) (Or.inl ⟨by rfl, ?_⟩) (by assumption) ?_
    rotate_left
    · intro x hSx
      try dsimp only at hSx
      obtain ⟨_, hSx0, hSx1, hSx2⟩ := hSx
      go_simp
      first | done | with_reducible rfl
    try simp only [Act.put]
    refine wpAnyH_take (i := 1) (oi := _) (v := ?_) rfl (by kernel_rfl) (by kernel_rfl) (by kernel_rfl) (fun _ _ _ h => h) (Or.inl ⟨by rfl, ?_⟩) (by assumption) ?_
    rotate_left
    · intro x hSx
      try dsimp only at hSx
      obtain ⟨_, hSx0, hSx1, hSx2⟩ := hSx
      go_simp
      first | done | with_reducible rfl
    try simp only [Act.put]
    refine wpAnyH_take (i := 2) (oi := _) (v := ?_) rfl (by kernel_rfl) (by kernel_rfl) (by kernel_rfl) (fun _ _ _ h => h) (Or.inl ⟨by rfl, ?_⟩) (by assumption) ?_
    rotate_left
    · intro x hSx
      try dsimp only at hSx
      obtain ⟨_, hSx0, hSx1, hSx2⟩ := hSx
      go_simp
      first | done | with_reducible rfl
    try simp only [Act.put]
    refine wpAnyH_take (i := 3) (oi := _) (v := ?_) rfl (by kernel_rfl) (by kernel_rfl) (by kernel_rfl) (fun _ _ _ h => h) (Or.inl ⟨by rfl, ?_⟩) (by assumption) ?_
    rotate_left
    · intro x hSx
      try dsimp only at hSx
      obtain ⟨_, hSx0, hSx1, hSx2⟩ := hSx
      go_simp
      first | done | with_reducible rfl
    try simp only [Act.put]
    refine wpAnyH_take (i := 4) (oi := _) (v := ?_) rfl (by kernel_rfl) (by kernel_rfl) (by kernel_rfl) (fun _ _ _ h => h) (Or.inl ⟨by rfl, ?_⟩) (by assumption) ?_
    rotate_left
    · intro x hSx
      try dsimp only at hSx
      obtain ⟨_, hSx0, hSx1, hSx2⟩ := hSx
      go_simp
      first | done | with_reducible rfl
    try simp only [Act.put]
    refine wpAnyH_take (i := 5) (oi := _) (v := ?_) rfl (by kernel_rfl) (by kernel_rfl) (by kernel_rfl) (fun _ _ _ h => h) (Or.inl ⟨by rfl, ?_⟩) (by assumption) ?_
    rotate_left
    · intro x hSx
      try dsimp only at hSx
      obtain ⟨_, hSx0, hSx1, hSx2⟩ := hSx
      go_simp
      first | done | with_reducible rfl
    try simp only [Act.put]
    refine wpAnyH_take (i := 6) (oi := _) (v := ?_) rfl (by kernel_rfl) (by kernel_rfl) (by kernel_rfl) (fun _ _ _ h => h) (Or.inl ⟨by rfl, ?_⟩) (by assumption) ?_
    rotate_left
    · intro x hSx
      try dsimp only at hSx
      obtain ⟨_, hSx0, hSx1, hSx2⟩ := hSx
      go_simp
      first | done | with_reducible rfl
    try simp only [Act.put]
    refine wpAnyH_take (i := 7) (oi := _) (v := ?_) rfl (by kernel_rfl) (by kernel_rfl) (by kernel_rfl) (fun _ _ _ h => h) (Or.inl ⟨by rfl, ?_⟩) (by assumption) ?_
    rotate_left
    · intro x hSx
      try dsimp only at hSx
      obtain ⟨_, hSx0, hSx1, hSx2⟩ := hSx
      go_simp
      first | done | with_reducible rfl
    try simp only [Act.put]
    refine wpAnyH_take (i := 8) (oi := _) (v := ?_) rfl (by kernel_rfl) (by kernel_rfl) (by kernel_rfl) (fun _ _ _ h => h) (Or.inl ⟨by rfl, ?_⟩) (by assumption) ?_
    rotate_left
    · intro x hSx
      try dsimp only at hSx
      obtain ⟨_, hSx0, hSx1, hSx2⟩ := hSx
      go_simp
      first | done | with_reducible rfl
    try simp only [Act.put]
    refine wpAnyH_take (i := 9) (oi := _) (v := ?_) rfl (by kernel_rfl) (by kernel_rfl) (by kernel_rfl) (fun _ _ _ h => h) (Or.inl ⟨by rfl, ?_⟩) (by assumption) ?_
    rotate_left
    · intro x hSx
      try dsimp only at hSx
      obtain ⟨_, hSx0, hSx1, hSx2⟩ := hSx
      go_simp
      first | done | with_reducible rfl
    try simp only [Act.put]
    refine wpAnyH_take (i := 10) (oi := _) (v := ?_) rfl (by kernel_rfl) (by kernel_rfl) (by kernel_rfl) (fun _ _ _ h => h) (Or.inl ⟨by rfl, ?_⟩) (by assumption) ?_
    rotate_left
    · intro x hSx
      try dsimp only at hSx
      obtain ⟨_, hSx0, hSx1, hSx2⟩ := hSx
      go_simp
      first | done | with_reducible rfl
    try simp only [Act.put]
    refine wpAnyH_ready (rs := [11]) (by kernel_rfl) (by simp) ?_
    refine AllReadyH.cons (o := _) rfl (fun K hK => ?_) AllReadyH.nil
    go_simp
    refine (HML.out _ (HR0.out.on (Below.refl _ _).drew).hkm).mono ?_
    rintro y wz ⟨rfl, hb8⟩
    have h8b := (Below.refl w.heap.size w).drew.trans hb8
    have h8 := HR0.out.on h8b
    have h8s := (show True ∧ wz.cell? ⟨B, 5, none⟩ = some (.pointer (some ⟨km, 0, none⟩)) ∧ wz.cell? ⟨B, 3, none⟩ = some (.pointer (some ⟨mo, 0, none⟩)) ∧ wz.cell? ⟨mo, 2, none⟩ = some (.int .i64 s.mc) from ⟨trivial, h8.blk.cellAt (i := 5) (by simp), h8.blk.cellAt (i := 3) (by simp), h8.hmo.blk.cellAt (i := 2) (by simp)⟩)
    go_wp2_with fail
    refine hK.out _ _ h8s (fun hHeld => ?_)
    clear hK K
    try simp only [Act.put]
    refine wpAnyH_class (C := fun x => x = wz) 12 _ rfl (by kernel_rfl) (by rfl) (by kernel_rfl) (fun x hx => by rw [hx]; exact h8s) rfl ?_
    simp only [List.drop_succ_cons, List.drop_zero]
    repeat
      with_reducible refine wpQuiet_step (fun K hK => ?_)
      first
        | (refine quiet_skip (by rfl) ?_; (with_reducible refine hK _ ?_); clear hK K)
        | (refine quiet_want (by rfl) ?_
           apply Exists.intro
           refine ⟨fun x hx => ?_, hK _ ?_⟩
           (obtain rfl := id hx; go_simp; first | done | rfl | (fail))
           clear hK K)
      try simp only [Act.put]
    with_reducible refine wpQuiet_nil ?_
    intro wq hq
    subst hq
    go_wp2_with fail
    go_meet
    exact ⟨rfl, rfl, h8, h8b⟩
  case rest =>
  obtain ⟨rfl, rfl, h7, h7b⟩ := hcut
  obtain ⟨w1, hw1⟩ : ∃ w7, w7 = wc := ⟨_, rfl⟩
  rw [← hw1] at h7 h7b ⊢
  have HR1 := Lib.hid h7; have HB1 := Lib.hid h7b
  clear h7 h7b hw1 HSW HR0
  have HSW := Lib.hid (show ∀ x, Below w1.heap.size w1 x → True ∧ x.cell? ⟨B, 6, none⟩ = some (.pointer (some ⟨ks, 0, none⟩)) ∧ x.cell? ⟨B, 4, none⟩ = some (.pointer (some ⟨so, 0, none⟩)) ∧ x.cell? ⟨so, 2, none⟩ = some (.int .i64 s.sc) from fun x hx => ⟨trivial, (HR1.out.on hx).blk.cellAt (i := 6) (by simp), (HR1.out.on hx).blk.cellAt (i := 4) (by simp), (HR1.out.on hx).hso.blk.cellAt (i := 2) (by simp)⟩)
  go_upto_region 4 with fail
  go_cut [5, 6] (fun s5 s6 wx => s5 = .int .i64 SX ∧ s6 = .bool true ∧ RP wx B s mo so km ks mine its at_ si ∧ Below w1.heap.size w1 wx)
  case first =>
    refine wp_region_held_drew (S := fun x => True ∧ x.cell? ⟨B, 6, none⟩ = some (.pointer (some ⟨ks, 0, none⟩)) ∧ x.cell? ⟨B, 4, none⟩ = some (.pointer (some ⟨so, 0, none⟩)) ∧ x.cell? ⟨so, 2, none⟩ = some (.int .i64 s.sc)) (by kernel_rfl) (HSW.out _ (Below.refl _ _).drew) (fun hHeld => ?_)
    refine wpAnyH_take (i := 0) (oi := _) (v := ?_) rfl (by kernel_rfl) (by kernel_rfl) (by kernel_rfl) (fun _ _ _ h => h) (Or.inl ⟨by rfl, ?_⟩) (by assumption) ?_
    rotate_left
    · intro x hSx
      try dsimp only at hSx
      obtain ⟨_, hSx0, hSx1, hSx2⟩ := hSx
      go_simp
      first | done | with_reducible rfl
    try simp only [Act.put]
    refine wpAnyH_take (i := 1) (oi := _) (v := ?_) rfl (by kernel_rfl) (by kernel_rfl) (by kernel_rfl) (fun _ _ _ h => h) (Or.inl ⟨by rfl, ?_⟩) (by assumption) ?_
    rotate_left
    · intro x hSx
      try dsimp only at hSx
      obtain ⟨_, hSx0, hSx1, hSx2⟩ := hSx
      go_simp
      first | done | with_reducible rfl
    try simp only [Act.put]
    refine wpAnyH_take (i := 2) (oi := _) (v := ?_) rfl (by kernel_rfl) (by kernel_rfl) (by kernel_rfl) (fun _ _ _ h => h) (Or.inl ⟨by rfl, ?_⟩) (by assumption) ?_
    rotate_left
    · intro x hSx
      try dsimp only at hSx
      obtain ⟨_, hSx0, hSx1, hSx2⟩ := hSx
      go_simp
      first | done | with_reducible rfl
    try simp only [Act.put]
    refine wpAnyH_take (i := 3) (oi := _) (v := ?_) rfl (by kernel_rfl) (by kernel_rfl) (by kernel_rfl) (fun _ _ _ h => h) (Or.inl ⟨by rfl, ?_⟩) (by assumption) ?_
    rotate_left
    · intro x hSx
      try dsimp only at hSx
      obtain ⟨_, hSx0, hSx1, hSx2⟩ := hSx
      go_simp
      first | done | with_reducible rfl
    try simp only [Act.put]
    refine wpAnyH_take (i := 4) (oi := _) (v := ?_) rfl (by kernel_rfl) (by kernel_rfl) (by kernel_rfl) (fun _ _ _ h => h) (Or.inl ⟨by rfl, ?_⟩) (by assumption) ?_
    rotate_left
    · intro x hSx
      try dsimp only at hSx
      obtain ⟨_, hSx0, hSx1, hSx2⟩ := hSx
      go_simp
      first | done | with_reducible rfl
    try simp only [Act.put]
    refine wpAnyH_take (i := 5) (oi := _) (v := ?_) rfl (by kernel_rfl) (by kernel_rfl) (by kernel_rfl) (fun _ _ _ h => h) (Or.inl ⟨by rfl, ?_⟩) (by assumption) ?_
    rotate_left
    · intro x hSx
      try dsimp only at hSx
      obtain ⟨_, hSx0, hSx1, hSx2⟩ := hSx
      go_simp
      first | done | with_reducible rfl
    try simp only [Act.put]
    refine wpAnyH_take (i := 6) (oi := _) (v := ?_) rfl (by kernel_rfl) (by kernel_rfl) (by kernel_rfl) (fun _ _ _ h => h) (Or.inl ⟨by rfl, ?_⟩) (by assumption) ?_
    rotate_left
    · intro x hSx
      try dsimp only at hSx
      obtain ⟨_, hSx0, hSx1, hSx2⟩ := hSx
      go_simp
      first | done | with_reducible rfl
    try simp only [Act.put]
    refine wpAnyH_take (i := 7) (oi := _) (v := ?_) rfl (by kernel_rfl) (by kernel_rfl) (by kernel_rfl) (fun _ _ _ h => h) (Or.inl ⟨by rfl, ?_⟩) (by assumption) ?_
    rotate_left
    · intro x hSx
      try dsimp only at hSx
      obtain ⟨_, hSx0, hSx1, hSx2⟩ := hSx
      go_simp
      first | done | with_reducible rfl
    try simp only [Act.put]
    refine wpAnyH_take (i := 8) (oi := _) (v := ?_) rfl (by kernel_rfl) (by kernel_rfl) (by kernel_rfl) (fun _ _ _ h => h) (Or.inl ⟨by rfl, ?_⟩) (by assumption) ?_
    rotate_left
    · intro x hSx
      try dsimp only at hSx
      obtain ⟨_, hSx0, hSx1, hSx2⟩ := hSx
      go_simp
      first | done | with_reducible rfl
    try simp only [Act.put]
    refine wpAnyH_take (i := 9) (oi := _) (v := ?_) rfl (by kernel_rfl) (by kernel_rfl) (by kernel_rfl) (fun _ _ _ h => h) (Or.inl ⟨by rfl, ?_⟩) (by assumption) ?_
    rotate_left
    · intro x hSx
      try dsimp only at hSx
      obtain ⟨_, hSx0, hSx1, hSx2⟩ := hSx
      go_simp
      first | done | with_reducible rfl
    try simp only [Act.put]
    refine wpAnyH_take (i := 10) (oi := _) (v := ?_) rfl (by kernel_rfl) (by kernel_rfl) (by kernel_rfl) (fun _ _ _ h => h) (Or.inl ⟨by rfl, ?_⟩) (by assumption) ?_
    rotate_left
    · intro x hSx
      try dsimp only at hSx
      obtain ⟨_, hSx0, hSx1, hSx2⟩ := hSx
      go_simp
      first | done | with_reducible rfl
    try simp only [Act.put]
    refine wpAnyH_ready (rs := [11]) (by kernel_rfl) (by simp) ?_
    refine AllReadyH.cons (o := _) rfl (fun K hK => ?_) AllReadyH.nil
    go_simp
    refine (HSL.out _ (HR1.out.on (Below.refl _ _).drew).hks).mono ?_
    rintro y wz ⟨rfl, hb8⟩
    have h8b := (Below.refl _ w1).drew.trans hb8
    have h8 := HR1.out.on h8b
    have h8s := (show True ∧ wz.cell? ⟨B, 6, none⟩ = some (.pointer (some ⟨ks, 0, none⟩)) ∧ wz.cell? ⟨B, 4, none⟩ = some (.pointer (some ⟨so, 0, none⟩)) ∧ wz.cell? ⟨so, 2, none⟩ = some (.int .i64 s.sc) from ⟨trivial, h8.blk.cellAt (i := 6) (by simp), h8.blk.cellAt (i := 4) (by simp), h8.hso.blk.cellAt (i := 2) (by simp)⟩)
    go_wp2_with fail
    refine hK.out _ _ h8s (fun hHeld => ?_)
    clear hK K
    try simp only [Act.put]
    refine wpAnyH_class (C := fun x => x = wz) 12 _ rfl (by kernel_rfl) (by rfl) (by kernel_rfl) (fun x hx => by rw [hx]; exact h8s) rfl ?_
    simp only [List.drop_succ_cons, List.drop_zero]
    repeat
      with_reducible refine wpQuiet_step (fun K hK => ?_)
      first
        | (refine quiet_skip (by rfl) ?_; (with_reducible refine hK _ ?_); clear hK K)
        | (refine quiet_want (by rfl) ?_
           apply Exists.intro
           refine ⟨fun x hx => ?_, hK _ ?_⟩
           (obtain rfl := id hx; go_simp; first | done | rfl | (fail))
           clear hK K)
      try simp only [Act.put]
    with_reducible refine wpQuiet_nil ?_
    intro wq hq
    subst hq
    go_wp2_with fail
    go_meet
    exact ⟨rfl, rfl, h8, h8b⟩
  case rest =>
  obtain ⟨rfl, rfl, h7, h7b⟩ := hcut
  obtain ⟨w2, hw2⟩ : ∃ w7, w7 = wc := ⟨_, rfl⟩
  rw [← hw2] at h7 h7b ⊢
  have HR2 := Lib.hid h7; have HB2 := Lib.hid (below_transG HB1.out h7b)
  clear h7 h7b hw2 HSW HR1
  have hB := HR2.out.blk
  have b0 : w2.cell? ⟨B, 0, none⟩ = some (.int .i64 s.n) := hB.cellAt (i := 0) (by simp)
  have b1 : w2.cell? ⟨B, 1, none⟩ = some (.int .i64 s.d) := hB.cellAt (i := 1) (by simp)
  have b2 : w2.cell? ⟨B, 2, none⟩ = some (.int .i64 s.tu) := hB.cellAt (i := 2) (by simp)
  have b3 : w2.cell? ⟨B, 3, none⟩ = some (.pointer (some ⟨mo, 0, none⟩)) := hB.cellAt (i := 3) (by simp)
  have b4 : w2.cell? ⟨B, 4, none⟩ = some (.pointer (some ⟨so, 0, none⟩)) := hB.cellAt (i := 4) (by simp)
  have b5 : w2.cell? ⟨B, 5, none⟩ = some (.pointer (some ⟨km, 0, none⟩)) := hB.cellAt (i := 5) (by simp)
  have b6 : w2.cell? ⟨B, 6, none⟩ = some (.pointer (some ⟨ks, 0, none⟩)) := hB.cellAt (i := 6) (by simp)
  have b7 : w2.cell? ⟨B, 7, none⟩ = some (.int .i64 s.bi) := hB.cellAt (i := 7) (by simp)
  have b8 : w2.cell? ⟨B, 8, none⟩ = some (.bool s.no.isSome) := hB.cellAt (i := 8) (by simp)
  have b9 : w2.cell? ⟨B, 9, none⟩ = some (.int .i64 mine) := hB.cellAt (i := 9) (by simp)
  have b10 : w2.cell? ⟨B, 10, none⟩ = some (.int .i64 its) := hB.cellAt (i := 10) (by simp)
  have b11 : w2.cell? ⟨B, 11, none⟩ = some (.int .i64 at_) := hB.cellAt (i := 11) (by simp)
  have b12 : w2.cell? ⟨B, 12, none⟩ = some (.bool s.ap.isSome) := hB.cellAt (i := 12) (by simp)
  have b13 : w2.cell? ⟨B, 13, none⟩ = some (.int .i64 si) := hB.cellAt (i := 13) (by simp)
  have b14 : w2.cell? ⟨B, 14, none⟩ = some (.bool s.se) := hB.cellAt (i := 14) (by simp)
  have f0 : w2.frozen? ⟨B, 0, none⟩ = false := hB.frozenAt 0
  have f1 : w2.frozen? ⟨B, 1, none⟩ = false := hB.frozenAt 1
  have f2 : w2.frozen? ⟨B, 2, none⟩ = false := hB.frozenAt 2
  have f3 : w2.frozen? ⟨B, 3, none⟩ = false := hB.frozenAt 3
  have f4 : w2.frozen? ⟨B, 4, none⟩ = false := hB.frozenAt 4
  have f5 : w2.frozen? ⟨B, 5, none⟩ = false := hB.frozenAt 5
  have f6 : w2.frozen? ⟨B, 6, none⟩ = false := hB.frozenAt 6
  have f7 : w2.frozen? ⟨B, 7, none⟩ = false := hB.frozenAt 7
  have f8 : w2.frozen? ⟨B, 8, none⟩ = false := hB.frozenAt 8
  have f9 : w2.frozen? ⟨B, 9, none⟩ = false := hB.frozenAt 9
  have f10 : w2.frozen? ⟨B, 10, none⟩ = false := hB.frozenAt 10
  have f11 : w2.frozen? ⟨B, 11, none⟩ = false := hB.frozenAt 11
  have f12 : w2.frozen? ⟨B, 12, none⟩ = false := hB.frozenAt 12
  have f13 : w2.frozen? ⟨B, 13, none⟩ = false := hB.frozenAt 13
  have f14 : w2.frozen? ⟨B, 14, none⟩ = false := hB.frozenAt 14
  have hcl := HR2.out.blk.lt
  have HR3 := Lib.hid (HR2.out.byB (no := some (s.less, s.bi)) (ap := s.ap) (se := s.se) (bi := s.bi) (mine' := SX) (its' := MX) (at' := s.bi) (si' := si) ((((HR2.out.blk.put1 (i := 8) (by simp) (.bool true)).put1 (i := 10) (by simp) (.int .i64 MX)).put1 (i := 9) (by simp) (.int .i64 SX)).put1 (i := 11) (by simp) (.int .i64 s.bi)) (((((Kp.refl B (.slice none 0 0) w2).set 8 (.bool true)).set 10 (.int .i64 MX)).set 9 (.int .i64 SX)).set 11 (.int .i64 s.bi)) (fun x b e => by
    injection e with e
    injection e with e1 e2
    exact ⟨by rw [← e1, HLS.out], e2, HBX.out.1, HBX.out.2⟩) HR2.out.ax)
  have HF3 := Lib.hid (show Fp (RPS B mo so km ks) w ((((w2.setCell ⟨B, 8, none⟩ (.bool true)).setCell ⟨B, 10, none⟩ (.int .i64 MX)).setCell ⟨B, 9, none⟩ (.int .i64 SX)).setCell ⟨B, 11, none⟩ (.int .i64 s.bi)) from (Fp.of_below HB2.out).byKp (((((Kp.refl B (.slice none 0 0) w2).set 8 (.bool true)).set 10 (.int .i64 MX)).set 9 (.int .i64 SX)).set 11 (.int .i64 s.bi)) (.inl rfl))
  clear hB
  go_wp2_with fail
  go_ret
  exact ⟨rfl, ⟨_, _, _, HR3.out⟩, HF3.out⟩
theorem rp_apply_nil (q : Int) (w : World) : Calls Try.prog 49 #[.pointer none, .int .i64 q] w fun y w' => y = .returned (.int .i64 7) ∧ w = w' := by
  go_enter Try.func49, Try.ntmps49
  go_wp2_with fail
  go_ret
  exact ⟨rfl, rfl⟩
theorem rp_apply_none (h : RP w B s mo so km ks mine its at_ si) (q : Int) (hn : s.no = none) : Calls Try.prog 49 #[.pointer (some ⟨B, 0, none⟩), .int .i64 q] w fun y w' => y = .returned (.int .i64 8) ∧ w = w' := by
  have b8 := h.blk.cellAt (i := 8) (by simp)
  simp only [List.getElem_cons_succ, List.getElem_cons_zero, hn, Option.isSome_none] at b8
  clear h hn
  go_enter Try.func49, Try.ntmps49
  go_wp2_with fail
  go_ret
  exact ⟨rfl, rfl⟩
set_option maxRecDepth 100000 in
theorem rp_apply_out (h : RP w B s mo so km ks mine its at_ si) (q x b : Int) (htu : 0 ≤ s.tu ∧ s.tu ≤ 4096) (hn : s.no = some (x, b)) (hr : ¬ (1048576 - s.tu ≤ q ∧ q ≤ 1048576 + s.tu)) : Calls Try.prog 49 #[.pointer (some ⟨B, 0, none⟩), .int .i64 q] w fun y w' => y = .returned (.int .i64 1) ∧ w = w' := by
  have b8 := h.blk.cellAt (i := 8) (by simp)
  have b2 := h.blk.cellAt (i := 2) (by simp)
  simp only [List.getElem_cons_succ, List.getElem_cons_zero, hn, Option.isSome_some] at b8 b2
  obtain ⟨lo, hlo⟩ : ∃ z, z = 1048576 - s.tu := ⟨_, rfl⟩
  obtain ⟨hi, hhi⟩ : ∃ z, z = 1048576 + s.tu := ⟨_, rfl⟩
  have e1 : wrap64 (1048576 - s.tu) = lo := by rw [hlo]; exact w64_in _ (by omega)
  have e2 : wrap64 (1048576 + s.tu) = hi := by rw [hhi]; exact w64_in _ (by omega)
  have cs : q < lo ∨ (¬ q < lo ∧ hi < q) := by omega
  clear h hn hr hlo hhi htu
  rcases cs with g1 | ⟨g1, g2⟩
  · go_enter Try.func49, Try.ntmps49
    go_wp2_with fail
    go_ret
    exact ⟨rfl, rfl⟩
  · go_enter Try.func49, Try.ntmps49
    go_wp2_with fail
    go_ret
    exact ⟨rfl, rfl⟩
set_option maxRecDepth 100000 in
set_option maxHeartbeats 8000000 in
theorem rp_apply_yes (h : RP w B s mo so km ks mine its at_ si) (q x b : Int) (htu : 0 ≤ s.tu ∧ s.tu ≤ 4096) (hsc : -9223372036854775808 ≤ s.sc ∧ s.sc ≤ 9223372036854775807) (hn : s.no = some (x, b)) (hr : 1048576 - s.tu ≤ q ∧ q ≤ 1048576 + s.tu) (hg : goE s.c2 s.v2 s.r2 s.sc q x = 0) : Calls Try.prog 49 #[.pointer (some ⟨B, 0, none⟩), .int .i64 q] w fun y w' => y = .returned (.int .i64 0) ∧ RP w' B { s.went q x with ap := some (x, b) } mo so km ks mine its at_ b ∧ Fp (RPS B mo so km ks) w w' := by
  have HR0 := Lib.hid h
  obtain ⟨nx1, nx2, nx3, nx4⟩ := h.nx x b hn
  have b8 := h.blk.cellAt (i := 8) (by simp)
  have b2 := h.blk.cellAt (i := 2) (by simp)
  simp only [List.getElem_cons_succ, List.getElem_cons_zero, hn, Option.isSome_some] at b8 b2
  obtain ⟨lo, hlo⟩ : ∃ z, z = 1048576 - s.tu := ⟨_, rfl⟩
  obtain ⟨hi, hhi⟩ : ∃ z, z = 1048576 + s.tu := ⟨_, rfl⟩
  have e1 : wrap64 (1048576 - s.tu) = lo := by rw [hlo]; exact w64_in _ (by omega)
  have e2 : wrap64 (1048576 + s.tu) = hi := by rw [hhi]; exact w64_in _ (by omega)
  have g1 : ¬ q < lo := by omega
  have g2 : ¬ hi < q := by omega
  have ht : tuE s.c2 s.v2 s.r2 s.sc q = 0 := by
    unfold goE at hg
    by_cases e : tuE s.c2 s.v2 s.r2 s.sc q = 0
    · exact e
    · rw [if_neg e] at hg; exact absurd hg e
  obtain ⟨t1, t2, t3, _, _⟩ := tu_zero ht
  have hs : shE s.sc (lookX s.c2 s.v2 s.r2 s.sc) q s.sc x = 0 := by
    unfold goE at hg
    rw [if_pos ht, t1, t2, t3] at hg
    exact hg
  have HTU := Lib.hid (fun u hu => rcktune_any s.sc q hsc s.c2 s.v2 s.r2 s.t2 ks u hu)
  rw [ht, t1, t2, t3] at HTU
  obtain ⟨LX, hLX⟩ : ∃ z, z = lookX s.c2 s.v2 s.r2 s.sc := ⟨_, rfl⟩
  rw [← hLX] at HTU hs
  have HSH := Lib.hid (fun u hu => rckshift_any s.sc x hsc (by omega) s.sc LX q s.t2 ks u hu)
  rw [hs] at HSH
  obtain ⟨GC, hGC⟩ : ∃ z, z = shC s.sc LX q s.sc x := ⟨_, rfl⟩
  obtain ⟨GV, hGV⟩ : ∃ z, z = shV s.sc LX q s.sc x := ⟨_, rfl⟩
  rw [← hGC, ← hGV] at HSH
  have hwent : ({ s.went q x with ap := some (x, b) } : PD) = ({ s with no := none, ap := some (x, b), c2 := GC, v2 := GV, r2 := q } : PD) := by
    unfold PD.went goC goV goR
    rw [if_pos ht, if_pos ht, t1, t2, t3, hGC, hGV, hLX]
  rw [hwent]
  have HNX := Lib.hid (show IntKind.i64.wrap (its - mine) = x by rw [IntKind.wrap_i64]; omega)
  have hnx := HNX.out
  have HAT := Lib.hid nx2
  clear h nx1 nx2 nx3 nx4 hlo hhi hr htu ht hs t1 t2 t3 hLX hGC hGV hwent hg hsc hn
  go_enter Try.func49, Try.ntmps49
  have HSW := Lib.hid (show ∀ x, Below w.heap.size w x → True ∧ x.cell? ⟨B, 6, none⟩ = some (.pointer (some ⟨ks, 0, none⟩)) ∧ x.cell? ⟨B, 4, none⟩ = some (.pointer (some ⟨so, 0, none⟩)) ∧ x.cell? ⟨so, 2, none⟩ = some (.int .i64 s.sc) from fun x hx => ⟨trivial, (HR0.out.on hx).blk.cellAt (i := 6) (by simp), (HR0.out.on hx).blk.cellAt (i := 4) (by simp), (HR0.out.on hx).hso.blk.cellAt (i := 2) (by simp)⟩)
  go_upto_region 7 with fail
  go_cut [5] (fun s5 wx => s5 = .int .i64 0 ∧ RP wx B ({ s with c2 := s.sc, v2 := LX, r2 := q, t2 := s.t2 } : PD) mo so km ks mine its at_ si ∧ Fp (RPS B mo so km ks) w wx)
  case first =>
    refine wp_region_held_drew (S := fun x => True ∧ x.cell? ⟨B, 6, none⟩ = some (.pointer (some ⟨ks, 0, none⟩)) ∧ x.cell? ⟨B, 4, none⟩ = some (.pointer (some ⟨so, 0, none⟩)) ∧ x.cell? ⟨so, 2, none⟩ = some (.int .i64 s.sc)) (by kernel_rfl) (HSW.out _ (Below.refl _ _).drew) (fun hHeld => ?_)
    refine wpAnyH_take (i := 0) (oi := _) (v := ?_) rfl (by kernel_rfl) (by kernel_rfl) (by kernel_rfl) (fun _ _ _ h => h) (Or.inl ⟨by rfl, ?_⟩) (by assumption) ?_
    rotate_left
    · intro x hSx
      try dsimp only at hSx
      obtain ⟨_, hSx0, hSx1, hSx2⟩ := hSx
      go_simp
      first | done | with_reducible rfl
    try simp only [Act.put]
    refine wpAnyH_take (i := 1) (oi := _) (v := ?_) rfl (by kernel_rfl) (by kernel_rfl) (by kernel_rfl) (fun _ _ _ h => h) (Or.inl ⟨by rfl, ?_⟩) (by assumption) ?_
    rotate_left
    · intro x hSx
      try dsimp only at hSx
      obtain ⟨_, hSx0, hSx1, hSx2⟩ := hSx
      go_simp
      first | done | with_reducible rfl
    try simp only [Act.put]
    refine wpAnyH_take (i := 2) (oi := _) (v := ?_) rfl (by kernel_rfl) (by kernel_rfl) (by kernel_rfl) (fun _ _ _ h => h) (Or.inl ⟨by rfl, ?_⟩) (by assumption) ?_
    rotate_left
    · intro x hSx
      try dsimp only at hSx
      obtain ⟨_, hSx0, hSx1, hSx2⟩ := hSx
      go_simp
      first | done | with_reducible rfl
    try simp only [Act.put]
    refine wpAnyH_take (i := 3) (oi := _) (v := ?_) rfl (by kernel_rfl) (by kernel_rfl) (by kernel_rfl) (fun _ _ _ h => h) (Or.inl ⟨by rfl, ?_⟩) (by assumption) ?_
    rotate_left
    · intro x hSx
      try dsimp only at hSx
      obtain ⟨_, hSx0, hSx1, hSx2⟩ := hSx
      go_simp
      first | done | with_reducible rfl
    try simp only [Act.put]
    refine wpAnyH_take (i := 4) (oi := _) (v := ?_) rfl (by kernel_rfl) (by kernel_rfl) (by kernel_rfl) (fun _ _ _ h => h) (Or.inl ⟨by rfl, ?_⟩) (by assumption) ?_
    rotate_left
    · intro x hSx
      try dsimp only at hSx
      obtain ⟨_, hSx0, hSx1, hSx2⟩ := hSx
      go_simp
      first | done | with_reducible rfl
    try simp only [Act.put]
    refine wpAnyH_take (i := 5) (oi := _) (v := ?_) rfl (by kernel_rfl) (by kernel_rfl) (by kernel_rfl) (fun _ _ _ h => h) (Or.inl ⟨by rfl, ?_⟩) (by assumption) ?_
    rotate_left
    · intro x hSx
      try dsimp only at hSx
      obtain ⟨_, hSx0, hSx1, hSx2⟩ := hSx
      go_simp
      first | done | with_reducible rfl
    try simp only [Act.put]
    refine wpAnyH_take (i := 6) (oi := _) (v := ?_) rfl (by kernel_rfl) (by kernel_rfl) (by kernel_rfl) (fun _ _ _ h => h) (Or.inl ⟨by rfl, ?_⟩) (by assumption) ?_
    rotate_left
    · intro x hSx
      try dsimp only at hSx
      obtain ⟨_, hSx0, hSx1, hSx2⟩ := hSx
      go_simp
      first | done | with_reducible rfl
    try simp only [Act.put]
    refine wpAnyH_take (i := 7) (oi := _) (v := ?_) rfl (by kernel_rfl) (by kernel_rfl) (by kernel_rfl) (fun _ _ _ h => h) (Or.inl ⟨by rfl, ?_⟩) (by assumption) ?_
    rotate_left
    · intro x hSx
      try dsimp only at hSx
      obtain ⟨_, hSx0, hSx1, hSx2⟩ := hSx
      go_simp
      first | done | with_reducible rfl
    try simp only [Act.put]
    refine wpAnyH_take (i := 8) (oi := _) (v := ?_) rfl (by kernel_rfl) (by kernel_rfl) (by kernel_rfl) (fun _ _ _ h => h) (Or.inl ⟨by rfl, ?_⟩) (by assumption) ?_
    rotate_left
    · intro x hSx
      try dsimp only at hSx
      obtain ⟨_, hSx0, hSx1, hSx2⟩ := hSx
      go_simp
      first | done | with_reducible rfl
    try simp only [Act.put]
    refine wpAnyH_take (i := 9) (oi := _) (v := ?_) rfl (by kernel_rfl) (by kernel_rfl) (by kernel_rfl) (fun _ _ _ h => h) (Or.inl ⟨by rfl, ?_⟩) (by assumption) ?_
    rotate_left
    · intro x hSx
      try dsimp only at hSx
      obtain ⟨_, hSx0, hSx1, hSx2⟩ := hSx
      go_simp
      first | done | with_reducible rfl
    try simp only [Act.put]
    refine wpAnyH_take (i := 10) (oi := _) (v := ?_) rfl (by kernel_rfl) (by kernel_rfl) (by kernel_rfl) (fun _ _ _ h => h) (Or.inl ⟨by rfl, ?_⟩) (by assumption) ?_
    rotate_left
    · intro x hSx
      try dsimp only at hSx
      obtain ⟨_, hSx0, hSx1, hSx2⟩ := hSx
      go_simp
      first | done | with_reducible rfl
    try simp only [Act.put]
    refine wpAnyH_take (i := 11) (oi := _) (v := ?_) rfl (by kernel_rfl) (by kernel_rfl) (by kernel_rfl) (fun _ _ _ h => h) (Or.inl ⟨by rfl, ?_⟩) (by assumption) ?_
    rotate_left
    · intro x hSx
      try dsimp only at hSx
      obtain ⟨_, hSx0, hSx1, hSx2⟩ := hSx
      go_simp
      first | done | with_reducible rfl
    try simp only [Act.put]
    refine wpAnyH_ready (rs := [12]) (by kernel_rfl) (by simp) ?_
    refine AllReadyH.cons (o := _) rfl (fun K hK => ?_) AllReadyH.nil
    go_simp
    refine (HTU.out _ (HR0.out.on (Below.refl _ _).drew).hks).mono ?_
    rintro y wz ⟨rfl, hO6, hK6⟩
    have h6 := (HR0.out.on (Below.refl _ _).drew).bySk hO6 hK6
    have h6f := (Fp.of_below (S := RPS B mo so km ks) (Below.refl w.heap.size w).drew).byKp hK6 (.inr (.inr (.inr (.inr rfl))))
    have h6s := (show True ∧ wz.cell? ⟨B, 6, none⟩ = some (.pointer (some ⟨ks, 0, none⟩)) ∧ wz.cell? ⟨B, 4, none⟩ = some (.pointer (some ⟨so, 0, none⟩)) ∧ wz.cell? ⟨so, 2, none⟩ = some (.int .i64 s.sc) from ⟨trivial, h6.blk.cellAt (i := 6) (by simp), h6.blk.cellAt (i := 4) (by simp), h6.hso.blk.cellAt (i := 2) (by simp)⟩)
    go_wp2_with fail
    refine hK.out _ _ h6s (fun hHeld => ?_)
    clear hK K
    try simp only [Act.put]
    refine wpAnyH_class (C := fun x => x = wz) 13 _ rfl (by kernel_rfl) (by rfl) (by kernel_rfl) (fun x hx => by rw [hx]; exact h6s) rfl ?_
    simp only [List.drop_succ_cons, List.drop_zero]
    repeat
      with_reducible refine wpQuiet_step (fun K hK => ?_)
      first
        | (refine quiet_skip (by rfl) ?_; (with_reducible refine hK _ ?_); clear hK K)
        | (refine quiet_want (by rfl) ?_
           apply Exists.intro
           refine ⟨fun x hx => ?_, hK _ ?_⟩
           (obtain rfl := id hx; go_simp; first | done | rfl | (fail))
           clear hK K)
      try simp only [Act.put]
    with_reducible refine wpQuiet_nil ?_
    intro wq hq
    subst hq
    go_wp2_with fail
    go_meet
    exact ⟨rfl, h6, h6f⟩
  case rest =>
  obtain ⟨rfl, h6, h6f⟩ := hcut
  obtain ⟨w1, hw1⟩ : ∃ w7, w7 = wc := ⟨_, rfl⟩
  rw [← hw1] at h6 h6f ⊢
  have HR1 := Lib.hid h6; have HF1 := Lib.hid h6f
  clear h6 h6f hw1 HSW HR0 b8 b2 e1 e2 g1 g2
  have HSW := Lib.hid (show ∀ x, Below w1.heap.size w1 x → True ∧ x.cell? ⟨B, 6, none⟩ = some (.pointer (some ⟨ks, 0, none⟩)) ∧ x.cell? ⟨B, 4, none⟩ = some (.pointer (some ⟨so, 0, none⟩)) ∧ x.cell? ⟨so, 2, none⟩ = some (.int .i64 s.sc) ∧ x.cell? ⟨B, 10, none⟩ = some (.int .i64 its) ∧ x.cell? ⟨B, 9, none⟩ = some (.int .i64 mine) from fun x hx => ⟨trivial, (HR1.out.on hx).blk.cellAt (i := 6) (by simp), (HR1.out.on hx).blk.cellAt (i := 4) (by simp), (HR1.out.on hx).hso.blk.cellAt (i := 2) (by simp), (HR1.out.on hx).blk.cellAt (i := 10) (by simp), (HR1.out.on hx).blk.cellAt (i := 9) (by simp)⟩)
  go_upto_region 10 with fail
  go_cut [6] (fun s6 wx => s6 = .int .i64 0 ∧ RP wx B ({ s with c2 := GC, v2 := GV, r2 := q, t2 := s.t2 } : PD) mo so km ks mine its at_ si ∧ Fp (RPS B mo so km ks) w wx)
  case first =>
    refine wp_region_held_drew (S := fun x => True ∧ x.cell? ⟨B, 6, none⟩ = some (.pointer (some ⟨ks, 0, none⟩)) ∧ x.cell? ⟨B, 4, none⟩ = some (.pointer (some ⟨so, 0, none⟩)) ∧ x.cell? ⟨so, 2, none⟩ = some (.int .i64 s.sc) ∧ x.cell? ⟨B, 10, none⟩ = some (.int .i64 its) ∧ x.cell? ⟨B, 9, none⟩ = some (.int .i64 mine)) (by kernel_rfl) (HSW.out _ (Below.refl _ _).drew) (fun hHeld => ?_)
    refine wpAnyH_take (i := 0) (oi := _) (v := ?_) rfl (by kernel_rfl) (by kernel_rfl) (by kernel_rfl) (fun _ _ _ h => h) (Or.inl ⟨by rfl, ?_⟩) (by assumption) ?_
    rotate_left
    · intro x hSx
      try dsimp only at hSx
      obtain ⟨_, hSx0, hSx1, hSx2, hSx3, hSx4⟩ := hSx
      go_simp
      first | done | with_reducible rfl
    try simp only [Act.put]
    refine wpAnyH_take (i := 1) (oi := _) (v := ?_) rfl (by kernel_rfl) (by kernel_rfl) (by kernel_rfl) (fun _ _ _ h => h) (Or.inl ⟨by rfl, ?_⟩) (by assumption) ?_
    rotate_left
    · intro x hSx
      try dsimp only at hSx
      obtain ⟨_, hSx0, hSx1, hSx2, hSx3, hSx4⟩ := hSx
      go_simp
      first | done | with_reducible rfl
    try simp only [Act.put]
    refine wpAnyH_take (i := 2) (oi := _) (v := ?_) rfl (by kernel_rfl) (by kernel_rfl) (by kernel_rfl) (fun _ _ _ h => h) (Or.inl ⟨by rfl, ?_⟩) (by assumption) ?_
    rotate_left
    · intro x hSx
      try dsimp only at hSx
      obtain ⟨_, hSx0, hSx1, hSx2, hSx3, hSx4⟩ := hSx
      go_simp
      first | done | with_reducible rfl
    try simp only [Act.put]
    refine wpAnyH_take (i := 3) (oi := _) (v := ?_) rfl (by kernel_rfl) (by kernel_rfl) (by kernel_rfl) (fun _ _ _ h => h) (Or.inl ⟨by rfl, ?_⟩) (by assumption) ?_
    rotate_left
    · intro x hSx
      try dsimp only at hSx
      obtain ⟨_, hSx0, hSx1, hSx2, hSx3, hSx4⟩ := hSx
      go_simp
      first | done | with_reducible rfl
    try simp only [Act.put]
    refine wpAnyH_take (i := 4) (oi := _) (v := ?_) rfl (by kernel_rfl) (by kernel_rfl) (by kernel_rfl) (fun _ _ _ h => h) (Or.inl ⟨by rfl, ?_⟩) (by assumption) ?_
    rotate_left
    · intro x hSx
      try dsimp only at hSx
      obtain ⟨_, hSx0, hSx1, hSx2, hSx3, hSx4⟩ := hSx
      go_simp
      first | done | with_reducible rfl
    try simp only [Act.put]
    refine wpAnyH_take (i := 5) (oi := _) (v := ?_) rfl (by kernel_rfl) (by kernel_rfl) (by kernel_rfl) (fun _ _ _ h => h) (Or.inl ⟨by rfl, ?_⟩) (by assumption) ?_
    rotate_left
    · intro x hSx
      try dsimp only at hSx
      obtain ⟨_, hSx0, hSx1, hSx2, hSx3, hSx4⟩ := hSx
      go_simp
      first | done | with_reducible rfl
    try simp only [Act.put]
    refine wpAnyH_take (i := 6) (oi := _) (v := ?_) rfl (by kernel_rfl) (by kernel_rfl) (by kernel_rfl) (fun _ _ _ h => h) (Or.inl ⟨by rfl, ?_⟩) (by assumption) ?_
    rotate_left
    · intro x hSx
      try dsimp only at hSx
      obtain ⟨_, hSx0, hSx1, hSx2, hSx3, hSx4⟩ := hSx
      go_simp
      first | done | with_reducible rfl
    try simp only [Act.put]
    refine wpAnyH_take (i := 7) (oi := _) (v := ?_) rfl (by kernel_rfl) (by kernel_rfl) (by kernel_rfl) (fun _ _ _ h => h) (Or.inl ⟨by rfl, ?_⟩) (by assumption) ?_
    rotate_left
    · intro x hSx
      try dsimp only at hSx
      obtain ⟨_, hSx0, hSx1, hSx2, hSx3, hSx4⟩ := hSx
      go_simp
      first | done | with_reducible rfl
    try simp only [Act.put]
    refine wpAnyH_take (i := 8) (oi := _) (v := ?_) rfl (by kernel_rfl) (by kernel_rfl) (by kernel_rfl) (fun _ _ _ h => h) (Or.inl ⟨by rfl, ?_⟩) (by assumption) ?_
    rotate_left
    · intro x hSx
      try dsimp only at hSx
      obtain ⟨_, hSx0, hSx1, hSx2, hSx3, hSx4⟩ := hSx
      go_simp
      first | done | with_reducible rfl
    try simp only [Act.put]
    refine wpAnyH_take (i := 9) (oi := _) (v := ?_) rfl (by kernel_rfl) (by kernel_rfl) (by kernel_rfl) (fun _ _ _ h => h) (Or.inl ⟨by rfl, ?_⟩) (by assumption) ?_
    rotate_left
    · intro x hSx
      try dsimp only at hSx
      obtain ⟨_, hSx0, hSx1, hSx2, hSx3, hSx4⟩ := hSx
      go_simp
      first | done | with_reducible rfl
    try simp only [Act.put]
    refine wpAnyH_take (i := 10) (oi := _) (v := ?_) rfl (by kernel_rfl) (by kernel_rfl) (by kernel_rfl) (fun _ _ _ h => h) (Or.inl ⟨by rfl, ?_⟩) (by assumption) ?_
    rotate_left
    · intro x hSx
      try dsimp only at hSx
      obtain ⟨_, hSx0, hSx1, hSx2, hSx3, hSx4⟩ := hSx
      go_simp
      first | done | with_reducible rfl
    try simp only [Act.put]
    refine wpAnyH_take (i := 11) (oi := _) (v := ?_) rfl (by kernel_rfl) (by kernel_rfl) (by kernel_rfl) (fun _ _ _ h => h) (Or.inl ⟨by rfl, ?_⟩) (by assumption) ?_
    rotate_left
    · intro x hSx
      try dsimp only at hSx
      obtain ⟨_, hSx0, hSx1, hSx2, hSx3, hSx4⟩ := hSx
      go_simp
      first | done | with_reducible rfl
    try simp only [Act.put]
    refine wpAnyH_take (i := 12) (oi := _) (v := ?_) rfl (by kernel_rfl) (by kernel_rfl) (by kernel_rfl) (fun _ _ _ h => h) (Or.inl ⟨by rfl, ?_⟩) (by assumption) ?_
    rotate_left
    · intro x hSx
      try dsimp only at hSx
      obtain ⟨_, hSx0, hSx1, hSx2, hSx3, hSx4⟩ := hSx
      go_simp
      first | done | with_reducible rfl
    try simp only [Act.put]
    refine wpAnyH_take (i := 13) (oi := _) (v := ?_) rfl (by kernel_rfl) (by kernel_rfl) (by kernel_rfl) (fun _ _ _ h => h) (Or.inl ⟨by rfl, ?_⟩) (by assumption) ?_
    rotate_left
    · intro x hSx
      try dsimp only at hSx
      obtain ⟨_, hSx0, hSx1, hSx2, hSx3, hSx4⟩ := hSx
      go_simp
      first | done | with_reducible rfl
    try simp only [Act.put]
    refine wpAnyH_take (i := 14) (oi := _) (v := ?_) rfl (by kernel_rfl) (by kernel_rfl) (by kernel_rfl) (fun _ _ _ h => h) (Or.inl ⟨by rfl, ?_⟩) (by assumption) ?_
    rotate_left
    · intro x hSx
      try dsimp only at hSx
      obtain ⟨_, hSx0, hSx1, hSx2, hSx3, hSx4⟩ := hSx
      go_simp
      first | done | with_reducible rfl
    try simp only [Act.put]
    refine wpAnyH_take (i := 15) (oi := _) (v := ?_) rfl (by kernel_rfl) (by kernel_rfl) (by kernel_rfl) (fun _ _ _ h => h) (Or.inl ⟨by rfl, ?_⟩) (by assumption) ?_
    rotate_left
    · intro x hSx
      try dsimp only at hSx
      obtain ⟨_, hSx0, hSx1, hSx2, hSx3, hSx4⟩ := hSx
      go_simp
      first | done | with_reducible rfl
    try simp only [Act.put]
    refine wpAnyH_take (i := 16) (oi := _) (v := ?_) rfl (by kernel_rfl) (by kernel_rfl) (by kernel_rfl) (fun _ _ _ h => h) (Or.inl ⟨by rfl, ?_⟩) (by assumption) ?_
    rotate_left
    · intro x hSx
      try dsimp only at hSx
      obtain ⟨_, hSx0, hSx1, hSx2, hSx3, hSx4⟩ := hSx
      go_simp
      first | done | with_reducible rfl
    try simp only [Act.put]
    refine wpAnyH_take (i := 17) (oi := _) (v := ?_) rfl (by kernel_rfl) (by kernel_rfl) (by kernel_rfl) (fun _ _ _ h => h) (Or.inl ⟨by rfl, ?_⟩) (by assumption) ?_
    rotate_left
    · intro x hSx
      try dsimp only at hSx
      obtain ⟨_, hSx0, hSx1, hSx2, hSx3, hSx4⟩ := hSx
      go_simp
      first | done | with_reducible rfl
    try simp only [Act.put]
    refine wpAnyH_take (i := 18) (oi := _) (v := ?_) rfl (by kernel_rfl) (by kernel_rfl) (by kernel_rfl) (fun _ _ _ h => h) (Or.inl ⟨by rfl, ?_⟩) (by assumption) ?_
    rotate_left
    · intro x hSx
      try dsimp only at hSx
      obtain ⟨_, hSx0, hSx1, hSx2, hSx3, hSx4⟩ := hSx
      go_simp
      first | done | with_reducible rfl
    try simp only [Act.put]
    refine wpAnyH_take (i := 19) (oi := _) (v := ?_) rfl (by kernel_rfl) (by kernel_rfl) (by kernel_rfl) (fun _ _ _ h => h) (Or.inl ⟨by rfl, ?_⟩) (by assumption) ?_
    rotate_left
    · intro x hSx
      try dsimp only at hSx
      obtain ⟨_, hSx0, hSx1, hSx2, hSx3, hSx4⟩ := hSx
      go_simp
      first | done | with_reducible rfl
    try simp only [Act.put]
    refine wpAnyH_ready (rs := [20]) (by kernel_rfl) (by simp) ?_
    refine AllReadyH.cons (o := _) rfl (fun K hK => ?_) AllReadyH.nil
    go_simp
    refine (HSH.out _ (HR1.out.on (Below.refl _ _).drew).hks).mono ?_
    rintro y wz ⟨rfl, hO6, hK6⟩
    have h6 := (HR1.out.on (Below.refl _ _).drew).bySk hO6 hK6
    have h6f := (HF1.out.step (Below.refl _ _).drew).byKp hK6 (.inr (.inr (.inr (.inr rfl))))
    have h6s := (show True ∧ wz.cell? ⟨B, 6, none⟩ = some (.pointer (some ⟨ks, 0, none⟩)) ∧ wz.cell? ⟨B, 4, none⟩ = some (.pointer (some ⟨so, 0, none⟩)) ∧ wz.cell? ⟨so, 2, none⟩ = some (.int .i64 s.sc) ∧ wz.cell? ⟨B, 10, none⟩ = some (.int .i64 its) ∧ wz.cell? ⟨B, 9, none⟩ = some (.int .i64 mine) from ⟨trivial, h6.blk.cellAt (i := 6) (by simp), h6.blk.cellAt (i := 4) (by simp), h6.hso.blk.cellAt (i := 2) (by simp), h6.blk.cellAt (i := 10) (by simp), h6.blk.cellAt (i := 9) (by simp)⟩)
    go_wp2_with fail
    refine hK.out _ _ h6s (fun hHeld => ?_)
    clear hK K
    try simp only [Act.put]
    refine wpAnyH_class (C := fun x => x = wz) 21 _ rfl (by kernel_rfl) (by rfl) (by kernel_rfl) (fun x hx => by rw [hx]; exact h6s) rfl ?_
    simp only [List.drop_succ_cons, List.drop_zero]
    repeat
      with_reducible refine wpQuiet_step (fun K hK => ?_)
      first
        | (refine quiet_skip (by rfl) ?_; (with_reducible refine hK _ ?_); clear hK K)
        | (refine quiet_want (by rfl) ?_
           apply Exists.intro
           refine ⟨fun x hx => ?_, hK _ ?_⟩
           (obtain rfl := id hx; go_simp; first | done | rfl | (fail))
           clear hK K)
      try simp only [Act.put]
    with_reducible refine wpQuiet_nil ?_
    intro wq hq
    subst hq
    go_wp2_with fail
    go_meet
    exact ⟨rfl, h6, h6f⟩
  case rest =>
  obtain ⟨rfl, h6, h6f⟩ := hcut
  obtain ⟨w2, hw2⟩ : ∃ w7, w7 = wc := ⟨_, rfl⟩
  rw [← hw2] at h6 h6f ⊢
  have HR2 := Lib.hid h6; have HF2 := Lib.hid h6f
  clear h6 h6f hw2 HSW HR1 HF1
  have hB := HR2.out.blk
  have b0 : w2.cell? ⟨B, 0, none⟩ = some (.int .i64 s.n) := hB.cellAt (i := 0) (by simp)
  have b1 : w2.cell? ⟨B, 1, none⟩ = some (.int .i64 s.d) := hB.cellAt (i := 1) (by simp)
  have b2 : w2.cell? ⟨B, 2, none⟩ = some (.int .i64 s.tu) := hB.cellAt (i := 2) (by simp)
  have b3 : w2.cell? ⟨B, 3, none⟩ = some (.pointer (some ⟨mo, 0, none⟩)) := hB.cellAt (i := 3) (by simp)
  have b4 : w2.cell? ⟨B, 4, none⟩ = some (.pointer (some ⟨so, 0, none⟩)) := hB.cellAt (i := 4) (by simp)
  have b5 : w2.cell? ⟨B, 5, none⟩ = some (.pointer (some ⟨km, 0, none⟩)) := hB.cellAt (i := 5) (by simp)
  have b6 : w2.cell? ⟨B, 6, none⟩ = some (.pointer (some ⟨ks, 0, none⟩)) := hB.cellAt (i := 6) (by simp)
  have b7 : w2.cell? ⟨B, 7, none⟩ = some (.int .i64 s.bi) := hB.cellAt (i := 7) (by simp)
  have b8 : w2.cell? ⟨B, 8, none⟩ = some (.bool s.no.isSome) := hB.cellAt (i := 8) (by simp)
  have b9 : w2.cell? ⟨B, 9, none⟩ = some (.int .i64 mine) := hB.cellAt (i := 9) (by simp)
  have b10 : w2.cell? ⟨B, 10, none⟩ = some (.int .i64 its) := hB.cellAt (i := 10) (by simp)
  have b11 : w2.cell? ⟨B, 11, none⟩ = some (.int .i64 at_) := hB.cellAt (i := 11) (by simp)
  have b12 : w2.cell? ⟨B, 12, none⟩ = some (.bool s.ap.isSome) := hB.cellAt (i := 12) (by simp)
  have b13 : w2.cell? ⟨B, 13, none⟩ = some (.int .i64 si) := hB.cellAt (i := 13) (by simp)
  have b14 : w2.cell? ⟨B, 14, none⟩ = some (.bool s.se) := hB.cellAt (i := 14) (by simp)
  have f0 : w2.frozen? ⟨B, 0, none⟩ = false := hB.frozenAt 0
  have f1 : w2.frozen? ⟨B, 1, none⟩ = false := hB.frozenAt 1
  have f2 : w2.frozen? ⟨B, 2, none⟩ = false := hB.frozenAt 2
  have f3 : w2.frozen? ⟨B, 3, none⟩ = false := hB.frozenAt 3
  have f4 : w2.frozen? ⟨B, 4, none⟩ = false := hB.frozenAt 4
  have f5 : w2.frozen? ⟨B, 5, none⟩ = false := hB.frozenAt 5
  have f6 : w2.frozen? ⟨B, 6, none⟩ = false := hB.frozenAt 6
  have f7 : w2.frozen? ⟨B, 7, none⟩ = false := hB.frozenAt 7
  have f8 : w2.frozen? ⟨B, 8, none⟩ = false := hB.frozenAt 8
  have f9 : w2.frozen? ⟨B, 9, none⟩ = false := hB.frozenAt 9
  have f10 : w2.frozen? ⟨B, 10, none⟩ = false := hB.frozenAt 10
  have f11 : w2.frozen? ⟨B, 11, none⟩ = false := hB.frozenAt 11
  have f12 : w2.frozen? ⟨B, 12, none⟩ = false := hB.frozenAt 12
  have f13 : w2.frozen? ⟨B, 13, none⟩ = false := hB.frozenAt 13
  have f14 : w2.frozen? ⟨B, 14, none⟩ = false := hB.frozenAt 14
  have hcl := HR2.out.blk.lt
  have HR3 := Lib.hid (HR2.out.byB (no := none) (ap := some (x, b)) (se := s.se) (bi := s.bi) (mine' := mine) (its' := its) (at' := at_) (si' := at_) (((HR2.out.blk.put1 (i := 8) (by simp) (.bool false)).put1 (i := 12) (by simp) (.bool true)).put1 (i := 13) (by simp) (.int .i64 at_)) ((((Kp.refl B (.slice none 0 0) w2).set 8 (.bool false)).set 12 (.bool true)).set 13 (.int .i64 at_)) (fun x b e => by cases e) (fun x' b' e => by
    injection e with e
    injection e with e1 e2
    rw [← e2]; exact HAT.out))
  have HF3 := Lib.hid (show Fp (RPS B mo so km ks) w (((w2.setCell ⟨B, 8, none⟩ (.bool false)).setCell ⟨B, 12, none⟩ (.bool true)).setCell ⟨B, 13, none⟩ (.int .i64 at_)) from HF2.out.byKp ((((Kp.refl B (.slice none 0 0) w2).set 8 (.bool false)).set 12 (.bool true)).set 13 (.int .i64 at_)) (.inl rfl))
  clear hB
  go_wp2_with fail
  go_ret
  refine ⟨rfl, ?_, HF3.out⟩
  obtain rfl := HAT.out
  exact HR3.out
end Go.Proofs.Ytbjelggbnmfblaa
