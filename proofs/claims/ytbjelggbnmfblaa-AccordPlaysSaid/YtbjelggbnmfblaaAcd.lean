/- Package accord: what both have is noted, and applied. Conditions: the pair can be. -/
import Derived.Test.YtbjelggbnmfblaaAcc
namespace Go.Proofs.Ytbjelggbnmfblaa
open Go.RowKit
theorem pr_capture_nil (w : World) : Calls Try.prog 46 #[.pointer none] w fun y w' => y = .returned (.bool false) ∧ w = w' := by
  go_enter Try.func46, Try.ntmps46
  go_wp2_with fail
  go_ret
  exact ⟨rfl, rfl⟩
def PD.has (s : PD) : Bool := lookB s.c s.v s.r s.mc && lookB s.c2 s.v2 s.r2 s.sc
def PD.less (s : PD) : Int := lookX s.c s.v s.r s.mc - lookX s.c2 s.v2 s.r2 s.sc
theorem pr_capture_no (s : PD) (pn pa : Value) (B : Nat) (w : World) (h : PA w B s pn pa) (hk : s.has = false) : Calls Try.prog 46 #[.pointer (some ⟨B, 0, none⟩)] w fun y w' => y = .returned (.bool false) ∧ Below w.heap.size w w' := by
  have HH := Lib.hid h
  have HA1 := Lib.hid (fun u (hu : Blk u B 205 (s.C pn pa)) => sd_has 205 (s.C pn pa) 1 _ _ _ _ _ _ _ _ B u hu (h.ok.mo pn pa) (h.ok.mck pn pa))
  have HA2 := Lib.hid (fun u (hu : Blk u B 205 (s.C pn pa)) => sd_has 205 (s.C pn pa) 9 _ _ _ _ _ _ _ _ B u hu (h.ok.so pn pa) (h.ok.sk pn pa))
  have HX1 := Lib.hid (look_in s.c s.v s.r s.mc); have HX2 := Lib.hid (look_in s.c2 s.v2 s.r2 s.sc)
  unfold PD.has at hk
  obtain ⟨X1, hX1⟩ : ∃ z, z = lookX s.c s.v s.r s.mc := ⟨_, rfl⟩
  obtain ⟨X2, hX2⟩ : ∃ z, z = lookX s.c2 s.v2 s.r2 s.sc := ⟨_, rfl⟩
  obtain ⟨k1, hk1⟩ : ∃ z, z = lookB s.c s.v s.r s.mc := ⟨_, rfl⟩
  obtain ⟨k2, hk2⟩ : ∃ z, z = lookB s.c2 s.v2 s.r2 s.sc := ⟨_, rfl⟩
  rw [← hX1, ← hk1] at HA1
  rw [← hX2, ← hk2] at HA2
  rw [← hk1, ← hk2] at hk
  rw [← hX1] at HX1
  rw [← hX2] at HX2
  clear hX1 hX2 hk1 hk2 h
  cases k1
  · go_enter Try.func46, Try.ntmps46
    go_wp2_with fail
    refine (HA1.out _ HH.out.blk).mono ?_
    rintro y w1 ⟨rfl, hb⟩
    have H1 := Lib.hid (HH.out.on hb); have HB1 := Lib.hid hb
    clear hb
    go_wp2_with fail
    refine (HA2.out _ H1.out.blk).mono ?_
    rintro y w2 ⟨rfl, hb⟩
    have H2 := Lib.hid (H1.out.on hb); have HB2 := Lib.hid (below_transG HB1.out hb)
    clear hb
    go_wp2_with fail
    go_ret
    exact ⟨rfl, HB2.out⟩
  · obtain rfl : k2 = false := hk
    go_enter Try.func46, Try.ntmps46
    go_wp2_with fail
    refine (HA1.out _ HH.out.blk).mono ?_
    rintro y w1 ⟨rfl, hb⟩
    have H1 := Lib.hid (HH.out.on hb); have HB1 := Lib.hid hb
    clear hb
    go_wp2_with fail
    refine (HA2.out _ H1.out.blk).mono ?_
    rintro y w2 ⟨rfl, hb⟩
    have H2 := Lib.hid (H1.out.on hb); have HB2 := Lib.hid (below_transG HB1.out hb)
    clear hb
    go_wp2_with fail
    go_ret
    exact ⟨rfl, HB2.out⟩
set_option maxHeartbeats 1000000 in
theorem pr_capture_yes (s : PD) (pn pa : Value) (B : Nat) (w : World) (h : PA w B s pn pa) (hk : s.has = true) : Calls Try.prog 46 #[.pointer (some ⟨B, 0, none⟩)] w fun y w' => y = .returned (.bool true) ∧ (∃ K, PA w' B { s with no := some (s.less, s.bi) } (.pointer (some ⟨K, 0, none⟩)) pa) ∧ Kp B (.slice none 0 0) w w' := by
  have HH := Lib.hid h
  have HA1 := Lib.hid (fun u (hu : Blk u B 205 (s.C pn pa)) => sd_has 205 (s.C pn pa) 1 _ _ _ _ _ _ _ _ B u hu (h.ok.mo pn pa) (h.ok.mck pn pa))
  have HA2 := Lib.hid (fun u (hu : Blk u B 205 (s.C pn pa)) => sd_has 205 (s.C pn pa) 9 _ _ _ _ _ _ _ _ B u hu (h.ok.so pn pa) (h.ok.sk pn pa))
  have HX1 := Lib.hid (look_in s.c s.v s.r s.mc); have HX2 := Lib.hid (look_in s.c2 s.v2 s.r2 s.sc)
  unfold PD.has at hk
  obtain ⟨X1, hX1⟩ : ∃ z, z = lookX s.c s.v s.r s.mc := ⟨_, rfl⟩
  obtain ⟨X2, hX2⟩ : ∃ z, z = lookX s.c2 s.v2 s.r2 s.sc := ⟨_, rfl⟩
  obtain ⟨k1, hk1⟩ : ∃ z, z = lookB s.c s.v s.r s.mc := ⟨_, rfl⟩
  obtain ⟨k2, hk2⟩ : ∃ z, z = lookB s.c2 s.v2 s.r2 s.sc := ⟨_, rfl⟩
  rw [← hX1, ← hk1] at HA1
  rw [← hX2, ← hk2] at HA2
  rw [← hk1, ← hk2] at hk
  rw [← hX1] at HX1
  rw [← hX2] at HX2
  obtain ⟨x, hx⟩ : ∃ z, z = X1 - X2 := ⟨_, rfl⟩
  have hl : s.less = x := by unfold PD.less; rw [hx, hX1, hX2]
  have hwx : wrap64 (X1 - X2) = x := by rw [hx]; exact w64_in _ (by have := HX1.out; have := HX2.out; omega)
  rw [hl]
  obtain ⟨rfl, rfl⟩ : k1 = true ∧ k2 = true := by simpa using hk
  have q17 : ∀ u, Blk u B 205 (s.C pn pa) → u.cell? ⟨B, 17, none⟩ = some (.int .i64 s.bi) := fun u hu => hu.cellO (i := 17) rfl
  have Q17 := Lib.hid q17
  clear hX1 hX2 hk1 hk2 h hk hx hl q17
  go_enter Try.func46, Try.ntmps46
  go_wp2_with fail
  refine (HA1.out _ HH.out.blk).mono ?_
  rintro y w1 ⟨rfl, hb⟩
  have H1 := Lib.hid (HH.out.on hb); have HB1 := Lib.hid hb
  clear hb
  go_wp2_with fail
  refine (HA2.out _ H1.out.blk).mono ?_
  rintro y w2 ⟨rfl, hb⟩
  have H2 := Lib.hid (H1.out.on hb); have HB2 := Lib.hid (below_transG HB1.out hb)
  have q17 := Q17.out _ H2.out.blk
  have q18 : w2.cell? ⟨B, 18, none⟩ = some pn := H2.out.blk.cellO (i := 18) rfl
  have p18 : w2.frozen? ⟨B, 18, none⟩ = false := H2.out.blk.frozenAt 18
  have hlt : B < w2.heap.size := H2.out.blk.lt
  have HLT := Lib.hid hlt
  clear hb HA1 HA2 Q17
  go_wp2_with fail
  go_ret
  obtain ⟨w5, hw5⟩ : ∃ w5, w5 = w2.setCell ⟨B, 18, none⟩ (.pointer (some ⟨w2.heap.size, 0, none⟩)) := ⟨_, rfl⟩
  rw [← hw5]
  have hs : w5.heap.size = w2.heap.size := by rw [hw5, setCell_sizeG]
  have hk5 : Kp B (.slice none 0 0) w2 w5 := by rw [hw5]; exact (Kp.refl _ _ _).set 18 _
  have h5 : Blk w5 B 205 (PD.C { s with no := some (x, s.bi) } (.pointer (some ⟨w2.heap.size, 0, none⟩)) pa) := by rw [hw5]; exact H2.out.blk.put1 (i := 18) (by simp [PD.C]) _
  have hN : Blk (w5.alloc (.cells #[.int .i64 x, .int .i64 s.bi] 216)) w2.heap.size 216 [.int .i64 x, .int .i64 s.bi] := by rw [← hs]; exact Blk.new w5 216 [.int .i64 x, .int .i64 s.bi]
  have hb6 : Below w5.heap.size w5 (w5.alloc (.cells #[.int .i64 x, .int .i64 s.bi] 216)) := (Below.refl _ _).alloc (Nat.le_refl _) _
  have hk6 : Kp B (.slice none 0 0) w2 (w5.alloc (.cells #[.int .i64 x, .int .i64 s.bi] 216)) := hk5.step hb6
  have hne : w2.heap.size ≠ B := by have := HLT.out; omega
  exact ⟨rfl, ⟨w2.heap.size, ⟨h5.keep hb6 (by rw [hs]; exact HLT.out), ⟨_, rfl, hN, hne⟩, H2.out.ap.on hk6, H2.out.ok.tu, H2.out.ok.be, H2.out.ok.mc, H2.out.ok.sc, H2.out.ok.c, H2.out.ok.v, H2.out.ok.r, H2.out.ok.t, H2.out.ok.c2, H2.out.ok.v2, H2.out.ok.r2, H2.out.ok.t2⟩⟩, (Kp.of_below HB2.out).trans hk6 (Nx.refl _ _)⟩
end Go.Proofs.Ytbjelggbnmfblaa
