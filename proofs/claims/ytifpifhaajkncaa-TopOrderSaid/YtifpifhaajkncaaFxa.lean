/- A frame that can be, from any one (a helper of the statements). Conditions: an identifier of 32 bits. -/
import Derived.Test.YtifpifhaajkncaaBxf
namespace Go.Proofs.Ytifpifhaajkncaa
open Go.RowKit
def fixN (e : Bool) (n : Nat) : Nat := if e = true then n % 536870912 else n % 2048
def fixL (l : Int) : Int := if l < 0 then 0 else l % 9
def gD (q : Bool) (m : Int) (X : List Nat) (k : Nat) : List Nat := (List.range 8).map fun i => if i < k ∧ (q = true ∨ m ≤ (i : Int)) then 0 else X[i]?.getD 0
def fixD (q : Bool) (m : Int) (X : List Nat) : List Nat := gD q m X 8
theorem gD_len (q : Bool) (m : Int) (X : List Nat) (k : Nat) : (gD q m X k).length = 8 := by simp [gD]
theorem gD_0 (q : Bool) (m : Int) (X : List Nat) (h : X.length = 8) : gD q m X 0 = X := by
  apply List.ext_getElem
  · rw [gD_len, h]
  · intro i h1 h2
    simp [gD, h2]
theorem gD_no (q : Bool) (m : Int) (X : List Nat) (k : Nat) (h : ¬ (q = true ∨ m ≤ (k : Int))) : gD q m X (k + 1) = gD q m X k := by
  unfold gD
  refine List.map_congr_left fun i _ => ?_
  by_cases e : i = k
  · subst e
    rw [if_neg (fun h2 => h h2.2), if_neg (fun h2 => h h2.2)]
  · have : (i < k + 1 ∧ (q = true ∨ m ≤ (i : Int))) ↔ (i < k ∧ (q = true ∨ m ≤ (i : Int))) := by
      constructor
      · rintro ⟨a, b⟩; exact ⟨by omega, b⟩
      · rintro ⟨a, b⟩; exact ⟨by omega, b⟩
    simp only [this]
theorem gD_yes (q : Bool) (m : Int) (X : List Nat) (k : Nat) (h : q = true ∨ m ≤ (k : Int)) : gD q m X (k + 1) = (gD q m X k).set k 0 := by
  apply List.ext_getElem
  · rw [List.length_set, gD_len, gD_len]
  · intro i h1 h2
    rw [List.getElem_set]
    by_cases e : k = i
    · subst e
      rw [if_pos rfl]
      simp [gD, h]
    · rw [if_neg e]
      simp only [gD, List.getElem_map, List.getElem_range]
      have : (i < k + 1 ∧ (q = true ∨ m ≤ (i : Int))) ↔ (i < k ∧ (q = true ∨ m ≤ (i : Int))) := by
        constructor
        · rintro ⟨a, b⟩; exact ⟨by omega, b⟩
        · rintro ⟨a, b⟩; exact ⟨by omega, b⟩
      simp only [this]
theorem fc_set (e : Bool) (n : Nat) (q : Bool) (m : Int) (X : List Nat) (k : Nat) : (frameC e n q m X).set (4 + k) (.int .u8 0) = frameC e n q m (X.set k 0) := by
  unfold frameC
  rw [Nat.add_comm]
  simp only [List.set_cons_succ, List.map_set]
  rfl
theorem fix_right (e : Bool) (n : Nat) (q : Bool) (l : Int) (X : List Nat) : rightF e (fixN e n) q (fixL l) (fixD q (fixL l) X) = 0 := by
  have h1 : rightI e (fixN e n) = true := by
    unfold rightI fixN
    cases e
    · exact decide_eq_true (by show n % 2048 < 2048; omega)
    · exact decide_eq_true (by show n % 536870912 < 536870912; omega)
  have h2 : ¬ (fixL l < 0 ∨ 8 < fixL l) := by
    unfold fixL
    by_cases h : l < 0
    · rw [if_pos h]; omega
    · rw [if_neg h]; omega
  unfold rightF
  rw [if_neg (by rw [h1]; simp), if_neg h2, if_neg]
  intro h
  obtain ⟨i, hi, h3⟩ := List.any_eq_true.1 h
  have hi8 : i < 8 := by simpa using hi
  have h4 : (fixD q (fixL l) X)[i]?.getD 0 = if i < 8 ∧ (q = true ∨ fixL l ≤ (i : Int)) then 0 else X[i]?.getD 0 := by
    unfold fixD gD
    simp [hi8]
  rw [h4] at h3
  simp only [Bool.and_eq_true, decide_eq_true_eq, Bool.or_eq_true] at h3
  rw [if_pos ⟨hi8, h3.2.symm⟩] at h3
  exact h3.1 rfl
set_option maxRecDepth 100000 in
set_option maxHeartbeats 8000000 in
theorem frame11_any (e : Bool) (n : Nat) (hn : n < 4294967296) (q : Bool) (l : Int) (x0 x1 x2 x3 x4 x5 x6 x7 : Nat) (w : World) :
    Calls Try.prog 27 #[.agg #[.bool e, .int .u32 (n : Int), .bool q, .int .i64 l, .int .u8 (x0 : Int), .int .u8 (x1 : Int), .int .u8 (x2 : Int), .int .u8 (x3 : Int), .int .u8 (x4 : Int), .int .u8 (x5 : Int), .int .u8 (x6 : Int), .int .u8 (x7 : Int)]] w fun y w' => y = .returned (frameV e (fixN e n) q (fixL l) (fixD q (fixL l) [x0, x1, x2, x3, x4, x5, x6, x7])) ∧ Below w.heap.size w w' := by
  obtain ⟨n2, hn2⟩ : ∃ n2, n2 = fixN e n := ⟨_, rfl⟩
  obtain ⟨m, hm⟩ : ∃ m, m = fixL l := ⟨_, rfl⟩
  rw [← hn2, ← hm]
  obtain ⟨XL, hXL⟩ : ∃ XL, XL = [x0, x1, x2, x3, x4, x5, x6, x7] := ⟨_, rfl⟩
  rw [← hXL]
  have HXL := Lib.hid hXL
  have hA1 := u32_and_nat n 536870911 hn (by decide)
  have hA2 := u32_and_nat n 2047 hn (by decide)
  rw [show (536870911 : Nat) = 2 ^ 29 - 1 from rfl, Nat.and_two_pow_sub_one_eq_mod] at hA1
  rw [show (2047 : Nat) = 2 ^ 11 - 1 from rfl, Nat.and_two_pow_sub_one_eq_mod] at hA2
  have i1 : bits .and .u32 (n : Int) (if e = true then 536870911 else 2047) = (n2 : Int) := by
    rw [hn2]
    unfold fixN
    cases e
    · exact hA2
    · exact hA1
  obtain ⟨W0, hW0⟩ : ∃ W0, W0 = (w.alloc (.cells #[.bool e, .int .u32 (n : Int), .bool q, .int .i64 l, .int .u8 (x0 : Int), .int .u8 (x1 : Int), .int .u8 (x2 : Int), .int .u8 (x3 : Int), .int .u8 (x4 : Int), .int .u8 (x5 : Int), .int .u8 (x6 : Int), .int .u8 (x7 : Int)] 37)).alloc (.cells #[.bool false, .int .u32 0, .bool false, .int .i64 0, .int .u8 0, .int .u8 0, .int .u8 0, .int .u8 0, .int .u8 0, .int .u8 0, .int .u8 0, .int .u8 0] 37) := ⟨_, rfl⟩
  have hba : Below w.heap.size w (w.alloc (.cells #[.bool e, .int .u32 (n : Int), .bool q, .int .i64 l, .int .u8 (x0 : Int), .int .u8 (x1 : Int), .int .u8 (x2 : Int), .int .u8 (x3 : Int), .int .u8 (x4 : Int), .int .u8 (x5 : Int), .int .u8 (x6 : Int), .int .u8 (x7 : Int)] 37)) := (Below.refl _ w).alloc (Nat.le_refl _) _
  have hb0 : Below w.heap.size w W0 := by rw [hW0]; exact hba.alloc hba.size _
  have hS := (show Blk W0 w.heap.size 37 [.bool e, .int .u32 (n : Int), .bool q, .int .i64 l, .int .u8 (x0 : Int), .int .u8 (x1 : Int), .int .u8 (x2 : Int), .int .u8 (x3 : Int), .int .u8 (x4 : Int), .int .u8 (x5 : Int), .int .u8 (x6 : Int), .int .u8 (x7 : Int)] by rw [hW0]; exact (Blk.new w _ [.bool e, .int .u32 (n : Int), .bool q, .int .i64 l, .int .u8 (x0 : Int), .int .u8 (x1 : Int), .int .u8 (x2 : Int), .int .u8 (x3 : Int), .int .u8 (x4 : Int), .int .u8 (x5 : Int), .int .u8 (x6 : Int), .int .u8 (x7 : Int)]).keep ((Below.refl _ _).alloc (Nat.le_refl _) _) (by simp))
  have hR := (show Blk W0 (w.heap.size + 1) 37 [.bool false, .int .u32 0, .bool false, .int .i64 0, .int .u8 0, .int .u8 0, .int .u8 0, .int .u8 0, .int .u8 0, .int .u8 0, .int .u8 0, .int .u8 0] by
    rw [hW0]
    have := Blk.new (w.alloc (.cells #[.bool e, .int .u32 (n : Int), .bool q, .int .i64 l, .int .u8 (x0 : Int), .int .u8 (x1 : Int), .int .u8 (x2 : Int), .int .u8 (x3 : Int), .int .u8 (x4 : Int), .int .u8 (x5 : Int), .int .u8 (x6 : Int), .int .u8 (x7 : Int)] 37)) 37 [.bool false, .int .u32 0, .bool false, .int .i64 0, .int .u8 0, .int .u8 0, .int .u8 0, .int .u8 0, .int .u8 0, .int .u8 0, .int .u8 0, .int .u8 0]
    rw [World.size_alloc] at this
    exact this)
  have HB0 := Lib.hid hb0
  obtain ⟨D, hD⟩ : ∃ D, D = w.heap.size := ⟨_, rfl⟩
  have HD := Lib.hid hD
  rw [← hD] at hS hR
  have HS := Lib.hid hS; have HRR := Lib.hid hR
  have c0 := hS.cellAt (i := 0) (by simp)
  have g0 := hS.frozenAt 0
  have c1 := hS.cellAt (i := 1) (by simp)
  have g1 := hS.frozenAt 1
  have c2 := hS.cellAt (i := 2) (by simp)
  have g2 := hS.frozenAt 2
  have c3 := hS.cellAt (i := 3) (by simp)
  have g3 := hS.frozenAt 3
  have c4 := hS.cellAt (i := 4) (by simp)
  have g4 := hS.frozenAt 4
  have c5 := hS.cellAt (i := 5) (by simp)
  have g5 := hS.frozenAt 5
  have c6 := hS.cellAt (i := 6) (by simp)
  have g6 := hS.frozenAt 6
  have c7 := hS.cellAt (i := 7) (by simp)
  have g7 := hS.frozenAt 7
  have c8 := hS.cellAt (i := 8) (by simp)
  have g8 := hS.frozenAt 8
  have c9 := hS.cellAt (i := 9) (by simp)
  have g9 := hS.frozenAt 9
  have c10 := hS.cellAt (i := 10) (by simp)
  have g10 := hS.frozenAt 10
  have c11 := hS.cellAt (i := 11) (by simp)
  have g11 := hS.frozenAt 11
  simp only [List.getElem_cons_zero, List.getElem_cons_succ] at c0 c1 c2 c3 c4 c5 c6 c7 c8 c9 c10 c11
  clear hS hR hb0 hba hA1 hA2
  have hm9 : ∃ m3 : Int, (l < 0 ∧ m3 = 0 ∧ m = 0) ∨ (¬ l < 0 ∧ l % 9 = m3 ∧ m3 = m) := by
    by_cases h : l < 0
    · exact ⟨0, .inl ⟨h, rfl, by rw [hm]; unfold fixL; rw [if_pos h]⟩⟩
    · exact ⟨_, .inr ⟨h, rfl, by rw [hm]; unfold fixL; rw [if_neg h]⟩⟩
  have hmr : 0 ≤ m ∧ m ≤ 8 := by
    rw [hm]; unfold fixL
    by_cases h : l < 0
    · rw [if_pos h]; omega
    · rw [if_neg h]; omega
  have q3 : IntKind.i64.wrap m = m := by rw [IntKind.wrap_i64]; omega
  have HMR := Lib.hid hmr
  have q9 : Int.tmod 0 9 = 0 := rfl
  have q10 : IntKind.i64.wrap 0 = 0 := rfl
  clear hn2 hm hmr hn hXL
  have HL0 := Lib.hid (show gD q m XL 0 = XL from gD_0 q m XL (by rw [HXL.out]; rfl))
  obtain ⟨m3, hm3⟩ := hm9
  rcases hm3 with ⟨j1, rfl, hm0⟩ | ⟨j1, j2, rfl⟩
  · have HM0 := Lib.hid hm0
    clear hm0
    cases e
    · rw [if_neg (by simp)] at i1
      obtain ⟨X, hX⟩ : ∃ X, X = (((W0.setCell ⟨D, 1, none⟩ (.int .u32 (n2 : Int))).setCell ⟨D, 3, none⟩ (.int .i64 0)).setCell ⟨D, 3, none⟩ (.int .i64 0)) := ⟨_, rfl⟩
      have HX := Lib.hid (show Blk X D 37 (frameC false n2 q m XL) by
        rw [hX, HXL.out]
        exact (by rw [HM0.out]; exact (((HS.out.put1 (i := 1) (by simp) (.int .u32 (n2 : Int))).put1 (i := 3) (by simp) (.int .i64 0)).put1 (i := 3) (by simp) (.int .i64 0))))
      have HXR := Lib.hid (show Blk X (D + 1) 37 [.bool false, .int .u32 0, .bool false, .int .i64 0, .int .u8 0, .int .u8 0, .int .u8 0, .int .u8 0, .int .u8 0, .int .u8 0, .int .u8 0, .int .u8 0] by
        rw [hX]
        exact (((HRR.out.puts (C := D) (by omega) 1 (.int .u32 (n2 : Int))).puts (C := D) (by omega) 3 (.int .i64 0)).puts (C := D) (by omega) 3 (.int .i64 0)))
      have HXB := Lib.hid (show Below w.heap.size w X by
        rw [hX]
        exact (((HB0.out.setCell (p := ⟨D, 1, none⟩) (by rw [HD.out]; exact Nat.le_refl _) (.int .u32 (n2 : Int))).setCell (p := ⟨D, 3, none⟩) (by rw [HD.out]; exact Nat.le_refl _) (.int .i64 0)).setCell (p := ⟨D, 3, none⟩) (by rw [HD.out]; exact Nat.le_refl _) (.int .i64 0)))
      go_enter Try.func27, Try.ntmps27
      go_upto_region 1 with fail
      rw [← hW0, ← hD]
      clear hW0 hD
      go_upto_region 7 with fail
      rw [← hX]
      clear hX c0 g0 c1 g1 c2 g2 c3 g3 c4 g4 c5 g5 c6 g6 c7 g7 c8 g8 c9 g9 c10 g10 c11 g11
      go_wp2_with fail
      go_loopw [3] (fun s3 wr => ∃ k : Nat, s3 = .int .i64 (k : Int) ∧ k ≤ 8 ∧ Blk wr D 37 (frameC false n2 q m (gD q m XL k)) ∧ Blk wr (D + 1) 37 [.bool false, .int .u32 0, .bool false, .int .i64 0, .int .u8 0, .int .u8 0, .int .u8 0, .int .u8 0, .int .u8 0, .int .u8 0, .int .u8 0, .int .u8 0] ∧ Below w.heap.size w wr) (fun s3 _ => 8 - (intOf s3).toNat)
      case atStart => exact ⟨0, rfl, by omega, by rw [HL0.out]; exact HX.out, HXR.out, HXB.out⟩
      case round =>
        obtain ⟨k, rfl, hk, hb1, hb2, hb3⟩ := hrel
        have HY := Lib.hid hb1; have HYR := Lib.hid hb2; have HYB := Lib.hid hb3
        have c2 : wr.cell? ⟨D, 2, none⟩ = some (.bool q) := hb1.cellAt (i := 2) (by simp [frameC])
        have c3 : wr.cell? ⟨D, 3, none⟩ = some (.int .i64 m) := hb1.cellAt (i := 3) (by simp [frameC])
        clear hb1 hb2 hb3
        by_cases hlt : k < 8
        · have i3 : (k : Int) < 8 := by omega
          have i4 : (0 : Int) ≤ (k : Int) := by omega
          have hl4 : 4 + k < (frameC false n2 q m (gD q m XL k)).length := by simp [frameC, gD_len]; omega
          have c4 := HY.out.cellAt hl4
          have g4 := HY.out.frozenAt (4 + k)
          obtain ⟨u4, hu4⟩ : ∃ u4, u4 = (frameC false n2 q m (gD q m XL k))[4 + k] := ⟨_, rfl⟩
          rw [← hu4] at c4
          clear hu4
          have HLT := Lib.hid hlt; have HL4 := Lib.hid hl4
          clear hl4 hlt
          by_cases hc : q = true ∨ m ≤ (k : Int)
          · have HYN := Lib.hid (show Blk (wr.setCell ⟨D, 4 + k, none⟩ (.int .u8 0)) D 37 (frameC false n2 q m (gD q m XL (k + 1))) by
              rw [gD_yes q m XL k hc, ← fc_set]
              exact HY.out.put1 HL4.out _)
            have HYRN := Lib.hid (HYR.out.puts (C := D) (by omega) (4 + k) (.int .u8 0))
            have HYBN := Lib.hid (HYB.out.setCell (p := ⟨D, 4 + k, none⟩) (by rw [HD.out]; exact Nat.le_refl _) (.int .u8 0))
            have hc2 : q = true ∨ (q = false ∧ m ≤ (k : Int)) := by
              cases q
              · exact .inr ⟨rfl, hc.resolve_left (by simp)⟩
              · exact .inl rfl
            clear hc
            rcases hc2 with rfl | ⟨rfl, i5⟩
            all_goals
              go_wp2_with fail
              go_roundw
              case rel => exact ⟨k + 1, by simp, HLT.out, HYN.out, HYRN.out, HYBN.out⟩
              case measure => have := HLT.out; simp [intOf]; omega
          · have HYN := Lib.hid (show Blk wr D 37 (frameC false n2 q m (gD q m XL (k + 1))) by rw [gD_no q m XL k hc]; exact HY.out)
            have hq : q = false := by
              cases q
              · rfl
              · exact absurd (.inl rfl) hc
            have i5 : ¬ m ≤ (k : Int) := fun h => hc (.inr h)
            subst hq
            clear hc
            go_wp2_with fail
            go_roundw
            case rel => exact ⟨k + 1, by simp, HLT.out, HYN.out, HYR.out, HYB.out⟩
            case measure => have := HLT.out; simp [intOf]; omega
        · obtain rfl : k = 8 := by omega
          have HY2 := Lib.hid (show Blk wr D 37 (frameC false n2 q m (fixD q m XL)) from HY.out)
          obtain ⟨y0, y1, y2, y3, y4, y5, y6, y7, hy⟩ := eight (gD_len q m XL 8)
          have HFX := Lib.hid (show fixD q m XL = [y0, y1, y2, y3, y4, y5, y6, y7] from hy)
          rw [HFX.out] at HY2
          have hS := (show Blk wr D 37 [.bool false, .int .u32 (n2 : Int), .bool q, .int .i64 m, .int .u8 (y0 : Int), .int .u8 (y1 : Int), .int .u8 (y2 : Int), .int .u8 (y3 : Int), .int .u8 (y4 : Int), .int .u8 (y5 : Int), .int .u8 (y6 : Int), .int .u8 (y7 : Int)] from HY2.out)
          have hR := HYR.out
          clear hy c2 c3
          have e0 := hS.cellAt (i := 0) (by simp)
          have d0 := hR.cellAt (i := 0) (by simp)
          have f0 := hR.frozenAt 0
          have e1 := hS.cellAt (i := 1) (by simp)
          have d1 := hR.cellAt (i := 1) (by simp)
          have f1 := hR.frozenAt 1
          have e2 := hS.cellAt (i := 2) (by simp)
          have d2 := hR.cellAt (i := 2) (by simp)
          have f2 := hR.frozenAt 2
          have e3 := hS.cellAt (i := 3) (by simp)
          have d3 := hR.cellAt (i := 3) (by simp)
          have f3 := hR.frozenAt 3
          have e4 := hS.cellAt (i := 4) (by simp)
          have d4 := hR.cellAt (i := 4) (by simp)
          have f4 := hR.frozenAt 4
          have e5 := hS.cellAt (i := 5) (by simp)
          have d5 := hR.cellAt (i := 5) (by simp)
          have f5 := hR.frozenAt 5
          have e6 := hS.cellAt (i := 6) (by simp)
          have d6 := hR.cellAt (i := 6) (by simp)
          have f6 := hR.frozenAt 6
          have e7 := hS.cellAt (i := 7) (by simp)
          have d7 := hR.cellAt (i := 7) (by simp)
          have f7 := hR.frozenAt 7
          have e8 := hS.cellAt (i := 8) (by simp)
          have d8 := hR.cellAt (i := 8) (by simp)
          have f8 := hR.frozenAt 8
          have e9 := hS.cellAt (i := 9) (by simp)
          have d9 := hR.cellAt (i := 9) (by simp)
          have f9 := hR.frozenAt 9
          have e10 := hS.cellAt (i := 10) (by simp)
          have d10 := hR.cellAt (i := 10) (by simp)
          have f10 := hR.frozenAt 10
          have e11 := hS.cellAt (i := 11) (by simp)
          have d11 := hR.cellAt (i := 11) (by simp)
          have f11 := hR.frozenAt 11
          simp only [List.getElem_cons_zero, List.getElem_cons_succ] at e0 d0 e1 d1 e2 d2 e3 d3 e4 d4 e5 d5 e6 d6 e7 d7 e8 d8 e9 d9 e10 d10 e11 d11
          clear hS hR
          go_wp2_with fail
          refine bodyPost_ret (v := .agg #[.bool false, .int .u32 (n2 : Int), .bool q, .int .i64 m, .int .u8 (y0 : Int), .int .u8 (y1 : Int), .int .u8 (y2 : Int), .int .u8 (y3 : Int), .int .u8 (y4 : Int), .int .u8 (y5 : Int), .int .u8 (y6 : Int), .int .u8 (y7 : Int)]) (by simp [results, Try.results27, go_sem, World.cell?_setCell_same', d0, d1, d2, d3, d4, d5, d6, d7, d8, d9, d10, d11]) rfl ?_
          exact ⟨by rw [HFX.out]; rfl, Go.below_setCells (b := D + 1) (by rw [HD.out]; omega) [.bool false, .int .u32 (n2 : Int), .bool q, .int .i64 m, .int .u8 (y0 : Int), .int .u8 (y1 : Int), .int .u8 (y2 : Int), .int .u8 (y3 : Int), .int .u8 (y4 : Int), .int .u8 (y5 : Int), .int .u8 (y6 : Int), .int .u8 (y7 : Int)] 0 wr HYB.out⟩
    · rw [if_pos rfl] at i1
      obtain ⟨X, hX⟩ : ∃ X, X = (((W0.setCell ⟨D, 1, none⟩ (.int .u32 (n2 : Int))).setCell ⟨D, 3, none⟩ (.int .i64 0)).setCell ⟨D, 3, none⟩ (.int .i64 0)) := ⟨_, rfl⟩
      have HX := Lib.hid (show Blk X D 37 (frameC true n2 q m XL) by
        rw [hX, HXL.out]
        exact (by rw [HM0.out]; exact (((HS.out.put1 (i := 1) (by simp) (.int .u32 (n2 : Int))).put1 (i := 3) (by simp) (.int .i64 0)).put1 (i := 3) (by simp) (.int .i64 0))))
      have HXR := Lib.hid (show Blk X (D + 1) 37 [.bool false, .int .u32 0, .bool false, .int .i64 0, .int .u8 0, .int .u8 0, .int .u8 0, .int .u8 0, .int .u8 0, .int .u8 0, .int .u8 0, .int .u8 0] by
        rw [hX]
        exact (((HRR.out.puts (C := D) (by omega) 1 (.int .u32 (n2 : Int))).puts (C := D) (by omega) 3 (.int .i64 0)).puts (C := D) (by omega) 3 (.int .i64 0)))
      have HXB := Lib.hid (show Below w.heap.size w X by
        rw [hX]
        exact (((HB0.out.setCell (p := ⟨D, 1, none⟩) (by rw [HD.out]; exact Nat.le_refl _) (.int .u32 (n2 : Int))).setCell (p := ⟨D, 3, none⟩) (by rw [HD.out]; exact Nat.le_refl _) (.int .i64 0)).setCell (p := ⟨D, 3, none⟩) (by rw [HD.out]; exact Nat.le_refl _) (.int .i64 0)))
      go_enter Try.func27, Try.ntmps27
      go_upto_region 1 with fail
      rw [← hW0, ← hD]
      clear hW0 hD
      go_upto_region 7 with fail
      rw [← hX]
      clear hX c0 g0 c1 g1 c2 g2 c3 g3 c4 g4 c5 g5 c6 g6 c7 g7 c8 g8 c9 g9 c10 g10 c11 g11
      go_wp2_with fail
      go_loopw [3] (fun s3 wr => ∃ k : Nat, s3 = .int .i64 (k : Int) ∧ k ≤ 8 ∧ Blk wr D 37 (frameC true n2 q m (gD q m XL k)) ∧ Blk wr (D + 1) 37 [.bool false, .int .u32 0, .bool false, .int .i64 0, .int .u8 0, .int .u8 0, .int .u8 0, .int .u8 0, .int .u8 0, .int .u8 0, .int .u8 0, .int .u8 0] ∧ Below w.heap.size w wr) (fun s3 _ => 8 - (intOf s3).toNat)
      case atStart => exact ⟨0, rfl, by omega, by rw [HL0.out]; exact HX.out, HXR.out, HXB.out⟩
      case round =>
        obtain ⟨k, rfl, hk, hb1, hb2, hb3⟩ := hrel
        have HY := Lib.hid hb1; have HYR := Lib.hid hb2; have HYB := Lib.hid hb3
        have c2 : wr.cell? ⟨D, 2, none⟩ = some (.bool q) := hb1.cellAt (i := 2) (by simp [frameC])
        have c3 : wr.cell? ⟨D, 3, none⟩ = some (.int .i64 m) := hb1.cellAt (i := 3) (by simp [frameC])
        clear hb1 hb2 hb3
        by_cases hlt : k < 8
        · have i3 : (k : Int) < 8 := by omega
          have i4 : (0 : Int) ≤ (k : Int) := by omega
          have hl4 : 4 + k < (frameC true n2 q m (gD q m XL k)).length := by simp [frameC, gD_len]; omega
          have c4 := HY.out.cellAt hl4
          have g4 := HY.out.frozenAt (4 + k)
          obtain ⟨u4, hu4⟩ : ∃ u4, u4 = (frameC true n2 q m (gD q m XL k))[4 + k] := ⟨_, rfl⟩
          rw [← hu4] at c4
          clear hu4
          have HLT := Lib.hid hlt; have HL4 := Lib.hid hl4
          clear hl4 hlt
          by_cases hc : q = true ∨ m ≤ (k : Int)
          · have HYN := Lib.hid (show Blk (wr.setCell ⟨D, 4 + k, none⟩ (.int .u8 0)) D 37 (frameC true n2 q m (gD q m XL (k + 1))) by
              rw [gD_yes q m XL k hc, ← fc_set]
              exact HY.out.put1 HL4.out _)
            have HYRN := Lib.hid (HYR.out.puts (C := D) (by omega) (4 + k) (.int .u8 0))
            have HYBN := Lib.hid (HYB.out.setCell (p := ⟨D, 4 + k, none⟩) (by rw [HD.out]; exact Nat.le_refl _) (.int .u8 0))
            have hc2 : q = true ∨ (q = false ∧ m ≤ (k : Int)) := by
              cases q
              · exact .inr ⟨rfl, hc.resolve_left (by simp)⟩
              · exact .inl rfl
            clear hc
            rcases hc2 with rfl | ⟨rfl, i5⟩
            all_goals
              go_wp2_with fail
              go_roundw
              case rel => exact ⟨k + 1, by simp, HLT.out, HYN.out, HYRN.out, HYBN.out⟩
              case measure => have := HLT.out; simp [intOf]; omega
          · have HYN := Lib.hid (show Blk wr D 37 (frameC true n2 q m (gD q m XL (k + 1))) by rw [gD_no q m XL k hc]; exact HY.out)
            have hq : q = false := by
              cases q
              · rfl
              · exact absurd (.inl rfl) hc
            have i5 : ¬ m ≤ (k : Int) := fun h => hc (.inr h)
            subst hq
            clear hc
            go_wp2_with fail
            go_roundw
            case rel => exact ⟨k + 1, by simp, HLT.out, HYN.out, HYR.out, HYB.out⟩
            case measure => have := HLT.out; simp [intOf]; omega
        · obtain rfl : k = 8 := by omega
          have HY2 := Lib.hid (show Blk wr D 37 (frameC true n2 q m (fixD q m XL)) from HY.out)
          obtain ⟨y0, y1, y2, y3, y4, y5, y6, y7, hy⟩ := eight (gD_len q m XL 8)
          have HFX := Lib.hid (show fixD q m XL = [y0, y1, y2, y3, y4, y5, y6, y7] from hy)
          rw [HFX.out] at HY2
          have hS := (show Blk wr D 37 [.bool true, .int .u32 (n2 : Int), .bool q, .int .i64 m, .int .u8 (y0 : Int), .int .u8 (y1 : Int), .int .u8 (y2 : Int), .int .u8 (y3 : Int), .int .u8 (y4 : Int), .int .u8 (y5 : Int), .int .u8 (y6 : Int), .int .u8 (y7 : Int)] from HY2.out)
          have hR := HYR.out
          clear hy c2 c3
          have e0 := hS.cellAt (i := 0) (by simp)
          have d0 := hR.cellAt (i := 0) (by simp)
          have f0 := hR.frozenAt 0
          have e1 := hS.cellAt (i := 1) (by simp)
          have d1 := hR.cellAt (i := 1) (by simp)
          have f1 := hR.frozenAt 1
          have e2 := hS.cellAt (i := 2) (by simp)
          have d2 := hR.cellAt (i := 2) (by simp)
          have f2 := hR.frozenAt 2
          have e3 := hS.cellAt (i := 3) (by simp)
          have d3 := hR.cellAt (i := 3) (by simp)
          have f3 := hR.frozenAt 3
          have e4 := hS.cellAt (i := 4) (by simp)
          have d4 := hR.cellAt (i := 4) (by simp)
          have f4 := hR.frozenAt 4
          have e5 := hS.cellAt (i := 5) (by simp)
          have d5 := hR.cellAt (i := 5) (by simp)
          have f5 := hR.frozenAt 5
          have e6 := hS.cellAt (i := 6) (by simp)
          have d6 := hR.cellAt (i := 6) (by simp)
          have f6 := hR.frozenAt 6
          have e7 := hS.cellAt (i := 7) (by simp)
          have d7 := hR.cellAt (i := 7) (by simp)
          have f7 := hR.frozenAt 7
          have e8 := hS.cellAt (i := 8) (by simp)
          have d8 := hR.cellAt (i := 8) (by simp)
          have f8 := hR.frozenAt 8
          have e9 := hS.cellAt (i := 9) (by simp)
          have d9 := hR.cellAt (i := 9) (by simp)
          have f9 := hR.frozenAt 9
          have e10 := hS.cellAt (i := 10) (by simp)
          have d10 := hR.cellAt (i := 10) (by simp)
          have f10 := hR.frozenAt 10
          have e11 := hS.cellAt (i := 11) (by simp)
          have d11 := hR.cellAt (i := 11) (by simp)
          have f11 := hR.frozenAt 11
          simp only [List.getElem_cons_zero, List.getElem_cons_succ] at e0 d0 e1 d1 e2 d2 e3 d3 e4 d4 e5 d5 e6 d6 e7 d7 e8 d8 e9 d9 e10 d10 e11 d11
          clear hS hR
          go_wp2_with fail
          refine bodyPost_ret (v := .agg #[.bool true, .int .u32 (n2 : Int), .bool q, .int .i64 m, .int .u8 (y0 : Int), .int .u8 (y1 : Int), .int .u8 (y2 : Int), .int .u8 (y3 : Int), .int .u8 (y4 : Int), .int .u8 (y5 : Int), .int .u8 (y6 : Int), .int .u8 (y7 : Int)]) (by simp [results, Try.results27, go_sem, World.cell?_setCell_same', d0, d1, d2, d3, d4, d5, d6, d7, d8, d9, d10, d11]) rfl ?_
          exact ⟨by rw [HFX.out]; rfl, Go.below_setCells (b := D + 1) (by rw [HD.out]; omega) [.bool true, .int .u32 (n2 : Int), .bool q, .int .i64 m, .int .u8 (y0 : Int), .int .u8 (y1 : Int), .int .u8 (y2 : Int), .int .u8 (y3 : Int), .int .u8 (y4 : Int), .int .u8 (y5 : Int), .int .u8 (y6 : Int), .int .u8 (y7 : Int)] 0 wr HYB.out⟩
  · cases e
    · rw [if_neg (by simp)] at i1
      obtain ⟨X, hX⟩ : ∃ X, X = ((W0.setCell ⟨D, 1, none⟩ (.int .u32 (n2 : Int))).setCell ⟨D, 3, none⟩ (.int .i64 m3)) := ⟨_, rfl⟩
      have HX := Lib.hid (show Blk X D 37 (frameC false n2 q m3 XL) by
        rw [hX, HXL.out]
        exact ((HS.out.put1 (i := 1) (by simp) (.int .u32 (n2 : Int))).put1 (i := 3) (by simp) (.int .i64 m3)))
      have HXR := Lib.hid (show Blk X (D + 1) 37 [.bool false, .int .u32 0, .bool false, .int .i64 0, .int .u8 0, .int .u8 0, .int .u8 0, .int .u8 0, .int .u8 0, .int .u8 0, .int .u8 0, .int .u8 0] by
        rw [hX]
        exact ((HRR.out.puts (C := D) (by omega) 1 (.int .u32 (n2 : Int))).puts (C := D) (by omega) 3 (.int .i64 m3)))
      have HXB := Lib.hid (show Below w.heap.size w X by
        rw [hX]
        exact ((HB0.out.setCell (p := ⟨D, 1, none⟩) (by rw [HD.out]; exact Nat.le_refl _) (.int .u32 (n2 : Int))).setCell (p := ⟨D, 3, none⟩) (by rw [HD.out]; exact Nat.le_refl _) (.int .i64 m3)))
      go_enter Try.func27, Try.ntmps27
      go_upto_region 1 with fail
      rw [← hW0, ← hD]
      clear hW0 hD
      go_upto_region 7 with fail
      rw [← hX]
      clear hX c0 g0 c1 g1 c2 g2 c3 g3 c4 g4 c5 g5 c6 g6 c7 g7 c8 g8 c9 g9 c10 g10 c11 g11
      go_wp2_with fail
      go_loopw [3] (fun s3 wr => ∃ k : Nat, s3 = .int .i64 (k : Int) ∧ k ≤ 8 ∧ Blk wr D 37 (frameC false n2 q m3 (gD q m3 XL k)) ∧ Blk wr (D + 1) 37 [.bool false, .int .u32 0, .bool false, .int .i64 0, .int .u8 0, .int .u8 0, .int .u8 0, .int .u8 0, .int .u8 0, .int .u8 0, .int .u8 0, .int .u8 0] ∧ Below w.heap.size w wr) (fun s3 _ => 8 - (intOf s3).toNat)
      case atStart => exact ⟨0, rfl, by omega, by rw [HL0.out]; exact HX.out, HXR.out, HXB.out⟩
      case round =>
        obtain ⟨k, rfl, hk, hb1, hb2, hb3⟩ := hrel
        have HY := Lib.hid hb1; have HYR := Lib.hid hb2; have HYB := Lib.hid hb3
        have c2 : wr.cell? ⟨D, 2, none⟩ = some (.bool q) := hb1.cellAt (i := 2) (by simp [frameC])
        have c3 : wr.cell? ⟨D, 3, none⟩ = some (.int .i64 m3) := hb1.cellAt (i := 3) (by simp [frameC])
        clear hb1 hb2 hb3
        by_cases hlt : k < 8
        · have i3 : (k : Int) < 8 := by omega
          have i4 : (0 : Int) ≤ (k : Int) := by omega
          have hl4 : 4 + k < (frameC false n2 q m3 (gD q m3 XL k)).length := by simp [frameC, gD_len]; omega
          have c4 := HY.out.cellAt hl4
          have g4 := HY.out.frozenAt (4 + k)
          obtain ⟨u4, hu4⟩ : ∃ u4, u4 = (frameC false n2 q m3 (gD q m3 XL k))[4 + k] := ⟨_, rfl⟩
          rw [← hu4] at c4
          clear hu4
          have HLT := Lib.hid hlt; have HL4 := Lib.hid hl4
          clear hl4 hlt
          by_cases hc : q = true ∨ m3 ≤ (k : Int)
          · have HYN := Lib.hid (show Blk (wr.setCell ⟨D, 4 + k, none⟩ (.int .u8 0)) D 37 (frameC false n2 q m3 (gD q m3 XL (k + 1))) by
              rw [gD_yes q m3 XL k hc, ← fc_set]
              exact HY.out.put1 HL4.out _)
            have HYRN := Lib.hid (HYR.out.puts (C := D) (by omega) (4 + k) (.int .u8 0))
            have HYBN := Lib.hid (HYB.out.setCell (p := ⟨D, 4 + k, none⟩) (by rw [HD.out]; exact Nat.le_refl _) (.int .u8 0))
            have hc2 : q = true ∨ (q = false ∧ m3 ≤ (k : Int)) := by
              cases q
              · exact .inr ⟨rfl, hc.resolve_left (by simp)⟩
              · exact .inl rfl
            clear hc
            rcases hc2 with rfl | ⟨rfl, i5⟩
            all_goals
              go_wp2_with fail
              go_roundw
              case rel => exact ⟨k + 1, by simp, HLT.out, HYN.out, HYRN.out, HYBN.out⟩
              case measure => have := HLT.out; simp [intOf]; omega
          · have HYN := Lib.hid (show Blk wr D 37 (frameC false n2 q m3 (gD q m3 XL (k + 1))) by rw [gD_no q m3 XL k hc]; exact HY.out)
            have hq : q = false := by
              cases q
              · rfl
              · exact absurd (.inl rfl) hc
            have i5 : ¬ m3 ≤ (k : Int) := fun h => hc (.inr h)
            subst hq
            clear hc
            go_wp2_with fail
            go_roundw
            case rel => exact ⟨k + 1, by simp, HLT.out, HYN.out, HYR.out, HYB.out⟩
            case measure => have := HLT.out; simp [intOf]; omega
        · obtain rfl : k = 8 := by omega
          have HY2 := Lib.hid (show Blk wr D 37 (frameC false n2 q m3 (fixD q m3 XL)) from HY.out)
          obtain ⟨y0, y1, y2, y3, y4, y5, y6, y7, hy⟩ := eight (gD_len q m3 XL 8)
          have HFX := Lib.hid (show fixD q m3 XL = [y0, y1, y2, y3, y4, y5, y6, y7] from hy)
          rw [HFX.out] at HY2
          have hS := (show Blk wr D 37 [.bool false, .int .u32 (n2 : Int), .bool q, .int .i64 m3, .int .u8 (y0 : Int), .int .u8 (y1 : Int), .int .u8 (y2 : Int), .int .u8 (y3 : Int), .int .u8 (y4 : Int), .int .u8 (y5 : Int), .int .u8 (y6 : Int), .int .u8 (y7 : Int)] from HY2.out)
          have hR := HYR.out
          clear hy c2 c3
          have e0 := hS.cellAt (i := 0) (by simp)
          have d0 := hR.cellAt (i := 0) (by simp)
          have f0 := hR.frozenAt 0
          have e1 := hS.cellAt (i := 1) (by simp)
          have d1 := hR.cellAt (i := 1) (by simp)
          have f1 := hR.frozenAt 1
          have e2 := hS.cellAt (i := 2) (by simp)
          have d2 := hR.cellAt (i := 2) (by simp)
          have f2 := hR.frozenAt 2
          have e3 := hS.cellAt (i := 3) (by simp)
          have d3 := hR.cellAt (i := 3) (by simp)
          have f3 := hR.frozenAt 3
          have e4 := hS.cellAt (i := 4) (by simp)
          have d4 := hR.cellAt (i := 4) (by simp)
          have f4 := hR.frozenAt 4
          have e5 := hS.cellAt (i := 5) (by simp)
          have d5 := hR.cellAt (i := 5) (by simp)
          have f5 := hR.frozenAt 5
          have e6 := hS.cellAt (i := 6) (by simp)
          have d6 := hR.cellAt (i := 6) (by simp)
          have f6 := hR.frozenAt 6
          have e7 := hS.cellAt (i := 7) (by simp)
          have d7 := hR.cellAt (i := 7) (by simp)
          have f7 := hR.frozenAt 7
          have e8 := hS.cellAt (i := 8) (by simp)
          have d8 := hR.cellAt (i := 8) (by simp)
          have f8 := hR.frozenAt 8
          have e9 := hS.cellAt (i := 9) (by simp)
          have d9 := hR.cellAt (i := 9) (by simp)
          have f9 := hR.frozenAt 9
          have e10 := hS.cellAt (i := 10) (by simp)
          have d10 := hR.cellAt (i := 10) (by simp)
          have f10 := hR.frozenAt 10
          have e11 := hS.cellAt (i := 11) (by simp)
          have d11 := hR.cellAt (i := 11) (by simp)
          have f11 := hR.frozenAt 11
          simp only [List.getElem_cons_zero, List.getElem_cons_succ] at e0 d0 e1 d1 e2 d2 e3 d3 e4 d4 e5 d5 e6 d6 e7 d7 e8 d8 e9 d9 e10 d10 e11 d11
          clear hS hR
          go_wp2_with fail
          refine bodyPost_ret (v := .agg #[.bool false, .int .u32 (n2 : Int), .bool q, .int .i64 m3, .int .u8 (y0 : Int), .int .u8 (y1 : Int), .int .u8 (y2 : Int), .int .u8 (y3 : Int), .int .u8 (y4 : Int), .int .u8 (y5 : Int), .int .u8 (y6 : Int), .int .u8 (y7 : Int)]) (by simp [results, Try.results27, go_sem, World.cell?_setCell_same', d0, d1, d2, d3, d4, d5, d6, d7, d8, d9, d10, d11]) rfl ?_
          exact ⟨by rw [HFX.out]; rfl, Go.below_setCells (b := D + 1) (by rw [HD.out]; omega) [.bool false, .int .u32 (n2 : Int), .bool q, .int .i64 m3, .int .u8 (y0 : Int), .int .u8 (y1 : Int), .int .u8 (y2 : Int), .int .u8 (y3 : Int), .int .u8 (y4 : Int), .int .u8 (y5 : Int), .int .u8 (y6 : Int), .int .u8 (y7 : Int)] 0 wr HYB.out⟩
    · rw [if_pos rfl] at i1
      obtain ⟨X, hX⟩ : ∃ X, X = ((W0.setCell ⟨D, 1, none⟩ (.int .u32 (n2 : Int))).setCell ⟨D, 3, none⟩ (.int .i64 m3)) := ⟨_, rfl⟩
      have HX := Lib.hid (show Blk X D 37 (frameC true n2 q m3 XL) by
        rw [hX, HXL.out]
        exact ((HS.out.put1 (i := 1) (by simp) (.int .u32 (n2 : Int))).put1 (i := 3) (by simp) (.int .i64 m3)))
      have HXR := Lib.hid (show Blk X (D + 1) 37 [.bool false, .int .u32 0, .bool false, .int .i64 0, .int .u8 0, .int .u8 0, .int .u8 0, .int .u8 0, .int .u8 0, .int .u8 0, .int .u8 0, .int .u8 0] by
        rw [hX]
        exact ((HRR.out.puts (C := D) (by omega) 1 (.int .u32 (n2 : Int))).puts (C := D) (by omega) 3 (.int .i64 m3)))
      have HXB := Lib.hid (show Below w.heap.size w X by
        rw [hX]
        exact ((HB0.out.setCell (p := ⟨D, 1, none⟩) (by rw [HD.out]; exact Nat.le_refl _) (.int .u32 (n2 : Int))).setCell (p := ⟨D, 3, none⟩) (by rw [HD.out]; exact Nat.le_refl _) (.int .i64 m3)))
      go_enter Try.func27, Try.ntmps27
      go_upto_region 1 with fail
      rw [← hW0, ← hD]
      clear hW0 hD
      go_upto_region 7 with fail
      rw [← hX]
      clear hX c0 g0 c1 g1 c2 g2 c3 g3 c4 g4 c5 g5 c6 g6 c7 g7 c8 g8 c9 g9 c10 g10 c11 g11
      go_wp2_with fail
      go_loopw [3] (fun s3 wr => ∃ k : Nat, s3 = .int .i64 (k : Int) ∧ k ≤ 8 ∧ Blk wr D 37 (frameC true n2 q m3 (gD q m3 XL k)) ∧ Blk wr (D + 1) 37 [.bool false, .int .u32 0, .bool false, .int .i64 0, .int .u8 0, .int .u8 0, .int .u8 0, .int .u8 0, .int .u8 0, .int .u8 0, .int .u8 0, .int .u8 0] ∧ Below w.heap.size w wr) (fun s3 _ => 8 - (intOf s3).toNat)
      case atStart => exact ⟨0, rfl, by omega, by rw [HL0.out]; exact HX.out, HXR.out, HXB.out⟩
      case round =>
        obtain ⟨k, rfl, hk, hb1, hb2, hb3⟩ := hrel
        have HY := Lib.hid hb1; have HYR := Lib.hid hb2; have HYB := Lib.hid hb3
        have c2 : wr.cell? ⟨D, 2, none⟩ = some (.bool q) := hb1.cellAt (i := 2) (by simp [frameC])
        have c3 : wr.cell? ⟨D, 3, none⟩ = some (.int .i64 m3) := hb1.cellAt (i := 3) (by simp [frameC])
        clear hb1 hb2 hb3
        by_cases hlt : k < 8
        · have i3 : (k : Int) < 8 := by omega
          have i4 : (0 : Int) ≤ (k : Int) := by omega
          have hl4 : 4 + k < (frameC true n2 q m3 (gD q m3 XL k)).length := by simp [frameC, gD_len]; omega
          have c4 := HY.out.cellAt hl4
          have g4 := HY.out.frozenAt (4 + k)
          obtain ⟨u4, hu4⟩ : ∃ u4, u4 = (frameC true n2 q m3 (gD q m3 XL k))[4 + k] := ⟨_, rfl⟩
          rw [← hu4] at c4
          clear hu4
          have HLT := Lib.hid hlt; have HL4 := Lib.hid hl4
          clear hl4 hlt
          by_cases hc : q = true ∨ m3 ≤ (k : Int)
          · have HYN := Lib.hid (show Blk (wr.setCell ⟨D, 4 + k, none⟩ (.int .u8 0)) D 37 (frameC true n2 q m3 (gD q m3 XL (k + 1))) by
              rw [gD_yes q m3 XL k hc, ← fc_set]
              exact HY.out.put1 HL4.out _)
            have HYRN := Lib.hid (HYR.out.puts (C := D) (by omega) (4 + k) (.int .u8 0))
            have HYBN := Lib.hid (HYB.out.setCell (p := ⟨D, 4 + k, none⟩) (by rw [HD.out]; exact Nat.le_refl _) (.int .u8 0))
            have hc2 : q = true ∨ (q = false ∧ m3 ≤ (k : Int)) := by
              cases q
              · exact .inr ⟨rfl, hc.resolve_left (by simp)⟩
              · exact .inl rfl
            clear hc
            rcases hc2 with rfl | ⟨rfl, i5⟩
            all_goals
              go_wp2_with fail
              go_roundw
              case rel => exact ⟨k + 1, by simp, HLT.out, HYN.out, HYRN.out, HYBN.out⟩
              case measure => have := HLT.out; simp [intOf]; omega
          · have HYN := Lib.hid (show Blk wr D 37 (frameC true n2 q m3 (gD q m3 XL (k + 1))) by rw [gD_no q m3 XL k hc]; exact HY.out)
            have hq : q = false := by
              cases q
              · rfl
              · exact absurd (.inl rfl) hc
            have i5 : ¬ m3 ≤ (k : Int) := fun h => hc (.inr h)
            subst hq
            clear hc
            go_wp2_with fail
            go_roundw
            case rel => exact ⟨k + 1, by simp, HLT.out, HYN.out, HYR.out, HYB.out⟩
            case measure => have := HLT.out; simp [intOf]; omega
        · obtain rfl : k = 8 := by omega
          have HY2 := Lib.hid (show Blk wr D 37 (frameC true n2 q m3 (fixD q m3 XL)) from HY.out)
          obtain ⟨y0, y1, y2, y3, y4, y5, y6, y7, hy⟩ := eight (gD_len q m3 XL 8)
          have HFX := Lib.hid (show fixD q m3 XL = [y0, y1, y2, y3, y4, y5, y6, y7] from hy)
          rw [HFX.out] at HY2
          have hS := (show Blk wr D 37 [.bool true, .int .u32 (n2 : Int), .bool q, .int .i64 m3, .int .u8 (y0 : Int), .int .u8 (y1 : Int), .int .u8 (y2 : Int), .int .u8 (y3 : Int), .int .u8 (y4 : Int), .int .u8 (y5 : Int), .int .u8 (y6 : Int), .int .u8 (y7 : Int)] from HY2.out)
          have hR := HYR.out
          clear hy c2 c3
          have e0 := hS.cellAt (i := 0) (by simp)
          have d0 := hR.cellAt (i := 0) (by simp)
          have f0 := hR.frozenAt 0
          have e1 := hS.cellAt (i := 1) (by simp)
          have d1 := hR.cellAt (i := 1) (by simp)
          have f1 := hR.frozenAt 1
          have e2 := hS.cellAt (i := 2) (by simp)
          have d2 := hR.cellAt (i := 2) (by simp)
          have f2 := hR.frozenAt 2
          have e3 := hS.cellAt (i := 3) (by simp)
          have d3 := hR.cellAt (i := 3) (by simp)
          have f3 := hR.frozenAt 3
          have e4 := hS.cellAt (i := 4) (by simp)
          have d4 := hR.cellAt (i := 4) (by simp)
          have f4 := hR.frozenAt 4
          have e5 := hS.cellAt (i := 5) (by simp)
          have d5 := hR.cellAt (i := 5) (by simp)
          have f5 := hR.frozenAt 5
          have e6 := hS.cellAt (i := 6) (by simp)
          have d6 := hR.cellAt (i := 6) (by simp)
          have f6 := hR.frozenAt 6
          have e7 := hS.cellAt (i := 7) (by simp)
          have d7 := hR.cellAt (i := 7) (by simp)
          have f7 := hR.frozenAt 7
          have e8 := hS.cellAt (i := 8) (by simp)
          have d8 := hR.cellAt (i := 8) (by simp)
          have f8 := hR.frozenAt 8
          have e9 := hS.cellAt (i := 9) (by simp)
          have d9 := hR.cellAt (i := 9) (by simp)
          have f9 := hR.frozenAt 9
          have e10 := hS.cellAt (i := 10) (by simp)
          have d10 := hR.cellAt (i := 10) (by simp)
          have f10 := hR.frozenAt 10
          have e11 := hS.cellAt (i := 11) (by simp)
          have d11 := hR.cellAt (i := 11) (by simp)
          have f11 := hR.frozenAt 11
          simp only [List.getElem_cons_zero, List.getElem_cons_succ] at e0 d0 e1 d1 e2 d2 e3 d3 e4 d4 e5 d5 e6 d6 e7 d7 e8 d8 e9 d9 e10 d10 e11 d11
          clear hS hR
          go_wp2_with fail
          refine bodyPost_ret (v := .agg #[.bool true, .int .u32 (n2 : Int), .bool q, .int .i64 m3, .int .u8 (y0 : Int), .int .u8 (y1 : Int), .int .u8 (y2 : Int), .int .u8 (y3 : Int), .int .u8 (y4 : Int), .int .u8 (y5 : Int), .int .u8 (y6 : Int), .int .u8 (y7 : Int)]) (by simp [results, Try.results27, go_sem, World.cell?_setCell_same', d0, d1, d2, d3, d4, d5, d6, d7, d8, d9, d10, d11]) rfl ?_
          exact ⟨by rw [HFX.out]; rfl, Go.below_setCells (b := D + 1) (by rw [HD.out]; omega) [.bool true, .int .u32 (n2 : Int), .bool q, .int .i64 m3, .int .u8 (y0 : Int), .int .u8 (y1 : Int), .int .u8 (y2 : Int), .int .u8 (y3 : Int), .int .u8 (y4 : Int), .int .u8 (y5 : Int), .int .u8 (y6 : Int), .int .u8 (y7 : Int)] 0 wr HYB.out⟩
end Go.Proofs.Ytifpifhaajkncaa
