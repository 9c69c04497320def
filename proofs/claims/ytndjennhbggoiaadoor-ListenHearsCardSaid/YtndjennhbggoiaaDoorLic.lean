/- A listener of the code: a bit of the end, any bit, and what it tells. Conditions: not more than a thousand bits. -/
import Derived.Test.YtndjennhbggoiaaDoorLib
namespace Go.Proofs.YtndjennhbggoiaaDoor
open Go.RowKit Go.Shelf
set_option maxHeartbeats 4000000 in
theorem linEnd_any (B : Nat) (s : LS) (v : Value) (x : Nat) (hen : s.en ≤ 1000) (w : World) (hA : LA w B s v) :
    Calls Tryd.prog 137 #[.pointer (some ⟨B, 0, none⟩), .int .u8 (x : Int)] w fun y w' => ∃ v', y = .returned (.int .i64 ((s.last x).2 : Nat)) ∧ LA w' B (s.last x).1 v' ∧ Kp B v w w' ∧ Nx w v v' := by
  obtain ⟨p, h, r, raw, fr, g, en, vl⟩ := s
  obtain ⟨hblk, hown, hfr⟩ := hA
  simp only at hblk hown hfr
  obtain ⟨a, cap, rfl⟩ := hown.shape
  obtain ⟨y0, y1, y2, y3, y4, y5, y6, y7, y8, y9, y10, y11, rfl⟩ := twelve hfr
  have HB := Lib.hid hblk; have HO := Lib.hid hown; have HLT := Lib.hid hblk.lt
  simp only at hen
  have c18 : w.cell? ⟨B, 18, none⟩ = some (.int .i64 (en : Int)) := hblk.cellAt (i := 18) (by simp [lisL])
  have g18 : w.frozen? ⟨B, 18, none⟩ = false := hblk.frozenAt 18
  have c19 : w.cell? ⟨B, 19, none⟩ = some (.bool vl) := hblk.cellAt (i := 19) (by simp [lisL])
  have g19 : w.frozen? ⟨B, 19, none⟩ = false := hblk.frozenAt 19
  clear hblk hown hfr
  have ways : (en + 1 = 7 ∧ x = 0) ∨ (en + 1 = 7 ∧ x ≠ 0) ∨ (en + 1 ≠ 7 ∧ x = 0) ∨ (en + 1 = 6 ∧ x ≠ 0) ∨ (en + 1 ≠ 7 ∧ en + 1 ≠ 6 ∧ x ≠ 0) := by omega
  rcases ways with ⟨h7, hx⟩ | ⟨h7, hx⟩ | ⟨h7, hx⟩ | ⟨h6, hx⟩ | ⟨h7, h6, hx⟩
  · obtain rfl : en = 6 := by omega
    have HE := Lib.hid (show LS.last ⟨p, h, r, raw, [y0, y1, y2, y3, y4, y5, y6, y7, y8, y9, y10, y11], g, 6, vl⟩ x = (⟨p, h, r, raw, [y0, y1, y2, y3, y4, y5, y6, y7, y8, y9, y10, y11], g, 7, vl⟩, 6) by
      unfold LS.last
      rw [if_pos rfl, if_pos hx])
    have j0 : ((x : Int) == 0) = true := by rw [beq_iff_eq]; omega
    clear h7 hx hen
    go_enter Tryd.func137, Tryd.ntmps137
    go_wp2_with fail
    go_ret
    exact ⟨_, by rw [HE.out]; rfl, by rw [HE.out]; exact ⟨(HB.out.put1 (i := 18) (by simp [lisL]) (.int .i64 7)), (HO.out.other (by omega)), rfl⟩, ((Kp.refl _ _ _).set 18 (.int .i64 7)), Nx.refl _ _⟩
  · obtain rfl : en = 6 := by omega
    have HE := Lib.hid (show LS.last ⟨p, h, r, raw, [y0, y1, y2, y3, y4, y5, y6, y7, y8, y9, y10, y11], g, 6, vl⟩ x = (⟨p, h, r, raw, [y0, y1, y2, y3, y4, y5, y6, y7, y8, y9, y10, y11], g, 7, vl⟩, 5) by
      unfold LS.last
      rw [if_pos rfl, if_neg hx])
    have j0 : ((x : Int) == 0) = false := by rw [beq_eq_false_iff_ne]; omega
    clear h7 hx hen
    go_enter Tryd.func137, Tryd.ntmps137
    go_wp2_with fail
    go_ret
    exact ⟨_, by rw [HE.out]; rfl, by rw [HE.out]; exact ⟨(HB.out.put1 (i := 18) (by simp [lisL]) (.int .i64 7)), (HO.out.other (by omega)), rfl⟩, ((Kp.refl _ _ _).set 18 (.int .i64 7)), Nx.refl _ _⟩
  · obtain ⟨e1, he1⟩ : ∃ e1, e1 = en + 1 := ⟨_, rfl⟩
    have hw : IntKind.i64.wrap ((en : Int) + 1) = (e1 : Int) := by rw [IntKind.wrap_i64]; omega
    have HE := Lib.hid (show LS.last ⟨p, h, r, raw, [y0, y1, y2, y3, y4, y5, y6, y7, y8, y9, y10, y11], g, en, vl⟩ x = (⟨p, h, r, raw, [y0, y1, y2, y3, y4, y5, y6, y7, y8, y9, y10, y11], g, e1, vl⟩, 2) by
      unfold LS.last
      simp only
      rw [← he1]
      rw [← he1] at h7
      rw [if_neg h7, if_pos hx])
    have j7 : ((e1 : Int) == 7) = false := by rw [beq_eq_false_iff_ne]; omega
    have j0 : ((x : Int) == 0) = true := by rw [beq_iff_eq]; omega
    clear h7 hx hen he1
    go_enter Tryd.func137, Tryd.ntmps137
    go_wp2_with fail
    go_ret
    exact ⟨_, by rw [HE.out]; rfl, by rw [HE.out]; exact ⟨(HB.out.put1 (i := 18) (by simp [lisL]) (.int .i64 (e1 : Int))), (HO.out.other (by omega)), rfl⟩, ((Kp.refl _ _ _).set 18 (.int .i64 (e1 : Int))), Nx.refl _ _⟩
  · obtain rfl : en = 5 := by omega
    have HE := Lib.hid (show LS.last ⟨p, h, r, raw, [y0, y1, y2, y3, y4, y5, y6, y7, y8, y9, y10, y11], g, 5, vl⟩ x = (⟨p, h, r, raw, [y0, y1, y2, y3, y4, y5, y6, y7, y8, y9, y10, y11], g, 6, true⟩, 4) by
      unfold LS.last
      rw [if_neg (show ¬ (5 : Nat) + 1 = 7 by decide), if_neg hx, if_pos rfl])
    have j0 : ((x : Int) == 0) = false := by rw [beq_eq_false_iff_ne]; omega
    clear h6 hx hen
    go_enter Tryd.func137, Tryd.ntmps137
    go_wp2_with fail
    go_ret
    exact ⟨_, by rw [HE.out]; rfl, by rw [HE.out]; exact ⟨((HB.out.put1 (i := 18) (by simp [lisL]) (.int .i64 6)).put1 (i := 19) (by simp [lisL]) (.bool true)), ((HO.out.other (by omega)).other (by omega)), rfl⟩, (((Kp.refl _ _ _).set 18 (.int .i64 6)).set 19 (.bool true)), Nx.refl _ _⟩
  · obtain ⟨e1, he1⟩ : ∃ e1, e1 = en + 1 := ⟨_, rfl⟩
    have hw : IntKind.i64.wrap ((en : Int) + 1) = (e1 : Int) := by rw [IntKind.wrap_i64]; omega
    have HE := Lib.hid (show LS.last ⟨p, h, r, raw, [y0, y1, y2, y3, y4, y5, y6, y7, y8, y9, y10, y11], g, en, vl⟩ x = (⟨p, h, r, raw, [y0, y1, y2, y3, y4, y5, y6, y7, y8, y9, y10, y11], g, e1, vl⟩, 0) by
      unfold LS.last
      simp only
      rw [← he1]
      rw [← he1] at h7
      rw [← he1] at h6
      rw [if_neg h7, if_neg hx, if_neg h6])
    have j7 : ((e1 : Int) == 7) = false := by rw [beq_eq_false_iff_ne]; omega
    have j0 : ((x : Int) == 0) = false := by rw [beq_eq_false_iff_ne]; omega
    have j6 : ((e1 : Int) == 6) = false := by rw [beq_eq_false_iff_ne]; omega
    clear h7 h6 hx hen he1
    go_enter Tryd.func137, Tryd.ntmps137
    go_wp2_with fail
    go_ret
    exact ⟨_, by rw [HE.out]; rfl, by rw [HE.out]; exact ⟨(HB.out.put1 (i := 18) (by simp [lisL]) (.int .i64 (e1 : Int))), (HO.out.other (by omega)), rfl⟩, ((Kp.refl _ _ _).set 18 (.int .i64 (e1 : Int))), Nx.refl _ _⟩
set_option maxRecDepth 100000 in
set_option maxHeartbeats 8000000 in
theorem ltake_any (B : Nat) (s : LS) (v : Value) (x : Nat) (hp : s.p ≤ 4) (hr : s.r.1 ≤ 1) (hl : s.raw.length ≤ 900) (hen : s.en ≤ 1000) (w : World) (h0 : 0 < B) (hT : Tab w) (hA : LA w B s v) :
    Calls Tryd.prog 97 #[.pointer (some ⟨B, 0, none⟩), .int .u8 (x : Int)] w fun y w' => ∃ v', y = .returned (.int .i64 ((s.take x).2 : Nat)) ∧ LA w' B (s.take x).1 v' ∧ Kp B v w w' ∧ Nx w v v' := by
  have HIB := Lib.hid (linBody_any B s v x hr hl w h0 hT hA)
  have HIE := Lib.hid (linEnd_any B s v x hen w hA)
  clear hT h0 hr hl hen
  obtain ⟨p, h, r, raw, fr, g, en, vl⟩ := s
  obtain ⟨hblk, hown, hfr⟩ := hA
  simp only at hblk hown hfr
  obtain ⟨a, cap, rfl⟩ := hown.shape
  obtain ⟨y0, y1, y2, y3, y4, y5, y6, y7, y8, y9, y10, y11, rfl⟩ := twelve hfr
  have HB := Lib.hid hblk; have HO := Lib.hid hown; have HLT := Lib.hid hblk.lt
  simp only at hp
  have ways : p = 0 ∨ p = 4 ∨ p = 3 ∨ p = 1 ∨ p = 2 := by omega
  clear hown hfr hp
  rcases ways with rfl | rfl | rfl | rfl | rfl
  · have HE := Lib.hid (show LS.take ⟨0, h, r, raw, [y0, y1, y2, y3, y4, y5, y6, y7, y8, y9, y10, y11], g, en, vl⟩ x = LS.body ⟨0, h, r, raw, [y0, y1, y2, y3, y4, y5, y6, y7, y8, y9, y10, y11], g, en, vl⟩ x by unfold LS.take; rw [if_pos rfl])
    have c0 : w.cell? ⟨B, 0, none⟩ = some (.int .i64 0) := hblk.cellAt (i := 0) (by simp [lisL])
    have g0 : w.frozen? ⟨B, 0, none⟩ = false := hblk.frozenAt 0
    clear hblk
    rw [HE.out]
    obtain ⟨Z, hZ⟩ : ∃ Z, Z = LS.body ⟨0, h, r, raw, [y0, y1, y2, y3, y4, y5, y6, y7, y8, y9, y10, y11], g, en, vl⟩ x := ⟨_, rfl⟩
    rw [← hZ] at HIB ⊢
    clear hZ
    go_enter Tryd.func97, Tryd.ntmps97
    go_wp2_with fail
    refine HIB.out.mono ?_
    rintro y w1 ⟨v', rfl, h1⟩
    have H1 := Lib.hid h1
    clear h1
    go_wp2_with fail
    go_ret
    exact ⟨_, rfl, H1.out⟩
  · have HE := Lib.hid (show LS.take ⟨4, h, r, raw, [y0, y1, y2, y3, y4, y5, y6, y7, y8, y9, y10, y11], g, en, vl⟩ x = LS.last ⟨4, h, r, raw, [y0, y1, y2, y3, y4, y5, y6, y7, y8, y9, y10, y11], g, en, vl⟩ x by unfold LS.take; rw [if_neg (show ¬ (4 : Nat) = 0 by decide), if_pos rfl])
    have c0 : w.cell? ⟨B, 0, none⟩ = some (.int .i64 4) := hblk.cellAt (i := 0) (by simp [lisL])
    have g0 : w.frozen? ⟨B, 0, none⟩ = false := hblk.frozenAt 0
    clear hblk
    rw [HE.out]
    obtain ⟨Z, hZ⟩ : ∃ Z, Z = LS.last ⟨4, h, r, raw, [y0, y1, y2, y3, y4, y5, y6, y7, y8, y9, y10, y11], g, en, vl⟩ x := ⟨_, rfl⟩
    rw [← hZ] at HIE ⊢
    clear hZ
    go_enter Tryd.func97, Tryd.ntmps97
    go_wp2_with fail
    refine HIE.out.mono ?_
    rintro y w1 ⟨v', rfl, h1⟩
    have H1 := Lib.hid h1
    clear h1
    go_wp2_with fail
    go_ret
    exact ⟨_, rfl, H1.out⟩
  · clear HIB HIE
    have c0 : w.cell? ⟨B, 0, none⟩ = some (.int .i64 3) := hblk.cellAt (i := 0) (by simp [lisL])
    have g0 : w.frozen? ⟨B, 0, none⟩ = false := hblk.frozenAt 0
    have c17 : w.cell? ⟨B, 17, none⟩ = some (.bool g) := hblk.cellAt (i := 17) (by simp [lisL])
    have g17 : w.frozen? ⟨B, 17, none⟩ = false := hblk.frozenAt 17
    clear hblk
    have n0 : ¬ (3 : Nat) = 0 := by decide
    have n4 : ¬ (3 : Nat) = 4 := by decide
    by_cases hx : x = 0
    · have HE := Lib.hid (show LS.take ⟨3, h, r, raw, [y0, y1, y2, y3, y4, y5, y6, y7, y8, y9, y10, y11], g, en, vl⟩ x = (⟨3, h, r, raw, [y0, y1, y2, y3, y4, y5, y6, y7, y8, y9, y10, y11], g, en, vl⟩, 2) by
        unfold LS.take
        rw [if_neg n0, if_neg n4, if_neg (fun h => h.2.1 hx), if_pos ⟨.inl rfl, hx⟩])
      have j0 : ((x : Int) == 0) = true := by rw [beq_iff_eq]; omega
      have j1 : ((x : Int) != 0) = false := by simp; omega
      clear n0 n4 hx
      go_enter Tryd.func97, Tryd.ntmps97
      go_wp2_with fail
      go_ret
      exact ⟨_, by rw [HE.out]; rfl, by rw [HE.out]; exact ⟨HB.out, HO.out, rfl⟩, (Kp.refl _ _ _), Nx.refl _ _⟩
      
    · cases g
      · have HE := Lib.hid (show LS.take ⟨3, h, r, raw, [y0, y1, y2, y3, y4, y5, y6, y7, y8, y9, y10, y11], false, en, vl⟩ x = (⟨3, h, r, raw, [y0, y1, y2, y3, y4, y5, y6, y7, y8, y9, y10, y11], false, en, vl⟩, 3) by
          unfold LS.take
          rw [if_neg n0, if_neg n4, if_pos ⟨rfl, hx, rfl⟩])
        have j0 : ((x : Int) == 0) = false := by rw [beq_eq_false_iff_ne]; omega
        have j1 : ((x : Int) != 0) = true := by simp; omega
        clear n0 n4 hx
        go_enter Tryd.func97, Tryd.ntmps97
        go_wp2_with fail
        go_ret
        exact ⟨_, by rw [HE.out]; rfl, by rw [HE.out]; exact ⟨HB.out, HO.out, rfl⟩, (Kp.refl _ _ _), Nx.refl _ _⟩
        
      · have HE := Lib.hid (show LS.take ⟨3, h, r, raw, [y0, y1, y2, y3, y4, y5, y6, y7, y8, y9, y10, y11], true, en, vl⟩ x = (⟨3 + 1, h, r, raw, [y0, y1, y2, y3, y4, y5, y6, y7, y8, y9, y10, y11], true, en, vl⟩, 0) by
          unfold LS.take
          rw [if_neg n0, if_neg n4, if_neg (fun hh => Bool.noConfusion hh.2.2), if_neg (fun h => hx h.2)])
        have j0 : ((x : Int) == 0) = false := by rw [beq_eq_false_iff_ne]; omega
        have j1 : ((x : Int) != 0) = true := by simp; omega
        clear n0 n4 hx
        go_enter Tryd.func97, Tryd.ntmps97
        go_wp2_with fail
        go_ret
        exact ⟨_, by rw [HE.out]; rfl, by rw [HE.out]; exact ⟨(HB.out.put1 (i := 0) (by simp [lisL]) (.int .i64 4)), (HO.out.other (by omega)), rfl⟩, ((Kp.refl _ _ _).set 0 (.int .i64 4)), Nx.refl _ _⟩
        
  · clear HIB HIE
    have c0 : w.cell? ⟨B, 0, none⟩ = some (.int .i64 1) := hblk.cellAt (i := 0) (by simp [lisL])
    have g0 : w.frozen? ⟨B, 0, none⟩ = false := hblk.frozenAt 0
    clear hblk
    have n0 : ¬ (1 : Nat) = 0 := by decide
    have n4 : ¬ (1 : Nat) = 4 := by decide
    have n3 : ¬ (1 : Nat) = 3 := by decide
    by_cases hx : x = 0
    · have HE := Lib.hid (show LS.take ⟨1, h, r, raw, [y0, y1, y2, y3, y4, y5, y6, y7, y8, y9, y10, y11], g, en, vl⟩ x = (⟨1, h, r, raw, [y0, y1, y2, y3, y4, y5, y6, y7, y8, y9, y10, y11], g, en, vl⟩, 2) by
        unfold LS.take
        rw [if_neg n0, if_neg n4, if_neg (fun h => n3 h.1), if_pos ⟨.inr rfl, hx⟩])
      have j0 : ((x : Int) == 0) = true := by rw [beq_iff_eq]; omega
      have j1 : ((x : Int) != 0) = false := by simp; omega
      clear n0 n4 n3 hx
      go_enter Tryd.func97, Tryd.ntmps97
      go_wp2_with fail
      go_ret
      exact ⟨_, by rw [HE.out]; rfl, by rw [HE.out]; exact ⟨HB.out, HO.out, rfl⟩, (Kp.refl _ _ _), Nx.refl _ _⟩
      
    · have HE := Lib.hid (show LS.take ⟨1, h, r, raw, [y0, y1, y2, y3, y4, y5, y6, y7, y8, y9, y10, y11], g, en, vl⟩ x = (⟨1 + 1, h, r, raw, [y0, y1, y2, y3, y4, y5, y6, y7, y8, y9, y10, y11], g, en, vl⟩, 0) by
        unfold LS.take
        rw [if_neg n0, if_neg n4, if_neg (fun h => n3 h.1), if_neg (fun h => hx h.2)])
      have j0 : ((x : Int) == 0) = false := by rw [beq_eq_false_iff_ne]; omega
      have j1 : ((x : Int) != 0) = true := by simp; omega
      clear n0 n4 n3 hx
      go_enter Tryd.func97, Tryd.ntmps97
      go_wp2_with fail
      go_ret
      exact ⟨_, by rw [HE.out]; rfl, by rw [HE.out]; exact ⟨(HB.out.put1 (i := 0) (by simp [lisL]) (.int .i64 2)), (HO.out.other (by omega)), rfl⟩, ((Kp.refl _ _ _).set 0 (.int .i64 2)), Nx.refl _ _⟩
      
  · clear HIB HIE
    have c0 : w.cell? ⟨B, 0, none⟩ = some (.int .i64 2) := hblk.cellAt (i := 0) (by simp [lisL])
    have g0 : w.frozen? ⟨B, 0, none⟩ = false := hblk.frozenAt 0
    clear hblk
    have n0 : ¬ (2 : Nat) = 0 := by decide
    have n4 : ¬ (2 : Nat) = 4 := by decide
    have n3 : ¬ (2 : Nat) = 3 := by decide
    have n1 : ¬ (2 : Nat) = 1 := by decide
    have HE := Lib.hid (show LS.take ⟨2, h, r, raw, [y0, y1, y2, y3, y4, y5, y6, y7, y8, y9, y10, y11], g, en, vl⟩ x = (⟨2 + 1, h, r, raw, [y0, y1, y2, y3, y4, y5, y6, y7, y8, y9, y10, y11], g, en, vl⟩, 0) by
      unfold LS.take
      rw [if_neg n0, if_neg n4, if_neg (fun h => n3 h.1), if_neg (fun h => h.1.elim n3 n1)])
    clear n0 n4 n3 n1
    go_enter Tryd.func97, Tryd.ntmps97
    go_wp2_with fail
    go_ret
    exact ⟨_, by rw [HE.out]; rfl, by rw [HE.out]; exact ⟨(HB.out.put1 (i := 0) (by simp [lisL]) (.int .i64 3)), (HO.out.other (by omega)), rfl⟩, ((Kp.refl _ _ _).set 0 (.int .i64 3)), Nx.refl _ _⟩
/-- A listener that has heard nothing. -/
def LS0 : LS := ⟨0, 0, (0, 0), [], frameC false 0 false 0 [0, 0, 0, 0, 0, 0, 0, 0], false, 0, false⟩
theorem lnew_any (w : World) : Calls Tryd.prog 36 #[] w fun y w' => y = .returned (.pointer (some ⟨w.heap.size, 0, none⟩)) ∧ LA w' w.heap.size LS0 (.slice none 0 0) ∧ w' = w.alloc (.cells #[.int .i64 0, .int .i64 0, .int .u8 0, .int .i64 0, .slice none 0 0, .bool false, .int .u32 0, .bool false, .int .i64 0, .int .u8 0, .int .u8 0, .int .u8 0, .int .u8 0, .int .u8 0, .int .u8 0, .int .u8 0, .int .u8 0, .bool false, .int .i64 0, .bool false] 116) := by
  go_enter Tryd.func36, Tryd.ntmps36
  go_wp2_with fail
  go_ret
  exact ⟨rfl, ⟨Blk.new w 116 [.int .i64 0, .int .i64 0, .int .u8 0, .int .i64 0, .slice none 0 0, .bool false, .int .u32 0, .bool false, .int .i64 0, .int .u8 0, .int .u8 0, .int .u8 0, .int .u8 0, .int .u8 0, .int .u8 0, .int .u8 0, .int .u8 0, .bool false, .int .i64 0, .bool false], Ow.nil _ _, rfl⟩, rfl⟩
theorem lplace_any (B : Nat) (s : LS) (v : Value) (w : World) (hA : LA w B s v) : Calls Tryd.prog 47 #[.pointer (some ⟨B, 0, none⟩)] w fun y w' => y = .returned (.int .i64 (s.p : Int)) ∧ w = w' := by
  obtain ⟨p, h, r, raw, fr, g, en, vl⟩ := s
  obtain ⟨hblk, hown, hfr⟩ := hA
  simp only at hblk hown hfr
  obtain ⟨a, cap, rfl⟩ := hown.shape
  obtain ⟨y0, y1, y2, y3, y4, y5, y6, y7, y8, y9, y10, y11, rfl⟩ := twelve hfr
  have HB := Lib.hid hblk; have HO := Lib.hid hown; have HLT := Lib.hid hblk.lt
  have c0 : w.cell? ⟨B, 0, none⟩ = some (.int .i64 (p : Int)) := hblk.cellAt (i := 0) (by simp [lisL])
  have g0 : w.frozen? ⟨B, 0, none⟩ = false := hblk.frozenAt 0
  clear hblk hown hfr
  go_enter Tryd.func47, Tryd.ntmps47
  go_wp2_with fail
  go_ret
  exact ⟨rfl, rfl⟩
theorem lheard_any (B : Nat) (s : LS) (v : Value) (w : World) (hA : LA w B s v) : Calls Tryd.prog 95 #[.pointer (some ⟨B, 0, none⟩)] w fun y w' => y = .returned (.int .i64 (s.h : Int)) ∧ w = w' := by
  obtain ⟨p, h, r, raw, fr, g, en, vl⟩ := s
  obtain ⟨hblk, hown, hfr⟩ := hA
  simp only at hblk hown hfr
  obtain ⟨a, cap, rfl⟩ := hown.shape
  obtain ⟨y0, y1, y2, y3, y4, y5, y6, y7, y8, y9, y10, y11, rfl⟩ := twelve hfr
  have HB := Lib.hid hblk; have HO := Lib.hid hown; have HLT := Lib.hid hblk.lt
  have c1 : w.cell? ⟨B, 1, none⟩ = some (.int .i64 (h : Int)) := hblk.cellAt (i := 1) (by simp [lisL])
  have g1 : w.frozen? ⟨B, 1, none⟩ = false := hblk.frozenAt 1
  clear hblk hown hfr
  go_enter Tryd.func95, Tryd.ntmps95
  go_wp2_with fail
  go_ret
  exact ⟨rfl, rfl⟩
theorem lgood_any (B : Nat) (s : LS) (v : Value) (w : World) (hA : LA w B s v) : Calls Tryd.prog 43 #[.pointer (some ⟨B, 0, none⟩)] w fun y w' => y = .returned (.bool (decide (s.p ≠ 5) && s.g)) ∧ w = w' := by
  have HP := Lib.hid (lplace_any B s v w hA)
  obtain ⟨p, h, r, raw, fr, g, en, vl⟩ := s
  obtain ⟨hblk, hown, hfr⟩ := hA
  simp only at hblk hown hfr
  obtain ⟨a, cap, rfl⟩ := hown.shape
  obtain ⟨y0, y1, y2, y3, y4, y5, y6, y7, y8, y9, y10, y11, rfl⟩ := twelve hfr
  have HB := Lib.hid hblk; have HO := Lib.hid hown; have HLT := Lib.hid hblk.lt
  have c17 : w.cell? ⟨B, 17, none⟩ = some (.bool g) := hblk.cellAt (i := 17) (by simp [lisL])
  have g17 : w.frozen? ⟨B, 17, none⟩ = false := hblk.frozenAt 17
  clear hblk hown hfr
  simp only at HP
  by_cases h5 : p = 5
  · have j5 : ((p : Int) != 5) = false := by rw [h5]; rfl
    have HE := Lib.hid (show (decide (p ≠ 5) && g) = false by rw [decide_eq_false (fun h => h h5)]; rfl)
    clear h5
    go_enter Tryd.func43, Tryd.ntmps43
    go_wp2_with fail
    refine HP.out.mono ?_
    rintro y w1 ⟨rfl, rfl⟩
    go_wp2_with fail
    go_ret
    exact ⟨by rw [HE.out]; rfl, rfl⟩
  · have j5 : ((p : Int) != 5) = true := by simp; omega
    have HE := Lib.hid (show (decide (p ≠ 5) && g) = g by rw [decide_eq_true h5]; rfl)
    clear h5
    go_enter Tryd.func43, Tryd.ntmps43
    go_wp2_with fail
    refine HP.out.mono ?_
    rintro y w1 ⟨rfl, rfl⟩
    go_wp2_with fail
    go_ret
    exact ⟨by rw [HE.out]; rfl, rfl⟩
set_option maxRecDepth 100000 in
set_option maxHeartbeats 4000000 in
theorem lframe_any (B : Nat) (s : LS) (v : Value) (w : World) (hf : ∃ (e : Bool) (n : Nat) (q : Bool) (m : Nat) (x0 x1 x2 x3 x4 x5 x6 x7 : Nat), s.fr = frameC e n q (m : Int) [x0, x1, x2, x3, x4, x5, x6, x7]) (hA : LA w B s v) : Calls Tryd.prog 44 #[.pointer (some ⟨B, 0, none⟩)] w fun y w' => y = .returned (.tuple #[.agg (if s.vl then s.fr else frameC false 0 false 0 [0, 0, 0, 0, 0, 0, 0, 0]).toArray, .bool s.vl]) ∧ Below w.heap.size w w' := by
  obtain ⟨p, h, r, raw, fr, g, en, vl⟩ := s
  obtain ⟨e, n, q, m, x0, x1, x2, x3, x4, x5, x6, x7, hf⟩ := hf
  simp only at hf
  subst hf
  obtain ⟨hblk, hown, hfr⟩ := hA
  simp only at hblk hown hfr
  obtain ⟨a, cap, rfl⟩ := hown.shape
  obtain ⟨wr, hwr⟩ : ∃ wr, wr = w.alloc (.cells #[.bool false, .int .u32 0, .bool false, .int .i64 0, .int .u8 0, .int .u8 0, .int .u8 0, .int .u8 0, .int .u8 0, .int .u8 0, .int .u8 0, .int .u8 0] 27) := ⟨_, rfl⟩
  have HR := Lib.hid (show Blk wr w.heap.size 27 (frameC false 0 false 0 [0, 0, 0, 0, 0, 0, 0, 0]) by rw [hwr]; exact Blk.new w _ _)
  have hB1 : Blk wr B 116 (lisL p h r (.slice a raw.length cap) (frameC e n q (m : Int) [x0, x1, x2, x3, x4, x5, x6, x7]) g en vl) := by rw [hwr]; exact hblk.keep ((Below.refl _ w).alloc (Nat.le_refl _) _) hblk.lt
  have HW := Lib.hid (show Below w.heap.size w wr by rw [hwr]; exact (Below.refl _ w).alloc (Nat.le_refl _) _)
  have c5 : wr.cell? ⟨B, 5, none⟩ = some (.bool e) := hB1.cellAt (i := 5) (by simp [lisL, frameC])
  have g5 : wr.frozen? ⟨B, 5, none⟩ = false := hB1.frozenAt 5
  have c6 : wr.cell? ⟨B, 6, none⟩ = some (.int .u32 (n : Int)) := hB1.cellAt (i := 6) (by simp [lisL, frameC])
  have g6 : wr.frozen? ⟨B, 6, none⟩ = false := hB1.frozenAt 6
  have c7 : wr.cell? ⟨B, 7, none⟩ = some (.bool q) := hB1.cellAt (i := 7) (by simp [lisL, frameC])
  have g7 : wr.frozen? ⟨B, 7, none⟩ = false := hB1.frozenAt 7
  have c8 : wr.cell? ⟨B, 8, none⟩ = some (.int .i64 (m : Int)) := hB1.cellAt (i := 8) (by simp [lisL, frameC])
  have g8 : wr.frozen? ⟨B, 8, none⟩ = false := hB1.frozenAt 8
  have c9 : wr.cell? ⟨B, 9, none⟩ = some (.int .u8 (x0 : Int)) := hB1.cellAt (i := 9) (by simp [lisL, frameC])
  have g9 : wr.frozen? ⟨B, 9, none⟩ = false := hB1.frozenAt 9
  have c10 : wr.cell? ⟨B, 10, none⟩ = some (.int .u8 (x1 : Int)) := hB1.cellAt (i := 10) (by simp [lisL, frameC])
  have g10 : wr.frozen? ⟨B, 10, none⟩ = false := hB1.frozenAt 10
  have c11 : wr.cell? ⟨B, 11, none⟩ = some (.int .u8 (x2 : Int)) := hB1.cellAt (i := 11) (by simp [lisL, frameC])
  have g11 : wr.frozen? ⟨B, 11, none⟩ = false := hB1.frozenAt 11
  have c12 : wr.cell? ⟨B, 12, none⟩ = some (.int .u8 (x3 : Int)) := hB1.cellAt (i := 12) (by simp [lisL, frameC])
  have g12 : wr.frozen? ⟨B, 12, none⟩ = false := hB1.frozenAt 12
  have c13 : wr.cell? ⟨B, 13, none⟩ = some (.int .u8 (x4 : Int)) := hB1.cellAt (i := 13) (by simp [lisL, frameC])
  have g13 : wr.frozen? ⟨B, 13, none⟩ = false := hB1.frozenAt 13
  have c14 : wr.cell? ⟨B, 14, none⟩ = some (.int .u8 (x5 : Int)) := hB1.cellAt (i := 14) (by simp [lisL, frameC])
  have g14 : wr.frozen? ⟨B, 14, none⟩ = false := hB1.frozenAt 14
  have c15 : wr.cell? ⟨B, 15, none⟩ = some (.int .u8 (x6 : Int)) := hB1.cellAt (i := 15) (by simp [lisL, frameC])
  have g15 : wr.frozen? ⟨B, 15, none⟩ = false := hB1.frozenAt 15
  have c16 : wr.cell? ⟨B, 16, none⟩ = some (.int .u8 (x7 : Int)) := hB1.cellAt (i := 16) (by simp [lisL, frameC])
  have g16 : wr.frozen? ⟨B, 16, none⟩ = false := hB1.frozenAt 16
  have c19 : wr.cell? ⟨B, 19, none⟩ = some (.bool vl) := hB1.cellAt (i := 19) (by simp [lisL, frameC])
  have g19 : wr.frozen? ⟨B, 19, none⟩ = false := hB1.frozenAt 19
  obtain ⟨z0, z1, z2, z3, z4, z5, z6, z7, z8, z9, z10, z11⟩ := (HR.out.at rfl).cells
  obtain ⟨f0, f1, f2, f3, f4, f5, f6, f7, f8, f9, f10, f11⟩ := (HR.out.at rfl).frz
  clear hblk hown hfr hB1
  go_enter Tryd.func44, Tryd.ntmps44
  go_upto_region 1 with fail
  rw [← hwr]
  clear hwr
  cases vl
  · go_wp2_with fail
    exact bodyPost_ret (v := .tuple #[frameV false 0 false 0 [0, 0, 0, 0, 0, 0, 0, 0], .bool false]) (by simp [results, Tryd.results44, go_sem, World.cell?_setCell_same', z0, z1, z2, z3, z4, z5, z6, z7, z8, z9, z10, z11, frameV, frameC]) rfl ⟨rfl, below12 (Nat.le_refl _) HW.out _ _ _ _ _ _ _ _ _ _ _ _⟩
  · go_wp2_with fail
    exact bodyPost_ret (v := .tuple #[frameV e n q (m : Int) [x0, x1, x2, x3, x4, x5, x6, x7], .bool true]) (by simp [results, Tryd.results44, go_sem, World.cell?_setCell_same', z0, z1, z2, z3, z4, z5, z6, z7, z8, z9, z10, z11, frameV, frameC]) rfl ⟨rfl, below12 (Nat.le_refl _) HW.out _ _ _ _ _ _ _ _ _ _ _ _⟩
set_option maxRecDepth 100000 in
set_option maxHeartbeats 8000000 in
theorem hear_any (B : Nat) (s : LS) (v : Value) (x : Nat) (hp : s.p ≤ 5) (hr : s.r.1 ≤ 1) (hl : s.raw.length ≤ 900) (hen : s.en ≤ 1000) (hh : s.h ≤ 100000) (w : World) (h0 : 0 < B) (hT : Tab w) (hA : LA w B s v) :
    Calls Tryd.prog 39 #[.pointer (some ⟨B, 0, none⟩), .int .u8 (x : Int)] w fun y w' => ∃ v', y = .returned (.int .i64 ((s.hear x).2 : Nat)) ∧ LA w' B (s.hear x).1 v' ∧ Kp B v w w' ∧ Nx w v v' := by
  have HPL := Lib.hid (lplace_any B s v w hA)
  by_cases h5 : s.p = 5
  · have HE := Lib.hid (show s.hear x = (s, 0) by unfold LS.hear; rw [if_pos h5])
    have HA := Lib.hid hA
    obtain ⟨p, hpp⟩ : ∃ p, p = s.p := ⟨_, rfl⟩
    rw [← hpp] at HPL h5
    have j5 : ((p : Int) == 5) = true := by rw [h5]; rfl
    clear hA hp hr hl hen hh h0 hT h5 hpp
    go_enter Tryd.func39, Tryd.ntmps39
    go_wp2_with fail
    refine HPL.out.mono ?_
    rintro y w1 ⟨rfl, rfl⟩
    go_wp2_with fail
    go_ret
    exact ⟨v, by rw [HE.out]; rfl, by rw [HE.out]; exact HA.out, Kp.refl _ _ _, Nx.refl _ _⟩
  · obtain ⟨wr, hwr⟩ : ∃ wr, wr = w.setCell ⟨B, 1, none⟩ (.int .i64 ((s.h + 1 : Nat) : Int)) := ⟨_, rfl⟩
    have hk : Kp B v w wr := by rw [hwr]; exact (Kp.refl _ _ _).set 1 _
    have hbe : Below B w wr := hk.below (Nat.le_of_lt hA.lt) (fun k e => by have := hA.own.ge k e; omega)
    have hA2 : LA wr B s.tick v := by
      obtain ⟨p, h, r, raw, fr, g, en, vl⟩ := s
      obtain ⟨hblk, hown, hfr⟩ := hA
      obtain ⟨y0, y1, y2, y3, y4, y5, y6, y7, y8, y9, y10, y11, rfl⟩ := twelve hfr
      rw [hwr]
      exact ⟨hblk.put1 (i := 1) (by simp [lisL]) _, hown.other (by omega), rfl⟩
    have HTK := Lib.hid (ltake_any B s.tick v x (show s.p ≤ 4 by omega) hr hl hen wr h0 (hT.onB hbe h0) hA2)
    have HKK := Lib.hid hk
    have HWR := Lib.hid hwr
    have HE0 := Lib.hid (show s.hear x = if (s.tick.take x).2 = 0 ∨ (s.tick.take x).2 = 4 then s.tick.take x else ((s.tick.take x).1.off, (s.tick.take x).2) by unfold LS.hear; rw [if_neg h5])
    obtain ⟨Z, hZ⟩ : ∃ Z, Z = s.tick.take x := ⟨_, rfl⟩
    rw [← hZ] at HTK HE0
    obtain ⟨s2, ev⟩ := Z
    obtain ⟨p, hpp⟩ : ∃ p, p = s.p := ⟨_, rfl⟩
    have h5' : p ≠ 5 := by rw [hpp]; exact h5
    rw [← hpp] at HPL
    have j5 : ((p : Int) == 5) = false := by rw [beq_eq_false_iff_ne]; omega
    obtain ⟨h1, hh1⟩ : ∃ h1, h1 = s.h + 1 := ⟨_, rfl⟩
    have hwp : IntKind.i64.wrap ((s.h : Int) + 1) = (h1 : Int) := by rw [IntKind.wrap_i64]; omega
    rw [← hh1] at HWR
    have hfr := hA.fr12
    obtain ⟨y0, y1, y2, y3, y4, y5, y6, y7, y8, y9, y10, y11, hfe⟩ := twelve hfr
    have hb := hA.blk
    rw [hfe] at hb
    have c1 : w.cell? ⟨B, 1, none⟩ = some (.int .i64 (s.h : Int)) := hb.cellAt (i := 1) (by simp [lisL])
    have g1 : w.frozen? ⟨B, 1, none⟩ = false := hb.frozenAt 1
    obtain ⟨h, hhh⟩ : ∃ h, h = s.h := ⟨_, rfl⟩
    rw [← hhh] at c1 hwp
    clear hA hA2 hp hr hl hen hh h0 hT h5 h5' hpp hk hbe hwr hZ hfr hfe hb hhh hh1
    go_enter Tryd.func39, Tryd.ntmps39
    go_wp2_with fail
    refine HPL.out.mono ?_
    rintro y w1 ⟨rfl, rfl⟩
    go_wp2_with fail
    rw [show w.setCell ⟨B, 1, none⟩ (.int .i64 (h1 : Int)) = wr from HWR.out.symm]
    refine HTK.out.mono ?_
    rintro y w2 ⟨v2, rfl, hA3, hk3, hn3⟩
    have HA3 := Lib.hid hA3
    have HK3 := Lib.hid (HKK.out.trans hk3 (Nx.refl _ _))
    have HN3 := Lib.hid ((Nx.refl w v).trans hn3 HKK.out.size)
    clear hA3 hk3 hn3 c1 g1
    by_cases he : ev = 0 ∨ ev = 4
    · have HE := Lib.hid (show s.hear x = (s2, ev) by rw [HE0.out, if_pos he])
      have jj : ((ev : Int) != 0) = false ∨ (((ev : Int) != 0) = true ∧ ((ev : Int) != 4) = false) := by
        rcases he with h | h
        · exact .inl (by rw [h]; rfl)
        · exact .inr ⟨by rw [h]; rfl, by rw [h]; rfl⟩
      clear he
      rcases jj with j | ⟨j, j'⟩
      all_goals
        go_wp2_with fail
        go_ret
        exact ⟨_, by rw [HE.out]; rfl, by rw [HE.out]; exact HA3.out, HK3.out, HN3.out⟩
    · have HE := Lib.hid (show s.hear x = (s2.off, ev) by rw [HE0.out, if_neg he])
      have j : ((ev : Int) != 0) = true := by simp; omega
      have j' : ((ev : Int) != 4) = true := by simp; omega
      obtain ⟨p2, h2, r2, raw2, fr2, g2, en2, vl2⟩ := s2
      obtain ⟨ky0, ky1, ky2, ky3, ky4, ky5, ky6, ky7, ky8, ky9, ky10, ky11, hfe⟩ := twelve HA3.out.fr12
      simp only at hfe
      subst hfe
      have hb := HA3.out.blk
      have c0 : w2.cell? ⟨B, 0, none⟩ = some (.int .i64 (p2 : Int)) := hb.cellAt (i := 0) (by simp [lisL])
      have g0 : w2.frozen? ⟨B, 0, none⟩ = false := hb.frozenAt 0
      clear he hb
      go_wp2_with fail
      go_ret
      exact ⟨_, by rw [HE.out]; rfl, by rw [HE.out]; exact ⟨HA3.out.blk.put1 (i := 0) (by simp [lisL]) (.int .i64 5), HA3.out.own.other (by omega), rfl⟩, HK3.out.set 0 _, HN3.out⟩
end Go.Proofs.YtndjennhbggoiaaDoor
