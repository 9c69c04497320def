/- The document's own answers of layer 6 in plain words (Right): what it returns. A frame is a value of twelve cells, laid flat. Conditions: eight bytes of data. -/
import Derived.Test.YtbdockeopbfliaaFrb
namespace Go.Proofs.Ytbdockeopbfliaa
open Go.RowKit Go.Shelf
def frameC (e : Bool) (n : Nat) (r : Bool) (len : Int) (data : List Nat) : List Value := Value.bool e :: Value.int .u32 (n : Int) :: Value.bool r :: Value.int .i64 len :: data.map fun x => Value.int .u8 ((x : Nat) : Int)
/-- A frame, as a value: twelve cells. -/
def frameV (e : Bool) (n : Nat) (r : Bool) (len : Int) (data : List Nat) : Value := .agg ((frameC e n r len data).toArray)
/-- The twelve cells of a frame in a block. -/
structure FrameAt (W : World) (B : Nat) (e : Bool) (n : Nat) (r : Bool) (len : Int) (data : List Nat) : Prop where
  c0 : W.cell? ⟨B, 0, none⟩ = some (.bool e)
  c1 : W.cell? ⟨B, 1, none⟩ = some (.int .u32 (n : Int))
  c2 : W.cell? ⟨B, 2, none⟩ = some (.bool r)
  c3 : W.cell? ⟨B, 3, none⟩ = some (.int .i64 len)
  cd : ∀ i, i < 8 → W.cell? ⟨B, 4 + i, none⟩ = some (.int .u8 ((data[i]?.getD 0 : Nat) : Int))
  fz : ∀ i, i < 12 → W.frozen? ⟨B, i, none⟩ = false
theorem FrameAt.keep {w w1 : World} {B : Nat} {e : Bool} {n : Nat} {r : Bool} {len : Int} {data : List Nat} (h : FrameAt w B e n r len data) (hb : Below w.heap.size w w1) (hB : B < w.heap.size) : FrameAt w1 B e n r len data := by
  obtain ⟨hc, hf⟩ := bcell2 hb
  exact ⟨(hc B 0 hB).trans h.c0, (hc B 1 hB).trans h.c1, (hc B 2 hB).trans h.c2, (hc B 3 hB).trans h.c3, fun i hi => (hc B _ hB).trans (h.cd i hi), fun i hi => (hf B _ hB).trans (h.fz i hi)⟩
theorem eight {data : List Nat} (h : data.length = 8) : ∃ a b c d e f g k, data = [a, b, c, d, e, f, g, k] := by
  match data, h with
  | [a, b, c, d, e, f, g, k], _ => exact ⟨a, b, c, d, e, f, g, k, rfl⟩
theorem FrameAt.new (w : World) (T : TypeId) (e : Bool) (n : Nat) (r : Bool) (len : Int) (data : List Nat) (h : data.length = 8) : FrameAt (w.alloc (.cells ((frameC e n r len data).toArray) T)) w.heap.size e n r len data := by
  obtain ⟨a, b, c, d, e5, f, g, k, rfl⟩ := eight h
  simp only [frameC, List.map]
  refine ⟨by simp, by simp, by simp, by simp, ?_, ?_⟩
  · intro i hi
    match i, hi with
    | 0, _ => simp
    | 1, _ => simp
    | 2, _ => simp
    | 3, _ => simp
    | 4, _ => simp
    | 5, _ => simp
    | 6, _ => simp
    | 7, _ => simp
  · intro i hi
    simp
theorem ref6Right_any (e : Bool) (n : Nat) (r : Bool) (len : Int) (data : List Nat) (hd : data.length = 8) (w : World) : Calls Try.prog 27 #[frameV e n r len data] w fun x w' => x = .returned (.int .i64 ((rightF e n r len data : Nat) : Int)) ∧ Below w.heap.size w w' := by
  have hC := FrameAt.new w 37 e n r len data hd
  have HR := Lib.hid (fun u => refRight5_any e n u)
  obtain ⟨v, hv⟩ : ∃ v, v = rightF e n r len data := ⟨_, rfl⟩
  rw [← hv]
  unfold rightF at hv
  obtain ⟨b, hb⟩ : ∃ b, b = rightI e n := ⟨_, rfl⟩
  rw [← hb] at hv HR
  clear hb
  unfold identV at HR
  obtain ⟨a, b1, c, d, e5, f, g, k, rfl⟩ := eight hd
  simp only [frameV, frameC, List.map]
  simp only [frameC, List.map] at hC
  have HC := Lib.hid hC
  obtain ⟨c0, c1, c2, c3, cd, _⟩ := hC
  clear hd cd
  cases b
  · have HV := Lib.hid hv
    clear hv
    go_enter Try.func27, Try.ntmps27
    go_wp2_with fail
    refine (HR.out _).mono ?_
    rintro x w1 ⟨rfl, hb⟩
    have HB := Lib.hid (below_trans' ((Below.refl _ w).alloc (Nat.le_refl _) _) hb)
    clear hb
    go_wp2_with fail
    go_ret
    exact ⟨by rw [HV.out]; rfl, HB.out⟩
  · rw [if_neg (by decide)] at hv
    by_cases hl : len < 0 ∨ 8 < len
    · rw [if_pos hl] at hv
      have HV := Lib.hid hv
      clear hv
      by_cases h0 : len < 0
      all_goals
        have h8 : len < 0 ∨ 8 < len := hl
        clear hl
        go_enter Try.func27, Try.ntmps27
        go_wp2_with fail
        refine (HR.out _).mono ?_
        rintro x w1 ⟨rfl, hb⟩
        obtain ⟨c0, c1, c2, c3, _, _⟩ := HC.out.keep hb (by simp)
        have HB := Lib.hid (below_trans' ((Below.refl _ w).alloc (Nat.le_refl _) _) hb)
        clear hb
        go_wp2_with fail
        go_ret
        exact ⟨by rw [HV.out]; rfl, HB.out⟩
    · rw [if_neg hl] at hv
      obtain ⟨D, hD⟩ : ∃ D, D = [a, b1, c, d, e5, f, g, k] := ⟨_, rfl⟩
      rw [← hD] at hv HC
      have HV := Lib.hid hv
      clear hv hD
      have h0 : ¬ len < 0 := fun h => hl (.inl h)
      have h8 : ¬ 8 < len := fun h => hl (.inr h)
      clear hl
      go_enter Try.func27, Try.ntmps27
      go_wp2_with fail
      refine (HR.out _).mono ?_
      rintro x w1 ⟨rfl, hb⟩
      have hz1 : w.heap.size + 1 ≤ w1.heap.size := by have := hb.size; simp at this; omega
      have HF := Lib.hid (HC.out.keep hb (by simp))
      obtain ⟨c0, c1, c2, c3, _, _⟩ := HF.out
      have HB := Lib.hid (below_trans' ((Below.refl _ w).alloc (Nat.le_refl _) _) hb)
      clear hb
      go_wp2_with fail
      go_loopw [3] (fun i wr => ∃ (k : Nat), k ≤ 8 ∧ i = .int .i64 k ∧ (∀ j, j < k → (decide (D[j]?.getD 0 ≠ 0) && (decide (len ≤ (j : Int)) || r)) = false) ∧ Below w1.heap.size w1 wr) (fun i _ => 8 - (intOf i).toNat)
      case atStart => exact ⟨0, Nat.zero_le _, rfl, (fun j hj => by cases hj), Below.refl _ _⟩
      case round =>
        obtain ⟨m, hm, rfl, hall, hbw⟩ := hrel
        have HALL := Lib.hid hall
        have HF2 := Lib.hid (HF.out.keep hbw (by omega))
        have HB2 := Lib.hid (HB.out.trans (hbw.mono (by omega)))
        have HBW := Lib.hid hbw
        clear hall hbw c0 c1 c2 c3
        obtain ⟨c0, c1, c2, c3, cd, _⟩ := HF2.out
        by_cases hlt : m < 8
        · have cdm := cd m hlt
          obtain ⟨x, hx⟩ : ∃ x, x = D[m]?.getD 0 := ⟨_, rfl⟩
          rw [← hx] at cdm
          have HX := Lib.hid hx
          clear cd hx
          have i1 : (0 : Int) ≤ (m : Int) := by omega
          have i2 : (m : Int) < 8 := by omega
          by_cases hx0 : x = 0
          · have hne : ((x : Int) != 0) = false := by rw [hx0]; rfl
            have HGOOD := Lib.hid (show (decide (D[m]?.getD 0 ≠ 0) && (decide (len ≤ (m : Int)) || r)) = false by rw [← HX.out]; simp [hx0])
            go_wp2_with fail
            refine ⟨⟨m + 1, by omega, by simp, ?_, HBW.out⟩, by simp [intOf]; omega⟩
            intro j hj
            by_cases e : j = m
            · subst e
              exact HGOOD.out
            · exact HALL.out j (by omega)
          have hne : ((x : Int) != 0) = true := by simp; omega
          by_cases hlm : len ≤ (m : Int)
          · have hdl : decide (len ≤ (m : Int)) = true := by simp [hlm]
            have HBAD := Lib.hid (show (decide (D[m]?.getD 0 ≠ 0) && (decide (len ≤ (m : Int)) || r)) = true by rw [← HX.out]; simp [hlm, hx0])
            have HV2 := Lib.hid (show v = 3 by
              have h := HV.out
              rw [if_pos (List.any_eq_true.2 ⟨m, List.mem_range.2 hlt, HBAD.out⟩)] at h
              exact h)
            go_wp2_with fail
            go_ret
            exact ⟨by rw [HV2.out]; rfl, HB2.out⟩
          have hml : (m : Int) < len := by omega
          cases r
          · have HGOOD := Lib.hid (show (decide (D[m]?.getD 0 ≠ 0) && (decide (len ≤ (m : Int)) || false)) = false by rw [← HX.out]; simp [hlm])
            go_wp2_with fail
            refine ⟨⟨m + 1, by omega, by simp, ?_, HBW.out⟩, by simp [intOf]; omega⟩
            intro j hj
            by_cases e : j = m
            · subst e
              exact HGOOD.out
            · exact HALL.out j (by omega)
          · have HBAD := Lib.hid (show (decide (D[m]?.getD 0 ≠ 0) && (decide (len ≤ (m : Int)) || true)) = true by rw [← HX.out]; simp [hx0])
            have HV2 := Lib.hid (show v = 3 by
              have h := HV.out
              rw [if_pos (List.any_eq_true.2 ⟨m, List.mem_range.2 hlt, HBAD.out⟩)] at h
              exact h)
            go_wp2_with fail
            go_ret
            exact ⟨by rw [HV2.out]; rfl, HB2.out⟩
        · clear cd
          have i2 : ¬ ((m : Int) < 8) := by omega
          have HV2 := Lib.hid (show v = 0 by
            have h := HV.out
            rw [if_neg] at h
            · exact h
            · intro h
              obtain ⟨j, hj, hj2⟩ := List.any_eq_true.1 h
              rw [HALL.out j (by have := List.mem_range.1 hj; omega)] at hj2
              cases hj2)
          go_wp2_with fail
          go_ret
          exact ⟨by rw [HV2.out]; rfl, HB2.out⟩
end Go.Proofs.Ytbdockeopbfliaa
