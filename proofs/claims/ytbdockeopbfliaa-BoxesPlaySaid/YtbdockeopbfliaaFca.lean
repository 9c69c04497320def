/- The code of package frame (held, layoutOf, Right): what it returns. Conditions: a frame has eight bytes of data. -/
import Derived.Test.YtbdockeopbfliaaFrc
import Derived.Test.YtbdockeopbfliaaBat
import Derived.Lib.SliceRun
import Derived.Lib.LazyBuf
import Derived.ChangeKeysEq
import Derived.Laws.IdiomCopy
namespace Go.Proofs.Ytbdockeopbfliaa
open Go.RowKit Go.Shelf
theorem held_any (r : Bool) (len : Int) (w : World) : Calls Try.prog 31 #[.bool r, .int .i64 len] w fun x w' => x = .returned (.int .i64 (if r then 0 else len)) ∧ w = w' := by
  cases r
  · go_enter Try.func31, Try.ntmps31
    go_wp2
    go_ret
    exact ⟨rfl, rfl⟩
  · go_enter Try.func31, Try.ntmps31
    go_wp2
    go_ret
    exact ⟨rfl, rfl⟩
/-- A layout, as a value. -/
def layV (e : Bool) : Value := .agg #[.bool e, .int .i64 ((if e then 32 else 12 : Nat) : Int), .int .i64 ((if e then 35 else 15 : Nat) : Int)]
/-- The first k bytes are 0. -/
def clearK (data : List Nat) (k : Nat) : List Nat := List.replicate k 0 ++ data.drop k
theorem clearK_length {data : List Nat} {k : Nat} (hd : data.length = 8) (hk : k ≤ 8) : (clearK data k).length = 8 := by
  unfold clearK
  rw [List.length_append, List.length_replicate, List.length_drop]
  omega
theorem clearK_get {data : List Nat} {k i : Nat} : (clearK data k)[i]?.getD 0 = if i < k then 0 else data[i]?.getD 0 := by
  unfold clearK
  by_cases h : i < k
  · rw [if_pos h, List.getElem?_append_left (by simpa using h), List.getElem?_replicate, if_pos h]; rfl
  · rw [if_neg h, List.getElem?_append_right (by simpa using h), List.length_replicate, List.getElem?_drop, show k + (i - k) = i by omega]
theorem FrameAt.clear {W : World} {B : Nat} {e : Bool} {n : Nat} {r : Bool} {len : Int} {data : List Nat} (h : FrameAt W B e n r len data) (k : Nat) (hk : k ≤ 8) : FrameAt (W.setCells B 4 (List.replicate k (.int .u8 0))) B e n r len (clearK data k) := by
  have out : ∀ o, (o < 4 ∨ 4 + k ≤ o) → (W.setCells B 4 (List.replicate k (.int .u8 0))).cell? ⟨B, o, none⟩ = W.cell? ⟨B, o, none⟩ := fun o ho => World.cell?_setCells_out B _ 4 W ⟨B, o, none⟩ (fun _ _ => by simpa using ho)
  refine ⟨(out 0 (by omega)).trans h.c0, (out 1 (by omega)).trans h.c1, (out 2 (by omega)).trans h.c2, (out 3 (by omega)).trans h.c3, fun i hi => ?_, fun i hi => (World.frozen?_setCells B _ 4 W _).trans (h.fz i hi)⟩
  rw [clearK_get]
  by_cases hik : i < k
  · rw [if_pos hik]
    have := World.cell?_setCells_in B (List.replicate k (.int .u8 0)) 4 W (fun j hj => by
      rw [List.length_replicate] at hj
      rw [h.cd j (by omega)]; rfl) i (by simpa using hik)
    rw [this]
    simp
  · rw [if_neg hik]
    exact (out (4 + i) (by omega)).trans (h.cd i hi)
theorem FrameAt.cells {W : World} {B : Nat} {e : Bool} {n : Nat} {r : Bool} {len : Int} {d0 d1 d2 d3 d4 d5 d6 d7 : Nat} (h : FrameAt W B e n r len [d0, d1, d2, d3, d4, d5, d6, d7]) :
    W.cell? ⟨B, 0, none⟩ = some (.bool e) ∧ W.cell? ⟨B, 1, none⟩ = some (.int .u32 (n : Int)) ∧ W.cell? ⟨B, 2, none⟩ = some (.bool r) ∧ W.cell? ⟨B, 3, none⟩ = some (.int .i64 len) ∧ W.cell? ⟨B, 4, none⟩ = some (.int .u8 (d0 : Int)) ∧ W.cell? ⟨B, 5, none⟩ = some (.int .u8 (d1 : Int)) ∧ W.cell? ⟨B, 6, none⟩ = some (.int .u8 (d2 : Int)) ∧ W.cell? ⟨B, 7, none⟩ = some (.int .u8 (d3 : Int)) ∧ W.cell? ⟨B, 8, none⟩ = some (.int .u8 (d4 : Int)) ∧ W.cell? ⟨B, 9, none⟩ = some (.int .u8 (d5 : Int)) ∧ W.cell? ⟨B, 10, none⟩ = some (.int .u8 (d6 : Int)) ∧ W.cell? ⟨B, 11, none⟩ = some (.int .u8 (d7 : Int)) :=
  ⟨h.c0, h.c1, h.c2, h.c3, h.cd 0 (by omega), h.cd 1 (by omega), h.cd 2 (by omega), h.cd 3 (by omega), h.cd 4 (by omega), h.cd 5 (by omega), h.cd 6 (by omega), h.cd 7 (by omega)⟩
theorem rightF_clear {e : Bool} {n : Nat} {r : Bool} {len : Nat} {data : List Nat} (hr : rightI e n = true) (hl : len ≤ 8) : rightF e n r (len : Int) data = if (List.range 8).any (fun i => decide ((clearK data (if r then 0 else len))[i]?.getD 0 ≠ 0)) then 3 else 0 := by
  unfold rightF
  rw [if_neg (by rw [hr]; decide), if_neg (by omega)]
  have e1 : (List.range 8).any (fun i => decide (data[i]?.getD 0 ≠ 0) && (decide ((len : Int) ≤ (i : Int)) || r)) = (List.range 8).any (fun i => decide ((clearK data (if r then 0 else len))[i]?.getD 0 ≠ 0)) := by
    rw [Bool.eq_iff_iff, List.any_eq_true, List.any_eq_true]
    constructor
    · rintro ⟨i, hi, h⟩
      refine ⟨i, hi, ?_⟩
      simp only [Bool.and_eq_true, decide_eq_true_eq, Bool.or_eq_true] at h ⊢
      rw [clearK_get]
      cases r
      · rw [if_neg (by simp; have := h.2; simp at this; omega)]; exact h.1
      · rw [if_neg (by simp)]; exact h.1
    · rintro ⟨i, hi, h⟩
      refine ⟨i, hi, ?_⟩
      simp only [Bool.and_eq_true, decide_eq_true_eq, Bool.or_eq_true] at h ⊢
      rw [clearK_get] at h
      cases r
      · by_cases hik : i < len
        · rw [if_pos (by simpa using hik)] at h; exact absurd rfl h
        · rw [if_neg (by simpa using hik)] at h; exact ⟨h, .inl (by omega)⟩
      · rw [if_neg (by simp)] at h; exact ⟨h, .inr rfl⟩
  rw [e1]
set_option maxRecDepth 100000 in
theorem eq_step (d : Nat) (xs ys : Array Value) (i : Nat) (is : List Nat) (a b : Nat) (w : World) (hx : (part 5 xs (i * 1)).run Try.prog w = .ok (.int .u8 (a : Int)) w) (hy : (part 5 ys (i * 1)).run Try.prog w = .ok (.int .u8 (b : Int)) w) :
    (Op.eqItems (d + 1) 5 1 xs ys (i :: is)).run Try.prog w = if a = b then (Op.eqItems (d + 1) 5 1 xs ys is).run Try.prog w else .ok false w := by
  have e := run_equalIn_int (P := Try.prog) w d 5 .u8 .u8 (a : Int) (b : Int) Try.underlying5
  simp only [Op.eqItems, Sem.run_bind, hx, hy, Result.andThen_ok, e]
  by_cases h : a = b
  · subst h
    simp
  · have hne : ((a : Int) == (b : Int)) = false := by rw [beq_eq_false_iff_ne]; omega
    rw [if_neg h]
    simp [hne, Sem.run_pure]
theorem equal8 (d : Nat) (x0 x1 x2 x3 x4 x5 x6 x7 y0 y1 y2 y3 y4 y5 y6 y7 : Nat) (w : World) : Sem.run Try.prog (Op.equalIn (d + 2) 35 (.agg #[.int .u8 (x0 : Int), .int .u8 (x1 : Int), .int .u8 (x2 : Int), .int .u8 (x3 : Int), .int .u8 (x4 : Int), .int .u8 (x5 : Int), .int .u8 (x6 : Int), .int .u8 (x7 : Int)]) (.agg #[.int .u8 (y0 : Int), .int .u8 (y1 : Int), .int .u8 (y2 : Int), .int .u8 (y3 : Int), .int .u8 (y4 : Int), .int .u8 (y5 : Int), .int .u8 (y6 : Int), .int .u8 (y7 : Int)])) w = .ok (decide (x0 = y0 ∧ x1 = y1 ∧ x2 = y2 ∧ x3 = y3 ∧ x4 = y4 ∧ x5 = y5 ∧ x6 = y6 ∧ x7 = y7)) w := by
  have hc : Try.prog.cellsOf 5 = 1 := by kernel_rfl
  rw [run_equalIn_array (P := Try.prog) w (d + 1) #[.int .u8 (x0 : Int), .int .u8 (x1 : Int), .int .u8 (x2 : Int), .int .u8 (x3 : Int), .int .u8 (x4 : Int), .int .u8 (x5 : Int), .int .u8 (x6 : Int), .int .u8 (x7 : Int)] #[.int .u8 (y0 : Int), .int .u8 (y1 : Int), .int .u8 (y2 : Int), .int .u8 (y3 : Int), .int .u8 (y4 : Int), .int .u8 (y5 : Int), .int .u8 (y6 : Int), .int .u8 (y7 : Int)] Try.underlying35 (show Try.prog.info? 5 = some ((Try.prog.info? 5).get!) by kernel_rfl), hc, show List.range 8 = [0, 1, 2, 3, 4, 5, 6, 7] from rfl]
  rw [eq_step d _ _ 0 _ x0 y0 w (by kernel_rfl) (by kernel_rfl), eq_step d _ _ 1 _ x1 y1 w (by kernel_rfl) (by kernel_rfl), eq_step d _ _ 2 _ x2 y2 w (by kernel_rfl) (by kernel_rfl), eq_step d _ _ 3 _ x3 y3 w (by kernel_rfl) (by kernel_rfl), eq_step d _ _ 4 _ x4 y4 w (by kernel_rfl) (by kernel_rfl), eq_step d _ _ 5 _ x5 y5 w (by kernel_rfl) (by kernel_rfl), eq_step d _ _ 6 _ x6 y6 w (by kernel_rfl) (by kernel_rfl), eq_step d _ _ 7 _ x7 y7 w (by kernel_rfl) (by kernel_rfl)]
  rw [show (Op.eqItems (d + 1) 5 1 #[.int .u8 (x0 : Int), .int .u8 (x1 : Int), .int .u8 (x2 : Int), .int .u8 (x3 : Int), .int .u8 (x4 : Int), .int .u8 (x5 : Int), .int .u8 (x6 : Int), .int .u8 (x7 : Int)] #[.int .u8 (y0 : Int), .int .u8 (y1 : Int), .int .u8 (y2 : Int), .int .u8 (y3 : Int), .int .u8 (y4 : Int), .int .u8 (y5 : Int), .int .u8 (y6 : Int), .int .u8 (y7 : Int)] []).run Try.prog w = .ok true w by simp [Op.eqItems, Sem.run_pure]]
  by_cases h0 : x0 = y0
  case neg => simp [h0]
  by_cases h1 : x1 = y1
  case neg => simp [h1]
  by_cases h2 : x2 = y2
  case neg => simp [h2]
  by_cases h3 : x3 = y3
  case neg => simp [h3]
  by_cases h4 : x4 = y4
  case neg => simp [h4]
  by_cases h5 : x5 = y5
  case neg => simp [h5]
  by_cases h6 : x6 = y6
  case neg => simp [h6]
  by_cases h7 : x7 = y7
  case neg => simp [h7]
  simp [h0, h1, h2, h3, h4, h5, h6, h7]
theorem slice8 (B k : Nat) (hk : k ≤ 8) (w : World) : Sem.run Try.prog (Instr.sliceAt 35 (.pointer (some ⟨B, 4, none⟩)) none (some (.int .i64 (k : Int))) none) w = .ok (.slice (some ⟨B, 4, none⟩) k 8) w := by
  have ha : Try.prog.arrayLen 35 = 8 := by kernel_rfl
  have hs : (sizeOf (Try.prog.elem 35)).run Try.prog w = .ok 1 w := by kernel_rfl
  have h := run_sliceAt_array_h (P := Try.prog) w 35 ⟨B, 4, none⟩ (by kernel_rfl) .i64 (k : Int) (by omega) (by rw [ha]; omega)
  rw [ha, hs] at h
  exact h
theorem clear8 (B k : Nat) (w : World) (hc : ∀ j, j < k → (w.cell? ⟨B, 4 + j, none⟩).isSome = true) (hf : ∀ j, j < k → w.frozen? ⟨B, 4 + j, none⟩ = false) : Sem.run Try.prog (Builtin.clear_ #[69] 0 #[.slice (some ⟨B, 4, none⟩) k 8]) w = .ok (.tuple #[]) (w.setCells B 4 (List.replicate k (.int .u8 0))) := by
  by_cases hk : k = 0
  · subst hk
    simp [Builtin.clear_, run_underlying Try.underlying69, World.setCells]
  · exact Lib.run_clear_slice w 69 5 0 (.int .u8 0) Try.underlying69 (fun w => by kernel_rfl) rfl rfl B 4 k 8 (by omega) hc hf
set_option maxRecDepth 100000 in
set_option maxHeartbeats 2000000 in
theorem frameRight_any (e : Bool) (n : Nat) (r : Bool) (len : Int) (data : List Nat) (hd : data.length = 8) (w : World) : Calls Try.prog 21 #[frameV e n r len data] w fun x w' => x = .returned (.int .i64 ((rightF e n r len data : Nat) : Int)) ∧ Below w.heap.size w w' := by
  have hC := FrameAt.new w 37 e n r len data hd
  have HR := Lib.hid (fun u => right5_any e n u)
  have HH := Lib.hid (fun u => held_any r len u)
  obtain ⟨v, hv⟩ : ∃ v, v = rightF e n r len data := ⟨_, rfl⟩
  rw [← hv]
  obtain ⟨b, hb⟩ : ∃ b, b = rightI e n := ⟨_, rfl⟩
  rw [← hb] at HR
  unfold identV at HR
  obtain ⟨d0, d1, d2, d3, d4, d5, d6, d7, rfl⟩ := eight hd
  simp only [frameV, frameC, List.map]
  simp only [frameC, List.map] at hC
  have HC := Lib.hid hC
  obtain ⟨c0, c1, c2, c3, cd, _⟩ := hC
  clear cd
  cases b
  · have hv1 : v = 1 := by rw [hv]; unfold rightF; rw [if_pos hb.symm]
    subst hv1
    clear hv hb hd
    go_enter Try.func21, Try.ntmps21
    go_wp2_with fail
    refine (HR.out _).mono ?_
    rintro x w1 ⟨rfl, hb⟩
    have HB := Lib.hid (below_trans' ((Below.refl _ w).alloc (Nat.le_refl _) _) hb)
    clear hb
    go_wp2_with fail
    go_ret
    exact ⟨rfl, HB.out⟩
  by_cases hl : len < 0 ∨ 8 < len
  · have hv1 : v = 2 := by rw [hv]; unfold rightF; rw [if_neg (by rw [← hb]; decide), if_pos hl]
    subst hv1
    clear hv hb hd
    rcases hl with hl | hl
    all_goals
      go_enter Try.func21, Try.ntmps21
      go_wp2_with fail
      refine (HR.out _).mono ?_
      rintro x w1 ⟨rfl, hb⟩
      have HB := Lib.hid (below_trans' ((Below.refl _ w).alloc (Nat.le_refl _) _) hb)
      obtain ⟨c0, c1, c2, c3, _⟩ := (HC.out.keep hb (by simp)).cells
      clear hb
      go_wp2_with fail
      go_ret
      exact ⟨rfl, HB.out⟩
  · obtain ⟨m, rfl⟩ : ∃ m : Nat, len = m := ⟨len.toNat, by omega⟩
    have hm : m ≤ 8 := by omega
    rw [rightF_clear hb.symm hm] at hv
    obtain ⟨k, hk⟩ : ∃ k, k = if r then 0 else m := ⟨_, rfl⟩
    rw [← hk] at hv
    have hk8 : k ≤ 8 := by rw [hk]; split <;> omega
    have hki : (if r = true then (0 : Int) else (m : Int)) = (k : Int) := by rw [hk]; cases r <;> rfl
    rw [hki] at HH
    have HV := Lib.hid hv
    have l1 : ¬ (m : Int) < 0 := by omega
    have l2 : ¬ (8 : Int) < (m : Int) := by omega
    clear hv hb hl hk hki hd
    go_enter Try.func21, Try.ntmps21
    go_wp2_with fail
    refine (HR.out _).mono ?_
    rintro x w1 ⟨rfl, hb⟩
    have HB := Lib.hid (below_trans' ((Below.refl _ w).alloc (Nat.le_refl _) _) hb)
    have HC1 := Lib.hid (HC.out.keep hb (by simp))
    obtain ⟨c0, c1, c2, c3, _⟩ := HC1.out.cells
    clear hb
    go_wp2_with fail
    refine (HH.out _).mono ?_
    rintro x w1' ⟨rfl, rfl⟩
    have hsl := slice8 w.heap.size k hk8 w1
    have hcl := clear8 w.heap.size k w1 (fun j hj => by rw [HC1.out.cd j (by omega)]; rfl) (fun j hj => HC1.out.fz (4 + j) (by omega))
    have HC2 := HC1.out.clear k hk8
    have HB2 := Lib.hid (Go.below_setCells (Nat.le_refl _) (List.replicate k (.int .u8 0)) 4 w1 HB.out)
    obtain ⟨w2, hw2⟩ : ∃ w2, w2 = w1.setCells w.heap.size 4 (List.replicate k (.int .u8 0)) := ⟨_, rfl⟩
    rw [← hw2] at hcl HC2 HB2
    obtain ⟨x0, x1, x2, x3, x4, x5, x6, x7, hx⟩ := eight (clearK_length (data := [d0, d1, d2, d3, d4, d5, d6, d7]) rfl hk8)
    rw [hx] at HC2
    have hv := HV.out
    rw [hx] at hv
    obtain ⟨c0, c1, c2, c3, c4, c5, c6, c7, c8, c9, c10, c11⟩ := HC2.cells
    clear HC2 HC1 hw2 hx HV
    have heq : Sem.run Try.prog (Op.equalIn 10000 35 (.agg #[.int .u8 (x0 : Int), .int .u8 (x1 : Int), .int .u8 (x2 : Int), .int .u8 (x3 : Int), .int .u8 (x4 : Int), .int .u8 (x5 : Int), .int .u8 (x6 : Int), .int .u8 (x7 : Int)]) (.agg #[.int .u8 0, .int .u8 0, .int .u8 0, .int .u8 0, .int .u8 0, .int .u8 0, .int .u8 0, .int .u8 0])) w2 = .ok (decide (x0 = 0 ∧ x1 = 0 ∧ x2 = 0 ∧ x3 = 0 ∧ x4 = 0 ∧ x5 = 0 ∧ x6 = 0 ∧ x7 = 0)) w2 := equal8 9998 x0 x1 x2 x3 x4 x5 x6 x7 0 0 0 0 0 0 0 0 w2
    obtain ⟨b, hb⟩ : ∃ b, b = decide (x0 = 0 ∧ x1 = 0 ∧ x2 = 0 ∧ x3 = 0 ∧ x4 = 0 ∧ x5 = 0 ∧ x6 = 0 ∧ x7 = 0) := ⟨_, rfl⟩
    rw [← hb] at heq
    have hv' : v = if b then 0 else 3 := by
      rw [hv, hb]
      by_cases hz : x0 = 0 ∧ x1 = 0 ∧ x2 = 0 ∧ x3 = 0 ∧ x4 = 0 ∧ x5 = 0 ∧ x6 = 0 ∧ x7 = 0
      · rw [decide_eq_true hz]
        obtain ⟨rfl, rfl, rfl, rfl, rfl, rfl, rfl, rfl⟩ := hz
        rfl
      · rw [decide_eq_false hz, if_pos]
        · rfl
        rw [List.any_eq_true]
        by_cases h0 : x0 = 0
        · by_cases h1 : x1 = 0
          · by_cases h2 : x2 = 0
            · by_cases h3 : x3 = 0
              · by_cases h4 : x4 = 0
                · by_cases h5 : x5 = 0
                  · by_cases h6 : x6 = 0
                    · by_cases h7 : x7 = 0
                      · exact absurd ⟨h0, h1, h2, h3, h4, h5, h6, h7⟩ hz
                      · exact ⟨7, by decide, by simpa using h7⟩
                    · exact ⟨6, by decide, by simpa using h6⟩
                  · exact ⟨5, by decide, by simpa using h5⟩
                · exact ⟨4, by decide, by simpa using h4⟩
              · exact ⟨3, by decide, by simpa using h3⟩
            · exact ⟨2, by decide, by simpa using h2⟩
          · exact ⟨1, by decide, by simpa using h1⟩
        · exact ⟨0, by decide, by simpa using h0⟩
    clear hv hb
    cases b
    · obtain rfl : v = 3 := hv'
      go_wp2_with fail
      go_ret
      exact ⟨rfl, HB2.out⟩
    · obtain rfl : v = 0 := hv'
      go_wp2_with fail
      go_ret
      exact ⟨rfl, HB2.out⟩
end Go.Proofs.Ytbdockeopbfliaa
