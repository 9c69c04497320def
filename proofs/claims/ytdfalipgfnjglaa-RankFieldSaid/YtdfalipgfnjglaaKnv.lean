/- The document's own field of layer 21 is opened. Conditions: each theorem says its own. -/
import Derived.Test.YtdfalipgfnjglaaKnu
namespace Go.Proofs.Ytdfalipgfnjglaa
open Go.RowKit
variable {W X : World} {A : Nat} {la : Option Addr} {lc : Nat} {b s p : Int} {n : Nat} {pk : Nat → Nat} {st : Fs} {tv : Value} {ta : Option Addr} {tc : Nat} {told : List Int}
theorem info_rnode : (Try.prog.info? 120).map (fun i => (i.zero.map (·.cells.size), i.size, i.bytes)) = some (some 1, 1, 8) := by kernel_rfl
theorem row_grow (i : Nat) (pk : Nat → Nat) (B : Nat) : rowC (i + 1) (fun j => if j = i then B else pk j) (newS (i + 1)) = rowC i pk (newS i) ++ [.pointer (some ⟨B, 0, none⟩)] := by
  unfold rowC
  rw [List.range_succ, List.map_append]
  congr 1
  · apply List.map_congr_left
    intro k hk
    have hk := List.mem_range.1 hk
    unfold ptrV newS
    rw [if_pos hk, if_pos (by omega)]
    simp only [show ¬ k = i by omega, if_false]
  · simp [ptrV, newS]
theorem RC.grow {i : Nat} (h : RC W A la lc b s p i pk (newS i) tv) {lc' B g off : Nat} (hi : i + 1 ≤ 32) (_hsz : W.heap.size ≤ X.heap.size) (hX : ∀ j, j < W.heap.size → ¬ OB la j → X.heap[j]? = W.heap[j]?) (hrow : Rw X 1 (.slice (some ⟨g, off, none⟩) (i + 1) lc') (rowC i pk (newS i) ++ [.pointer (some ⟨B, 0, none⟩)]))
    (hB : Blk W B 128 (ndC b s p i ⟨false, 0, 0⟩)) (hBf : ∀ j, RC.S A la i pk (newS i) j → j ≠ B) (hg : OB la g ∨ W.heap.size ≤ g) :
    RC (X.setCell ⟨A, 3, none⟩ (.slice (some ⟨g, off, none⟩) (i + 1) lc')) A (some ⟨g, off, none⟩) lc' b s p (i + 1) (fun j => if j = i then B else pk j) (newS (i + 1)) tv := by
  have hgA : g ≠ A := by
    rcases hg with h1 | h1
    · exact fun e => h.ne (e ▸ h1)
    · have := h.blk.lt; omega
  have hgB : g ≠ B := by
    rcases hg with h1 | h1
    · exact hBf g (.inr (.inl h1))
    · have := hB.lt; omega
  have hns : ∀ k, k < i → newS i k ≠ none := fun k hk => by unfold newS; rw [if_pos hk]; exact fun e => by cases e
  have hgp : ∀ k, k < i → g ≠ pk k := fun k hk => by
    rcases hg with h1 | h1
    · exact fun e => (h.ap k hk (hns k hk)).2 (e ▸ h1)
    · have := h.lt (.inr (.inr ⟨k, hk, hns k hk, rfl⟩)); omega
  have hBO : ¬ OB la B := fun hO => hBf B (.inr (.inl hO)) rfl
  have hset : ∀ j, j ≠ A → (X.setCell ⟨A, 3, none⟩ (.slice (some ⟨g, off, none⟩) (i + 1) lc')).heap[j]? = X.heap[j]? := fun j hj => Below.heap_setCell X ⟨A, 3, none⟩ _ j hj
  refine ⟨(h.blk.on (hX A h.blk.lt h.ne)).put1 (i := 3) (by simp) _, ?_, fun k hk d hd => ?_, fun k hk _ => ?_, fun j k hj hk _ _ e => ?_, fun hO => hgA (ob_eq hO), hi⟩
  · rw [row_grow]
    exact hrow.on (by rw [setCell_sizeG]; exact Nat.le_refl _) (fun g' e => hset g' (fun e2 => hgA ((Option.some.inj e).trans e2)))
  · have hd' : d = ⟨false, 0, 0⟩ := by unfold newS at hd; rw [if_pos hk] at hd; exact (Option.some.inj hd).symm
    subst hd'
    by_cases e : k = i
    · subst e
      simp only [if_true]
      exact (hB.on (hX B hB.lt hBO)).on (hset B (fun e => hBf A (.inl rfl) e.symm))
    · simp only [if_neg e]
      have hki : k < i := by omega
      have hap := h.ap k hki (hns k hki)
      have hn := h.node k hki ⟨false, 0, 0⟩ (by unfold newS; rw [if_pos hki])
      exact (hn.on (hX _ hn.lt hap.2)).on (hset _ hap.1)
  · by_cases e : k = i
    · simp only [if_pos e]
      exact ⟨fun e => hBf A (.inl rfl) e.symm, fun hO => hgB (ob_eq hO)⟩
    · simp only [if_neg e]
      have hki : k < i := by omega
      exact ⟨(h.ap k hki (hns k hki)).1, fun hO => hgp k hki (ob_eq hO)⟩
  · by_cases ej : j = i
    · by_cases ek : k = i
      · rw [ej, ek]
      · simp only [if_pos ej, if_neg ek] at e
        have hki : k < i := by omega
        exact absurd e.symm (hBf (pk k) (.inr (.inr ⟨k, hki, hns k hki, rfl⟩)))
    · by_cases ek : k = i
      · simp only [if_neg ej, if_pos ek] at e
        have hji : j < i := by omega
        exact absurd e (hBf (pk j) (.inr (.inr ⟨j, hji, hns j hji, rfl⟩)))
      · simp only [if_neg ej, if_neg ek] at e
        exact h.inj j k (by omega) (by omega) (hns j (by omega)) (hns k (by omega)) e
theorem rf_open_no (b s p m : Int) (hc : rightR b s p = true → ¬ (1 ≤ m ∧ m ≤ 32)) (w : World) : Calls Try.prog 67 #[.agg #[.int .i64 b, .int .i64 s, .int .i64 p], .int .i64 m] w fun y w' => y = .returned (.tuple #[.pointer none, .int .i64 1]) ∧ Below w.heap.size w w' := by
  have HR := Lib.hid (fun u => rrk_right b s p u)
  obtain ⟨W0, hW0⟩ : ∃ W, W = w.alloc (.cells #[.int .i64 b, .int .i64 s, .int .i64 p] 123) := ⟨_, rfl⟩
  have HA0 := Lib.hid (show Blk W0 w.heap.size 123 [.int .i64 b, .int .i64 s, .int .i64 p] by rw [hW0]; exact Blk.new w 123 [.int .i64 b, .int .i64 s, .int .i64 p])
  have HB0 := Lib.hid (show Below w.heap.size w W0 by rw [hW0]; exact (Below.refl _ w).alloc (Nat.le_refl _) _)
  cases hr : rightR b s p
  · rw [hr] at HR
    clear hc hr
    go_enter Try.func67, Try.ntmps67
    go_upto_region 1 with fail
    rw [← hW0]
    clear hW0
    have c0 : W0.cell? ⟨w.heap.size, 0, none⟩ = some (.int .i64 b) := HA0.out.cellAt (i := 0) (by simp)
    have c1 : W0.cell? ⟨w.heap.size, 1, none⟩ = some (.int .i64 s) := HA0.out.cellAt (i := 1) (by simp)
    have c2 : W0.cell? ⟨w.heap.size, 2, none⟩ = some (.int .i64 p) := HA0.out.cellAt (i := 2) (by simp)
    go_wp2_with fail
    refine (HR.out _).mono ?_
    rintro y w1 ⟨rfl, hb⟩
    have HB1 := Lib.hid (below_transG HB0.out hb)
    have HA1 := Lib.hid (HA0.out.keep hb HA0.out.lt)
    clear hb c0 c1 c2
    go_wp2_with fail
    go_ret2
    exact ⟨rfl, HB1.out⟩
  · rw [hr] at HR
    have hn := hc hr
    have cs : m < 1 ∨ (¬ m < 1 ∧ 32 < m) := by omega
    clear hc hr hn
    rcases cs with h1 | ⟨h1, h2⟩
    · skip
      go_enter Try.func67, Try.ntmps67
      go_upto_region 1 with fail
      rw [← hW0]
      clear hW0
      have c0 : W0.cell? ⟨w.heap.size, 0, none⟩ = some (.int .i64 b) := HA0.out.cellAt (i := 0) (by simp)
      have c1 : W0.cell? ⟨w.heap.size, 1, none⟩ = some (.int .i64 s) := HA0.out.cellAt (i := 1) (by simp)
      have c2 : W0.cell? ⟨w.heap.size, 2, none⟩ = some (.int .i64 p) := HA0.out.cellAt (i := 2) (by simp)
      go_wp2_with fail
      refine (HR.out _).mono ?_
      rintro y w1 ⟨rfl, hb⟩
      have HB1 := Lib.hid (below_transG HB0.out hb)
      have HA1 := Lib.hid (HA0.out.keep hb HA0.out.lt)
      clear hb c0 c1 c2
      go_wp2_with fail
      go_ret2
      exact ⟨rfl, HB1.out⟩
    · skip
      go_enter Try.func67, Try.ntmps67
      go_upto_region 1 with fail
      rw [← hW0]
      clear hW0
      have c0 : W0.cell? ⟨w.heap.size, 0, none⟩ = some (.int .i64 b) := HA0.out.cellAt (i := 0) (by simp)
      have c1 : W0.cell? ⟨w.heap.size, 1, none⟩ = some (.int .i64 s) := HA0.out.cellAt (i := 1) (by simp)
      have c2 : W0.cell? ⟨w.heap.size, 2, none⟩ = some (.int .i64 p) := HA0.out.cellAt (i := 2) (by simp)
      go_wp2_with fail
      refine (HR.out _).mono ?_
      rintro y w1 ⟨rfl, hb⟩
      have HB1 := Lib.hid (below_transG HB0.out hb)
      have HA1 := Lib.hid (HA0.out.keep hb HA0.out.lt)
      clear hb c0 c1 c2
      go_wp2_with fail
      go_ret2
      exact ⟨rfl, HB1.out⟩
set_option maxRecDepth 100000 in
set_option maxHeartbeats 8000000 in
theorem rf_open_yes (b s p : Int) (n : Nat) (hc : rightR b s p = true) (hn : 1 ≤ n ∧ n ≤ 32) (w : World) : Calls Try.prog 67 #[.agg #[.int .i64 b, .int .i64 s, .int .i64 p], .int .i64 (n : Int)] w fun y w' => ∃ A la lc pk, y = .returned (.tuple #[.pointer (some ⟨A, 0, none⟩), .int .i64 0]) ∧ RFA w' A la lc b s p n pk (newS n) none 0 [] ∧ (∀ j, RC.S A la n pk (newS n) j → w.heap.size ≤ j) ∧ Below w.heap.size w w' := by
  have HR := Lib.hid (fun u => rrk_right b s p u)
  obtain ⟨W0, hW0⟩ : ∃ W, W = w.alloc (.cells #[.int .i64 b, .int .i64 s, .int .i64 p] 123) := ⟨_, rfl⟩
  have HA0 := Lib.hid (show Blk W0 w.heap.size 123 [.int .i64 b, .int .i64 s, .int .i64 p] by rw [hW0]; exact Blk.new w 123 [.int .i64 b, .int .i64 s, .int .i64 p])
  have HB0 := Lib.hid (show Below w.heap.size w W0 by rw [hW0]; exact (Below.refl _ w).alloc (Nat.le_refl _) _)
  have HC := Lib.hid hc
  obtain ⟨i0, z0, hi, hz, hzc, hsz, hby⟩ := info_zpartsN info_rnode
  have n1 : ¬ (n : Int) < 1 := by omega
  have n2 : ¬ (32 : Int) < (n : Int) := by omega
  rw [hc] at HR
  obtain ⟨hn1, hn2⟩ := hn
  have HN2 := Lib.hid hn2
  clear hc hn1
  go_enter Try.func67, Try.ntmps67
  go_upto_region 1 with fail
  rw [← hW0]
  clear hW0
  have c0 : W0.cell? ⟨w.heap.size, 0, none⟩ = some (.int .i64 b) := HA0.out.cellAt (i := 0) (by simp)
  have c1 : W0.cell? ⟨w.heap.size, 1, none⟩ = some (.int .i64 s) := HA0.out.cellAt (i := 1) (by simp)
  have c2 : W0.cell? ⟨w.heap.size, 2, none⟩ = some (.int .i64 p) := HA0.out.cellAt (i := 2) (by simp)
  go_wp2_with fail
  refine (HR.out _).mono ?_
  rintro y w1 ⟨rfl, hb⟩
  have HB1 := Lib.hid (below_transG HB0.out hb)
  have HA1 := Lib.hid (HA0.out.keep hb HA0.out.lt)
  clear hb c0 c1 c2
  have c0 : w1.cell? ⟨w.heap.size, 0, none⟩ = some (.int .i64 b) := HA1.out.cellAt (i := 0) (by simp)
  have c1 : w1.cell? ⟨w.heap.size, 1, none⟩ = some (.int .i64 s) := HA1.out.cellAt (i := 1) (by simp)
  have c2 : w1.cell? ⟨w.heap.size, 2, none⟩ = some (.int .i64 p) := HA1.out.cellAt (i := 2) (by simp)
  go_upto_region 4 with fail
  obtain ⟨W2, hW2⟩ : ∃ W, W = w1.alloc (.cells #[.int .i64 b, .int .i64 s, .int .i64 p, .slice none 0 0, .slice none 0 0] 145) := ⟨_, rfl⟩
  rw [← hW2]
  have HRC := Lib.hid (show RC W2 w1.heap.size none 0 b s p 0 (fun _ => 0) (newS 0) (.slice none 0 0) by
    rw [hW2]
    exact ⟨Blk.new w1 145 [.int .i64 b, .int .i64 s, .int .i64 p, .slice none 0 0, .slice none 0 0], Rw.nil _ _, fun k hk => by omega, fun k hk => by omega, fun j k hj => by omega, (fun hO => by have := hO 0 0; cases this), by omega⟩)
  have HB2 := Lib.hid (show Below w.heap.size w W2 by rw [hW2]; exact HB1.out.alloc HB1.out.size _)
  have HA2 := Lib.hid (show Blk W2 w.heap.size 123 [.int .i64 b, .int .i64 s, .int .i64 p] by rw [hW2]; exact HA1.out.keep ((Below.refl _ w1).alloc (Nat.le_refl _) _) HA1.out.lt)
  obtain ⟨A, hA⟩ : ∃ A, A = w1.heap.size := ⟨_, rfl⟩
  have HAS := Lib.hid (show w.heap.size < A by rw [hA]; exact HA1.out.lt)
  rw [← hA] at HRC ⊢
  clear hW2 hA c0 c1 c2 HB0 HB1 HA0 HA1
  go_wp2_with fail
  go_loopw [7] (fun s7 wr => ∃ (i : Nat) (la : Option Addr) (lc : Nat) (pk : Nat → Nat), s7 = .int .i64 (i : Int) ∧ i ≤ n ∧ RC wr A la lc b s p i pk (newS i) (.slice none 0 0) ∧ (∀ j, RC.S A la i pk (newS i) j → w.heap.size < j) ∧ Blk wr w.heap.size 123 [.int .i64 b, .int .i64 s, .int .i64 p] ∧ Below w.heap.size w wr) (fun s7 _ => n - (intOf s7).toNat)
  case atStart => exact ⟨0, none, 0, fun _ => 0, rfl, by omega, HRC.out, (fun j hj => by
    rcases hj with rfl | hO | ⟨k, hk, _⟩
    · exact HAS.out
    · have := hO 0 0; cases this
    · omega), HA2.out, HB2.out⟩
  case round =>
    clear HRC HB2 HA2
    obtain ⟨i, la, lc, pk, rfl, hin, hC, hS, hcf, hB⟩ := hrel
    have HCC := Lib.hid hC; have HS := Lib.hid hS; have HCF := Lib.hid hcf; have HB := Lib.hid hB
    clear hC hS hcf hB
    by_cases hlt : i < n
    · have i1 : (i : Int) < (n : Int) := by omega
      have i2 : (0 : Int) ≤ (i : Int) := by omega
      have HNW := Lib.hid (rrk_new_yes b s p (i : Int) HC.out (by omega) wr)
      have c0 : wr.cell? ⟨w.heap.size, 0, none⟩ = some (.int .i64 b) := HCF.out.cellAt (i := 0) (by simp)
      have c1 : wr.cell? ⟨w.heap.size, 1, none⟩ = some (.int .i64 s) := HCF.out.cellAt (i := 1) (by simp)
      have c2 : wr.cell? ⟨w.heap.size, 2, none⟩ = some (.int .i64 p) := HCF.out.cellAt (i := 2) (by simp)
      go_wp2_with fail
      refine HNW.out.mono ?_
      rintro y w3 ⟨B, rfl, hBn, hBs, hb⟩
      have HC3 := Lib.hid (HCC.out.on hb)
      have HB3 := Lib.hid (HB.out.trans (hb.mono HB.out.size))
      have HF3 := Lib.hid (HCF.out.keep hb HCF.out.lt)
      have HBN := Lib.hid hBn
      have HBF := Lib.hid (show ∀ j, RC.S A la i pk (newS i) j → j ≠ B from fun j hj => by have := HCC.out.lt hj; omega)
      have HBW := Lib.hid (show w.heap.size < B by have := HCF.out.lt; omega)
      clear hBn hBs hb c0 c1 c2 HNW HB HCF HCC
      obtain ⟨_, _, _, c3, _⟩ := HC3.out.cell0
      obtain ⟨PLL, hPL⟩ : ∃ PLL, PLL = rowC i pk (newS i) := ⟨_, rfl⟩
      have HPL := Lib.hid hPL
      have hrw := HC3.out.row
      rw [← hPL] at hrw
      have HROW := Lib.hid (show ∀ u, Below w3.heap.size w3 u → Rw u 1 (.slice la i lc) PLL from fun u hu => hrw.kept hu)
      have hAl := HC3.out.blk.lt
      have hAf := HC3.out.blk.frozenAt 3
      clear hPL hrw
      go_wp2_with (at_builtin; refine wpList_append_rw _ rfl _ _ 143 143 rfl 120 i0 z0 1 8 Try.underlying143 hi hz hsz hby hzc la i lc PLL rfl (HROW.out _ ((Below.refl _ _).alloc (Nat.le_refl _) _)) _ rfl 1 [.pointer (some ⟨B, 0, none⟩)] (Src.ofSlice _ Try.underlying143 ⟨w3.heap.size, 0, none⟩ 1 1 [.pointer (some ⟨B, 0, none⟩)] rfl (fun j u h => by first | exact newsG j u h | exact newsGd j u h) (fun u h => by rw [List.mem_singleton] at h; rw [h]; rfl)) (.inl (by decide)) (by have := HN2.out; omega) (by decide) ?_)
      intro g off cap' w5 h2 h3 h4 h5
      have hbA := (Below.refl _ w3).alloc (Nat.le_refl _) (.cells #[.pointer (some ⟨B, 0, none⟩)] 120)
      have h4b : ∀ j, j < (w3.alloc (.cells #[.pointer (some ⟨B, 0, none⟩)] 120)).heap.size → (Value.slice la i lc).ownBlock ≠ some j → w5.heap[j]? = (w3.alloc (.cells #[.pointer (some ⟨B, 0, none⟩)] 120)).heap[j]? := fun j hj hn => h4 j (by first | exact hj | simpa using hj) hn
      have hmv : ∀ j, j < w3.heap.size → ¬ OB la j → w5.heap[j]? = w3.heap[j]? := fun j hj hO => (h4b j (Nat.lt_of_lt_of_le hj hbA.size) (fun e => hO (ob_of e))).trans (hbA.block j hj)
      have hsz5 : w3.heap.size ≤ w5.heap.size := Nat.le_trans hbA.size (h3 0).size
      have HGR := Lib.hid (HC3.out.grow (X := w5) (by have := HN2.out; omega) hsz5 hmv (by rw [← HPL.out]; exact h2) HBN.out HBF.out (by rcases h5 with h | h; exact .inl (ob_of h); exact .inr (by have h9 := hbA.size; omega)))
      have HSG := Lib.hid (show ∀ j, RC.S A (some ⟨g, off, none⟩) (i + 1) (fun j => if j = i then B else pk j) (newS (i + 1)) j → w.heap.size < j from fun j hj => by
        rcases hj with rfl | hO | ⟨k, hk, _, e⟩
        · exact HAS.out
        · obtain rfl := ob_eq hO
          rcases h5 with h | h
          · exact HS.out g (.inr (.inl (ob_of h)))
          · have h9 := hbA.size; have h8 := HF3.out.lt; omega
        · by_cases ek : k = i
          · have e2 : (if k = i then B else pk k) = j := e
            rw [if_pos ek] at e2; have := HBW.out; omega
          · have e2 : (if k = i then B else pk k) = j := e
            rw [if_neg ek] at e2
            exact HS.out j (.inr (.inr ⟨k, by omega, (by unfold newS; rw [if_pos (by omega)]; exact fun e => by cases e), e2⟩)))
      have hcm : ∀ j, j ≤ w.heap.size → j < w3.heap.size → (w5.setCell ⟨A, 3, none⟩ (.slice (some ⟨g, off, none⟩) (i + 1) cap')).heap[j]? = w3.heap[j]? := fun j hj hj3 => (Below.heap_setCell w5 ⟨A, 3, none⟩ _ j (by have := HAS.out; show j ≠ A; omega)).trans (hmv j hj3 (fun hO => by have := HS.out j (.inr (.inl hO)); omega))
      have HF5 := Lib.hid (show Blk (w5.setCell ⟨A, 3, none⟩ (.slice (some ⟨g, off, none⟩) (i + 1) cap')) w.heap.size 123 [.int .i64 b, .int .i64 s, .int .i64 p] from HF3.out.on (hcm _ (Nat.le_refl _) HF3.out.lt))
      have HB5 := Lib.hid (show Below w.heap.size w (w5.setCell ⟨A, 3, none⟩ (.slice (some ⟨g, off, none⟩) (i + 1) cap')) from ⟨(h3 0).os.trans HB3.out.os, (h3 0).tape.trans HB3.out.tape, (h3 0).output.trans HB3.out.output, by rw [setCell_sizeG]; exact Nat.le_trans HB3.out.size hsz5, fun j hj => (hcm j (Nat.le_of_lt hj) (Nat.lt_of_lt_of_le hj HB3.out.size)).trans (HB3.out.block j hj)⟩)
      have d3 : w5.cell? ⟨A, 3, none⟩ = some (.slice la i lc) := (World.cell?_of_block (hmv A hAl HC3.out.ne)).trans c3
      have d3f : w5.frozen? ⟨A, 3, none⟩ = false := (World.frozen?_of_block (hmv A hAl HC3.out.ne)).trans hAf
      clear h2 h3 h4 h4b h5 hmv hcm hbA c3 hAf HROW
      go_wp2_with fail
      go_roundw
      case rel => exact ⟨i + 1, _, _, _, by simp, by omega, HGR.out, HSG.out, HF5.out, HB5.out⟩
      case measure => simp [intOf]; omega
    · obtain rfl : i = n := by omega
      go_wp2_with fail
      go_ret2
      exact ⟨A, la, lc, pk, rfl, ⟨HCC.out, Ints.nil _ _, (fun g off e => by cases e), FI.newS (rightR_rc HC.out) i i, HC.out, by simp⟩, (fun j hj => Nat.le_of_lt (HS.out j hj)), HB.out⟩
end Go.Proofs.Ytdfalipgfnjglaa
