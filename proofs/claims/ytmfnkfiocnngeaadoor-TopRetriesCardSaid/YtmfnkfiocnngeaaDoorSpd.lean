/- Who sends: which bits ask (asking, and its closure). No conditions but that counts are counts. -/
import Derived.Test.YtmfnkfiocnngeaaDoorSpc
import Derived.Test.YtmfnkfiocnngeaaDoorSpm
namespace Go.Proofs.YtmfnkfiocnngeaaDoor
open Go.RowKit Go.Shelf
/-- The closure's three boxes. -/
structure AskAt (W : World) (Bd Bf Bl d m : Nat) : Prop where
  d : Blk W Bd 3 [.int .i64 (d : Int)]
  f : Blk W Bf 3 [.int .i64 2]
  l : Blk W Bl 3 [.int .i64 (m : Int)]
  df : Bd ≠ Bf
  dl : Bd ≠ Bl
theorem AskAt.keep {W X : World} {Bd Bf Bl d m : Nat} (h : AskAt W Bd Bf Bl d m) (hb : Below W.heap.size W X) : AskAt X Bd Bf Bl d m :=
  ⟨h.d.keep hb h.d.lt, h.f.keep hb h.f.lt, h.l.keep hb h.l.lt, h.df, h.dl⟩
set_option maxHeartbeats 4000000 in
theorem asks1_any (W : World) (Bd Bf Bl d m k : Nat) (hd : d ≤ 1000) (h : AskAt W Bd Bf Bl d m) : Calls Tryd.prog 128 #[.int .i64 (k : Int), .pointer (some ⟨Bd, 0, none⟩), .pointer (some ⟨Bf, 0, none⟩), .pointer (some ⟨Bl, 0, none⟩)] W fun y w' => y = .returned (.bool (decide (2 ≤ d + if k = 0 then 1 else 0) && decide ((d + if k = 0 then 1 else 0) ≤ m))) ∧ AskAt w' Bd Bf Bl (d + if k = 0 then 1 else 0) m ∧ Kp Bd (.slice none 0 0) W w' := by
  by_cases hk : k = 0
  · rw [if_pos hk]
    have i0 : ((k : Int) == 0) = true := by rw [hk]; rfl
    have c0 := h.d.cellAt (i := 0) (by simp); have g0 := h.d.frozenAt 0
    have hw : IntKind.i64.wrap ((d : Int) + 1) = (d : Int) + 1 := by rw [IntKind.wrap_i64]; omega
    obtain ⟨X, hX⟩ : ∃ X, X = W.setCell ⟨Bd, 0, none⟩ (.int .i64 ((d : Int) + 1)) := ⟨_, rfl⟩
    have HA := Lib.hid (show AskAt X Bd Bf Bl (d + 1) m from ⟨by rw [hX]; exact h.d.put1 (i := 0) (by simp) _, by rw [hX]; exact h.f.puts h.df 0 _, by rw [hX]; exact h.l.puts h.dl 0 _, h.df, h.dl⟩)
    have HK := Lib.hid (show Kp Bd (.slice none 0 0) W X by rw [hX]; exact (Kp.refl _ _ _).set 0 _)
    simp only [List.getElem_cons_zero] at c0
    obtain ⟨D, hD⟩ : ∃ D, D = d + 1 := ⟨_, rfl⟩
    rw [← hD] at HA ⊢
    obtain ⟨V, hV⟩ : ∃ V, V = (decide (2 ≤ D) && decide (D ≤ m)) := ⟨_, rfl⟩
    rw [← hV]
    have HV := Lib.hid hV
    clear hk h hD hV
    go_enter Tryd.func128, Tryd.ntmps128
    go_upto_region 3 with fail
    rw [← hX]
    clear hX c0 g0
    have c0 := HA.out.d.cellAt (i := 0) (by simp); have c1 := HA.out.f.cellAt (i := 0) (by simp); have c2 := HA.out.l.cellAt (i := 0) (by simp)
    simp only [List.getElem_cons_zero] at c0 c1 c2
    by_cases h2 : 2 ≤ D
    · have i1 : (2 : Int) ≤ (D : Int) := by omega
      by_cases h3 : D ≤ m
      · have i2 : (D : Int) ≤ (m : Int) := by omega
        have HW := Lib.hid (show V = true by rw [HV.out, decide_eq_true h2, decide_eq_true h3]; rfl)
        clear h2 h3
        go_wp2_with fail
        go_ret
        exact ⟨by rw [HW.out]; rfl, HA.out, HK.out⟩
      · have i2 : ¬ (D : Int) ≤ (m : Int) := by omega
        have HW := Lib.hid (show V = false by rw [HV.out, decide_eq_true h2, decide_eq_false h3]; rfl)
        clear h2 h3
        go_wp2_with fail
        go_ret
        exact ⟨by rw [HW.out]; rfl, HA.out, HK.out⟩
    · have i1 : ¬ (2 : Int) ≤ (D : Int) := by omega
      have HW := Lib.hid (show V = false by rw [HV.out, decide_eq_false h2]; rfl)
      clear h2
      go_wp2_with fail
      go_ret
      exact ⟨by rw [HW.out]; rfl, HA.out, HK.out⟩
  · rw [if_neg hk, Nat.add_zero]
    have i0 : ((k : Int) == 0) = false := by rw [beq_eq_false_iff_ne]; omega
    have c0 := h.d.cellAt (i := 0) (by simp); have c1 := h.f.cellAt (i := 0) (by simp); have c2 := h.l.cellAt (i := 0) (by simp)
    simp only [List.getElem_cons_zero] at c0 c1 c2
    have HA := Lib.hid h
    obtain ⟨V, hV⟩ : ∃ V, V = (decide (2 ≤ d) && decide (d ≤ m)) := ⟨_, rfl⟩
    rw [← hV]
    have HV := Lib.hid hV
    clear hk h hV
    by_cases h2 : 2 ≤ d
    · have i1 : (2 : Int) ≤ (d : Int) := by omega
      by_cases h3 : d ≤ m
      · have i2 : (d : Int) ≤ (m : Int) := by omega
        have HW := Lib.hid (show V = true by rw [HV.out, decide_eq_true h2, decide_eq_true h3]; rfl)
        clear h2 h3
        go_enter Tryd.func128, Tryd.ntmps128
        go_wp2_with fail
        go_ret
        exact ⟨by rw [HW.out]; rfl, HA.out, Kp.refl _ _ _⟩
      · have i2 : ¬ (d : Int) ≤ (m : Int) := by omega
        have HW := Lib.hid (show V = false by rw [HV.out, decide_eq_true h2, decide_eq_false h3]; rfl)
        clear h2 h3
        go_enter Tryd.func128, Tryd.ntmps128
        go_wp2_with fail
        go_ret
        exact ⟨by rw [HW.out]; rfl, HA.out, Kp.refl _ _ _⟩
    · have i1 : ¬ (2 : Int) ≤ (d : Int) := by omega
      have HW := Lib.hid (show V = false by rw [HV.out, decide_eq_false h2]; rfl)
      clear h2
      go_enter Tryd.func128, Tryd.ntmps128
      go_wp2_with fail
      go_ret
      exact ⟨by rw [HW.out]; rfl, HA.out, Kp.refl _ _ _⟩
theorem ask_new (w : World) (L : Nat) : AskAt (((w.alloc (.cells #[.int .i64 2] 3)).alloc (.cells #[.int .i64 (1 + (L : Int))] 3)).alloc (.cells #[.int .i64 0] 3)) (w.heap.size + 1 + 1) w.heap.size (w.heap.size + 1) 0 (1 + L) := by
  have e : (1 + (L : Int)) = ((1 + L : Nat) : Int) := by omega
  rw [e]
  refine ⟨?_, ?_, ?_, by omega, by omega⟩
  · have h := Blk.new ((w.alloc (.cells #[.int .i64 2] 3)).alloc (.cells #[.int .i64 ((1 + L : Nat) : Int)] 3)) 3 [.int .i64 0]
    rw [World.size_alloc, World.size_alloc] at h
    exact h
  · exact ((Blk.new w 3 [.int .i64 2]).keep ((Below.refl _ _).alloc (Nat.le_refl _) _) (by simp)).keep ((Below.refl _ _).alloc (Nat.le_refl _) _) (by simp; omega)
  · have h := Blk.new (w.alloc (.cells #[.int .i64 2] 3)) 3 [.int .i64 ((1 + L : Nat) : Int)]
    rw [World.size_alloc] at h
    exact h.keep ((Below.refl _ _).alloc (Nat.le_refl _) _) (by simp)
set_option maxRecDepth 100000 in
set_option maxHeartbeats 4000000 in
theorem asking_any (e : Bool) (n : Nat) (hn : n < 4294967296) (r : Bool) (m : Int) (data : List Nat) (hd : data.length = 8) (w : World) : Calls Tryd.prog 105 #[frameV e n r m data] w fun y w' => ∃ Bd Bf Bl, y = .returned (.func (.func 128) #[] #[.pointer (some ⟨Bd, 0, none⟩), .pointer (some ⟨Bf, 0, none⟩), .pointer (some ⟨Bl, 0, none⟩)]) ∧ w.heap.size ≤ Bd ∧ AskAt w' Bd Bf Bl 0 (1 + (idBits e n r).length) ∧ Below w.heap.size w w' := by
  have hil : (idBits e n r).length ≤ 32 := by
    by_cases h : rightI e n = true
    · rw [idBits_length e n r h]; split <;> omega
    · unfold idBits; rw [if_neg h]; simp
  have HB := Lib.hid (fun u => idbits_any e n r hn u)
  obtain ⟨L, hL⟩ : ∃ L, L = (idBits e n r).length := ⟨_, rfl⟩
  have HL := Lib.hid hL
  rw [← hL] at hil ⊢
  unfold identV at HB
  have HC := Lib.hid (FrameAt.new w 27 e n r m data hd)
  obtain ⟨d0, d1, d2, d3, d4, d5, d6, d7, rfl⟩ := eight hd
  simp only [frameV, frameC, List.map] at HC ⊢
  obtain ⟨p0, p1, p2, p3, p4, p5, p6, p7, p8, p9, p10, p11⟩ := HC.out.cells
  have hw : IntKind.i64.wrap (1 + (L : Int)) = 1 + (L : Int) := by rw [IntKind.wrap_i64]; omega
  clear hL hd
  go_enter Tryd.func105, Tryd.ntmps105
  go_wp2_with fail
  refine (HB.out _).mono ?_
  rintro y w1 ⟨v, rfl, ho, hb⟩
  obtain ⟨a, cap, rfl⟩ := ho.shape
  rw [← HL.out]
  have HB1 := Lib.hid (below_trans' ((Below.refl _ w).alloc (Nat.le_refl _) _) hb)
  clear ho hb p0 p1 p2 p3 p4 p5 p6 p7 p8 p9 p10 p11
  go_wp2_with fail
  go_ret
  exact ⟨w1.heap.size + 1 + 1, w1.heap.size, w1.heap.size + 1, rfl, by have := HB1.out.size; omega, ask_new w1 L, ((HB1.out.alloc HB1.out.size _).alloc (by have := HB1.out.size; simp; omega) _).alloc (by have := HB1.out.size; simp; omega) _⟩
end Go.Proofs.YtmfnkfiocnngeaaDoor
