/- Package edf: the heap's Pop, of its own; the library's up. Conditions: each theorem says its own. -/
import Derived.Test.YtbcccffjlkphpaaEdk
namespace Go.Proofs.Ytbcccffjlkphpaa
open Go.RowKit Go.Shelf Go.Sort
set_option linter.unusedSimpArgs false
set_option linter.unusedVariables false
attribute [local go_sem] Oper.semAt_some
set_option maxRecDepth 100000 in
set_option maxHeartbeats 4000000 in
theorem ppop_any {W : World} {b1 B : Nat} {len : Int} {H C : List PJ} {vH vC : Value} (h : PW W b1 B len H C vH vC) (n : Nat) (hn : H.length = n + 1) (hbig : n < 1000000) : Calls Try.prog 116 #[.pointer (some ⟨B, 0, none⟩)] W fun e w' => e = .returned (.iface 64 H[n]!.v) ∧ ∃ vH', PW w' b1 B len (H.take n) C vH' vC ∧ Ch b1 B W w' := by
  obtain ⟨g, cap, l, e, hg, hl, h1, h2, h3, h4⟩ := h.at (by omega)
  obtain ⟨x, hx⟩ : ∃ x, x = H[n]! := ⟨_, rfl⟩
  have hcx := row_cells hl h4 rfl n (by omega)
  rw [← bang (by omega), ← hx] at hcx
  rw [← hx]
  have b0 := h.blk.cellAt (i := 0) (by simp)
  have f0 := h.blk.frozenAt 0
  simp only [List.getElem_cons_zero] at b0
  rw [e, hn] at b0
  have p0 : W.cell? ⟨g, n * 5, none⟩ = some (.int .i64 x.j.s) := hcx 0 _ rfl
  have p1 : W.cell? ⟨g, n * 5 + 1, none⟩ = some (.int .i64 x.j.r) := hcx 1 _ rfl
  have p2 : W.cell? ⟨g, n * 5 + 2, none⟩ = some (.int .i64 x.j.d) := hcx 2 _ rfl
  have p3 : W.cell? ⟨g, n * 5 + 3, none⟩ = some (.int .i64 x.j.c) := hcx 3 _ rfl
  have p4 : W.cell? ⟨g, n * 5 + 4, none⟩ = some (.int .i64 (x.k : Int)) := hcx 4 _ rfl
  obtain ⟨w1, hw1⟩ : ∃ u, u = W.setCell ⟨B, 0, none⟩ (.slice (some ⟨g, 0, none⟩) n cap) := ⟨_, rfl⟩
  have hc1 : Ch b1 B W w1 := by rw [hw1]; exact Ch.setB b1 B W 0 _
  have hP : PW w1 b1 B len (H.take n) C (.slice (some ⟨g, 0, none⟩) n cap) vC := by
    rw [hw1]
    refine ⟨h.blk.put1 (i := 0) (by simp) _, h.lt, Nat.le_trans h.sz (by simp), ⟨by rw [flatP_len], .inr ⟨g, cap, l.toArray, by simp; omega, hg, hl.puts (show B ≠ g by have := h.lt; omega) 0 _, by simp; omega, h2, by simpa using h3, ?_⟩⟩, h.co.keep (Ch.setB b1 B W 0 _) (fun _ hl' => absurd rfl (blk_ne h.blk hl' (by decide)))⟩
    have : (H.take n).length = n := by simp; omega
    rw [this]
    have e2 : H.flatMap PJ.C = (H.take n).flatMap PJ.C ++ (H.drop n).flatMap PJ.C := by rw [← List.flatMap_append, List.take_append_drop]
    have e3 : l.take (n * 5) = (l.take (H.length * 5)).take (n * 5) := by rw [List.take_take, Nat.min_eq_left (by omega)]
    show l.toArray.toList.take (n * 5) = _
    simp only
    rw [e3, h4, e2, List.take_append_of_le_length (by rw [flatP_len, this]; omega), List.take_of_length_le (by rw [flatP_len, this]; omega)]
  have hal : Below w1.heap.size w1 (w1.alloc (.cells #[.int .i64 x.j.s, .int .i64 x.j.r, .int .i64 x.j.d, .int .i64 x.j.c, .int .i64 (x.k : Int)] 64)) := (Below.refl _ w1).alloc (Nat.le_refl _) _
  have HFIN := Lib.hid (hP.on hal)
  have HCH := Lib.hid (hc1.trans (Ch.of_below hal))
  have hBX := h.blk.lt
  have hn2 : (n : Int) < ((n + 1 : Nat) : Int) := by omega
  have hn3 : (0 : Int) ≤ (n : Int) := by omega
  have hn4 : (n : Int) ≤ (cap : Int) := by omega
  clear h hl h4 hcx hx hP hc1 hal e h1 h2 h3 hn
  unfold PJ.v
  go_enter Try.func116, Try.ntmps116
  go_wp2_with fail
  rw [← hw1]
  go_ret
  exact ⟨rfl, _, HFIN.out, HCH.out⟩
theorem meth_less (n B : Nat) (w : World) : Sem.run Try.prog (method (n + 1) 60 (.pointer (some ⟨B, 0, none⟩)) "Less") w = .ok (115, .pointer (some ⟨B, 0, none⟩)) w := by kernel_rfl
theorem meth_swap (n B : Nat) (w : World) : Sem.run Try.prog (method (n + 1) 60 (.pointer (some ⟨B, 0, none⟩)) "Swap") w = .ok (118, .pointer (some ⟨B, 0, none⟩)) w := by kernel_rfl
theorem meth_len (n B : Nat) (w : World) : Sem.run Try.prog (method (n + 1) 60 (.pointer (some ⟨B, 0, none⟩)) "Len") w = .ok (43, .pointer (some ⟨B, 0, none⟩)) w := by kernel_rfl
theorem meth_push (n B : Nat) (w : World) : Sem.run Try.prog (method (n + 1) 60 (.pointer (some ⟨B, 0, none⟩)) "Push") w = .ok (117, .pointer (some ⟨B, 0, none⟩)) w := by kernel_rfl
theorem meth_pop (n B : Nat) (w : World) : Sem.run Try.prog (method (n + 1) 60 (.pointer (some ⟨B, 0, none⟩)) "Pop") w = .ok (116, .pointer (some ⟨B, 0, none⟩)) w := by kernel_rfl
set_option maxRecDepth 100000 in
set_option maxHeartbeats 4000000 in
/-- The library's up: where all is a heap but for one place, it is one behind it; the same ones are in it. -/
theorem up_any {W : World} {b1 B : Nat} {len : Int} {H C : List PJ} {vH vC : Value} (h : PW W b1 B len H C vH vC) (j : Nat) (hj : j < H.length) (hbig : H.length < 1000000) (hU : UpI len H j) : Calls Try.prog 58 #[.iface 60 (.pointer (some ⟨B, 0, none⟩)), .int .i64 (j : Int)] W fun e w' => e = .returned (.tuple #[]) ∧ ∃ H', H'.Perm H ∧ HP len H' H'.length ∧ PW w' b1 B len H' C vH vC ∧ Ch b1 B W w' := by
  have HW := Lib.hid h; have HU := Lib.hid hU
  have j0 : (0 : Int) ≤ (j : Int) := by omega
  clear h hU
  go_enter Try.func58, Try.ntmps58
  go_wp2_with fail
  go_loopw [1] (fun s1 wr => ∃ (q : Nat) (G : List PJ), s1 = .int .i64 (q : Int) ∧ q < G.length ∧ G.Perm H ∧ UpI len G q ∧ PW wr b1 B len G C vH vC ∧ Ch b1 B W wr) (fun s1 _ => (intOf s1).toNat)
  case atStart => exact ⟨j, H, rfl, hj, List.Perm.refl _, HU.out, by first | exact HW.out | exact HW.out.on (Below.refl _ _).drew, by first | exact Ch.refl _ _ _ | exact Ch.of_below (Below.refl _ _).drew⟩
  case round =>
    obtain ⟨q, G, rfl, hq, hp, hU, hP, hC⟩ := hrel
    have HPE := Lib.hid hp; have HUP := Lib.hid hU; have HPW := Lib.hid hP; have HCH := Lib.hid hC; have HQ := Lib.hid hq
    have hql : q < 1000000 := by have := hp.length_eq; omega
    clear hp hU hP hC
    have hm1 := fun n => meth_less n B wr
    by_cases h0 : q = 0
    · subst h0
      have HFIN := Lib.hid (show HP len G G.length from HUP.out.done (fun h => absurd h (by omega)))
      go_wp2_with fail
      go_end0
      exact ⟨rfl, G, HPE.out, HFIN.out, HPW.out, HCH.out⟩
    · obtain ⟨p, hp⟩ : ∃ p, p = (q - 1) / 2 := ⟨_, rfl⟩
      have HP' := Lib.hid hp
      have HE1 := Lib.hid (show ((q : Int) - 1) / 2 = (p : Int) by omega)
      have hpq : ((p : Int) == (q : Int)) = false := beq_eq_false_iff_ne.2 (by omega)
      have hpG : p < G.length := by omega
      have HL := Lib.hid (pless_any HPW.out q p hq hpG)
      clear hp
      go_upto_region 1 with fail
      rw [HE1.out]
      by_cases hk : klt len G[q]! G[p]!
      · rw [decide_eq_true hk] at HL
        have HK := Lib.hid hk
        clear hk
        go_wp2_with fail
        refine HL.out.mono ?_
        rintro y w2 ⟨rfl, hb⟩
        have HPW2 := Lib.hid (HPW.out.on hb); have HCH2 := Lib.hid (HCH.out.trans (Ch.of_below hb))
        have hm2 := fun n => meth_swap n B w2
        have HS := Lib.hid (pswap_any HPW2.out p q hpG hq)
        clear hb
        go_wp2_with fail
        refine HS.out.mono ?_
        rintro y w3 ⟨rfl, hP3, hC3⟩
        have HPW3 := Lib.hid hP3; have HCH3 := Lib.hid (HCH2.out.trans hC3)
        clear hP3 hC3
        have HUS := Lib.hid (show UpI len (swp G p q) p by rw [HP'.out]; exact HUP.out.step (by omega) HQ.out (by rw [← HP'.out]; exact HK.out))
        have HPS := Lib.hid ((swp_perm hpG hq).trans HPE.out)
        go_wp2_with fail
        go_roundw
        case rel => exact ⟨p, swp G p q, rfl, by rw [swp_len]; exact hpG, HPS.out, HUS.out, HPW3.out, HCH3.out⟩
        case measure =>
          have hms : p < q := by have := HP'.out; omega
          exact hms
      · rw [decide_eq_false hk] at HL
        have HFIN := Lib.hid (show HP len G G.length from HUP.out.done (fun _ _ => by rw [← HP'.out]; exact hk))
        clear hk
        go_wp2_with fail
        refine HL.out.mono ?_
        rintro y w2 ⟨rfl, hb⟩
        have HPW2 := Lib.hid (HPW.out.on hb); have HCH2 := Lib.hid (HCH.out.trans (Ch.of_below hb))
        clear hb
        go_wp2_with fail
        go_end0
        exact ⟨rfl, G, HPE.out, HFIN.out, HPW2.out, HCH2.out⟩
end Go.Proofs.Ytbcccffjlkphpaa
