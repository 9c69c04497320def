/- ClassOrders (P23.2): which of two labels is sent ahead, which of several, and with another slot. Conditions: none but the widths, which the card ties. -/
import Derived.Test.YtmealljdecancaaDoorRows
import Derived.Test.YtmealljdecancaaDoorCle
import Derived.Test.YtmealljdecancaaDoorClt
import Derived.WalkKit
import Derived.ProofKit
import Derived.OpenShut
import Derived.ShutString
import Derived.ChangeOld
import Derived.Below
namespace Go.Proofs.YtmealljdecancaaDoor.classOrders
open Go.ChangeShapes Go.WideShapes Go.ChangeAt Go.RowKit
theorem own : ownKnob Tryd.prog.godebug = none := by kernel_rfl
theorem laidOut : laidOutB Tryd.prog = true := by kernel_rfl
theorem rd_on {w x : World} {k : Nat} {v : Value} {L : List Value} (h : Rd w k v L) (hb : Below w.heap.size w x) : Rd x k v L := by
  obtain ⟨n, cap, a, e, h1, h2, h3, h4⟩ := h
  refine ⟨n, cap, a, e, h1, h2, h3, ?_⟩
  rcases h4 with h4 | ⟨g, off, e2, hg, hc⟩
  · exact .inl h4
  · exact .inr ⟨g, off, e2, Nat.lt_of_lt_of_le hg hb.size, fun j u hj => (hb.cell (p := ⟨g, off + j, none⟩) hg).trans (hc j u hj)⟩
theorem rd_take {w : World} {a : Option Addr} {len cap m : Nat} {L : List Lb} (hL : L.length = len) (hm : m < len) (h : Rd w 4 (.slice a len cap) (L.flatMap Lb.C)) : Rd w 4 (.slice a m cap) ((L.take m).flatMap Lb.C) := by
  obtain ⟨n, cap', a', e, h1, h2, h3, h4⟩ := h
  injection e with e1 e2 e3
  subst e1 e2 e3
  refine ⟨m, cap, a, rfl, by rw [flat_len 4 Lb.C Lb.C_len, List.length_take]; omega, by omega, h3, ?_⟩
  rcases h4 with h4 | ⟨g, off, e2, hg, hc⟩
  · omega
  · refine .inr ⟨g, off, e2, hg, fun j u hj => hc j u ?_⟩
    rw [← List.take_append_drop m L, List.flatMap_append, List.getElem?_append_left (List.getElem?_eq_some_iff.1 hj).1]
    exact hj
theorem rd_cells {w : World} {g off cap n : Nat} {M : List Lb} (hM : M.length = n) (h : Rd w 4 (.slice (some ⟨g, off, none⟩) n cap) (M.flatMap Lb.C)) (j : Nat) (hj : j < n) (x : World) (hx : Below w.heap.size w x) : x.cell? ⟨g, off + j * 4, none⟩ = some (.int .i64 ((M[j]?).getD lb0).c) ∧ x.cell? ⟨g, off + j * 4 + 1, none⟩ = some (.int .i64 ((M[j]?).getD lb0).s) ∧ x.cell? ⟨g, off + j * 4 + 2, none⟩ = some (.int .i64 ((M[j]?).getD lb0).t) ∧ x.cell? ⟨g, off + j * 4 + 3, none⟩ = some (.int .i64 ((M[j]?).getD lb0).n) := by
  obtain ⟨g', off', e', hg, hc'⟩ := rd_at Lb.C 4 Lb.C_len h (j := j) (by rw [hM]; exact hj) (by decide)
  have e2 := Option.some.inj e'
  injection e2 with e3 e4 _
  subst e3 e4
  rw [List.getElem?_eq_getElem (by rw [hM]; exact hj)]
  exact ⟨(hx.cell (p := ⟨g, off + j * 4, none⟩) hg).trans (hc' 0 _ rfl), (hx.cell (p := ⟨g, off + j * 4 + 1, none⟩) hg).trans (hc' 1 _ rfl), (hx.cell (p := ⟨g, off + j * 4 + 2, none⟩) hg).trans (hc' 2 _ rfl), (hx.cell (p := ⟨g, off + j * 4 + 3, none⟩) hg).trans (hc' 3 _ rfl)⟩
theorem rd_addr {w : World} {a : Option Addr} {cap n : Nat} {M : List Lb} (hM : M.length = n) (hn : 0 < n) (h : Rd w 4 (.slice a n cap) (M.flatMap Lb.C)) : ∃ g off, a = some ⟨g, off, none⟩ := by
  obtain ⟨g, off, e, _, _⟩ := rd_at Lb.C 4 Lb.C_len h (j := 0) (by rw [hM]; exact hn) (by decide)
  exact ⟨g, off, e⟩
set_option maxRecDepth 100000 in
set_option maxHeartbeats 8000000 in
theorem walk (a : Option Addr) (len cap : Nat) (L : List Lb) (slot : Int) (w : World) (hw : L.length = len ∧ (∀ s ∈ L, s.wf) ∧ Rd w 4 (.slice a len cap) (L.flatMap Lb.C)) (_ : (Lit.int .i64 slot).wf = true) (h0 : 0 < w.heap.size) (hT : TabW w) : Calls Tryd.prog 4 #[.slice a len cap, .int .i64 slot] w fun y w' => y = .returned (.bool true) ∧ Below w.heap.size w w' := by
  have HTX := Lib.hid (show ∀ x, Below w.heap.size w x → 0 < x.heap.size ∧ TabW x from fun x hx => ⟨Nat.lt_of_lt_of_le h0 hx.size, hT.on hx h0⟩)
  have HTZ := Lib.hid hT; have H00 := Lib.hid h0
  clear hT h0
  have HL := Lib.hid (fun u a b => live23 u a b)
  obtain ⟨hlen, _, hR⟩ := hw
  have hcap : len ≤ cap ∧ cap ≤ maxLen := by
    obtain ⟨n, cap', a', e, h1, h2, h3, h4⟩ := hR
    injection e with e1 e2 e3
    omega
  by_cases hbig : 20 < len
  · obtain ⟨M, hMM⟩ : ∃ M, M = L.take 20 := ⟨_, rfl⟩
    have hR' : Rd w 4 (.slice a 20 cap) (M.flatMap Lb.C) := by rw [hMM]; exact rd_take hlen hbig hR
    have hM : M.length = 20 := by rw [hMM, List.length_take]; omega
    obtain ⟨g, off, rfl⟩ := rd_addr hM (by decide) hR'
    have b1 : (20 : Int) < (len : Int) := by omega
    have b2 : 20 ≤ cap := by omega
    have b3 : (20 : Int) ≤ (cap : Int) := by omega
    clear hMM hR hlen
    go_enter Tryd.func4, Tryd.ntmps4
    go_wp2_with fail
    have HRd := Lib.hid hR'; have HM := Lib.hid hM
    obtain ⟨X, hX⟩ : ∃ X, X = leastUp M M.length := ⟨_, rfl⟩
    obtain ⟨Y, hY⟩ : ∃ Y, Y = decide (0 < M.length) := ⟨_, rfl⟩
    have HV := Lib.hid (show leastV M = .tuple #[.int .i64 (X : Int), .bool Y] by unfold leastV; rw [hX, hY])
    clear hR' hM hX hY
    refine (clleast_any (some ⟨g, off, none⟩) cap M 20 HM.out w (by omega) HRd.out).mono ?_
    rintro y w1 ⟨hy, hb⟩
    rw [HV.out] at hy
    subst hy
    have HB1 := Lib.hid hb
    clear hb
    go_wp2_with fail
    refine (r23least_any (some ⟨g, off, none⟩) cap M 20 HM.out w1 (by omega) (rd_on HRd.out HB1.out)).mono ?_
    rintro y w2 ⟨hy, hb⟩
    rw [HV.out] at hy
    subst hy
    have HB2 := Lib.hid (below_transG HB1.out hb)
    clear hb HV
    have eX : ((X : Int) == (X : Int)) = true := by simp
    have eY : (Y == Y) = true := by simp
    go_wp2_with fail
    go_loopw [9] (fun s9 wr => ∃ k : Nat, s9 = .int .i64 (k : Int) ∧ 1 ≤ k ∧ (k ≤ 20 ∨ k = 1) ∧ Below w.heap.size w wr) (fun s9 _ => 20 - (intOf s9).toNat)
    case atStart => exact ⟨1, rfl, Nat.le_refl _, .inr rfl, HB2.out⟩
    case round =>
      obtain ⟨k, rfl, hk1, hk2, hb⟩ := hrel
      have HB := Lib.hid hb
      clear hb
      obtain ⟨i, hi⟩ : ∃ i, k = i + 1 := ⟨k - 1, by omega⟩
      by_cases hlt : k < 20
      · skip
        have i1 : (k : Int) < (20 : Int) := by omega
        have i2 : (0 : Int) ≤ (k : Int) := by omega
        have i3 : (0 : Int) ≤ (i : Int) := by omega
        have i4 : (i : Int) < (20 : Int) := by omega
        have i5 : IntKind.i64.wrap ((k : Int) - 1) = (i : Int) := by rw [IntKind.wrap_i64]; omega
        have i6 : wrap64 ((k : Int) - 1) = (i : Int) := by rw [show (k : Int) - 1 = (i : Int) by omega]; exact w64_in _ (by omega)
        have i7 : (k : Int) - 1 = (i : Int) := by omega
        have i8 : IntKind.i64.wrap (i : Int) = (i : Int) := by rw [IntKind.wrap_i64]; omega
        obtain ⟨P, hP⟩ : ∃ x, x = ((M[i]?).getD lb0) := ⟨_, rfl⟩
        obtain ⟨Q, hQ⟩ : ∃ x, x = ((M[k]?).getD lb0) := ⟨_, rfl⟩
        have HZ := Lib.hid (show ∀ u, Below wr.heap.size wr u → Below wr.heap.size wr u ∧ (u.cell? ⟨g, off + i * 4, none⟩ = some (.int .i64 P.c) ∧ u.cell? ⟨g, off + i * 4 + 1, none⟩ = some (.int .i64 P.s) ∧ u.cell? ⟨g, off + i * 4 + 2, none⟩ = some (.int .i64 P.t) ∧ u.cell? ⟨g, off + i * 4 + 3, none⟩ = some (.int .i64 P.n)) ∧ (u.cell? ⟨g, off + k * 4, none⟩ = some (.int .i64 Q.c) ∧ u.cell? ⟨g, off + k * 4 + 1, none⟩ = some (.int .i64 Q.s) ∧ u.cell? ⟨g, off + k * 4 + 2, none⟩ = some (.int .i64 Q.t) ∧ u.cell? ⟨g, off + k * 4 + 3, none⟩ = some (.int .i64 Q.n)) from fun u hu => ⟨hu, by rw [hP]; exact rd_cells HM.out HRd.out i (by omega) u (below_transG HB.out hu), by rw [hQ]; exact rd_cells HM.out HRd.out k hlt u (below_transG HB.out hu)⟩)
        have H1 := Lib.hid (fun u => clbefore_any P.c P.s P.t P.n Q.c Q.s Q.t Q.n u); have H2 := Lib.hid (fun u => r23before_any P.c P.s P.t P.n Q.c Q.s Q.t Q.n u)
        have H3 := Lib.hid (fun u => clslotted_any Q.c Q.s Q.t Q.n slot u); have H4 := Lib.hid (fun u => r23slotted_any Q.c Q.s Q.t Q.n slot u)
        obtain ⟨d, hd⟩ : ∃ d, d = befL P.c P.s P.t P.n Q.c Q.s Q.t Q.n := ⟨_, rfl⟩
        obtain ⟨z, hz⟩ : ∃ d, d = slotL Q.c Q.s slot := ⟨_, rfl⟩
        rw [← hd] at H1 H2
        rw [← hz] at H3 H4
        have HK := Lib.hid (And.intro hi (And.intro hk1 hlt))
        clear hd hz hP hQ hi hk1 hk2 hlt
        have e1 : (d == d) = true := by simp
        have e2 : (z == z) = true := by simp
        have e3 : (Q.c == Q.c) = true := by simp
        have e4 : (Q.t == Q.t) = true := by simp
        have e5 : (Q.n == Q.n) = true := by simp
        go_upto_region 8 with fail
        refine wp_region_class (C := fun u => Below wr.heap.size wr u ∧ (u.cell? ⟨g, off + i * 4, none⟩ = some (.int .i64 P.c) ∧ u.cell? ⟨g, off + i * 4 + 1, none⟩ = some (.int .i64 P.s) ∧ u.cell? ⟨g, off + i * 4 + 2, none⟩ = some (.int .i64 P.t) ∧ u.cell? ⟨g, off + i * 4 + 3, none⟩ = some (.int .i64 P.n)) ∧ (u.cell? ⟨g, off + k * 4, none⟩ = some (.int .i64 Q.c) ∧ u.cell? ⟨g, off + k * 4 + 1, none⟩ = some (.int .i64 Q.s) ∧ u.cell? ⟨g, off + k * 4 + 2, none⟩ = some (.int .i64 Q.t) ∧ u.cell? ⟨g, off + k * 4 + 3, none⟩ = some (.int .i64 Q.n))) (by kernel_rfl) (by kernel_rfl) (HZ.out _ (Below.refl _ _).drew) ?_
        repeat
          with_reducible refine wpQuiet_step (fun K hK => ?_)
          first
            | (refine quiet_skip (by rfl) ?_; (with_reducible refine hK _ ?_); clear hK K)
            | (refine quiet_want (by rfl) ?_
               apply Exists.intro
               refine ⟨fun x hx => ?_, hK _ ?_⟩
               (obtain ⟨hx1, ⟨a0, a1, a2, a3⟩, b0, b1, b2, b3⟩ := id hx; go_simp; first | done | rfl | (first | (go_at_call 18; with_reducible exact Calls.mono (H1.out _) (fun y w' hh => ⟨hh.1, HZ.out _ (below_transG hx.1 hh.2)⟩)) | (go_at_call 19; with_reducible exact Calls.mono (H2.out _) (fun y w' hh => ⟨hh.1, HZ.out _ (below_transG hx.1 hh.2)⟩)) | (go_at_call 20; with_reducible exact Calls.mono (H3.out _) (fun y w' hh => ⟨hh.1, HZ.out _ (below_transG hx.1 hh.2)⟩)) | (go_at_call 21; with_reducible exact Calls.mono (H4.out _) (fun y w' hh => ⟨hh.1, HZ.out _ (below_transG hx.1 hh.2)⟩))))
               clear hK K)
          try simp only [Act.put, List.setIfInBounds_toArray, List.set_cons_zero, List.set_cons_succ]
        with_reducible refine wpQuiet_nil ?_
        intro wq hq
        have HQ := Lib.hid (below_transG HB.out hq.1)
        clear hq HZ
        go_wp2_with fail
        go_roundw
        case rel => exact ⟨k + 1, by simp, by omega, .inl (by have := HK.out; omega), HQ.out⟩
        case measure => have := HK.out; simp [intOf]; omega
      · have i1 : ¬ (k : Int) < (20 : Int) := by omega
        clear hi hk1 hk2 hlt
        go_wp2_with fail
        refine (HL.out wr (HTX.out _ HB.out).1 (HTX.out _ HB.out).2).mono ?_
        rintro y w5 ⟨rfl, hb⟩
        have HB5 := Lib.hid (below_transG HB.out hb)
        clear hb
        go_wp2_with fail
        go_ret
        exact ⟨rfl, HB5.out⟩
  · obtain ⟨M, hMM⟩ : ∃ M, M = L := ⟨_, rfl⟩
    rw [← hMM] at hlen hR
    have hR' := hR
    have hM := hlen
    clear hR hlen hMM
    have b1 : ¬ (20 : Int) < (len : Int) := by omega
    have b2 : len ≤ 20 := by omega
    clear hbig
    go_enter Tryd.func4, Tryd.ntmps4
    go_wp2_with fail
    have HRd := Lib.hid hR'; have HM := Lib.hid hM
    obtain ⟨X, hX⟩ : ∃ X, X = leastUp M M.length := ⟨_, rfl⟩
    obtain ⟨Y, hY⟩ : ∃ Y, Y = decide (0 < M.length) := ⟨_, rfl⟩
    have HV := Lib.hid (show leastV M = .tuple #[.int .i64 (X : Int), .bool Y] by unfold leastV; rw [hX, hY])
    clear hR' hM hX hY
    refine (clleast_any a cap M len HM.out w (by omega) HRd.out).mono ?_
    rintro y w1 ⟨hy, hb⟩
    rw [HV.out] at hy
    subst hy
    have HB1 := Lib.hid hb
    clear hb
    go_wp2_with fail
    refine (r23least_any a cap M len HM.out w1 (by omega) (rd_on HRd.out HB1.out)).mono ?_
    rintro y w2 ⟨hy, hb⟩
    rw [HV.out] at hy
    subst hy
    have HB2 := Lib.hid (below_transG HB1.out hb)
    clear hb HV
    have eX : ((X : Int) == (X : Int)) = true := by simp
    have eY : (Y == Y) = true := by simp
    go_wp2_with fail
    go_loopw [9] (fun s9 wr => ∃ k : Nat, s9 = .int .i64 (k : Int) ∧ 1 ≤ k ∧ (k ≤ len ∨ k = 1) ∧ Below w.heap.size w wr) (fun s9 _ => len - (intOf s9).toNat)
    case atStart => exact ⟨1, rfl, Nat.le_refl _, .inr rfl, HB2.out⟩
    case round =>
      obtain ⟨k, rfl, hk1, hk2, hb⟩ := hrel
      have HB := Lib.hid hb
      clear hb
      obtain ⟨i, hi⟩ : ∃ i, k = i + 1 := ⟨k - 1, by omega⟩
      by_cases hlt : k < len
      · obtain ⟨g, off, rfl⟩ := rd_addr HM.out (by omega) HRd.out
        have i1 : (k : Int) < (len : Int) := by omega
        have i2 : (0 : Int) ≤ (k : Int) := by omega
        have i3 : (0 : Int) ≤ (i : Int) := by omega
        have i4 : (i : Int) < (len : Int) := by omega
        have i5 : IntKind.i64.wrap ((k : Int) - 1) = (i : Int) := by rw [IntKind.wrap_i64]; omega
        have i6 : wrap64 ((k : Int) - 1) = (i : Int) := by rw [show (k : Int) - 1 = (i : Int) by omega]; exact w64_in _ (by omega)
        have i7 : (k : Int) - 1 = (i : Int) := by omega
        have i8 : IntKind.i64.wrap (i : Int) = (i : Int) := by rw [IntKind.wrap_i64]; omega
        obtain ⟨P, hP⟩ : ∃ x, x = ((M[i]?).getD lb0) := ⟨_, rfl⟩
        obtain ⟨Q, hQ⟩ : ∃ x, x = ((M[k]?).getD lb0) := ⟨_, rfl⟩
        have HZ := Lib.hid (show ∀ u, Below wr.heap.size wr u → Below wr.heap.size wr u ∧ (u.cell? ⟨g, off + i * 4, none⟩ = some (.int .i64 P.c) ∧ u.cell? ⟨g, off + i * 4 + 1, none⟩ = some (.int .i64 P.s) ∧ u.cell? ⟨g, off + i * 4 + 2, none⟩ = some (.int .i64 P.t) ∧ u.cell? ⟨g, off + i * 4 + 3, none⟩ = some (.int .i64 P.n)) ∧ (u.cell? ⟨g, off + k * 4, none⟩ = some (.int .i64 Q.c) ∧ u.cell? ⟨g, off + k * 4 + 1, none⟩ = some (.int .i64 Q.s) ∧ u.cell? ⟨g, off + k * 4 + 2, none⟩ = some (.int .i64 Q.t) ∧ u.cell? ⟨g, off + k * 4 + 3, none⟩ = some (.int .i64 Q.n)) from fun u hu => ⟨hu, by rw [hP]; exact rd_cells HM.out HRd.out i (by omega) u (below_transG HB.out hu), by rw [hQ]; exact rd_cells HM.out HRd.out k hlt u (below_transG HB.out hu)⟩)
        have H1 := Lib.hid (fun u => clbefore_any P.c P.s P.t P.n Q.c Q.s Q.t Q.n u); have H2 := Lib.hid (fun u => r23before_any P.c P.s P.t P.n Q.c Q.s Q.t Q.n u)
        have H3 := Lib.hid (fun u => clslotted_any Q.c Q.s Q.t Q.n slot u); have H4 := Lib.hid (fun u => r23slotted_any Q.c Q.s Q.t Q.n slot u)
        obtain ⟨d, hd⟩ : ∃ d, d = befL P.c P.s P.t P.n Q.c Q.s Q.t Q.n := ⟨_, rfl⟩
        obtain ⟨z, hz⟩ : ∃ d, d = slotL Q.c Q.s slot := ⟨_, rfl⟩
        rw [← hd] at H1 H2
        rw [← hz] at H3 H4
        have HK := Lib.hid (And.intro hi (And.intro hk1 hlt))
        clear hd hz hP hQ hi hk1 hk2 hlt
        have e1 : (d == d) = true := by simp
        have e2 : (z == z) = true := by simp
        have e3 : (Q.c == Q.c) = true := by simp
        have e4 : (Q.t == Q.t) = true := by simp
        have e5 : (Q.n == Q.n) = true := by simp
        go_upto_region 8 with fail
        refine wp_region_class (C := fun u => Below wr.heap.size wr u ∧ (u.cell? ⟨g, off + i * 4, none⟩ = some (.int .i64 P.c) ∧ u.cell? ⟨g, off + i * 4 + 1, none⟩ = some (.int .i64 P.s) ∧ u.cell? ⟨g, off + i * 4 + 2, none⟩ = some (.int .i64 P.t) ∧ u.cell? ⟨g, off + i * 4 + 3, none⟩ = some (.int .i64 P.n)) ∧ (u.cell? ⟨g, off + k * 4, none⟩ = some (.int .i64 Q.c) ∧ u.cell? ⟨g, off + k * 4 + 1, none⟩ = some (.int .i64 Q.s) ∧ u.cell? ⟨g, off + k * 4 + 2, none⟩ = some (.int .i64 Q.t) ∧ u.cell? ⟨g, off + k * 4 + 3, none⟩ = some (.int .i64 Q.n))) (by kernel_rfl) (by kernel_rfl) (HZ.out _ (Below.refl _ _).drew) ?_
        repeat
          with_reducible refine wpQuiet_step (fun K hK => ?_)
          first
            | (refine quiet_skip (by rfl) ?_; (with_reducible refine hK _ ?_); clear hK K)
            | (refine quiet_want (by rfl) ?_
               apply Exists.intro
               refine ⟨fun x hx => ?_, hK _ ?_⟩
               (obtain ⟨hx1, ⟨a0, a1, a2, a3⟩, b0, b1, b2, b3⟩ := id hx; go_simp; first | done | rfl | (first | (go_at_call 18; with_reducible exact Calls.mono (H1.out _) (fun y w' hh => ⟨hh.1, HZ.out _ (below_transG hx.1 hh.2)⟩)) | (go_at_call 19; with_reducible exact Calls.mono (H2.out _) (fun y w' hh => ⟨hh.1, HZ.out _ (below_transG hx.1 hh.2)⟩)) | (go_at_call 20; with_reducible exact Calls.mono (H3.out _) (fun y w' hh => ⟨hh.1, HZ.out _ (below_transG hx.1 hh.2)⟩)) | (go_at_call 21; with_reducible exact Calls.mono (H4.out _) (fun y w' hh => ⟨hh.1, HZ.out _ (below_transG hx.1 hh.2)⟩))))
               clear hK K)
          try simp only [Act.put, List.setIfInBounds_toArray, List.set_cons_zero, List.set_cons_succ]
        with_reducible refine wpQuiet_nil ?_
        intro wq hq
        have HQ := Lib.hid (below_transG HB.out hq.1)
        clear hq HZ
        go_wp2_with fail
        go_roundw
        case rel => exact ⟨k + 1, by simp, by omega, .inl (by have := HK.out; omega), HQ.out⟩
        case measure => have := HK.out; simp [intOf]; omega
      · have i1 : ¬ (k : Int) < (len : Int) := by omega
        clear hi hk1 hk2 hlt
        go_wp2_with fail
        refine (HL.out wr (HTX.out _ HB.out).1 (HTX.out _ HB.out).2).mono ?_
        rintro y w5 ⟨rfl, hb⟩
        have HB5 := Lib.hid (below_transG HB.out hb)
        clear hb
        go_wp2_with fail
        go_ret
        exact ⟨rfl, HB5.out⟩
theorem door_met (os : Os) (args : Array Value) : laidMetH Tryd.prog laidD ((World.doorLaid Tryd.prog 400 os).forCall (fun _ _ => 0) ⟨#[], args, []⟩).memory :=
  laidMetH_of_parts3 (fuel := 8) (laidMet_of_run' 8 (by kernel_rfl) (by kernel_rfl)) (by kernel_rfl) (by kernel_rfl)
set_option maxRecDepth 100000 in
theorem lifted (os : Os) (started : os.Started) (H : Type) (enc : TypeId × Value → H) :
    ReturnsInHanded {} Tryd.checked os 4 .any (fun w args => (Rows.classOrdersSpec.pre enc Tryd.prog Tryd.f4 [] false w args ∧ laidMetH Tryd.prog laidD w) ∧ sizedMet enc Tryd.prog Tryd.f4 (OpenSpec.ofChange Rows.classOrdersSpec) false w args)
      (Rows.classOrdersSpec.post enc Tryd.prog Tryd.f4 false true false false) := by
  refine returnsInHanded_of_change_and (C := Tryd.checked) (X := fun w _ => laidMetH Tryd.prog laidD w) (fun _ _ _ hh h => h.of_heap hh) own started (by kernel_rfl) Tryd.func4
    (ChangeSpec.witness_shaped (enc := enc) (C := Tryd.checked) (os := os) (X := fun w _ => laidMetH Tryd.prog laidD w) false (World.doorLaid Tryd.prog 400 os) #[.slice none 0 0, .int .i64 0] 8 rfl (World.shaped_of_RefB (by kernel_rfl) (by kernel_rfl)) (by kernel_rfl) (by kernel_rfl) (by kernel_rfl) (door_met os _)) ?_
  intro W base args ds gs before hval0 hW _ _ hL _
  have hval : ∀ (j : Nat) t v, Tryd.f4.params[j]? = some t → args[j]? = some v → Value.okWide Tryd.prog W .any base t v := hval0
  have hW' := hW
  obtain ⟨p, q, hA0, hV, rfl, hfz, hnd⟩ := hW
  have hA : DataW.TrodAll enc Tryd.prog W 0 (fun _ => true) true Tryd.f4.params.toList args.toList ds p := hA0
  rw [Tryd.params4] at hA hval
  obtain ⟨v0, vs0, d0, ds0, p0, q0, hargs, rfl, rfl, h0, r0⟩ := trodAll_cons hA
  obtain ⟨v1, vs1, d1, ds1, p1, q1, rfl, rfl, rfl, h1, r1⟩ := trodAll_cons r0
  obtain ⟨rfl, rfl, rfl⟩ := trodAll_nil r1
  obtain rfl : args = #[v0, v1] := by cases args; simp_all
  obtain ⟨rfl, rfl⟩ := trodVars_none hV
  obtain ⟨a0, len0, cap0, rfl⟩ := okWide_slice Tryd.underlying36 (hval 0 36 v0 rfl rfl)
  have k0 := h0
  have lt0 : ∀ x ∈ p0, x.block < W.heap.size := by obtain ⟨m, hm⟩ := k0; exact DataW.trod_lt m _ _ _ hm
  obtain ⟨L0, wl0, ww0, wr0⟩ : ∃ L : List Lb, L.length = len0 ∧ (∀ s ∈ L, Lb.wf s) ∧ Rd W 4 (.slice a0 len0 cap0) (L.flatMap Lb.C) := by
    obtain ⟨fuel, hf⟩ := h0
    exact open_rows Lb.C Lb.wf 4 (by decide) Tryd.underlying36 (by kernel_rfl) (fun _ => rfl) (fun _ _ _ => labelG) (by simpa [Value.cells] using hf)
  obtain ⟨a1, rfl, rfl, rfl, w1⟩ := open_int Tryd.underlying3 (hval 1 3 v1 rfl rfl) h1
  clear hA0 hval0
  obtain ⟨hTab, hsz0⟩ := tab_of_wid hL
  refine (walk a0 len0 cap0 L0 a1 W ⟨wl0, ww0, wr0⟩ w1 hsz0 hTab).mono fun e W' ⟨he, bel⟩ => ?_
  subst he
  exact ⟨_, rfl, _, _, _, [], _, [], hW', trodAll_mk1 (shut_bool Tryd.underlying4 _), (trodAll_cons_mk (Below.trod laidOut (by kernel_rfl) (of_decide_eq_true (by kernel_rfl)) k0 bel lt0) (trodAll_cons_mk (shut_int Tryd.underlying3 w1) trodAll_mk0)), rfl, bel.frame _, fun h => by cases h⟩
theorem over : Rows.classOrdersRow.holds Tryd.pinned (OpenSpec.ofChange Rows.classOrdersSpec) :=
  OpenClaim.holds_of_wide 4 Tryd.f4 rfl rfl rfl rfl rfl rfl rfl ⟨rfl, rfl, rfl, rfl, rfl⟩ rfl rfl rfl rfl rfl (by kernel_rfl) Tryd.func4 (by kernel_rfl)
    (of_decide_eq_true (by kernel_rfl)) (by unfold Func.isWrapper; first | (rw [if_pos (by decide +kernel)]; kernel_rfl) | (rw [if_neg (by decide +kernel)]; exact ⟨rfl, rfl⟩))
    (fun os started H enc _ => lifted os started H enc)
/-- The statement: the row, and what it lists tied to the program's text. -/
theorem proved : Rows.ClassOrdersCardSaid :=
  Claim7.holds_tied_plain_at .later [] [.data] true _ false
    over (fun _ h => by cases h) (by kernel_rfl) (fun _ h => by cases h) classOrders_row_tie rfl ⟨rfl, rfl⟩ (by kernel_rfl) rfl
    (fun f fn hf hfn => by
      obtain rfl : f = 4 := Option.some.inj ((show Tryd.prog.funcNamed "bellbuoy/bellbuoylaw23.ClassOrders" = some 4 by kernel_rfl).symm.trans hf) |>.symm
      obtain rfl : fn = Tryd.f4 := (Option.some.inj (Tryd.func4.symm.trans hfn)).symm
      exact ⟨by kernel_rfl, fun j t ht => by
        rw [Tryd.params4] at ht
        have hm : t ∈ [36, 3] := by simpa using Array.mem_of_getElem? ht
        have hall : ([36, 3].all fun u => !Tryd.prog.wantsStandIn u) = true := by kernel_rfl
        exact (show Tryd.prog.wantsStandIn t = false by simpa using List.all_eq_true.1 hall t hm)⟩)
    (by kernel_rfl)
end Go.Proofs.YtmealljdecancaaDoor.classOrders
