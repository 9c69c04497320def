/- Package class, and the document's own answers of layer 23: of several labels the one that is sent first. Conditions: none but that the arguments are of their kinds. -/
import Derived.Test.YtmealljdecancaaDoorCla
import Derived.Test.YtmealljdecancaaDoorOpl
import Derived.Test.YtmealljdecancaaDoorQui
namespace Go.Proofs.YtmealljdecancaaDoor
open Go.RowKit
def Lb.bef (a b : Lb) : Bool := befL a.c a.s a.t a.n b.c b.s b.t b.n
def lb0 : Lb := ⟨0, 0, 0, 0⟩
/-- The place of the first of the first so many that no other one of them is ahead of. -/
def leastUp (L : List Lb) : Nat → Nat
  | 0 => 0
  | i + 1 => if ((L[i]?).getD lb0).bef ((L[leastUp L i]?).getD lb0) = true then i else leastUp L i
theorem leastUp_le (L : List Lb) : ∀ i, leastUp L i ≤ i
  | 0 => Nat.le_refl _
  | i + 1 => by
    have := leastUp_le L i
    unfold leastUp
    split
    · omega
    · omega
theorem leastUp_lt (L : List Lb) : ∀ i, 0 < i → leastUp L i < i
  | 0, h => by omega
  | i + 1, _ => by
    have := leastUp_le L i
    unfold leastUp
    split
    · omega
    · omega
theorem bef_irrefl (a : Lb) : a.bef a = false := by unfold Lb.bef; exact befL_4
theorem leastUp_one (L : List Lb) : leastUp L 1 = 0 := by
  show (if _ = true then 0 else 0) = 0
  split
  · rfl
  · rfl
/-- What Least tells. -/
def leastV (L : List Lb) : Value := .tuple #[.int .i64 ((leastUp L L.length : Nat) : Int), .bool (decide (0 < L.length))]
set_option maxRecDepth 100000 in
set_option maxHeartbeats 4000000 in
theorem clleast_any (a : Option Addr) (cap : Nat) (L : List Lb) (len : Nat) (hlen : L.length = len) (w : World) (hl : len ≤ 4611686018427387904) (hR : Rd w 4 (.slice a len cap) (L.flatMap Lb.C)) : Calls Tryd.prog 16 #[.slice a len cap] w fun y w' => y = .returned (leastV L) ∧ Below w.heap.size w w' := by
  have HA := Lib.hid (fun (a b : Lb) u => clbefore_any a.c a.s a.t a.n b.c b.s b.t b.n u)
  have HRd := Lib.hid hR
  unfold leastV
  rw [hlen]
  obtain ⟨V, hV⟩ : ∃ V, V = leastUp L len := ⟨_, rfl⟩
  rw [← hV]
  have HV := Lib.hid hV; have HL := Lib.hid hlen
  clear hV hR hlen
  have cs : len = 0 ∨ 0 < len := by omega
  rcases cs with rfl | h0
  · have e1 : (V : Int) = 0 := by rw [HV.out]; rfl
    rw [e1, show decide (0 < 0) = false from rfl]
    clear e1
    go_enter Tryd.func16, Tryd.ntmps16
    go_wp2_with fail
    refine wp_loop_rounds 1 ?_
    rw [rounds_succ]
    go_wp2_with fail
    exact bodyPost_ret (v := .tuple #[.int .i64 0, .bool false]) (by simp [results, Tryd.results16]) rfl ⟨rfl, Below.refl _ _⟩
  obtain ⟨g, off, rfl, HC⟩ : ∃ g off, a = some ⟨g, off, none⟩ ∧ Hid (∀ j, j < len → ∀ x, Below w.heap.size w x → x.cell? ⟨g, off + j * 4, none⟩ = some (.int .i64 ((L[j]?).getD lb0).c) ∧ x.cell? ⟨g, off + j * 4 + 1, none⟩ = some (.int .i64 ((L[j]?).getD lb0).s) ∧ x.cell? ⟨g, off + j * 4 + 2, none⟩ = some (.int .i64 ((L[j]?).getD lb0).t) ∧ x.cell? ⟨g, off + j * 4 + 3, none⟩ = some (.int .i64 ((L[j]?).getD lb0).n)) := by
    obtain ⟨g, off, e, hg, hc⟩ := rd_at Lb.C 4 Lb.C_len HRd.out (j := 0) (by rw [HL.out]; exact h0) (by decide)
    subst e
    refine ⟨g, off, rfl, Lib.hid (fun j hj x hx => ?_)⟩
    obtain ⟨g', off', e', _, hc'⟩ := rd_at Lb.C 4 Lb.C_len HRd.out (j := j) (by rw [HL.out]; exact hj) (by decide)
    have e2 := Option.some.inj e'
    injection e2 with e3 e4 _
    subst e3 e4
    rw [List.getElem?_eq_getElem (by rw [HL.out]; exact hj)]
    exact ⟨(hx.cell (p := ⟨g, off + j * 4, none⟩) hg).trans (hc' 0 _ rfl), (hx.cell (p := ⟨g, off + j * 4 + 1, none⟩) hg).trans (hc' 1 _ rfl), (hx.cell (p := ⟨g, off + j * 4 + 2, none⟩) hg).trans (hc' 2 _ rfl), (hx.cell (p := ⟨g, off + j * 4 + 3, none⟩) hg).trans (hc' 3 _ rfl)⟩
  rw [show decide (0 < len) = true from decide_eq_true h0]
  clear HRd
  have d0 : ¬ len = 0 := by omega
  have d1 : ¬ (len : Int) = 0 := by omega
  have d2 : (0 : Int) < (len : Int) := by omega
  go_enter Tryd.func16, Tryd.ntmps16
  go_wp2_with fail
  go_loopw [4, 8] (fun s4 s8 wr => ∃ i m : Nat, s8 = .int .i64 (i : Int) ∧ s4 = .int .i64 (m : Int) ∧ 0 ≤ i ∧ i ≤ len ∧ m = leastUp L i ∧ Below w.heap.size w wr) (fun _ s8 _ => len - (intOf s8).toNat)
  case atStart => exact ⟨0, 0, rfl, rfl, Nat.le_refl _, by omega, rfl, Below.refl _ _⟩
  case round =>
    obtain ⟨i, m, rfl, rfl, hi0, hi, hm, hb⟩ := hrel
    have HM := Lib.hid hm; have HB := Lib.hid hb
    clear hm hb
    by_cases hlt : i < len
    · have i1 : (i : Int) < (len : Int) := by omega
      have i2 : (0 : Int) ≤ (i : Int) := by omega
      have m1 : m < len := by rw [HM.out]; have := leastUp_le L i; omega
      have m2 : (m : Int) < (len : Int) := by omega
      have m3 : (0 : Int) ≤ (m : Int) := by omega
      obtain ⟨X1, hx⟩ : ∃ x, x = ((L[i]?).getD lb0) := ⟨_, rfl⟩
      obtain ⟨Z1, hz⟩ : ∃ z, z = ((L[m]?).getD lb0) := ⟨_, rfl⟩
      have HZ := Lib.hid (show ∀ u, Below wr.heap.size wr u → Below wr.heap.size wr u ∧ (u.cell? ⟨g, off + i * 4, none⟩ = some (.int .i64 X1.c) ∧ u.cell? ⟨g, off + i * 4 + 1, none⟩ = some (.int .i64 X1.s) ∧ u.cell? ⟨g, off + i * 4 + 2, none⟩ = some (.int .i64 X1.t) ∧ u.cell? ⟨g, off + i * 4 + 3, none⟩ = some (.int .i64 X1.n)) ∧ (u.cell? ⟨g, off + m * 4, none⟩ = some (.int .i64 Z1.c) ∧ u.cell? ⟨g, off + m * 4 + 1, none⟩ = some (.int .i64 Z1.s) ∧ u.cell? ⟨g, off + m * 4 + 2, none⟩ = some (.int .i64 Z1.t) ∧ u.cell? ⟨g, off + m * 4 + 3, none⟩ = some (.int .i64 Z1.n)) from fun u hu => ⟨hu, by rw [hx]; exact HC.out i hlt u (below_transG HB.out hu), by rw [hz]; exact HC.out m m1 u (below_transG HB.out hu)⟩)
      have hst : leastUp L (i + 1) = if X1.bef Z1 = true then i else m := by
        rw [hx, hz, HM.out]; rfl
      have HA1 := Lib.hid (fun u => HA.out X1 Z1 u)
      have HA2 := Lib.hid (show ∀ u, Calls Tryd.prog 18 #[X1.v, Z1.v] u fun y w' => y = .returned (.bool (X1.bef Z1)) ∧ Below u.heap.size u w' from HA1.out)
      unfold Lb.v at HA2
      clear hx hz HA1
      cases hbf : X1.bef Z1
      · rw [hbf] at HA2 hst
        have HS := Lib.hid (show leastUp L (i + 1) = m from hst)
        clear hst hbf
        go_upto_region 5 with fail
        refine wp_region_class (C := fun u => Below wr.heap.size wr u ∧ (u.cell? ⟨g, off + i * 4, none⟩ = some (.int .i64 X1.c) ∧ u.cell? ⟨g, off + i * 4 + 1, none⟩ = some (.int .i64 X1.s) ∧ u.cell? ⟨g, off + i * 4 + 2, none⟩ = some (.int .i64 X1.t) ∧ u.cell? ⟨g, off + i * 4 + 3, none⟩ = some (.int .i64 X1.n)) ∧ (u.cell? ⟨g, off + m * 4, none⟩ = some (.int .i64 Z1.c) ∧ u.cell? ⟨g, off + m * 4 + 1, none⟩ = some (.int .i64 Z1.s) ∧ u.cell? ⟨g, off + m * 4 + 2, none⟩ = some (.int .i64 Z1.t) ∧ u.cell? ⟨g, off + m * 4 + 3, none⟩ = some (.int .i64 Z1.n))) (by kernel_rfl) (by kernel_rfl) (HZ.out _ (Below.refl _ _).drew) ?_
        repeat
          with_reducible refine wpQuiet_step (fun K hK => ?_)
          first
            | (refine quiet_skip (by rfl) ?_; (with_reducible refine hK _ ?_); clear hK K)
            | (refine quiet_want (by rfl) ?_
               apply Exists.intro
               refine ⟨fun x hx => ?_, hK _ ?_⟩
               (obtain ⟨hx1, ⟨a0, a1, a2, a3⟩, b0, b1, b2, b3⟩ := id hx; go_simp; first | done | rfl | (go_at_call 18; exact (HA2.out _).mono fun y w' ⟨h1, h2⟩ => ⟨h1, HZ.out _ (below_transG hx.1 h2)⟩))
               clear hK K)
          try simp only [Act.put, List.setIfInBounds_toArray, List.set_cons_zero, List.set_cons_succ]
        with_reducible refine wpQuiet_nil ?_
        intro wq hq
        have HQ := Lib.hid (below_transG HB.out hq.1)
        clear hq HZ
        go_wp2_with fail
        go_roundw
        case rel => exact ⟨i + 1, m, by simp, rfl, by omega, by omega, HS.out.symm, HQ.out⟩
        case measure => simp [intOf]; omega
      · rw [hbf] at HA2 hst
        have HS := Lib.hid (show leastUp L (i + 1) = i from hst)
        clear hst hbf
        go_upto_region 5 with fail
        refine wp_region_class (C := fun u => Below wr.heap.size wr u ∧ (u.cell? ⟨g, off + i * 4, none⟩ = some (.int .i64 X1.c) ∧ u.cell? ⟨g, off + i * 4 + 1, none⟩ = some (.int .i64 X1.s) ∧ u.cell? ⟨g, off + i * 4 + 2, none⟩ = some (.int .i64 X1.t) ∧ u.cell? ⟨g, off + i * 4 + 3, none⟩ = some (.int .i64 X1.n)) ∧ (u.cell? ⟨g, off + m * 4, none⟩ = some (.int .i64 Z1.c) ∧ u.cell? ⟨g, off + m * 4 + 1, none⟩ = some (.int .i64 Z1.s) ∧ u.cell? ⟨g, off + m * 4 + 2, none⟩ = some (.int .i64 Z1.t) ∧ u.cell? ⟨g, off + m * 4 + 3, none⟩ = some (.int .i64 Z1.n))) (by kernel_rfl) (by kernel_rfl) (HZ.out _ (Below.refl _ _).drew) ?_
        repeat
          with_reducible refine wpQuiet_step (fun K hK => ?_)
          first
            | (refine quiet_skip (by rfl) ?_; (with_reducible refine hK _ ?_); clear hK K)
            | (refine quiet_want (by rfl) ?_
               apply Exists.intro
               refine ⟨fun x hx => ?_, hK _ ?_⟩
               (obtain ⟨hx1, ⟨a0, a1, a2, a3⟩, b0, b1, b2, b3⟩ := id hx; go_simp; first | done | rfl | (go_at_call 18; exact (HA2.out _).mono fun y w' ⟨h1, h2⟩ => ⟨h1, HZ.out _ (below_transG hx.1 h2)⟩))
               clear hK K)
          try simp only [Act.put, List.setIfInBounds_toArray, List.set_cons_zero, List.set_cons_succ]
        with_reducible refine wpQuiet_nil ?_
        intro wq hq
        have HQ := Lib.hid (below_transG HB.out hq.1)
        clear hq HZ
        go_wp2_with fail
        go_roundw
        case rel => exact ⟨i + 1, i, by simp, rfl, by omega, by omega, HS.out.symm, HQ.out⟩
        case measure => simp [intOf]; omega
    · obtain rfl : i = len := by omega
      have e1 : (m : Int) = (V : Int) := by rw [HV.out, HM.out]
      rw [e1]
      clear e1
      go_wp2_with fail
      exact bodyPost_ret (v := .tuple #[.int .i64 (V : Int), .bool true]) (by simp [results, Tryd.results16]) rfl ⟨rfl, HB.out⟩
set_option maxRecDepth 100000 in
set_option maxHeartbeats 4000000 in
theorem r23least_any (a : Option Addr) (cap : Nat) (L : List Lb) (len : Nat) (hlen : L.length = len) (w : World) (hl : len ≤ 4611686018427387904) (hR : Rd w 4 (.slice a len cap) (L.flatMap Lb.C)) : Calls Tryd.prog 17 #[.slice a len cap] w fun y w' => y = .returned (leastV L) ∧ Below w.heap.size w w' := by
  have HA := Lib.hid (fun (a b : Lb) u => r23before_any a.c a.s a.t a.n b.c b.s b.t b.n u)
  have HRd := Lib.hid hR
  unfold leastV
  rw [hlen]
  obtain ⟨V, hV⟩ : ∃ V, V = leastUp L len := ⟨_, rfl⟩
  rw [← hV]
  have HV := Lib.hid hV; have HL := Lib.hid hlen
  clear hV hR hlen
  have cs : len = 0 ∨ 0 < len := by omega
  rcases cs with rfl | h0
  · have e1 : (V : Int) = 0 := by rw [HV.out]; rfl
    rw [e1, show decide (0 < 0) = false from rfl]
    clear e1
    go_enter Tryd.func17, Tryd.ntmps17
    go_wp2_with fail
    refine wp_loop_rounds 1 ?_
    rw [rounds_succ]
    go_wp2_with fail
    exact bodyPost_ret (v := .tuple #[.int .i64 0, .bool false]) (by simp [results, Tryd.results17]) rfl ⟨rfl, Below.refl _ _⟩
  obtain ⟨g, off, rfl, HC⟩ : ∃ g off, a = some ⟨g, off, none⟩ ∧ Hid (∀ j, j < len → ∀ x, Below w.heap.size w x → x.cell? ⟨g, off + j * 4, none⟩ = some (.int .i64 ((L[j]?).getD lb0).c) ∧ x.cell? ⟨g, off + j * 4 + 1, none⟩ = some (.int .i64 ((L[j]?).getD lb0).s) ∧ x.cell? ⟨g, off + j * 4 + 2, none⟩ = some (.int .i64 ((L[j]?).getD lb0).t) ∧ x.cell? ⟨g, off + j * 4 + 3, none⟩ = some (.int .i64 ((L[j]?).getD lb0).n)) := by
    obtain ⟨g, off, e, hg, hc⟩ := rd_at Lb.C 4 Lb.C_len HRd.out (j := 0) (by rw [HL.out]; exact h0) (by decide)
    subst e
    refine ⟨g, off, rfl, Lib.hid (fun j hj x hx => ?_)⟩
    obtain ⟨g', off', e', _, hc'⟩ := rd_at Lb.C 4 Lb.C_len HRd.out (j := j) (by rw [HL.out]; exact hj) (by decide)
    have e2 := Option.some.inj e'
    injection e2 with e3 e4 _
    subst e3 e4
    rw [List.getElem?_eq_getElem (by rw [HL.out]; exact hj)]
    exact ⟨(hx.cell (p := ⟨g, off + j * 4, none⟩) hg).trans (hc' 0 _ rfl), (hx.cell (p := ⟨g, off + j * 4 + 1, none⟩) hg).trans (hc' 1 _ rfl), (hx.cell (p := ⟨g, off + j * 4 + 2, none⟩) hg).trans (hc' 2 _ rfl), (hx.cell (p := ⟨g, off + j * 4 + 3, none⟩) hg).trans (hc' 3 _ rfl)⟩
  rw [show decide (0 < len) = true from decide_eq_true h0]
  clear HRd
  have d0 : ¬ len = 0 := by omega
  have d1 : ¬ (len : Int) = 0 := by omega
  have d2 : (0 : Int) < (len : Int) := by omega
  go_enter Tryd.func17, Tryd.ntmps17
  go_wp2_with fail
  go_loopw [4, 5] (fun s4 s8 wr => ∃ i m : Nat, s8 = .int .i64 (i : Int) ∧ s4 = .int .i64 (m : Int) ∧ 1 ≤ i ∧ i ≤ len ∧ m = leastUp L i ∧ Below w.heap.size w wr) (fun _ s8 _ => len - (intOf s8).toNat)
  case atStart => exact ⟨1, 0, rfl, rfl, Nat.le_refl _, by omega, (leastUp_one L).symm, Below.refl _ _⟩
  case round =>
    obtain ⟨i, m, rfl, rfl, hi0, hi, hm, hb⟩ := hrel
    have HM := Lib.hid hm; have HB := Lib.hid hb
    clear hm hb
    by_cases hlt : i < len
    · have i1 : (i : Int) < (len : Int) := by omega
      have i2 : (0 : Int) ≤ (i : Int) := by omega
      have m1 : m < len := by rw [HM.out]; have := leastUp_le L i; omega
      have m2 : (m : Int) < (len : Int) := by omega
      have m3 : (0 : Int) ≤ (m : Int) := by omega
      obtain ⟨X1, hx⟩ : ∃ x, x = ((L[i]?).getD lb0) := ⟨_, rfl⟩
      obtain ⟨Z1, hz⟩ : ∃ z, z = ((L[m]?).getD lb0) := ⟨_, rfl⟩
      have HZ := Lib.hid (show ∀ u, Below wr.heap.size wr u → Below wr.heap.size wr u ∧ (u.cell? ⟨g, off + i * 4, none⟩ = some (.int .i64 X1.c) ∧ u.cell? ⟨g, off + i * 4 + 1, none⟩ = some (.int .i64 X1.s) ∧ u.cell? ⟨g, off + i * 4 + 2, none⟩ = some (.int .i64 X1.t) ∧ u.cell? ⟨g, off + i * 4 + 3, none⟩ = some (.int .i64 X1.n)) ∧ (u.cell? ⟨g, off + m * 4, none⟩ = some (.int .i64 Z1.c) ∧ u.cell? ⟨g, off + m * 4 + 1, none⟩ = some (.int .i64 Z1.s) ∧ u.cell? ⟨g, off + m * 4 + 2, none⟩ = some (.int .i64 Z1.t) ∧ u.cell? ⟨g, off + m * 4 + 3, none⟩ = some (.int .i64 Z1.n)) from fun u hu => ⟨hu, by rw [hx]; exact HC.out i hlt u (below_transG HB.out hu), by rw [hz]; exact HC.out m m1 u (below_transG HB.out hu)⟩)
      have hst : leastUp L (i + 1) = if X1.bef Z1 = true then i else m := by
        rw [hx, hz, HM.out]; rfl
      have HA1 := Lib.hid (fun u => HA.out X1 Z1 u)
      have HA2 := Lib.hid (show ∀ u, Calls Tryd.prog 19 #[X1.v, Z1.v] u fun y w' => y = .returned (.bool (X1.bef Z1)) ∧ Below u.heap.size u w' from HA1.out)
      unfold Lb.v at HA2
      clear hx hz HA1
      cases hbf : X1.bef Z1
      · rw [hbf] at HA2 hst
        have HS := Lib.hid (show leastUp L (i + 1) = m from hst)
        clear hst hbf
        go_upto_region 5 with fail
        refine wp_region_class (C := fun u => Below wr.heap.size wr u ∧ (u.cell? ⟨g, off + i * 4, none⟩ = some (.int .i64 X1.c) ∧ u.cell? ⟨g, off + i * 4 + 1, none⟩ = some (.int .i64 X1.s) ∧ u.cell? ⟨g, off + i * 4 + 2, none⟩ = some (.int .i64 X1.t) ∧ u.cell? ⟨g, off + i * 4 + 3, none⟩ = some (.int .i64 X1.n)) ∧ (u.cell? ⟨g, off + m * 4, none⟩ = some (.int .i64 Z1.c) ∧ u.cell? ⟨g, off + m * 4 + 1, none⟩ = some (.int .i64 Z1.s) ∧ u.cell? ⟨g, off + m * 4 + 2, none⟩ = some (.int .i64 Z1.t) ∧ u.cell? ⟨g, off + m * 4 + 3, none⟩ = some (.int .i64 Z1.n))) (by kernel_rfl) (by kernel_rfl) (HZ.out _ (Below.refl _ _).drew) ?_
        repeat
          with_reducible refine wpQuiet_step (fun K hK => ?_)
          first
            | (refine quiet_skip (by rfl) ?_; (with_reducible refine hK _ ?_); clear hK K)
            | (refine quiet_want (by rfl) ?_
               apply Exists.intro
               refine ⟨fun x hx => ?_, hK _ ?_⟩
               (obtain ⟨hx1, ⟨a0, a1, a2, a3⟩, b0, b1, b2, b3⟩ := id hx; go_simp; first | done | rfl | (go_at_call 19; exact (HA2.out _).mono fun y w' ⟨h1, h2⟩ => ⟨h1, HZ.out _ (below_transG hx.1 h2)⟩))
               clear hK K)
          try simp only [Act.put, List.setIfInBounds_toArray, List.set_cons_zero, List.set_cons_succ]
        with_reducible refine wpQuiet_nil ?_
        intro wq hq
        have HQ := Lib.hid (below_transG HB.out hq.1)
        clear hq HZ
        go_wp2_with fail
        go_roundw
        case rel => exact ⟨i + 1, m, by simp, rfl, by omega, by omega, HS.out.symm, HQ.out⟩
        case measure => simp [intOf]; omega
      · rw [hbf] at HA2 hst
        have HS := Lib.hid (show leastUp L (i + 1) = i from hst)
        clear hst hbf
        go_upto_region 5 with fail
        refine wp_region_class (C := fun u => Below wr.heap.size wr u ∧ (u.cell? ⟨g, off + i * 4, none⟩ = some (.int .i64 X1.c) ∧ u.cell? ⟨g, off + i * 4 + 1, none⟩ = some (.int .i64 X1.s) ∧ u.cell? ⟨g, off + i * 4 + 2, none⟩ = some (.int .i64 X1.t) ∧ u.cell? ⟨g, off + i * 4 + 3, none⟩ = some (.int .i64 X1.n)) ∧ (u.cell? ⟨g, off + m * 4, none⟩ = some (.int .i64 Z1.c) ∧ u.cell? ⟨g, off + m * 4 + 1, none⟩ = some (.int .i64 Z1.s) ∧ u.cell? ⟨g, off + m * 4 + 2, none⟩ = some (.int .i64 Z1.t) ∧ u.cell? ⟨g, off + m * 4 + 3, none⟩ = some (.int .i64 Z1.n))) (by kernel_rfl) (by kernel_rfl) (HZ.out _ (Below.refl _ _).drew) ?_
        repeat
          with_reducible refine wpQuiet_step (fun K hK => ?_)
          first
            | (refine quiet_skip (by rfl) ?_; (with_reducible refine hK _ ?_); clear hK K)
            | (refine quiet_want (by rfl) ?_
               apply Exists.intro
               refine ⟨fun x hx => ?_, hK _ ?_⟩
               (obtain ⟨hx1, ⟨a0, a1, a2, a3⟩, b0, b1, b2, b3⟩ := id hx; go_simp; first | done | rfl | (go_at_call 19; exact (HA2.out _).mono fun y w' ⟨h1, h2⟩ => ⟨h1, HZ.out _ (below_transG hx.1 h2)⟩))
               clear hK K)
          try simp only [Act.put, List.setIfInBounds_toArray, List.set_cons_zero, List.set_cons_succ]
        with_reducible refine wpQuiet_nil ?_
        intro wq hq
        have HQ := Lib.hid (below_transG HB.out hq.1)
        clear hq HZ
        go_wp2_with fail
        go_roundw
        case rel => exact ⟨i + 1, i, by simp, rfl, by omega, by omega, HS.out.symm, HQ.out⟩
        case measure => simp [intOf]; omega
    · obtain rfl : i = len := by omega
      have e1 : (m : Int) = (V : Int) := by rw [HV.out, HM.out]
      rw [e1]
      clear e1
      go_wp2_with fail
      exact bodyPost_ret (v := .tuple #[.int .i64 (V : Int), .bool true]) (by simp [results, Tryd.results17]) rfl ⟨rfl, HB.out⟩
end Go.Proofs.YtmealljdecancaaDoor
