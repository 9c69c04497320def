/- Package osc: an oscillator that lies within a greater block. Conditions: the block's cells are the oscillator's. -/
import Derived.Test.YtbjelggbnmfblaaOsb
namespace Go.Proofs.Ytbjelggbnmfblaa
open Go.RowKit
theorem Blk.cellO {W : World} {B : Nat} {T : TypeId} {l : List Value} (h : Blk W B T l) {i : Nat} {v : Value} (hv : l[i]? = some v) : W.cell? ⟨B, i, none⟩ = some v := by
  have hi : i < l.length := (List.getElem?_eq_some_iff.1 hv).1
  have h2 := h.cellAt hi
  rw [List.getElem?_eq_getElem hi] at hv
  rw [h2, Option.some.inj hv]
theorem set_self {l : List Value} {i : Nat} {v : Value} (h : l[i]? = some v) : l.set i v = l := by
  obtain ⟨hi, hv⟩ := List.getElem?_eq_some_iff.1 h
  rw [← hv, List.set_getElem_self]
theorem set_other {l : List Value} {i j : Nat} {v u : Value} (h : l[i]? = some v) (hne : j ≠ i) : (l.set j u)[i]? = some v := by
  rw [List.getElem?_set_ne hne]; exact h
/-- An oscillator at a place of a list of cells. -/
structure OL (l : List Value) (o : Nat) (n d c : Int) (u : Bool) : Prop where
  g0 : l[o]? = some (.int .i64 n)
  g1 : l[o + 1]? = some (.int .i64 d)
  g2 : l[o + 2]? = some (.int .i64 c)
  g3 : l[o + 3]? = some (.bool u)
  n1 : 1 ≤ n
  n2 : n ≤ 1048576
  d0 : 0 ≤ d
  dn : d < n
  c0 : 0 ≤ c
  c1 : c ≤ 1152921504606846976
theorem ol_may (t : Int) (ht : 0 ≤ t ∧ t ≤ 1048576) (T : TypeId) (l : List Value) (o : Nat) (n d c : Int) (u : Bool) (B : Nat) (w : World) (hb : Blk w B T l) (h : OL l o n d c u) : Calls Try.prog 171 #[.pointer (some ⟨B, o, none⟩), .int .i64 t] w fun y w' => y = .returned (.bool (!wildB n d t)) ∧ w = w' := by
  have q0 := hb.cellO h.g0
  have q1 := hb.cellO h.g1
  have hx := h.n1; have hx2 := h.n2; have hx3 := h.d0; have hx4 := h.dn
  have HD := Lib.hid (fun u => dist_ex t n (by omega) (by omega) u)
  obtain ⟨x, hx5⟩ : ∃ x, x = if t < n then n - t else t - n := ⟨_, rfl⟩
  rw [← hx5] at HD
  have hx6 : (!wildB n d t) = decide (x ≤ d) := by
    unfold wildB
    rw [Bool.eq_iff_iff]
    simp only [Bool.not_eq_true', decide_eq_false_iff_not, decide_eq_true_iff]
    rw [hx5]; split <;> omega
  have hx7 : okV x = .tuple #[.int .i64 x, .bool true] := by
    have hi : -9223372036854775808 ≤ x ∧ x ≤ 9223372036854775807 := by rw [hx5]; split <;> omega
    unfold okV; rw [fit_yes hi, cut_yes hi]
  rw [hx7] at HD
  rw [hx6]
  clear hx hx2 hx3 hx4 hx5 hx6 hx7 h ht hb
  by_cases hl : x ≤ d
  · have hd : decide (x ≤ d) = true := decide_eq_true hl
    rw [hd]
    go_enter Try.func171, Try.ntmps171
    go_wp2_with fail
    refine (HD.out _).mono ?_
    rintro y w1 ⟨rfl, rfl⟩
    go_wp2_with fail
    go_ret
    exact ⟨rfl, rfl⟩
  · have hd : decide (x ≤ d) = false := decide_eq_false hl
    rw [hd]
    have hl2 : d < x := by omega
    go_enter Try.func171, Try.ntmps171
    go_wp2_with fail
    refine (HD.out _).mono ?_
    rintro y w1 ⟨rfl, rfl⟩
    go_wp2_with fail
    go_ret
    exact ⟨rfl, rfl⟩
theorem ol_count (T : TypeId) (l : List Value) (o : Nat) (n d c : Int) (u : Bool) (B : Nat) (w : World) (hb : Blk w B T l) (h : OL l o n d c u) : Calls Try.prog 160 #[.pointer (some ⟨B, o, none⟩)] w fun y w' => y = .returned (.int .i64 c) ∧ w = w' := by
  have q2 := hb.cellO h.g2
  clear h hb
  go_enter Try.func160, Try.ntmps160
  go_wp2_with fail
  go_ret
  exact ⟨rfl, rfl⟩
set_option maxHeartbeats 1000000 in
theorem ol_step (t : Int) (ht : -9223372036854775808 ≤ t ∧ t ≤ 9223372036854775807) (T : TypeId) (l : List Value) (o : Nat) (n d c : Int) (u : Bool) (B : Nat) (w : World) (hb : Blk w B T l) (h : OL l o n d c u) : Calls Try.prog 122 #[.pointer (some ⟨B, o, none⟩), .int .i64 t] w fun y w' => y = .returned (.int .i64 (stepE c t)) ∧ Blk w' B T ((l.set (o + 2) (.int .i64 (stepC c t))).set (o + 3) (.bool (stepU n d c u t))) ∧ Kp B (.slice none 0 0) w w' := by
  have HH := Lib.hid hb; have HL := Lib.hid h
  have same : (l.set (o + 2) (.int .i64 c)).set (o + 3) (.bool u) = l := by rw [set_self h.g2, set_self h.g3]
  have HS := Lib.hid same
  have q2 := hb.cellO h.g2
  have p2 : w.frozen? ⟨B, o + 2, none⟩ = false := hb.frozenAt (o + 2)
  have hc0 := h.c0; have hc1 := h.c1
  clear h hb same
  by_cases h1 : t < 0 ∨ 1048576 < t
  · obtain ⟨s1, s2, s3⟩ := step_bad (n := n) (d := d) (c := c) (u := u) h1
    rw [s1, s2, s3, HS.out]
    clear s1 s2 s3 hc0 hc1 ht
    rcases h1 with h1 | h1
    · go_enter Try.func122, Try.ntmps122
      go_wp2_with fail
      go_ret
      exact ⟨rfl, HH.out, Kp.refl _ _ _⟩
    · have h2 : ¬ t < 0 := by omega
      go_enter Try.func122, Try.ntmps122
      go_wp2_with fail
      go_ret
      exact ⟨rfl, HH.out, Kp.refl _ _ _⟩
  have i1 : ¬ t < 0 := by omega
  have i2 : ¬ 1048576 < t := by omega
  have hl : wrap64 (1152921504606846976 - c) = 1152921504606846976 - c := w64_in _ (by omega)
  by_cases h2 : 1152921504606846976 - c < t
  · obtain ⟨s1, s2, s3⟩ := step_over (n := n) (d := d) (c := c) (u := u) h1 h2
    rw [s1, s2, s3, HS.out]
    have h3 := h2
    clear s1 s2 s3 h1 h2 hc0 hc1 ht
    go_enter Try.func122, Try.ntmps122
    go_wp2_with fail
    go_ret
    exact ⟨rfl, HH.out, Kp.refl _ _ _⟩
  obtain ⟨s1, s2, s3⟩ := step_ok (n := n) (d := d) (c := c) (u := u) h1 h2
  rw [s1, s2, s3]
  have h3 : ¬ 1152921504606846976 - c < t := by omega
  have hs : wrap64 (c + t) = c + t := w64_in _ (by omega)
  have HC := Lib.hid (show 0 ≤ c + t ∧ c + t ≤ 1152921504606846976 by omega)
  have HT := Lib.hid (show 0 ≤ t ∧ t ≤ 1048576 by omega)
  obtain ⟨x, hx⟩ : ∃ x, x = c + t := ⟨_, rfl⟩
  rw [← hx] at HC ⊢
  have hs2 : wrap64 (c + t) = x := by rw [hs, hx]
  obtain ⟨l2, hl2⟩ : ∃ l2, l2 = l.set (o + 2) (.int .i64 x) := ⟨_, rfl⟩
  obtain ⟨W2, hW2⟩ : ∃ W2, W2 = w.setCell ⟨B, o + 2, none⟩ (.int .i64 x) := ⟨_, rfl⟩
  have HB2 := Lib.hid (show Blk W2 B T l2 by rw [hW2, hl2]; exact HH.out.put1 (i := o + 2) (List.getElem?_eq_some_iff.1 HL.out.g2).1 _)
  have HL2 := Lib.hid (show OL l2 o n d x u by
    rw [hl2]
    exact ⟨set_other HL.out.g0 (by omega), set_other HL.out.g1 (by omega), by rw [List.getElem?_set_self (List.getElem?_eq_some_iff.1 HL.out.g2).1], set_other HL.out.g3 (by omega), HL.out.n1, HL.out.n2, HL.out.d0, HL.out.dn, HC.out.1, HC.out.2⟩)
  have HK2 := Lib.hid (show Kp B (.slice none 0 0) w W2 by rw [hW2]; exact (Kp.refl B (.slice none 0 0) w).set (o + 2) _)
  have HM := Lib.hid (ol_may t HT.out T l2 o n d x u B W2 HB2.out HL2.out)
  have q3 := HB2.out.cellO HL2.out.g3
  have p3 : W2.frozen? ⟨B, o + 3, none⟩ = false := HB2.out.frozenAt (o + 3)
  rw [← hl2]
  clear hx s1 s2 s3 h1 h2 hc0 hc1 ht hs hl2
  by_cases hw : wildB n d t = true
  · rw [hw] at HM ⊢
    rw [Bool.or_true]
    clear hw
    go_enter Try.func122, Try.ntmps122
    go_wp2_with fail
    rw [← hW2]
    clear hW2
    refine HM.out.mono ?_
    rintro y w1 ⟨rfl, rfl⟩
    go_wp2_with fail
    go_ret
    exact ⟨rfl, HB2.out.put1 (i := o + 3) (List.getElem?_eq_some_iff.1 HL2.out.g3).1 _, HK2.out.set (o + 3) _⟩
  · have hw2 : wildB n d t = false := by simpa using hw
    rw [hw2] at HM ⊢
    rw [Bool.or_false, set_self HL2.out.g3]
    clear hw hw2
    go_enter Try.func122, Try.ntmps122
    go_wp2_with fail
    rw [← hW2]
    clear hW2
    refine HM.out.mono ?_
    rintro y w1 ⟨rfl, rfl⟩
    go_wp2_with fail
    go_ret
    exact ⟨rfl, HB2.out, HK2.out⟩
end Go.Proofs.Ytbjelggbnmfblaa
