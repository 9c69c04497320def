/- The library's deletion where nothing is deleted, and its copy of a slice of streams. Conditions: there are at most a million elements. -/
import Derived.Test.YtolhckahphmffaaDoorSml
namespace Go.Proofs.YtolhckahphmffaaDoor
open Go.RowKit Go.Shelf
theorem r1_any (x : Sm) (w : World) : Calls Tryd.prog 51 #[x.v] w fun y w' => y = .returned (.bool (x.c != 2)) ∧ Below w.heap.size w w' := by
  have HB := Lib.hid ((Below.refl w.heap.size w).alloc (Nat.le_refl _) (.cells #[.int .i64 x.i, .int .i64 x.n, .int .i64 x.c, .int .i64 x.p, .int .i64 x.d, .int .i64 x.s, .int .i64 x.b] 30))
  unfold Sm.v
  go_enter Tryd.func51, Tryd.ntmps51
  go_wp2_with fail
  go_ret
  exact ⟨rfl, by first | exact HB.out | exact HB.out.drew⟩
set_option maxRecDepth 100000 in
set_option maxHeartbeats 4000000 in
theorem ix_none (a : Option Addr) (ln cap : Nat) (L : List Sm) (hreach : L.length ≤ 1000000) (hd : ∀ x ∈ L, x.c = 2) (w : World) (hI : Sts w.heap.size w (.slice a ln cap) L) :
    Calls Tryd.prog 74 #[.slice a ln cap, .func (.func 51) #[] #[]] w fun y w' => y = .returned (.int .i64 (-1)) ∧ Below w.heap.size w w' := by
  obtain rfl := hI.len
  have HCELL := Lib.hid (show ∀ u, Below w.heap.size w u → ∀ k (hk : k < L.length), ∃ g off, a = some ⟨g, off, none⟩ ∧ ∀ i v, (L[k].C)[i]? = some v → u.cell? ⟨g, off + k * 7 + i, none⟩ = some v from fun u hu k hk => by
    rcases hI with ⟨_, _, _, e⟩ | ⟨g, off, _, e, hg, hc⟩
    · rw [e] at hk; cases hk
    · injection e with e1 _ _
      exact ⟨g, off, e1, fun i v hv => (hu.cell (p := ⟨g, off + k * 7 + i, none⟩) hg).trans (hc k hk i v hv)⟩)
  have HD := Lib.hid hd
  clear hI hd
  go_enter Tryd.func74, Tryd.ntmps74
  go_wp2_with fail
  go_loopw [8] (fun i wr => ∃ k : Nat, i = .int .i64 (k : Int) ∧ k ≤ L.length ∧ Below w.heap.size w wr) (fun i _ => L.length - (intOf i).toNat)
  case atStart => exact ⟨0, rfl, by omega, by first | exact Below.refl _ _ | exact (Below.refl _ _).drew⟩
  case round =>
    obtain ⟨k, rfl, hk, hB⟩ := hrel
    have HB := Lib.hid hB
    clear hB
    by_cases hlt : k < L.length
    · have i2 : (k : Int) < (L.length : Int) := by omega
      have i3 : (0 : Int) ≤ (k : Int) := by omega
      obtain ⟨g, off, rfl, hc⟩ := HCELL.out wr HB.out k hlt
      have hd := HD.out _ (List.getElem_mem hlt)
      obtain ⟨x, hx⟩ : ∃ x, x = L[k] := ⟨_, rfl⟩
      rw [← hx] at hc hd
      have q0 : wr.cell? ⟨g, off + k * 7, none⟩ = some (.int .i64 x.i) := hc 0 _ rfl
      have q1 : wr.cell? ⟨g, off + k * 7 + 1, none⟩ = some (.int .i64 x.n) := hc 1 _ rfl
      have q2 : wr.cell? ⟨g, off + k * 7 + 2, none⟩ = some (.int .i64 x.c) := hc 2 _ rfl
      have q3 : wr.cell? ⟨g, off + k * 7 + 3, none⟩ = some (.int .i64 x.p) := hc 3 _ rfl
      have q4 : wr.cell? ⟨g, off + k * 7 + 4, none⟩ = some (.int .i64 x.d) := hc 4 _ rfl
      have q5 : wr.cell? ⟨g, off + k * 7 + 5, none⟩ = some (.int .i64 x.s) := hc 5 _ rfl
      have q6 : wr.cell? ⟨g, off + k * 7 + 6, none⟩ = some (.int .i64 x.b) := hc 6 _ rfl
      have HR := Lib.hid (show ∀ u, Calls Tryd.prog 51 #[.agg #[.int .i64 x.i, .int .i64 x.n, .int .i64 x.c, .int .i64 x.p, .int .i64 x.d, .int .i64 x.s, .int .i64 x.b]] u fun y w' => y = .returned (.bool false) ∧ Below u.heap.size u w' from fun u => by
        have := r1_any x u
        rw [hd] at this
        exact this)
      clear hc hx hd
      go_wp2_with fail
      refine (HR.out _).mono ?_
      rintro y w1 ⟨rfl, hb⟩
      have HB1 := Lib.hid (below_transG HB.out hb)
      clear hb q0 q1 q2 q3 q4 q5 q6
      go_wp2_with fail
      go_roundw
      case rel => exact ⟨k + 1, by simp, by omega, by first | exact HB1.out | exact HB1.out.drew⟩
      case measure => simp [intOf]; omega
    · have i2 : ¬ (k : Int) < (L.length : Int) := by omega
      go_wp2_with fail
      go_ret
      exact ⟨rfl, by first | exact HB.out | exact HB.out.drew⟩
theorem df_none (a : Option Addr) (ln cap : Nat) (L : List Sm) (hreach : L.length ≤ 1000000) (hd : ∀ x ∈ L, x.c = 2) (w : World) (hI : Sts w.heap.size w (.slice a ln cap) L) :
    Calls Tryd.prog 50 #[.slice a ln cap, .func (.func 51) #[] #[]] w fun y w' => y = .returned (.slice a ln cap) ∧ Below w.heap.size w w' := by
  have HX := Lib.hid (ix_none a ln cap L hreach hd w hI)
  clear hI hd
  go_enter Tryd.func50, Tryd.ntmps50
  go_wp2_with fail
  refine HX.out.mono ?_
  rintro y w1 ⟨rfl, hb⟩
  have HB1 := Lib.hid hb
  clear hb
  go_wp2_with fail
  go_ret
  exact ⟨rfl, by first | exact HB1.out | exact HB1.out.drew⟩
/-- A copy: a slice of the call's own that holds the same streams. -/
theorem clone_any (b off n cap : Nat) (L : List Sm) (hL : L.length = n) (hn : n ≤ 1000000) (w : World) (hc : ∀ j (hj : j < L.length) i u, (L[j].C)[i]? = some u → w.cell? ⟨b, off + j * 7 + i, none⟩ = some u) :
    Calls Tryd.prog 49 #[.slice (some ⟨b, off, none⟩) n cap] w fun y w' => ∃ v, y = .returned v ∧ w'.ownsRow w.heap.size 30 7 v n (L.flatMap Sm.C) ∧ v ≠ .slice none 0 0 ∧ Below w.heap.size w w' := by
  obtain ⟨i0, hi, hz0, hz1, hz2⟩ := info_parts info_stream
  refine Tryd.slices_Clone i0 _ 7 56 hi hz0 hz1 hz2 rfl (by decide) Tryd.sizeOf30 b off n cap (L.flatMap Sm.C) w (by rw [flat_len 7 Sm.C Sm.C_len, hL]) (by unfold maxLen; omega) (by omega) (fun j u hj => ?_) (fun u hu => ?_)
  · have hlt := (List.getElem?_eq_some_iff.1 hj).1
    rw [flat_len 7 Sm.C Sm.C_len] at hlt
    have h1 : j / 7 < L.length := by omega
    have h2 := flat_at 7 Sm.C Sm.C_len L (j / 7) (j % 7) h1 (Nat.mod_lt _ (by omega))
    rw [show j / 7 * 7 + j % 7 = j by omega] at h2
    rw [h2] at hj
    have := hc (j / 7) h1 (j % 7) u hj
    rw [Nat.add_assoc, show j / 7 * 7 + j % 7 = j by omega] at this
    exact this
  · obtain ⟨x, _, hx⟩ := List.mem_flatMap.1 hu
    simp [Sm.C] at hx
    rcases hx with rfl | rfl | rfl | rfl | rfl | rfl | rfl <;> rfl
end Go.Proofs.YtolhckahphmffaaDoor
