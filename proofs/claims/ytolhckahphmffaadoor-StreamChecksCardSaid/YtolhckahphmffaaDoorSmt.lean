/- Layer 25's statements: a few streams. Conditions: there are at most a million of them. -/
import Derived.Test.YtolhckahphmffaaDoorSmi
import Derived.Test.YtolhckahphmffaaDoorSmr
namespace Go.Proofs.YtolhckahphmffaaDoor
open Go.RowKit Go.Shelf
attribute [local go_sem] Oper.semAt_some
/-- A row of streams that is owned is a slice of them. -/
theorem Sts.of_own {W : World} {base n : Nat} {v : Value} {L : List Sm} (h : W.ownsRow base 30 7 v n (L.flatMap Sm.C)) : n = L.length ∧ Sts W.heap.size W v L ∧ ∃ a cap, v = .slice a L.length cap := by
  have hl := h.1
  rw [flat_len 7 Sm.C Sm.C_len] at hl
  have hn : n = L.length := by omega
  subst hn
  refine ⟨rfl, ?_⟩
  have h2 := h.2
  rcases h2 with ⟨e, e0⟩ | ⟨g, cap, cur, e, _, hg, _⟩
  · have : L = [] := List.eq_nil_of_length_eq_zero e0
    subst this
    exact ⟨.inl ⟨none, 0, e, rfl⟩, none, 0, e⟩
  · refine ⟨.inr ⟨g, 0, cap, e, (Array.getElem?_eq_some_iff.1 hg).1, fun j hj i u hu => ?_⟩, some ⟨g, 0, none⟩, cap, e⟩
    subst e
    have hi : i < 7 := by have := (List.getElem?_eq_some_iff.1 hu).1; rwa [Sm.C_len] at this
    have h3 := h.cells (g := g) rfl (j * 7 + i) u (by rw [flat_at 7 Sm.C Sm.C_len L j i hj hi]; exact hu)
    have e2 : ((⟨g, 0, none⟩ : Addr).add (j * 7 + i)) = ⟨g, 0 + j * 7 + i, none⟩ := by
      cases hk : j * 7 + i <;> simp [Addr.add] <;> omega
    rw [← e2]; exact h3
theorem own_keep {A B : World} {n₀ base n size : Nat} {e : TypeId} {v : Value} {xs : List Value} (h : Below n₀ A B) (hs : A.heap.size ≤ n₀) (ho : A.ownsRow base e size v n xs) : B.ownsRow base e size v n xs := by
  refine ⟨ho.1, ?_⟩
  have h2 := ho.2
  rcases h2 with h0 | ⟨g, cap, cur, e1, e2, hg, r⟩
  · exact .inl h0
  · exact .inr ⟨g, cap, cur, e1, e2, (h.block g (Nat.lt_of_lt_of_le (Array.getElem?_eq_some_iff.1 hg).1 hs)).trans hg, r⟩
/-- The first k of some streams, made such as can be. -/
def fewK (L : List Sm) (k : Nat) : List Sm := (List.range k).map (fun i : Nat => stF (L[i]?.getD sm0) (i : Int))
theorem fewK_len (L : List Sm) (k : Nat) : (fewK L k).length = k := by unfold fewK; simp
theorem fewK_succ {L : List Sm} {k : Nat} (h : k < L.length) : fewK L (k + 1) = fewK L k ++ [stF (L[k]) k] := by
  unfold fewK
  rw [List.range_succ, List.map_append, List.map_singleton, List.getElem?_eq_getElem h]; rfl
theorem fewK_at {L : List Sm} {k : Nat} (j : Nat) (h : j < (fewK L k).length) : (fewK L k)[j] = stF (L[j]?.getD sm0) j := by
  simp [fewK]
theorem stF_i (x : Sm) (id : Int) : (stF x id).i = id := rfl
def fewL (L : List Sm) : List Sm := fewK L (min L.length 6)
set_option maxRecDepth 100000 in
set_option maxHeartbeats 4000000 in
theorem sfew_any (a : Option Addr) (len cap : Nat) (L : List Sm) (w : World) (hI : Sts w.heap.size w (.slice a len cap) L) :
    Calls Tryd.prog 25 #[.slice a len cap] w fun e W' => ∃ v, e = .returned v ∧ W'.ownsRow w.heap.size 30 7 v (fewL L).length ((fewL L).flatMap Sm.C) ∧ Below w.heap.size w W' := by
  obtain rfl := hI.len
  have HI := Lib.hid hI
  clear hI
  obtain ⟨i0, hi, hz0, hz1, hz2⟩ := info_parts info_stream
  go_enter Tryd.func25, Tryd.ntmps25
  go_wp2_with fail
  go_loopw [3, 4] (fun v i wr => ∃ k : Nat, i = .int .i64 (k : Int) ∧ k ≤ L.length ∧ k ≤ 6 ∧ wr.ownsRow w.heap.size 30 7 v k ((fewK L k).flatMap Sm.C) ∧ Below w.heap.size w wr) (fun _ i _ => 6 - (intOf i).toNat)
  case atStart => exact ⟨0, rfl, by omega, by omega, ⟨rfl, .inl ⟨rfl, rfl⟩⟩, by first | exact Below.refl _ _ | exact (Below.refl _ _).drew⟩
  case round =>
    obtain ⟨k, rfl, hk, hk6, hrow, hB⟩ := hrel
    have HB := Lib.hid hB; have HROW := Lib.hid hrow
    clear hB hrow
    have i3 : (0 : Int) ≤ (k : Int) := by omega
    by_cases hlt : k < L.length
    · have i1 : (k : Int) < (L.length : Int) := by omega
      obtain ⟨g, off, rfl, hc⟩ : ∃ g off, a = some ⟨g, off, none⟩ ∧ ∀ i v, (L[k].C)[i]? = some v → wr.cell? ⟨g, off + k * 7 + i, none⟩ = some v := by
        rcases HI.out with ⟨_, _, _, e⟩ | ⟨g, off, _, e, hg, hc⟩
        · rw [e] at hlt; cases hlt
        · injection e with e1 _ _
          exact ⟨g, off, e1, fun i v hv => (HB.out.cell (p := ⟨g, off + k * 7 + i, none⟩) hg).trans (hc k hlt i v hv)⟩
      by_cases h6 : k < 6
      · have i2 : (k : Int) < 6 := by omega
        obtain ⟨y, hy⟩ : ∃ y, y = L[k] := ⟨_, rfl⟩
        rw [← hy] at hc
        have p0 : wr.cell? ⟨g, off + k * 7, none⟩ = some (.int .i64 y.i) := hc 0 _ rfl
        have p1 : wr.cell? ⟨g, off + k * 7 + 1, none⟩ = some (.int .i64 y.n) := hc 1 _ rfl
        have p2 : wr.cell? ⟨g, off + k * 7 + 2, none⟩ = some (.int .i64 y.c) := hc 2 _ rfl
        have p3 : wr.cell? ⟨g, off + k * 7 + 3, none⟩ = some (.int .i64 y.p) := hc 3 _ rfl
        have p4 : wr.cell? ⟨g, off + k * 7 + 4, none⟩ = some (.int .i64 y.d) := hc 4 _ rfl
        have p5 : wr.cell? ⟨g, off + k * 7 + 5, none⟩ = some (.int .i64 y.s) := hc 5 _ rfl
        have p6 : wr.cell? ⟨g, off + k * 7 + 6, none⟩ = some (.int .i64 y.b) := hc 6 _ rfl
        have HS := Lib.hid (show ∀ u : World, Calls Tryd.prog 55 #[.agg #[.int .i64 y.i, .int .i64 y.n, .int .i64 y.c, .int .i64 y.p, .int .i64 y.d, .int .i64 y.s, .int .i64 y.b], .int .i64 (k : Int)] u fun e w' => e = .returned (stF y k).v ∧ Below u.heap.size u w' from fun u => lstream_any y k u)
        obtain ⟨z, hz⟩ : ∃ z, z = stF y k := ⟨_, rfl⟩
        rw [← hz] at HS
        have HF := Lib.hid (show fewK L (k + 1) = fewK L k ++ [z] by rw [fewK_succ hlt, hz, hy])
        have HM := Lib.hid (show k + 1 ≤ maxLen by unfold maxLen; omega)
        clear hy hc hz
        unfold Sm.v at HS
        go_wp2_with fail
        refine (HS.out _).mono ?_
        rintro e w1 ⟨rfl, hb⟩
        have HR1 := Lib.hid (own_keep hb (Nat.le_refl _) HROW.out)
        have HB1 := Lib.hid (below_transG HB.out hb)
        clear hb
        obtain ⟨ZV, hZV⟩ : ∃ l, l = z.C := ⟨_, rfl⟩
        have HN := Lib.hid (show ∀ (j : Nat) (u : Value), (z.C)[j]? = some u → (w1.alloc (.cells #[.int .i64 z.i, .int .i64 z.n, .int .i64 z.c, .int .i64 z.p, .int .i64 z.d, .int .i64 z.s, .int .i64 z.b] 30)).cell? ((⟨w1.heap.size, 0, none⟩ : Addr).add j) = some u from fun j u hj => by
          have hlt := (List.getElem?_eq_some_iff.1 hj).1
          have h1 := (Blk.new w1 30 z.C).cellAt (i := j) hlt
          have h2 := (List.getElem?_eq_some_iff.1 hj).2
          rw [h2] at h1
          have e : ((⟨w1.heap.size, 0, none⟩ : Addr).add j) = ⟨w1.heap.size, j, none⟩ := by cases j <;> simp [Addr.add]
          rw [e]
          exact h1)
        have HO := Lib.hid (show ∀ u ∈ z.C, u.oneCell' = true by simp [Value.oneCell', Sm.C])
        have HM1 := Lib.hid (show k + 1 ≤ maxLen by unfold maxLen; omega)
        have HM2 := Lib.hid (show (k + 1) * 56 ≤ 140737488355328 by omega)
        have HM3 := Lib.hid (show w.heap.size ≤ (w1.alloc (.cells #[.int .i64 z.i, .int .i64 z.n, .int .i64 z.c, .int .i64 z.p, .int .i64 z.d, .int .i64 z.s, .int .i64 z.b] 30)).heap.size by have := HB1.out.size; simp only [World.size_alloc]; omega)
        clear HS hZV
        go_wp2_with (at_builtin; refine wpList_append_own _ rfl _ _ 22 rfl w.heap.size 30 i0 (.agg #[.int .i64 0, .int .i64 0, .int .i64 0, .int .i64 0, .int .i64 0, .int .i64 0, .int .i64 0]) 7 56 Tryd.underlying22 hi hz0 hz1 hz2 rfl (by decide) _ _ _ rfl (HR1.out.alloc _) ⟨w1.heap.size, 0, none⟩ 1 1 z.C rfl rfl HN.out HO.out HM1.out HM2.out HM3.out ?_)
        intro v' w3 hown2 hgrow _
        have HB3 := Lib.hid ((HB1.out.alloc HB1.out.size _).grown hgrow HM3.out (fun j e => (World.ownsRow.lt HR1.out j e).1))
        have HR3 := Lib.hid hown2
        clear hown2 hgrow
        go_wp2
        go_roundw
        case rel => exact ⟨k + 1, by simp, by omega, by omega, by rw [HF.out, List.flatMap_append, List.flatMap_singleton]; exact HR3.out, HB3.out⟩
        case measure => simp [intOf]; omega
      · have i2 : ¬ (k : Int) < 6 := by omega
        have HF := Lib.hid (show fewK L k = fewL L by unfold fewL; rw [show min L.length 6 = k by omega])
        go_wp2_with fail
        go_ret
        exact ⟨_, rfl, by rw [← HF.out, fewK_len]; exact HROW.out, by first | exact HB.out | exact HB.out.drew⟩
    · have i1 : ¬ (k : Int) < (L.length : Int) := by omega
      have HF := Lib.hid (show fewK L k = fewL L by unfold fewL; rw [show min L.length 6 = k by omega])
      go_wp2_with fail
      go_ret
      exact ⟨_, rfl, by rw [← HF.out, fewK_len]; exact HROW.out, by first | exact HB.out | exact HB.out.drew⟩
end Go.Proofs.YtolhckahphmffaaDoor
