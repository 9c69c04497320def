/- The document's own answers of layer 25: the streams of a node. Conditions: there are at most a million of them. -/
import Derived.Test.YtolhckahphmffaaDoorSmt
namespace Go.Proofs.YtolhckahphmffaaDoor
open Go.RowKit Go.Shelf
attribute [local go_sem] Oper.semAt_some
def ofT (L : List Sm) (nd : Int) (k : Nat) : List Sm := ofL (L.take k) nd
theorem ofT_yes {L : List Sm} {nd : Int} {k : Nat} (h : k < L.length) (he : (L[k]).n = nd) : ofT L nd (k + 1) = ofT L nd k ++ [L[k]] := by
  unfold ofT ofL
  rw [← List.take_append_getElem h, List.filter_append]
  congr 1
  simp [List.filter, he]
theorem ofT_no {L : List Sm} {nd : Int} {k : Nat} (h : k < L.length) (he : (L[k]).n ≠ nd) : ofT L nd (k + 1) = ofT L nd k := by
  unfold ofT ofL
  rw [← List.take_append_getElem h, List.filter_append, show List.filter (fun x : Sm => x.n == nd) [L[k]] = [] by rw [List.filter_cons_of_neg (by simpa using he)]; rfl, List.append_nil]
theorem ofT_len (L : List Sm) (nd : Int) (k : Nat) : (ofT L nd k).length ≤ k := by
  unfold ofT ofL
  exact Nat.le_trans (List.length_filter_le _ _) (by rw [List.length_take]; omega)
set_option maxRecDepth 100000 in
set_option maxHeartbeats 4000000 in
theorem rsof_any (a : Option Addr) (len cap : Nat) (L : List Sm) (nd : Int) (hreach : L.length ≤ 1000000) (w : World) (hI : Sts w.heap.size w (.slice a len cap) L) :
    Calls Tryd.prog 22 #[.slice a len cap, .int .i64 nd] w fun e W' => ∃ v, e = .returned v ∧ W'.ownsRow w.heap.size 30 7 v (ofL L nd).length ((ofL L nd).flatMap Sm.C) ∧ Below w.heap.size w W' := by
  obtain rfl := hI.len
  have HI := Lib.hid hI
  clear hI
  obtain ⟨i0, hi, hz0, hz1, hz2⟩ := info_parts info_stream
  go_enter Tryd.func22, Tryd.ntmps22
  go_wp2_with fail
  go_loopw [5, 6] (fun v i wr => ∃ k : Nat, i = .int .i64 (k : Int) ∧ k ≤ L.length ∧ wr.ownsRow w.heap.size 30 7 v (ofT L nd k).length ((ofT L nd k).flatMap Sm.C) ∧ Below w.heap.size w wr) (fun _ i _ => L.length - (intOf i).toNat)
  case atStart => exact ⟨0, rfl, by omega, ⟨rfl, .inl ⟨rfl, rfl⟩⟩, by first | exact Below.refl _ _ | exact (Below.refl _ _).drew⟩
  case round =>
    obtain ⟨k, rfl, hk, hrow, hB⟩ := hrel
    have HB := Lib.hid hB; have HROW := Lib.hid hrow
    clear hB hrow
    have i3 : (0 : Int) ≤ (k : Int) := by omega
    by_cases hlt : k < L.length
    · have i1 : (k : Int) < (L.length : Int) := by omega
      obtain ⟨g, off, rfl, hc⟩ : ∃ g off, a = some ⟨g, off, none⟩ ∧ ∀ i v, (L[k].C)[i]? = some v → wr.cell? ⟨g, off + k * 7 + i, none⟩ = some v := by
        rcases HI.out with ⟨_, _, _, e⟩ | ⟨g, off, _, e, hg, hc⟩
        · rw [e] at hlt; cases hlt
        · injection e with e1 _ _
          exact ⟨g, off, e1, fun i v hv => (HB.out.cell (p := ⟨g, off + k * 7 + i, none⟩) hg).trans (hc k hlt i v hv)⟩
      obtain ⟨z, hz⟩ : ∃ y, y = L[k] := ⟨_, rfl⟩
      rw [← hz] at hc
      have p0 : wr.cell? ⟨g, off + k * 7, none⟩ = some (.int .i64 z.i) := hc 0 _ rfl
      have p1 : wr.cell? ⟨g, off + k * 7 + 1, none⟩ = some (.int .i64 z.n) := hc 1 _ rfl
      have p2 : wr.cell? ⟨g, off + k * 7 + 2, none⟩ = some (.int .i64 z.c) := hc 2 _ rfl
      have p3 : wr.cell? ⟨g, off + k * 7 + 3, none⟩ = some (.int .i64 z.p) := hc 3 _ rfl
      have p4 : wr.cell? ⟨g, off + k * 7 + 4, none⟩ = some (.int .i64 z.d) := hc 4 _ rfl
      have p5 : wr.cell? ⟨g, off + k * 7 + 5, none⟩ = some (.int .i64 z.s) := hc 5 _ rfl
      have p6 : wr.cell? ⟨g, off + k * 7 + 6, none⟩ = some (.int .i64 z.b) := hc 6 _ rfl
      have HLN := Lib.hid (ofT_len L nd k)
      by_cases he : z.n = nd
      · have HF := Lib.hid (show ofT L nd (k + 1) = ofT L nd k ++ [z] by rw [ofT_yes hlt (by rw [← hz]; exact he), hz])
        have k0 : (z.n == nd) = true := by rw [he]; simp
        clear he hz hc
        have HN := Lib.hid (show ∀ (j : Nat) (u : Value), (z.C)[j]? = some u → (wr.alloc (.cells #[.int .i64 z.i, .int .i64 z.n, .int .i64 z.c, .int .i64 z.p, .int .i64 z.d, .int .i64 z.s, .int .i64 z.b] 30)).cell? ((⟨wr.heap.size, 0, none⟩ : Addr).add j) = some u from fun j u hj => by
          have hlt := (List.getElem?_eq_some_iff.1 hj).1
          have h1 := (Blk.new wr 30 z.C).cellAt (i := j) hlt
          have h2 := (List.getElem?_eq_some_iff.1 hj).2
          rw [h2] at h1
          have e : ((⟨wr.heap.size, 0, none⟩ : Addr).add j) = ⟨wr.heap.size, j, none⟩ := by cases j <;> simp [Addr.add]
          rw [e]
          exact h1)
        have HO := Lib.hid (show ∀ u ∈ z.C, u.oneCell' = true by simp [Value.oneCell', Sm.C])
        have HM1 := Lib.hid (show (ofT L nd k).length + 1 ≤ maxLen by have := HLN.out; unfold maxLen; omega)
        have HM2 := Lib.hid (show ((ofT L nd k).length + 1) * 56 ≤ 140737488355328 by have := HLN.out; omega)
        have HM3 := Lib.hid (show w.heap.size ≤ (wr.alloc (.cells #[.int .i64 z.i, .int .i64 z.n, .int .i64 z.c, .int .i64 z.p, .int .i64 z.d, .int .i64 z.s, .int .i64 z.b] 30)).heap.size by have := HB.out.size; simp only [World.size_alloc]; omega)
        go_wp2_with (at_builtin; refine wpList_append_own _ rfl _ _ 22 rfl w.heap.size 30 i0 (.agg #[.int .i64 0, .int .i64 0, .int .i64 0, .int .i64 0, .int .i64 0, .int .i64 0, .int .i64 0]) 7 56 Tryd.underlying22 hi hz0 hz1 hz2 rfl (by decide) _ _ _ rfl (HROW.out.alloc _) ⟨wr.heap.size, 0, none⟩ 1 1 z.C rfl rfl HN.out HO.out HM1.out HM2.out HM3.out ?_)
        intro v' w3 hown2 hgrow _
        have HB3 := Lib.hid ((HB.out.alloc HB.out.size _).grown hgrow HM3.out (fun j e => (World.ownsRow.lt HROW.out j e).1))
        have HR3 := Lib.hid hown2
        clear hown2 hgrow
        go_wp2
        go_roundw
        case rel => exact ⟨k + 1, by simp, by omega, by rw [HF.out, List.length_append, List.flatMap_append, List.flatMap_singleton]; exact HR3.out, HB3.out⟩
        case measure => simp [intOf]; omega
      · have HF := Lib.hid (show ofT L nd (k + 1) = ofT L nd k from ofT_no hlt (by rw [← hz]; exact he))
        have k0 : (z.n == nd) = false := by rw [beq_eq_false_iff_ne]; exact he
        clear he hz hc
        go_wp2_with fail
        go_roundw
        case rel => exact ⟨k + 1, by simp, by omega, by rw [HF.out]; exact HROW.out, by first | exact HB.out | exact HB.out.drew⟩
        case measure => simp [intOf]; omega
    · have i1 : ¬ (k : Int) < (L.length : Int) := by omega
      have HF := Lib.hid (show ofT L nd k = ofL L nd by unfold ofT; rw [show k = L.length by omega, List.take_length])
      go_wp2_with fail
      go_ret
      exact ⟨_, rfl, by rw [← HF.out]; exact HROW.out, by first | exact HB.out | exact HB.out.drew⟩
set_option maxRecDepth 100000 in
set_option maxHeartbeats 4000000 in
theorem rssame_eq (a b : Option Addr) (ca cb : Nat) (L : List Sm) (hreach : L.length ≤ 1000000) (w : World) (hA : Sts w.heap.size w (.slice a L.length ca) L) (hB : Sts w.heap.size w (.slice b L.length cb) L) :
    Calls Tryd.prog 20 #[.slice a L.length ca, .slice b L.length cb] w fun e W' => e = .returned (.bool true) ∧ Below w.heap.size w W' := by
  have Ha := Lib.hid hA; have Hb := Lib.hid hB
  clear hA hB
  have e0 : ((L.length : Int) == (L.length : Int)) = true := by simp
  go_enter Tryd.func20, Tryd.ntmps20
  go_wp2_with fail
  go_loopw [5] (fun i wr => ∃ k : Nat, i = .int .i64 (k : Int) ∧ k ≤ L.length ∧ Below w.heap.size w wr) (fun i _ => L.length - (intOf i).toNat)
  case atStart => exact ⟨0, rfl, by omega, by first | exact Below.refl _ _ | exact (Below.refl _ _).drew⟩
  case round =>
    obtain ⟨k, rfl, hk, hB⟩ := hrel
    have HB := Lib.hid hB
    clear hB
    have i3 : (0 : Int) ≤ (k : Int) := by omega
    by_cases hlt : k < L.length
    · have i1 : (k : Int) < (L.length : Int) := by omega
      obtain ⟨z, hz⟩ : ∃ y, y = L[k] := ⟨_, rfl⟩
      obtain ⟨ag, ao, rfl, ac⟩ : ∃ g off, a = some ⟨g, off, none⟩ ∧ ∀ u, Below wr.heap.size wr u → ∀ i v, (L[k].C)[i]? = some v → u.cell? ⟨g, off + k * 7 + i, none⟩ = some v := by
        rcases Ha.out with ⟨_, _, _, e⟩ | ⟨g, off, _, e, hg, hc⟩
        · rw [e] at hlt; cases hlt
        · injection e with e1 _ _
          exact ⟨g, off, e1, fun u hu i v hv => ((HB.out.trans (hu.mono HB.out.size)).cell (p := ⟨g, off + k * 7 + i, none⟩) hg).trans (hc k hlt i v hv)⟩
      rw [← hz] at ac
      obtain ⟨bg, bo, rfl, bc⟩ : ∃ g off, b = some ⟨g, off, none⟩ ∧ ∀ u, Below wr.heap.size wr u → ∀ i v, (L[k].C)[i]? = some v → u.cell? ⟨g, off + k * 7 + i, none⟩ = some v := by
        rcases Hb.out with ⟨_, _, _, e⟩ | ⟨g, off, _, e, hg, hc⟩
        · rw [e] at hlt; cases hlt
        · injection e with e1 _ _
          exact ⟨g, off, e1, fun u hu i v hv => ((HB.out.trans (hu.mono HB.out.size)).cell (p := ⟨g, off + k * 7 + i, none⟩) hg).trans (hc k hlt i v hv)⟩
      rw [← hz] at bc
      have HZ := Lib.hid (show ∀ x, Below wr.heap.size wr x → Below wr.heap.size wr x ∧ x.cell? ⟨ag, ao + k * 7, none⟩ = some (.int .i64 z.i) ∧ x.cell? ⟨ag, ao + k * 7 + 1, none⟩ = some (.int .i64 z.n) ∧ x.cell? ⟨ag, ao + k * 7 + 2, none⟩ = some (.int .i64 z.c) ∧ x.cell? ⟨ag, ao + k * 7 + 3, none⟩ = some (.int .i64 z.p) ∧ x.cell? ⟨ag, ao + k * 7 + 4, none⟩ = some (.int .i64 z.d) ∧ x.cell? ⟨ag, ao + k * 7 + 5, none⟩ = some (.int .i64 z.s) ∧ x.cell? ⟨ag, ao + k * 7 + 6, none⟩ = some (.int .i64 z.b) ∧ x.cell? ⟨bg, bo + k * 7, none⟩ = some (.int .i64 z.i) ∧ x.cell? ⟨bg, bo + k * 7 + 1, none⟩ = some (.int .i64 z.n) ∧ x.cell? ⟨bg, bo + k * 7 + 2, none⟩ = some (.int .i64 z.c) ∧ x.cell? ⟨bg, bo + k * 7 + 3, none⟩ = some (.int .i64 z.p) ∧ x.cell? ⟨bg, bo + k * 7 + 4, none⟩ = some (.int .i64 z.d) ∧ x.cell? ⟨bg, bo + k * 7 + 5, none⟩ = some (.int .i64 z.s) ∧ x.cell? ⟨bg, bo + k * 7 + 6, none⟩ = some (.int .i64 z.b) from fun x hx => ⟨hx, ac x hx 0 _ rfl, ac x hx 1 _ rfl, ac x hx 2 _ rfl, ac x hx 3 _ rfl, ac x hx 4 _ rfl, ac x hx 5 _ rfl, ac x hx 6 _ rfl, bc x hx 0 _ rfl, bc x hx 1 _ rfl, bc x hx 2 _ rfl, bc x hx 3 _ rfl, bc x hx 4 _ rfl, bc x hx 5 _ rfl, bc x hx 6 _ rfl⟩)
      have q0 : (z.i == z.i) = true := by simp
      have q1 : (z.n == z.n) = true := by simp
      have q2 : (z.c == z.c) = true := by simp
      have q3 : (z.p == z.p) = true := by simp
      have q4 : (z.d == z.d) = true := by simp
      have q5 : (z.s == z.s) = true := by simp
      have q6 : (z.b == z.b) = true := by simp
      clear hz ac bc
      go_upto_region 6 with fail
      refine wp_region_class (C := fun x => Below wr.heap.size wr x ∧ x.cell? ⟨ag, ao + k * 7, none⟩ = some (.int .i64 z.i) ∧ x.cell? ⟨ag, ao + k * 7 + 1, none⟩ = some (.int .i64 z.n) ∧ x.cell? ⟨ag, ao + k * 7 + 2, none⟩ = some (.int .i64 z.c) ∧ x.cell? ⟨ag, ao + k * 7 + 3, none⟩ = some (.int .i64 z.p) ∧ x.cell? ⟨ag, ao + k * 7 + 4, none⟩ = some (.int .i64 z.d) ∧ x.cell? ⟨ag, ao + k * 7 + 5, none⟩ = some (.int .i64 z.s) ∧ x.cell? ⟨ag, ao + k * 7 + 6, none⟩ = some (.int .i64 z.b) ∧ x.cell? ⟨bg, bo + k * 7, none⟩ = some (.int .i64 z.i) ∧ x.cell? ⟨bg, bo + k * 7 + 1, none⟩ = some (.int .i64 z.n) ∧ x.cell? ⟨bg, bo + k * 7 + 2, none⟩ = some (.int .i64 z.c) ∧ x.cell? ⟨bg, bo + k * 7 + 3, none⟩ = some (.int .i64 z.p) ∧ x.cell? ⟨bg, bo + k * 7 + 4, none⟩ = some (.int .i64 z.d) ∧ x.cell? ⟨bg, bo + k * 7 + 5, none⟩ = some (.int .i64 z.s) ∧ x.cell? ⟨bg, bo + k * 7 + 6, none⟩ = some (.int .i64 z.b)) (by kernel_rfl) (by kernel_rfl) (HZ.out _ (Below.refl _ _).drew) ?_
      repeat
        with_reducible refine wpQuiet_step (fun K hK => ?_)
        first
          | (refine quiet_skip (by rfl) ?_; (with_reducible refine hK _ ?_); clear hK K)
          | (refine quiet_want (by rfl) ?_
             apply Exists.intro
             refine ⟨fun x hx => ?_, hK _ ?_⟩
             (obtain ⟨_, hx1, hx2, hx3, hx4, hx5, hx6, hx7, hx8, hx9, hx10, hx11, hx12, hx13, hx14⟩ := id hx; go_simp; first | done | rfl | (fail))
             clear hK K)
        try simp only [Act.put, List.setIfInBounds_toArray, List.set_cons_zero, List.set_cons_succ]
      with_reducible refine wpQuiet_nil ?_
      intro wq hq
      have HB7 := Lib.hid (HB.out.trans (hq.1.mono HB.out.size))
      obtain ⟨W7, hW7⟩ : ∃ W7, W7 = wq := ⟨_, rfl⟩
      rw [← hW7]; rw [← hW7] at HB7
      clear hq HZ hW7
      go_wp2_with fail
      go_roundw
      case rel => exact ⟨k + 1, by simp, by omega, by first | exact HB7.out | exact HB7.out.drew⟩
      case measure => simp [intOf]; omega
    · have i1 : ¬ (k : Int) < (L.length : Int) := by omega
      go_wp2_with fail
      go_ret
      exact ⟨rfl, by first | exact HB.out | exact HB.out.drew⟩
end Go.Proofs.YtolhckahphmffaaDoor
