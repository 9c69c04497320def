/- Package rank: a node of a field is switched off, and on. Conditions: each theorem says its own. -/
import Derived.Test.YtdfalipgfnjglaaKne
namespace Go.Proofs.Ytdfalipgfnjglaa
open Go.RowKit
variable {W : World} {A NB : Nat} {b s p : Int} {n : Nat} {pk : Nat → Nat} {st : Fs} {tv : Value}
theorem fd_turn_no (h : FC W A NB b s p n pk st tv) (k : Int) (on : Bool) (hk : inR k 0 ((n : Int) - 1) = false) : Calls Try.prog 136 #[.pointer (some ⟨A, 0, none⟩), .int .i64 k, .bool on] W fun y w' => y = .returned (.int .i64 7) ∧ W = w' := by
  have HT := Lib.hid (fd_there h k)
  rw [hk] at HT
  clear h hk
  go_enter Try.func136, Try.ntmps136
  go_wp2_with fail
  refine HT.out.mono ?_
  rintro y w1 ⟨rfl, rfl⟩
  go_wp2_with fail
  go_ret
  exact ⟨rfl, rfl⟩
theorem fd_turn_nil (k : Int) (on : Bool) (w : World) : Calls Try.prog 136 #[.pointer none, .int .i64 k, .bool on] w fun y w' => y = .returned (.int .i64 7) ∧ w = w' := by
  have HT := Lib.hid (fun u => fd_there_nil k u)
  go_enter Try.func136, Try.ntmps136
  go_wp2_with fail
  refine (HT.out _).mono ?_
  rintro y w1 ⟨rfl, rfl⟩
  go_wp2_with fail
  go_ret
  exact ⟨rfl, rfl⟩
theorem fd_turn_is (h : FC W A NB b s p n pk st tv) (k : Int) (on : Bool) (hk : inR k 0 ((n : Int) - 1) = true) (ho : aliveB n st k = on) : Calls Try.prog 136 #[.pointer (some ⟨A, 0, none⟩), .int .i64 k, .bool on] W fun y w' => y = .returned (.int .i64 8) ∧ W = w' := by
  have HT := Lib.hid (fd_there h k)
  have HA := Lib.hid (fd_alive h k)
  rw [hk] at HT
  rw [ho] at HA
  have i0 : (on == on) = true := by simp
  clear h hk ho
  go_enter Try.func136, Try.ntmps136
  go_wp2_with fail
  refine HT.out.mono ?_
  rintro y w1 ⟨rfl, rfl⟩
  go_wp2_with fail
  refine HA.out.mono ?_
  rintro y w1 ⟨rfl, rfl⟩
  cases on
  all_goals
    go_wp2_with fail
    go_ret
    exact ⟨rfl, rfl⟩
theorem FC.off (h : FC W A NB b s p n pk st tv) {k : Nat} (hk : k < n) : FC (W.setCell ⟨NB, k, none⟩ (.pointer none)) A NB b s p n pk (setS st k none) tv := by
  have hal : ∀ j, setS st k none j ≠ none → j ≠ k ∧ st j ≠ none := fun j hj => by
    unfold setS at hj
    by_cases e : j = k
    · rw [if_pos e] at hj; exact absurd rfl hj
    · rw [if_neg e] at hj; exact ⟨e, hj⟩
  have hmv : ∀ j, j ≠ NB → (W.setCell ⟨NB, k, none⟩ (.pointer none)).heap[j]? = W.heap[j]? := fun j hj => Below.heap_setCell W ⟨NB, k, none⟩ _ j hj
  refine ⟨h.blk.on (hmv _ h.ne), ?_, fun j hj e he => ?_, fun j hj hjs => h.ap j hj (hal j hjs).2, fun i j hi hj his hjs e => h.inj i j hi hj (hal i his).2 (hal j hjs).2 e, h.ne, h.n32⟩
  · have h2 := h.row.put1 (i := k) (by rw [row_len]; exact hk) (.pointer none)
    have e : (rowC n pk st).set k (.pointer none) = rowC n pk (setS st k none) := by
      apply List.ext_getElem
      · rw [List.length_set, row_len, row_len]
      · intro j h3 h4
        rw [row_len] at h4
        have h5 := row_at pk (setS st k none) h4
        have h6 := row_at pk st h4
        rw [List.getElem?_eq_getElem (by rw [row_len]; exact h4), Option.some.injEq] at h5 h6
        rw [List.getElem_set, h5, h6]
        unfold ptrV setS
        by_cases e : k = j
        · rw [if_pos e, if_pos e.symm]
        · rw [if_neg e, if_neg (fun h => e h.symm)]
    rw [e] at h2; exact h2
  · have h3 := hal j (by rw [he]; exact fun e => by cases e)
    unfold setS at he
    rw [if_neg h3.1] at he
    exact (h.node j hj e he).on (hmv _ (h.ap j hj h3.2).2)
theorem fd_turn_off (h : FC W A NB b s p n pk st tv) (k : Nat) (hk : k < n) {d : Nd} (hd : st k = some d) : Calls Try.prog 136 #[.pointer (some ⟨A, 0, none⟩), .int .i64 (k : Int), .bool false] W fun y w' => y = .returned (.int .i64 0) ∧ FC w' A NB b s p n pk (setS st k none) tv ∧ Fo (FC.S A NB n pk st) W w' := by
  have HT := Lib.hid (fd_there h k)
  have HA := Lib.hid (fd_alive h k)
  rw [inR_yes (by omega)] at HT
  rw [show aliveB n st (k : Int) = true by unfold aliveB; rw [inR_yes (by omega), Int.toNat_natCast, hd]; rfl] at HA
  have HO := Lib.hid (h.off hk)
  have HF := Lib.hid (show Fo (FC.S A NB n pk st) W (W.setCell ⟨NB, k, none⟩ (.pointer none)) from Fo.of_kp ((Kp.refl NB (.slice none 0 0) W).set k _) (.inr (.inl rfl)))
  obtain ⟨_, _, _, c3, _⟩ := h.cell0
  have cR := h.cellR hk
  have fR := h.row.frozenAt k
  have i1 : (0 : Int) ≤ (k : Int) := by omega
  have i2 : (k : Int) < (n : Int) := by omega
  rw [ptr_some hd] at cR
  clear h hd hk
  go_enter Try.func136, Try.ntmps136
  go_wp2_with fail
  refine HT.out.mono ?_
  rintro y w1 ⟨rfl, rfl⟩
  go_wp2_with fail
  refine HA.out.mono ?_
  rintro y w1 ⟨rfl, rfl⟩
  go_wp2_with fail
  go_ret
  exact ⟨rfl, HO.out, HF.out⟩
theorem FC.back (h : FC W A NB b s p n pk st tv) {k B : Nat} (hk : k < n) (hs : st k = none) {d : Nd} (hB : Blk W B 214 (ndC b s p k d)) (hne : ∀ j, FC.S A NB n pk st j → j ≠ B) : FC (W.setCell ⟨NB, k, none⟩ (.pointer (some ⟨B, 0, none⟩))) A NB b s p n (fun j => if j = k then B else pk j) (setS st k (some d)) tv := by
  have hmv : ∀ j, j ≠ NB → (W.setCell ⟨NB, k, none⟩ (.pointer (some ⟨B, 0, none⟩))).heap[j]? = W.heap[j]? := fun j hj => Below.heap_setCell W ⟨NB, k, none⟩ _ j hj
  have hal : ∀ j, j ≠ k → setS st k (some d) j ≠ none → st j ≠ none := fun j hjk hj => by
    unfold setS at hj
    rw [if_neg hjk] at hj; exact hj
  refine ⟨h.blk.on (hmv _ h.ne), ?_, fun j hj e he => ?_, fun j hj hjs => ?_, fun i j hi hj his hjs e => ?_, h.ne, h.n32⟩
  · have h2 := h.row.put1 (i := k) (by rw [row_len]; exact hk) (.pointer (some ⟨B, 0, none⟩))
    have e : (rowC n pk st).set k (.pointer (some ⟨B, 0, none⟩)) = rowC n (fun j => if j = k then B else pk j) (setS st k (some d)) := by
      apply List.ext_getElem
      · rw [List.length_set, row_len, row_len]
      · intro j h3 h4
        rw [row_len] at h4
        have h5 := row_at (fun j => if j = k then B else pk j) (setS st k (some d)) h4
        have h6 := row_at pk st h4
        rw [List.getElem?_eq_getElem (by rw [row_len]; exact h4), Option.some.injEq] at h5 h6
        rw [List.getElem_set, h5, h6]
        unfold ptrV setS
        by_cases e : k = j
        · subst e
          rw [if_pos rfl, if_pos rfl]
          show _ = Value.pointer (some ⟨if k = k then B else pk k, 0, none⟩)
          rw [if_pos rfl]
        · have e2 : ¬ j = k := fun h => e h.symm
          rw [if_neg e, if_neg e2]
          cases st j with
          | none => rfl
          | some d2 =>
            show _ = Value.pointer (some ⟨if j = k then B else pk j, 0, none⟩)
            rw [if_neg e2]
    rw [e] at h2; exact h2
  · unfold setS at he
    by_cases ejk : j = k
    · rw [if_pos ejk] at he; cases he; subst ejk
      rw [if_pos rfl]
      exact hB.on (hmv _ (fun e => hne NB (.inr (.inl rfl)) e.symm))
    · rw [if_neg ejk] at he
      rw [if_neg ejk]
      exact (h.node j hj e he).on (hmv _ (h.ap j hj (by rw [he]; exact fun e => by cases e)).2)
  · by_cases ejk : j = k
    · rw [if_pos ejk]; exact ⟨fun e => hne A (.inl rfl) e.symm, fun e => hne NB (.inr (.inl rfl)) e.symm⟩
    · rw [if_neg ejk]; exact h.ap j hj (hal j ejk hjs)
  · by_cases ei : i = k
    · by_cases ej : j = k
      · rw [ei, ej]
      · rw [if_pos ei, if_neg ej] at e
        exact absurd e.symm (hne _ (.inr (.inr ⟨j, hj, hal j ej hjs, rfl⟩)))
    · by_cases ej : j = k
      · rw [if_neg ei, if_pos ej] at e
        exact absurd e (hne _ (.inr (.inr ⟨i, hi, hal i ei his, rfl⟩)))
      · rw [if_neg ei, if_neg ej] at e
        exact h.inj i j hi hj (hal i ei his) (hal j ej hjs) e
set_option maxHeartbeats 1000000 in
theorem fd_turn_on (h : FC W A NB b s p n pk st tv) (hc : rightR b s p = true) (k : Nat) (hk : k < n) (hs : st k = none) : Calls Try.prog 136 #[.pointer (some ⟨A, 0, none⟩), .int .i64 (k : Int), .bool true] W fun y w' => y = .returned (.int .i64 0) ∧ ∃ B, FC w' A NB b s p n (fun j => if j = k then B else pk j) (setS st k (some ⟨false, 0, 0⟩)) tv ∧ W.heap.size ≤ B ∧ Fo (FC.S A NB n pk st) W w' := by
  have HT := Lib.hid (fd_there h k)
  have HA := Lib.hid (fd_alive h k)
  rw [inR_yes (by omega)] at HT
  rw [show aliveB n st (k : Int) = false by unfold aliveB; rw [inR_yes (by omega), Int.toNat_natCast, hs]; rfl] at HA
  have hn32 := h.n32
  have HN := Lib.hid (fun u => rk_new_yes b s p (k : Int) hc (by omega) u)
  have HO := Lib.hid (show FC (W.setCell ⟨NB, k, none⟩ (.pointer none)) A NB b s p n pk st tv from (h.off hk).cong (fun j => by unfold setS; by_cases e : j = k; rw [if_pos e, e, hs]; rw [if_neg e]))
  have HF := Lib.hid (show Fo (FC.S A NB n pk st) W (W.setCell ⟨NB, k, none⟩ (.pointer none)) from Fo.of_kp ((Kp.refl NB (.slice none 0 0) W).set k _) (.inr (.inl rfl)))
  obtain ⟨_, _, _, c3, _⟩ := h.cell0
  have cR := h.cellR hk
  have fR := h.row.frozenAt k
  have i1 : (0 : Int) ≤ (k : Int) := by omega
  have i2 : (k : Int) < (n : Int) := by omega
  rw [ptr_none hs] at cR
  have HS := Lib.hid hs; have HKN := Lib.hid hk
  have HSZ := Lib.hid (setCell_sizeG W ⟨NB, k, none⟩ (.pointer none))
  clear h hs hk hn32 hc
  go_enter Try.func136, Try.ntmps136
  go_wp2_with fail
  refine HT.out.mono ?_
  rintro y w1 ⟨rfl, rfl⟩
  go_wp2_with fail
  refine HA.out.mono ?_
  rintro y w1 ⟨rfl, rfl⟩
  go_upto_region 7 with fail
  obtain ⟨W1, hW1⟩ : ∃ W1, W1 = W.setCell ⟨NB, k, none⟩ (.pointer none) := ⟨_, rfl⟩
  rw [← hW1] at HO HF HSZ ⊢
  clear c3 cR fR hW1
  obtain ⟨c0, c1, c2, c3, _⟩ := HO.out.cell0
  go_cut [1] (fun s1 wx => s1 = .int .i64 (k : Int) ∧ ∃ B, FC wx A NB b s p n (fun j => if j = k then B else pk j) (setS st k (some ⟨false, 0, 0⟩)) tv ∧ W.heap.size ≤ B ∧ Fo (FC.S A NB n pk st) W wx)
  case first =>
    go_region_law (first | (go_simp; go_at_call 56; refine (HN.out _).mono ?_; rintro y w3 ⟨B, rfl, hB, hsz, hb3⟩; have hb4 : Below W1.heap.size W1 w3 := (by first | exact hb3 | exact (Below.refl _ _).drew.trans hb3); have HO3 := HO.out.on hb4; have c33 : w3.cell? ⟨A, 3, none⟩ = some (.slice (some ⟨NB, 0, none⟩) n n) := HO3.cell0.2.2.2.1; have cR3 := HO3.cellR HKN.out; rw [ptr_none HS.out] at cR3; have fR3 := HO3.row.frozenAt k))
    all_goals
      go_wp2_with fail
      go_meet
      exact ⟨rfl, B, HO3.back HKN.out HS.out hB (fun j hj e => by have h7 := HO.out.lt hj; have h8 : W1.heap.size ≤ B := hsz; omega), by have h8 : W1.heap.size ≤ B := hsz; rw [HSZ.out] at h8; exact h8, (HF.out.step hb4).trans (T := FC.S A NB n pk st) (Fo.of_kp ((Kp.refl NB (.slice none 0 0) w3).set k _) (.inr (.inl rfl))) (fun _ h => .inl h)⟩
  case rest =>
  obtain ⟨rfl, B, h1, h2, h3⟩ := hcut
  go_wp2_with fail
  go_ret
  exact ⟨rfl, B, h1, h2, h3⟩
end Go.Proofs.Ytdfalipgfnjglaa
