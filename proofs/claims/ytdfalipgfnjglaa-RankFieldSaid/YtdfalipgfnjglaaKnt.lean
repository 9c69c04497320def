/- The document's own field of layer 21 in the memory: a node is switched off and on, who is master. Conditions: each theorem says its own. -/
import Derived.Test.YtdfalipgfnjglaaKns
import Derived.Test.YtdfalipgfnjglaaKnk
namespace Go.Proofs.Ytdfalipgfnjglaa
open Go.RowKit
theorem Rw.put {W : World} {a : Option Addr} {n cap : Nat} {L : List Value} (h : Rw W 1 (.slice a n cap) L) {k : Nat} (hk : k < n) : ∃ g off, a = some ⟨g, off, none⟩ ∧ g < W.heap.size ∧ (∀ u, L[k]? = some u → W.cell? ⟨g, off + k, none⟩ = some u) ∧ W.frozen? ⟨g, off + k, none⟩ = false ∧ ∀ v, Rw (W.setCell ⟨g, off + k, none⟩ v) 1 (.slice a n cap) (L.set k v) := by
  obtain ⟨n', cap', a', e, h1, h2, h3, h4⟩ := h
  injection e with e1 e2 e3
  subst e1 e2 e3
  rcases h4 with ⟨_, h5⟩ | ⟨g, off, rfl, hg, hw, hc⟩
  · omega
  · have hkl : k < L.length := by omega
    have hck := hc k L[k] (List.getElem?_eq_getElem hkl)
    refine ⟨g, off, rfl, hg, fun u hu => hc k u hu, (hw k (by omega)).2, fun v => ⟨n, cap, _, rfl, by rw [List.length_set]; exact h1, h2, h3, .inr ⟨g, off, rfl, by rw [setCell_sizeG]; exact hg, fun j hj => ⟨?_, by rw [World.frozen?_setCell]; exact (hw j hj).2⟩, fun j u hj => ?_⟩⟩⟩
    · by_cases ej : j = k
      · subst ej; rw [World.cell?_setCell_same W _ _ hck]; rfl
      · rw [World.cell?_setCell_other W _ _ _ (by intro e; injection e with _ e; omega)]; exact (hw j hj).1
    · by_cases ej : j = k
      · subst ej
        rw [List.getElem?_set_self (by omega)] at hj
        rw [World.cell?_setCell_same W _ _ hck, ← hj]
      · rw [List.getElem?_set_ne (fun e => ej e.symm)] at hj
        rw [World.cell?_setCell_other W _ _ _ (by intro e; injection e with _ e; omega)]; exact hc j u hj
/-- The block that a slice lies in. -/
def OB (la : Option Addr) (j : Nat) : Prop := ∀ n c, (Value.slice la n c).ownBlock = some j
theorem ob_of {la : Option Addr} {n c j : Nat} (h : (Value.slice la n c).ownBlock = some j) : OB la j := fun _ _ => by cases la <;> exact h
theorem ob_at {g off : Nat} : OB (some ⟨g, off, none⟩) g := fun _ _ => rfl
theorem ob_eq {g off j : Nat} (h : OB (some ⟨g, off, none⟩) j) : g = j := Option.some.inj (h 0 0)
/-- The document's field's own memory. -/
structure RC (W : World) (A : Nat) (la : Option Addr) (lc : Nat) (b s p : Int) (n : Nat) (pk : Nat → Nat) (st : Fs) (tv : Value) : Prop where
  blk : Blk W A 145 [.int .i64 b, .int .i64 s, .int .i64 p, .slice la n lc, tv]
  row : Rw W 1 (.slice la n lc) (rowC n pk st)
  node : ∀ k, k < n → ∀ d, st k = some d → Blk W (pk k) 128 (ndC b s p k d)
  ap : ∀ k, k < n → st k ≠ none → pk k ≠ A ∧ ¬ OB la (pk k)
  inj : ∀ j k, j < n → k < n → st j ≠ none → st k ≠ none → pk j = pk k → j = k
  ne : ¬ OB la A
  n32 : n ≤ 32
/-- The blocks that are such a field's. -/
def RC.S (A : Nat) (la : Option Addr) (n : Nat) (pk : Nat → Nat) (st : Fs) : Nat → Prop := fun j => j = A ∨ OB la j ∨ ∃ k, k < n ∧ st k ≠ none ∧ pk k = j
variable {W X : World} {A : Nat} {la : Option Addr} {lc : Nat} {b s p : Int} {n : Nat} {pk : Nat → Nat} {st : Fs} {tv : Value}
theorem RC.moved (h : RC W A la lc b s p n pk st tv) (hs : W.heap.size ≤ X.heap.size) (hb : ∀ j, RC.S A la n pk st j → X.heap[j]? = W.heap[j]?) : RC X A la lc b s p n pk st tv :=
  ⟨h.blk.on (hb _ (.inl rfl)), h.row.on hs (fun g hg => hb g (.inr (.inl (ob_of hg)))), fun k hk d hd => (h.node k hk d hd).on (hb _ (.inr (.inr ⟨k, hk, (fun e => by rw [hd] at e; cases e), rfl⟩))), h.ap, h.inj, h.ne, h.n32⟩
theorem RC.lt (h : RC W A la lc b s p n pk st tv) {j : Nat} (hj : RC.S A la n pk st j) : j < W.heap.size := by
  rcases hj with rfl | h1 | ⟨k, hk, hs, rfl⟩
  · exact h.blk.lt
  · exact h.row.lt j (h1 _ _)
  · cases e : st k with
    | none => exact absurd e hs
    | some d => exact (h.node k hk d e).lt
theorem RC.on (h : RC W A la lc b s p n pk st tv) (hb : Below W.heap.size W X) : RC X A la lc b s p n pk st tv := h.moved hb.size (fun j hj => hb.block j (h.lt hj))
theorem RC.cong {st' : Fs} (h : RC W A la lc b s p n pk st tv) (e : ∀ k, st' k = st k) : RC W A la lc b s p n pk st' tv := by
  have : st' = st := funext e
  subst this; exact h
theorem RC.cell0 (h : RC W A la lc b s p n pk st tv) : W.cell? ⟨A, 0, none⟩ = some (.int .i64 b) ∧ W.cell? ⟨A, 1, none⟩ = some (.int .i64 s) ∧ W.cell? ⟨A, 2, none⟩ = some (.int .i64 p) ∧ W.cell? ⟨A, 3, none⟩ = some (.slice la n lc) ∧ W.cell? ⟨A, 4, none⟩ = some tv :=
  ⟨h.blk.cellAt (i := 0) (by simp), h.blk.cellAt (i := 1) (by simp), h.blk.cellAt (i := 2) (by simp), h.blk.cellAt (i := 3) (by simp), h.blk.cellAt (i := 4) (by simp)⟩
theorem RC.cellR (h : RC W A la lc b s p n pk st tv) {k : Nat} (hk : k < n) : ∃ g off, la = some ⟨g, off, none⟩ ∧ g < W.heap.size ∧ W.cell? ⟨g, off + k, none⟩ = some (ptrV pk st k) ∧ W.frozen? ⟨g, off + k, none⟩ = false ∧ g ≠ A := by
  obtain ⟨g, off, e, hg, hc, hf, _⟩ := h.row.put hk
  exact ⟨g, off, e, hg, hc _ (row_at pk st hk), hf, fun e2 => h.ne (by rw [e, ← e2]; exact ob_at)⟩
/-- A node has another state. -/
theorem RC.step (h : RC W A la lc b s p n pk st tv) {k : Nat} (hk : k < n) {d d' : Nd} (hd : st k = some d) (hB : Blk X (pk k) 128 (ndC b s p k d')) (hK : Kp (pk k) (.slice none 0 0) W X) : RC X A la lc b s p n pk (setS st k (some d')) tv := by
  have hs : st k ≠ none := by rw [hd]; exact fun e => by cases e
  have hal : ∀ j, setS st k (some d') j ≠ none → st j ≠ none := fun j hj => by
    unfold setS at hj
    by_cases e : j = k
    · rw [e]; exact hs
    · rw [if_neg e] at hj; exact hj
  have hmv : ∀ j, j < W.heap.size → j ≠ pk k → X.heap[j]? = W.heap[j]? := fun j hj hne => hK.block j hj hne (fun e => by cases e)
  have hap := h.ap k hk hs
  refine ⟨h.blk.on (hmv _ h.blk.lt (Ne.symm hap.1)), ?_, fun j hj e he => ?_, fun j hj hjs => h.ap j hj (hal j hjs), fun i j hi hj his hjs e => h.inj i j hi hj (hal i his) (hal j hjs) e, h.ne, h.n32⟩
  · rw [row_eq (pk := pk) (st := st) (fun j hj => ?_)]
    · exact h.row.on hK.size (fun g hg => hmv g (h.row.lt g hg) (fun e => hap.2 (e ▸ ob_of hg)))
    · unfold ptrV setS
      by_cases e : j = k
      · rw [if_pos e, e, hd]
      · rw [if_neg e]
  · unfold setS at he
    by_cases ej : j = k
    · rw [if_pos ej] at he
      injection he with he
      subst he ej; exact hB
    · rw [if_neg ej] at he
      have hjs : st j ≠ none := by rw [he]; exact fun e => by cases e
      exact (h.node j hj e he).on (hmv _ (h.node j hj e he).lt (fun e2 => ej (h.inj j k hj hk hjs hs e2)))
theorem row_set {k : Nat} {pk' : Nat → Nat} {st' : Fs} (_hk : k < n) (h : ∀ j, j < n → j ≠ k → ptrV pk' st' j = ptrV pk st j) : (rowC n pk st).set k (ptrV pk' st' k) = rowC n pk' st' := by
  apply List.ext_getElem
  · rw [List.length_set, row_len, row_len]
  · intro j h3 h4
    rw [row_len] at h4
    have h5 := row_at pk' st' h4
    have h6 := row_at pk st h4
    rw [List.getElem?_eq_getElem (by rw [row_len]; exact h4), Option.some.injEq] at h5 h6
    rw [List.getElem_set, h5, h6]
    by_cases e : k = j
    · rw [if_pos e, e]
    · rw [if_neg e, h j h4 (fun e2 => e e2.symm)]
theorem RC.off (h : RC W A la lc b s p n pk st tv) {k : Nat} (hk : k < n) {g off : Nat} (hla : la = some ⟨g, off, none⟩) : RC (W.setCell ⟨g, off + k, none⟩ (.pointer none)) A la lc b s p n pk (setS st k none) tv := by
  have hal : ∀ j, setS st k none j ≠ none → j ≠ k ∧ st j ≠ none := fun j hj => by
    unfold setS at hj
    by_cases e : j = k
    · rw [if_pos e] at hj; exact absurd rfl hj
    · rw [if_neg e] at hj; exact ⟨e, hj⟩
  have hob : OB la g := by rw [hla]; exact ob_at
  have hmv : ∀ j, ¬ OB la j → (W.setCell ⟨g, off + k, none⟩ (.pointer none)).heap[j]? = W.heap[j]? := fun j hj => Below.heap_setCell W ⟨g, off + k, none⟩ _ j (fun e => hj (by have e : j = g := e; rw [e]; exact hob))
  refine ⟨h.blk.on (hmv _ h.ne), ?_, fun j hj e he => ?_, fun j hj hjs => h.ap j hj (hal j hjs).2, fun i j hi hj his hjs e => h.inj i j hi hj (hal i his).2 (hal j hjs).2 e, h.ne, h.n32⟩
  · obtain ⟨g', off', e, _, _, _, hp⟩ := h.row.put hk
    rw [hla] at e
    injection e with e; injection e with e1 e2 _
    subst e1 e2
    have h2 := hp (ptrV pk (setS st k none) k)
    rw [row_set hk (fun j hj hjk => by unfold ptrV setS; rw [if_neg hjk])] at h2
    rw [ptr_none (show setS st k none k = none by unfold setS; rw [if_pos rfl])] at h2
    exact h2
  · have h3 := hal j (by rw [he]; exact fun e => by cases e)
    unfold setS at he
    rw [if_neg h3.1] at he
    exact (h.node j hj e he).on (hmv _ (h.ap j hj h3.2).2)
theorem RC.back (h : RC W A la lc b s p n pk st tv) {k B : Nat} (hk : k < n) (_hs : st k = none) {d : Nd} (hB : Blk W B 128 (ndC b s p k d)) (hne : ∀ j, RC.S A la n pk st j → j ≠ B) {g off : Nat} (hla : la = some ⟨g, off, none⟩) : RC (W.setCell ⟨g, off + k, none⟩ (.pointer (some ⟨B, 0, none⟩))) A la lc b s p n (fun j => if j = k then B else pk j) (setS st k (some d)) tv := by
  have hal : ∀ j, j ≠ k → setS st k (some d) j ≠ none → st j ≠ none := fun j hjk hj => by
    unfold setS at hj; rw [if_neg hjk] at hj; exact hj
  have hob : OB la g := by rw [hla]; exact ob_at
  have hmv : ∀ j, ¬ OB la j → (W.setCell ⟨g, off + k, none⟩ (.pointer (some ⟨B, 0, none⟩))).heap[j]? = W.heap[j]? := fun j hj => Below.heap_setCell W ⟨g, off + k, none⟩ _ j (fun e => hj (by have e : j = g := e; rw [e]; exact hob))
  have hBob : ¬ OB la B := fun hO => hne B (.inr (.inl hO)) rfl
  refine ⟨h.blk.on (hmv _ h.ne), ?_, fun j hj e he => ?_, fun j hj hjs => ?_, fun i j hi hj his hjs e => ?_, h.ne, h.n32⟩
  · obtain ⟨g', off', e, _, _, _, hp⟩ := h.row.put hk
    rw [hla] at e
    injection e with e; injection e with e1 e2 _
    subst e1 e2
    have h2 := hp (ptrV (fun j => if j = k then B else pk j) (setS st k (some d)) k)
    rw [row_set hk (fun j hj hjk => by unfold ptrV setS; simp only [if_neg hjk])] at h2
    rw [show ptrV (fun j => if j = k then B else pk j) (setS st k (some d)) k = .pointer (some ⟨B, 0, none⟩) by unfold ptrV setS; simp] at h2
    exact h2
  · by_cases ej : j = k
    · subst ej
      unfold setS at he
      rw [if_pos rfl] at he
      injection he with he
      subst he
      simp only [if_true]
      exact hB.on (hmv _ hBob)
    · have hjs := hal j ej (by rw [he]; exact fun e => by cases e)
      unfold setS at he
      rw [if_neg ej] at he
      simp only [if_neg ej]
      exact (h.node j hj e he).on (hmv _ (h.ap j hj hjs).2)
  · by_cases ej : j = k
    · simp only [if_pos ej]
      exact ⟨fun e => hne A (.inl rfl) e.symm, hBob⟩
    · simp only [if_neg ej]; exact h.ap j hj (hal j ej hjs)
  · by_cases ei : i = k
    · by_cases ej : j = k
      · rw [ei, ej]
      · simp only [if_pos ei, if_neg ej] at e
        exact absurd e.symm (hne (pk j) (.inr (.inr ⟨j, hj, hal j ej hjs, rfl⟩)))
    · by_cases ej : j = k
      · simp only [if_neg ei, if_pos ej] at e
        exact absurd e (hne (pk i) (.inr (.inr ⟨i, hi, hal i ei his, rfl⟩)))
      · simp only [if_neg ei, if_neg ej] at e
        exact h.inj i j hi hj (hal i ei his) (hal j ej hjs) e
theorem RC.tell (h : RC W A la lc b s p n pk st tv) (v : Value) : RC (W.setCell ⟨A, 4, none⟩ v) A la lc b s p n pk st v := by
  have hmv : ∀ j, j ≠ A → (W.setCell ⟨A, 4, none⟩ v).heap[j]? = W.heap[j]? := fun j hj => Below.heap_setCell W ⟨A, 4, none⟩ _ j hj
  exact ⟨h.blk.put1 (i := 4) (by simp) v, h.row.on (by rw [setCell_sizeG]; exact Nat.le_refl _) (fun g hg => hmv g (fun e => h.ne (e ▸ ob_of hg))), fun k hk d hd => (h.node k hk d hd).on (hmv _ (h.ap k hk (by rw [hd]; exact fun e => by cases e)).1), h.ap, h.inj, h.ne, h.n32⟩
theorem rf_crash_no (h : RC W A la lc b s p n pk st tv) (k : Int) (hk : inR k 0 ((n : Int) - 1) = false) : Calls Try.prog 69 #[.pointer (some ⟨A, 0, none⟩), .int .i64 k] W fun y w' => y = .returned (.int .i64 7) ∧ W = w' := by
  obtain ⟨_, _, _, c3, _⟩ := h.cell0
  have h2 : ¬ (0 ≤ k ∧ k ≤ (n : Int) - 1) := of_decide_eq_false hk
  have cs : k < 0 ∨ (¬ k < 0 ∧ (n : Int) ≤ k) := by omega
  clear h hk h2
  rcases cs with h1 | ⟨h1, h2⟩
  · go_enter Try.func69, Try.ntmps69
    go_wp2_with fail
    go_ret
    exact ⟨rfl, rfl⟩
  · go_enter Try.func69, Try.ntmps69
    go_wp2_with fail
    go_ret
    exact ⟨rfl, rfl⟩
theorem rf_crash_is (h : RC W A la lc b s p n pk st tv) (k : Nat) (hk : k < n) (ho : (st k).isSome = false) : Calls Try.prog 69 #[.pointer (some ⟨A, 0, none⟩), .int .i64 (k : Int)] W fun y w' => y = .returned (.int .i64 8) ∧ W = w' := by
  obtain ⟨_, _, _, c3, _⟩ := h.cell0
  obtain ⟨g, off, rfl, _, cR, _, _⟩ := h.cellR hk
  have k1 : ¬ (k : Int) < 0 := by omega
  have k2 : ¬ (n : Int) ≤ (k : Int) := by omega
  have k3 : (k : Int) < (n : Int) := by omega
  have k4 : (0 : Int) ≤ (k : Int) := by omega
  have hv : ptrV pk st k = .pointer none := by
    cases e : st k with
    | none => exact ptr_none e
    | some d => rw [e] at ho; cases ho
  rw [hv] at cR
  clear h hk ho hv
  go_enter Try.func69, Try.ntmps69
  go_wp2_with fail
  go_ret
  exact ⟨rfl, rfl⟩
theorem rf_restart_no (h : RC W A la lc b s p n pk st tv) (k : Int) (hk : inR k 0 ((n : Int) - 1) = false) : Calls Try.prog 71 #[.pointer (some ⟨A, 0, none⟩), .int .i64 k] W fun y w' => y = .returned (.int .i64 7) ∧ W = w' := by
  obtain ⟨_, _, _, c3, _⟩ := h.cell0
  have h2 : ¬ (0 ≤ k ∧ k ≤ (n : Int) - 1) := of_decide_eq_false hk
  have cs : k < 0 ∨ (¬ k < 0 ∧ (n : Int) ≤ k) := by omega
  clear h hk h2
  rcases cs with h1 | ⟨h1, h2⟩
  · go_enter Try.func71, Try.ntmps71
    go_wp2_with fail
    go_ret
    exact ⟨rfl, rfl⟩
  · go_enter Try.func71, Try.ntmps71
    go_wp2_with fail
    go_ret
    exact ⟨rfl, rfl⟩
theorem rf_restart_is (h : RC W A la lc b s p n pk st tv) (k : Nat) (hk : k < n) (ho : (st k).isSome = true) : Calls Try.prog 71 #[.pointer (some ⟨A, 0, none⟩), .int .i64 (k : Int)] W fun y w' => y = .returned (.int .i64 8) ∧ W = w' := by
  obtain ⟨_, _, _, c3, _⟩ := h.cell0
  obtain ⟨g, off, rfl, _, cR, _, _⟩ := h.cellR hk
  have k1 : ¬ (k : Int) < 0 := by omega
  have k2 : ¬ (n : Int) ≤ (k : Int) := by omega
  have k3 : (k : Int) < (n : Int) := by omega
  have k4 : (0 : Int) ≤ (k : Int) := by omega
  have hv : ∃ q, ptrV pk st k = .pointer (some q) := by
    cases e : st k with
    | none => rw [e] at ho; cases ho
    | some d => exact ⟨_, ptr_some e⟩
  obtain ⟨q, hv⟩ := hv; rw [hv] at cR
  clear h hk ho hv
  go_enter Try.func71, Try.ntmps71
  go_wp2_with fail
  go_ret
  exact ⟨rfl, rfl⟩
theorem rf_crash_yes (h : RC W A la lc b s p n pk st tv) (k : Nat) (hk : k < n) {d : Nd} (hd : st k = some d) : Calls Try.prog 69 #[.pointer (some ⟨A, 0, none⟩), .int .i64 (k : Int)] W fun y w' => y = .returned (.int .i64 0) ∧ RC w' A la lc b s p n pk (setS st k none) tv ∧ Fo (RC.S A la n pk st) W w' := by
  obtain ⟨_, _, _, c3, _⟩ := h.cell0
  obtain ⟨g, off, rfl, hg, cR, cF, _⟩ := h.cellR hk
  have k1 : ¬ (k : Int) < 0 := by omega
  have k2 : ¬ (n : Int) ≤ (k : Int) := by omega
  have k3 : (k : Int) < (n : Int) := by omega
  have k4 : (0 : Int) ≤ (k : Int) := by omega
  rw [ptr_some hd] at cR
  have HO := Lib.hid (h.off hk rfl)
  have HF := Lib.hid (show Fo (RC.S A (some ⟨g, off, none⟩) n pk st) W (W.setCell ⟨g, off + k, none⟩ (.pointer none)) from Fo.of_kp ((Kp.refl g (.slice none 0 0) W).set (off + k) _) (.inr (.inl ob_at)))
  clear h hk hd
  go_enter Try.func69, Try.ntmps69
  go_wp2_with fail
  go_ret
  exact ⟨rfl, HO.out, HF.out⟩
theorem rf_restart_yes (h : RC W A la lc b s p n pk st tv) (hc : rightR b s p = true) (k : Nat) (hk : k < n) (hs : st k = none) : Calls Try.prog 71 #[.pointer (some ⟨A, 0, none⟩), .int .i64 (k : Int)] W fun y w' => y = .returned (.int .i64 0) ∧ ∃ B, RC w' A la lc b s p n (fun j => if j = k then B else pk j) (setS st k (some ⟨false, 0, 0⟩)) tv ∧ W.heap.size ≤ B ∧ Fo (RC.S A la n pk st) W w' := by
  obtain ⟨c0, c1, c2, c3, _⟩ := h.cell0
  have hn := h.n32
  have HN := Lib.hid (rrk_new_yes b s p (k : Int) hc (by omega) W)
  obtain ⟨g, off, rfl, hg, cR, cF, hgA⟩ := h.cellR hk
  have k1 : ¬ (k : Int) < 0 := by omega
  have k2 : ¬ (n : Int) ≤ (k : Int) := by omega
  have k3 : (k : Int) < (n : Int) := by omega
  have k4 : (0 : Int) ≤ (k : Int) := by omega
  rw [ptr_none hs] at cR
  have HH := Lib.hid h; have HK := Lib.hid hk; have HS := Lib.hid hs
  clear h hk hs hc hn
  go_enter Try.func71, Try.ntmps71
  go_wp2_with fail
  refine HN.out.mono ?_
  rintro y w1 ⟨B, rfl, hB, hBs, hb⟩
  have HH1 := Lib.hid (HH.out.on hb)
  obtain ⟨g1, off1, e1, hg1, cR1, cF1, hgA1⟩ := HH1.out.cellR HK.out
  injection e1 with e1; injection e1 with e1 e2 _
  subst e1 e2
  obtain ⟨_, _, _, d3, _⟩ := HH1.out.cell0
  have HO := Lib.hid (HH1.out.back HK.out HS.out hB (fun j hj => by have := HH.out.lt hj; omega) rfl)
  have HF := Lib.hid (show Fo (RC.S A (some ⟨g, off, none⟩) n pk st) W (w1.setCell ⟨g, off + k, none⟩ (.pointer (some ⟨B, 0, none⟩))) from (Fo.of_below hb).trans (T := RC.S A (some ⟨g, off, none⟩) n pk st) (Fo.of_kp ((Kp.refl g (.slice none 0 0) w1).set (off + k) _) (.inr (.inl ob_at))) (fun _ h => .inl h))
  have HBS := Lib.hid hBs
  rw [ptr_none HS.out] at cR1
  clear hB hBs hb c0 c1 c2 c3 cR cF
  go_wp2_with fail
  go_ret
  exact ⟨rfl, B, HO.out, HBS.out, HF.out⟩
end Go.Proofs.Ytdfalipgfnjglaa
