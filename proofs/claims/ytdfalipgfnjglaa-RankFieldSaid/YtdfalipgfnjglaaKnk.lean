/- Package rank: a field: its tick, who is master, a crash and a restart; a new one. Conditions: each theorem says its own. -/
import Derived.Test.YtdfalipgfnjglaaKng
import Derived.Laws.IdiomCopy
namespace Go.Proofs.Ytdfalipgfnjglaa
open Go.RowKit Go.Shelf
/-- A field in the memory. -/
structure FA (W : World) (A NB : Nat) (b s p : Int) (n : Nat) (pk : Nat → Nat) (st : Fs) (ta : Option Addr) (tc : Nat) (told : List Int) : Prop where
  c : FC W A NB b s p n pk st (.slice ta told.length tc)
  rd : Ints W ta told
  ta : ∀ g off, ta = some ⟨g, off, none⟩ → g < W.heap.size ∧ ¬ FC.S A NB n pk st g
  fi : FI b s p n st told
  rc : rightR b s p = true
  tl : told.length ≤ 32
variable {W X : World} {A NB : Nat} {b s p : Int} {n : Nat} {pk : Nat → Nat} {st : Fs} {ta : Option Addr} {tc : Nat} {told : List Int}
theorem FA.on (h : FA W A NB b s p n pk st ta tc told) (hb : Below W.heap.size W X) : FA X A NB b s p n pk st ta tc told := ⟨h.c.on hb, h.rd.on hb, fun g off e => ⟨Nat.lt_of_lt_of_le (h.ta g off e).1 hb.size, (h.ta g off e).2⟩, h.fi, h.rc, h.tl⟩
theorem FA.moved (h : FA W A NB b s p n pk st ta tc told) (hb : ∀ j, j < W.heap.size → (FC.S A NB n pk st j ∨ ∃ off, ta = some ⟨j, off, none⟩) → X.heap[j]? = W.heap[j]?) (hs : W.heap.size ≤ X.heap.size) : FA X A NB b s p n pk st ta tc told :=
  ⟨h.c.moved (fun j hj => hb j (h.c.lt hj) (.inl hj)), fun j hj => by
    obtain ⟨g, off, h1, h2, h3⟩ := h.rd j hj
    exact ⟨g, off, h1, Nat.lt_of_lt_of_le h2 hs, (World.cell?_of_block (hb g h2 (.inr ⟨off, h1⟩))).trans h3⟩, fun g off e => ⟨Nat.lt_of_lt_of_le (h.ta g off e).1 hs, (h.ta g off e).2⟩, h.fi, h.rc, h.tl⟩
theorem FA.lts (h : FA W A NB b s p n pk st ta tc told) {j : Nat} (hj : FC.S A NB n pk st j ∨ ∃ off, ta = some ⟨j, off, none⟩) : j < W.heap.size := by
  rcases hj with hj | ⟨off, e⟩
  · exact h.c.lt hj
  · exact (h.ta j off e).1
theorem FA.step (h : FA W A NB b s p n pk st ta tc told) {B : Nat} (hk : Kp B (.slice none 0 0) W X) (hB : ∀ j, (FC.S A NB n pk st j ∨ ∃ off, ta = some ⟨j, off, none⟩) → j ≠ B) : FA X A NB b s p n pk st ta tc told := h.moved (fun j hj hS => hk.block j hj (hB j hS) (fun e => by cases e)) hk.size
theorem FC.tell {tv : Value} (h : FC W A NB b s p n pk st tv) (v : Value) : FC (W.setCell ⟨A, 4, none⟩ v) A NB b s p n pk st v := by
  have hmv : ∀ j, j ≠ A → (W.setCell ⟨A, 4, none⟩ v).heap[j]? = W.heap[j]? := fun j hj => Below.heap_setCell W ⟨A, 4, none⟩ _ j hj
  exact ⟨h.blk.put1 (i := 4) (by simp) v, h.row.on (hmv _ (fun e => h.ne e.symm)), fun k hk d hd => (h.node k hk d hd).on (hmv _ (h.ap k hk (fun e => by rw [hd] at e; cases e)).1), h.ap, h.inj, h.ne, h.n32⟩
/-- What is heard. -/
def hearI (lost : Bool) (told : List Int) : List Int := if lost = true then [] else told
theorem T_S {j : Nat} (h : FC.T n pk st j) : FC.S A NB n pk st j := .inr (.inr h)
theorem tkS_alive {L : List Int} {k : Nat} : tkS b s p L st k ≠ none ↔ st k ≠ none := by
  cases h : st k with
  | none => rw [tkS_none h]
  | some d => rw [tkS_of h]; simp
theorem S_tick {L : List Int} {j : Nat} : FC.S A NB n pk (tkS b s p L st) j ↔ FC.S A NB n pk st j := by
  unfold FC.S
  constructor
  · rintro (h | h | ⟨k, h1, h2, h3⟩)
    · exact .inl h
    · exact .inr (.inl h)
    · exact .inr (.inr ⟨k, h1, tkS_alive.1 h2, h3⟩)
  · rintro (h | h | ⟨k, h1, h2, h3⟩)
    · exact .inl h
    · exact .inr (.inl h)
    · exact .inr (.inr ⟨k, h1, tkS_alive.2 h2, h3⟩)
set_option maxHeartbeats 1000000 in
theorem fd_tick (h : FA W A NB b s p n pk st ta tc told) (lost : Bool) : Calls Try.prog 73 #[.pointer (some ⟨A, 0, none⟩), .bool lost] W fun y w' => y = .returned (.tuple #[]) ∧ ∃ ya yc, FA w' A NB b s p n pk (tkS b s p (hearI lost told) st) ya yc (pickI n (tellB b s p (hearI lost told) st)) ∧ Fo (FC.S A NB n pk st) W w' := by
  obtain ⟨_, _, _, _, c4⟩ := h.c.cell0
  have hcl := h.c.blk.lt
  have HA := Lib.hid h
  have HTL := Lib.hid (pick_len n (tellB b s p (hearI lost told) st))
  obtain ⟨ha, hcap, hW1, hlen⟩ : ∃ ha hcap, (Value.slice ha (hearI lost told).length hcap = if lost = true then .slice none 0 0 else .slice ta told.length tc) ∧ (∀ u, Below W.heap.size W u → Ints u ha (hearI lost told)) ∧ (∀ g off, ha = some ⟨g, off, none⟩ → ¬ FC.T n pk st g) ∧ (hearI lost told).length ≤ 32 := by
    cases lost
    · exact ⟨ta, tc, rfl, fun u hu => h.rd.on hu, fun g off e hT => (h.ta g off e).2 (T_S hT), h.tl⟩
    · exact ⟨none, 0, rfl, fun u hu => Ints.nil _ _, (fun g off e => by cases e), by simp [hearI]⟩
  obtain ⟨hRn0, hTn, hl32⟩ := hlen
  obtain ⟨L, hL⟩ : ∃ L, L = hearI lost told := ⟨_, rfl⟩
  rw [← hL] at hW1 hRn0 hl32 HTL ⊢
  obtain ⟨W1, hWW⟩ : ∃ W1, W1 = W.alloc (.cells #[Value.slice ha L.length hcap] 79) := ⟨_, rfl⟩
  have hb1 : Below W.heap.size W W1 := by rw [hWW]; exact (Below.refl _ W).alloc (Nat.le_refl _) _
  have hH : Blk W1 W.heap.size 79 [.slice ha L.length hcap] := by rw [hWW]; exact Blk.new W 79 [.slice ha L.length hcap]
  have HTH := Lib.hid (fd_those_tick (h.c.on hb1) h.rc h.fi.ok W.heap.size L ha hcap (by omega) hH (fun hT => by have := h.c.lt (T_S hT); omega) (hRn0 W1 hb1) hTn)
  have HB1 := Lib.hid hb1
  have HFI := Lib.hid (h.fi.tick (rightR_rc h.rc) L)
  have HRC := Lib.hid h.rc
  have HN := Lib.hid h.c.n32
  have hWW2 := hWW
  have HSZ := Lib.hid hb1.size
  have HLT := Lib.hid (fun j hj => h.c.lt (j := j) hj)
  cases lost
  all_goals
    clear hb1 hH hRn0 hTn hl32 hL h
    simp only [if_true, Bool.false_eq_true, if_false] at hW1
    rw [hW1] at hWW
    clear hW1 hWW2
    go_enter Try.func73, Try.ntmps73
    go_wp2_with fail
    rw [← hWW]
    refine HTH.out.mono ?_
    rintro y w2 ⟨ya, yc, rfl, hC, hI, hG, hF⟩
    have HC2 := Lib.hid hC; have HI2 := Lib.hid hI; have HG2 := Lib.hid hG
    have HF2 := Lib.hid (show Fo (FC.S A NB n pk st) W w2 from (Fo.of_below HB1.out).trans (T := FC.T n pk st) hF (fun k hk => .inl (T_S hk)))
    clear hC hI hG hF c4
    have fA := HC2.out.blk.frozenAt 4
    have c4 := HC2.out.cell0.2.2.2.2
    have hcl := HC2.out.blk.lt
    go_wp2_with fail
    go_end0
    refine ⟨rfl, ya, yc, ⟨HC2.out.tell _, ?_, ?_, HFI.out, HRC.out, by have h1 := HTL.out; have h2 := HN.out; omega⟩, HF2.out.trans (T := FC.S A NB n pk st) (Fo.of_kp ((Kp.refl A (.slice none 0 0) w2).set 4 _) (.inl rfl)) (fun _ h => .inl h)⟩
    · intro j hj
      obtain ⟨g, off, h1, h2, h3⟩ := HI2.out j hj
      have h4 := HG2.out g off h1
      have h5 := HSZ.out
      have h6 := HLT.out A (.inl rfl)
      refine ⟨g, off, h1, by rw [setCell_sizeG]; exact h2, ?_⟩
      rw [World.cell?_of_block (Below.heap_setCell w2 ⟨A, 4, none⟩ _ g (by show g ≠ A; omega))]
      exact h3
    · intro g off e
      have h4 := HG2.out g off e
      refine ⟨by rw [setCell_sizeG]; exact h4.2, fun hS => ?_⟩
      have h5 := HSZ.out
      have h6 := HLT.out g (S_tick.1 hS)
      omega
theorem fd_masters (h : FA W A NB b s p n pk st ta tc told) : Calls Try.prog 76 #[.pointer (some ⟨A, 0, none⟩)] W fun y w' => ∃ ya yc, y = .returned (.slice ya (pickI n (mastB st)).length yc) ∧ Ints w' ya (pickI n (mastB st)) ∧ (∀ g off, ya = some ⟨g, off, none⟩ → W.heap.size ≤ g) ∧ Below W.heap.size W w' := by
  have HT := Lib.hid (fd_those_mast h.c)
  obtain ⟨V, hV⟩ : ∃ V, V = pickI n (mastB st) := ⟨_, rfl⟩
  rw [← hV] at HT ⊢
  clear h hV
  go_enter Try.func76, Try.ntmps76
  go_wp2_with fail
  refine HT.out.mono ?_
  rintro y w2 ⟨ya, yc, rfl, _, hI, hG, hF⟩
  have HI := Lib.hid hI; have HG := Lib.hid hG
  have HB := Lib.hid (hF.below (N := W.heap.size) (fun k hk => hk.elim) (Nat.le_refl _))
  clear hI hF hG
  go_wp2_with fail
  go_ret
  exact ⟨ya, yc, rfl, HI.out, fun g off e => (HG.out g off e).1, HB.out⟩
theorem fd_masters_nil (w : World) : Calls Try.prog 76 #[.pointer none] w fun y w' => y = .returned (.slice none 0 0) ∧ w = w' := by
  have HT := Lib.hid (fun v u => fd_those_nil v u)
  go_enter Try.func76, Try.ntmps76
  go_wp2_with fail
  refine (HT.out _ _).mono ?_
  rintro y w2 ⟨rfl, rfl⟩
  go_wp2_with fail
  go_ret
  exact ⟨rfl, rfl⟩
theorem fd_Crash_no (h : FA W A NB b s p n pk st ta tc told) (k : Int) (hk : inR k 0 ((n : Int) - 1) = false) : Calls Try.prog 68 #[.pointer (some ⟨A, 0, none⟩), .int .i64 k] W fun y w' => y = .returned (.int .i64 7) ∧ W = w' := by
  have HT := Lib.hid (fd_turn_no h.c k false hk)
  clear h hk
  go_enter Try.func68, Try.ntmps68
  go_wp2_with fail
  refine HT.out.mono ?_
  rintro y w2 ⟨rfl, rfl⟩
  go_wp2_with fail
  go_ret
  exact ⟨rfl, rfl⟩
theorem fd_Crash_nil (k : Int) (w : World) : Calls Try.prog 68 #[.pointer none, .int .i64 k] w fun y w' => y = .returned (.int .i64 7) ∧ w = w' := by
  have HT := Lib.hid (fd_turn_nil k false w)
  go_enter Try.func68, Try.ntmps68
  go_wp2_with fail
  refine HT.out.mono ?_
  rintro y w2 ⟨rfl, rfl⟩
  go_wp2_with fail
  go_ret
  exact ⟨rfl, rfl⟩
theorem fd_Crash_is (h : FA W A NB b s p n pk st ta tc told) (k : Nat) (hk : k < n) (ho : (st k).isSome = false) : Calls Try.prog 68 #[.pointer (some ⟨A, 0, none⟩), .int .i64 (k : Int)] W fun y w' => y = .returned (.int .i64 8) ∧ W = w' := by
  have HT := Lib.hid (fd_turn_is h.c (k : Int) false (inR_yes (by omega)) (by unfold aliveB; rw [inR_yes (by omega), Int.toNat_natCast, ho]; rfl))
  clear h hk ho
  go_enter Try.func68, Try.ntmps68
  go_wp2_with fail
  refine HT.out.mono ?_
  rintro y w2 ⟨rfl, rfl⟩
  go_wp2_with fail
  go_ret
  exact ⟨rfl, rfl⟩
theorem fd_Restart_no (h : FA W A NB b s p n pk st ta tc told) (k : Int) (hk : inR k 0 ((n : Int) - 1) = false) : Calls Try.prog 70 #[.pointer (some ⟨A, 0, none⟩), .int .i64 k] W fun y w' => y = .returned (.int .i64 7) ∧ W = w' := by
  have HT := Lib.hid (fd_turn_no h.c k true hk)
  clear h hk
  go_enter Try.func70, Try.ntmps70
  go_wp2_with fail
  refine HT.out.mono ?_
  rintro y w2 ⟨rfl, rfl⟩
  go_wp2_with fail
  go_ret
  exact ⟨rfl, rfl⟩
theorem fd_Restart_nil (k : Int) (w : World) : Calls Try.prog 70 #[.pointer none, .int .i64 k] w fun y w' => y = .returned (.int .i64 7) ∧ w = w' := by
  have HT := Lib.hid (fd_turn_nil k true w)
  go_enter Try.func70, Try.ntmps70
  go_wp2_with fail
  refine HT.out.mono ?_
  rintro y w2 ⟨rfl, rfl⟩
  go_wp2_with fail
  go_ret
  exact ⟨rfl, rfl⟩
theorem fd_Restart_is (h : FA W A NB b s p n pk st ta tc told) (k : Nat) (hk : k < n) (ho : (st k).isSome = true) : Calls Try.prog 70 #[.pointer (some ⟨A, 0, none⟩), .int .i64 (k : Int)] W fun y w' => y = .returned (.int .i64 8) ∧ W = w' := by
  have HT := Lib.hid (fd_turn_is h.c (k : Int) true (inR_yes (by omega)) (by unfold aliveB; rw [inR_yes (by omega), Int.toNat_natCast, ho]; rfl))
  clear h hk ho
  go_enter Try.func70, Try.ntmps70
  go_wp2_with fail
  refine HT.out.mono ?_
  rintro y w2 ⟨rfl, rfl⟩
  go_wp2_with fail
  go_ret
  exact ⟨rfl, rfl⟩
theorem FA.ints (h : FA W A NB b s p n pk st ta tc told) (hF : Fo (FC.S A NB n pk st) W X) : Ints X ta told := fun j hj => by
  obtain ⟨g, off, h1, h2, h3⟩ := h.rd j hj
  exact ⟨g, off, h1, Nat.lt_of_lt_of_le h2 hF.size, (World.cell?_of_block (hF.block g h2 (h.ta g off h1).2)).trans h3⟩
theorem fd_Crash_yes (h : FA W A NB b s p n pk st ta tc told) (k : Nat) (hk : k < n) {d : Nd} (hd : st k = some d) : Calls Try.prog 68 #[.pointer (some ⟨A, 0, none⟩), .int .i64 (k : Int)] W fun y w' => y = .returned (.int .i64 0) ∧ FA w' A NB b s p n pk (setS st k none) ta tc told ∧ Fo (FC.S A NB n pk st) W w' := by
  have HT := Lib.hid (fd_turn_off h.c k hk hd)
  have HA := Lib.hid h
  clear h hk hd
  go_enter Try.func68, Try.ntmps68
  go_wp2_with fail
  refine HT.out.mono ?_
  rintro y w2 ⟨rfl, hC, hF⟩
  have HC := Lib.hid hC; have HF := Lib.hid hF
  clear hC hF
  go_wp2_with fail
  go_ret
  refine ⟨rfl, ⟨HC.out, HA.out.ints HF.out, fun g off e => ⟨Nat.lt_of_lt_of_le (HA.out.ta g off e).1 HF.out.size, fun hS => (HA.out.ta g off e).2 ?_⟩, HA.out.fi.crash k, HA.out.rc, HA.out.tl⟩, HF.out⟩
  rcases hS with hS | hS | ⟨j, h1, h2, h3⟩
  · exact .inl hS
  · exact .inr (.inl hS)
  · refine .inr (.inr ⟨j, h1, fun e => h2 ?_, h3⟩)
    unfold setS
    by_cases ejk : j = k
    · rw [if_pos ejk]
    · rw [if_neg ejk, e]
theorem fd_Restart_yes (h : FA W A NB b s p n pk st ta tc told) (k : Nat) (hk : k < n) (hd : st k = none) : Calls Try.prog 70 #[.pointer (some ⟨A, 0, none⟩), .int .i64 (k : Int)] W fun y w' => y = .returned (.int .i64 0) ∧ ∃ B, FA w' A NB b s p n (fun j => if j = k then B else pk j) (setS st k (some ⟨false, 0, 0⟩)) ta tc told ∧ W.heap.size ≤ B ∧ Fo (FC.S A NB n pk st) W w' := by
  have HT := Lib.hid (fd_turn_on h.c h.rc k hk hd)
  have HA := Lib.hid h
  clear h hk hd
  go_enter Try.func70, Try.ntmps70
  go_wp2_with fail
  refine HT.out.mono ?_
  rintro y w2 ⟨rfl, B, hC, hB, hF⟩
  have HC := Lib.hid hC; have HF := Lib.hid hF; have HB := Lib.hid hB
  clear hC hF hB
  go_wp2_with fail
  go_ret
  refine ⟨rfl, B, ⟨HC.out, HA.out.ints HF.out, fun g off e => ⟨Nat.lt_of_lt_of_le (HA.out.ta g off e).1 HF.out.size, fun hS => ?_⟩, HA.out.fi.restart (rightR_rc HA.out.rc) k, HA.out.rc, HA.out.tl⟩, HB.out, HF.out⟩
  obtain ⟨hgl, hno⟩ := HA.out.ta g off e
  rcases hS with hS | hS | ⟨j, h1, h2, h3⟩
  · exact hno (.inl hS)
  · exact hno (.inr (.inl hS))
  · by_cases ejk : j = k
    · have h4 : (if j = k then B else pk j) = g := h3
      rw [if_pos ejk] at h4
      have := HB.out
      omega
    · have h4 : (if j = k then B else pk j) = g := h3
      rw [if_neg ejk] at h4
      unfold setS at h2
      rw [if_neg ejk] at h2
      exact hno (.inr (.inr ⟨j, h1, h2, h4⟩))
theorem info_node : (Try.prog.info? 117).map (fun i => (i.zero, i.size, i.bytes)) = some (some (.pointer none), 1, 8) := by kernel_rfl
theorem zero_rows (n : Nat) (pk : Nat → Nat) : madeCells #[Value.pointer none] (n * 1) = (rowC n pk (fun _ => none)).toArray := by
  apply Array.ext
  · rw [size_madeCells]; simp [row_len]
  · intro i h1 h2
    rw [size_madeCells] at h1
    have em : (madeCells #[Value.pointer none] (n * 1))[i]'(by rw [size_madeCells]; exact h1) = Value.pointer none := by
      simp [madeCells, Nat.mod_one]
    rw [em]
    simp [rowC, ptrV]
theorem make_rows (n : Nat) (h : n ≤ 32) (pk : Nat → Nat) (u : World) : (Instr.makeSlice 220 (.int .i64 (n : Int)) (.int .i64 (n : Int))).run Try.prog u = .ok (.slice (some ⟨u.heap.size, 0, none⟩) n n) (u.alloc (.cells (rowC n pk (fun _ => none)).toArray 117)) := by
  obtain ⟨i0, hi, hz0, hz1, hz2⟩ := info_parts info_node
  have := run_make (P := Try.prog) u 220 117 i0 _ Try.underlying220 hi hz0 .i64 .i64 n n (by omega) (by omega) (by rw [hz2]; omega) (by omega)
  rw [hz1] at this
  rw [← zero_rows n pk]
  exact this
theorem fd_open_no (b s p m : Int) (hc : rightR b s p = true → ¬ (1 ≤ m ∧ m ≤ 32)) (w : World) : Calls Try.prog 66 #[.agg #[.int .i64 b, .int .i64 s, .int .i64 p], .int .i64 m] w fun y w' => y = .returned (.tuple #[.pointer none, .int .i64 1]) ∧ Below w.heap.size w w' := by
  have HR := Lib.hid (fun u => rk_right b s p u)
  have HI := Lib.hid (fun u => rk_mayBe m u)
  have HA := Lib.hid (Blk.new w 115 [.int .i64 b, .int .i64 s, .int .i64 p])
  have HB := Lib.hid ((Below.refl _ w).alloc (Nat.le_refl _) (.cells #[.int .i64 b, .int .i64 s, .int .i64 p] 115))
  obtain ⟨W0, hW0⟩ : ∃ W, W = w.alloc (.cells #[.int .i64 b, .int .i64 s, .int .i64 p] 115) := ⟨_, rfl⟩
  have HA0 := Lib.hid (show Blk W0 w.heap.size 115 [.int .i64 b, .int .i64 s, .int .i64 p] from hW0 ▸ HA.out)
  have HB0 := Lib.hid (show Below w.heap.size w W0 from hW0 ▸ HB.out)
  have c0 := HA0.out.cellAt (i := 0) (by simp); have c1 := HA0.out.cellAt (i := 1) (by simp); have c2 := HA0.out.cellAt (i := 2) (by simp)
  cases hr : rightR b s p
  · rw [hr] at HR
    clear hc hr
    go_enter Try.func66, Try.ntmps66
    go_upto_region 1 with fail
    rw [← hW0]
    clear hW0 HA HB
    go_wp2_with fail
    refine (HR.out _).mono ?_
    rintro y w1 ⟨rfl, hb⟩
    have HB1 := Lib.hid (below_transG HB0.out hb)
    clear hb c0 c1 c2
    go_wp2_with fail
    go_ret2
    exact ⟨rfl, HB1.out⟩
  · rw [hr] at HR
    rw [inR_no (hc hr)] at HI
    clear hc hr
    go_enter Try.func66, Try.ntmps66
    go_upto_region 1 with fail
    rw [← hW0]
    clear hW0 HA HB
    go_wp2_with fail
    refine (HR.out _).mono ?_
    rintro y w1 ⟨rfl, hb⟩
    have HB1 := Lib.hid (below_transG HB0.out hb)
    clear hb c0 c1 c2
    go_wp2_with fail
    refine (HI.out _).mono ?_
    rintro y w2 ⟨rfl, rfl⟩
    go_wp2_with fail
    go_ret2
    exact ⟨rfl, HB1.out⟩
/-- A field's first nodes, all just switched on. -/
def newS (i : Nat) : Fs := fun k => if k < i then some ⟨false, 0, 0⟩ else none
theorem newS_succ (i : Nat) : setS (newS i) i (some ⟨false, 0, 0⟩) = newS (i + 1) := funext fun k => by
  unfold setS newS
  by_cases e : k = i
  · subst e; rw [if_pos rfl, if_pos (by omega)]
  · rw [if_neg e]
    by_cases e2 : k < i
    · rw [if_pos e2, if_pos (by omega)]
    · rw [if_neg e2, if_neg (by omega)]
theorem FI.newS {b s p : Int} (hc : Rc b s p) (n i : Nat) : FI b s p n (newS i) [] := by
  refine ⟨fun j hj d hd => ?_, fun j hj d hd hm => ?_, fun r hr => by cases hr⟩
  · unfold Proofs.Ytdfalipgfnjglaa.newS at hd
    split at hd
    · cases hd; exact Ok1.new (by have := hc.wait j; have := hc.b1; have := hc.p1; omega)
    · cases hd
  · unfold Proofs.Ytdfalipgfnjglaa.newS at hd
    split at hd
    · cases hd; cases hm
    · cases hd
set_option maxHeartbeats 1000000 in
theorem fd_open_yes (b s p : Int) (n : Nat) (hc : rightR b s p = true) (hn : 1 ≤ n ∧ n ≤ 32) (w : World) : Calls Try.prog 66 #[.agg #[.int .i64 b, .int .i64 s, .int .i64 p], .int .i64 (n : Int)] w fun y w' => ∃ A NB pk, y = .returned (.tuple #[.pointer (some ⟨A, 0, none⟩), .int .i64 0]) ∧ FA w' A NB b s p n pk (newS n) none 0 [] ∧ (∀ j, FC.S A NB n pk (newS n) j → w.heap.size ≤ j) ∧ Below w.heap.size w w' := by
  have HR := Lib.hid (fun u => rk_right b s p u)
  have HI := Lib.hid (fun u => rk_mayBe (n : Int) u)
  rw [hc] at HR
  rw [inR_yes (by omega)] at HI
  have HA := Lib.hid (Blk.new w 115 [.int .i64 b, .int .i64 s, .int .i64 p])
  have HB := Lib.hid ((Below.refl _ w).alloc (Nat.le_refl _) (.cells #[.int .i64 b, .int .i64 s, .int .i64 p] 115))
  obtain ⟨W0, hW0⟩ : ∃ W, W = w.alloc (.cells #[.int .i64 b, .int .i64 s, .int .i64 p] 115) := ⟨_, rfl⟩
  have HA0 := Lib.hid (show Blk W0 w.heap.size 115 [.int .i64 b, .int .i64 s, .int .i64 p] from hW0 ▸ HA.out)
  have HB0 := Lib.hid (show Below w.heap.size w W0 from hW0 ▸ HB.out)
  have c0 := HA0.out.cellAt (i := 0) (by simp); have c1 := HA0.out.cellAt (i := 1) (by simp); have c2 := HA0.out.cellAt (i := 2) (by simp)
  have hm1 := fun u => make_rows n hn.2 (fun _ => 0) u
  have HC := Lib.hid hc; have HN := Lib.hid hn
  obtain ⟨RC, hRC⟩ : ∃ RC, RC = rowC n (fun _ => 0) (fun _ => none) := ⟨_, rfl⟩
  rw [← hRC] at hm1
  have HRC := Lib.hid hRC
  clear hc hn hRC
  go_enter Try.func66, Try.ntmps66
  go_upto_region 1 with fail
  rw [← hW0]
  clear hW0 HA HB
  go_wp2_with fail
  refine (HR.out _).mono ?_
  rintro y w1 ⟨rfl, hb⟩
  have HB1 := Lib.hid (below_transG HB0.out hb)
  have HA1 := Lib.hid (HA0.out.keep hb HA0.out.lt)
  clear hb c0 c1 c2
  have d0 := HA1.out.cellAt (i := 0) (by simp); have d1 := HA1.out.cellAt (i := 1) (by simp); have d2 := HA1.out.cellAt (i := 2) (by simp)
  go_wp2_with fail
  refine (HI.out _).mono ?_
  rintro y w2 ⟨rfl, rfl⟩
  go_upto_region 3 with fail
  have hA2 : Blk (w1.alloc (.cells RC.toArray 117)) w.heap.size 115 [.int .i64 b, .int .i64 s, .int .i64 p] := HA1.out.keep ((Below.refl _ _).alloc (Nat.le_refl _) _) HA1.out.lt
  have e0 := hA2.cellAt (i := 0) (by simp); have e1 := hA2.cellAt (i := 1) (by simp); have e2 := hA2.cellAt (i := 2) (by simp)
  clear hA2
  clear HI HR
  obtain ⟨w2, hw2⟩ : ∃ w2, w2 = ((w1.alloc (.cells RC.toArray 117)).alloc (.cells #[.int .i64 b, .int .i64 s, .int .i64 p, .slice (some ⟨w1.heap.size, 0, none⟩) n n, .slice none 0 0] 222)).drew := ⟨_, rfl⟩
  obtain ⟨A, hAA⟩ : ∃ A, A = w1.heap.size + 1 := ⟨_, rfl⟩
  obtain ⟨NB, hNB⟩ : ∃ NB, NB = w1.heap.size := ⟨_, rfl⟩
  have hRB : Blk w2 NB 117 RC := by
    rw [hw2, hNB]
    exact (Blk.new w1 117 RC).keep (((Below.refl _ _).alloc (Nat.le_refl _) _).drew) (Blk.new w1 117 RC).lt
  have hFB : Blk w2 A 222 [.int .i64 b, .int .i64 s, .int .i64 p, .slice (some ⟨NB, 0, none⟩) n n, .slice none 0 0] := by
    rw [hw2, hAA, hNB]
    have h3 := Blk.new (w1.alloc (.cells RC.toArray 117)) 222 [.int .i64 b, .int .i64 s, .int .i64 p, .slice (some ⟨w1.heap.size, 0, none⟩) n n, .slice none 0 0]
    rw [show (w1.alloc (.cells RC.toArray 117)).heap.size = w1.heap.size + 1 by simp] at h3
    exact h3
  have HB2 := Lib.hid (show Below w.heap.size w w2 by
    rw [hw2]
    exact below_transG HB1.out ((((Below.refl _ w1).alloc (Nat.le_refl _) _).alloc (by simp) _).drew))
  have HFA := Lib.hid (show FA w2 A NB b s p n (fun _ => 0) (newS 0) none 0 [] from
    ⟨⟨hFB, by rw [show rowC n (fun _ => 0) (newS 0) = RC by rw [HRC.out]; exact row_eq (fun k _ => by unfold ptrV newS; rw [if_neg (by omega)])]; exact hRB, (fun k _ d hd => by cases hd), (fun k _ hs => absurd rfl hs), (fun j k _ _ hs => absurd rfl hs), by omega, HN.out⟩, Ints.nil _ _, (fun g off e => by cases e), FI.newS (rightR_rc HC.out) n 0, HC.out, by simp⟩)
  have HLO := Lib.hid (show w.heap.size ≤ A ∧ w.heap.size ≤ NB by have := HB1.out.size; omega)
  go_region
  all_goals (go_wp2_with fail)
  rw [← hw2, ← hAA, ← hNB]
  have c3 := HFA.out.c.cell0.2.2.2.1
  clear hw2 hAA hNB hRB hFB e0 e1 e2 d0 d1 d2 hm1
  go_wp2_with fail
  go_loopw [26] (fun s26 wr => ∃ (i : Nat) (pk : Nat → Nat), s26 = .int .i64 (i : Int) ∧ i ≤ n ∧ FA wr A NB b s p n pk (newS i) none 0 [] ∧ (∀ j, FC.S A NB n pk (newS i) j → w.heap.size ≤ j) ∧ Below w.heap.size w wr) (fun s26 _ => n - (intOf s26).toNat)
  case atStart => exact ⟨0, fun _ => 0, rfl, by omega, HFA.out, fun j hj => by
    rcases hj with rfl | rfl | ⟨k, _, hs, _⟩
    · exact HLO.out.1
    · exact HLO.out.2
    · exact absurd rfl hs, HB2.out⟩
  case round =>
    have hn32 := HN.out
    obtain ⟨i, pk, rfl, hin, hFI, hS, hB⟩ := hrel
    have HFI := Lib.hid hFI; have HS := Lib.hid hS; have HB := Lib.hid hB
    clear hFI hS hB c3
    by_cases hlt : i < n
    · have i1 : (i : Int) < (n : Int) := by omega
      have HRS := Lib.hid (fd_Restart_yes HFI.out i hlt (by unfold newS; rw [if_neg (by omega)]))
      go_wp2_with fail
      refine HRS.out.mono ?_
      rintro y w3 ⟨rfl, B, hF3, hB3, hFo⟩
      have HF3 := Lib.hid hF3; have HB3 := Lib.hid hB3
      have HBL := Lib.hid (HB.out.trans (hFo.below HS.out HB.out.size))
      have HS3 := Lib.hid (show ∀ j, FC.S A NB n (fun j => if j = i then B else pk j) (newS (i + 1)) j → w.heap.size ≤ j from fun j hj => by
        rcases hj with rfl | rfl | ⟨k, h1, h2, h3⟩
        · exact HLO.out.1
        · exact HLO.out.2
        · have h4 : (if k = i then B else pk k) = j := h3
          by_cases e : k = i
          · rw [if_pos e] at h4; have := HB.out.size; have := HB3.out; omega
          · rw [if_neg e] at h4
            refine HS.out j (.inr (.inr ⟨k, h1, fun e2 => h2 ?_, h4⟩))
            unfold newS at e2 ⊢
            split at e2
            · cases e2
            · rw [if_neg (by omega)])
      clear hF3 hB3 hFo
      go_wp2_with fail
      go_roundw
      case rel => exact ⟨i + 1, _, by simp, by omega, by rw [← newS_succ]; exact HF3.out, HS3.out, HBL.out⟩
      case measure => simp [intOf]; omega
    · obtain rfl : i = n := by omega
      go_wp2_with fail
      go_ret2
      exact ⟨A, NB, pk, rfl, HFI.out, HS.out, HB.out⟩
end Go.Proofs.Ytdfalipgfnjglaa
