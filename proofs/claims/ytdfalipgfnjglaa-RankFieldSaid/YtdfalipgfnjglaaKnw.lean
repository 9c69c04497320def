/- A field of the program and one of the document in one memory; two lists that are the same. Conditions: each theorem says its own. -/
import Derived.Test.YtdfalipgfnjglaaKnv
import Derived.Test.YtdfalipgfnjglaaQui
import Derived.Test.YtdfalipgfnjglaaKnm
namespace Go.Proofs.Ytdfalipgfnjglaa
open Go.RowKit
section
variable {W X : World} {A NB : Nat} {b s p : Int} {n : Nat} {pk : Nat → Nat} {st : Fs} {ta : Option Addr} {tc : Nat} {told : List Int}
set_option maxRecDepth 100000 in
set_option maxHeartbeats 8000000 in
theorem fd_tickF (h : FA W A NB b s p n pk st ta tc told) (lost : Bool) : Calls Try.prog 73 #[.pointer (some ⟨A, 0, none⟩), .bool lost] W fun y w' => y = .returned (.tuple #[]) ∧ ∃ ya yc, FA w' A NB b s p n pk (tkS b s p (hearI lost told) st) ya yc (pickI n (tellB b s p (hearI lost told) st)) ∧ (∀ g off, ya = some ⟨g, off, none⟩ → W.heap.size ≤ g) ∧ Fo (FC.S A NB n pk st) W w' := by
  obtain ⟨_, _, _, _, c4⟩ := h.c.cell0
  have hcl := h.c.blk.lt
  have HA := Lib.hid h
  have HTL := Lib.hid (pick_len n (tellB b s p (hearI lost told) st))
  obtain ⟨ha, hcap, hW1, hlen⟩ : ∃ ha hcap, (Value.slice ha (hearI lost told).length hcap = if lost = true then .slice none 0 0 else .slice ta told.length tc) ∧ (∀ u, Below W.heap.size W u → Ints u ha (hearI lost told)) ∧ (∀ g off, ha = some ⟨g, off, none⟩ → ¬ FC.T n pk st g) ∧ (hearI lost told).length ≤ 32 := by
    cases lost
    · exact ⟨ta, tc, rfl, fun u hu => h.rd.on hu, fun g off e hT => (h.ta g off e).2 (T_S hT), h.tl⟩
    · exact ⟨none, 0, rfl, fun u hu => Ints.nil _ _, (fun g off e => by cases e), by simp [hearI]⟩
  obtain ⟨hRn0, hTn, hl32⟩ := hlen
  obtain ⟨L, hL⟩ : ∃ L, L = hearI lost told := ⟨_, rfl⟩
  rw [← hL] at hW1 hRn0 hl32 HTL ⊢
  obtain ⟨W1, hWW⟩ : ∃ W1, W1 = W.alloc (.cells #[Value.slice ha L.length hcap] 79) := ⟨_, rfl⟩
  have hb1 : Below W.heap.size W W1 := by rw [hWW]; exact (Below.refl _ W).alloc (Nat.le_refl _) _
  have hH : Blk W1 W.heap.size 79 [.slice ha L.length hcap] := by rw [hWW]; exact Blk.new W 79 [.slice ha L.length hcap]
  have HTH := Lib.hid (fd_those_tick (h.c.on hb1) h.rc h.fi.ok W.heap.size L ha hcap (by omega) hH (fun hT => by have := h.c.lt (T_S hT); omega) (hRn0 W1 hb1) hTn)
  have HB1 := Lib.hid hb1
  have HFI := Lib.hid (h.fi.tick (rightR_rc h.rc) L)
  have HRC := Lib.hid h.rc
  have HN := Lib.hid h.c.n32
  have hWW2 := hWW
  have HSZ := Lib.hid hb1.size
  have HLT := Lib.hid (fun j hj => h.c.lt (j := j) hj)
  cases lost
  all_goals
    clear hb1 hH hRn0 hTn hl32 hL h
    simp only [if_true, Bool.false_eq_true, if_false] at hW1
    rw [hW1] at hWW
    clear hW1 hWW2
    go_enter Try.func73, Try.ntmps73
    go_wp2_with fail
    rw [← hWW]
    refine HTH.out.mono ?_
    rintro y w2 ⟨ya, yc, rfl, hC, hI, hG, hF⟩
    have HC2 := Lib.hid hC; have HI2 := Lib.hid hI; have HG2 := Lib.hid hG
    have HF2 := Lib.hid (show Fo (FC.S A NB n pk st) W w2 from (Fo.of_below HB1.out).trans (T := FC.T n pk st) hF (fun k hk => .inl (T_S hk)))
    clear hC hI hG hF c4
    have fA := HC2.out.blk.frozenAt 4
    have c4 := HC2.out.cell0.2.2.2.2
    have hcl := HC2.out.blk.lt
    go_wp2_with fail
    go_end0
    refine ⟨rfl, ya, yc, ⟨HC2.out.tell _, ?_, ?_, HFI.out, HRC.out, by have h1 := HTL.out; have h2 := HN.out; omega⟩, (fun g off e => Nat.le_trans HSZ.out (HG2.out g off e).1), HF2.out.trans (T := FC.S A NB n pk st) (Fo.of_kp ((Kp.refl A (.slice none 0 0) w2).set 4 _) (.inl rfl)) (fun _ h => .inl h)⟩
    · intro j hj
      obtain ⟨g, off, h1, h2, h3⟩ := HI2.out j hj
      have h4 := HG2.out g off h1
      have h5 := HSZ.out
      have h6 := HLT.out A (.inl rfl)
      refine ⟨g, off, h1, by rw [setCell_sizeG]; exact h2, ?_⟩
      rw [World.cell?_of_block (Below.heap_setCell w2 ⟨A, 4, none⟩ _ g (by show g ≠ A; omega))]
      exact h3
    · intro g off e
      have h4 := HG2.out g off e
      refine ⟨by rw [setCell_sizeG]; exact h4.2, fun hS => ?_⟩
      have h5 := HSZ.out
      have h6 := HLT.out g (S_tick.1 hS)
      omega
end
/-- What moves while fields go on: pointers and lists. -/
structure Mv where
  pk : Nat → Nat
  ta : Option Addr
  tc : Nat
  qk : Nat → Nat
  ua : Option Addr
  uc : Nat
def FS (A NB n : Nat) (pk : Nat → Nat) (st : Fs) (ta : Option Addr) : Nat → Prop := fun j => FC.S A NB n pk st j ∨ ∃ off, ta = some ⟨j, off, none⟩
def RS (D : Nat) (la : Option Addr) (n : Nat) (qk : Nat → Nat) (st : Fs) (ua : Option Addr) : Nat → Prop := fun j => RC.S D la n qk st j ∨ ∃ off, ua = some ⟨j, off, none⟩
/-- Both fields: what is told ahead, what is kept (P). -/
structure F2 (N0 : Nat) (w : World) (A NB D : Nat) (la : Option Addr) (lc : Nat) (b s p : Int) (n : Nat) (S : Mv) (st : Fs) (told : List Int) (st2 : Fs) (told2 : List Int) (P : Nat → Prop) : Prop where
  a : FA w A NB b s p n S.pk st S.ta S.tc told
  r : RFA w D la lc b s p n S.qk st2 S.ua S.uc told2
  dj : ∀ j, FS A NB n S.pk st S.ta j → ¬ RS D la n S.qk st2 S.ua j
  fa : ∀ j, FS A NB n S.pk st S.ta j → N0 ≤ j ∧ ¬ P j
  ra : ∀ j, RS D la n S.qk st2 S.ua j → N0 ≤ j ∧ ¬ P j
  pr : ∀ j, P j → j < w.heap.size
  hs : N0 ≤ w.heap.size
variable {N0 : Nat} {w x : World} {A NB D : Nat} {la : Option Addr} {lc : Nat} {b s p : Int} {n : Nat} {S : Mv} {st : Fs} {told : List Int} {st2 : Fs} {told2 : List Int} {P : Nat → Prop}
theorem F2.on (h : F2 N0 w A NB D la lc b s p n S st told st2 told2 P) (hb : Below w.heap.size w x) : F2 N0 x A NB D la lc b s p n S st told st2 told2 P :=
  ⟨h.a.on hb, h.r.on hb, h.dj, h.fa, h.ra, fun j hj => Nat.lt_of_lt_of_le (h.pr j hj) hb.size, Nat.le_trans h.hs hb.size⟩
theorem F2.with (h : F2 N0 w A NB D la lc b s p n S st told st2 told2 P) {Q : Nat → Prop} (hb : Below w.heap.size w x) (hQ : ∀ j, Q j → w.heap.size ≤ j ∧ j < x.heap.size) : F2 N0 x A NB D la lc b s p n S st told st2 told2 Q :=
  ⟨h.a.on hb, h.r.on hb, h.dj, fun j hj => ⟨(h.fa j hj).1, fun hq => by have h1 := h.a.lts hj; have h2 := hQ j hq; omega⟩, fun j hj => ⟨(h.ra j hj).1, fun hq => by have h1 := h.r.lts hj; have h2 := hQ j hq; omega⟩, fun j hj => (hQ j hj).2, Nat.le_trans h.hs hb.size⟩
theorem F2.stepA (h : F2 N0 w A NB D la lc b s p n S st told st2 told2 P) {pk' : Nat → Nat} {ta' : Option Addr} {tc' : Nat} {st' : Fs} {told' : List Int} (ha : FA x A NB b s p n pk' st' ta' tc' told') (hf : Fo (FC.S A NB n S.pk st) w x) (hS : ∀ j, FS A NB n pk' st' ta' j → FS A NB n S.pk st S.ta j ∨ w.heap.size ≤ j) :
    F2 N0 x A NB D la lc b s p n { S with pk := pk', ta := ta', tc := tc' } st' told' st2 told2 P ∧ (∀ j, P j → x.heap[j]? = w.heap[j]?) ∧ Below N0 w x :=
  ⟨⟨ha, h.r.moved (fun j hj hR => hf.block j hj (fun e => h.dj j (.inl e) hR)) hf.size, fun j hj hR => by
      rcases hS j hj with h1 | h1
      · exact h.dj j h1 hR
      · have := h.r.lts hR; omega, fun j hj => by
      rcases hS j hj with h1 | h1
      · exact h.fa j h1
      · exact ⟨Nat.le_trans h.hs h1, fun hp => by have := h.pr j hp; omega⟩, h.ra, fun j hj => Nat.lt_of_lt_of_le (h.pr j hj) hf.size, Nat.le_trans h.hs hf.size⟩, fun j hj => hf.block j (h.pr j hj) (fun e => (h.fa j (.inl e)).2 hj), hf.below (fun j hj => (h.fa j (.inl hj)).1) h.hs⟩
theorem F2.stepD (h : F2 N0 w A NB D la lc b s p n S st told st2 told2 P) {qk' : Nat → Nat} {ua' : Option Addr} {uc' : Nat} {st' : Fs} {told' : List Int} (hr : RFA x D la lc b s p n qk' st' ua' uc' told') (hf : Fo (RC.S D la n S.qk st2) w x) (hS : ∀ j, RS D la n qk' st' ua' j → RS D la n S.qk st2 S.ua j ∨ w.heap.size ≤ j) :
    F2 N0 x A NB D la lc b s p n { S with qk := qk', ua := ua', uc := uc' } st told st' told' P ∧ (∀ j, P j → x.heap[j]? = w.heap[j]?) ∧ Below N0 w x :=
  ⟨⟨h.a.moved (fun j hj hR => hf.block j hj (fun e => h.dj j hR (.inl e))) hf.size, hr, fun j hj hR => by
      rcases hS j hR with h1 | h1
      · exact h.dj j hj h1
      · have := h.a.lts hj; omega, h.fa, fun j hj => by
      rcases hS j hj with h1 | h1
      · exact h.ra j h1
      · exact ⟨Nat.le_trans h.hs h1, fun hp => by have := h.pr j hp; omega⟩, fun j hj => Nat.lt_of_lt_of_le (h.pr j hj) hf.size, Nat.le_trans h.hs hf.size⟩, fun j hj => hf.block j (h.pr j hj) (fun e => (h.ra j (.inl e)).2 hj), hf.below (fun j hj => (h.ra j (.inl hj)).1) h.hs⟩
theorem F2.same (h : F2 N0 w A NB D la lc b s p n S st told st2 told2 P) : F2 N0 w A NB D la lc b s p n S st told st2 told2 P ∧ (∀ j, P j → w.heap[j]? = w.heap[j]?) ∧ Below N0 w w := ⟨h, fun _ _ => rfl, Below.refl _ _⟩
/-- What Crash and Restart tell, and how nodes stand then. -/
def crE (n : Nat) (st : Fs) (k : Int) : Int := if inR k 0 ((n : Int) - 1) = true then (if (st k.toNat).isSome = true then 0 else 8) else 7
def crS (n : Nat) (st : Fs) (k : Int) : Fs := if inR k 0 ((n : Int) - 1) = true ∧ (st k.toNat).isSome = true then setS st k.toNat none else st
def reE (n : Nat) (st : Fs) (k : Int) : Int := if inR k 0 ((n : Int) - 1) = true then (if (st k.toNat).isSome = true then 8 else 0) else 7
def reS (n : Nat) (st : Fs) (k : Int) : Fs := if inR k 0 ((n : Int) - 1) = true ∧ (st k.toNat).isSome = false then setS st k.toNat (some ⟨false, 0, 0⟩) else st
theorem setS_none {st : Fs} {k j : Nat} (h : setS st k none j ≠ none) : st j ≠ none := by
  unfold setS at h
  by_cases e : j = k
  · rw [if_pos e] at h; exact absurd rfl h
  · rw [if_neg e] at h; exact h
theorem f2_crashA (h : F2 N0 w A NB D la lc b s p n S st told st2 told2 P) (k : Int) : Calls Try.prog 68 #[.pointer (some ⟨A, 0, none⟩), .int .i64 k] w fun y w' => y = .returned (.int .i64 (crE n st k)) ∧ (∃ S', F2 N0 w' A NB D la lc b s p n S' (crS n st k) told st2 told2 P) ∧ (∀ j, P j → w'.heap[j]? = w.heap[j]?) ∧ Below N0 w w' := by
  cases hi : inR k 0 ((n : Int) - 1)
  · rw [show crE n st k = 7 by unfold crE; rw [hi]; rfl, show crS n st k = st by unfold crS; rw [hi]; rfl]
    exact (fd_Crash_no h.a k hi).mono fun y w' ⟨h1, h2⟩ => by subst h2; exact ⟨h1, ⟨S, h⟩, fun _ _ => rfl, Below.refl _ _⟩
  · obtain ⟨k0, k1⟩ := inR_iff hi
    obtain ⟨K, rfl⟩ := Int.eq_ofNat_of_zero_le k0
    have hK : K < n := by omega
    cases ho : (st K).isSome
    · rw [show crE n st (K : Int) = 8 by unfold crE; rw [hi, Int.toNat_natCast, ho]; rfl, show crS n st (K : Int) = st by unfold crS; rw [hi, Int.toNat_natCast, ho]; simp]
      exact (fd_Crash_is h.a K hK ho).mono fun y w' ⟨h1, h2⟩ => by subst h2; exact ⟨h1, ⟨S, h⟩, fun _ _ => rfl, Below.refl _ _⟩
    · rw [show crE n st (K : Int) = 0 by unfold crE; rw [hi, Int.toNat_natCast, ho]; rfl, show crS n st (K : Int) = setS st K none by unfold crS; rw [hi, Int.toNat_natCast, ho]; simp]
      obtain ⟨d, hd⟩ := Option.isSome_iff_exists.1 ho
      refine (fd_Crash_yes h.a K hK hd).mono fun y w' ⟨h1, h2, h3⟩ => ?_
      have h4 := h.stepA h2 h3 (fun j hj => .inl (by
        rcases hj with (e | e | ⟨q, q1, q2, q3⟩) | e
        · exact .inl (.inl e)
        · exact .inl (.inr (.inl e))
        · exact .inl (.inr (.inr ⟨q, q1, setS_none q2, q3⟩))
        · exact .inr e))
      exact ⟨h1, ⟨_, h4.1⟩, h4.2⟩
theorem f2_crashD (h : F2 N0 w A NB D la lc b s p n S st told st2 told2 P) (k : Int) : Calls Try.prog 69 #[.pointer (some ⟨D, 0, none⟩), .int .i64 k] w fun y w' => y = .returned (.int .i64 (crE n st2 k)) ∧ (∃ S', F2 N0 w' A NB D la lc b s p n S' st told (crS n st2 k) told2 P) ∧ (∀ j, P j → w'.heap[j]? = w.heap[j]?) ∧ Below N0 w w' := by
  cases hi : inR k 0 ((n : Int) - 1)
  · rw [show crE n st2 k = 7 by unfold crE; rw [hi]; rfl, show crS n st2 k = st2 by unfold crS; rw [hi]; rfl]
    exact (rf_crash_no h.r.c k hi).mono fun y w' ⟨h1, h2⟩ => by subst h2; exact ⟨h1, ⟨S, h⟩, fun _ _ => rfl, Below.refl _ _⟩
  · obtain ⟨k0, k1⟩ := inR_iff hi
    obtain ⟨K, rfl⟩ := Int.eq_ofNat_of_zero_le k0
    have hK : K < n := by omega
    cases ho : (st2 K).isSome
    · rw [show crE n st2 (K : Int) = 8 by unfold crE; rw [hi, Int.toNat_natCast, ho]; rfl, show crS n st2 (K : Int) = st2 by unfold crS; rw [hi, Int.toNat_natCast, ho]; simp]
      exact (rf_crash_is h.r.c K hK ho).mono fun y w' ⟨h1, h2⟩ => by subst h2; exact ⟨h1, ⟨S, h⟩, fun _ _ => rfl, Below.refl _ _⟩
    · rw [show crE n st2 (K : Int) = 0 by unfold crE; rw [hi, Int.toNat_natCast, ho]; rfl, show crS n st2 (K : Int) = setS st2 K none by unfold crS; rw [hi, Int.toNat_natCast, ho]; simp]
      obtain ⟨d, hd⟩ := Option.isSome_iff_exists.1 ho
      refine (rf_crash_yes h.r.c K hK hd).mono fun y w' ⟨h1, h2, h3⟩ => ?_
      have hsub : ∀ j, RC.S D la n S.qk (setS st2 K none) j → RC.S D la n S.qk st2 j := fun j hj => by
        rcases hj with e | e | ⟨q, q1, q2, q3⟩
        · exact .inl e
        · exact .inr (.inl e)
        · exact .inr (.inr ⟨q, q1, setS_none q2, q3⟩)
      have hr : RFA w' D la lc b s p n S.qk (setS st2 K none) S.ua S.uc told2 := ⟨h2, h.r.ints h3, fun g off e => ⟨Nat.lt_of_lt_of_le (h.r.ta g off e).1 h3.size, fun hS => (h.r.ta g off e).2 (hsub g hS)⟩, h.r.fi.crash K, h.r.rc, h.r.tl⟩
      have h4 := h.stepD hr h3 (fun j hj => .inl (by
        rcases hj with e | e
        · exact .inl (hsub j e)
        · exact .inr e))
      exact ⟨h1, ⟨_, h4.1⟩, h4.2⟩
theorem f2_restartA (h : F2 N0 w A NB D la lc b s p n S st told st2 told2 P) (k : Int) : Calls Try.prog 70 #[.pointer (some ⟨A, 0, none⟩), .int .i64 k] w fun y w' => y = .returned (.int .i64 (reE n st k)) ∧ (∃ S', F2 N0 w' A NB D la lc b s p n S' (reS n st k) told st2 told2 P) ∧ (∀ j, P j → w'.heap[j]? = w.heap[j]?) ∧ Below N0 w w' := by
  cases hi : inR k 0 ((n : Int) - 1)
  · rw [show reE n st k = 7 by unfold reE; rw [hi]; rfl, show reS n st k = st by unfold reS; rw [hi]; rfl]
    exact (fd_Restart_no h.a k hi).mono fun y w' ⟨h1, h2⟩ => by subst h2; exact ⟨h1, ⟨S, h⟩, fun _ _ => rfl, Below.refl _ _⟩
  · obtain ⟨k0, k1⟩ := inR_iff hi
    obtain ⟨K, rfl⟩ := Int.eq_ofNat_of_zero_le k0
    have hK : K < n := by omega
    cases ho : (st K).isSome
    · rw [show reE n st (K : Int) = 0 by unfold reE; rw [hi, Int.toNat_natCast, ho]; rfl, show reS n st (K : Int) = setS st K (some ⟨false, 0, 0⟩) by unfold reS; rw [hi, Int.toNat_natCast, ho]; simp]
      have hn : st K = none := by cases e : st K with | none => rfl | some d => rw [e] at ho; cases ho
      refine (fd_Restart_yes h.a K hK hn).mono fun y w' ⟨h1, B, h2, hB, h3⟩ => ?_
      have h4 := h.stepA h2 h3 (fun j hj => by
        rcases hj with (e | e | ⟨q, q1, q2, q3⟩) | e
        · exact .inl (.inl (.inl e))
        · exact .inl (.inl (.inr (.inl e)))
        · by_cases e : q = K
          · have e2 : (if q = K then B else S.pk q) = j := q3
            rw [if_pos e] at e2; exact .inr (by omega)
          · have e2 : (if q = K then B else S.pk q) = j := q3
            rw [if_neg e] at e2
            unfold setS at q2; rw [if_neg e] at q2
            exact .inl (.inl (.inr (.inr ⟨q, q1, q2, e2⟩)))
        · exact .inl (.inr e))
      exact ⟨h1, ⟨_, h4.1⟩, h4.2⟩
    · rw [show reE n st (K : Int) = 8 by unfold reE; rw [hi, Int.toNat_natCast, ho]; rfl, show reS n st (K : Int) = st by unfold reS; rw [hi, Int.toNat_natCast, ho]; simp]
      exact (fd_Restart_is h.a K hK ho).mono fun y w' ⟨h1, h2⟩ => by subst h2; exact ⟨h1, ⟨S, h⟩, fun _ _ => rfl, Below.refl _ _⟩
theorem f2_restartD (h : F2 N0 w A NB D la lc b s p n S st told st2 told2 P) (k : Int) : Calls Try.prog 71 #[.pointer (some ⟨D, 0, none⟩), .int .i64 k] w fun y w' => y = .returned (.int .i64 (reE n st2 k)) ∧ (∃ S', F2 N0 w' A NB D la lc b s p n S' st told (reS n st2 k) told2 P) ∧ (∀ j, P j → w'.heap[j]? = w.heap[j]?) ∧ Below N0 w w' := by
  cases hi : inR k 0 ((n : Int) - 1)
  · rw [show reE n st2 k = 7 by unfold reE; rw [hi]; rfl, show reS n st2 k = st2 by unfold reS; rw [hi]; rfl]
    exact (rf_restart_no h.r.c k hi).mono fun y w' ⟨h1, h2⟩ => by subst h2; exact ⟨h1, ⟨S, h⟩, fun _ _ => rfl, Below.refl _ _⟩
  · obtain ⟨k0, k1⟩ := inR_iff hi
    obtain ⟨K, rfl⟩ := Int.eq_ofNat_of_zero_le k0
    have hK : K < n := by omega
    cases ho : (st2 K).isSome
    · rw [show reE n st2 (K : Int) = 0 by unfold reE; rw [hi, Int.toNat_natCast, ho]; rfl, show reS n st2 (K : Int) = setS st2 K (some ⟨false, 0, 0⟩) by unfold reS; rw [hi, Int.toNat_natCast, ho]; simp]
      have hn : st2 K = none := by cases e : st2 K with | none => rfl | some d => rw [e] at ho; cases ho
      refine (rf_restart_yes h.r.c h.r.rc K hK hn).mono fun y w' ⟨h1, B, h2, hB, h3⟩ => ?_
      have hsub : ∀ j, RC.S D la n (fun j => if j = K then B else S.qk j) (setS st2 K (some ⟨false, 0, 0⟩)) j → RC.S D la n S.qk st2 j ∨ w.heap.size ≤ j := fun j hj => by
        rcases hj with e | e | ⟨q, q1, q2, q3⟩
        · exact .inl (.inl e)
        · exact .inl (.inr (.inl e))
        · by_cases e : q = K
          · have e2 : (if q = K then B else S.qk q) = j := q3
            rw [if_pos e] at e2; exact .inr (by omega)
          · have e2 : (if q = K then B else S.qk q) = j := q3
            rw [if_neg e] at e2
            unfold setS at q2; rw [if_neg e] at q2
            exact .inl (.inr (.inr ⟨q, q1, q2, e2⟩))
      have hr : RFA w' D la lc b s p n (fun j => if j = K then B else S.qk j) (setS st2 K (some ⟨false, 0, 0⟩)) S.ua S.uc told2 := ⟨h2, h.r.ints h3, fun g off e => ⟨Nat.lt_of_lt_of_le (h.r.ta g off e).1 h3.size, fun hS => by
        have hg := h.r.ta g off e
        rcases hsub g hS with h5 | h5
        · exact hg.2 h5
        · omega⟩, h.r.fi.restart (rightR_rc h.r.rc) K, h.r.rc, h.r.tl⟩
      have h4 := h.stepD hr h3 (fun j hj => by
        rcases hj with e | e
        · rcases hsub j e with h5 | h5
          · exact .inl (.inl h5)
          · exact .inr h5
        · exact .inl (.inr e))
      exact ⟨h1, ⟨_, h4.1⟩, h4.2⟩
    · rw [show reE n st2 (K : Int) = 8 by unfold reE; rw [hi, Int.toNat_natCast, ho]; rfl, show reS n st2 (K : Int) = st2 by unfold reS; rw [hi, Int.toNat_natCast, ho]; simp]
      exact (rf_restart_is h.r.c K hK ho).mono fun y w' ⟨h1, h2⟩ => by subst h2; exact ⟨h1, ⟨S, h⟩, fun _ _ => rfl, Below.refl _ _⟩
theorem f2_tickA (h : F2 N0 w A NB D la lc b s p n S st told st2 told2 P) (lost : Bool) : Calls Try.prog 73 #[.pointer (some ⟨A, 0, none⟩), .bool lost] w fun y w' => y = .returned (.tuple #[]) ∧ (∃ S', F2 N0 w' A NB D la lc b s p n S' (tkS b s p (hearI lost told) st) (pickI n (tellB b s p (hearI lost told) st)) st2 told2 P) ∧ (∀ j, P j → w'.heap[j]? = w.heap[j]?) ∧ Below N0 w w' := by
  refine (fd_tickF h.a lost).mono fun y w' ⟨h1, ya, yc, h2, h5, h3⟩ => ?_
  have h4 := h.stepA h2 h3 (fun j hj => by
    rcases hj with e | ⟨off, e⟩
    · exact .inl (.inl (S_tick.1 e))
    · exact .inr (h5 j off e))
  exact ⟨h1, ⟨_, h4.1⟩, h4.2⟩
theorem f2_tickD (h : F2 N0 w A NB D la lc b s p n S st told st2 told2 P) (lost : Bool) : Calls Try.prog 74 #[.pointer (some ⟨D, 0, none⟩), .bool lost] w fun y w' => y = .returned (.tuple #[]) ∧ (∃ S', F2 N0 w' A NB D la lc b s p n S' st told (tkS b s p (hearI lost told2) st2) (pickI n (tellB b s p (hearI lost told2) st2)) P) ∧ (∀ j, P j → w'.heap[j]? = w.heap[j]?) ∧ Below N0 w w' := by
  refine (rf_tick h.r lost).mono fun y w' ⟨h1, ya, yc, h2, h5, h3⟩ => ?_
  have h4 := h.stepD h2 h3 (fun j hj => by
    rcases hj with e | ⟨off, e⟩
    · exact .inl (.inl (RS_tick.1 e))
    · exact .inr (h5 j off e))
  exact ⟨h1, ⟨_, h4.1⟩, h4.2⟩
set_option maxRecDepth 100000 in
set_option maxHeartbeats 4000000 in
theorem same_ints (L : List Int) (hl : L.length ≤ 1000) (a a' : Option Addr) (cap cap' : Nat) (w : World) (h1 : Ints w a L) (h2 : Ints w a' L) : Calls Try.prog 75 #[.slice a L.length cap, .slice a' L.length cap'] w fun y w' => y = .returned (.bool true) ∧ Below w.heap.size w w' := by
  have H1 := Lib.hid h1; have H2 := Lib.hid h2
  obtain ⟨len, hlen⟩ : ∃ len, len = L.length := ⟨_, rfl⟩
  rw [← hlen] at hl ⊢
  have HL := Lib.hid hlen
  clear h1 h2 hlen
  have d0 : ((len : Int) == (len : Int)) = true := by simp
  go_enter Try.func75, Try.ntmps75
  go_wp2_with fail
  go_loopw [5] (fun s5 wr => ∃ i : Nat, s5 = .int .i64 (i : Int) ∧ i ≤ len ∧ Below w.heap.size w wr) (fun s5 _ => len - (intOf s5).toNat)
  case atStart => exact ⟨0, rfl, by omega, Below.refl _ _⟩
  case round =>
    obtain ⟨i, rfl, hi, hb⟩ := hrel
    have HB := Lib.hid hb
    clear hb
    by_cases hlt : i < len
    · have i1 : (i : Int) < (len : Int) := by omega
      have i2 : (0 : Int) ≤ (i : Int) := by omega
      have i3 : (i : Int) ≤ 1000 := by omega
      obtain ⟨g, off, rfl, hg, hc⟩ := H1.out i (by rw [← HL.out]; exact hlt)
      obtain ⟨g', off', rfl, hg', hc'⟩ := H2.out i (by rw [← HL.out]; exact hlt)
      obtain ⟨X, hX⟩ : ∃ X, X = L[i]'(by rw [← HL.out]; exact hlt) := ⟨_, rfl⟩
      rw [← hX] at hc hc'
      have HZ := Lib.hid (show ∀ u, Below w.heap.size w u → Below w.heap.size w u ∧ u.cell? ⟨g, off + i, none⟩ = some (.int .i64 X) ∧ u.cell? ⟨g', off' + i, none⟩ = some (.int .i64 X) from fun u hu => ⟨hu, (hu.cell (p := ⟨g, off + i, none⟩) hg).trans hc, (hu.cell (p := ⟨g', off' + i, none⟩) hg').trans hc'⟩)
      have e1 : (X == X) = true := by simp
      clear hX hc hc' hg hg'
      go_upto_region 6 with fail
      refine wp_region_class (C := fun u => Below w.heap.size w u ∧ u.cell? ⟨g, off + i, none⟩ = some (.int .i64 X) ∧ u.cell? ⟨g', off' + i, none⟩ = some (.int .i64 X)) (by kernel_rfl) (by kernel_rfl) (HZ.out _ HB.out.drew) ?_
      repeat
        with_reducible refine wpQuiet_step (fun K hK => ?_)
        first
          | (refine quiet_skip (by rfl) ?_; (with_reducible refine hK _ ?_); clear hK K)
          | (refine quiet_want (by rfl) ?_
             apply Exists.intro
             refine ⟨fun x hx => ?_, hK _ ?_⟩
             (obtain ⟨_, hx1, hx2⟩ := id hx; go_simp; first | done | rfl | (fail))
             clear hK K)
        try simp only [Act.put, List.setIfInBounds_toArray, List.set_cons_zero, List.set_cons_succ]
      with_reducible refine wpQuiet_nil ?_
      intro wq hq
      have HQ := Lib.hid hq.1
      clear hq HZ
      go_wp2_with fail
      go_roundw
      case rel => exact ⟨i + 1, by simp, by omega, HQ.out⟩
      case measure => simp [intOf]; omega
    · obtain rfl : i = len := by omega
      go_wp2_with fail
      go_ret
      exact ⟨rfl, HB.out⟩
end Go.Proofs.Ytdfalipgfnjglaa
