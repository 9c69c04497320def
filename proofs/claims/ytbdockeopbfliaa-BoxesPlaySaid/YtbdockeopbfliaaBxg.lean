/- Mailboxes, and which of them is the best one: mathematics; frames of a slice that came in. No conditions. -/
import Derived.Test.YtbdockeopbfliaaFxa
import Derived.Test.YtbdockeopbfliaaOpg
namespace Go.Proofs.Ytbdockeopbfliaa
open Go.RowKit
/-- A frame. -/
structure FD where
  e : Bool
  n : Nat
  q : Bool
  l : Int
  x0 : Nat
  x1 : Nat
  x2 : Nat
  x3 : Nat
  x4 : Nat
  x5 : Nat
  x6 : Nat
  x7 : Nat
def FD.C (s : FD) : List Value := [.bool s.e, .int .u32 (s.n : Int), .bool s.q, .int .i64 s.l, .int .u8 (s.x0 : Int), .int .u8 (s.x1 : Int), .int .u8 (s.x2 : Int), .int .u8 (s.x3 : Int), .int .u8 (s.x4 : Int), .int .u8 (s.x5 : Int), .int .u8 (s.x6 : Int), .int .u8 (s.x7 : Int)]
def FD.wf (s : FD) : Prop := s.n < 4294967296
section
open Go.ChangeShapes Go.WideShapes Go.ChangeAt
variable {H : Type} {enc : TypeId × Value → H} {W : World} {base : Nat} {sp : Nat → Bool} {held : Bool}
theorem frameDG {fuel : Nat} {cs : List Value} {x : DataW H × List MemPlace} (hl : cs.length = 12) (h : DataW.trod enc Try.prog W base sp held fuel 37 cs = some x) : ∃ a : FD, cs = a.C ∧ a.wf := by
  obtain ⟨e, n, q, l, x0, x1, x2, x3, x4, x5, x6, x7, hc, hn, h0, h1, h2, h3, h4, h5, h6, h7⟩ := frameG hl h
  refine ⟨⟨e, n.toNat, q, l, x0.toNat, x1.toNat, x2.toNat, x3.toNat, x4.toNat, x5.toNat, x6.toNat, x7.toNat⟩, ?_, ?_⟩
  · rw [hc]
    unfold FD.C
    simp only
    rw [show ((n.toNat : Nat) : Int) = n by omega, show ((x0.toNat : Nat) : Int) = x0 by omega, show ((x1.toNat : Nat) : Int) = x1 by omega, show ((x2.toNat : Nat) : Int) = x2 by omega, show ((x3.toNat : Nat) : Int) = x3 by omega, show ((x4.toNat : Nat) : Int) = x4 by omega, show ((x5.toNat : Nat) : Int) = x5 by omega, show ((x6.toNat : Nat) : Int) = x6 by omega, show ((x7.toNat : Nat) : Int) = x7 by omega]
  · show n.toNat < 4294967296
    omega
end
theorem rd_fd {W : World} {a : Option Addr} {n cap : Nat} {L : List FD} (h : Rd W 12 (.slice a n cap) (L.flatMap FD.C)) {j : Nat} (hj : j < L.length) : ∃ g off, a = some ⟨g, off, none⟩ ∧ g < W.heap.size ∧ ∀ i u, L[j].C[i]? = some u → W.cell? ⟨g, off + j * 12 + i, none⟩ = some u := by
  obtain ⟨n', cap', a', e, h1, h2, h3, h4⟩ := h
  obtain ⟨e1, e2, e3⟩ := Value.slice.inj e
  rw [flat_len 12 FD.C (fun _ => rfl)] at h1
  rw [← e2] at h1 h4
  rw [← e1] at h4
  rcases h4 with h5 | ⟨g, off, rfl, hg, hc⟩
  · omega
  · refine ⟨g, off, rfl, hg, fun i u hi => ?_⟩
    have hl : i < 12 := (List.getElem?_eq_some_iff.1 hi).1
    rw [Nat.add_assoc]
    exact hc (j * 12 + i) u ((flat_at 12 FD.C (fun _ => rfl) L j i hj hl).trans hi)
/-- The post of a frame, made one that can be. -/
def pfx (s : FD) (i : Nat) : PD :=
  ⟨s.e, fixN s.e s.n, s.q, fixL s.l, (fixD s.q (fixL s.l) [s.x0, s.x1, s.x2, s.x3, s.x4, s.x5, s.x6, s.x7])[0]?.getD 0, (fixD s.q (fixL s.l) [s.x0, s.x1, s.x2, s.x3, s.x4, s.x5, s.x6, s.x7])[1]?.getD 0, (fixD s.q (fixL s.l) [s.x0, s.x1, s.x2, s.x3, s.x4, s.x5, s.x6, s.x7])[2]?.getD 0, (fixD s.q (fixL s.l) [s.x0, s.x1, s.x2, s.x3, s.x4, s.x5, s.x6, s.x7])[3]?.getD 0, (fixD s.q (fixL s.l) [s.x0, s.x1, s.x2, s.x3, s.x4, s.x5, s.x6, s.x7])[4]?.getD 0, (fixD s.q (fixL s.l) [s.x0, s.x1, s.x2, s.x3, s.x4, s.x5, s.x6, s.x7])[5]?.getD 0, (fixD s.q (fixL s.l) [s.x0, s.x1, s.x2, s.x3, s.x4, s.x5, s.x6, s.x7])[6]?.getD 0, (fixD s.q (fixL s.l) [s.x0, s.x1, s.x2, s.x3, s.x4, s.x5, s.x6, s.x7])[7]?.getD 0, false, (i : Int)⟩
theorem pfx_data (s : FD) : fixD s.q (fixL s.l) [s.x0, s.x1, s.x2, s.x3, s.x4, s.x5, s.x6, s.x7] = [(pfx s 0).x0, (pfx s 0).x1, (pfx s 0).x2, (pfx s 0).x3, (pfx s 0).x4, (pfx s 0).x5, (pfx s 0).x6, (pfx s 0).x7] := rfl
theorem pfx_right (s : FD) (i : Nat) : rightP (pfx s i) = 0 := fix_right s.e s.n s.q s.l [s.x0, s.x1, s.x2, s.x3, s.x4, s.x5, s.x6, s.x7]
theorem fixN_lt (e : Bool) (n : Nat) : fixN e n < 4294967296 := by
  unfold fixN
  by_cases h : e = true
  · rw [if_pos h]; omega
  · rw [if_neg h]; omega
/-- The first i are full, their tags are their numbers. -/
structure PI (L : List BD) (i : Nat) : Prop where
  len : L.length = 8
  full : ∀ j, j < 8 → (bxAt L j).full = decide (j < i)
  tag : ∀ j, j < i → (bxAt L j).p.tag = (j : Int)
  small : ∀ j, (bxAt L j).p.n < 4294967296
theorem PI.zero : PI (List.replicate 8 BD.zero) 0 :=
  ⟨rfl, fun j hj => by
    have : bxAt (List.replicate 8 BD.zero) j = BD.zero := by unfold bxAt; rw [List.getElem?_replicate]; split <;> rfl
    rw [this]; rfl, fun j hj => by omega, bx_small (by decide +kernel)⟩
theorem PI.put {L : List BD} {i : Nat} (h : PI L i) (hi : i < 8) (p : PD) (hr : rightP p = 0) (ht : p.tag = (i : Int)) : putF 8 L p = ((i : Int), 0, L.set i ⟨true, p⟩) := by
  have h1 : findF L 8 p.tag = -1 := firstI_none fun j hj => by
    show tagB p.tag (bxAt L j) = false
    unfold tagB
    rw [h.full j hj]
    by_cases e : j < i
    · rw [h.tag j e, ht, beq_eq_false_iff_ne.2 (by omega), Bool.and_false]
    · rw [decide_eq_false e]; rfl
  have h2 : emptyF L 8 = (i : Int) := firstI_at hi (by
    show emptyB (bxAt L i) = true
    unfold emptyB
    rw [h.full i hi, decide_eq_false (by omega)]; rfl) (fun j hj => by
    show emptyB (bxAt L j) = false
    unfold emptyB
    rw [h.full j (by omega), decide_eq_true hj]; rfl)
  unfold putF
  rw [if_neg (by rw [hr]; simp), h1, if_neg (by simp), h2, if_neg (by omega)]
  rfl
theorem PI.next {L : List BD} {i : Nat} (h : PI L i) (hi : i < 8) (p : PD) (ht : p.tag = (i : Int)) (hn : p.n < 4294967296) : PI (L.set i ⟨true, p⟩) (i + 1) := by
  have hs := fun k => bxAt_set L i (by rw [h.len]; exact hi) ⟨true, p⟩ k
  refine ⟨by rw [List.length_set]; exact h.len, fun j hj => ?_, fun j hj => ?_, fun j => ?_⟩
  · rw [hs]
    by_cases e : j = i
    · rw [if_pos e, decide_eq_true (by omega)]
    · rw [if_neg e, h.full j hj, decide_eq_decide]; omega
  · rw [hs]
    by_cases e : j = i
    · rw [if_pos e, e]; exact ht
    · rw [if_neg e]; exact h.tag j (by omega)
  · rw [hs]
    by_cases e : j = i
    · rw [if_pos e]; exact hn
    · rw [if_neg e]; exact h.small j
theorem PI.lenF {L : List BD} {i : Nat} (h : PI L i) : ∀ n, n ≤ 8 → lenF L n = min n i := by
  intro n
  induction n with
  | zero => intro _; simp [Go.Proofs.Ytbdockeopbfliaa.lenF]
  | succ n ih =>
    intro hn
    unfold Go.Proofs.Ytbdockeopbfliaa.lenF
    rw [ih (by omega), h.full n (by omega)]
    by_cases e : n < i
    · rw [decide_eq_true e, if_pos rfl]; omega
    · rw [decide_eq_false e, if_neg (by simp)]; omega
theorem best_spec (L : List BD) (n : Nat) : (∃ b : Nat, b < n ∧ bestS L n = ((b : Int), keyP (bxAt L b).p) ∧ (bxAt L b).full = true ∧ ∀ j, j < n → (bxAt L j).full = true → keyP (bxAt L b).p ≤ keyP (bxAt L j).p) ∨ (bestS L n = (-1, 4294967296) ∧ ∀ j, j < n → (bxAt L j).full = false) := by
  induction n with
  | zero => exact .inr ⟨rfl, fun j hj => by omega⟩
  | succ n ih =>
    rcases ih with ⟨b, h1, h2, h3, h4⟩ | ⟨h1, h2⟩
    · by_cases hc : (bxAt L n).full = true ∧ keyP (bxAt L n).p < keyP (bxAt L b).p
      · refine .inl ⟨n, by omega, by unfold bestS; rw [h2, if_pos hc], hc.1, fun j hj hf => ?_⟩
        by_cases e : j < n
        · have := h4 j e hf; omega
        · obtain rfl : j = n := by omega
          exact Nat.le_refl _
      · refine .inl ⟨b, by omega, by unfold bestS; rw [h2, if_neg hc], h3, fun j hj hf => ?_⟩
        by_cases e : j < n
        · exact h4 j e hf
        · obtain rfl : j = n := by omega
          exact Nat.le_of_not_lt fun hlt => hc ⟨hf, hlt⟩
    · by_cases hf : (bxAt L n).full = true
      · refine .inl ⟨n, by omega, by unfold bestS; rw [h1, if_pos ⟨hf, idKey_lt _ _ _⟩], hf, fun j hj hf2 => ?_⟩
        by_cases e : j < n
        · rw [h2 j e] at hf2; cases hf2
        · obtain rfl : j = n := by omega
          exact Nat.le_refl _
      · refine .inr ⟨by unfold bestS; rw [h1, if_neg (fun h => hf h.1)], fun j hj => ?_⟩
        by_cases e : j < n
        · exact h2 j e
        · obtain rfl : j = n := by omega
          simpa using hf
theorem lenF_set (L : List BD) (b : Nat) (hb : b < L.length) (hf : (bxAt L b).full = true) (n : Nat) : lenF (L.set b BD.zero) n + (if b < n then 1 else 0) = lenF L n := by
  induction n with
  | zero => simp [lenF]
  | succ n ih =>
    have a1 : lenF (L.set b BD.zero) (n + 1) = lenF (L.set b BD.zero) n + if (bxAt (L.set b BD.zero) n).full = true then 1 else 0 := rfl
    have a2 : lenF L (n + 1) = lenF L n + if (bxAt L n).full = true then 1 else 0 := rfl
    rw [a1, a2, bxAt_set L b hb]
    by_cases e : n = b
    · rw [if_pos e, e, hf, if_pos rfl, if_neg (show ¬ BD.zero.full = true by decide)]
      rw [e, if_neg (by omega)] at ih
      rw [if_pos (by omega)]
      omega
    · rw [if_neg e]
      obtain ⟨x, hx⟩ : ∃ x, x = if (bxAt L n).full = true then 1 else 0 := ⟨_, rfl⟩
      rw [← hx]
      by_cases h : b < n
      · rw [if_pos h] at ih
        rw [if_pos (by omega)]
        omega
      · rw [if_neg h] at ih
        rw [if_neg (by omega)]
        omega
theorem lenF_none (L : List BD) (n : Nat) (h : lenF L n = 0) : ∀ j, j < n → (bxAt L j).full = false := by
  induction n with
  | zero => intro j hj; omega
  | succ n ih =>
    unfold lenF at h
    intro j hj
    by_cases e : j < n
    · exact ih (by omega) j e
    · obtain rfl : j = n := by omega
      by_cases hf : (bxAt L j).full = true
      · rw [if_pos hf] at h; omega
      · simpa using hf
theorem lenF_all (L : List BD) (n : Nat) (h : ∀ j, j < n → (bxAt L j).full = false) : lenF L n = 0 := by
  induction n with
  | zero => rfl
  | succ n ih =>
    unfold lenF
    rw [ih (fun j hj => h j (by omega)), h n (by omega)]
    rfl
/-- So many are full, none of them has a lesser key than this; all are numbers of 32 bits. -/
structure OI (L : List BD) (m last : Nat) : Prop where
  len : L.length = 8
  many : lenF L 8 = m
  key : ∀ j, j < 8 → (bxAt L j).full = true → last ≤ keyP (bxAt L j).p
  small : ∀ j, (bxAt L j).p.n < 4294967296
theorem PI.oi {L : List BD} {i : Nat} (h : PI L i) (hi : i ≤ 8) : OI L i 0 := ⟨h.len, by rw [h.lenF 8 (Nat.le_refl _)]; omega, fun _ _ _ => Nat.zero_le _, h.small⟩
/-- The best one is taken. -/
theorem OI.step {L : List BD} {m last : Nat} (h : OI L (m + 1) last) : ∃ b : Nat, b < 8 ∧ bestF L 8 = (b : Int) ∧ takeF 8 L (b : Int) = ((bxAt L b).p, 0, L.set b BD.zero) ∧ last ≤ keyP (bxAt L b).p ∧ (bxAt L b).p.n < 4294967296 ∧ OI (L.set b BD.zero) m (keyP (bxAt L b).p) := by
  rcases best_spec L 8 with ⟨b, h1, h2, h3, h4⟩ | ⟨_, h2⟩
  · have hs := fun k => bxAt_set L b (by rw [h.len]; exact h1) BD.zero k
    have hl := lenF_set L b (by rw [h.len]; exact h1) h3 8
    rw [if_pos h1, h.many] at hl
    refine ⟨b, h1, by unfold bestF; rw [h2], ?_, h.key b h1 h3, h.small b, by rw [List.length_set]; exact h.len, by omega, fun j hj hf => ?_, fun j => ?_⟩
    · unfold takeF
      rw [if_pos (by omega)]
      show (if (bxAt L b).full = true then _ else _) = _
      rw [if_pos h3]
      rfl
    · rw [hs] at hf ⊢
      by_cases e : j = b
      · rw [if_pos e] at hf; cases hf
      · rw [if_neg e] at hf ⊢
        exact h4 j hj hf
    · rw [hs]
      by_cases e : j = b
      · rw [if_pos e]; decide
      · rw [if_neg e]; exact h.small j
  · have := lenF_all L 8 h2
    rw [h.many] at this
    omega
theorem OI.done {L : List BD} {last : Nat} (h : OI L 0 last) : bestF L 8 = -1 := by
  rcases best_spec L 8 with ⟨b, h1, h2, h3, h4⟩ | ⟨h1, _⟩
  · rw [lenF_none L 8 h.many b h1] at h3; cases h3
  · unfold bestF; rw [h1]
end Go.Proofs.Ytbdockeopbfliaa
