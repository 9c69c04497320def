/- What a listener tells of bits, and what the same bits are as a whole. No program in it. No conditions. -/
import Derived.Test.YtmfnkfiocnngeaaDoorLif
namespace Go.Proofs.YtmfnkfiocnngeaaDoor
open Go.RowKit Go.Shelf
/-- What the i-th bit brings. -/
def evL (bs : List Nat) (i : Nat) : Nat := ((LS0.run (bs.take i)).hear (bs[i]?.getD 0)).2
/-- What was told, where, and whether a frame was valid. -/
def tell (t : Nat × Int × Bool) (i ev : Nat) : Nat × Int × Bool := if ev = 4 then (t.1, t.2.1, true) else if ev = 0 then t else (ev, (i : Int), t.2.2)
def tells (bs : List Nat) : Nat → Nat × Int × Bool
  | 0 => (0, -1, false)
  | i + 1 => tell (tells bs i) i (evL bs i)
theorem off_stays {bs : List Nat} {i : Nat} (h : (LS0.run (bs.take i)).p = 5) : evL bs i = 0 ∧ (LS0.run (bs.take (i + 1))).p = 5 := by
  have e : ∀ x, (LS0.run (bs.take i)).hear x = (LS0.run (bs.take i), 0) := fun x => by unfold LS.hear; rw [if_pos h]
  refine ⟨by unfold evL; rw [e], ?_⟩
  by_cases hi : i < bs.length
  · rw [LS.run_take _ _ _ hi, e]; exact h
  · rw [List.take_of_length_le (by omega)]; rwa [List.take_of_length_le (by omega)] at h
theorem off_after {bs : List Nat} {i : Nat} (h : (LS0.run (bs.take i)).p = 5) : ∀ d, evL bs (i + d) = 0 ∧ (LS0.run (bs.take (i + d))).p = 5 := by
  intro d
  induction d with
  | zero => exact ⟨(off_stays h).1, h⟩
  | succ d ih =>
    have h2 := (off_stays ih.2).2
    exact ⟨(off_stays h2).1, h2⟩
theorem tells_quiet {bs : List Nat} {M : Nat} (h : ∀ i, i < M → evL bs i = 0) : tells bs M = (0, -1, false) := by
  induction M with
  | zero => rfl
  | succ M ih =>
    show tell (tells bs M) M (evL bs M) = _
    rw [ih (fun i hi => h i (by omega)), h M (by omega)]
    rfl
theorem tells_none {bs : List Nat} {M : Nat} (h : ∀ i, i < M → evL bs i = 0 ∨ evL bs i = 4) : (tells bs M).1 = 0 := by
  induction M with
  | zero => rfl
  | succ M ih =>
    show (tell (tells bs M) M (evL bs M)).1 = _
    have i1 := ih (fun i hi => h i (by omega))
    unfold tell
    rcases h M (by omega) with e | e
    · rw [e, if_neg (by decide), if_pos rfl]; exact i1
    · rw [e, if_pos rfl]; exact i1
/-- Nothing is told twice. -/
def Once (bs : List Nat) : Prop := ∀ i, i < bs.length → evL bs i ≠ 0 → evL bs i ≠ 4 → (tells bs i).1 = 0
theorem once_end {bs : List Nat} {M : Nat} (hM : M < bs.length) (h : ∀ i, i < M → evL bs i = 0 ∨ evL bs i = 4) (hp : (LS0.run (bs.take (M + 1))).p = 5) : Once bs ∧ tells bs bs.length = tell (tells bs M) M (evL bs M) := by
  have ho := off_after hp
  refine ⟨fun i hi h0 h4 => ?_, ?_⟩
  · by_cases c : i ≤ M
    · exact tells_none (fun k hk => h k (by omega))
    · have := (ho (i - (M + 1))).1
      rw [show M + 1 + (i - (M + 1)) = i by omega] at this
      exact absurd this h0
  · have : ∀ d, tells bs (M + 1 + d) = tells bs (M + 1) := by
      intro d
      induction d with
      | zero => rfl
      | succ d ih =>
        show tell (tells bs (M + 1 + d)) (M + 1 + d) (evL bs (M + 1 + d)) = _
        rw [(ho d).1, ih]
        rfl
    have e := this (bs.length - (M + 1))
    rw [show M + 1 + (bs.length - (M + 1)) = bs.length by omega] at e
    rw [e]
    rfl
theorem once_open {bs : List Nat} (h : ∀ i, i < bs.length → evL bs i = 0 ∨ evL bs i = 4) : Once bs ∧ (tells bs bs.length).1 = 0 :=
  ⟨fun i hi h0 h4 => absurd (h i hi) (by omega), tells_none h⟩
/-- What is told fits what is wrong. -/
def Fits (bs : List Nat) (c at_ : Nat) : Prop := Once bs ∧ (c = 0 ∨ c = 2 ∨ c = 3 ∨ c = 4 ∨ c = 5) ∧ (c = 0 → 0 < at_ ∧ tells bs bs.length = (5, (at_ : Int) - 1, true)) ∧ (c = 2 → (tells bs bs.length).1 = 0) ∧ (c = 4 → tells bs bs.length = (1, (at_ : Int), false)) ∧ (c = 5 → tells bs bs.length = (3, (at_ : Int), false)) ∧ (c = 3 → tells bs bs.length = (2, (at_ : Int), false) ∨ tells bs bs.length = (6, (at_ : Int), true))
theorem bits_drop (bs : List Nat) (i : Nat) (h : i < bs.length) : (bitsOf bs).drop i = bitN (bs[i]?.getD 0) :: (bitsOf bs).drop (i + 1) := drop_bits bs i h
theorem fits_end (bs : List Nat) (S : Nat) (s1 : LS) : ∀ d n, n + d = 9 → S + n ≤ bs.length → (∀ k, k ≤ n → LS0.run (bs.take (S + k)) = eN s1 k) → (∀ i, i < S → evL bs i = 0) → (∀ k, k < n → evL bs (S + k) = if k = 8 then 4 else 0) → tells bs (S + n) = (0, -1, decide (n = 9)) →
    Fits bs (endB s1.g (10 - n) (S + n) n ((bitsOf bs).drop (S + n))).1 (endB s1.g (10 - n) (S + n) n ((bitsOf bs).drop (S + n))).2 := by
  intro d
  induction d with
  | zero =>
    intro n hn hl hr hq he ht
    obtain rfl : n = 9 := by omega
    have hall : ∀ i, i < S + 9 → evL bs i = 0 ∨ evL bs i = 4 := fun i hi => by
      by_cases c : i < S
      · exact .inl (hq i c)
      · have := he (i - S) (by omega)
        rw [show S + (i - S) = i by omega] at this
        rw [this]
        split
        · exact .inr rfl
        · exact .inl rfl
    by_cases hlen : S + 9 = bs.length
    · rw [List.drop_of_length_le (by rw [bitsOf_length]; omega)]
      change Fits bs 2 (S + 9)
      have := once_open (bs := bs) (fun i hi => hall i (by omega))
      exact ⟨this.1, .inr (.inl rfl), fun h => absurd h (by simp), fun _ => this.2, fun h => absurd h (by simp), fun h => absurd h (by simp), fun h => absurd h (by simp)⟩
    · have hlt : S + 9 < bs.length := by omega
      rw [bits_drop bs (S + 9) hlt]
      have heb := end_bit s1 9 (by omega) (bs[S + 9]?.getD 0)
      have hr9 := hr 9 (by omega)
      have hnew := LS.run_take LS0 bs (S + 9) hlt
      rw [hr9] at hnew
      have hev : evL bs (S + 9) = ((eN s1 9).hear (bs[S + 9]?.getD 0)).2 := by unfold evL; rw [hr9]
      by_cases hx : bs[S + 9]?.getD 0 = 0
      · obtain ⟨g1, g2, g3⟩ := heb.1 ⟨hx, by decide⟩
        have hO := once_end hlt hall (by rw [hnew]; exact g2)
        rw [hev, g1, ht] at hO
        rw [hx, show (10 - 9) = 0 + 1 from rfl, endB, if_pos ⟨rfl, by decide⟩]
        exact ⟨hO.1, .inr (.inr (.inl rfl)), fun h => absurd h (by simp), fun h => absurd h (by simp), fun h => absurd h (by simp), fun h => absurd h (by simp), fun _ => .inr (by rw [hO.2]; rfl)⟩
      · obtain ⟨g1, g2, g3, _⟩ := (heb.2.2 (fun h => hx h.1) (fun h => absurd h.2 (by decide))).2 rfl
        have hO := once_end hlt hall (by rw [hnew]; exact g2)
        rw [hev, g1, ht] at hO
        rw [show (10 - 9) = 0 + 1 from rfl, endB, if_neg (fun h => hx (bitN_eq_zero h.1)), if_neg (fun h => absurd h.2 (by decide)), endB]
        refine ⟨hO.1, .inl rfl, fun _ => ⟨by show 0 < S + 9 + 1; omega, ?_⟩, fun h => absurd h (by simp), fun h => absurd h (by simp), fun h => absurd h (by simp), fun h => absurd h (by simp)⟩
        rw [hO.2]
        show ((5 : Nat), ((S + 9 : Nat) : Int), true) = (5, ((S + 9 + 1 : Nat) : Int) - 1, true)
        rw [show ((S + 9 + 1 : Nat) : Int) - 1 = ((S + 9 : Nat) : Int) by omega]
  | succ d ih =>
    intro n hn hl hr hq he ht
    have hall : ∀ i, i < S + n → evL bs i = 0 := fun i hi => by
      by_cases c : i < S
      · exact hq i c
      · have := he (i - S) (by omega)
        rw [show S + (i - S) = i by omega] at this
        rw [this, if_neg (by omega)]
    have hd9 : decide (n = 9) = false := decide_eq_false (by omega)
    rw [hd9] at ht
    rw [show 10 - n = (9 - n) + 1 by omega]
    by_cases hlen : S + n = bs.length
    · rw [List.drop_of_length_le (by rw [bitsOf_length]; omega), endB]
      have := once_open (bs := bs) (fun i hi => .inl (hall i (by omega)))
      exact ⟨this.1, .inr (.inl rfl), fun h => absurd h (by simp), fun _ => this.2, fun h => absurd h (by simp), fun h => absurd h (by simp), fun h => absurd h (by simp)⟩
    · have hlt : S + n < bs.length := by omega
      rw [bits_drop bs (S + n) hlt]
      have heb := end_bit s1 n (by omega) (bs[S + n]?.getD 0)
      have hrn := hr n (by omega)
      have hnew := LS.run_take LS0 bs (S + n) hlt
      rw [hrn] at hnew
      have hev : evL bs (S + n) = ((eN s1 n).hear (bs[S + n]?.getD 0)).2 := by unfold evL; rw [hrn]
      have hb0 : bitN (bs[S + n]?.getD 0) = 0 ↔ bs[S + n]?.getD 0 = 0 := ⟨bitN_eq_zero, fun h => by rw [h]; rfl⟩
      by_cases hx : bs[S + n]?.getD 0 = 0 ∧ n ≠ 1
      · obtain ⟨g1, g2, g3⟩ := heb.1 hx
        rw [if_neg (by omega)] at g1
        have hO := once_end hlt (fun i hi => .inl (hall i hi)) (by rw [hnew]; exact g2)
        rw [hev, g1, ht] at hO
        rw [endB, if_pos ⟨hb0.2 hx.1, hx.2⟩]
        exact ⟨hO.1, .inr (.inr (.inl rfl)), fun h => absurd h (by simp), fun h => absurd h (by simp), fun h => absurd h (by simp), fun h => absurd h (by simp), fun _ => .inl (by rw [hO.2]; rfl)⟩
      · by_cases hg : s1.g = false ∧ n = 2
        · obtain ⟨g1, g2, g3⟩ := heb.2.1 hx hg
          have hO := once_end hlt (fun i hi => .inl (hall i hi)) (by rw [hnew]; exact g2)
          rw [hev, g1, ht] at hO
          rw [endB, if_neg (fun h => hx ⟨hb0.1 h.1, h.2⟩), if_pos hg]
          exact ⟨hO.1, .inr (.inr (.inr (.inr rfl))), fun h => absurd h (by simp), fun h => absurd h (by simp), fun h => absurd h (by simp), fun _ => by rw [hO.2]; rfl, fun h => absurd h (by simp)⟩
        · have hgo := (heb.2.2 hx hg).1 (by omega)
          rw [endB, if_neg (fun h => hx ⟨hb0.1 h.1, h.2⟩), if_neg hg]
          rw [hgo] at hnew hev
          have := ih (n + 1) (by omega) (by omega) (fun k hk => by
            by_cases c : k ≤ n
            · exact hr k c
            · obtain rfl : k = n + 1 := by omega
              exact hnew) hq (fun k hk => by
            by_cases c : k < n
            · exact he k c
            · obtain rfl : k = n := by omega
              exact hev) (by
            show tell (tells bs (S + n)) (S + n) (evL bs (S + n)) = _
            rw [ht, hev]
            by_cases h8 : n = 8
            · rw [if_pos h8, decide_eq_true (show n + 1 = 9 by omega)]; rfl
            · rw [if_neg h8, decide_eq_false (show ¬ n + 1 = 9 by omega)]; rfl)
          rw [show 10 - (n + 1) = 9 - n by omega, show S + (n + 1) = S + n + 1 by omega] at this
          exact this
/-- What a listener tells is what is wrong with the bits as a whole. -/
theorem fits_all (bs : List Nat) : Fits bs (decB (bitsOf bs)).1 (decB (bitsOf bs)).2.1 := by
  obtain ⟨m, hm, hall, hres⟩ := phase bs LS0 0 LS0_b0
  have hq : ∀ i, i < m → evL bs i = 0 := fun i hi => (hall i hi).1
  rw [show opnB LS0.r (bitsOf LS0.raw) 0 (bitsOf bs) = opnB (0, 0) [] 0 (bitsOf bs) from rfl] at hres
  rcases hres with ⟨body, a, b, c⟩ | ⟨body, a, b, c⟩ | ⟨body, a, b, c, d, e, f⟩ | ⟨body, a, b, c, d, e⟩
  · rw [Nat.zero_add] at a c
    obtain ⟨hs1, hs2⟩ := opn_ok (bitsOf bs) (0, 0) [] 0 m body (fun _ => ⟨rfl, rfl⟩) (fun h => absurd rfl h) a
    have hgd : (LS0.run (bs.take m)).g = decide (crcOf body 0 = 0) := by
      rw [c.g]
      by_cases hc : crcOf body 0 = 0
      · obtain ⟨e, n, r, len, data, hp, _⟩ := parse_whole hs1 hs2 hc
        rw [hp, decide_eq_true hc]; rfl
      · have hp : parseB body = .error 5 := by
          have h1 : body[0]?.getD 0 = 0 := by
            cases hb : body with
            | nil => rfl
            | cons y l => rw [hb] at hs2; simp at hs2; simp [hs2]
          unfold parseB
          rw [if_neg (by rw [h1]; decide), hs1]
          simp only
          rw [if_neg (by omega), List.take_of_length_le (Nat.le_refl _), if_neg hc]
        rw [hp, decide_eq_false hc]; rfl
    have h := fits_end bs m (LS0.run (bs.take m)) 9 0 rfl hm (fun k hk => by
      obtain rfl : k = 0 := by omega
      rw [Nat.add_zero, eN_zero c]) hq (fun k hk => by omega) (by rw [Nat.add_zero, tells_quiet hq]; rfl)
    rw [hgd] at h
    rw [dec_good (by rw [a]), a]
    exact h
  · have e : decB (bitsOf bs) = (2, 0 + m, body) := by rw [dec_bad (by rw [a]; exact (by decide : (2 : Nat) ≠ 0)), a]
    rw [e]
    have := once_open (bs := bs) (fun i hi => .inl (hq i (by omega)))
    exact ⟨this.1, .inr (.inl rfl), fun h => absurd h (by simp), fun _ => this.2, fun h => absurd h (by simp), fun h => absurd h (by simp), fun h => absurd h (by simp)⟩
  · have e' : decB (bitsOf bs) = (3, 0, body) := by rw [dec_bad (by rw [a]; exact (by decide : (3 : Nat) ≠ 0)), a]
    obtain rfl : m = 0 := by omega
    rw [e']
    have hO := once_end c (fun i hi => .inl (hq i hi)) (by rw [LS.run_take _ _ _ c]; exact e)
    rw [show evL bs 0 = 2 from d] at hO
    exact ⟨hO.1, .inr (.inr (.inl rfl)), fun h => absurd h (by simp), fun h => absurd h (by simp), fun h => absurd h (by simp), fun h => absurd h (by simp), fun _ => .inl (by rw [hO.2]; rfl)⟩
  · rw [Nat.zero_add] at a
    have e' : decB (bitsOf bs) = (4, m, body) := by rw [dec_bad (by rw [a]; exact (by decide : (4 : Nat) ≠ 0)), a]
    rw [e']
    have hO := once_end b (fun i hi => .inl (hq i hi)) (by rw [LS.run_take _ _ _ b]; exact d)
    rw [show evL bs m = 1 from c, tells_quiet hq] at hO
    exact ⟨hO.1, .inr (.inr (.inr (.inl rfl))), fun h => absurd h (by simp), fun h => absurd h (by simp), fun _ => by rw [hO.2]; rfl, fun h => absurd h (by simp), fun h => absurd h (by simp)⟩
theorem end_at : ∀ (r : Bool) (k a n : Nat) (l : List Nat), (endB r k a n l).2 ≤ a + k := by
  intro r k
  induction k with
  | zero => intro a n l; rw [endB]; exact Nat.le_refl _
  | succ k ih =>
    intro a n l
    cases l with
    | nil => rw [endB]; exact Nat.le_add_right _ _
    | cons b l =>
      rw [endB]
      split
      · exact Nat.le_add_right _ _
      · split
        · exact Nat.le_add_right _ _
        · have := ih (a + 1) (n + 1) l
          omega
theorem dec_at (bs : List Nat) : (decB (bitsOf bs)).2.1 ≤ bs.length + 10 := by
  have h1 := opn_at (bitsOf bs) (0, 0) [] 0
  rw [bitsOf_length] at h1
  by_cases h : (opnB (0, 0) [] 0 (bitsOf bs)).1 = 0
  · rw [dec_good h]
    have := end_at (decide (crcOf (opnB (0, 0) [] 0 (bitsOf bs)).2.2 0 = 0)) 10 (opnB (0, 0) [] 0 (bitsOf bs)).2.1 0 ((bitsOf bs).drop (opnB (0, 0) [] 0 (bitsOf bs)).2.1)
    show (endB _ _ _ _ _).2 ≤ _
    omega
  · rw [dec_bad h]; omega
end Go.Proofs.YtmfnkfiocnngeaaDoor
