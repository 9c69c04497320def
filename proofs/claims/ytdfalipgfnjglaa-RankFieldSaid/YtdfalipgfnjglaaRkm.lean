/- Nodes that take a master's place, in plain words (layer 21): a node's tick, a field's; behind a window just the best one is master (P21.4), of two the worse one is none soon (P21.5). No program in it. Conditions: each theorem says its own. -/
import Derived.WalkKit
namespace Go.Proofs.Ytdfalipgfnjglaa
/-- How a node stands: is it master, how many ticks it has heard nobody better, how many since it told its turn. -/
structure Nd where
  m : Bool
  i : Int
  s : Int
def waitI (b s k : Int) : Int := b + k * s
/-- Was a rank heard that a node of rank k leaves the place to? -/
def yieldsB (k : Int) (h : List Int) : Bool := h.any (fun r => decide (0 ≤ r ∧ r < k))
/-- A tick of a node: how it stands, and whether it tells its turn. -/
def tkN (b s p k : Int) (h : List Int) (d : Nd) : Nd × Bool :=
  if yieldsB k h = true then (⟨false, 0, d.s⟩, false)
  else if d.m = true then (if p ≤ d.s + 1 then (⟨true, 0, 0⟩, true) else (⟨true, d.i, d.s + 1⟩, false))
  else if waitI b s k < d.i + 1 then (⟨true, 0, 0⟩, true) else (⟨false, d.i + 1, d.s⟩, false)
theorem yields_iff {k : Int} {h : List Int} : yieldsB k h = true ↔ ∃ r ∈ h, 0 ≤ r ∧ r < k := by
  unfold yieldsB
  rw [List.any_eq_true]
  simp only [decide_eq_true_eq]
theorem yields_nil (k : Int) : yieldsB k [] = false := rfl
theorem yields_no {k : Int} {h : List Int} (hk : ∀ r ∈ h, k ≤ r) : yieldsB k h = false := by
  cases e : yieldsB k h
  · rfl
  · obtain ⟨r, h1, h2, h3⟩ := yields_iff.1 e
    have := hk r h1
    omega
theorem tk_yes {b s p k : Int} {h : List Int} {d : Nd} (hy : yieldsB k h = true) : tkN b s p k h d = (⟨false, 0, d.s⟩, false) := by unfold tkN; rw [if_pos hy]
theorem tk_tell {b s p k : Int} {h : List Int} {d : Nd} (hy : yieldsB k h = false) (hm : d.m = true) (hp : p ≤ d.s + 1) : tkN b s p k h d = (⟨true, 0, 0⟩, true) := by unfold tkN; rw [if_neg (by rw [hy]; decide), if_pos hm, if_pos hp]
theorem tk_stay {b s p k : Int} {h : List Int} {d : Nd} (hy : yieldsB k h = false) (hm : d.m = true) (hp : ¬ p ≤ d.s + 1) : tkN b s p k h d = (⟨true, d.i, d.s + 1⟩, false) := by unfold tkN; rw [if_neg (by rw [hy]; decide), if_pos hm, if_neg hp]
theorem tk_take {b s p k : Int} {h : List Int} {d : Nd} (hy : yieldsB k h = false) (hm : d.m = false) (hp : waitI b s k < d.i + 1) : tkN b s p k h d = (⟨true, 0, 0⟩, true) := by unfold tkN; rw [if_neg (by rw [hy]; decide), if_neg (by rw [hm]; decide), if_pos hp]
theorem tk_wait {b s p k : Int} {h : List Int} {d : Nd} (hy : yieldsB k h = false) (hm : d.m = false) (hp : ¬ waitI b s k < d.i + 1) : tkN b s p k h d = (⟨false, d.i + 1, d.s⟩, false) := by unfold tkN; rw [if_neg (by rw [hy]; decide), if_neg (by rw [hm]; decide), if_neg hp]
/-- How a node can stand. -/
structure Ok1 (b s p k : Int) (d : Nd) : Prop where
  i0 : 0 ≤ d.i
  i1 : d.i ≤ waitI b s k
  m : d.m = true → d.i = 0 ∧ 0 ≤ d.s ∧ d.s < p
theorem Ok1.new {b s p k : Int} (hw : 0 ≤ waitI b s k) : Ok1 b s p k ⟨false, 0, 0⟩ := ⟨by simp, by simpa using hw, fun h => by cases h⟩
theorem Ok1.tick {b s p k : Int} {d : Nd} (h : Ok1 b s p k d) (hw : 0 ≤ waitI b s k) (hp : 1 ≤ p) (l : List Int) : Ok1 b s p k (tkN b s p k l d).1 := by
  cases hy : yieldsB k l
  · cases hm : d.m
    · by_cases hc : waitI b s k < d.i + 1
      · rw [tk_take hy hm hc]; exact ⟨by simp, by simpa using hw, fun _ => ⟨rfl, by simp, by simp; omega⟩⟩
      · rw [tk_wait hy hm hc]; exact ⟨by have := h.i0; simp; omega, by simp; omega, fun h => by cases h⟩
    · have h3 := h.m hm
      by_cases hc : p ≤ d.s + 1
      · rw [tk_tell hy hm hc]; exact ⟨by simp, by simpa using hw, fun _ => ⟨rfl, by simp, by simp; omega⟩⟩
      · rw [tk_stay hy hm hc]; exact ⟨by simpa using h.i0, by simpa using h.i1, fun _ => ⟨by simpa using h3.1, by simp; omega, by simp; omega⟩⟩
  · rw [tk_yes hy]; exact ⟨by simp, by simpa using hw, fun h => by cases h⟩
/-- Who tells is master, and has just told; a master that has just told told. -/
theorem tk_told {b s p k : Int} {d : Nd} {l : List Int} (h : (tkN b s p k l d).2 = true) : (tkN b s p k l d).1.m = true ∧ yieldsB k l = false := by
  cases hy : yieldsB k l
  · refine ⟨?_, rfl⟩
    cases hm : d.m
    · by_cases hc : waitI b s k < d.i + 1
      · rw [tk_take hy hm hc]
      · rw [tk_wait hy hm hc] at h; cases h
    · by_cases hc : p ≤ d.s + 1
      · rw [tk_tell hy hm hc]
      · rw [tk_stay hy hm hc] at h; cases h
  · rw [tk_yes hy] at h; cases h
theorem tk_just {b s p k : Int} {d : Nd} {l : List Int} (h : Ok1 b s p k d) (hm' : (tkN b s p k l d).1.m = true) (hs : (tkN b s p k l d).1.s = 0) : (tkN b s p k l d).2 = true := by
  cases hy : yieldsB k l
  · cases hm : d.m
    · by_cases hc : waitI b s k < d.i + 1
      · rw [tk_take hy hm hc]
      · rw [tk_wait hy hm hc] at hm'; cases hm'
    · have h3 := h.m hm
      by_cases hc : p ≤ d.s + 1
      · rw [tk_tell hy hm hc]
      · rw [tk_stay hy hm hc] at hs; simp at hs; omega
  · rw [tk_yes hy] at hm'; cases hm'
/-- A field's nodes, by ranks; none is one that is off. -/
abbrev Fs := Nat → Option Nd
def tkS (b s p : Int) (h : List Int) (st : Fs) : Fs := fun k => (st k).map (fun d => (tkN b s p k h d).1)
def tellB (b s p : Int) (h : List Int) (st : Fs) (k : Nat) : Bool := match st k with | some d => (tkN b s p k h d).2 | none => false
def mastB (st : Fs) (k : Nat) : Bool := match st k with | some d => d.m | none => false
/-- Those of the first n that say yes, by ranks. -/
def pickI (n : Nat) (q : Nat → Bool) : List Int := ((List.range n).filter q).map (fun k : Nat => (k : Int))
theorem pick_mem {n : Nat} {q : Nat → Bool} {r : Int} : r ∈ pickI n q ↔ ∃ k : Nat, r = (k : Int) ∧ k < n ∧ q k = true := by
  unfold pickI
  rw [List.mem_map]
  constructor
  · rintro ⟨k, hk, rfl⟩
    rw [List.mem_filter, List.mem_range] at hk
    exact ⟨k, rfl, hk.1, hk.2⟩
  · rintro ⟨k, rfl, h1, h2⟩
    exact ⟨k, by rw [List.mem_filter, List.mem_range]; exact ⟨h1, h2⟩, rfl⟩
theorem pick_succ (n : Nat) (q : Nat → Bool) : pickI (n + 1) q = pickI n q ++ if q n = true then [(n : Int)] else [] := by
  unfold pickI
  rw [List.range_succ, List.filter_append, List.map_append]
  congr 1
  cases h : q n <;> simp [h]
theorem pick_len (n : Nat) (q : Nat → Bool) : (pickI n q).length ≤ n := by
  unfold pickI
  rw [List.length_map]
  exact Nat.le_trans (List.length_filter_le _ _) (by simp)
theorem pick_none {n : Nat} {q : Nat → Bool} (h : ∀ k, k < n → q k = false) : pickI n q = [] := by
  induction n with
  | zero => rfl
  | succ n ih => rw [pick_succ, ih (fun k hk => h k (by omega)), h n (by omega)]; rfl
theorem pick_one {n c : Nat} {q : Nat → Bool} (hc : c < n) (h1 : q c = true) (h : ∀ k, k < n → k ≠ c → q k = false) : pickI n q = [(c : Int)] := by
  induction n with
  | zero => omega
  | succ n ih =>
    rw [pick_succ]
    by_cases e : c = n
    · subst e
      rw [pick_none (fun k hk => h k (by omega) (by omega)), if_pos h1]; rfl
    · rw [ih (by omega) (fun k hk hkc => h k (by omega) hkc), h n (by omega) (by omega)]; rfl
theorem pick_head {n : Nat} {q : Nat → Bool} {x : Int} {l : List Int} (h : pickI n q = x :: l) : ∃ c : Nat, x = (c : Int) ∧ c < n ∧ q c = true ∧ ∀ k, k < c → q k = false := by
  induction n generalizing x l with
  | zero => cases h
  | succ n ih =>
    rw [pick_succ] at h
    cases e : pickI n q with
    | nil =>
      rw [e] at h
      cases e2 : q n with
      | false => rw [e2] at h; cases h
      | true =>
        rw [e2] at h
        simp at h
        refine ⟨n, h.1.symm, by omega, e2, fun k hk => ?_⟩
        cases e3 : q k with
        | false => rfl
        | true =>
          have : (k : Int) ∈ pickI n q := pick_mem.2 ⟨k, rfl, hk, e3⟩
          rw [e] at this; cases this
    | cons y m =>
      rw [e] at h
      obtain ⟨c, h1, h2, h3, h4⟩ := ih e
      simp at h
      exact ⟨c, by rw [← h.1]; exact h1, by omega, h3, h4⟩
theorem tell_some {b s p : Int} {h : List Int} {st : Fs} {k : Nat} (ht : tellB b s p h st k = true) : ∃ d, st k = some d ∧ (tkN b s p k h d).2 = true := by
  unfold tellB at ht
  cases e : st k with
  | none => rw [e] at ht; cases ht
  | some d => rw [e] at ht; exact ⟨d, rfl, ht⟩
theorem mast_some {st : Fs} {k : Nat} (ht : mastB st k = true) : ∃ d, st k = some d ∧ d.m = true := by
  unfold mastB at ht
  cases e : st k with
  | none => rw [e] at ht; cases ht
  | some d => rw [e] at ht; exact ⟨d, rfl, ht⟩
theorem tkS_some {b s p : Int} {h : List Int} {st : Fs} {k : Nat} {d' : Nd} (hd : tkS b s p h st k = some d') : ∃ d, st k = some d ∧ d' = (tkN b s p k h d).1 := by
  unfold tkS at hd
  cases e : st k with
  | none => rw [e] at hd; cases hd
  | some d => rw [e] at hd; exact ⟨d, rfl, (Option.some.inj hd).symm⟩
theorem tkS_of {b s p : Int} {h : List Int} {st : Fs} {k : Nat} {d : Nd} (hd : st k = some d) : tkS b s p h st k = some (tkN b s p k h d).1 := by unfold tkS; rw [hd]; rfl
theorem tkS_none {b s p : Int} {h : List Int} {st : Fs} {k : Nat} (hd : st k = none) : tkS b s p h st k = none := by unfold tkS; rw [hd]; rfl
/-- How a field can stand. -/
structure FI (b s p : Int) (n : Nat) (st : Fs) (told : List Int) : Prop where
  ok : ∀ k, k < n → ∀ d, st k = some d → Ok1 b s p k d
  just : ∀ k, k < n → ∀ d, st k = some d → d.m = true → d.s = 0 → (k : Int) ∈ told
  out : ∀ r ∈ told, 0 ≤ r ∧ r < (n : Int)
/-- A config that can be. -/
structure Rc (b s p : Int) : Prop where
  p1 : 1 ≤ p ∧ p ≤ 1000
  s1 : 1 ≤ s ∧ s ≤ 1000
  b1 : p ≤ b ∧ b ≤ 10000
theorem Rc.wait {b s p : Int} (h : Rc b s p) (k : Nat) : b ≤ waitI b s k := by
  have h1 := h.s1.1
  have h2 : (0 : Int) ≤ (k : Int) * s := Int.mul_nonneg (by omega) (by omega)
  unfold waitI; omega
theorem Rc.waitMono {b s p : Int} (h : Rc b s p) {j k : Nat} (hjk : j ≤ k) : waitI b s j ≤ waitI b s k := by
  have h1 := h.s1.1
  have h2 : (j : Int) * s ≤ (k : Int) * s := Int.mul_le_mul_of_nonneg_right (by omega) (by omega)
  unfold waitI; omega
theorem FI.tick {b s p : Int} {n : Nat} {st : Fs} {told : List Int} (h : FI b s p n st told) (hc : Rc b s p) (l : List Int) : FI b s p n (tkS b s p l st) (pickI n (tellB b s p l st)) := by
  refine ⟨fun k hk d' hd => ?_, fun k hk d' hd hm hs => ?_, fun r hr => ?_⟩
  · obtain ⟨d, h1, rfl⟩ := tkS_some hd
    exact (h.ok k hk d h1).tick (by have := hc.wait k; have := hc.b1; have := hc.p1; omega) hc.p1.1 l
  · obtain ⟨d, h1, rfl⟩ := tkS_some hd
    refine pick_mem.2 ⟨k, rfl, hk, ?_⟩
    unfold tellB
    rw [h1]
    exact tk_just (h.ok k hk d h1) hm hs
  · obtain ⟨k, rfl, hk, _⟩ := pick_mem.1 hr
    omega
def setS (st : Fs) (k : Nat) (o : Option Nd) : Fs := fun j => if j = k then o else st j
theorem FI.crash {b s p : Int} {n : Nat} {st : Fs} {told : List Int} (h : FI b s p n st told) (k : Nat) : FI b s p n (setS st k none) told := by
  refine ⟨fun j hj d hd => ?_, fun j hj d hd => ?_, h.out⟩
  all_goals
    unfold setS at hd
    split at hd
    · cases hd
    · first | exact h.ok j hj d hd | exact h.just j hj d hd
theorem FI.restart {b s p : Int} {n : Nat} {st : Fs} {told : List Int} (h : FI b s p n st told) (hc : Rc b s p) (k : Nat) : FI b s p n (setS st k (some ⟨false, 0, 0⟩)) told := by
  refine ⟨fun j hj d hd => ?_, fun j hj d hd => ?_, h.out⟩
  · unfold setS at hd
    split at hd
    · cases hd; exact Ok1.new (by have := hc.wait j; have := hc.b1; have := hc.p1; omega)
    · exact h.ok j hj d hd
  · unfold setS at hd
    split at hd
    · cases hd; intro h; cases h
    · exact h.just j hj d hd
theorem FI.new {b s p : Int} (hc : Rc b s p) (n : Nat) : FI b s p n (fun _ => some ⟨false, 0, 0⟩) [] := by
  refine ⟨fun j hj d hd => ?_, fun j hj d hd => ?_, fun r hr => by cases hr⟩
  · cases hd; exact Ok1.new (by have := hc.wait j; have := hc.b1; have := hc.p1; omega)
  · cases hd; intro h; cases h
/-- In how many ticks a master's turn is heard, if a more are lost. -/
def roadI (p : Int) (d : Nd) (a : Int) : Int := (if d.s = 0 then 1 else p - d.s + 1) + a * p
theorem road_ge {p a : Int} {d : Nd} (hs : d.s < p) (hp : 1 ≤ p) (ha : 0 ≤ a) : 1 ≤ roadI p d a := by
  have : 0 ≤ a * p := Int.mul_nonneg ha (by omega)
  unfold roadI; split <;> omega
theorem road_mono {p a a' : Int} {d : Nd} (hp : 1 ≤ p) (ha : a' ≤ a) : roadI p d a' ≤ roadI p d a := by
  have : a' * p ≤ a * p := Int.mul_le_mul_of_nonneg_right ha (by omega)
  unfold roadI; omega
/-- How far a field is on its way to one master. -/
structure I1 (b s p : Int) (n q : Nat) (L T t a : Int) (st : Fs) (told : List Int) : Prop where
  fi : FI b s p n st told
  off : ∀ j, j < q → st j = none
  low : 1 ≤ t → ∀ r ∈ told, (q : Int) ≤ r
  best : ∃ d, st q = some d ∧ ((d.m = false ∧ t ≤ d.i + 1) ∨ (d.m = true ∧ ∀ k, q < k → k < n → ∀ e, st k = some e → (e.m = false ∧ e.i + roadI p d a ≤ (L + 1) * p) ∨ t + roadI p d a ≤ T))
theorem I1.mono {b s p : Int} {n q : Nat} {L T t a a' : Int} {st : Fs} {told : List Int} (h : I1 b s p n q L T t a st told) (hp : 1 ≤ p) (ha : a' ≤ a) : I1 b s p n q L T t a' st told := by
  obtain ⟨d, h1, h2⟩ := h.best
  have hr := road_mono (d := d) hp ha
  refine ⟨h.fi, h.off, h.low, d, h1, ?_⟩
  rcases h2 with h2 | ⟨h2, h3⟩
  · exact .inl h2
  · refine .inr ⟨h2, fun k hk hn e he => ?_⟩
    rcases h3 k hk hn e he with ⟨h4, h5⟩ | h4
    · exact .inl ⟨h4, by omega⟩
    · exact .inr (by omega)
theorem I1.step {b s p : Int} {n q : Nat} {L T t a a' : Int} {st : Fs} {told : List Int} (h : I1 b s p n q L T t a st told) (hc : Rc b s p) (hqn : q < n) (ht0 : 0 ≤ t) (hT : waitI b s q + 3 + L * p ≤ T) (hb : (L + 1) * p < b)
    (ha0 : 0 ≤ a') (haL : a ≤ L) (l : List Int) (hl : (l = told ∧ a' = a) ∨ (l = [] ∧ a' + 1 = a)) : I1 b s p n q L T (t + 1) a' (tkS b s p l st) (pickI n (tellB b s p l st)) := by
  have hp := hc.p1.1
  refine ⟨h.fi.tick hc l, fun j hj => tkS_none (h.off j hj), fun _ r hr => ?_, ?_⟩
  · obtain ⟨k, rfl, hk, hk2⟩ := pick_mem.1 hr
    obtain ⟨d, h1, _⟩ := tell_some hk2
    have : ¬ k < q := fun h5 => by rw [h.off k h5] at h1; cases h1
    omega
  · obtain ⟨d, h1, h2⟩ := h.best
    have hok := h.fi.ok q hqn d h1
    refine ⟨_, tkS_of h1, ?_⟩
    have ea : (L + 1) * p = L * p + p := by rw [Int.add_mul, Int.one_mul]
    have ea2 : a' * p ≤ a * p := Int.mul_le_mul_of_nonneg_right (by omega) (by omega)
    have ea3 : a * p ≤ L * p := Int.mul_le_mul_of_nonneg_right (by omega) (by omega)
    have ea4 : a' + 1 = a → a * p = a' * p + p := fun e => by rw [← e, Int.add_mul, Int.one_mul]
    cases hy : yieldsB q l with
    | true =>
      rw [tk_yes hy]
      left
      refine ⟨rfl, ?_⟩
      obtain ⟨r, h5, h6, h7⟩ := yields_iff.1 hy
      rcases hl with ⟨rfl, _⟩ | ⟨rfl, _⟩
      · by_cases h8 : 1 ≤ t
        · have := h.low h8 r h5; omega
        · simp; omega
      · cases h5
    | false =>
      rcases h2 with ⟨hm, h3⟩ | ⟨hm, h3⟩
      · by_cases hw : waitI b s q < d.i + 1
        · rw [tk_take hy hm hw]
          refine .inr ⟨rfl, fun k _ _ e _ => .inr ?_⟩
          have h4 := hok.i1
          unfold roadI
          simp
          omega
        · rw [tk_wait hy hm hw]
          exact .inl ⟨rfl, by simp; omega⟩
      · right
        have hd3 := hok.m hm
        have hm' : (tkN b s p q l d).1.m = true := by
          by_cases hc2 : p ≤ d.s + 1
          · rw [tk_tell hy hm hc2]
          · rw [tk_stay hy hm hc2]; 
        refine ⟨hm', fun k hqk hkn e' he' => ?_⟩
        obtain ⟨e, h4, rfl⟩ := tkS_some he'
        have hoe := h.fi.ok k hkn e h4
        have hw := hc.wait k
        by_cases hheard : l = told ∧ d.s = 0
        · have hq : (q : Int) ∈ l := by rw [hheard.1]; exact h.fi.just q hqn d h1 hm hheard.2
          have hyk : yieldsB k l = true := yields_iff.2 ⟨q, hq, by omega, by omega⟩
          rw [tk_yes hyk]
          left
          refine ⟨rfl, ?_⟩
          by_cases hc2 : p ≤ d.s + 1
          · rw [tk_tell hy hm hc2]; unfold roadI; simp; omega
          · rw [tk_stay hy hm hc2]; unfold roadI; simp; rw [if_neg (by omega)]; omega
        · have hR : roadI p (tkN b s p q l d).1 a' + 1 ≤ roadI p d a := by
            by_cases hc2 : p ≤ d.s + 1
            · rw [tk_tell hy hm hc2]
              unfold roadI
              simp
              rcases hl with ⟨h5, h6⟩ | ⟨h5, h6⟩
              · rw [if_neg (fun h7 => hheard ⟨h5, h7⟩)]; omega
              · have := ea4 h6; split <;> omega
            · rw [tk_stay hy hm hc2]
              unfold roadI
              simp
              rw [if_neg (by omega)]
              rcases hl with ⟨h5, h6⟩ | ⟨h5, h6⟩
              · rw [if_neg (fun h7 => hheard ⟨h5, h7⟩)]; omega
              · have := ea4 h6; split <;> omega
          have hRge : 1 ≤ roadI p d a := road_ge hd3.2.2 hp (by rcases hl with ⟨_, h6⟩ | ⟨_, h6⟩ <;> omega)
          rcases h3 k hqk hkn e h4 with ⟨h5, h6⟩ | h5
          · left
            cases hyk : yieldsB k l with
            | true => rw [tk_yes hyk]; exact ⟨rfl, by have := hoe.i0; simp; omega⟩
            | false => rw [tk_wait hyk h5 (by omega)]; exact ⟨rfl, by simp; omega⟩
          · right; omega
theorem I1.masters {b s p : Int} {n q : Nat} {L T t a : Int} {st : Fs} {told : List Int} (h : I1 b s p n q L T t a st told) (hc : Rc b s p) (hqn : q < n) (hT : waitI b s q + 1 ≤ T) (ha : 0 ≤ a) (ht : T < t) : pickI n (mastB st) = [(q : Int)] := by
  obtain ⟨d, h1, h2⟩ := h.best
  have hok := h.fi.ok q hqn d h1
  have hm : d.m = true := by
    rcases h2 with ⟨_, h3⟩ | ⟨h3, _⟩
    · have := hok.i1; omega
    · exact h3
  refine pick_one hqn (by unfold mastB; rw [h1]; exact hm) (fun k hk hkq => ?_)
  unfold mastB
  by_cases hlt : k < q
  · rw [h.off k hlt]
  · cases e : st k with
    | none => rfl
    | some e' =>
      rcases h2 with ⟨h3, _⟩ | ⟨_, h3⟩
      · rw [hm] at h3; cases h3
      · rcases h3 k (by omega) hk e' e with ⟨h4, _⟩ | h4
        · exact h4
        · have := road_ge (a := a) (hok.m hm).2.2 hc.p1.1 ha; omega
theorem low_of (l : List Int) (j : Int) : (∀ r ∈ l, j ≤ r) ∨ ∃ x ∈ l, x < j ∧ ∀ r ∈ l, x ≤ r := by
  induction l with
  | nil => exact .inl (fun r hr => by cases hr)
  | cons y l ih =>
    rcases ih with h | ⟨x, h1, h2, h3⟩
    · by_cases hy : j ≤ y
      · exact .inl (fun r hr => by rcases List.mem_cons.1 hr with rfl | hr; exact hy; exact h r hr)
      · exact .inr ⟨y, by simp, by omega, fun r hr => by rcases List.mem_cons.1 hr with rfl | hr; omega; have := h r hr; omega⟩
    · by_cases hy : x ≤ y
      · exact .inr ⟨x, by simp [h1], h2, fun r hr => by rcases List.mem_cons.1 hr with rfl | hr; exact hy; exact h3 r hr⟩
      · exact .inr ⟨y, by simp, by omega, fun r hr => by rcases List.mem_cons.1 hr with rfl | hr; omega; have := h3 r hr; omega⟩
/-- How far a field is on its way to none above q. -/
structure I2 (b s p : Int) (n q : Nat) (t : Int) (st : Fs) (told : List Int) : Prop where
  fi : FI b s p n st told
  one : ∃ j, j ≤ q ∧ (∃ d, st j = some d ∧ d.m = true) ∧ ∀ r ∈ told, (j : Int) ≤ r
  way : (∀ k, q < k → k < n → ∀ e, st k = some e → e.m = false ∧ e.i ≤ t) ∨ (∃ d, st q = some d ∧ d.m = true ∧ t + roadI p d 0 ≤ p + 1)
theorem I2.step {b s p : Int} {n q : Nat} {t : Int} {st : Fs} {told : List Int} (h : I2 b s p n q t st told) (hc : Rc b s p) (hqn : q < n) (ht0 : 0 ≤ t) (hb : p + 2 ≤ b) (htp : t < p + 2) : I2 b s p n q (t + 1) (tkS b s p told st) (pickI n (tellB b s p told st)) := by
  have hp := hc.p1.1
  refine ⟨h.fi.tick hc told, ?_, ?_⟩
  · obtain ⟨j, hj, ⟨d, h1, h2⟩, h3⟩ := h.one
    have hy := yields_no h3
    have hm' : (tkN b s p j told d).1.m = true := by
      by_cases hc2 : p ≤ d.s + 1
      · rw [tk_tell hy h2 hc2]
      · rw [tk_stay hy h2 hc2]
    rcases low_of (pickI n (tellB b s p told st)) j with h4 | ⟨x, h4, h5, h6⟩
    · exact ⟨j, hj, ⟨_, tkS_of h1, hm'⟩, h4⟩
    · obtain ⟨k, rfl, hk, hk2⟩ := pick_mem.1 h4
      obtain ⟨e, h7, h8⟩ := tell_some hk2
      exact ⟨k, by omega, ⟨_, tkS_of h7, (tk_told h8).1⟩, h6⟩
  · have clear_of : (∃ r ∈ told, 0 ≤ r ∧ r ≤ (q : Int)) → ∀ k, q < k → k < n → ∀ e, tkS b s p told st k = some e → e.m = false ∧ e.i ≤ t + 1 := by
      rintro ⟨r, hr, hr0, hrq⟩ k hqk hkn e he
      obtain ⟨d, _, rfl⟩ := tkS_some he
      have hyk : yieldsB k told = true := yields_iff.2 ⟨r, hr, hr0, by omega⟩
      rw [tk_yes hyk]
      exact ⟨rfl, by simp; omega⟩
    rcases h.way with h1 | ⟨d, h1, h2, h3⟩
    · left
      intro k hqk hkn e he
      obtain ⟨e0, h4, rfl⟩ := tkS_some he
      obtain ⟨h5, h6⟩ := h1 k hqk hkn e0 h4
      have hw := hc.wait k
      cases hyk : yieldsB k told with
      | true => rw [tk_yes hyk]; exact ⟨rfl, by simp; omega⟩
      | false => rw [tk_wait hyk h5 (by omega)]; exact ⟨rfl, by simp; omega⟩
    · have hok := (h.fi.ok q hqn d h1).m h2
      cases hy : yieldsB q told with
      | true =>
        obtain ⟨r, h5, h6, h7⟩ := yields_iff.1 hy
        exact .inl (clear_of ⟨r, h5, h6, by omega⟩)
      | false =>
        by_cases hs : d.s = 0
        · exact .inl (clear_of ⟨q, h.fi.just q hqn d h1 h2 hs, by omega, by omega⟩)
        · right
          unfold roadI at h3
          rw [if_neg hs] at h3
          refine ⟨_, tkS_of h1, ?_⟩
          by_cases hc2 : p ≤ d.s + 1
          · rw [tk_tell hy h2 hc2]; refine ⟨rfl, ?_⟩; unfold roadI; simp; omega
          · rw [tk_stay hy h2 hc2]; refine ⟨rfl, ?_⟩; unfold roadI; simp; rw [if_neg (by omega)]; omega
theorem I2.ends {b s p : Int} {n q : Nat} {st : Fs} {told : List Int} (h : I2 b s p n q (p + 2) st told) (hqn : q < n) (hc : Rc b s p) : (∀ r ∈ pickI n (mastB st), r ≤ (q : Int)) ∧ pickI n (mastB st) ≠ [] := by
  constructor
  · intro r hr
    obtain ⟨k, rfl, hk, hk2⟩ := pick_mem.1 hr
    obtain ⟨e, h7, h8⟩ := mast_some hk2
    by_cases hqk : q < k
    · rcases h.way with h1 | ⟨d, h1, h2, h3⟩
      · rw [(h1 k hqk hk e h7).1] at h8; cases h8
      · have hok := (h.fi.ok q hqn d h1).m h2
        have := road_ge (a := 0) hok.2.2 hc.p1.1 (Int.le_refl _)
        omega
    · omega
  · obtain ⟨j, hj, ⟨d, h1, h2⟩, _⟩ := h.one
    intro e
    have : (j : Int) ∈ pickI n (mastB st) := pick_mem.2 ⟨j, rfl, by omega, by unfold mastB; rw [h1]; exact h2⟩
    rw [e] at this; cases this
end Go.Proofs.Ytdfalipgfnjglaa
