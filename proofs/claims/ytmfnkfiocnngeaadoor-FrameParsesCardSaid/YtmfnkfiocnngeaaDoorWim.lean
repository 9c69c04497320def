/- Frames on the wire, in plain numbers, as the document defines them: what bits begin with, and what is wrong first. No program in it. No conditions. -/
import Derived.Test.YtmfnkfiocnngeaaDoorBat
import Derived.Test.YtmfnkfiocnngeaaDoorBas
namespace Go.Proofs.YtmfnkfiocnngeaaDoor
/-- Is the body whole, and nothing due behind its last bit? -/
def fullB (r : Nat × Nat) (out : List Nat) : Bool := decide (sizeB out = some out.length) && decide (r.2 < 5)
/-- The body that bits begin with: what is wrong (0: nothing), at which place, and the body. -/
def opnB : (Nat × Nat) → List Nat → Nat → List Nat → Nat × Nat × List Nat
  | r, out, i, [] => if fullB r out = true then (0, i, out) else (2, i, out)
  | r, out, i, b :: l => if fullB r out = true then (0, i, out) else if i = 0 ∧ b ≠ 0 then (3, 0, out) else
      match uStep (some (r, out)) b with
      | none => (4, i, out)
      | some s => opnB s.1 s.2 (i + 1) l
theorem opnB_nil (r : Nat × Nat) (out : List Nat) (i : Nat) : opnB r out i [] = if fullB r out = true then (0, i, out) else (2, i, out) := by rw [opnB]
theorem opnB_cons (r : Nat × Nat) (out : List Nat) (i b : Nat) (l : List Nat) : opnB r out i (b :: l) = if fullB r out = true then (0, i, out) else if i = 0 ∧ b ≠ 0 then (3, 0, out) else
      match uStep (some (r, out)) b with
      | none => (4, i, out)
      | some s => opnB s.1 s.2 (i + 1) l := by rw [opnB]
theorem opnB_full {r : Nat × Nat} {out : List Nat} (h : fullB r out = true) (i : Nat) (l : List Nat) : opnB r out i l = (0, i, out) := by
  cases l
  · rw [opnB_nil, if_pos h]
  · rw [opnB_cons, if_pos h]
/-- The ten bits behind the body, from one of them on: what is wrong, and at which place. -/
def endB (right : Bool) : Nat → Nat → Nat → List Nat → Nat × Nat
  | 0, at_, _, _ => (0, at_)
  | _ + 1, at_, _, [] => (2, at_)
  | k + 1, at_, n, b :: l => if b = 0 ∧ n ≠ 1 then (3, at_) else if right = false ∧ n = 2 then (5, at_) else endB right k (at_ + 1) (n + 1) l
/-- What bits are as a frame: what is wrong first (0: nothing), at which place, and the body. -/
def decB (l : List Nat) : Nat × Nat × List Nat :=
  if (opnB (0, 0) [] 0 l).1 = 0 then
    ((endB (decide (crcOf (opnB (0, 0) [] 0 l).2.2 0 = 0)) 10 (opnB (0, 0) [] 0 l).2.1 0 (l.drop (opnB (0, 0) [] 0 l).2.1)).1, (endB (decide (crcOf (opnB (0, 0) [] 0 l).2.2 0 = 0)) 10 (opnB (0, 0) [] 0 l).2.1 0 (l.drop (opnB (0, 0) [] 0 l).2.1)).2, (opnB (0, 0) [] 0 l).2.2)
  else opnB (0, 0) [] 0 l
theorem opnB_over (q : List Nat) : ∀ (p : List Nat) (r : Nat × Nat) (out : List Nat) (i : Nat) (s : (Nat × Nat) × List Nat), p.foldl uStep (some (r, out)) = some s →
    (∀ j, j < p.length → ∀ t, (p.take j).foldl uStep (some (r, out)) = some t → fullB t.1 t.2 = false) → (i = 0 → p.head? ≠ none → p.head? = some 0) → opnB r out i (p ++ q) = opnB s.1 s.2 (i + p.length) q := by
  intro p
  induction p with
  | nil =>
    intro r out i s h _ _
    obtain rfl := Option.some.inj h
    rfl
  | cons b p ih =>
    intro r out i s h hn hz
    have h0 := hn 0 (by simp) (r, out) rfl
    rw [List.cons_append, opnB_cons, if_neg (by rw [h0]; decide), if_neg]
    · rw [List.foldl_cons] at h
      cases hu : uStep (some (r, out)) b with
      | none =>
        rw [hu] at h
        have : ∀ l : List Nat, l.foldl uStep none = none := fun l => by induction l with | nil => rfl | cons _ _ ih => exact ih
        rw [this] at h
        exact absurd h (by simp)
      | some t =>
        rw [hu] at h
        show opnB t.1 t.2 (i + 1) (p ++ q) = _
        rw [ih t.1 t.2 (i + 1) s h (fun j hj u hu' => hn (j + 1) (by simp; omega) u (by rw [List.take_succ_cons, List.foldl_cons, hu]; exact hu')) (fun h => by omega), List.length_cons, show i + 1 + p.length = i + (p.length + 1) by omega]
    · rintro ⟨hi, hb⟩
      have := hz hi (by simp)
      simp at this
      exact hb this
/-- What stands at the beginning of a stuffed string is the beginning of that string, and a bit is due where all of it has come but the last bit was put between. -/
theorem stuff_state (n : Nat) : ∀ l : List Nat, l.length = n → ∀ j, j ≤ (stuffB l).length → ∃ r k, uFold ((stuffB l).take j) = some (r, l.take k) ∧ k ≤ l.length ∧ (k = l.length → j = (stuffB l).length ∨ 5 ≤ r.2) := by
  induction n with
  | zero =>
    intro l hl j hj
    obtain rfl := List.length_eq_zero_iff.mp hl
    have : j = 0 := by simpa [stuffB, sFold] using hj
    subst this
    exact ⟨(0, 0), 0, rfl, Nat.le_refl _, fun _ => .inl rfl⟩
  | succ n ih =>
    intro l hl j hj
    rcases List.eq_nil_or_concat l with rfl | ⟨l', b, rfl⟩
    · simp at hl
    rw [List.concat_eq_append] at hl hj ⊢
    have hl' : l'.length = n := by simpa using hl
    have e : stuffB (l' ++ [b]) = (sStep (sFold l') b).2 := by unfold stuffB; rw [sFold_snoc]
    have hs : ∃ m, (sStep (sFold l') b).2 = stuffB l' ++ b :: m ∧ ((m = [] ) ∨ (∃ c, m = [c] ∧ 5 ≤ (nx (sFold l').1 b).2)) := by
      unfold sStep
      split
      · rename_i h5
        exact ⟨[1 - b], by simp [stuffB], .inr ⟨_, rfl, h5⟩⟩
      · exact ⟨[], by simp [stuffB], .inl rfl⟩
    obtain ⟨m, hm, hm2⟩ := hs
    rw [e, hm] at hj ⊢
    by_cases h1 : j ≤ (stuffB l').length
    · obtain ⟨r, k, h2, h3, _⟩ := ih l' hl' j h1
      refine ⟨r, k, ?_, by simp; omega, fun hk => by simp at hk; exact absurd hk (by have := h3; omega)⟩
      rw [List.take_append_of_le_length h1, h2, List.take_append_of_le_length h3]
    · by_cases h2 : j = (stuffB l').length + 1
      · refine ⟨nx (sFold l').1 b, l'.length + 1, ?_, by simp, fun _ => ?_⟩
        · have h4 := sFold_lt l'
          have e1 : (stuffB l' ++ b :: m).take j = stuffB l' ++ [b] := by
            rw [h2, show stuffB l' ++ b :: m = (stuffB l' ++ [b]) ++ m by simp, List.take_append_of_le_length (by simp), List.take_of_length_le (by simp)]
          rw [e1, uFold_snoc, there_back _ l' rfl, List.take_of_length_le (by simp)]
          show (if 5 ≤ (sFold l').1.2 then _ else _) = _
          rw [if_neg (by omega)]
        · rcases hm2 with rfl | ⟨c, rfl, h5⟩
          · exact .inl (by rw [h2]; simp)
          · exact .inr h5
      · rcases hm2 with rfl | ⟨c, rfl, h5⟩
        · simp at hj; omega
        · have h3 : j = (stuffB l' ++ [b, c]).length := by simp at hj ⊢; omega
          refine ⟨(sFold (l' ++ [b])).1, (l' ++ [b]).length, ?_, Nat.le_refl _, fun _ => .inl (by rw [h3])⟩
          rw [h3, List.take_of_length_le (Nat.le_refl _), List.take_of_length_le (Nat.le_refl _), ← hm, ← e]
          exact there_back _ _ rfl
theorem stuff_head {l : List Nat} (h : l.head? = some 0) : (stuffB l).head? = some 0 := by
  have h1 : 1 ≤ l.length := by cases l <;> simp at h ⊢
  have h2 := (stuff_most l).1
  obtain ⟨r, k, h3, h4, h5⟩ := stuff_state _ l rfl 1 (by omega)
  obtain ⟨b, s, hs⟩ : ∃ b s, stuffB l = b :: s := by
    cases hc : stuffB l with
    | nil => rw [hc, List.length_nil] at h2; omega
    | cons b s => exact ⟨b, s, rfl⟩
  rw [hs] at h3 ⊢
  have h6 : uFold [b] = some ((b, 1), [b]) := rfl
  rw [show (b :: s).take 1 = [b] from rfl, h6] at h3
  have h7 := congrArg Prod.snd (Option.some.inj h3)
  simp only at h7
  cases l with
  | nil => simp at h1
  | cons x l =>
    cases k with
    | zero => simp at h7
    | succ k =>
      rw [List.take_succ_cons] at h7
      injection h7 with h8 _
      simp at h
      simp [h8, h]
section
variable {e : Bool} {n : Nat} {r : Bool} {len : Nat} {data : List Nat}
theorem body_head : (bodyB e n r len data).head? = some 0 := by
  have h := body_zero e n r len data
  have : 0 < (bodyB e n r len data).length := by
    unfold bodyB headB; simp
  cases hc : bodyB e n r len data with
  | nil => rw [hc] at this; simp at this
  | cons a l => rw [hc] at h; simpa using h
theorem body_notFull (h : rightI e n = true) (hl : len ≤ 8) {j : Nat} (hj : j < (stuffB (bodyB e n r len data)).length) {s : (Nat × Nat) × List Nat} (hs : uFold ((stuffB (bodyB e n r len data)).take j) = some s) : fullB s.1 s.2 = false := by
  obtain ⟨t, k, h1, h2, h3⟩ := stuff_state _ (bodyB e n r len data) rfl j (by omega)
  rw [h1] at hs
  obtain rfl := Option.some.inj hs
  unfold fullB
  by_cases hk : k = (bodyB e n r len data).length
  · have := (h3 hk).resolve_left (by omega)
    simp only [Bool.and_eq_false_iff, decide_eq_false_iff_not]
    exact .inr (by show ¬ t.2 < 5; omega)
  · simp only [Bool.and_eq_false_iff, decide_eq_false_iff_not]
    refine .inl fun hc => ?_
    have h4 := size_begin h hl hc
    simp at h4
    omega
theorem body_full (h : rightI e n = true) (hl : len ≤ 8) : fullB (sFold (bodyB e n r len data)).1 (bodyB e n r len data) = true := by
  have h1 := size_body (r := r) (data := data) h hl []
  rw [List.append_nil] at h1
  have h2 := sFold_lt (bodyB e n r len data)
  unfold fullB
  rw [h1]
  simp only [Bool.and_eq_true, decide_eq_true_eq]
  exact ⟨trivial, by omega⟩
theorem opn_body (h : rightI e n = true) (hl : len ≤ 8) (q : List Nat) : opnB (0, 0) [] 0 (stuffB (bodyB e n r len data) ++ q) = (0, (stuffB (bodyB e n r len data)).length, bodyB e n r len data) := by
  rw [opnB_over q (stuffB (bodyB e n r len data)) (0, 0) [] 0 ((sFold (bodyB e n r len data)).1, bodyB e n r len data) (there_back _ _ rfl) (fun j hj t ht => body_notFull h hl hj ht) (fun _ _ => stuff_head body_head), opnB_full (body_full h hl), Nat.zero_add]
theorem opn_cut (h : rightI e n = true) (hl : len ≤ 8) {j : Nat} (hj : j < (stuffB (bodyB e n r len data)).length) : ∃ b, opnB (0, 0) [] 0 ((stuffB (bodyB e n r len data)).take j) = (2, j, b) := by
  obtain ⟨t, k, h1, h2, h3⟩ := stuff_state _ (bodyB e n r len data) rfl j (by omega)
  have h4 := opnB_over [] ((stuffB (bodyB e n r len data)).take j) (0, 0) [] 0 _ h1 (fun i hi u hu => by
    rw [List.length_take] at hi
    rw [List.take_take, show min i j = i by omega] at hu
    exact body_notFull h hl (by omega) hu) (fun _ _ => by
      have := stuff_head (body_head (e := e) (n := n) (r := r) (len := len) (data := data))
      cases j with
      | zero => simp_all
      | succ j => cases hc : stuffB (bodyB e n r len data) with
        | nil => rw [hc] at this; simp at this
        | cons x l => rw [hc] at this; simpa using this)
  rw [List.append_nil, opnB_nil, body_notFull h hl hj h1, if_neg (by decide), List.length_take, Nat.zero_add, show min j (stuffB (bodyB e n r len data)).length = j by omega] at h4
  exact ⟨_, h4⟩
end
/-- A frame's bits on the wire. -/
def encB (e : Bool) (n : Nat) (r : Bool) (len : Nat) (data : List Nat) : List Nat := stuffB (bodyB e n r len data) ++ List.replicate 10 1
section
variable {e : Bool} {n : Nat} {r : Bool} {len : Nat} {data : List Nat}
theorem encB_length : (encB e n r len data).length = (stuffB (bodyB e n r len data)).length + 10 := by simp [encB]
theorem body_whole : crcOf (bodyB e n r len data) 0 = 0 := by
  exact sealB_zero _
theorem dec_tail (h : rightI e n = true) (hl : len ≤ 8) (q : List Nat) : decB (stuffB (bodyB e n r len data) ++ q) = ((endB true 10 (stuffB (bodyB e n r len data)).length 0 q).1, (endB true 10 (stuffB (bodyB e n r len data)).length 0 q).2, bodyB e n r len data) := by
  unfold decB
  rw [opn_body h hl q]
  rw [if_pos rfl, body_whole]
  simp only [List.drop_left, decide_true]
theorem end_ten (a x : Nat) (q : List Nat) : endB true 10 a 0 (1 :: x :: 1 :: 1 :: 1 :: 1 :: 1 :: 1 :: 1 :: 1 :: q) = (0, a + 10) := by simp [endB]
theorem end_flip (a k : Nat) (hk : k < 10) (h1 : k ≠ 1) (q : List Nat) : endB true 10 a 0 ((List.replicate 10 1).set k 0 ++ q) = (3, a + k) := by
  obtain rfl | rfl | rfl | rfl | rfl | rfl | rfl | rfl | rfl | rfl : k = 0 ∨ k = 1 ∨ k = 2 ∨ k = 3 ∨ k = 4 ∨ k = 5 ∨ k = 6 ∨ k = 7 ∨ k = 8 ∨ k = 9 := by omega
  · simp [endB, List.replicate]
  · exact absurd rfl h1
  all_goals simp [endB, List.replicate]
theorem end_cut (a k : Nat) (hk : k < 10) : endB true 10 a 0 (List.replicate k 1) = (2, a + k) := by
  obtain rfl | rfl | rfl | rfl | rfl | rfl | rfl | rfl | rfl | rfl : k = 0 ∨ k = 1 ∨ k = 2 ∨ k = 3 ∨ k = 4 ∨ k = 5 ∨ k = 6 ∨ k = 7 ∨ k = 8 ∨ k = 9 := by omega
  all_goals simp [endB, List.replicate]
theorem dec_back (h : rightI e n = true) (hl : len ≤ 8) (x : Nat) (q : List Nat) : decB (stuffB (bodyB e n r len data) ++ (1 :: x :: 1 :: 1 :: 1 :: 1 :: 1 :: 1 :: 1 :: 1 :: q)) = (0, (encB e n r len data).length, bodyB e n r len data) := by
  rw [dec_tail h hl, end_ten, encB_length]
theorem dec_flip (h : rightI e n = true) (hl : len ≤ 8) (k : Nat) (hk : k < 10) (h1 : k ≠ 1) : decB (stuffB (bodyB e n r len data) ++ (List.replicate 10 1).set k 0) = (3, (stuffB (bodyB e n r len data)).length + k, bodyB e n r len data) := by
  rw [dec_tail h hl]
  have := end_flip (stuffB (bodyB e n r len data)).length k hk h1 []
  rw [List.append_nil] at this
  rw [this]
theorem dec_cut (h : rightI e n = true) (hl : len ≤ 8) {j : Nat} (hj : j < (encB e n r len data).length) : ∃ b, decB ((encB e n r len data).take j) = (2, j, b) := by
  rw [encB_length] at hj
  by_cases h1 : j < (stuffB (bodyB e n r len data)).length
  · obtain ⟨b, hb⟩ := opn_cut (r := r) (data := data) h hl h1
    refine ⟨b, ?_⟩
    unfold encB
    rw [List.take_append_of_le_length (by omega)]
    unfold decB
    rw [hb]
    rfl
  · refine ⟨bodyB e n r len data, ?_⟩
    unfold encB
    rw [List.take_append, List.take_of_length_le (by omega), List.take_replicate, show min (j - (stuffB (bodyB e n r len data)).length) 10 = j - (stuffB (bodyB e n r len data)).length by omega, dec_tail h hl, end_cut _ _ (by omega)]
    simp only [Prod.mk.injEq, and_true, true_and]
    omega
end
/-- Where a body is told to be whole, its first bit is 0, and it has as many bits as it says. -/
theorem opn_ok : ∀ (l : List Nat) (r : Nat × Nat) (out : List Nat) (i at_ : Nat) (b : List Nat), (i = 0 → out = [] ∧ r = (0, 0)) → (i ≠ 0 → out.head? = some 0) → opnB r out i l = (0, at_, b) → sizeB b = some b.length ∧ b.head? = some 0 := by
  intro l
  induction l with
  | nil =>
    intro r out i at_ b h0 h1 h
    rw [opnB_nil] at h
    by_cases hf : fullB r out = true
    · rw [if_pos hf] at h
      injection h with _ h
      injection h with _ h
      subst h
      unfold fullB at hf
      simp only [Bool.and_eq_true, decide_eq_true_eq] at hf
      refine ⟨hf.1, h1 fun hi => ?_⟩
      rw [(h0 hi).1] at hf
      simp [sizeB] at hf
    · rw [if_neg hf] at h
      injection h with h _
      exact absurd h (by decide)
  | cons c l ih =>
    intro r out i at_ b h0 h1 h
    rw [opnB_cons] at h
    by_cases hf : fullB r out = true
    · rw [if_pos hf] at h
      injection h with _ h
      injection h with _ h
      subst h
      unfold fullB at hf
      simp only [Bool.and_eq_true, decide_eq_true_eq] at hf
      refine ⟨hf.1, h1 fun hi => ?_⟩
      rw [(h0 hi).1] at hf
      simp [sizeB] at hf
    · rw [if_neg hf] at h
      by_cases hz : i = 0 ∧ c ≠ 0
      · rw [if_pos hz] at h
        injection h with h _
        exact absurd h (by decide)
      · rw [if_neg hz] at h
        cases hu : uStep (some (r, out)) c with
        | none =>
          rw [hu] at h
          injection h with h _
          exact absurd h (by decide)
        | some s =>
          rw [hu] at h
          refine ih s.1 s.2 (i + 1) at_ b (fun h => by omega) (fun _ => ?_) h
          have h2 : s.2 = out ∨ s.2 = out ++ [c] := by
            unfold uStep at hu
            simp only at hu
            split at hu
            · split at hu
              · obtain rfl := Option.some.inj hu
                exact .inl rfl
              · exact absurd hu (by simp)
            · obtain rfl := Option.some.inj hu
              exact .inr rfl
          by_cases hi : i = 0
          · have hc : c = 0 := by
              by_cases hc : c = 0
              · exact hc
              · exact absurd ⟨hi, hc⟩ hz
            obtain ⟨ho, hr⟩ := h0 hi
            subst ho hc hr
            obtain rfl := Option.some.inj hu
            rfl
          · have h3 := h1 hi
            cases out with
            | nil => simp at h3
            | cons x out =>
              rcases h2 with h2 | h2
              · rw [h2]; exact h3
              · rw [h2]; simpa using h3
end Go.Proofs.YtmfnkfiocnngeaaDoor
