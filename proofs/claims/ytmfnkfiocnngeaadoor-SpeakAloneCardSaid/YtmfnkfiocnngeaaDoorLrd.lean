/- What a listener of the code's and the document's own make of the same bits, one by one: the same. No program in it. No conditions. -/
import Derived.Test.YtmfnkfiocnngeaaDoorLrc
import Derived.Test.YtmfnkfiocnngeaaDoorLik
namespace Go.Proofs.YtmfnkfiocnngeaaDoor
open Go.RowKit Go.Shelf
def RS.run (s : RS) (l : List Nat) : RS := l.foldl (fun s x => (s.hear x).1) s
theorem RS.run_snoc (s : RS) (l : List Nat) (x : Nat) : s.run (l ++ [x]) = ((s.run l).hear x).1 := by unfold RS.run; rw [List.foldl_append]; rfl
theorem LS.step_p (s : LS) (r' : Nat × Nat) (raw' : List Nat) : (s.step r' raw').h = s.h := by unfold LS.step; split <;> rfl
theorem LS.take_h (s : LS) (x : Nat) : (s.take x).1.h = s.h := by
  unfold LS.take
  split
  · unfold LS.body
    (repeat' split) <;> first | rfl | exact LS.step_h _ _ _
  · split
    · unfold LS.last; (repeat' split) <;> rfl
    · (repeat' split) <;> rfl
theorem LS.hear_h {s : LS} (h : s.p ≠ 5) (x : Nat) : (s.hear x).1.h = s.h + 1 := by
  have e := LS.take_h s.tick x
  unfold LS.hear
  rw [if_neg h]
  split
  · exact e
  · exact e
theorem LS.hear_fr {s : LS} (h0 : s.p ≠ 0) (x : Nat) : (s.hear x).1.fr = s.fr := by
  unfold LS.hear
  split
  · rfl
  · have e : (s.tick.take x).1.fr = s.fr := by
      unfold LS.take
      rw [if_neg (show ¬ s.tick.p = 0 from h0)]
      split
      · unfold LS.last; (repeat' split) <;> rfl
      · (repeat' split) <;> rfl
    split
    · exact e
    · exact e
/-- Whether a body's sum is right, and whether it is a frame: the same. -/
theorem ok_crc {l body : List Nat} {m : Nat} (a : opnB (0, 0) [] 0 l = (0, m, body)) : okP (parseB body) = decide (crcOf body 0 = 0) := by
  obtain ⟨hs1, hs2⟩ := opn_ok l (0, 0) [] 0 m body (fun _ => ⟨rfl, rfl⟩) (fun h => absurd rfl h) a
  by_cases hc : crcOf body 0 = 0
  · obtain ⟨e, n, r, len, data, hp, _⟩ := parse_whole hs1 hs2 hc
    rw [hp, decide_eq_true hc]; rfl
  · have hp : parseB body = .error 5 := by
      have h1 : body[0]?.getD 0 = 0 := by
        cases hb : body with
        | nil => rfl
        | cons y l => rw [hb] at hs2; simp at hs2; simp [hs2]
      unfold parseB
      rw [if_neg (by rw [h1]; decide), hs1]
      simp only
      rw [if_neg (by omega), List.take_of_length_le (Nat.le_refl _), if_neg hc]
    rw [hp, decide_eq_false hc]; rfl
/-- Within the body. -/
structure LR0 (l : List Nat) (s : LS) (r : RS) : Prop where
  en : r.en = false
  ok : r.ok = false
  bs : r.bs = l
  b0 : B0 l.length s
  op : ∀ L, opnB (0, 0) [] 0 (bitsOf l ++ L) = opnB s.r (bitsOf s.raw) l.length L
/-- Behind the body, n of ten bits. -/
structure LR1 (l : List Nat) (s : LS) (r : RS) (S : Nat) (body : List Nat) (s1 : LS) (n : Nat) : Prop where
  n9 : n ≤ 9
  s : s = eN s1 n
  e1 : E1 S body s1
  len : S + n = l.length
  en : r.en = false
  bs : r.bs = l
  ok : r.ok = decide (n = 9)
  fr : n = 9 → r.fr = frC (parseB body)
  op : ∀ L, opnB (0, 0) [] 0 (bitsOf l ++ L) = (0, S, body)
  ed : ∀ L, endB s1.g 10 S 0 ((bitsOf l ++ L).drop S) = endB s1.g (10 - n) (S + n) n L
/-- Over. -/
structure LR2 (s : LS) (r : RS) : Prop where
  p : s.p = 5
  en : r.en = true
  vl : s.vl = r.ok
  fr : s.vl = true → s.fr = r.fr
  h : s.h = r.bs.length
def LR (l : List Nat) (s : LS) (r : RS) : Prop := LR0 l s r ∨ (∃ S body s1 n, LR1 l s r S body s1 n) ∨ LR2 s r
theorem lr_start : LR [] LS0 RS0 := .inl ⟨rfl, rfl, rfl, LS0_b0, fun _ => rfl⟩
theorem bits_le (l : List Nat) : ∀ y ∈ bitsOf l, y ≤ 1 := by
  intro y hy
  unfold bitsOf at hy
  obtain ⟨x, _, rfl⟩ := List.mem_map.1 hy
  exact bitN_le _
theorem spl_zero {l : List Nat} {n : Nat} {b : List Nat} (h : opnB (0, 0) [] 0 (bitsOf l) = (0, n, b)) : splB (0, 0) [] 0 (bitsOf l) = (b, n, true) := (spl_opn (bitsOf l) (0, 0) [] 0 (fun _ => ⟨rfl, rfl⟩) (bits_le l)).1 n b h
theorem spl_two {l : List Nat} {n : Nat} {b : List Nat} (h : opnB (0, 0) [] 0 (bitsOf l) = (2, n, b)) : splB (0, 0) [] 0 (bitsOf l) = (b, n, false) := (spl_opn (bitsOf l) (0, 0) [] 0 (fun _ => ⟨rfl, rfl⟩) (bits_le l)).2.1 n b h
theorem LR0.opn {l : List Nat} {s : LS} {r : RS} (h : LR0 l s r) : opnB (0, 0) [] 0 (bitsOf l) = (2, l.length, bitsOf s.raw) := by
  have e := h.op []
  rw [List.append_nil, opnB_nil, h.b0.full, if_neg (by decide)] at e
  exact e
theorem LR1.opn {l : List Nat} {s : LS} {r : RS} {S n : Nat} {body : List Nat} {s1 : LS} (h : LR1 l s r S body s1 n) : opnB (0, 0) [] 0 (bitsOf l) = (0, S, body) := by
  have e := h.op []
  rwa [List.append_nil] at e
/-- Where they are. -/
theorem LR.place {l : List Nat} {s : LS} {r : RS} (h : LR l s r) : s.p = r.place := by
  rcases h with h | ⟨S, body, s1, n, h⟩ | h
  · unfold RS.place RS.sp
    rw [h.en, if_neg (by decide), h.bs, spl_two h.opn, if_neg (fun e => Bool.false_ne_true e), h.b0.p]
  · unfold RS.place RS.sp
    have hl := h.len
    rw [h.en, if_neg (by decide), h.bs, spl_zero h.opn, if_pos rfl, h.s]
    simp only
    show (if n = 0 then 1 else if n = 1 then 2 else if n = 2 then 3 else 4) = _
    (repeat' split) <;> omega
  · unfold RS.place
    rw [h.en, if_pos rfl, h.p]
theorem LR.good {l : List Nat} {s : LS} {r : RS} (h : LR l s r) : (decide (s.p ≠ 5) && s.g) = r.good := by
  rcases h with h | ⟨S, body, s1, n, h⟩ | h
  · unfold RS.good RS.sp
    rw [h.en, h.bs, spl_two h.opn, h.b0.g]
    simp
  · unfold RS.good RS.sp
    rw [h.en, h.bs, spl_zero h.opn, h.s]
    have e : (eN s1 n).p ≠ 5 := by
      show (if n = 0 then 1 else if n = 1 then 2 else if n = 2 then 3 else 4) ≠ 5
      (repeat' split) <;> omega
    rw [decide_eq_true e]
    show (true && s1.g) = _
    rw [h.e1.g]
    rfl
  · unfold RS.good
    rw [h.en, decide_eq_false (fun e => e h.p)]
    rfl
theorem LR.heard {l : List Nat} {s : LS} {r : RS} (h : LR l s r) : s.h = r.bs.length := by
  rcases h with h | ⟨S, body, s1, n, h⟩ | h
  · rw [h.bs, h.b0.h]
  · rw [h.bs, ← h.len, h.s]
    show s1.h + n = _
    rw [h.e1.h]
  · exact h.h
theorem LR.frame {l : List Nat} {s : LS} {r : RS} (h : LR l s r) : s.vl = r.ok ∧ (s.vl = true → s.fr = r.fr) := by
  rcases h with h | ⟨S, body, s1, n, h⟩ | h
  · exact ⟨by rw [h.b0.vl, h.ok], fun e => by rw [h.b0.vl] at e; exact absurd e (by decide)⟩
  · rw [h.s]
    refine ⟨h.ok.symm, fun e => ?_⟩
    have e' : n = 9 := of_decide_eq_true e
    show s1.fr = _
    rw [h.e1.fr, h.fr e']
  · exact ⟨h.vl, h.fr⟩
theorem end_nil (g : Bool) (k a n : Nat) (hk : 0 < k) : endB g k a n [] = (2, a) := by
  cases k with
  | zero => omega
  | succ k => rfl
/-- A bit brings the same, and leaves them alike. -/
theorem LR.step {l : List Nat} {s : LS} {r : RS} (h : LR l s r) (x : Nat) : (s.hear x).2 = (r.hear x).2 ∧ LR (l ++ [x]) (s.hear x).1 (r.hear x).1 := by
  have hls : (l ++ [x]).length = l.length + 1 := by simp
  rcases h with h | ⟨S, body, s1, n, h⟩ | h
  · have hr : r.hear x = r.told x (splB (0, 0) [] 0 (bitsOf (l ++ [x]))) (decB (bitsOf (l ++ [x]))) := by
      unfold RS.hear
      rw [h.en, if_neg (by decide), h.bs]
    have hh : (s.hear x).1.h = l.length + 1 := by rw [LS.hear_h (by rw [h.b0.p]; decide), h.b0.h]
    have ho : opnB (0, 0) [] 0 (bitsOf (l ++ [x])) = opnB s.r (bitsOf s.raw) l.length (bitN x :: []) := by rw [bitsOf_snoc]; exact h.op _
    have hoL : ∀ L, opnB (0, 0) [] 0 (bitsOf (l ++ [x]) ++ L) = opnB s.r (bitsOf s.raw) l.length (bitN x :: L) := fun L => by rw [bitsOf_snoc, List.append_assoc]; exact h.op _
    rw [hr]
    rcases hear_b0 h.b0 x [] with ⟨h1, h2, h3, h4, h5, h6⟩ | ⟨h3, h4, h5, h6⟩ | ⟨h4, hE | hB⟩
    · rw [h3] at ho
      have hsp := (spl_opn (bitsOf (l ++ [x])) (0, 0) [] 0 (fun _ => ⟨rfl, rfl⟩) (bits_le _)).2.2.2 _ _ ho (by rw [bitsOf_length, hls, h1])
      have hd : decB (bitsOf (l ++ [x])) = (3, 0, bitsOf s.raw) := by rw [dec_bad (by rw [ho]; exact (by decide : (3 : Nat) ≠ 0)), ho]
      have et : r.told x (splB (0, 0) [] 0 (bitsOf (l ++ [x]))) (decB (bitsOf (l ++ [x]))) = (⟨l ++ [x], true, r.ok, r.fr⟩, 2) := by
        unfold RS.told
        rw [if_neg (fun e => by rw [hsp] at e; exact absurd e.1 (by decide)), hd, h.bs]
        simp [h1]
      rw [et]
      exact ⟨h4, .inr (.inr ⟨h5, rfl, by rw [h6]; exact h.ok.symm, fun e => by rw [h6] at e; exact absurd e (by decide), by rw [hh]; exact hls.symm⟩)⟩
    · rw [h3] at ho
      have hsp := (spl_opn (bitsOf (l ++ [x])) (0, 0) [] 0 (fun _ => ⟨rfl, rfl⟩) (bits_le _)).2.2.1 _ _ ho (by rw [bitsOf_length, hls]; omega)
      have hd : decB (bitsOf (l ++ [x])) = (4, l.length, bitsOf s.raw) := by rw [dec_bad (by rw [ho]; exact (by decide : (4 : Nat) ≠ 0)), ho]
      have et : r.told x (splB (0, 0) [] 0 (bitsOf (l ++ [x]))) (decB (bitsOf (l ++ [x]))) = (⟨l ++ [x], true, r.ok, r.fr⟩, 1) := by
        unfold RS.told
        rw [if_neg (fun e => by rw [hsp] at e; exact absurd e.1 (by decide)), hd, h.bs]
        simp
      rw [et]
      exact ⟨h4, .inr (.inr ⟨h5, rfl, by rw [h6]; exact h.ok.symm, fun e => by rw [h6] at e; exact absurd e (by decide), by rw [hh]; exact hls.symm⟩)⟩
    · obtain ⟨body, h5, h6⟩ := hE
      rw [h5] at ho
      have hraw := h6.raw
      have hall : ∀ L, opnB (0, 0) [] 0 (bitsOf (l ++ [x]) ++ L) = (0, l.length + 1, body) := fun L => by
        rw [hoL]
        rcases hear_b0 h.b0 x L with ⟨_, _, _, g4, _, _⟩ | ⟨_, g4, _, _⟩ | ⟨_, ⟨b2, g5, g6⟩ | ⟨g5, _⟩⟩
        · rw [h4] at g4; exact absurd g4 (by decide)
        · rw [h4] at g4; exact absurd g4 (by decide)
        · rw [g5, ← g6.raw, hraw]
        · have := h6.p; have := g5.p; omega
      have hg := ok_crc ho
      have hd : decB (bitsOf (l ++ [x])) = (2, l.length + 1, body) := by
        rw [dec_good (by rw [ho]), ho]
        simp only
        rw [List.drop_of_length_le (by rw [bitsOf_length, hls]; exact Nat.le_refl _), end_nil _ _ _ _ (by decide)]
      have et : r.told x (splB (0, 0) [] 0 (bitsOf (l ++ [x]))) (decB (bitsOf (l ++ [x]))) = (⟨l ++ [x], false, r.ok, r.fr⟩, 0) := by
        unfold RS.told
        rw [spl_zero ho, hd, h.bs]
        simp only
        rw [if_neg (fun e => by omega), if_pos trivial, if_neg (fun e => by omega)]
      rw [et]
      refine ⟨h4, .inr (.inl ⟨l.length + 1, body, (s.hear x).1, 0, by omega, (eN_zero h6).symm, h6, hls.symm, rfl, rfl, h.ok, fun e => absurd e (by decide), hall, fun L => ?_⟩)⟩
      rw [List.drop_append_of_le_length (by rw [bitsOf_length, hls]; exact Nat.le_refl _), List.drop_of_length_le (by rw [bitsOf_length, hls]; exact Nat.le_refl _), List.nil_append]
    · obtain ⟨hB, h5⟩ := hB
      rw [h5, opnB_nil, hB.full, if_neg (by decide)] at ho
      have hall : ∀ L, opnB (0, 0) [] 0 (bitsOf (l ++ [x]) ++ L) = opnB (s.hear x).1.r (bitsOf (s.hear x).1.raw) (l.length + 1) L := fun L => by
        rw [hoL]
        rcases hear_b0 h.b0 x L with ⟨_, _, _, g4, _, _⟩ | ⟨_, g4, _, _⟩ | ⟨_, ⟨b2, g5, g6⟩ | ⟨g5, g6⟩⟩
        · rw [h4] at g4; exact absurd g4 (by decide)
        · rw [h4] at g4; exact absurd g4 (by decide)
        · have := hB.p; have := g6.p; omega
        · exact g6
      have hd : decB (bitsOf (l ++ [x])) = (2, l.length + 1, bitsOf (s.hear x).1.raw) := by rw [dec_bad (by rw [ho]; exact (by decide : (2 : Nat) ≠ 0)), ho]
      have et : r.told x (splB (0, 0) [] 0 (bitsOf (l ++ [x]))) (decB (bitsOf (l ++ [x]))) = (⟨l ++ [x], false, r.ok, r.fr⟩, 0) := by
        unfold RS.told
        rw [spl_two ho, hd, h.bs]
        simp
      rw [et]
      exact ⟨h4, .inl ⟨rfl, h.ok, rfl, by rw [hls]; exact hB, fun L => by rw [hls]; exact hall L⟩⟩
  · have hr : r.hear x = r.told x (splB (0, 0) [] 0 (bitsOf (l ++ [x]))) (decB (bitsOf (l ++ [x]))) := by
      unfold RS.hear
      rw [h.en, if_neg (by decide), h.bs]
    have hn := h.n9; have hlen := h.len
    have hoL : ∀ L, opnB (0, 0) [] 0 (bitsOf (l ++ [x]) ++ L) = (0, S, body) := fun L => by rw [bitsOf_snoc, List.append_assoc]; exact h.op _
    have ho : opnB (0, 0) [] 0 (bitsOf (l ++ [x])) = (0, S, body) := by rw [bitsOf_snoc]; exact h.op _
    have hg : decide (crcOf body 0 = 0) = s1.g := by rw [← ok_crc ho, h.e1.g]
    have hend : endB s1.g 10 S 0 ((bitsOf (l ++ [x])).drop S) = endB s1.g (10 - n) (S + n) n [bitN x] := by rw [bitsOf_snoc]; exact h.ed _
    have hd : decB (bitsOf (l ++ [x])) = ((endB s1.g (10 - n) (S + n) n [bitN x]).1, (endB s1.g (10 - n) (S + n) n [bitN x]).2, body) := by
      rw [dec_good (by rw [ho]), ho]
      simp only
      rw [hg, hend]
    have hsp : s.p ≠ 5 ∧ s.p ≠ 0 := by
      rw [h.s]
      constructor
      · show (if n = 0 then 1 else if n = 1 then 2 else if n = 2 then 3 else 4) ≠ 5
        (repeat' split) <;> omega
      · show (if n = 0 then 1 else if n = 1 then 2 else if n = 2 then 3 else 4) ≠ 0
        (repeat' split) <;> omega
    have hh : (s.hear x).1.h = l.length + 1 := by
      rw [LS.hear_h hsp.1, ← hlen, h.s]
      show s1.h + n + 1 = _
      rw [h.e1.h]
    have hfr : (s.hear x).1.fr = s1.fr := by rw [LS.hear_fr hsp.2, h.s]; rfl
    have hb0 : bitN x = 0 ↔ x = 0 := by unfold bitN; split <;> simp_all
    obtain ⟨e1, e2, e3⟩ := end_bit s1 n hn x
    rw [← h.s] at e1 e2 e3
    rw [hr]
    by_cases h9 : n = 9
    · have et : r.told x (splB (0, 0) [] 0 (bitsOf (l ++ [x]))) (decB (bitsOf (l ++ [x]))) = (⟨l ++ [x], true, r.ok, r.fr⟩, if x = 0 then 6 else 5) := by
        unfold RS.told
        rw [spl_zero ho, h.bs]
        simp only
        rw [if_pos ⟨trivial, by omega⟩]
      rw [et]
      have hok : r.ok = true := by rw [h.ok, h9]; rfl
      have hfr' : (s.hear x).1.fr = r.fr := by rw [hfr, h.e1.fr, h.fr h9]
      by_cases hx : x = 0
      · obtain ⟨g1, g2, g3⟩ := e1 ⟨hx, by omega⟩
        rw [if_pos h9] at g1
        rw [decide_eq_true h9] at g3
        exact ⟨by rw [g1, if_pos hx], .inr (.inr ⟨g2, rfl, by rw [g3]; exact hok.symm, fun _ => hfr', by rw [hh]; exact hls.symm⟩)⟩
      · obtain ⟨g1, g2, g3, _, _⟩ := (e3 (fun e => hx e.1) (fun e => by omega)).2 h9
        exact ⟨by rw [g1, if_neg hx], .inr (.inr ⟨g2, rfl, by rw [g3]; exact hok.symm, fun _ => hfr', by rw [hh]; exact hls.symm⟩)⟩
    · have hk : 10 - n = (9 - n) + 1 := by omega
      have hnf : ∀ C A, decB (bitsOf (l ++ [x])) = (C, A, body) → r.told x (splB (0, 0) [] 0 (bitsOf (l ++ [x]))) (decB (bitsOf (l ++ [x]))) =
          if C = 2 then (if n = 8 then (⟨l ++ [x], false, true, frC (parseB body)⟩, 4) else (⟨l ++ [x], false, r.ok, r.fr⟩, 0)) else if A ≠ l.length then (⟨l ++ [x], false, r.ok, r.fr⟩, 0) else (⟨l ++ [x], true, r.ok, r.fr⟩, if C = 4 then 1 else if C = 5 then 3 else 2) := fun C A e => by
        unfold RS.told
        rw [spl_zero ho, e, h.bs]
        simp only
        rw [if_neg (fun e => by have := e.2; omega)]
        by_cases hC : C = 2
        · rw [if_pos hC, if_pos hC]
          by_cases h8 : n = 8
          · rw [if_pos h8, if_pos ⟨trivial, by omega⟩]
          · rw [if_neg h8, if_neg (fun e => by have := e.2; omega)]
        · rw [if_neg hC, if_neg hC]
      have hst : endB s1.g (10 - n) (S + n) n [bitN x] = if bitN x = 0 ∧ n ≠ 1 then (3, S + n) else if s1.g = false ∧ n = 2 then (5, S + n) else endB s1.g (9 - n) (S + n + 1) (n + 1) [] := by rw [hk]; rfl
      have hstL : ∀ L, endB s1.g (10 - n) (S + n) n (bitN x :: L) = if bitN x = 0 ∧ n ≠ 1 then (3, S + n) else if s1.g = false ∧ n = 2 then (5, S + n) else endB s1.g (9 - n) (S + n + 1) (n + 1) L := fun L => by rw [hk]; rfl
      have hokf : r.ok = false := by rw [h.ok, decide_eq_false h9]
      by_cases hx : x = 0 ∧ n ≠ 1
      · obtain ⟨g1, g2, g3⟩ := e1 hx
        rw [if_neg h9] at g1
        rw [decide_eq_false h9] at g3
        rw [hst, if_pos ⟨hb0.2 hx.1, hx.2⟩] at hd
        rw [hnf 3 (S + n) hd, if_neg (by decide), if_neg (by omega), if_neg (by decide), if_neg (by decide)]
        exact ⟨g1, .inr (.inr ⟨g2, rfl, by rw [g3]; exact hokf.symm, fun e => by rw [g3] at e; exact absurd e (by decide), by rw [hh]; exact hls.symm⟩)⟩
      · have hbx : ¬ (bitN x = 0 ∧ n ≠ 1) := fun e => hx ⟨hb0.1 e.1, e.2⟩
        by_cases hc : s1.g = false ∧ n = 2
        · obtain ⟨g1, g2, g3⟩ := e2 hx hc
          rw [hst, if_neg hbx, if_pos hc] at hd
          rw [hnf 5 (S + n) hd, if_neg (by decide), if_neg (by omega), if_neg (by decide), if_pos rfl]
          exact ⟨g1, .inr (.inr ⟨g2, rfl, by rw [g3]; exact hokf.symm, fun e => by rw [g3] at e; exact absurd e (by decide), by rw [hh]; exact hls.symm⟩)⟩
        · have g := (e3 hx hc).1 (by omega)
          rw [hst, if_neg hbx, if_neg hc, end_nil _ _ _ _ (by omega)] at hd
          rw [hnf 2 (S + n + 1) hd, if_pos rfl, g]
          have hed : ∀ L, endB s1.g 10 S 0 ((bitsOf (l ++ [x]) ++ L).drop S) = endB s1.g (10 - (n + 1)) (S + (n + 1)) (n + 1) L := fun L => by
            rw [bitsOf_snoc, List.append_assoc]
            have e := h.ed ([bitN x] ++ L)
            rw [e]
            show endB s1.g (10 - n) (S + n) n (bitN x :: L) = _
            rw [hstL, if_neg hbx, if_neg hc, show 10 - (n + 1) = 9 - n by omega, Nat.add_assoc]
          by_cases h8 : n = 8
          · rw [if_pos h8, if_pos h8]
            exact ⟨rfl, .inr (.inl ⟨S, body, s1, n + 1, by omega, rfl, h.e1, by rw [hls]; omega, rfl, rfl, by rw [decide_eq_true (by omega)], fun _ => rfl, hoL, hed⟩)⟩
          · rw [if_neg h8, if_neg h8]
            exact ⟨rfl, .inr (.inl ⟨S, body, s1, n + 1, by omega, rfl, h.e1, by rw [hls]; omega, rfl, rfl, by rw [decide_eq_false (by omega)]; exact hokf, fun e => by omega, hoL, hed⟩)⟩
  · have e1 : s.hear x = (s, 0) := by unfold LS.hear; rw [if_pos h.p]
    have e2 : r.hear x = (r, 0) := by unfold RS.hear; rw [if_pos h.en]
    rw [e1, e2]
    exact ⟨rfl, .inr (.inr h)⟩
theorem LR.runs (m : List Nat) : ∀ (l : List Nat) (s : LS) (r : RS), LR l s r → LR (l ++ m) (s.run m) (r.run m) := by
  induction m with
  | nil => intro l s r h; rw [List.append_nil]; exact h
  | cons x m ih =>
    intro l s r h
    have e := ih (l ++ [x]) _ _ (h.step x).2
    rw [List.append_assoc] at e
    exact e
theorem LR.run (l : List Nat) : LR l (LS0.run l) (RS0.run l) := LR.runs l [] LS0 RS0 lr_start
end Go.Proofs.YtmfnkfiocnngeaaDoor
