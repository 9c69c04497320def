/- A controller, an oscillator, and two marks in one memory. Conditions: each theorem says its own. -/
import Derived.Test.YtmlnobiakfapcabCac
import Derived.Test.YtmlnobiakfapcabOsr
namespace Go.Proofs.Ytmlnobiakfapcab
open Go.RowKit
structure TW (N : Nat) (W : World) (K B I O M : Nat) (fv v fr : Value) (s : CD) (c : Int) (u : Bool) (m0 m1 : Int) : Prop where
  ca : CA W K B I fv v fr s
  os : OS W 117 O 1000 999 c u
  mks : Blk W M 32 [.int .i64 m0, .int .i64 m1]
  low : ∀ g, footC K B I fv v fr g → N ≤ g
  lo : N ≤ O
  lm : N ≤ M
  om : O ≠ M
  fo : ¬ footC K B I fv v fr O
  fm : ¬ footC K B I fv v fr M
  sz : N ≤ W.heap.size
variable {N : Nat} {W : World} {K B I O M : Nat} {fv v fr : Value} {s : CD} {c : Int} {u : Bool} {m0 m1 : Int}
theorem TW.on (h : TW N W K B I O M fv v fr s c u m0 m1) {X : World} (hb : Below W.heap.size W X) : TW N X K B I O M fv v fr s c u m0 m1 :=
  ⟨h.ca.on hb, h.os.on hb, h.mks.keep hb h.mks.lt, h.low, h.lo, h.lm, h.om, h.fo, h.fm, Nat.le_trans h.sz hb.size⟩
theorem TW.step (h : TW N W K B I O M fv v fr s c u m0 m1) (t : Int) (ht : -9223372036854775808 ≤ t ∧ t ≤ 9223372036854775807) : Calls Try.prog 10 #[.pointer (some ⟨O, 0, none⟩), .int .i64 t] W fun y w' => y = .returned (.int .i64 (stepE c t)) ∧ TW N w' K B I O M fv v fr s (stepC c t) (stepU 1000 999 c u t) m0 m1 ∧ Below N W w' :=
  (ostep_any t ht 1000 999 c u O W h.os).mono fun y w' ⟨h1, h2, h3⟩ => by
    have hg : ∀ g, g < W.heap.size → g ≠ O → w'.heap[g]? = W.heap[g]? := fun g hg hne => h3.block g hg hne (fun e => by cases e)
    exact ⟨h1, ⟨h.ca.moved h3.size (fun g hf => hg g (h.ca.lt hf) (fun e => h.fo (e ▸ hf))), h2, h.mks.on (hg M h.mks.lt (fun e => h.om e.symm)), h.low, h.lo, h.lm, h.om, h.fo, h.fm, Nat.le_trans h.sz h3.size⟩, h3.belowN h.lo h.sz (fun k e => by cases e)⟩
theorem TW.set (h : TW N W K B I O M fv v fr s c u m0 m1) (i : Nat) (x : Int) (m0' m1' : Int) (hl : ([.int .i64 m0, .int .i64 m1] : List Value).set i (.int .i64 x) = [.int .i64 m0', .int .i64 m1']) (hi : i < 2) : TW N (W.setCell ⟨M, i, none⟩ (.int .i64 x)) K B I O M fv v fr s c u m0' m1' ∧ Below N W (W.setCell ⟨M, i, none⟩ (.int .i64 x)) := by
  have hs : (W.setCell ⟨M, i, none⟩ (.int .i64 x)).heap.size = W.heap.size := setCell_sizeG _ _ _
  have hg : ∀ g, g ≠ M → (W.setCell ⟨M, i, none⟩ (.int .i64 x)).heap[g]? = W.heap[g]? := fun g hne => Below.heap_setCell W ⟨M, i, none⟩ _ g hne
  have hb := h.mks.put1 (i := i) (by simpa using hi) (.int .i64 x)
  rw [hl] at hb
  exact ⟨⟨h.ca.moved (by omega) (fun g hf => hg g (fun e => h.fm (e ▸ hf))), h.os.moved (hg O h.om), hb, h.low, h.lo, h.lm, h.om, h.fo, h.fm, by rw [hs]; exact h.sz⟩, (Below.refl N W).setCell (p := ⟨M, i, none⟩) h.lm _⟩
/-- What a call of the controller leaves. -/
theorem TW.call (h : TW N W K B I O M fv v fr s c u m0 m1) {X : World} {v' : Value} {s' : CD} (hc : CA X K B I fv v' fr s') (hf : Fx (footC K B I fv v fr) W X) (hn : ∀ g, footC K B I fv v' fr g → footC K B I fv v fr g ∨ W.heap.size ≤ g) : TW N X K B I O M fv v' fr s' c u m0 m1 ∧ Below N W X := by
  have hO := h.os.lt
  have hM := h.mks.lt
  refine ⟨⟨hc, h.os.moved (hf.block O hO h.fo), h.mks.on (hf.block M hM h.fm), fun g hg => ?_, h.lo, h.lm, h.om, fun hg => ?_, fun hg => ?_, Nat.le_trans h.sz hf.size⟩, hf.below h.sz h.low⟩
  · rcases hn g hg with e | e
    · exact h.low g e
    · exact Nat.le_trans h.sz e
  · rcases hn O hg with e | e
    · exact h.fo e
    · omega
  · rcases hn M hg with e | e
    · exact h.fm e
    · omega
def sdM (m0 m1 : Int) : SD := ⟨false, 0, false, 0, 0, 0, 0, 0, 0, 0, 0, 0, m0, m1⟩
/-- How far the law is, ahead of bit i. -/
structure TI (fr en i : Nat) (s : CD) (c m0 m1 : Int) : Prop where
  c0 : 0 ≤ c
  c1 : c ≤ (i : Int) * 65535
  rm : s.rm = 2
  fl : s.F = []
  o : s.o = false
  q : s.Q = if i ≤ en then [] else [sdM m0 m1]
  ph : withinB s.ph = decide (fr < i)
  mark : fr < i → s.mark = m0
  m0c : fr < i → m0 ≤ c
  m0k : fr < i → c ≤ m0 + ((i : Int) - 1 - fr) * 65535
  m00 : 0 ≤ m0
  last : en < i → m1 = c
theorem TI.zero (fr en : Nat) : TI fr en 0 (CD.new 1 2 []) 0 0 0 := ⟨by omega, by omega, rfl, rfl, rfl, (if_pos (Nat.zero_le _)).symm, by show withinB 0 = _; rw [decide_eq_false (by omega)]; rfl, fun h => by omega, fun h => by omega, fun h => by omega, by omega, fun h => by omega⟩
/-- What a bit does. -/
theorem TI.next {fr en i : Nat} {s : CD} {c m0 m1 : Int} (h : TI fr en i s c m0 m1) (hft : fr < en) (hi : i ≤ en) (t : Int) (ht : 0 ≤ t ∧ t ≤ 65535) (p : Int) (hp : withinB p = decide (fr ≤ i)) (got : Bool) (hgot : got = decide (i = en)) (n0 n1 : Int) (hn0 : n0 = if i = fr then c + t else m0) (hn1 : n1 = if i = en then c + t else m1) :
    TI fr en (i + 1) (calmF s got p (c + t) (sdM (markF s p (c + t)) (c + t))) (c + t) n0 n1 := by
  have hph := h.ph
  have hmk : fr ≤ i → markF s p (c + t) = n0 := fun hfi => by
    unfold markF
    rw [hp, hph, hn0]
    by_cases e : i = fr
    · rw [if_pos e, if_pos ⟨decide_eq_true (by omega), decide_eq_false (by omega)⟩]
    · rw [if_neg e, if_neg (by simp; omega)]; exact h.mark (by omega)
  have hcm : ((i + 1 : Nat) : Int) * 65535 = (i : Int) * 65535 + 65535 := by rw [Int.natCast_add, Int.add_mul]; rfl
  have hc1 := h.c1
  have hc0 := h.c0
  have hm00 := h.m00
  have hq : s.Q = [] := by rw [h.q, if_pos hi]
  have hcl : (calmF s got p (c + t) (sdM (markF s p (c + t)) (c + t))).rm = 2 ∧ (calmF s got p (c + t) (sdM (markF s p (c + t)) (c + t))).F = [] ∧ (calmF s got p (c + t) (sdM (markF s p (c + t)) (c + t))).o = false ∧ (calmF s got p (c + t) (sdM (markF s p (c + t)) (c + t))).Q = (if i + 1 ≤ en then [] else [sdM n0 n1]) ∧ (calmF s got p (c + t) (sdM (markF s p (c + t)) (c + t))).ph = p ∧ (calmF s got p (c + t) (sdM (markF s p (c + t)) (c + t))).mark = markF s p (c + t) := by
    unfold calmF
    by_cases e : i = en
    · rw [hgot, decide_eq_true e, if_pos rfl, h.rm, h.fl, h.o, hq, if_neg (by omega)]
      have e2 : n1 = c + t := by rw [hn1, if_pos e]
      rw [hmk (by omega), e2]
      exact ⟨rfl, rfl, rfl, rfl, rfl, rfl⟩
    · rw [hgot, decide_eq_false e, if_neg (by decide), if_pos (by omega)]
      exact ⟨h.rm, h.fl, h.o, hq, rfl, rfl⟩
  obtain ⟨g1, g2, g3, g4, g5, g6⟩ := hcl
  refine ⟨by omega, by omega, g1, g2, g3, g4, ?_, fun hf => ?_, fun hf => ?_, fun hf => ?_, ?_, fun hl => ?_⟩
  · rw [g5, hp]
    rw [Bool.eq_iff_iff, decide_eq_true_iff, decide_eq_true_iff]; omega
  · rw [g6]; exact hmk (by omega)
  · rw [hn0]
    by_cases e : i = fr
    · rw [if_pos e]; omega
    · rw [if_neg e]; have := h.m0c (by omega); omega
  · rw [hn0]
    by_cases e : i = fr
    · rw [if_pos e]; subst e
      have : ((i + 1 : Nat) : Int) - 1 - (i : Int) = 0 := by omega
      rw [this]; omega
    · rw [if_neg e]; have := h.m0k (by omega)
      have e3 : (((i + 1 : Nat) : Int) - 1 - fr) * 65535 = ((i : Int) - 1 - fr) * 65535 + 65535 := by
        rw [show ((i + 1 : Nat) : Int) - 1 - fr = ((i : Int) - 1 - fr) + 1 by omega, Int.add_mul]; rfl
      omega
  · rw [hn0]
    split
    · omega
    · exact hm00
  · rw [hn1, if_pos (by omega)]
end Go.Proofs.Ytmlnobiakfapcab
