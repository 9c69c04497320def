/- A slave that follows stays near its master: what holds of a pair, step by step. No program in it. Conditions: each theorem says its own. -/
import Derived.Test.YtpamkmpaldepnaaAco
namespace Go.Proofs.Ytpamkmpaldepnaa
open Go.RowKit
theorem lookK {c v r n : Int} (h1 : 0 ≤ n - c ∧ n - c ≤ 33554432) (hr : 1044480 ≤ r ∧ r ≤ 1052672) (hv : -2251799813685248 ≤ v ∧ v ≤ 2251799813685248) : lookB c v r n = true ∧ lookX c v r n = v + (n - c) * r / 1048576 ∧ 0 ≤ (n - c) * r ∧ (n - c) * r ≤ 33554432 * 1052672 := by
  have p1 : 0 ≤ (n - c) * r := Int.mul_nonneg h1.1 (by omega)
  have p2 : (n - c) * r ≤ 33554432 * 1052672 := Int.mul_le_mul h1.2 hr.2 (by omega) (by omega)
  obtain ⟨P, hP⟩ : ∃ P, P = (n - c) * r := ⟨_, rfl⟩
  have t1 : tickI c n = n - c := cut_yes (by omega)
  have g1 : growI c r n = P / 1048576 := by unfold growI; rw [t1, ← hP]; rw [← hP] at p1 p2; exact cut_yes (by omega)
  rw [← hP] at p1 p2 ⊢
  have s1 : sumI c v r n = v + P / 1048576 := by unfold sumI; rw [g1]; exact cut_yes (by omega)
  have b1 : lookB c v r n = true := by
    unfold lookB fitsB
    rw [t1, g1, s1, ← hP, fit_yes (by omega), fit_yes (by omega), fit_yes (by omega), mayB_yes (by omega)]; rfl
  refine ⟨b1, ?_, p1, p2⟩
  unfold lookX; rw [if_pos b1, s1]
/-- How far off, in parts. -/
def PD.F (s : PD) : Int := (s.v2 - s.mc) * 1048576 + (s.sc - s.c2) * s.r2
def NI (sl : Int) (s : PD) : Prop := ∀ x b, s.no = some (x, b) → 0 ≤ b ∧ b ≤ s.bi ∧ -((s.bi - b) * sl * 1048576) ≤ s.F + x * 1048576 ∧ s.F + x * 1048576 ≤ (s.bi - b) * sl * 1048576 + 1048575
def AI (sl : Int) (s : PD) : Prop := ∀ x b, s.ap = some (x, b) → 0 ≤ b ∧ b ≤ s.bi ∧ -((s.bi - b) * sl * 1048576 + 1048576) ≤ s.F ∧ s.F ≤ (s.bi - b) * sl * 1048576 + 1048576
structure HI (sl T most : Int) (s : PD) : Prop where
  m0 : s.c = 0 ∧ s.v = 0 ∧ s.r = 1048576 ∧ s.t = s.mc
  tu : s.tu = T ∧ 0 ≤ T ∧ T ≤ 4096
  bi : 0 ≤ s.bi
  cn : 0 ≤ s.mc ∧ s.mc ≤ s.bi * 8192 ∧ 0 ≤ s.c2 ∧ s.c2 ≤ s.sc ∧ s.sc ≤ s.bi * 8192
  v2 : -2251799813685248 ≤ s.v2 ∧ s.v2 ≤ 2251799813685248
  r2 : 1048576 - T ≤ s.r2 ∧ s.r2 ≤ 1048576 + T
  ni : NI sl s
  ai : AI sl s
  se : s.se = true → s.ap.isSome = true ∧ s.t2 ≤ s.mc + most * sl + 2
  gm : s.gap ≤ most
theorem HI.look {sl T most : Int} {s : PD} (h : HI sl T most s) (hb : s.bi ≤ 2400) : lookB s.c2 s.v2 s.r2 s.sc = true ∧ (∃ X, lookX s.c2 s.v2 s.r2 s.sc = X ∧ 1048576 * (X - s.mc) ≤ s.F ∧ s.F < 1048576 * (X - s.mc) + 1048576) := by
  have h1 := h.cn; have h2 := h.r2; have h3 := h.v2; have h4 := h.tu
  obtain ⟨a, b, c, d⟩ := lookK (c := s.c2) (v := s.v2) (r := s.r2) (n := s.sc) (by omega) (by omega) h3
  refine ⟨a, _, b, ?_⟩
  unfold PD.F
  obtain ⟨P, hP⟩ : ∃ P, P = (s.sc - s.c2) * s.r2 := ⟨_, rfl⟩
  rw [← hP]
  omega
theorem HI.lookM {sl T most : Int} {s : PD} (h : HI sl T most s) (hb : s.bi ≤ 2400) : lookB s.c s.v s.r s.mc = true ∧ lookX s.c s.v s.r s.mc = s.mc := by
  have h1 := h.cn
  obtain ⟨e1, e2, e3, _⟩ := h.m0
  obtain ⟨a, b, _, _⟩ := lookK (c := s.c) (v := s.v) (r := s.r) (n := s.mc) (by omega) (by omega) (by omega)
  refine ⟨a, ?_⟩
  rw [b, e1, e2, e3]; omega
theorem HI.has {sl T most : Int} {s : PD} (h : HI sl T most s) (hb : s.bi ≤ 2400) : s.has = true := by
  unfold PD.has; rw [(h.lookM hb).1, (h.look hb).1]; rfl
theorem HI.noted {sl T most : Int} {s : PD} (h : HI sl T most s) (hb : s.bi ≤ 2400) : HI sl T most { s with no := some (s.less, s.bi) } := by
  refine ⟨h.m0, h.tu, h.bi, h.cn, h.v2, h.r2, ?_, h.ai, h.se, h.gm⟩
  intro x b e
  obtain ⟨rfl, rfl⟩ : s.less = x ∧ s.bi = b := by cases e; exact ⟨rfl, rfl⟩
  obtain ⟨_, X, hX, h1, h2⟩ := h.look hb
  have hm := (h.lookM hb).2
  have e1 : s.less = s.mc - X := by unfold PD.less; rw [hm, hX]
  have := h.bi
  show 0 ≤ s.bi ∧ s.bi ≤ s.bi ∧ -((s.bi - s.bi) * sl * 1048576) ≤ s.F + s.less * 1048576 ∧ s.F + s.less * 1048576 ≤ (s.bi - s.bi) * sl * 1048576 + 1048575
  rw [e1, Int.sub_self, Int.zero_mul]
  omega
theorem HI.applied {sl T most most' : Int} {s : PD} (h : HI sl T most s) (hb : s.bi ≤ 2400) (hsl : 0 ≤ sl ∧ sl ≤ 2113537) (q x b : Int) (hn : s.no = some (x, b)) (hq : 1048576 - T ≤ q ∧ q ≤ 1048576 + T) (hm : most ≤ most') (hg : s.bi - b ≤ most') : goE s.c2 s.v2 s.r2 s.sc q x = 0 ∧ HI sl T most' { s.went q x with ap := some (x, b) } := by
  obtain ⟨n1, n2, n3, n4⟩ := h.ni x b hn
  obtain ⟨hl, X, hX, x1, x2⟩ := h.look hb
  have htu := h.tu; have hcn := h.cn
  have te : tuE s.c2 s.v2 s.r2 s.sc q = 0 := by unfold tuE; rw [if_neg (by omega), if_pos hl]
  obtain ⟨t1, t2, t3, _⟩ := tu_zero te
  rw [hX] at t2
  have g1 : 0 ≤ (s.bi - b) * sl := Int.mul_nonneg (by omega) hsl.1
  have g2 : (s.bi - b) * sl ≤ 2400 * 2113537 := Int.mul_le_mul (by omega) hsl.2 hsl.1 (by omega)
  obtain ⟨G, hG⟩ : ∃ G, G = (s.bi - b) * sl := ⟨_, rfl⟩
  rw [← hG] at n3 n4 g1 g2
  have hv := look_in s.c2 s.v2 s.r2 s.sc
  rw [hX] at hv
  obtain ⟨l1, l2⟩ := look_self s.sc X q hv
  obtain ⟨F, hF⟩ : ∃ F, F = s.F := ⟨_, rfl⟩
  rw [← hF] at n3 n4 x1 x2
  have hx : s.mc - G - 2 ≤ X + x ∧ X + x ≤ s.mc + G + 2 := by omega
  have hs : shE s.sc X q s.sc x = 0 := by
    unfold shE; rw [l2, cut_yes (by omega), fit_yes (by omega), mayB_yes (by omega), l1]; rfl
  have ge : goE s.c2 s.v2 s.r2 s.sc q x = 0 := by unfold goE; rw [if_pos te, t1, t2, t3]; exact hs
  have gc : goC s.c2 s.v2 s.r2 s.sc q x = s.sc := by unfold goC; rw [if_pos te, t1, t2, t3]; unfold shC; rw [if_pos hs]
  have gv : goV s.c2 s.v2 s.r2 s.sc q x = X + x := by unfold goV; rw [if_pos te, t1, t2, t3]; unfold shV; rw [if_pos hs, l2]; exact cut_yes (by omega)
  have gr : goR s.c2 s.v2 s.r2 s.sc q = q := t3
  refine ⟨ge, ?_⟩
  have hms : most * sl ≤ most' * sl := Int.mul_le_mul_of_nonneg_right hm hsl.1
  have hFF : PD.F { s.went q x with ap := some (x, b) } = (X + x - s.mc) * 1048576 := by
    show (goV s.c2 s.v2 s.r2 s.sc q x - s.mc) * 1048576 + (s.sc - goC s.c2 s.v2 s.r2 s.sc q x) * goR s.c2 s.v2 s.r2 s.sc q = _
    rw [gc, gv, Int.sub_self, Int.zero_mul, Int.add_zero]
  refine ⟨h.m0, h.tu, h.bi, ?_, ?_, ?_, ?_, ?_, ?_, hg⟩
  · show 0 ≤ s.mc ∧ s.mc ≤ s.bi * 8192 ∧ 0 ≤ goC s.c2 s.v2 s.r2 s.sc q x ∧ goC s.c2 s.v2 s.r2 s.sc q x ≤ s.sc ∧ s.sc ≤ s.bi * 8192
    rw [gc]; omega
  · show -2251799813685248 ≤ goV s.c2 s.v2 s.r2 s.sc q x ∧ goV s.c2 s.v2 s.r2 s.sc q x ≤ 2251799813685248
    rw [gv]; omega
  · show 1048576 - T ≤ goR s.c2 s.v2 s.r2 s.sc q ∧ goR s.c2 s.v2 s.r2 s.sc q ≤ 1048576 + T
    rw [gr]; exact hq
  · intro x' b' e; exact absurd e (by simp [PD.went])
  · intro x' b' e
    obtain ⟨rfl, rfl⟩ : x = x' ∧ b = b' := by cases e; exact ⟨rfl, rfl⟩
    rw [hFF]
    show 0 ≤ b ∧ b ≤ s.bi ∧ -((s.bi - b) * sl * 1048576 + 1048576) ≤ _ ∧ _ ≤ (s.bi - b) * sl * 1048576 + 1048576
    rw [← hG]
    omega
  · intro e
    have := (h.se e).2
    exact ⟨rfl, by show s.t2 ≤ s.mc + most' * sl + 2; omega⟩
theorem drift {x r T hi : Int} (hx : 0 ≤ x ∧ x ≤ hi) (hr : 1048576 - T ≤ r ∧ r ≤ 1048576 + T) (hT : 0 ≤ T) : x * 1048576 - hi * T ≤ x * r ∧ x * r ≤ x * 1048576 + hi * T := by
  have h0 : x * T ≤ hi * T := Int.mul_le_mul_of_nonneg_right hx.2 hT
  have h1 : x * (1048576 - T) ≤ x * r := Int.mul_le_mul_of_nonneg_left hr.1 hx.1
  have h2 : x * r ≤ x * (1048576 + T) := Int.mul_le_mul_of_nonneg_left hr.2 hx.1
  rw [Int.mul_sub] at h1
  rw [Int.mul_add] at h2
  omega
theorem slopeK {n d u : Int} (h : rightC n d u = true) : 2 * d * 1048576 + (n + d) * u ≤ slopeC n d u * 1048576 := by
  obtain ⟨e, h1, _⟩ := slope_alt h
  obtain ⟨P, hP⟩ : ∃ P, P = (n + d) * u := ⟨_, rfl⟩
  rw [← hP] at e h1 ⊢
  rw [e]
  split <;> omega
theorem stepE0 {c t : Int} (h : 0 ≤ t ∧ t ≤ 1048576) (hc : c ≤ 1000000000) : stepE c t = 0 := by
  unfold stepE; rw [if_neg (by omega), if_neg (by omega)]
theorem readT_x {c v r t n X : Int} (hb : lookB c v r n = true) (hx : lookX c v r n = X) : readT c v r t n = if t < X then X else t := by
  unfold readT; rw [hx]; simp [hb]
theorem HI.step {sl T most : Int} {s : PD} (h : HI sl T most s) (hb : s.bi < 2400) (hsl : 0 ≤ sl ∧ sl ≤ 2113537) {lo hi m x : Int} (hlo : 0 ≤ lo ∧ hi ≤ 8192) (hk : (hi - lo) * 1048576 + hi * T ≤ sl * 1048576) (hm : lo ≤ m ∧ m ≤ hi) (hx : lo ≤ x ∧ x ≤ hi) :
    stepE s.mc m = 0 ∧ stepE s.sc x = 0 ∧ ∀ most', most ≤ most' → (s.stepped m x).gap ≤ most' → HI sl T most' (s.stepped m x) ∧ ((s.stepped m x).se = true → -(most' * sl + 2) ≤ (s.stepped m x).t - (s.stepped m x).t2 ∧ (s.stepped m x).t - (s.stepped m x).t2 ≤ most' * sl + 2) := by
  have hcn := h.cn; have htu := h.tu; have hr2 := h.r2; have hbi := h.bi; have hv2 := h.v2
  obtain ⟨c1, c2, c3, c4⟩ := h.m0
  refine ⟨stepE0 (by omega) (by omega), stepE0 (by omega) (by omega), ?_⟩
  intro most' hmm hg
  obtain ⟨S, hS⟩ : ∃ S, S = s.stepped m x := ⟨_, rfl⟩
  have e_mc : S.mc = s.mc + m := by rw [hS]; rfl
  have e_sc : S.sc = s.sc + x := by rw [hS]; rfl
  have e_bi : S.bi = s.bi + 1 := by rw [hS]; rfl
  have e_c2 : S.c2 = s.c2 := by rw [hS]; rfl
  have e_v2 : S.v2 = s.v2 := by rw [hS]; rfl
  have e_r2 : S.r2 = s.r2 := by rw [hS]; rfl
  have e_no : S.no = s.no := by rw [hS]; rfl
  have e_ap : S.ap = s.ap := by rw [hS]; rfl
  have d1 := drift (x := x) (r := s.r2) (T := T) (hi := hi) (by omega) hr2 htu.2.1
  have hF : S.F = s.F + x * s.r2 - m * 1048576 := by
    unfold PD.F
    rw [e_mc, e_sc, e_c2, e_v2, e_r2, show s.sc + x - s.c2 = (s.sc - s.c2) + x by omega, Int.add_mul]
    omega
  obtain ⟨Y, hY⟩ : ∃ Y, Y = x * s.r2 := ⟨_, rfl⟩
  rw [← hY] at d1 hF
  obtain ⟨Z, hZ⟩ : ∃ Z, Z = hi * T := ⟨_, rfl⟩
  rw [← hZ] at d1 hk
  have hdF : s.F - sl * 1048576 ≤ S.F ∧ S.F ≤ s.F + sl * 1048576 := by omega
  have hni : NI sl S := by
    intro a b e
    rw [e_no] at e
    obtain ⟨n1, n2, n3, n4⟩ := h.ni a b e
    rw [e_bi, show s.bi + 1 - b = (s.bi - b) + 1 by omega, Int.add_mul, Int.one_mul]
    obtain ⟨G, hG⟩ : ∃ G, G = (s.bi - b) * sl := ⟨_, rfl⟩
    rw [← hG] at n3 n4 ⊢
    omega
  have hai : AI sl S := by
    intro a b e
    rw [e_ap] at e
    obtain ⟨n1, n2, n3, n4⟩ := h.ai a b e
    rw [e_bi, show s.bi + 1 - b = (s.bi - b) + 1 by omega, Int.add_mul, Int.one_mul]
    obtain ⟨G, hG⟩ : ∃ G, G = (s.bi - b) * sl := ⟨_, rfl⟩
    rw [← hG] at n3 n4 ⊢
    omega
  obtain ⟨lb, lx, lp, lq⟩ := lookK (c := s.c2) (v := s.v2) (r := s.r2) (n := s.sc + x) (by omega) (by omega) hv2
  obtain ⟨mb, mx, _, _⟩ := lookK (c := s.c) (v := s.v) (r := s.r) (n := s.mc + m) (by omega) (by omega) (by omega)
  have mx2 : lookX s.c s.v s.r (s.mc + m) = s.mc + m := by rw [mx, c1, c2, c3]; omega
  have e_t : S.t = s.mc + m := by
    have : S.t = readT s.c s.v s.r s.t (s.mc + m) := by rw [hS]; rfl
    rw [this, readT_x mb mx2, c4]
    split <;> omega
  obtain ⟨X, hX⟩ : ∃ X, X = lookX s.c2 s.v2 s.r2 (s.sc + x) := ⟨_, rfl⟩
  have e_t2 : S.t2 = if s.t2 < X then X else s.t2 := by
    have : S.t2 = readT s.c2 s.v2 s.r2 s.t2 (s.sc + x) := by rw [hS]; rfl
    rw [this, readT_x lb hX.symm]
  have e_se : S.se = (s.se || (s.ap.isSome && decide (S.t2 = X))) := by
    have e1 : S.se = (s.se || (s.ap.isSome && (lookB s.c2 s.v2 s.r2 (s.sc + x) && decide (readT s.c2 s.v2 s.r2 s.t2 (s.sc + x) = lookX s.c2 s.v2 s.r2 (s.sc + x))))) := by rw [hS]; rfl
    have e2 : S.t2 = readT s.c2 s.v2 s.r2 s.t2 (s.sc + x) := by rw [hS]; rfl
    rw [e1, ← e2, ← hX, lb, Bool.true_and]
  have hXF : 1048576 * (X - S.mc) ≤ S.F ∧ S.F < 1048576 * (X - S.mc) + 1048576 := by
    unfold PD.F
    rw [hX, lx, e_mc, e_sc, e_c2, e_v2, e_r2]
    obtain ⟨P, hP⟩ : ∃ P, P = (s.sc + x - s.c2) * s.r2 := ⟨_, rfl⟩
    rw [← hP]; omega
  rw [← hS] at hg ⊢
  have hms : most * sl ≤ most' * sl := Int.mul_le_mul_of_nonneg_right hmm hsl.1
  obtain ⟨M, hM⟩ : ∃ M, M = most * sl := ⟨_, rfl⟩
  obtain ⟨M', hM'⟩ : ∃ M', M' = most' * sl := ⟨_, rfl⟩
  have hse0 := h.se
  rw [← hM] at hse0 hms
  rw [← hM'] at hms ⊢
  have hXb : s.ap.isSome = true → S.mc - M' - 2 ≤ X ∧ X ≤ S.mc + M' + 1 := by
    intro e
    obtain ⟨⟨a, b⟩, e2⟩ := Option.isSome_iff_exists.mp e
    have hap : S.ap = some (a, b) := by rw [e_ap, e2]
    obtain ⟨n1, n2, n3, n4⟩ := hai a b hap
    have hg2 : S.bi - b ≤ most' := by
      have : S.gap = S.bi - b := by unfold PD.gap; rw [hap]
      rw [← this]; exact hg
    have hG2 : (S.bi - b) * sl ≤ M' := by rw [hM']; exact Int.mul_le_mul_of_nonneg_right hg2 hsl.1
    obtain ⟨G, hG⟩ : ∃ G, G = (S.bi - b) * sl := ⟨_, rfl⟩
    rw [← hG] at n3 n4 hG2
    omega
  have hse : S.se = true → s.ap.isSome = true ∧ S.t2 ≤ S.mc + M' + 2 ∧ X ≤ S.t2 := by
    intro e
    rw [e_se] at e
    have hx2 : X ≤ S.t2 := by rw [e_t2]; split <;> omega
    cases hs : s.se with
    | true =>
      obtain ⟨i1, i2⟩ := hse0 hs
      have := hXb i1
      refine ⟨i1, ?_, hx2⟩
      rw [e_t2]; split <;> omega
    | false =>
      rw [hs, Bool.false_or, Bool.and_eq_true, decide_eq_true_iff] at e
      have := hXb e.1
      exact ⟨e.1, by omega, hx2⟩
  refine ⟨⟨?_, ?_, ?_, ?_, ?_, ?_, hni, hai, ?_, hg⟩, ?_⟩
  · refine ⟨?_, ?_, ?_, ?_⟩
    · rw [hS]; exact c1
    · rw [hS]; exact c2
    · rw [hS]; exact c3
    · rw [e_t, e_mc]
  · refine ⟨?_, htu.2⟩
    rw [hS]; exact htu.1
  · omega
  · rw [e_mc, e_sc, e_c2, e_bi]; omega
  · rw [e_v2]; exact hv2
  · rw [e_r2]; exact hr2
  · intro e
    have := hse e
    rw [e_ap, ← hM']
    exact ⟨this.1, this.2.1⟩
  · intro e
    have h1 := hse e
    have h2 := hXb h1.1
    rw [e_t]
    omega
theorem HI.mono {sl T most most' : Int} {s : PD} (h : HI sl T most s) (hsl : 0 ≤ sl) (hm : most ≤ most') : HI sl T most' s := by
  have hms : most * sl ≤ most' * sl := Int.mul_le_mul_of_nonneg_right hm hsl
  exact ⟨h.m0, h.tu, h.bi, h.cn, h.v2, h.r2, h.ni, h.ai, fun e => ⟨(h.se e).1, by have := (h.se e).2; omega⟩, by have := h.gm; omega⟩
theorem HI.start (n d T g sl : Int) (hT : 0 ≤ T ∧ T ≤ 4096) (hg : 0 ≤ g ∧ g ≤ 1125899906842623) : HI sl T 0 (newP n d T g) := by
  refine ⟨⟨rfl, rfl, rfl, rfl⟩, ⟨rfl, hT⟩, by show (0 : Int) ≤ 0; omega, by show (0 : Int) ≤ 0 ∧ (0 : Int) ≤ 0 * 8192 ∧ (0 : Int) ≤ 0 ∧ (0 : Int) ≤ 0 ∧ (0 : Int) ≤ 0 * 8192; omega, ?_, ?_, ?_, ?_, ?_, by show (0 : Int) ≤ 0; omega⟩
  · show -2251799813685248 ≤ g ∧ g ≤ 2251799813685248; omega
  · show 1048576 - T ≤ 1048576 ∧ (1048576 : Int) ≤ 1048576 + T; omega
  · intro x b e; exact absurd e (by simp [newP])
  · intro x b e; exact absurd e (by simp [newP])
  · intro e; exact absurd e (by simp [newP])
end Go.Proofs.Ytpamkmpaldepnaa
