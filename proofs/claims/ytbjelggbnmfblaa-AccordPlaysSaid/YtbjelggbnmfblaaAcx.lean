/- What holds of a pair of layer 19 whatever ticks go by; the code's and the document's in one memory. Conditions: each theorem says its own. -/
import Derived.Test.YtbjelggbnmfblaaAcw
import Derived.Test.YtbjelggbnmfblaaAcl
namespace Go.Proofs.Ytbjelggbnmfblaa
open Go.RowKit
theorem lookW {c v r n : Int} (h1 : 0 ≤ n - c ∧ n - c ≤ 2147483648) (hr : 1044480 ≤ r ∧ r ≤ 1052672) (hv : 0 ≤ v ∧ v ≤ 2251799813685248) : lookB c v r n = true ∧ lookX c v r n = v + (n - c) * r / 1048576 ∧ 0 ≤ (n - c) * r ∧ (n - c) * r ≤ 2147483648 * 1052672 := by
  have p1 : 0 ≤ (n - c) * r := Int.mul_nonneg h1.1 (by omega)
  have p2 : (n - c) * r ≤ 2147483648 * 1052672 := Int.mul_le_mul h1.2 hr.2 (by omega) (by omega)
  obtain ⟨P, hP⟩ : ∃ P, P = (n - c) * r := ⟨_, rfl⟩
  have t1 : tickI c n = n - c := cut_yes (by omega)
  have g1 : growI c r n = P / 1048576 := by unfold growI; rw [t1, ← hP]; rw [← hP] at p1 p2; exact cut_yes (by omega)
  rw [← hP] at p1 p2 ⊢
  have s1 : sumI c v r n = v + P / 1048576 := by unfold sumI; rw [g1]; exact cut_yes (by omega)
  have b1 : lookB c v r n = true := by
    unfold lookB fitsB
    rw [t1, g1, s1, ← hP, fit_yes (by omega), fit_yes (by omega), fit_yes (by omega), mayB_yes (by omega)]; rfl
  refine ⟨b1, ?_, p1, p2⟩
  unfold lookX; rw [if_pos b1, s1]
/-- What a slave's clock has, in parts. -/
def PD.G (s : PD) : Int := s.v2 * 1048576 + (s.sc - s.c2) * s.r2
structure LK (s : PD) : Prop where
  ck : s.c = 0 ∧ s.v = 0 ∧ s.r = 1048576
  tu : 0 ≤ s.tu ∧ s.tu ≤ 4096
  bi : 0 ≤ s.bi
  mc : 0 ≤ s.mc ∧ s.mc ≤ s.bi * 1048576
  sc : 0 ≤ s.c2 ∧ s.c2 ≤ s.sc ∧ s.sc ≤ s.bi * 1048576
  r2 : 1044480 ≤ s.r2 ∧ s.r2 ≤ 1052672
  v2 : 0 ≤ s.v2
  lk : s.G ≤ (1125899906842624 + s.bi * 2097152) * 1048576
  no : ∀ x b, s.no = some (x, b) → 0 ≤ b ∧ b ≤ s.bi ∧ 0 ≤ s.G + x * 1048576 ∧ s.G + x * 1048576 ≤ s.bi * 2199023255552 + 1048575
  ap : ∀ x b, s.ap = some (x, b) → 0 ≤ b ∧ b ≤ s.bi
theorem LK.look {s : PD} (h : LK s) (hb : s.bi ≤ 1300) : lookB s.c2 s.v2 s.r2 s.sc = true ∧ ∃ X, lookX s.c2 s.v2 s.r2 s.sc = X ∧ 1048576 * X ≤ s.G ∧ s.G < 1048576 * X + 1048576 := by
  have h1 := h.sc; have h2 := h.r2; have h3 := h.v2; have h4 := h.lk; have h5 := h.bi
  have p1 : 0 ≤ (s.sc - s.c2) * s.r2 := Int.mul_nonneg (by omega) (by omega)
  unfold PD.G at h4 ⊢
  obtain ⟨a, b, c, d⟩ := lookW (c := s.c2) (v := s.v2) (r := s.r2) (n := s.sc) (by omega) (by omega) (by omega)
  refine ⟨a, _, b, ?_⟩
  obtain ⟨P, hP⟩ : ∃ P, P = (s.sc - s.c2) * s.r2 := ⟨_, rfl⟩
  rw [← hP]
  omega
theorem LK.lookM {s : PD} (h : LK s) (hb : s.bi ≤ 1300) : lookB s.c s.v s.r s.mc = true ∧ lookX s.c s.v s.r s.mc = s.mc := by
  have h1 := h.mc; have h5 := h.bi
  obtain ⟨e1, e2, e3⟩ := h.ck
  obtain ⟨a, b, _, _⟩ := lookW (c := s.c) (v := s.v) (r := s.r) (n := s.mc) (by omega) (by omega) (by omega)
  refine ⟨a, ?_⟩
  rw [b, e1, e2, e3]; omega
theorem LK.has {s : PD} (h : LK s) (hb : s.bi ≤ 1300) : s.has = true := by
  unfold PD.has; rw [(h.lookM hb).1, (h.look hb).1]; rfl
theorem LK.noted {s : PD} (h : LK s) (hb : s.bi ≤ 1300) : LK { s with no := some (s.less, s.bi) } := by
  refine ⟨h.ck, h.tu, h.bi, h.mc, h.sc, h.r2, h.v2, h.lk, ?_, h.ap⟩
  intro x b e
  obtain ⟨rfl, rfl⟩ : s.less = x ∧ s.bi = b := by cases e; exact ⟨rfl, rfl⟩
  obtain ⟨_, X, hX, h1, h2⟩ := h.look hb
  have hm := (h.lookM hb).2
  have e1 : s.less = s.mc - X := by unfold PD.less; rw [hm, hX]
  have := h.bi; have := h.mc
  show 0 ≤ s.bi ∧ s.bi ≤ s.bi ∧ 0 ≤ s.G + s.less * 1048576 ∧ s.G + s.less * 1048576 ≤ s.bi * 2199023255552 + 1048575
  rw [e1]
  omega
theorem LK.applied {s : PD} (h : LK s) (hb : s.bi ≤ 1300) (q x b : Int) (hn : s.no = some (x, b)) (hq : 1048576 - s.tu ≤ q ∧ q ≤ 1048576 + s.tu) : goE s.c2 s.v2 s.r2 s.sc q x = 0 ∧ LK { s.went q x with ap := some (x, b) } := by
  obtain ⟨n1, n2, n3, n4⟩ := h.no x b hn
  obtain ⟨hl, X, hX, x1, x2⟩ := h.look hb
  have htu := h.tu; have hsc := h.sc; have hbi := h.bi
  have te : tuE s.c2 s.v2 s.r2 s.sc q = 0 := by unfold tuE; rw [if_neg (by omega), if_pos hl]
  obtain ⟨t1, t2, t3, _⟩ := tu_zero te
  rw [hX] at t2
  have hv := look_in s.c2 s.v2 s.r2 s.sc
  rw [hX] at hv
  obtain ⟨l1, l2⟩ := look_self s.sc X q hv
  obtain ⟨F, hF⟩ : ∃ F, F = s.G := ⟨_, rfl⟩
  rw [← hF] at n3 n4 x1 x2
  have hx : 0 ≤ X + x ∧ X + x ≤ s.bi * 2097152 := by omega
  have hs : shE s.sc X q s.sc x = 0 := by
    unfold shE; rw [l2, cut_yes (by omega), fit_yes (by omega), mayB_yes (by omega), l1]; rfl
  have ge : goE s.c2 s.v2 s.r2 s.sc q x = 0 := by unfold goE; rw [if_pos te, t1, t2, t3]; exact hs
  have gc : goC s.c2 s.v2 s.r2 s.sc q x = s.sc := by unfold goC; rw [if_pos te, t1, t2, t3]; unfold shC; rw [if_pos hs]
  have gv : goV s.c2 s.v2 s.r2 s.sc q x = X + x := by unfold goV; rw [if_pos te, t1, t2, t3]; unfold shV; rw [if_pos hs, l2]; exact cut_yes (by omega)
  have gr : goR s.c2 s.v2 s.r2 s.sc q = q := t3
  refine ⟨ge, ?_⟩
  have hGG : PD.G { s.went q x with ap := some (x, b) } = (X + x) * 1048576 := by
    show goV s.c2 s.v2 s.r2 s.sc q x * 1048576 + (s.sc - goC s.c2 s.v2 s.r2 s.sc q x) * goR s.c2 s.v2 s.r2 s.sc q = _
    rw [gc, gv, Int.sub_self, Int.zero_mul, Int.add_zero]
  refine ⟨h.ck, h.tu, h.bi, h.mc, ?_, ?_, ?_, ?_, ?_, ?_⟩
  · show 0 ≤ goC s.c2 s.v2 s.r2 s.sc q x ∧ goC s.c2 s.v2 s.r2 s.sc q x ≤ s.sc ∧ s.sc ≤ s.bi * 1048576
    rw [gc]; omega
  · show 1044480 ≤ goR s.c2 s.v2 s.r2 s.sc q ∧ goR s.c2 s.v2 s.r2 s.sc q ≤ 1052672
    rw [gr]; omega
  · show 0 ≤ goV s.c2 s.v2 s.r2 s.sc q x
    rw [gv]; omega
  · rw [hGG]
    show (X + x) * 1048576 ≤ (1125899906842624 + s.bi * 2097152) * 1048576
    omega
  · intro x' b' e; exact absurd e (by simp [PD.went])
  · intro x' b' e
    obtain ⟨rfl, rfl⟩ : x = x' ∧ b = b' := by cases e; exact ⟨rfl, rfl⟩
    exact ⟨n1, n2⟩
theorem stepE_in {c t : Int} (h : stepE c t = 0) : 0 ≤ t ∧ t ≤ 1048576 := by
  by_cases hb : t < 0 ∨ 1048576 < t
  · have := (step_bad (n := 0) (d := 0) (c := c) (u := false) hb).1; omega
  · omega
theorem LK.step {s : PD} (h : LK s) (m x : Int) (he : stepE s.mc m = 0) (hf : stepE s.sc x = 0) : LK (s.stepped m x) := by
  have h1 := stepE_in he; have h2 := stepE_in hf
  have q1 : 0 ≤ x * s.r2 := Int.mul_nonneg h2.1 (by have := h.r2; omega)
  have q2 : x * s.r2 ≤ 1048576 * 1052672 := Int.mul_le_mul h2.2 h.r2.2 (by have := h.r2; omega) (by omega)
  have hG : (s.stepped m x).G = s.G + x * s.r2 := by
    show s.v2 * 1048576 + (s.sc + x - s.c2) * s.r2 = s.v2 * 1048576 + (s.sc - s.c2) * s.r2 + x * s.r2
    rw [Int.add_assoc, ← Int.add_mul]
    congr 2
    omega
  have hmc := h.mc; have hsc := h.sc; have hbi := h.bi; have hlk := h.lk
  refine ⟨h.ck, h.tu, ?_, ?_, ?_, h.r2, h.v2, ?_, ?_, ?_⟩
  · show 0 ≤ s.bi + 1; omega
  · show 0 ≤ s.mc + m ∧ s.mc + m ≤ (s.bi + 1) * 1048576; omega
  · show 0 ≤ s.c2 ∧ s.c2 ≤ s.sc + x ∧ s.sc + x ≤ (s.bi + 1) * 1048576; omega
  · rw [hG]; show s.G + x * s.r2 ≤ (1125899906842624 + (s.bi + 1) * 2097152) * 1048576; omega
  · intro y b e
    have := h.no y b e
    rw [hG]
    show 0 ≤ b ∧ b ≤ s.bi + 1 ∧ 0 ≤ s.G + x * s.r2 + y * 1048576 ∧ s.G + x * s.r2 + y * 1048576 ≤ (s.bi + 1) * 2199023255552 + 1048575
    omega
  · intro y b e
    have := h.ap y b e
    show 0 ≤ b ∧ b ≤ s.bi + 1
    omega
theorem LK.start {n d T g : Int} (hT : 0 ≤ T ∧ T ≤ 4096) (hg : 0 ≤ g ∧ g ≤ 1125899906842624) : LK (newP n d T g) := by
  refine ⟨⟨rfl, rfl, rfl⟩, hT, by show (0 : Int) ≤ 0; omega, by show (0 : Int) ≤ 0 ∧ (0 : Int) ≤ 0 * 1048576; omega, by show (0 : Int) ≤ 0 ∧ (0 : Int) ≤ 0 ∧ (0 : Int) ≤ 0 * 1048576; omega, by show (1044480 : Int) ≤ 1048576 ∧ (1048576 : Int) ≤ 1052672; omega, hg.1, ?_, (fun x b e => by cases e), (fun x b e => by cases e)⟩
  show g * 1048576 + (0 - 0) * 1048576 ≤ (1125899906842624 + 0 * 2097152) * 1048576
  omega
theorem LK.gapR {s : PD} (h : LK s) (hb : s.bi ≤ 1300) : -9223372036854775808 ≤ s.gap ∧ s.gap ≤ 9223372036854775807 := by
  have hbi := h.bi
  unfold PD.gap
  cases e : s.ap with
  | none => show (-9223372036854775808 : Int) ≤ 0 ∧ (0 : Int) ≤ 9223372036854775807; omega
  | some q =>
    obtain ⟨x, b⟩ := q
    have := h.ap x b e
    show -9223372036854775808 ≤ s.bi - b ∧ s.bi - b ≤ 9223372036854775807
    omega
theorem Blk.neT {u : World} {A B : Nat} {T T2 : TypeId} {l l2 : List Value} (h : Blk u A T l) (h2 : Blk u B T2 l2) (hT : T ≠ T2) : A ≠ B := by
  intro e
  subst e
  have h3 : u.heap[A]? = some (.cells l.toArray T) := h
  have h4 : u.heap[A]? = some (.cells l2.toArray T2) := h2
  rw [h3] at h4
  injection h4 with h4
  injection h4 with h4 h5
  exact hT h5
theorem LK.noX {s : PD} (h : LK s) (hb : s.bi ≤ 1300) {x b : Int} (e : s.no = some (x, b)) : -9223372036854775808 ≤ x ∧ x ≤ 9223372036854775807 := by
  have h1 := h.no x b e
  have h2 := h.lk
  have h3 := h.bi
  have h4 : 0 ≤ s.G := by
    have p1 : 0 ≤ (s.sc - s.c2) * s.r2 := Int.mul_nonneg (by have := h.sc; omega) (by have := h.r2; omega)
    have := h.v2
    unfold PD.G
    omega
  omega
theorem LK.b64 {s : PD} (h : LK s) (hb : s.bi ≤ 1300) : (-9223372036854775808 ≤ s.mc ∧ s.mc ≤ 9223372036854775807) ∧ (-9223372036854775808 ≤ s.sc ∧ s.sc ≤ 9223372036854775807) := by
  have h1 := h.mc; have h2 := h.sc; have h3 := h.bi
  omega
/-- The code's pair and the document's, in a memory that keeps what was below `w`'s. -/
structure PP (w u : World) (A : Nat) (s : PD) (pn pa : Value) (B : Nat) (q : PD) (mo so km ks : Nat) (mine its at_ si : Int) : Prop where
  a : PA u A s pn pa
  r : RP u B q mo so km ks mine its at_ si
  la : w.heap.size ≤ A
  lr : ∀ j, RPS B mo so km ks j → w.heap.size ≤ j
  below : Below w.heap.size w u
variable {w u x : World} {A B : Nat} {s s2 q q2 : PD} {pn pa pn2 pa2 : Value} {mo so km ks : Nat} {mine its at_ si mine2 its2 at2 si2 : Int}
theorem RP.neT (h : RP u B q mo so km ks mine its at_ si) {K : Nat} {T : TypeId} {l : List Value} (h2 : Blk u K T l) (h3 : T ≠ 112 ∧ T ≠ 218 ∧ T ≠ 108) : ¬ RPS B mo so km ks K := by
  rintro (e | e | e | e | e)
  · exact h2.neT h.blk h3.1 e
  · exact h2.neT h.hmo.blk h3.2.1 e
  · exact h2.neT h.hso.blk h3.2.1 e
  · exact h2.neT h.hkm.blk h3.2.2 e
  · exact h2.neT h.hks.blk h3.2.2 e
theorem PP.on (h : PP w u A s pn pa B q mo so km ks mine its at_ si) (hb : Below u.heap.size u x) : PP w x A s pn pa B q mo so km ks mine its at_ si :=
  ⟨h.a.on hb, h.r.on hb, h.la, h.lr, below_transG h.below hb⟩
theorem PP.code (h : PP w u A s pn pa B q mo so km ks mine its at_ si) (ha : PA x A s2 pn2 pa2) (hk : Kp A (.slice none 0 0) u x) : PP w x A s2 pn2 pa2 B q mo so km ks mine its at_ si :=
  ⟨ha, h.r.byKp hk (h.r.neT h.a.blk (by decide)), h.la, h.lr, h.below.trans (hk.belowN h.la h.below.size (fun k e => by cases e))⟩
theorem NP.fp {o : Option (Int × Int)} {p : Value} (h : NP u A o p) (hr : RP u B q mo so km ks mine its at_ si) (hf : Fp (RPS B mo so km ks) u x) : NP x A o p := by
  match o, h with
  | none, h => exact h
  | some (a, b), ⟨K, h1, h2, h3⟩ => exact ⟨K, h1, h2.on (hf.block K h2.lt (hr.neT h2 (by decide))), h3⟩
theorem PP.ref (h : PP w u A s pn pa B q mo so km ks mine its at_ si) (hr : RP x B q2 mo so km ks mine2 its2 at2 si2) (hf : Fp (RPS B mo so km ks) u x) : PP w x A s pn pa B q2 mo so km ks mine2 its2 at2 si2 :=
  ⟨⟨h.a.blk.on (hf.block A h.a.blk.lt (h.r.neT h.a.blk (by decide))), h.a.no.fp h.r hf, h.a.ap.fp h.r hf, h.a.ok⟩, hr, h.la, h.lr, h.below.trans (hf.below h.lr h.below.size)⟩
theorem PP.refB (h : PP w u A s pn pa B q mo so km ks mine its at_ si) (hr : RP x B q2 mo so km ks mine2 its2 at2 si2) (hb : Below u.heap.size u x) : PP w x A s pn pa B q2 mo so km ks mine2 its2 at2 si2 :=
  ⟨h.a.on hb, hr, h.la, h.lr, below_transG h.below hb⟩
/-- The same beside an act's own copy. -/
structure PX (w u : World) (D : Nat) (l : List Value) (A : Nat) (s : PD) (pn pa : Value) (B : Nat) (q : PD) (mo so km ks : Nat) (mine its at_ si : Int) : Prop where
  p : PP w u A s pn pa B q mo so km ks mine its at_ si
  d : Blk u D 103 l
variable {D : Nat} {l : List Value}
theorem PX.on (h : PX w u D l A s pn pa B q mo so km ks mine its at_ si) (hb : Below u.heap.size u x) : PX w x D l A s pn pa B q mo so km ks mine its at_ si :=
  ⟨h.p.on hb, h.d.keep hb h.d.lt⟩
theorem PX.code (h : PX w u D l A s pn pa B q mo so km ks mine its at_ si) (ha : PA x A s2 pn2 pa2) (hk : Kp A (.slice none 0 0) u x) : PX w x D l A s2 pn2 pa2 B q mo so km ks mine its at_ si :=
  ⟨h.p.code ha hk, h.d.on (hk.block D h.d.lt (h.d.neT h.p.a.blk (by decide)) (fun e => by cases e))⟩
theorem PX.ref (h : PX w u D l A s pn pa B q mo so km ks mine its at_ si) (hr : RP x B q2 mo so km ks mine2 its2 at2 si2) (hf : Fp (RPS B mo so km ks) u x) : PX w x D l A s pn pa B q2 mo so km ks mine2 its2 at2 si2 :=
  ⟨h.p.ref hr hf, h.d.on (hf.block D h.d.lt (h.p.r.neT h.d (by decide)))⟩
end Go.Proofs.Ytbjelggbnmfblaa
