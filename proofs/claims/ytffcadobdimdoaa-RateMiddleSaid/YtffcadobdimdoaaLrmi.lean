/- RateMiddle (P18.5): what all rates tell is the middle one. No conditions. -/
import Derived.Test.YtffcadobdimdoaaRows
import Derived.Test.YtffcadobdimdoaaRtl
import Derived.Test.YtffcadobdimdoaaOp3
import Derived.Test.YtffcadobdimdoaaQui
import Derived.Deep.DeepCutAuto
import Derived.LoopTactic
import Derived.WalkKit
import Derived.ProofKit
import Derived.OpenShut
import Derived.ShutString
import Derived.ChangeOld
import Derived.Below
namespace Go.Proofs.Ytffcadobdimdoaa.rateMiddle
open Go.ChangeShapes Go.WideShapes Go.ChangeAt Go.RowKit
theorem own : ownKnob Try.prog.godebug = none := by kernel_rfl
theorem laidOut : laidOutB Try.prog = true := by kernel_rfl
theorem ES.add_m (e : ES) (t h : Int) : (e.add t h).m = e.m ∧ (e.add t h).n = e.n := by
  unfold ES.add; split <;> exact ⟨rfl, rfl⟩
theorem med_in {L : List Int} {lo hi : Int} (h : ∀ v ∈ L, lo ≤ v ∧ v ≤ hi) (h2 : lo ≤ 1048576 ∧ 1048576 ≤ hi) : lo ≤ medX L ∧ medX L ≤ hi := by
  by_cases hL : L = []
  · subst hL; exact h2
  · exact h _ (medX_med hL).1
/-- An estimator that is younger than a world. -/
structure E1 (w u : World) (B : Nat) (e : ES) : Prop where
  a : EA u B e
  below : Below w.heap.size w u
  la : w.heap.size ≤ B
theorem EA.on {u x : World} {B : Nat} {e : ES} (h : EA u B e) (hb : Below u.heap.size u x) : EA x B e := ⟨h.1.keep hb h.1.lt, h.2⟩
theorem E1.on {w u x : World} {B : Nat} {e : ES} (h : E1 w u B e) (hb : Below u.heap.size u x) : E1 w x B e := ⟨EA.on h.a hb, below_transG h.below hb, h.la⟩
theorem E1.step {w u x : World} {B : Nat} {e e2 : ES} (h : E1 w u B e) (ha : EA x B e2) (hk : Kp B (.slice none 0 0) u x) : E1 w x B e2 :=
  ⟨ha, h.below.trans (hk.belowN h.la h.below.size (fun k e => by cases e)), h.la⟩
theorem ES.add_f (e : ES) (t h : Int) : (e.add t h).s = true ∧ (e.add t h).t = t ∧ (e.add t h).h = h := by
  unfold ES.add; split <;> exact ⟨rfl, rfl, rfl⟩
theorem ES.add_l {e : ES} {t h : Int} (hb : e.addB t h = true) : (e.add t h).L = keepL e.n e.L (rofX e.t e.h t h e.m) := by
  unfold ES.add; rw [hb]; rfl
theorem middle_x (T H T' H' m r : Int) (hm : 0 ≤ m ∧ m ≤ 4096) (h1 : 1 ≤ T' - T ∧ T' - T ≤ 9007199254740992) (h2 : 1 ≤ H' - H ∧ H' - H ≤ 9007199254740992) (hr : (T' - T) * 1048576 = r * (H' - H)) (hr2 : 1048576 - m ≤ r ∧ r ≤ 1048576 + m) :
    rofB T H T' H' m = true ∧ rofX T H T' H' m = r := by
  have eT : growX T T' = T' - T := by unfold growX; rw [if_pos (by omega), cut_yes (by omega)]
  have eH : growX H H' = H' - H := by unfold growX; rw [if_pos (by omega), cut_yes (by omega)]
  have e1 : growB T T' = true := by unfold growB; rw [decide_eq_true (by omega), fit_yes (by omega)]; rfl
  have e2 : growB H H' = true := by unfold growB; rw [decide_eq_true (by omega), fit_yes (by omega)]; rfl
  have hb : rofB T H T' H' m = true := by
    unfold rofB
    rw [e1, e2, eT, eH, hr, Int.mul_ediv_cancel _ (by omega), decide_eq_true hm, fit_yes (by omega)]; rfl
  refine ⟨hb, ?_⟩
  unfold rofX
  rw [hb, if_pos rfl, eT, eH, hr, Int.mul_ediv_cancel _ (by omega)]
  unfold clampV
  rw [if_neg (by omega), if_neg (by omega)]
def leN (a b : Int) : Int := if a ≤ b then 1 else 0
theorem leN_yes {a b : Int} (h : a ≤ b) : leN a b = 1 := if_pos h
theorem leN_no {a b : Int} (h : ¬ a ≤ b) : leN a b = 0 := if_neg h
theorem leN_in (a b : Int) : 0 ≤ leN a b ∧ leN a b ≤ 1 := by unfold leN; split <;> omega
theorem cell3 (x M : Int) : leN x M = ((if x < M then 1 else 0 : Nat) : Int) + ((if x = M then 1 else 0 : Nat) : Int) ∧ leN M x = 1 - ((if x < M then 1 else 0 : Nat) : Int) := by
  rcases Int.lt_trichotomy x M with h | h | h
  · rw [leN_yes (by omega), leN_no (by omega), if_pos h, if_neg (by omega)]; decide
  · rw [leN_yes (by omega), leN_yes (by omega), if_neg (by omega), if_pos h]; decide
  · rw [leN_no (by omega), leN_yes (by omega), if_neg (by omega), if_neg (by omega)]; decide
theorem mid3 (x y z : Int) : 2 ≤ leN x (medX [x, y, z]) + leN y (medX [x, y, z]) + leN z (medX [x, y, z]) ∧ 2 ≤ leN (medX [x, y, z]) x + leN (medX [x, y, z]) y + leN (medX [x, y, z]) z := by
  have h := (medX_med (L := [x, y, z]) (by simp)).2
  obtain ⟨M, hM⟩ : ∃ M, M = medX [x, y, z] := ⟨_, rfl⟩
  rw [← hM] at h ⊢
  unfold medB lowN eqN at h
  simp only [List.countP_cons, List.countP_nil, List.length_cons, List.length_nil, beq_iff_eq, decide_eq_true_eq, Bool.and_eq_true] at h
  rw [(cell3 x M).1, (cell3 x M).2, (cell3 y M).1, (cell3 y M).2, (cell3 z M).1, (cell3 z M).2]
  obtain ⟨p1, hp1⟩ : ∃ p : Nat, p = if x < M then 1 else 0 := ⟨_, rfl⟩
  obtain ⟨p2, hp2⟩ : ∃ p : Nat, p = if y < M then 1 else 0 := ⟨_, rfl⟩
  obtain ⟨p3, hp3⟩ : ∃ p : Nat, p = if z < M then 1 else 0 := ⟨_, rfl⟩
  obtain ⟨q1, hq1⟩ : ∃ p : Nat, p = if x = M then 1 else 0 := ⟨_, rfl⟩
  obtain ⟨q2, hq2⟩ : ∃ p : Nat, p = if y = M then 1 else 0 := ⟨_, rfl⟩
  obtain ⟨q3, hq3⟩ : ∃ p : Nat, p = if z = M then 1 else 0 := ⟨_, rfl⟩
  rw [← hp1, ← hp2, ← hp3, ← hq1, ← hq2, ← hq3] at h ⊢
  clear hp1 hp2 hp3 hq1 hq2 hq3 hM
  omega
/-- The law's memory: what was handed in, the estimator, the sample ahead, the rates. -/
structure RM (w u : World) (A B S R : Nat) (a b c : Int) (e : ES) (t h x y z : Int) : Prop where
  la : Blk u A 53 [.int .u16 a, .int .u16 b, .int .u16 c]
  es : EA u B e
  ss : Blk u S 23 [.int .i64 t, .int .i64 h]
  rs : Blk u R 54 [.int .i64 x, .int .i64 y, .int .i64 z]
  below : Below w.heap.size w u
  ga : w.heap.size ≤ A
  gb : w.heap.size ≤ B
  gs : w.heap.size ≤ S
  gr : w.heap.size ≤ R
  ne : A ≠ B ∧ A ≠ S ∧ A ≠ R ∧ B ≠ S ∧ B ≠ R ∧ S ≠ R
theorem RM.on {w u v : World} {A B S R : Nat} {a b c : Int} {e : ES} {t h x y z : Int} (H : RM w u A B S R a b c e t h x y z) (hb : Below u.heap.size u v) : RM w v A B S R a b c e t h x y z :=
  ⟨H.la.keep hb H.la.lt, EA.on H.es hb, H.ss.keep hb H.ss.lt, H.rs.keep hb H.rs.lt, below_transG H.below hb, H.ga, H.gb, H.gs, H.gr, H.ne⟩
theorem RM.stepB {w u v : World} {A B S R : Nat} {a b c : Int} {e e2 : ES} {t h x y z : Int} (H : RM w u A B S R a b c e t h x y z) (he : EA v B e2) (hk : Kp B (.slice none 0 0) u v) : RM w v A B S R a b c e2 t h x y z :=
  ⟨H.la.on (hk.block A H.la.lt H.ne.1 (fun e => by cases e)), he, H.ss.on (hk.block S H.ss.lt (fun e => H.ne.2.2.2.1 e.symm) (fun e => by cases e)), H.rs.on (hk.block R H.rs.lt (fun e => H.ne.2.2.2.2.1 e.symm) (fun e => by cases e)), H.below.trans (hk.belowN H.gb H.below.size (fun k e => by cases e)), H.ga, H.gb, H.gs, H.gr, H.ne⟩
theorem RM.putR {w u : World} {A B S R : Nat} {a b c : Int} {e : ES} {t h x y z : Int} (H : RM w u A B S R a b c e t h x y z) (i : Nat) (v : Int) (x' y' z' : Int) (hl : [Value.int .i64 x, .int .i64 y, .int .i64 z].set i (.int .i64 v) = [Value.int .i64 x', .int .i64 y', .int .i64 z']) (hi : i < 3) : RM w (u.setCell ⟨R, i, none⟩ (.int .i64 v)) A B S R a b c e t h x' y' z' :=
  ⟨H.la.puts (fun e => H.ne.2.2.1 e.symm) i _, ⟨H.es.1.puts (fun e => H.ne.2.2.2.2.1 e.symm) i _, H.es.2⟩, H.ss.puts (fun e => H.ne.2.2.2.2.2 e.symm) i _, hl ▸ H.rs.put1 (i := i) (by simpa using hi) (.int .i64 v), H.below.setCell (p := ⟨R, i, none⟩) H.gr _, H.ga, H.gb, H.gs, H.gr, H.ne⟩
theorem RM.putS {w u : World} {A B S R : Nat} {a b c : Int} {e : ES} {t h x y z : Int} (H : RM w u A B S R a b c e t h x y z) (t' h' : Int) : RM w ((u.setCell ⟨S, 0, none⟩ (.int .i64 t')).setCell ⟨S, 1, none⟩ (.int .i64 h')) A B S R a b c e t' h' x y z :=
  ⟨(H.la.puts (fun e => H.ne.2.1 e.symm) 0 _).puts (fun e => H.ne.2.1 e.symm) 1 _, ⟨(H.es.1.puts (fun e => H.ne.2.2.2.1 e.symm) 0 _).puts (fun e => H.ne.2.2.2.1 e.symm) 1 _, H.es.2⟩, (H.ss.put1 (i := 0) (by simp) (.int .i64 t')).put1 (i := 1) (by simp) (.int .i64 h'), (H.rs.puts H.ne.2.2.2.2.2 0 _).puts H.ne.2.2.2.2.2 1 _, (H.below.setCell (p := ⟨S, 0, none⟩) H.gs _).setCell (p := ⟨S, 1, none⟩) H.gs _, H.ga, H.gb, H.gs, H.gr, H.ne⟩
set_option maxRecDepth 100000 in
set_option maxHeartbeats 8000000 in
theorem walk (a b c : Int) (v0 : (Lit.int .u16 a).wf = true) (v1 : (Lit.int .u16 b).wf = true) (v2 : (Lit.int .u16 c).wf = true) (w : World) :
    Calls Try.prog 7 #[.agg #[.int .u16 a, .int .u16 b, .int .u16 c]] w fun y w' => y = .returned (.bool true) ∧ Below w.heap.size w w' := by
  have h0 : 0 ≤ a ∧ a ≤ 65535 := by simpa [Lit.wf, IntKind.min, IntKind.max, IntKind.signed, IntKind.bits] using v0
  have h1 : 0 ≤ b ∧ b ≤ 65535 := by simpa [Lit.wf, IntKind.min, IntKind.max, IntKind.signed, IntKind.bits] using v1
  have h2 : 0 ≤ c ∧ c ≤ 65535 := by simpa [Lit.wf, IntKind.min, IntKind.max, IntKind.signed, IntKind.bits] using v2
  have HABC := Lib.hid (And.intro h0 (And.intro h1 h2))
  clear v0 v1 v2 h0 h1 h2
  have HA0 := Lib.hid (Blk.new w 53 [.int .u16 a, .int .u16 b, .int .u16 c])
  have HBW := Lib.hid ((Below.refl _ w).alloc (Nat.le_refl _) (.cells #[.int .u16 a, .int .u16 b, .int .u16 c] 53))
  go_enter Try.func7, Try.ntmps7
  go_wp2_with fail
  refine (enew_yes 4096 3 (by decide) (by decide) _).mono ?_
  rintro y w1 ⟨B, rfl, hO, hB, hb⟩
  have HO1 := Lib.hid hO; have HB1 := Lib.hid (below_transG HBW.out hb); have HA1 := Lib.hid (HA0.out.keep hb HA0.out.lt)
  have HBB := Lib.hid (show w.heap.size + 1 ≤ B by simpa using hB)
  clear hO hB hb
  go_wp2_with fail
  have HO2 := Lib.hid (EA.on HO1.out ((Below.refl _ w1).alloc (Nat.le_refl _) (.cells #[.int .i64 0, .int .i64 0] 23)))
  refine (add_any 0 0 (by decide) (by decide) (ES.fresh 4096 3) B _ HO2.out).mono ?_
  rw [show (ES.fresh 4096 3).addB 0 0 = false from rfl]
  rintro y w2 ⟨rfl, hE, hk⟩
  obtain ⟨e1, he1⟩ : ∃ e1, e1 = (ES.fresh 4096 3).add 0 0 := ⟨_, rfl⟩
  rw [← he1] at hE
  have HE1 := Lib.hid (show e1.m = 4096 ∧ e1.n = 3 ∧ e1.s = true ∧ e1.t = 0 ∧ e1.h = 0 by rw [he1]; exact ⟨rfl, rfl, rfl, rfl, rfl⟩)
  have HL1 := Lib.hid (show e1.L = [] by rw [he1]; rfl)
  clear he1
  obtain ⟨S, hS⟩ : ∃ S, S = w1.heap.size := ⟨_, rfl⟩
  obtain ⟨W1, hW1⟩ : ∃ W1, W1 = w1.alloc (.cells #[.int .i64 0, .int .i64 0] 23) := ⟨_, rfl⟩
  have hlt := HO1.out.1.lt; have hltA := HA1.out.lt
  have HE2 := Lib.hid hE
  have hS1 : Blk W1 S 23 [.int .i64 0, .int .i64 0] := hW1 ▸ hS ▸ Blk.new w1 23 [.int .i64 0, .int .i64 0]
  have hA1 : Blk W1 w.heap.size 53 [.int .u16 a, .int .u16 b, .int .u16 c] := hW1 ▸ HA1.out.keep ((Below.refl _ _).alloc (Nat.le_refl _) _) hltA
  have hBW1 : Below w.heap.size w W1 := hW1 ▸ HB1.out.alloc HB1.out.size _
  rw [← hW1] at hk
  have HS2 := Lib.hid (hS1.on (hk.block S hS1.lt (by rw [hS]; exact Nat.ne_of_gt hlt) (fun e => by cases e)))
  have HA2 := Lib.hid (hA1.on (hk.block w.heap.size hA1.lt (by have := HBB.out; omega) (fun e => by cases e)))
  have HB2 := Lib.hid (hBW1.trans (hk.belowN (by have := HBB.out; omega) hBW1.size (fun k e => by cases e)))
  have HNE := Lib.hid (show w.heap.size < B ∧ B < S ∧ w.heap.size < S from ⟨by have := HBB.out; omega, by rw [hS]; exact hlt, by rw [hS]; exact hltA⟩)
  rw [← hS]
  clear hk hE hS hW1 hlt hltA hS1 hA1 hBW1
  go_wp2_with fail
  refine (rate_any e1 B _ HE2.out).mono ?_
  rw [show medX e1.L = 1048576 by rw [HL1.out]; rfl]
  rintro y w3 ⟨rfl, hb⟩
  have HE3 := Lib.hid (EA.on HE2.out hb); have HS3 := Lib.hid (HS2.out.keep hb HS2.out.lt); have HA3 := Lib.hid (HA2.out.keep hb HA2.out.lt); have HB3 := Lib.hid (below_transG HB2.out hb)
  clear hb
  go_wp2_with fail
  obtain ⟨R, hR⟩ : ∃ R, R = w3.heap.size := ⟨_, rfl⟩
  rw [← hR]
  have HIS := Lib.hid (show RM w (w3.alloc (.cells #[.int .i64 0, .int .i64 0, .int .i64 0] 54)) w.heap.size B S R a b c e1 0 0 0 0 0 from by
    have hb := (Below.refl _ w3).alloc (Nat.le_refl _) (.cells #[.int .i64 0, .int .i64 0, .int .i64 0] 54)
    have hn := HNE.out
    have r1 := HE3.out.1.lt; have r2 := HS3.out.lt; have r3 := HA3.out.lt
    exact ⟨HA3.out.keep hb HA3.out.lt, EA.on HE3.out hb, HS3.out.keep hb HS3.out.lt, hR ▸ Blk.new w3 54 [.int .i64 0, .int .i64 0, .int .i64 0], below_transG HB3.out hb, Nat.le_refl _, by omega, by omega, by omega, by omega, by omega, by omega, by omega, by omega, by omega⟩)
  obtain ⟨A, hA⟩ : ∃ A, A = w.heap.size := ⟨_, rfl⟩
  rw [← hA] at HIS ⊢
  clear hA hR
  go_loopw [7] (fun s7 wr => ∃ (i : Nat) (e : ES) (t h x y z : Int), s7 = .int .i64 (i : Int) ∧ i ≤ 3 ∧ (e.m = 4096 ∧ e.n = 3 ∧ e.s = true ∧ e.t = t ∧ e.h = h) ∧ ((-2000000 * (i : Int) ≤ t ∧ t ≤ 2000000 * (i : Int)) ∧ (0 ≤ h ∧ h ≤ 2000000 * (i : Int))) ∧ ((i = 0 ∧ e.L = []) ∨ (i = 1 ∧ e.L = [x]) ∨ (i = 2 ∧ e.L = [x, y]) ∨ (i = 3 ∧ e.L = [x, y, z])) ∧ RM w wr A B S R a b c e t h x y z) (fun s7 _ => 3 - (intOf s7).toNat)
  case atStart => exact ⟨0, e1, 0, 0, 0, 0, 0, rfl, by decide, HE1.out, by decide, .inl ⟨rfl, HL1.out⟩, HIS.out⟩
  case round =>
    obtain ⟨i, e, t, h, x, y, z, rfl, hi3, hef, hbt, hcase, hI⟩ := hrel
    have HI := Lib.hid hI; have HEF := Lib.hid hef; have HBT := Lib.hid hbt
    clear hI hef hbt HIS HE3 HS3 HA3 HB3 HE2 HS2 HA2 HB2 HNE
    rcases hcase with hcase | hcase | hcase | hcase
    · obtain ⟨rfl, hL⟩ := hcase
      have HLL := Lib.hid hL
      clear hL
      have hv : 0 ≤ a ∧ a ≤ 65535 := by have := HABC.out; omega
      obtain ⟨q, hq⟩ : ∃ z, z = a.tmod 8000 := ⟨_, rfl⟩
      have bq : 0 ≤ q ∧ q ≤ 7999 := by rw [hq]; exact ⟨Int.tmod_nonneg _ hv.1, by have := Int.tmod_lt_of_pos a (show (0 : Int) < 8000 by decide); omega⟩
      obtain ⟨d, hd⟩ : ∃ z, z = 1048576 + q - 4000 := ⟨_, rfl⟩
      obtain ⟨t1, ht1⟩ : ∃ z, z = t + 1048576 := ⟨_, rfl⟩
      obtain ⟨t2, ht2⟩ : ∃ z, z = t1 + q := ⟨_, rfl⟩
      obtain ⟨t3, ht3⟩ : ∃ z, z = t2 - 4000 := ⟨_, rfl⟩
      obtain ⟨h3, hh3⟩ : ∃ z, z = h + 1048576 := ⟨_, rfl⟩
      have hbt := HBT.out
      have f1 : wrap64 a = a := w64_in _ (by omega)
      have f2 : wrap64 (t + 1048576) = t1 := (w64_in _ (by omega)).trans ht1.symm
      have f3 : wrap64 (t1 + q) = t2 := (w64_in _ (by omega)).trans ht2.symm
      have f4 : wrap64 (t2 - 4000) = t3 := (w64_in _ (by omega)).trans ht3.symm
      have f5 : wrap64 (h + 1048576) = h3 := (w64_in _ (by omega)).trans hh3.symm
      have g1 := hq.symm
      have hx := middle_x t h t3 h3 4096 d (by omega) (by omega) (by omega) (by rw [show t3 - t = d by omega, show h3 - h = 1048576 by omega]) (by omega)
      have HBD := Lib.hid (show (-2000000 * (0 + 1) ≤ t3 ∧ t3 ≤ 2000000 * (0 + 1)) ∧ (0 ≤ h3 ∧ h3 ≤ 2000000 * (0 + 1)) by omega)
      have HRF := Lib.hid (fun u => rof_any t h t3 h3 4096 (by omega) (by omega) (by omega) (by omega) u)
      rw [hx.1, hx.2] at HRF
      have hab : e.addB t3 h3 = true := by
        unfold ES.addB
        rw [HEF.out.2.2.1, HEF.out.2.2.2.1, HEF.out.2.2.2.2, HEF.out.1, hx.1]; rfl
      have HADD := Lib.hid (fun u hu => add_any t3 h3 (by omega) (by omega) e B u hu)
      rw [hab] at HADD
      have HE2 := Lib.hid (show (e.add t3 h3).m = 4096 ∧ (e.add t3 h3).n = 3 ∧ (e.add t3 h3).s = true ∧ (e.add t3 h3).t = t3 ∧ (e.add t3 h3).h = h3 from ⟨(ES.add_m e t3 h3).1.trans HEF.out.1, (ES.add_m e t3 h3).2.trans HEF.out.2.1, ES.add_f e t3 h3⟩)
      have HL2 := Lib.hid (show (e.add t3 h3).L = [d] by
        rw [ES.add_l hab, HEF.out.2.2.2.1, HEF.out.2.2.2.2, HEF.out.1, hx.2, HEF.out.2.1, HLL.out]; rfl)
      obtain ⟨e2, he2⟩ : ∃ z, z = e.add t3 h3 := ⟨_, rfl⟩
      rw [← he2] at HADD HE2 HL2
      clear he2 hab hx hbt hq bq hd ht1 ht2 ht3 hh3 hv
      have c0 : wr.cell? ⟨S, 0, none⟩ = some (.int .i64 t) := HI.out.ss.cellAt (i := 0) (by simp)
      have c1 : wr.cell? ⟨S, 1, none⟩ = some (.int .i64 h) := HI.out.ss.cellAt (i := 1) (by simp)
      have c2 : wr.cell? ⟨A, 0, none⟩ = some (.int .u16 a) := HI.out.la.cellAt (i := 0) (by simp)
      have HIa := Lib.hid (fun o => HI.out.on ((Below.refl _ wr).alloc (Nat.le_refl _) o))
      have d0 : ∀ o, (wr.alloc o).cell? ⟨S, 0, none⟩ = some (.int .i64 t) := fun o => (HIa.out o).ss.cellAt (i := 0) (by simp)
      have d1 : ∀ o, (wr.alloc o).cell? ⟨S, 1, none⟩ = some (.int .i64 h) := fun o => (HIa.out o).ss.cellAt (i := 1) (by simp)
      have d2 : ∀ o, (wr.alloc o).cell? ⟨A, 0, none⟩ = some (.int .u16 a) := fun o => (HIa.out o).la.cellAt (i := 0) (by simp)
      go_upto_region 11 with fail
      go_region
      obtain ⟨w3, hw3⟩ : ∃ w3, w3 = wr.alloc (.cells #[.int .i64 t3, .int .i64 h3] 23) := ⟨_, rfl⟩
      rw [← hw3]
      obtain ⟨D, hD⟩ : ∃ D, D = wr.heap.size := ⟨_, rfl⟩
      rw [← hD]
      have HI3 := Lib.hid (show RM w w3 A B S R a b c e t h x y z from hw3 ▸ HIa.out _)
      have HT3 := Lib.hid (show Blk w3 D 23 [.int .i64 t3, .int .i64 h3] from hw3 ▸ hD ▸ Blk.new wr 23 [.int .i64 t3, .int .i64 h3])
      have HND := Lib.hid (show D ≠ B ∧ D ≠ S ∧ D ≠ R from ⟨by rw [hD]; exact Nat.ne_of_gt HI.out.es.1.lt, by rw [hD]; exact Nat.ne_of_gt HI.out.ss.lt, by rw [hD]; exact Nat.ne_of_gt HI.out.rs.lt⟩)
      clear hw3 hD c0 c1 c2 d0 d1 d2 HIa f1 f2 f3 f4 f5 g1
      have HZ := Lib.hid (show ∀ x, Below w3.heap.size w3 x → Below w3.heap.size w3 x ∧ x.cell? ⟨S, 0, none⟩ = some (.int .i64 t) ∧ x.cell? ⟨S, 1, none⟩ = some (.int .i64 h) ∧ x.cell? ⟨D, 0, none⟩ = some (.int .i64 t3) ∧ x.cell? ⟨D, 1, none⟩ = some (.int .i64 h3) from fun x hx => ⟨hx, (HI3.out.on hx).ss.cellAt (i := 0) (by simp), (HI3.out.on hx).ss.cellAt (i := 1) (by simp), (HT3.out.keep hx HT3.out.lt).cellAt (i := 0) (by simp), (HT3.out.keep hx HT3.out.lt).cellAt (i := 1) (by simp)⟩)
      have HP1 := Lib.hid (fun u => plain_any t h u)
      have HP2 := Lib.hid (fun u => plain_any t3 h3 u)
      go_upto_region 12 with fail
      refine wp_region_class (C := fun x => Below w3.heap.size w3 x ∧ x.cell? ⟨S, 0, none⟩ = some (.int .i64 t) ∧ x.cell? ⟨S, 1, none⟩ = some (.int .i64 h) ∧ x.cell? ⟨D, 0, none⟩ = some (.int .i64 t3) ∧ x.cell? ⟨D, 1, none⟩ = some (.int .i64 h3)) (by kernel_rfl) (by kernel_rfl) (by first | exact HZ.out _ (Below.refl _ _).drew | exact HZ.out _ (Below.refl _ _).drew.drew) ?_
      repeat
        with_reducible refine wpQuiet_step (fun K hK => ?_)
        first
          | (refine quiet_skip (by rfl) ?_; (with_reducible refine hK _ ?_); clear hK K)
          | (refine quiet_want (by rfl) ?_
             apply Exists.intro
             refine ⟨fun x hx => ?_, hK _ ?_⟩
             (obtain ⟨_, hx1, hx2, hx3, hx4⟩ := id hx; go_simp; first | done | rfl | (first | (go_at_call 15; exact (HP1.out _).mono fun y w' ⟨h1, h2⟩ => ⟨h1, HZ.out _ (below_transG hx.1 h2)⟩) | (go_at_call 15; exact (HP2.out _).mono fun y w' ⟨h1, h2⟩ => ⟨h1, HZ.out _ (below_transG hx.1 h2)⟩) | (go_at_call 14; exact (HRF.out _).mono fun y w' ⟨h1, h2⟩ => ⟨h1, HZ.out _ (below_transG hx.1 h2)⟩)))
             clear hK K)
        try simp only [Act.put, List.setIfInBounds_toArray, List.set_cons_zero, List.set_cons_succ]
      with_reducible refine wpQuiet_nil ?_
      intro wq hq
      have HI4 := Lib.hid (HI3.out.on hq.1)
      have HT4 := Lib.hid (HT3.out.keep hq.1 HT3.out.lt)
      clear hq HZ HRF HP1 HP2
      have c0 : wq.cell? ⟨R, 0, none⟩ = some (.int .i64 x) := HI4.out.rs.cellAt (i := 0) (by simp)
      have c1 : wq.frozen? ⟨R, 0, none⟩ = false := HI4.out.rs.frozenAt 0
      go_upto_region 14 with fail
      obtain ⟨w5, hw5⟩ : ∃ w5, w5 = wq.setCell ⟨R, 0, none⟩ (.int .i64 d) := ⟨_, rfl⟩
      rw [← hw5]
      have HI5 := Lib.hid (show RM w w5 A B S R a b c e t h d y z from hw5 ▸ HI4.out.putR 0 d d y z rfl (by decide))
      have HT5 := Lib.hid (show Blk w5 D 23 [.int .i64 t3, .int .i64 h3] from hw5 ▸ HT4.out.puts (fun e => HND.out.2.2 e.symm) 0 _)
      clear hw5 c0 c1
      have c0 : w5.cell? ⟨D, 0, none⟩ = some (.int .i64 t3) := HT5.out.cellAt (i := 0) (by simp)
      have c1 : w5.cell? ⟨D, 1, none⟩ = some (.int .i64 h3) := HT5.out.cellAt (i := 1) (by simp)
      go_wp2_with fail
      refine (HADD.out _ HI5.out.es).mono ?_
      rintro y1 w6 ⟨rfl, hE, hk⟩
      have HI6 := Lib.hid (HI5.out.stepB hE hk)
      have HT6 := Lib.hid (HT5.out.on (hk.block D HT5.out.lt HND.out.1 (fun e => by cases e)))
      clear hE hk c0 c1
      have c0 : w6.cell? ⟨D, 0, none⟩ = some (.int .i64 t3) := HT6.out.cellAt (i := 0) (by simp)
      have c1 : w6.cell? ⟨D, 1, none⟩ = some (.int .i64 h3) := HT6.out.cellAt (i := 1) (by simp)
      have c2 : w6.cell? ⟨S, 0, none⟩ = some (.int .i64 t) := HI6.out.ss.cellAt (i := 0) (by simp)
      have c3 : w6.cell? ⟨S, 1, none⟩ = some (.int .i64 h) := HI6.out.ss.cellAt (i := 1) (by simp)
      have c4 : w6.frozen? ⟨S, 0, none⟩ = false := HI6.out.ss.frozenAt 0
      have c5 : w6.frozen? ⟨S, 1, none⟩ = false := HI6.out.ss.frozenAt 1
      go_wp2_with fail
      go_roundw
      case rel => exact ⟨0 + 1, e2, t3, h3, d, y, z, by first | rfl | simp, by decide, HE2.out, HBD.out, .inr (.inl ⟨rfl, HL2.out⟩), HI6.out.putS t3 h3⟩
      case measure => simp [intOf]
    · obtain ⟨rfl, hL⟩ := hcase
      have HLL := Lib.hid hL
      clear hL
      have hv : 0 ≤ b ∧ b ≤ 65535 := by have := HABC.out; omega
      obtain ⟨q, hq⟩ : ∃ z, z = b.tmod 8000 := ⟨_, rfl⟩
      have bq : 0 ≤ q ∧ q ≤ 7999 := by rw [hq]; exact ⟨Int.tmod_nonneg _ hv.1, by have := Int.tmod_lt_of_pos b (show (0 : Int) < 8000 by decide); omega⟩
      obtain ⟨d, hd⟩ : ∃ z, z = 1048576 + q - 4000 := ⟨_, rfl⟩
      obtain ⟨t1, ht1⟩ : ∃ z, z = t + 1048576 := ⟨_, rfl⟩
      obtain ⟨t2, ht2⟩ : ∃ z, z = t1 + q := ⟨_, rfl⟩
      obtain ⟨t3, ht3⟩ : ∃ z, z = t2 - 4000 := ⟨_, rfl⟩
      obtain ⟨h3, hh3⟩ : ∃ z, z = h + 1048576 := ⟨_, rfl⟩
      have hbt := HBT.out
      have f1 : wrap64 b = b := w64_in _ (by omega)
      have f2 : wrap64 (t + 1048576) = t1 := (w64_in _ (by omega)).trans ht1.symm
      have f3 : wrap64 (t1 + q) = t2 := (w64_in _ (by omega)).trans ht2.symm
      have f4 : wrap64 (t2 - 4000) = t3 := (w64_in _ (by omega)).trans ht3.symm
      have f5 : wrap64 (h + 1048576) = h3 := (w64_in _ (by omega)).trans hh3.symm
      have g1 := hq.symm
      have hx := middle_x t h t3 h3 4096 d (by omega) (by omega) (by omega) (by rw [show t3 - t = d by omega, show h3 - h = 1048576 by omega]) (by omega)
      have HBD := Lib.hid (show (-2000000 * (1 + 1) ≤ t3 ∧ t3 ≤ 2000000 * (1 + 1)) ∧ (0 ≤ h3 ∧ h3 ≤ 2000000 * (1 + 1)) by omega)
      have HRF := Lib.hid (fun u => rof_any t h t3 h3 4096 (by omega) (by omega) (by omega) (by omega) u)
      rw [hx.1, hx.2] at HRF
      have hab : e.addB t3 h3 = true := by
        unfold ES.addB
        rw [HEF.out.2.2.1, HEF.out.2.2.2.1, HEF.out.2.2.2.2, HEF.out.1, hx.1]; rfl
      have HADD := Lib.hid (fun u hu => add_any t3 h3 (by omega) (by omega) e B u hu)
      rw [hab] at HADD
      have HE2 := Lib.hid (show (e.add t3 h3).m = 4096 ∧ (e.add t3 h3).n = 3 ∧ (e.add t3 h3).s = true ∧ (e.add t3 h3).t = t3 ∧ (e.add t3 h3).h = h3 from ⟨(ES.add_m e t3 h3).1.trans HEF.out.1, (ES.add_m e t3 h3).2.trans HEF.out.2.1, ES.add_f e t3 h3⟩)
      have HL2 := Lib.hid (show (e.add t3 h3).L = [x, d] by
        rw [ES.add_l hab, HEF.out.2.2.2.1, HEF.out.2.2.2.2, HEF.out.1, hx.2, HEF.out.2.1, HLL.out]; rfl)
      obtain ⟨e2, he2⟩ : ∃ z, z = e.add t3 h3 := ⟨_, rfl⟩
      rw [← he2] at HADD HE2 HL2
      clear he2 hab hx hbt hq bq hd ht1 ht2 ht3 hh3 hv
      have c0 : wr.cell? ⟨S, 0, none⟩ = some (.int .i64 t) := HI.out.ss.cellAt (i := 0) (by simp)
      have c1 : wr.cell? ⟨S, 1, none⟩ = some (.int .i64 h) := HI.out.ss.cellAt (i := 1) (by simp)
      have c2 : wr.cell? ⟨A, 1, none⟩ = some (.int .u16 b) := HI.out.la.cellAt (i := 1) (by simp)
      have HIa := Lib.hid (fun o => HI.out.on ((Below.refl _ wr).alloc (Nat.le_refl _) o))
      have d0 : ∀ o, (wr.alloc o).cell? ⟨S, 0, none⟩ = some (.int .i64 t) := fun o => (HIa.out o).ss.cellAt (i := 0) (by simp)
      have d1 : ∀ o, (wr.alloc o).cell? ⟨S, 1, none⟩ = some (.int .i64 h) := fun o => (HIa.out o).ss.cellAt (i := 1) (by simp)
      have d2 : ∀ o, (wr.alloc o).cell? ⟨A, 1, none⟩ = some (.int .u16 b) := fun o => (HIa.out o).la.cellAt (i := 1) (by simp)
      go_upto_region 11 with fail
      go_region
      obtain ⟨w3, hw3⟩ : ∃ w3, w3 = wr.alloc (.cells #[.int .i64 t3, .int .i64 h3] 23) := ⟨_, rfl⟩
      rw [← hw3]
      obtain ⟨D, hD⟩ : ∃ D, D = wr.heap.size := ⟨_, rfl⟩
      rw [← hD]
      have HI3 := Lib.hid (show RM w w3 A B S R a b c e t h x y z from hw3 ▸ HIa.out _)
      have HT3 := Lib.hid (show Blk w3 D 23 [.int .i64 t3, .int .i64 h3] from hw3 ▸ hD ▸ Blk.new wr 23 [.int .i64 t3, .int .i64 h3])
      have HND := Lib.hid (show D ≠ B ∧ D ≠ S ∧ D ≠ R from ⟨by rw [hD]; exact Nat.ne_of_gt HI.out.es.1.lt, by rw [hD]; exact Nat.ne_of_gt HI.out.ss.lt, by rw [hD]; exact Nat.ne_of_gt HI.out.rs.lt⟩)
      clear hw3 hD c0 c1 c2 d0 d1 d2 HIa f1 f2 f3 f4 f5 g1
      have HZ := Lib.hid (show ∀ x, Below w3.heap.size w3 x → Below w3.heap.size w3 x ∧ x.cell? ⟨S, 0, none⟩ = some (.int .i64 t) ∧ x.cell? ⟨S, 1, none⟩ = some (.int .i64 h) ∧ x.cell? ⟨D, 0, none⟩ = some (.int .i64 t3) ∧ x.cell? ⟨D, 1, none⟩ = some (.int .i64 h3) from fun x hx => ⟨hx, (HI3.out.on hx).ss.cellAt (i := 0) (by simp), (HI3.out.on hx).ss.cellAt (i := 1) (by simp), (HT3.out.keep hx HT3.out.lt).cellAt (i := 0) (by simp), (HT3.out.keep hx HT3.out.lt).cellAt (i := 1) (by simp)⟩)
      have HP1 := Lib.hid (fun u => plain_any t h u)
      have HP2 := Lib.hid (fun u => plain_any t3 h3 u)
      go_upto_region 12 with fail
      refine wp_region_class (C := fun x => Below w3.heap.size w3 x ∧ x.cell? ⟨S, 0, none⟩ = some (.int .i64 t) ∧ x.cell? ⟨S, 1, none⟩ = some (.int .i64 h) ∧ x.cell? ⟨D, 0, none⟩ = some (.int .i64 t3) ∧ x.cell? ⟨D, 1, none⟩ = some (.int .i64 h3)) (by kernel_rfl) (by kernel_rfl) (by first | exact HZ.out _ (Below.refl _ _).drew | exact HZ.out _ (Below.refl _ _).drew.drew) ?_
      repeat
        with_reducible refine wpQuiet_step (fun K hK => ?_)
        first
          | (refine quiet_skip (by rfl) ?_; (with_reducible refine hK _ ?_); clear hK K)
          | (refine quiet_want (by rfl) ?_
             apply Exists.intro
             refine ⟨fun x hx => ?_, hK _ ?_⟩
             (obtain ⟨_, hx1, hx2, hx3, hx4⟩ := id hx; go_simp; first | done | rfl | (first | (go_at_call 15; exact (HP1.out _).mono fun y w' ⟨h1, h2⟩ => ⟨h1, HZ.out _ (below_transG hx.1 h2)⟩) | (go_at_call 15; exact (HP2.out _).mono fun y w' ⟨h1, h2⟩ => ⟨h1, HZ.out _ (below_transG hx.1 h2)⟩) | (go_at_call 14; exact (HRF.out _).mono fun y w' ⟨h1, h2⟩ => ⟨h1, HZ.out _ (below_transG hx.1 h2)⟩)))
             clear hK K)
        try simp only [Act.put, List.setIfInBounds_toArray, List.set_cons_zero, List.set_cons_succ]
      with_reducible refine wpQuiet_nil ?_
      intro wq hq
      have HI4 := Lib.hid (HI3.out.on hq.1)
      have HT4 := Lib.hid (HT3.out.keep hq.1 HT3.out.lt)
      clear hq HZ HRF HP1 HP2
      have c0 : wq.cell? ⟨R, 1, none⟩ = some (.int .i64 y) := HI4.out.rs.cellAt (i := 1) (by simp)
      have c1 : wq.frozen? ⟨R, 1, none⟩ = false := HI4.out.rs.frozenAt 1
      go_upto_region 14 with fail
      obtain ⟨w5, hw5⟩ : ∃ w5, w5 = wq.setCell ⟨R, 1, none⟩ (.int .i64 d) := ⟨_, rfl⟩
      rw [← hw5]
      have HI5 := Lib.hid (show RM w w5 A B S R a b c e t h x d z from hw5 ▸ HI4.out.putR 1 d x d z rfl (by decide))
      have HT5 := Lib.hid (show Blk w5 D 23 [.int .i64 t3, .int .i64 h3] from hw5 ▸ HT4.out.puts (fun e => HND.out.2.2 e.symm) 1 _)
      clear hw5 c0 c1
      have c0 : w5.cell? ⟨D, 0, none⟩ = some (.int .i64 t3) := HT5.out.cellAt (i := 0) (by simp)
      have c1 : w5.cell? ⟨D, 1, none⟩ = some (.int .i64 h3) := HT5.out.cellAt (i := 1) (by simp)
      go_wp2_with fail
      refine (HADD.out _ HI5.out.es).mono ?_
      rintro y1 w6 ⟨rfl, hE, hk⟩
      have HI6 := Lib.hid (HI5.out.stepB hE hk)
      have HT6 := Lib.hid (HT5.out.on (hk.block D HT5.out.lt HND.out.1 (fun e => by cases e)))
      clear hE hk c0 c1
      have c0 : w6.cell? ⟨D, 0, none⟩ = some (.int .i64 t3) := HT6.out.cellAt (i := 0) (by simp)
      have c1 : w6.cell? ⟨D, 1, none⟩ = some (.int .i64 h3) := HT6.out.cellAt (i := 1) (by simp)
      have c2 : w6.cell? ⟨S, 0, none⟩ = some (.int .i64 t) := HI6.out.ss.cellAt (i := 0) (by simp)
      have c3 : w6.cell? ⟨S, 1, none⟩ = some (.int .i64 h) := HI6.out.ss.cellAt (i := 1) (by simp)
      have c4 : w6.frozen? ⟨S, 0, none⟩ = false := HI6.out.ss.frozenAt 0
      have c5 : w6.frozen? ⟨S, 1, none⟩ = false := HI6.out.ss.frozenAt 1
      go_wp2_with fail
      go_roundw
      case rel => exact ⟨1 + 1, e2, t3, h3, x, d, z, by first | rfl | simp, by decide, HE2.out, HBD.out, .inr (.inr (.inl ⟨rfl, HL2.out⟩)), HI6.out.putS t3 h3⟩
      case measure => simp [intOf]
    · obtain ⟨rfl, hL⟩ := hcase
      have HLL := Lib.hid hL
      clear hL
      have hv : 0 ≤ c ∧ c ≤ 65535 := by have := HABC.out; omega
      obtain ⟨q, hq⟩ : ∃ z, z = c.tmod 8000 := ⟨_, rfl⟩
      have bq : 0 ≤ q ∧ q ≤ 7999 := by rw [hq]; exact ⟨Int.tmod_nonneg _ hv.1, by have := Int.tmod_lt_of_pos c (show (0 : Int) < 8000 by decide); omega⟩
      obtain ⟨d, hd⟩ : ∃ z, z = 1048576 + q - 4000 := ⟨_, rfl⟩
      obtain ⟨t1, ht1⟩ : ∃ z, z = t + 1048576 := ⟨_, rfl⟩
      obtain ⟨t2, ht2⟩ : ∃ z, z = t1 + q := ⟨_, rfl⟩
      obtain ⟨t3, ht3⟩ : ∃ z, z = t2 - 4000 := ⟨_, rfl⟩
      obtain ⟨h3, hh3⟩ : ∃ z, z = h + 1048576 := ⟨_, rfl⟩
      have hbt := HBT.out
      have f1 : wrap64 c = c := w64_in _ (by omega)
      have f2 : wrap64 (t + 1048576) = t1 := (w64_in _ (by omega)).trans ht1.symm
      have f3 : wrap64 (t1 + q) = t2 := (w64_in _ (by omega)).trans ht2.symm
      have f4 : wrap64 (t2 - 4000) = t3 := (w64_in _ (by omega)).trans ht3.symm
      have f5 : wrap64 (h + 1048576) = h3 := (w64_in _ (by omega)).trans hh3.symm
      have g1 := hq.symm
      have hx := middle_x t h t3 h3 4096 d (by omega) (by omega) (by omega) (by rw [show t3 - t = d by omega, show h3 - h = 1048576 by omega]) (by omega)
      have HBD := Lib.hid (show (-2000000 * (2 + 1) ≤ t3 ∧ t3 ≤ 2000000 * (2 + 1)) ∧ (0 ≤ h3 ∧ h3 ≤ 2000000 * (2 + 1)) by omega)
      have HRF := Lib.hid (fun u => rof_any t h t3 h3 4096 (by omega) (by omega) (by omega) (by omega) u)
      rw [hx.1, hx.2] at HRF
      have hab : e.addB t3 h3 = true := by
        unfold ES.addB
        rw [HEF.out.2.2.1, HEF.out.2.2.2.1, HEF.out.2.2.2.2, HEF.out.1, hx.1]; rfl
      have HADD := Lib.hid (fun u hu => add_any t3 h3 (by omega) (by omega) e B u hu)
      rw [hab] at HADD
      have HE2 := Lib.hid (show (e.add t3 h3).m = 4096 ∧ (e.add t3 h3).n = 3 ∧ (e.add t3 h3).s = true ∧ (e.add t3 h3).t = t3 ∧ (e.add t3 h3).h = h3 from ⟨(ES.add_m e t3 h3).1.trans HEF.out.1, (ES.add_m e t3 h3).2.trans HEF.out.2.1, ES.add_f e t3 h3⟩)
      have HL2 := Lib.hid (show (e.add t3 h3).L = [x, y, d] by
        rw [ES.add_l hab, HEF.out.2.2.2.1, HEF.out.2.2.2.2, HEF.out.1, hx.2, HEF.out.2.1, HLL.out]; rfl)
      obtain ⟨e2, he2⟩ : ∃ z, z = e.add t3 h3 := ⟨_, rfl⟩
      rw [← he2] at HADD HE2 HL2
      clear he2 hab hx hbt hq bq hd ht1 ht2 ht3 hh3 hv
      have c0 : wr.cell? ⟨S, 0, none⟩ = some (.int .i64 t) := HI.out.ss.cellAt (i := 0) (by simp)
      have c1 : wr.cell? ⟨S, 1, none⟩ = some (.int .i64 h) := HI.out.ss.cellAt (i := 1) (by simp)
      have c2 : wr.cell? ⟨A, 2, none⟩ = some (.int .u16 c) := HI.out.la.cellAt (i := 2) (by simp)
      have HIa := Lib.hid (fun o => HI.out.on ((Below.refl _ wr).alloc (Nat.le_refl _) o))
      have d0 : ∀ o, (wr.alloc o).cell? ⟨S, 0, none⟩ = some (.int .i64 t) := fun o => (HIa.out o).ss.cellAt (i := 0) (by simp)
      have d1 : ∀ o, (wr.alloc o).cell? ⟨S, 1, none⟩ = some (.int .i64 h) := fun o => (HIa.out o).ss.cellAt (i := 1) (by simp)
      have d2 : ∀ o, (wr.alloc o).cell? ⟨A, 2, none⟩ = some (.int .u16 c) := fun o => (HIa.out o).la.cellAt (i := 2) (by simp)
      go_upto_region 11 with fail
      go_region
      obtain ⟨w3, hw3⟩ : ∃ w3, w3 = wr.alloc (.cells #[.int .i64 t3, .int .i64 h3] 23) := ⟨_, rfl⟩
      rw [← hw3]
      obtain ⟨D, hD⟩ : ∃ D, D = wr.heap.size := ⟨_, rfl⟩
      rw [← hD]
      have HI3 := Lib.hid (show RM w w3 A B S R a b c e t h x y z from hw3 ▸ HIa.out _)
      have HT3 := Lib.hid (show Blk w3 D 23 [.int .i64 t3, .int .i64 h3] from hw3 ▸ hD ▸ Blk.new wr 23 [.int .i64 t3, .int .i64 h3])
      have HND := Lib.hid (show D ≠ B ∧ D ≠ S ∧ D ≠ R from ⟨by rw [hD]; exact Nat.ne_of_gt HI.out.es.1.lt, by rw [hD]; exact Nat.ne_of_gt HI.out.ss.lt, by rw [hD]; exact Nat.ne_of_gt HI.out.rs.lt⟩)
      clear hw3 hD c0 c1 c2 d0 d1 d2 HIa f1 f2 f3 f4 f5 g1
      have HZ := Lib.hid (show ∀ x, Below w3.heap.size w3 x → Below w3.heap.size w3 x ∧ x.cell? ⟨S, 0, none⟩ = some (.int .i64 t) ∧ x.cell? ⟨S, 1, none⟩ = some (.int .i64 h) ∧ x.cell? ⟨D, 0, none⟩ = some (.int .i64 t3) ∧ x.cell? ⟨D, 1, none⟩ = some (.int .i64 h3) from fun x hx => ⟨hx, (HI3.out.on hx).ss.cellAt (i := 0) (by simp), (HI3.out.on hx).ss.cellAt (i := 1) (by simp), (HT3.out.keep hx HT3.out.lt).cellAt (i := 0) (by simp), (HT3.out.keep hx HT3.out.lt).cellAt (i := 1) (by simp)⟩)
      have HP1 := Lib.hid (fun u => plain_any t h u)
      have HP2 := Lib.hid (fun u => plain_any t3 h3 u)
      go_upto_region 12 with fail
      refine wp_region_class (C := fun x => Below w3.heap.size w3 x ∧ x.cell? ⟨S, 0, none⟩ = some (.int .i64 t) ∧ x.cell? ⟨S, 1, none⟩ = some (.int .i64 h) ∧ x.cell? ⟨D, 0, none⟩ = some (.int .i64 t3) ∧ x.cell? ⟨D, 1, none⟩ = some (.int .i64 h3)) (by kernel_rfl) (by kernel_rfl) (by first | exact HZ.out _ (Below.refl _ _).drew | exact HZ.out _ (Below.refl _ _).drew.drew) ?_
      repeat
        with_reducible refine wpQuiet_step (fun K hK => ?_)
        first
          | (refine quiet_skip (by rfl) ?_; (with_reducible refine hK _ ?_); clear hK K)
          | (refine quiet_want (by rfl) ?_
             apply Exists.intro
             refine ⟨fun x hx => ?_, hK _ ?_⟩
             (obtain ⟨_, hx1, hx2, hx3, hx4⟩ := id hx; go_simp; first | done | rfl | (first | (go_at_call 15; exact (HP1.out _).mono fun y w' ⟨h1, h2⟩ => ⟨h1, HZ.out _ (below_transG hx.1 h2)⟩) | (go_at_call 15; exact (HP2.out _).mono fun y w' ⟨h1, h2⟩ => ⟨h1, HZ.out _ (below_transG hx.1 h2)⟩) | (go_at_call 14; exact (HRF.out _).mono fun y w' ⟨h1, h2⟩ => ⟨h1, HZ.out _ (below_transG hx.1 h2)⟩)))
             clear hK K)
        try simp only [Act.put, List.setIfInBounds_toArray, List.set_cons_zero, List.set_cons_succ]
      with_reducible refine wpQuiet_nil ?_
      intro wq hq
      have HI4 := Lib.hid (HI3.out.on hq.1)
      have HT4 := Lib.hid (HT3.out.keep hq.1 HT3.out.lt)
      clear hq HZ HRF HP1 HP2
      have c0 : wq.cell? ⟨R, 2, none⟩ = some (.int .i64 z) := HI4.out.rs.cellAt (i := 2) (by simp)
      have c1 : wq.frozen? ⟨R, 2, none⟩ = false := HI4.out.rs.frozenAt 2
      go_upto_region 14 with fail
      obtain ⟨w5, hw5⟩ : ∃ w5, w5 = wq.setCell ⟨R, 2, none⟩ (.int .i64 d) := ⟨_, rfl⟩
      rw [← hw5]
      have HI5 := Lib.hid (show RM w w5 A B S R a b c e t h x y d from hw5 ▸ HI4.out.putR 2 d x y d rfl (by decide))
      have HT5 := Lib.hid (show Blk w5 D 23 [.int .i64 t3, .int .i64 h3] from hw5 ▸ HT4.out.puts (fun e => HND.out.2.2 e.symm) 2 _)
      clear hw5 c0 c1
      have c0 : w5.cell? ⟨D, 0, none⟩ = some (.int .i64 t3) := HT5.out.cellAt (i := 0) (by simp)
      have c1 : w5.cell? ⟨D, 1, none⟩ = some (.int .i64 h3) := HT5.out.cellAt (i := 1) (by simp)
      go_wp2_with fail
      refine (HADD.out _ HI5.out.es).mono ?_
      rintro y1 w6 ⟨rfl, hE, hk⟩
      have HI6 := Lib.hid (HI5.out.stepB hE hk)
      have HT6 := Lib.hid (HT5.out.on (hk.block D HT5.out.lt HND.out.1 (fun e => by cases e)))
      clear hE hk c0 c1
      have c0 : w6.cell? ⟨D, 0, none⟩ = some (.int .i64 t3) := HT6.out.cellAt (i := 0) (by simp)
      have c1 : w6.cell? ⟨D, 1, none⟩ = some (.int .i64 h3) := HT6.out.cellAt (i := 1) (by simp)
      have c2 : w6.cell? ⟨S, 0, none⟩ = some (.int .i64 t) := HI6.out.ss.cellAt (i := 0) (by simp)
      have c3 : w6.cell? ⟨S, 1, none⟩ = some (.int .i64 h) := HI6.out.ss.cellAt (i := 1) (by simp)
      have c4 : w6.frozen? ⟨S, 0, none⟩ = false := HI6.out.ss.frozenAt 0
      have c5 : w6.frozen? ⟨S, 1, none⟩ = false := HI6.out.ss.frozenAt 1
      go_wp2_with fail
      go_roundw
      case rel => exact ⟨2 + 1, e2, t3, h3, x, y, d, by first | rfl | simp, by decide, HE2.out, HBD.out, .inr (.inr (.inr ⟨rfl, HL2.out⟩)), HI6.out.putS t3 h3⟩
      case measure => simp [intOf]
    · obtain ⟨rfl, hL⟩ := hcase
      have HLL := Lib.hid hL
      clear hL
      obtain ⟨M, hM⟩ : ∃ M, M = medX [x, y, z] := ⟨_, rfl⟩
      have HR := Lib.hid (fun u hu => rate_any e B u hu)
      rw [HLL.out, ← hM] at HR
      have hmid := mid3 x y z
      rw [← hM] at hmid
      have HMID := Lib.hid hmid
      clear hmid hM
      obtain ⟨w8, hw8⟩ : ∃ w8, w8 = wr := ⟨_, rfl⟩
      rw [← hw8] at HI ⊢
      clear hw8
      go_wp2_with fail
      go_loopw [11, 12, 13] (fun s11 s12 s13 wr => ∃ (i : Nat) (p q : Int), s13 = .int .i64 (i : Int) ∧ s11 = .int .i64 p ∧ s12 = .int .i64 q ∧ i ≤ 3 ∧ (0 ≤ p ∧ p ≤ 3 ∧ 0 ≤ q ∧ q ≤ 3) ∧ ((i = 0 ∧ p = 0 ∧ q = 0) ∨ (i = 1 ∧ p = leN x M ∧ q = leN M x) ∨ (i = 2 ∧ p = leN x M + leN y M ∧ q = leN M x + leN M y) ∨ (i = 3 ∧ p = leN x M + leN y M + leN z M ∧ q = leN M x + leN M y + leN M z)) ∧ RM w wr A B S R a b c e t h x y z) (fun _ _ s13 _ => 3 - (intOf s13).toNat)
      case atStart => exact ⟨0, 0, 0, rfl, rfl, rfl, by decide, by decide, .inl ⟨rfl, rfl, rfl⟩, HI.out⟩
      case round =>
        obtain ⟨i, p, q, rfl, rfl, rfl, hi3, hpq, hcase, hI⟩ := hrel
        have HI_wr := Lib.hid hI; have HPQ := Lib.hid hpq
        clear hI hpq
        rcases hcase with ⟨rfl, hp, hq'⟩ | ⟨rfl, hp, hq'⟩ | ⟨rfl, hp, hq'⟩ | ⟨rfl, hp, hq'⟩
        · have HP := Lib.hid hp; have HQ := Lib.hid hq'
          have HBD := Lib.hid (show 0 ≤ p ∧ p ≤ 0 ∧ 0 ≤ q ∧ q ≤ 0 by have b1 := leN_in x M; have b2 := leN_in M x; have b3 := leN_in y M; have b4 := leN_in M y; omega)
          clear hp hq'
          obtain ⟨p', hp'⟩ : ∃ z, z = p + 1 := ⟨_, rfl⟩
          obtain ⟨q', hq'⟩ : ∃ z, z = q + 1 := ⟨_, rfl⟩
          have f1 : wrap64 (p + 1) = p' := (w64_in _ (by have := HBD.out; omega)).trans hp'.symm
          have f2 : wrap64 (q + 1) = q' := (w64_in _ (by have := HBD.out; omega)).trans hq'.symm
          have HPP := Lib.hid (And.intro hp' hq')
          clear hp' hq'
          have HZ_wr := Lib.hid (show ∀ x', Below wr.heap.size wr x' → Below wr.heap.size wr x' ∧ x'.cell? ⟨R, 0, none⟩ = some (.int .i64 x) from fun x' hx => ⟨hx, (HI_wr.out.on hx).rs.cellAt (i := 0) (by simp)⟩)
          go_upto_region 21 with fail
          refine wp_region_class (C := fun v0 => Below wr.heap.size wr v0 ∧ v0.cell? ⟨R, 0, none⟩ = some (.int .i64 x)) (by kernel_rfl) (by kernel_rfl) (by first | exact HZ_wr.out _ (Below.refl _ _).drew | exact HZ_wr.out _ (Below.refl _ _).drew.drew) ?_
          repeat
            with_reducible refine wpQuiet_step (fun K hK => ?_)
            first
              | (refine quiet_skip (by rfl) ?_; (with_reducible refine hK _ ?_); clear hK K)
              | (refine quiet_want (by rfl) ?_
                 apply Exists.intro
                 refine ⟨fun x hx => ?_, hK _ ?_⟩
                 (obtain ⟨_, hx1⟩ := id hx; go_simp; first | done | rfl | ((go_at_call 23; exact (HR.out _ (HI_wr.out.on hx.1).es).mono fun y w' ⟨h1, h2⟩ => ⟨h1, HZ_wr.out _ (below_transG hx.1 h2)⟩)))
                 clear hK K)
            try simp only [Act.put, List.setIfInBounds_toArray, List.set_cons_zero, List.set_cons_succ]
          with_reducible refine wpQuiet_nil ?_
          intro wq hq
          have HI_w2 := Lib.hid (HI_wr.out.on hq.1)
          obtain ⟨w2, hw2⟩ : ∃ z, z = wq := ⟨_, rfl⟩
          rw [← hw2] at HI_w2 ⊢
          clear hw2 hq HZ_wr
          have HZ_w2 := Lib.hid (show ∀ x', Below w2.heap.size w2 x' → Below w2.heap.size w2 x' ∧ x'.cell? ⟨R, 0, none⟩ = some (.int .i64 x) from fun x' hx => ⟨hx, (HI_w2.out.on hx).rs.cellAt (i := 0) (by simp)⟩)
          have hc : (x ≤ M ∧ M ≤ x) ∨ (x ≤ M ∧ ¬ M ≤ x) ∨ (¬ x ≤ M ∧ M ≤ x) := by omega
          rcases hc with ⟨k1, k2⟩ | ⟨k1, k2⟩ | ⟨k1, k2⟩
          · have HK := Lib.hid (And.intro (leN_yes k1) (leN_yes k2))
            go_upto_region 23 with fail
            refine wp_region_class (C := fun v0 => Below w2.heap.size w2 v0 ∧ v0.cell? ⟨R, 0, none⟩ = some (.int .i64 x)) (by kernel_rfl) (by kernel_rfl) (by first | exact HZ_w2.out _ (Below.refl _ _).drew | exact HZ_w2.out _ (Below.refl _ _).drew.drew) ?_
            repeat
              with_reducible refine wpQuiet_step (fun K hK => ?_)
              first
                | (refine quiet_skip (by rfl) ?_; (with_reducible refine hK _ ?_); clear hK K)
                | (refine quiet_want (by rfl) ?_
                   apply Exists.intro
                   refine ⟨fun x hx => ?_, hK _ ?_⟩
                   (obtain ⟨_, hx1⟩ := id hx; go_simp; first | done | rfl | ((go_at_call 23; exact (HR.out _ (HI_w2.out.on hx.1).es).mono fun y w' ⟨h1, h2⟩ => ⟨h1, HZ_w2.out _ (below_transG hx.1 h2)⟩)))
                   clear hK K)
              try simp only [Act.put, List.setIfInBounds_toArray, List.set_cons_zero, List.set_cons_succ]
            with_reducible refine wpQuiet_nil ?_
            intro wq hq
            have HI5 := Lib.hid (HI_w2.out.on hq.1)
            clear hq HZ_w2
            go_wp2_with fail
            go_roundw
            case rel =>
              refine ⟨0 + 1, _, _, by first | rfl | simp, rfl, rfl, by decide, by have := HBD.out; have := HPP.out; omega, .inr (.inl ⟨rfl, ?_, ?_⟩), HI5.out⟩
              · have := HP.out; have := HPP.out; have := HK.out; omega
              · have := HQ.out; have := HPP.out; have := HK.out; omega
            case measure => simp [intOf]
          · have HK := Lib.hid (And.intro (leN_yes k1) (leN_no k2))
            go_upto_region 23 with fail
            refine wp_region_class (C := fun v0 => Below w2.heap.size w2 v0 ∧ v0.cell? ⟨R, 0, none⟩ = some (.int .i64 x)) (by kernel_rfl) (by kernel_rfl) (by first | exact HZ_w2.out _ (Below.refl _ _).drew | exact HZ_w2.out _ (Below.refl _ _).drew.drew) ?_
            repeat
              with_reducible refine wpQuiet_step (fun K hK => ?_)
              first
                | (refine quiet_skip (by rfl) ?_; (with_reducible refine hK _ ?_); clear hK K)
                | (refine quiet_want (by rfl) ?_
                   apply Exists.intro
                   refine ⟨fun x hx => ?_, hK _ ?_⟩
                   (obtain ⟨_, hx1⟩ := id hx; go_simp; first | done | rfl | ((go_at_call 23; exact (HR.out _ (HI_w2.out.on hx.1).es).mono fun y w' ⟨h1, h2⟩ => ⟨h1, HZ_w2.out _ (below_transG hx.1 h2)⟩)))
                   clear hK K)
              try simp only [Act.put, List.setIfInBounds_toArray, List.set_cons_zero, List.set_cons_succ]
            with_reducible refine wpQuiet_nil ?_
            intro wq hq
            have HI5 := Lib.hid (HI_w2.out.on hq.1)
            clear hq HZ_w2
            go_wp2_with fail
            go_roundw
            case rel =>
              refine ⟨0 + 1, _, _, by first | rfl | simp, rfl, rfl, by decide, by have := HBD.out; have := HPP.out; omega, .inr (.inl ⟨rfl, ?_, ?_⟩), HI5.out⟩
              · have := HP.out; have := HPP.out; have := HK.out; omega
              · have := HQ.out; have := HPP.out; have := HK.out; omega
            case measure => simp [intOf]
          · have HK := Lib.hid (And.intro (leN_no k1) (leN_yes k2))
            go_upto_region 23 with fail
            refine wp_region_class (C := fun v0 => Below w2.heap.size w2 v0 ∧ v0.cell? ⟨R, 0, none⟩ = some (.int .i64 x)) (by kernel_rfl) (by kernel_rfl) (by first | exact HZ_w2.out _ (Below.refl _ _).drew | exact HZ_w2.out _ (Below.refl _ _).drew.drew) ?_
            repeat
              with_reducible refine wpQuiet_step (fun K hK => ?_)
              first
                | (refine quiet_skip (by rfl) ?_; (with_reducible refine hK _ ?_); clear hK K)
                | (refine quiet_want (by rfl) ?_
                   apply Exists.intro
                   refine ⟨fun x hx => ?_, hK _ ?_⟩
                   (obtain ⟨_, hx1⟩ := id hx; go_simp; first | done | rfl | ((go_at_call 23; exact (HR.out _ (HI_w2.out.on hx.1).es).mono fun y w' ⟨h1, h2⟩ => ⟨h1, HZ_w2.out _ (below_transG hx.1 h2)⟩)))
                   clear hK K)
              try simp only [Act.put, List.setIfInBounds_toArray, List.set_cons_zero, List.set_cons_succ]
            with_reducible refine wpQuiet_nil ?_
            intro wq hq
            have HI5 := Lib.hid (HI_w2.out.on hq.1)
            clear hq HZ_w2
            go_wp2_with fail
            go_roundw
            case rel =>
              refine ⟨0 + 1, _, _, by first | rfl | simp, rfl, rfl, by decide, by have := HBD.out; have := HPP.out; omega, .inr (.inl ⟨rfl, ?_, ?_⟩), HI5.out⟩
              · have := HP.out; have := HPP.out; have := HK.out; omega
              · have := HQ.out; have := HPP.out; have := HK.out; omega
            case measure => simp [intOf]
        · have HP := Lib.hid hp; have HQ := Lib.hid hq'
          have HBD := Lib.hid (show 0 ≤ p ∧ p ≤ 1 ∧ 0 ≤ q ∧ q ≤ 1 by have b1 := leN_in x M; have b2 := leN_in M x; have b3 := leN_in y M; have b4 := leN_in M y; omega)
          clear hp hq'
          obtain ⟨p', hp'⟩ : ∃ z, z = p + 1 := ⟨_, rfl⟩
          obtain ⟨q', hq'⟩ : ∃ z, z = q + 1 := ⟨_, rfl⟩
          have f1 : wrap64 (p + 1) = p' := (w64_in _ (by have := HBD.out; omega)).trans hp'.symm
          have f2 : wrap64 (q + 1) = q' := (w64_in _ (by have := HBD.out; omega)).trans hq'.symm
          have HPP := Lib.hid (And.intro hp' hq')
          clear hp' hq'
          have HZ_wr := Lib.hid (show ∀ x', Below wr.heap.size wr x' → Below wr.heap.size wr x' ∧ x'.cell? ⟨R, 1, none⟩ = some (.int .i64 y) from fun x' hx => ⟨hx, (HI_wr.out.on hx).rs.cellAt (i := 1) (by simp)⟩)
          go_upto_region 21 with fail
          refine wp_region_class (C := fun v0 => Below wr.heap.size wr v0 ∧ v0.cell? ⟨R, 1, none⟩ = some (.int .i64 y)) (by kernel_rfl) (by kernel_rfl) (by first | exact HZ_wr.out _ (Below.refl _ _).drew | exact HZ_wr.out _ (Below.refl _ _).drew.drew) ?_
          repeat
            with_reducible refine wpQuiet_step (fun K hK => ?_)
            first
              | (refine quiet_skip (by rfl) ?_; (with_reducible refine hK _ ?_); clear hK K)
              | (refine quiet_want (by rfl) ?_
                 apply Exists.intro
                 refine ⟨fun x hx => ?_, hK _ ?_⟩
                 (obtain ⟨_, hx1⟩ := id hx; go_simp; first | done | rfl | ((go_at_call 23; exact (HR.out _ (HI_wr.out.on hx.1).es).mono fun y w' ⟨h1, h2⟩ => ⟨h1, HZ_wr.out _ (below_transG hx.1 h2)⟩)))
                 clear hK K)
            try simp only [Act.put, List.setIfInBounds_toArray, List.set_cons_zero, List.set_cons_succ]
          with_reducible refine wpQuiet_nil ?_
          intro wq hq
          have HI_w2 := Lib.hid (HI_wr.out.on hq.1)
          obtain ⟨w2, hw2⟩ : ∃ z, z = wq := ⟨_, rfl⟩
          rw [← hw2] at HI_w2 ⊢
          clear hw2 hq HZ_wr
          have HZ_w2 := Lib.hid (show ∀ x', Below w2.heap.size w2 x' → Below w2.heap.size w2 x' ∧ x'.cell? ⟨R, 1, none⟩ = some (.int .i64 y) from fun x' hx => ⟨hx, (HI_w2.out.on hx).rs.cellAt (i := 1) (by simp)⟩)
          have hc : (y ≤ M ∧ M ≤ y) ∨ (y ≤ M ∧ ¬ M ≤ y) ∨ (¬ y ≤ M ∧ M ≤ y) := by omega
          rcases hc with ⟨k1, k2⟩ | ⟨k1, k2⟩ | ⟨k1, k2⟩
          · have HK := Lib.hid (And.intro (leN_yes k1) (leN_yes k2))
            go_upto_region 23 with fail
            refine wp_region_class (C := fun v0 => Below w2.heap.size w2 v0 ∧ v0.cell? ⟨R, 1, none⟩ = some (.int .i64 y)) (by kernel_rfl) (by kernel_rfl) (by first | exact HZ_w2.out _ (Below.refl _ _).drew | exact HZ_w2.out _ (Below.refl _ _).drew.drew) ?_
            repeat
              with_reducible refine wpQuiet_step (fun K hK => ?_)
              first
                | (refine quiet_skip (by rfl) ?_; (with_reducible refine hK _ ?_); clear hK K)
                | (refine quiet_want (by rfl) ?_
                   apply Exists.intro
                   refine ⟨fun x hx => ?_, hK _ ?_⟩
                   (obtain ⟨_, hx1⟩ := id hx; go_simp; first | done | rfl | ((go_at_call 23; exact (HR.out _ (HI_w2.out.on hx.1).es).mono fun y w' ⟨h1, h2⟩ => ⟨h1, HZ_w2.out _ (below_transG hx.1 h2)⟩)))
                   clear hK K)
              try simp only [Act.put, List.setIfInBounds_toArray, List.set_cons_zero, List.set_cons_succ]
            with_reducible refine wpQuiet_nil ?_
            intro wq hq
            have HI5 := Lib.hid (HI_w2.out.on hq.1)
            clear hq HZ_w2
            go_wp2_with fail
            go_roundw
            case rel =>
              refine ⟨1 + 1, _, _, by first | rfl | simp, rfl, rfl, by decide, by have := HBD.out; have := HPP.out; omega, .inr (.inr (.inl ⟨rfl, ?_, ?_⟩)), HI5.out⟩
              · have := HP.out; have := HPP.out; have := HK.out; omega
              · have := HQ.out; have := HPP.out; have := HK.out; omega
            case measure => simp [intOf]
          · have HK := Lib.hid (And.intro (leN_yes k1) (leN_no k2))
            go_upto_region 23 with fail
            refine wp_region_class (C := fun v0 => Below w2.heap.size w2 v0 ∧ v0.cell? ⟨R, 1, none⟩ = some (.int .i64 y)) (by kernel_rfl) (by kernel_rfl) (by first | exact HZ_w2.out _ (Below.refl _ _).drew | exact HZ_w2.out _ (Below.refl _ _).drew.drew) ?_
            repeat
              with_reducible refine wpQuiet_step (fun K hK => ?_)
              first
                | (refine quiet_skip (by rfl) ?_; (with_reducible refine hK _ ?_); clear hK K)
                | (refine quiet_want (by rfl) ?_
                   apply Exists.intro
                   refine ⟨fun x hx => ?_, hK _ ?_⟩
                   (obtain ⟨_, hx1⟩ := id hx; go_simp; first | done | rfl | ((go_at_call 23; exact (HR.out _ (HI_w2.out.on hx.1).es).mono fun y w' ⟨h1, h2⟩ => ⟨h1, HZ_w2.out _ (below_transG hx.1 h2)⟩)))
                   clear hK K)
              try simp only [Act.put, List.setIfInBounds_toArray, List.set_cons_zero, List.set_cons_succ]
            with_reducible refine wpQuiet_nil ?_
            intro wq hq
            have HI5 := Lib.hid (HI_w2.out.on hq.1)
            clear hq HZ_w2
            go_wp2_with fail
            go_roundw
            case rel =>
              refine ⟨1 + 1, _, _, by first | rfl | simp, rfl, rfl, by decide, by have := HBD.out; have := HPP.out; omega, .inr (.inr (.inl ⟨rfl, ?_, ?_⟩)), HI5.out⟩
              · have := HP.out; have := HPP.out; have := HK.out; omega
              · have := HQ.out; have := HPP.out; have := HK.out; omega
            case measure => simp [intOf]
          · have HK := Lib.hid (And.intro (leN_no k1) (leN_yes k2))
            go_upto_region 23 with fail
            refine wp_region_class (C := fun v0 => Below w2.heap.size w2 v0 ∧ v0.cell? ⟨R, 1, none⟩ = some (.int .i64 y)) (by kernel_rfl) (by kernel_rfl) (by first | exact HZ_w2.out _ (Below.refl _ _).drew | exact HZ_w2.out _ (Below.refl _ _).drew.drew) ?_
            repeat
              with_reducible refine wpQuiet_step (fun K hK => ?_)
              first
                | (refine quiet_skip (by rfl) ?_; (with_reducible refine hK _ ?_); clear hK K)
                | (refine quiet_want (by rfl) ?_
                   apply Exists.intro
                   refine ⟨fun x hx => ?_, hK _ ?_⟩
                   (obtain ⟨_, hx1⟩ := id hx; go_simp; first | done | rfl | ((go_at_call 23; exact (HR.out _ (HI_w2.out.on hx.1).es).mono fun y w' ⟨h1, h2⟩ => ⟨h1, HZ_w2.out _ (below_transG hx.1 h2)⟩)))
                   clear hK K)
              try simp only [Act.put, List.setIfInBounds_toArray, List.set_cons_zero, List.set_cons_succ]
            with_reducible refine wpQuiet_nil ?_
            intro wq hq
            have HI5 := Lib.hid (HI_w2.out.on hq.1)
            clear hq HZ_w2
            go_wp2_with fail
            go_roundw
            case rel =>
              refine ⟨1 + 1, _, _, by first | rfl | simp, rfl, rfl, by decide, by have := HBD.out; have := HPP.out; omega, .inr (.inr (.inl ⟨rfl, ?_, ?_⟩)), HI5.out⟩
              · have := HP.out; have := HPP.out; have := HK.out; omega
              · have := HQ.out; have := HPP.out; have := HK.out; omega
            case measure => simp [intOf]
        · have HP := Lib.hid hp; have HQ := Lib.hid hq'
          have HBD := Lib.hid (show 0 ≤ p ∧ p ≤ 2 ∧ 0 ≤ q ∧ q ≤ 2 by have b1 := leN_in x M; have b2 := leN_in M x; have b3 := leN_in y M; have b4 := leN_in M y; omega)
          clear hp hq'
          obtain ⟨p', hp'⟩ : ∃ z, z = p + 1 := ⟨_, rfl⟩
          obtain ⟨q', hq'⟩ : ∃ z, z = q + 1 := ⟨_, rfl⟩
          have f1 : wrap64 (p + 1) = p' := (w64_in _ (by have := HBD.out; omega)).trans hp'.symm
          have f2 : wrap64 (q + 1) = q' := (w64_in _ (by have := HBD.out; omega)).trans hq'.symm
          have HPP := Lib.hid (And.intro hp' hq')
          clear hp' hq'
          have HZ_wr := Lib.hid (show ∀ x', Below wr.heap.size wr x' → Below wr.heap.size wr x' ∧ x'.cell? ⟨R, 2, none⟩ = some (.int .i64 z) from fun x' hx => ⟨hx, (HI_wr.out.on hx).rs.cellAt (i := 2) (by simp)⟩)
          go_upto_region 21 with fail
          refine wp_region_class (C := fun v0 => Below wr.heap.size wr v0 ∧ v0.cell? ⟨R, 2, none⟩ = some (.int .i64 z)) (by kernel_rfl) (by kernel_rfl) (by first | exact HZ_wr.out _ (Below.refl _ _).drew | exact HZ_wr.out _ (Below.refl _ _).drew.drew) ?_
          repeat
            with_reducible refine wpQuiet_step (fun K hK => ?_)
            first
              | (refine quiet_skip (by rfl) ?_; (with_reducible refine hK _ ?_); clear hK K)
              | (refine quiet_want (by rfl) ?_
                 apply Exists.intro
                 refine ⟨fun x hx => ?_, hK _ ?_⟩
                 (obtain ⟨_, hx1⟩ := id hx; go_simp; first | done | rfl | ((go_at_call 23; exact (HR.out _ (HI_wr.out.on hx.1).es).mono fun y w' ⟨h1, h2⟩ => ⟨h1, HZ_wr.out _ (below_transG hx.1 h2)⟩)))
                 clear hK K)
            try simp only [Act.put, List.setIfInBounds_toArray, List.set_cons_zero, List.set_cons_succ]
          with_reducible refine wpQuiet_nil ?_
          intro wq hq
          have HI_w2 := Lib.hid (HI_wr.out.on hq.1)
          obtain ⟨w2, hw2⟩ : ∃ z, z = wq := ⟨_, rfl⟩
          rw [← hw2] at HI_w2 ⊢
          clear hw2 hq HZ_wr
          have HZ_w2 := Lib.hid (show ∀ x', Below w2.heap.size w2 x' → Below w2.heap.size w2 x' ∧ x'.cell? ⟨R, 2, none⟩ = some (.int .i64 z) from fun x' hx => ⟨hx, (HI_w2.out.on hx).rs.cellAt (i := 2) (by simp)⟩)
          have hc : (z ≤ M ∧ M ≤ z) ∨ (z ≤ M ∧ ¬ M ≤ z) ∨ (¬ z ≤ M ∧ M ≤ z) := by omega
          rcases hc with ⟨k1, k2⟩ | ⟨k1, k2⟩ | ⟨k1, k2⟩
          · have HK := Lib.hid (And.intro (leN_yes k1) (leN_yes k2))
            go_upto_region 23 with fail
            refine wp_region_class (C := fun v0 => Below w2.heap.size w2 v0 ∧ v0.cell? ⟨R, 2, none⟩ = some (.int .i64 z)) (by kernel_rfl) (by kernel_rfl) (by first | exact HZ_w2.out _ (Below.refl _ _).drew | exact HZ_w2.out _ (Below.refl _ _).drew.drew) ?_
            repeat
              with_reducible refine wpQuiet_step (fun K hK => ?_)
              first
                | (refine quiet_skip (by rfl) ?_; (with_reducible refine hK _ ?_); clear hK K)
                | (refine quiet_want (by rfl) ?_
                   apply Exists.intro
                   refine ⟨fun x hx => ?_, hK _ ?_⟩
                   (obtain ⟨_, hx1⟩ := id hx; go_simp; first | done | rfl | ((go_at_call 23; exact (HR.out _ (HI_w2.out.on hx.1).es).mono fun y w' ⟨h1, h2⟩ => ⟨h1, HZ_w2.out _ (below_transG hx.1 h2)⟩)))
                   clear hK K)
              try simp only [Act.put, List.setIfInBounds_toArray, List.set_cons_zero, List.set_cons_succ]
            with_reducible refine wpQuiet_nil ?_
            intro wq hq
            have HI5 := Lib.hid (HI_w2.out.on hq.1)
            clear hq HZ_w2
            go_wp2_with fail
            go_roundw
            case rel =>
              refine ⟨2 + 1, _, _, by first | rfl | simp, rfl, rfl, by decide, by have := HBD.out; have := HPP.out; omega, .inr (.inr (.inr ⟨rfl, ?_, ?_⟩)), HI5.out⟩
              · have := HP.out; have := HPP.out; have := HK.out; omega
              · have := HQ.out; have := HPP.out; have := HK.out; omega
            case measure => simp [intOf]
          · have HK := Lib.hid (And.intro (leN_yes k1) (leN_no k2))
            go_upto_region 23 with fail
            refine wp_region_class (C := fun v0 => Below w2.heap.size w2 v0 ∧ v0.cell? ⟨R, 2, none⟩ = some (.int .i64 z)) (by kernel_rfl) (by kernel_rfl) (by first | exact HZ_w2.out _ (Below.refl _ _).drew | exact HZ_w2.out _ (Below.refl _ _).drew.drew) ?_
            repeat
              with_reducible refine wpQuiet_step (fun K hK => ?_)
              first
                | (refine quiet_skip (by rfl) ?_; (with_reducible refine hK _ ?_); clear hK K)
                | (refine quiet_want (by rfl) ?_
                   apply Exists.intro
                   refine ⟨fun x hx => ?_, hK _ ?_⟩
                   (obtain ⟨_, hx1⟩ := id hx; go_simp; first | done | rfl | ((go_at_call 23; exact (HR.out _ (HI_w2.out.on hx.1).es).mono fun y w' ⟨h1, h2⟩ => ⟨h1, HZ_w2.out _ (below_transG hx.1 h2)⟩)))
                   clear hK K)
              try simp only [Act.put, List.setIfInBounds_toArray, List.set_cons_zero, List.set_cons_succ]
            with_reducible refine wpQuiet_nil ?_
            intro wq hq
            have HI5 := Lib.hid (HI_w2.out.on hq.1)
            clear hq HZ_w2
            go_wp2_with fail
            go_roundw
            case rel =>
              refine ⟨2 + 1, _, _, by first | rfl | simp, rfl, rfl, by decide, by have := HBD.out; have := HPP.out; omega, .inr (.inr (.inr ⟨rfl, ?_, ?_⟩)), HI5.out⟩
              · have := HP.out; have := HPP.out; have := HK.out; omega
              · have := HQ.out; have := HPP.out; have := HK.out; omega
            case measure => simp [intOf]
          · have HK := Lib.hid (And.intro (leN_no k1) (leN_yes k2))
            go_upto_region 23 with fail
            refine wp_region_class (C := fun v0 => Below w2.heap.size w2 v0 ∧ v0.cell? ⟨R, 2, none⟩ = some (.int .i64 z)) (by kernel_rfl) (by kernel_rfl) (by first | exact HZ_w2.out _ (Below.refl _ _).drew | exact HZ_w2.out _ (Below.refl _ _).drew.drew) ?_
            repeat
              with_reducible refine wpQuiet_step (fun K hK => ?_)
              first
                | (refine quiet_skip (by rfl) ?_; (with_reducible refine hK _ ?_); clear hK K)
                | (refine quiet_want (by rfl) ?_
                   apply Exists.intro
                   refine ⟨fun x hx => ?_, hK _ ?_⟩
                   (obtain ⟨_, hx1⟩ := id hx; go_simp; first | done | rfl | ((go_at_call 23; exact (HR.out _ (HI_w2.out.on hx.1).es).mono fun y w' ⟨h1, h2⟩ => ⟨h1, HZ_w2.out _ (below_transG hx.1 h2)⟩)))
                   clear hK K)
              try simp only [Act.put, List.setIfInBounds_toArray, List.set_cons_zero, List.set_cons_succ]
            with_reducible refine wpQuiet_nil ?_
            intro wq hq
            have HI5 := Lib.hid (HI_w2.out.on hq.1)
            clear hq HZ_w2
            go_wp2_with fail
            go_roundw
            case rel =>
              refine ⟨2 + 1, _, _, by first | rfl | simp, rfl, rfl, by decide, by have := HBD.out; have := HPP.out; omega, .inr (.inr (.inr ⟨rfl, ?_, ?_⟩)), HI5.out⟩
              · have := HP.out; have := HPP.out; have := HK.out; omega
              · have := HQ.out; have := HPP.out; have := HK.out; omega
            case measure => simp [intOf]
        · have k1 : (2 : Int) ≤ p := by rw [hp]; exact HMID.out.1
          have k2 : (2 : Int) ≤ q := by rw [hq']; exact HMID.out.2
          clear hp hq'
          go_wp2_with fail
          refine (live18 _).mono ?_
          rintro y9 w9 ⟨rfl, hb⟩
          have HB9 := Lib.hid (below_transG HI_wr.out.below hb)
          clear hb
          go_wp2_with fail
          go_ret
          exact ⟨rfl, HB9.out⟩
set_option maxRecDepth 100000 in
theorem lifted (os : Os) (started : os.Started) (H : Type) (enc : TypeId × Value → H) :
    ReturnsInHanded {} Try.checked os 7 .any (Rows.rateMiddleSpec.pre6 enc Try.prog Try.f7 Rows.rateMiddleRow.domain false) (Rows.rateMiddleSpec.post enc Try.prog Try.f7 false true false false) := by
  refine returnsInHanded_of_change (C := Try.checked) own started (by kernel_rfl) Try.func7
    (ChangeSpec.witness6 (enc := enc) (C := Try.checked) false ⟨#[], #[.agg #[.int .u16 0, .int .u16 0, .int .u16 0]], []⟩ 8 (by kernel_rfl) (by kernel_rfl) (by kernel_rfl) (by kernel_rfl)) ?_
  intro W base args ds gs before hval0 hW _ _
  have hval : ∀ (j : Nat) t v, Try.f7.params[j]? = some t → args[j]? = some v → Value.okWide Try.prog W .any base t v := hval0
  have hW' := hW
  obtain ⟨p, q, hA0, hV, rfl, hfz, hnd⟩ := hW
  have hA : DataW.TrodAll enc Try.prog W 0 (fun _ => true) true Try.f7.params.toList args.toList ds p := hA0
  rw [Try.params7] at hA hval
  obtain ⟨v0, vs0, d0, ds0, p0, q0, hargs, rfl, rfl, h0, r0⟩ := trodAll_cons hA
  obtain ⟨rfl, rfl, rfl⟩ := trodAll_nil r0
  obtain rfl : args = #[v0] := by cases args; simp_all
  obtain ⟨rfl, rfl⟩ := trodVars_none hV
  have k0 := h0
  have lt0 : ∀ x ∈ p0, x.block < W.heap.size := by obtain ⟨m, hm⟩ := k0; exact DataW.trod_lt m _ _ _ hm
  obtain ⟨xa0, xb0, xc0, rfl, wa0, wb0, wc0⟩ := open_arr3 Try.underlying53 Try.underlying47 (by kernel_rfl) (by kernel_rfl) (hval 0 53 v0 rfl rfl) h0
  clear hA0 hval0
  refine (walk xa0 xb0 xc0 wa0 wb0 wc0 W).mono fun e W' ⟨he, bel⟩ => ?_
  subst he
  exact ⟨_, rfl, _, _, _, [], _, [], hW', trodAll_mk1 (shut_bool Try.underlying4 _), (trodAll_cons_mk (Below.trod laidOut (by kernel_rfl) (of_decide_eq_true (by kernel_rfl)) k0 bel lt0) trodAll_mk0), rfl, bel.frame _, fun h => by cases h⟩
theorem over : Rows.rateMiddleRow.holds Try.pinned (OpenSpec.ofChange Rows.rateMiddleSpec) :=
  OpenClaim.holds_of_wide 7 Try.f7 rfl rfl rfl rfl rfl rfl rfl ⟨rfl, rfl, rfl, rfl, rfl⟩ rfl rfl rfl rfl rfl (by kernel_rfl) Try.func7 (by kernel_rfl)
    (of_decide_eq_true (by kernel_rfl)) (by unfold Func.isWrapper; first | (rw [if_pos (by decide +kernel)]; kernel_rfl) | (rw [if_neg (by decide +kernel)]; exact ⟨rfl, rfl⟩))
    (fun os started H enc _ => lifted os started H enc)
/-- The statement. -/
theorem proved : Rows.RateMiddleSaid := over
end Go.Proofs.Ytffcadobdimdoaa.rateMiddle
