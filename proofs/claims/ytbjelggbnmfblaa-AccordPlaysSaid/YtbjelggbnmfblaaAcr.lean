/- The document's own pair of layer 19 in the memory. Conditions: each theorem says its own. -/
import Derived.Test.YtbjelggbnmfblaaAcn
import Derived.Test.YtbjelggbnmfblaaCkb
import Derived.Test.YtbjelggbnmfblaaOsb
import Derived.Test.YtbjelggbnmfblaaQui
namespace Go.Proofs.Ytbjelggbnmfblaa
open Go.RowKit
/-- The blocks of such a pair. -/
def RPS (B mo so km ks : Nat) : Nat → Prop := fun j => j = B ∨ j = mo ∨ j = so ∨ j = km ∨ j = ks
/-- What a call may change that writes to such blocks alone. -/
structure Fp (S : Nat → Prop) (w w' : World) : Prop where
  os : w'.os = w.os
  tape : w'.tape = w.tape
  output : w'.output = w.output
  size : w.heap.size ≤ w'.heap.size
  block : ∀ k, k < w.heap.size → ¬ S k → w'.heap[k]? = w.heap[k]?
theorem Fp.of_below {S : Nat → Prop} {w w' : World} (h : Below w.heap.size w w') : Fp S w w' := ⟨h.os, h.tape, h.output, h.size, fun k hk _ => h.block k hk⟩
theorem Fp.of_kp {S : Nat → Prop} {B : Nat} {w w' : World} (h : Kp B (.slice none 0 0) w w') (hB : S B) : Fp S w w' := ⟨h.os, h.tape, h.output, h.size, fun k hk hS => h.block k hk (fun e => hS (e ▸ hB)) (fun e => by cases e)⟩
theorem Fp.trans {S : Nat → Prop} {w u x : World} (h : Fp S w u) (h2 : Fp S u x) : Fp S w x :=
  ⟨h2.os.trans h.os, h2.tape.trans h.tape, h2.output.trans h.output, Nat.le_trans h.size h2.size, fun k hk hS => (h2.block k (Nat.lt_of_lt_of_le hk h.size) hS).trans (h.block k hk hS)⟩
theorem Fp.step {S : Nat → Prop} {w u x : World} (h : Fp S w u) (h2 : Below u.heap.size u x) : Fp S w x := h.trans (Fp.of_below h2)
theorem Fp.byKp {S : Nat → Prop} {B : Nat} {w u x : World} (h : Fp S w u) (h2 : Kp B (.slice none 0 0) u x) (hB : S B) : Fp S w x := h.trans (Fp.of_kp h2 hB)
theorem Fp.byKpN {S : Nat → Prop} {B : Nat} {w u x : World} (h : Fp S w u) (h2 : Kp B (.slice none 0 0) u x) (hB : w.heap.size ≤ B) : Fp S w x :=
  ⟨h2.os.trans h.os, h2.tape.trans h.tape, h2.output.trans h.output, Nat.le_trans h.size h2.size, fun k hk hS => (h2.block k (Nat.lt_of_lt_of_le hk h.size) (by omega) (fun e => by cases e)).trans (h.block k hk hS)⟩
theorem Fp.below {S : Nat → Prop} {N : Nat} {w u : World} (h : Fp S w u) (hS : ∀ k, S k → N ≤ k) (hN : N ≤ w.heap.size) : Below N w u := ⟨h.os, h.tape, h.output, h.size, fun k hk => h.block k (by omega) (fun e => by have := hS k e; omega)⟩
structure RP (W : World) (B : Nat) (s : PD) (mo so km ks : Nat) (mine its at_ si : Int) : Prop where
  blk : Blk W B 112 [.int .i64 s.n, .int .i64 s.d, .int .i64 s.tu, .pointer (some ⟨mo, 0, none⟩), .pointer (some ⟨so, 0, none⟩), .pointer (some ⟨km, 0, none⟩), .pointer (some ⟨ks, 0, none⟩), .int .i64 s.bi, .bool s.no.isSome, .int .i64 mine, .int .i64 its, .int .i64 at_, .bool s.ap.isSome, .int .i64 si, .bool s.se]
  hmo : OS W 218 mo s.n s.d s.mc s.mu
  hso : OS W 218 so s.n s.d s.sc s.su
  hkm : CK W 108 km s.c s.v s.r s.t
  hks : CK W 108 ks s.c2 s.v2 s.r2 s.t2
  ne : (B ≠ mo ∧ B ≠ so ∧ B ≠ km ∧ B ≠ ks) ∧ (mo ≠ so ∧ mo ≠ km ∧ mo ≠ ks) ∧ (so ≠ km ∧ so ≠ ks) ∧ km ≠ ks
  nx : ∀ x b, s.no = some (x, b) → its - mine = x ∧ at_ = b ∧ (-1152921504606846976 ≤ its ∧ its ≤ 1152921504606846976) ∧ (-1152921504606846976 ≤ mine ∧ mine ≤ 1152921504606846976)
  ax : ∀ x b, s.ap = some (x, b) → si = b
variable {W X : World} {B : Nat} {s : PD} {mo so km ks : Nat} {mine its at_ si : Int}
theorem RP.moved (h : RP W B s mo so km ks mine its at_ si) (hb : ∀ j, RPS B mo so km ks j → X.heap[j]? = W.heap[j]?) : RP X B s mo so km ks mine its at_ si :=
  ⟨h.blk.on (hb _ (.inl rfl)), h.hmo.moved (hb _ (.inr (.inl rfl))), h.hso.moved (hb _ (.inr (.inr (.inl rfl)))), h.hkm.moved (hb _ (.inr (.inr (.inr (.inl rfl))))), h.hks.moved (hb _ (.inr (.inr (.inr (.inr rfl))))), h.ne, h.nx, h.ax⟩
theorem RP.lt (h : RP W B s mo so km ks mine its at_ si) {j : Nat} (hj : RPS B mo so km ks j) : j < W.heap.size := by
  rcases hj with rfl | rfl | rfl | rfl | rfl
  · exact h.blk.lt
  · exact h.hmo.lt
  · exact h.hso.lt
  · exact h.hkm.lt
  · exact h.hks.lt
theorem RP.on (h : RP W B s mo so km ks mine its at_ si) (hb : Below W.heap.size W X) : RP X B s mo so km ks mine its at_ si := h.moved (fun j hj => hb.block j (h.lt hj))
theorem RP.byKp (h : RP W B s mo so km ks mine its at_ si) {C : Nat} (hk : Kp C (.slice none 0 0) W X) (hC : ¬ RPS B mo so km ks C) : RP X B s mo so km ks mine its at_ si := h.moved (fun j hj => hk.block j (h.lt hj) (fun e => hC (e ▸ hj)) (fun e => by cases e))
theorem OS.byK {T : TypeId} {B C : Nat} {n d c : Int} {u : Bool} (h : OS W T B n d c u) (hne : B ≠ C) (hk : Kp C (.slice none 0 0) W X) : OS X T B n d c u := h.moved (hk.block B h.lt hne (fun e => by cases e))
theorem Blk.byK {T : TypeId} {B C : Nat} {l : List Value} (h : Blk W B T l) (hne : B ≠ C) (hk : Kp C (.slice none 0 0) W X) : Blk X B T l := h.on (hk.block B h.lt hne (fun e => by cases e))
theorem RP.byMo (h : RP W B s mo so km ks mine its at_ si) {c : Int} {u : Bool} (h1 : OS X 218 mo s.n s.d c u) (hk : Kp mo (.slice none 0 0) W X) : RP X B { s with mc := c, mu := u } mo so km ks mine its at_ si :=
  ⟨h.blk.byK h.ne.1.1 hk, h1, h.hso.byK (Ne.symm h.ne.2.1.1) hk, h.hkm.byK (Ne.symm h.ne.2.1.2.1) hk, h.hks.byK (Ne.symm h.ne.2.1.2.2) hk, h.ne, h.nx, h.ax⟩
theorem RP.bySo (h : RP W B s mo so km ks mine its at_ si) {c : Int} {u : Bool} (h1 : OS X 218 so s.n s.d c u) (hk : Kp so (.slice none 0 0) W X) : RP X B { s with sc := c, su := u } mo so km ks mine its at_ si :=
  ⟨h.blk.byK h.ne.1.2.1 hk, h.hmo.byK h.ne.2.1.1 hk, h1, h.hkm.byK (Ne.symm h.ne.2.2.1.1) hk, h.hks.byK (Ne.symm h.ne.2.2.1.2) hk, h.ne, h.nx, h.ax⟩
theorem RP.byMk (h : RP W B s mo so km ks mine its at_ si) {c v r q : Int} (h1 : CK X 108 km c v r q) (hk : Kp km (.slice none 0 0) W X) : RP X B { s with c := c, v := v, r := r, t := q } mo so km ks mine its at_ si :=
  ⟨h.blk.byK h.ne.1.2.2.1 hk, h.hmo.byK h.ne.2.1.2.1 hk, h.hso.byK h.ne.2.2.1.1 hk, h1, h.hks.byK (Ne.symm h.ne.2.2.2) hk, h.ne, h.nx, h.ax⟩
theorem RP.bySk (h : RP W B s mo so km ks mine its at_ si) {c v r q : Int} (h1 : CK X 108 ks c v r q) (hk : Kp ks (.slice none 0 0) W X) : RP X B { s with c2 := c, v2 := v, r2 := r, t2 := q } mo so km ks mine its at_ si :=
  ⟨h.blk.byK h.ne.1.2.2.2 hk, h.hmo.byK h.ne.2.1.2.2 hk, h.hso.byK h.ne.2.2.1.2 hk, h.hkm.byK h.ne.2.2.2 hk, h1, h.ne, h.nx, h.ax⟩
/-- The pair's own block is written. -/
theorem RP.byB (h : RP W B s mo so km ks mine its at_ si) {bi : Int} {no ap : Option (Int × Int)} {se : Bool} {mine' its' at' si' : Int} (h1 : Blk X B 112 [.int .i64 s.n, .int .i64 s.d, .int .i64 s.tu, .pointer (some ⟨mo, 0, none⟩), .pointer (some ⟨so, 0, none⟩), .pointer (some ⟨km, 0, none⟩), .pointer (some ⟨ks, 0, none⟩), .int .i64 bi, .bool no.isSome, .int .i64 mine', .int .i64 its', .int .i64 at', .bool ap.isSome, .int .i64 si', .bool se]) (hk : Kp B (.slice none 0 0) W X)
    (hn : ∀ x b, no = some (x, b) → its' - mine' = x ∧ at' = b ∧ (-1152921504606846976 ≤ its' ∧ its' ≤ 1152921504606846976) ∧ (-1152921504606846976 ≤ mine' ∧ mine' ≤ 1152921504606846976)) (ha : ∀ x b, ap = some (x, b) → si' = b) : RP X B { s with bi := bi, no := no, ap := ap, se := se } mo so km ks mine' its' at' si' :=
  ⟨h1, h.hmo.byK (Ne.symm h.ne.1.1) hk, h.hso.byK (Ne.symm h.ne.1.2.1) hk, h.hkm.byK (Ne.symm h.ne.1.2.2.1) hk, h.hks.byK (Ne.symm h.ne.1.2.2.2) hk, h.ne, hn, ha⟩
set_option maxRecDepth 100000 in
theorem rp_gap (h : RP W B s mo so km ks mine its at_ si) (hg : -9223372036854775808 ≤ s.gap ∧ s.gap ≤ 9223372036854775807) : Calls Try.prog 56 #[.pointer (some ⟨B, 0, none⟩)] W fun y w' => y = .returned (.int .i64 s.gap) ∧ Below W.heap.size W w' := by
  have HB := Lib.hid h.blk
  have HAX := Lib.hid h.ax
  obtain ⟨G, hG⟩ : ∃ G, G = s.gap := ⟨_, rfl⟩
  rw [← hG] at hg ⊢
  unfold PD.gap at hG
  have h12 := h.blk.cellAt (i := 12) (by simp); have h7 := h.blk.cellAt (i := 7) (by simp); have h13 := h.blk.cellAt (i := 13) (by simp)
  simp only [List.getElem_cons_succ, List.getElem_cons_zero] at h12 h7 h13
  cases e : s.ap with
  | none =>
    rw [e] at h12 hG
    simp only [Option.isSome_none] at h12 hG
    subst hG
    clear h e hg
    go_enter Try.func56, Try.ntmps56
    go_wp2_with fail
    go_ret
    exact ⟨rfl, Below.refl _ _⟩
  | some q =>
    obtain ⟨x, b⟩ := q
    have hs := HAX.out x b e
    rw [e] at h12 hG
    simp only [Option.isSome_some] at h12 hG
    have hw : IntKind.i64.wrap (s.bi - si) = G := by rw [hs, hG, IntKind.wrap_i64]; omega
    clear h e hg hG hs
    go_enter Try.func56, Try.ntmps56
    go_upto_region 3 with fail
    refine wp_region_class (C := fun u => Below W.heap.size W u ∧ u.cell? ⟨B, 7, none⟩ = some (.int .i64 s.bi) ∧ u.cell? ⟨B, 13, none⟩ = some (.int .i64 si)) (by kernel_rfl) (by kernel_rfl) (⟨(Below.refl _ _).drew, h7, h13⟩) ?_
    repeat
      with_reducible refine wpQuiet_step (fun K hK => ?_)
      first
        | (refine quiet_skip (by rfl) ?_; (with_reducible refine hK _ ?_); clear hK K)
        | (refine quiet_want (by rfl) ?_
           apply Exists.intro
           refine ⟨fun x hx => ?_, hK _ ?_⟩
           (obtain ⟨_, hx1, hx2⟩ := id hx; go_simp; first | done | rfl | (fail))
           clear hK K)
      try simp only [Act.put, List.setIfInBounds_toArray, List.set_cons_zero, List.set_cons_succ]
    with_reducible refine wpQuiet_nil ?_
    intro wq hq
    have HQ := Lib.hid hq.1
    clear hq
    go_wp2_with fail
    go_ret
    exact ⟨rfl, HQ.out⟩
theorem rp_gap_nil (w : World) : Calls Try.prog 56 #[.pointer none] w fun y w' => y = .returned (.int .i64 0) ∧ w = w' := by
  go_enter Try.func56, Try.ntmps56
  go_wp2_with fail
  go_ret
  exact ⟨rfl, rfl⟩
end Go.Proofs.Ytbjelggbnmfblaa
