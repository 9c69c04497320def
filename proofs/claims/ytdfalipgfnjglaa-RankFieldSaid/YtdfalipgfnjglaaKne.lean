/- Package rank: a field in the memory: who is there, who tells its turn, who is master. Conditions: each theorem says its own. -/
import Derived.Test.YtdfalipgfnjglaaKnc
namespace Go.Proofs.Ytdfalipgfnjglaa
open Go.RowKit
/-- What a call may change that writes to the blocks of S alone: the rest is as it was. -/
structure Fo (S : Nat → Prop) (w w' : World) : Prop where
  os : w'.os = w.os
  tape : w'.tape = w.tape
  output : w'.output = w.output
  size : w.heap.size ≤ w'.heap.size
  block : ∀ k, k < w.heap.size → ¬ S k → w'.heap[k]? = w.heap[k]?
theorem Fo.of_below {S : Nat → Prop} {w w' : World} (h : Below w.heap.size w w') : Fo S w w' := ⟨h.os, h.tape, h.output, h.size, fun k hk _ => h.block k hk⟩
theorem Fo.of_kp {S : Nat → Prop} {B : Nat} {w w' : World} (h : Kp B (.slice none 0 0) w w') (hB : S B) : Fo S w w' := ⟨h.os, h.tape, h.output, h.size, fun k hk hS => h.block k hk (fun e => hS (e ▸ hB)) (fun e => by cases e)⟩
theorem Fo.trans {S T : Nat → Prop} {w u x : World} (h : Fo S w u) (h2 : Fo T u x) (hT : ∀ k, T k → S k ∨ w.heap.size ≤ k) : Fo S w x :=
  ⟨h2.os.trans h.os, h2.tape.trans h.tape, h2.output.trans h.output, Nat.le_trans h.size h2.size, fun k hk hS => (h2.block k (Nat.lt_of_lt_of_le hk h.size) (fun e => by rcases hT k e with g | g; exact hS g; omega)).trans (h.block k hk hS)⟩
theorem Fo.step {S : Nat → Prop} {w u x : World} (h : Fo S w u) (h2 : Below u.heap.size u x) : Fo S w x := h.trans (T := S) (Fo.of_below h2) (fun _ h => .inl h)
theorem Fo.below {S : Nat → Prop} {N : Nat} {w u : World} (h : Fo S w u) (hS : ∀ k, S k → N ≤ k) (hN : N ≤ w.heap.size) : Below N w u := ⟨h.os, h.tape, h.output, h.size, fun k hk => h.block k (by omega) (fun e => by have := hS k e; omega)⟩
theorem Fo.refl (S : Nat → Prop) (w : World) : Fo S w w := Fo.of_below (Below.refl _ _)
/-- A node's pointer. -/
def ptrV (pk : Nat → Nat) (st : Fs) (k : Nat) : Value := match st k with | some _ => .pointer (some ⟨pk k, 0, none⟩) | none => .pointer none
def rowC (n : Nat) (pk : Nat → Nat) (st : Fs) : List Value := (List.range n).map (ptrV pk st)
theorem row_len (n : Nat) (pk : Nat → Nat) (st : Fs) : (rowC n pk st).length = n := by simp [rowC]
theorem row_at {n k : Nat} (pk : Nat → Nat) (st : Fs) (hk : k < n) : (rowC n pk st)[k]? = some (ptrV pk st k) := by simp [rowC, hk]
theorem ptr_some {pk : Nat → Nat} {st : Fs} {k : Nat} {d : Nd} (h : st k = some d) : ptrV pk st k = .pointer (some ⟨pk k, 0, none⟩) := by unfold ptrV; rw [h]
theorem ptr_none {pk : Nat → Nat} {st : Fs} {k : Nat} (h : st k = none) : ptrV pk st k = .pointer none := by unfold ptrV; rw [h]
theorem row_eq {n : Nat} {pk pk' : Nat → Nat} {st st' : Fs} (h : ∀ k, k < n → ptrV pk' st' k = ptrV pk st k) : rowC n pk' st' = rowC n pk st := by
  unfold rowC
  apply List.map_congr_left
  intro k hk
  exact h k (List.mem_range.1 hk)
/-- A field's own memory. -/
structure FC (W : World) (A NB : Nat) (b s p : Int) (n : Nat) (pk : Nat → Nat) (st : Fs) (tv : Value) : Prop where
  blk : Blk W A 222 [.int .i64 b, .int .i64 s, .int .i64 p, .slice (some ⟨NB, 0, none⟩) n n, tv]
  row : Blk W NB 117 (rowC n pk st)
  node : ∀ k, k < n → ∀ d, st k = some d → Blk W (pk k) 214 (ndC b s p k d)
  ap : ∀ k, k < n → st k ≠ none → pk k ≠ A ∧ pk k ≠ NB
  inj : ∀ j k, j < n → k < n → st j ≠ none → st k ≠ none → pk j = pk k → j = k
  ne : A ≠ NB
  n32 : 1 ≤ n ∧ n ≤ 32
/-- The blocks that are a field's. -/
def FC.S (A NB n : Nat) (pk : Nat → Nat) (st : Fs) : Nat → Prop := fun j => j = A ∨ j = NB ∨ ∃ k, k < n ∧ st k ≠ none ∧ pk k = j
/-- Those that are its nodes'. -/
def FC.T (n : Nat) (pk : Nat → Nat) (st : Fs) : Nat → Prop := fun j => ∃ k, k < n ∧ st k ≠ none ∧ pk k = j
variable {W X : World} {A NB : Nat} {b s p : Int} {n : Nat} {pk : Nat → Nat} {st : Fs} {tv : Value}
theorem FC.moved (h : FC W A NB b s p n pk st tv) (hb : ∀ j, FC.S A NB n pk st j → X.heap[j]? = W.heap[j]?) : FC X A NB b s p n pk st tv :=
  ⟨h.blk.on (hb _ (.inl rfl)), h.row.on (hb _ (.inr (.inl rfl))), fun k hk d hd => (h.node k hk d hd).on (hb _ (.inr (.inr ⟨k, hk, (fun e => by rw [hd] at e; cases e), rfl⟩))), h.ap, h.inj, h.ne, h.n32⟩
theorem FC.lt (h : FC W A NB b s p n pk st tv) {j : Nat} (hj : FC.S A NB n pk st j) : j < W.heap.size := by
  rcases hj with rfl | rfl | ⟨k, hk, hs, rfl⟩
  · exact h.blk.lt
  · exact h.row.lt
  · cases e : st k with
    | none => exact absurd e hs
    | some d => exact (h.node k hk d e).lt
theorem FC.on (h : FC W A NB b s p n pk st tv) (hb : Below W.heap.size W X) : FC X A NB b s p n pk st tv := h.moved (fun j hj => hb.block j (h.lt hj))
theorem FC.keep {N : Nat} (h : FC W A NB b s p n pk st tv) (hN : ∀ j, FC.S A NB n pk st j → j < N) (hb : Below N W X) : FC X A NB b s p n pk st tv := h.moved (fun j hj => hb.block j (hN j hj))
/-- One node has another state. -/
theorem FC.step (h : FC W A NB b s p n pk st tv) {k : Nat} (hk : k < n) {d d' : Nd} (hd : st k = some d) (hB : Blk X (pk k) 214 (ndC b s p k d')) (hK : Kp (pk k) (.slice none 0 0) W X) : FC X A NB b s p n pk (setS st k (some d')) tv := by
  have hs : st k ≠ none := by rw [hd]; exact fun e => by cases e
  have hal : ∀ j, setS st k (some d') j ≠ none → st j ≠ none := fun j hj => by
    unfold setS at hj
    by_cases e : j = k
    · rw [e]; exact hs
    · rw [if_neg e] at hj; exact hj
  have hmv : ∀ j, j < W.heap.size → j ≠ pk k → X.heap[j]? = W.heap[j]? := fun j hj hne => hK.block j hj hne (fun e => by cases e)
  have hr : rowC n pk (setS st k (some d')) = rowC n pk st := row_eq (fun j _ => by
    unfold ptrV setS
    by_cases e : j = k
    · rw [if_pos e, e, hd]
    · rw [if_neg e])
  refine ⟨h.blk.on (hmv _ h.blk.lt (fun e => (h.ap k hk hs).1 e.symm)), ?_, fun j hj e he => ?_, fun j hj hjs => h.ap j hj (hal j hjs), fun i j hi hj his hjs e => h.inj i j hi hj (hal i his) (hal j hjs) e, h.ne, h.n32⟩
  · rw [hr]; exact h.row.on (hmv _ h.row.lt (fun e => (h.ap k hk hs).2 e.symm))
  · unfold setS at he
    by_cases ejk : j = k
    · rw [if_pos ejk] at he; cases he; subst ejk; exact hB
    · rw [if_neg ejk] at he
      exact (h.node j hj e he).on (hmv _ (h.node j hj e he).lt (fun e2 => ejk (h.inj j k hj hk (by rw [he]; exact fun e => by cases e) hs e2)))
theorem FC.cong {st' : Fs} (h : FC W A NB b s p n pk st tv) (e : ∀ k, st' k = st k) : FC W A NB b s p n pk st' tv := by
  have : st' = st := funext e
  rw [this]; exact h
theorem FC.cell0 (h : FC W A NB b s p n pk st tv) : W.cell? ⟨A, 0, none⟩ = some (.int .i64 b) ∧ W.cell? ⟨A, 1, none⟩ = some (.int .i64 s) ∧ W.cell? ⟨A, 2, none⟩ = some (.int .i64 p) ∧ W.cell? ⟨A, 3, none⟩ = some (.slice (some ⟨NB, 0, none⟩) n n) ∧ W.cell? ⟨A, 4, none⟩ = some tv :=
  ⟨h.blk.cellAt (i := 0) (by simp), h.blk.cellAt (i := 1) (by simp), h.blk.cellAt (i := 2) (by simp), h.blk.cellAt (i := 3) (by simp), h.blk.cellAt (i := 4) (by simp)⟩
theorem FC.cellR (h : FC W A NB b s p n pk st tv) {k : Nat} (hk : k < n) : W.cell? ⟨NB, k, none⟩ = some (ptrV pk st k) := by
  have h2 := h.row.cellAt (i := k) (by rw [row_len]; exact hk)
  have h3 := row_at pk st hk
  rw [List.getElem?_eq_getElem (by rw [row_len]; exact hk), Option.some.injEq] at h3
  rw [h3] at h2
  exact h2
theorem fd_there (h : FC W A NB b s p n pk st tv) (k : Int) : Calls Try.prog 139 #[.pointer (some ⟨A, 0, none⟩), .int .i64 k] W fun y w' => y = .returned (.bool (inR k 0 ((n : Int) - 1))) ∧ W = w' := by
  have HW := Lib.hid (fun u => rk_within k 0 ((n : Int) - 1) u)
  obtain ⟨_, _, _, c3, _⟩ := h.cell0
  have hn := h.n32
  obtain ⟨v, hv⟩ : ∃ v, v = inR k 0 ((n : Int) - 1) := ⟨_, rfl⟩
  rw [← hv] at HW ⊢
  obtain ⟨n1, hn1⟩ : ∃ v, v = (n : Int) - 1 := ⟨_, rfl⟩
  rw [← hn1] at HW
  have hw : wrap64 ((n : Int) - 1) = n1 := by rw [hn1]; exact w64_in _ (by omega)
  clear h hv hn1 hn
  go_enter Try.func139, Try.ntmps139
  go_wp2_with fail
  refine (HW.out _).mono ?_
  rintro y w1 ⟨rfl, rfl⟩
  go_wp2_with fail
  go_ret
  exact ⟨rfl, rfl⟩
theorem fd_there_nil (k : Int) (w : World) : Calls Try.prog 139 #[.pointer none, .int .i64 k] w fun y w' => y = .returned (.bool false) ∧ w = w' := by
  go_enter Try.func139, Try.ntmps139
  go_wp2_with fail
  go_ret
  exact ⟨rfl, rfl⟩
/-- Is such a node on? -/
def aliveB (n : Nat) (st : Fs) (k : Int) : Bool := inR k 0 ((n : Int) - 1) && (st k.toNat).isSome
theorem fd_alive (h : FC W A NB b s p n pk st tv) (k : Int) : Calls Try.prog 78 #[.pointer (some ⟨A, 0, none⟩), .int .i64 k] W fun y w' => y = .returned (.bool (aliveB n st k)) ∧ W = w' := by
  have HT := Lib.hid (fd_there h k)
  by_cases hk : 0 ≤ k ∧ k ≤ (n : Int) - 1
  · obtain ⟨j, rfl⟩ : ∃ j : Nat, k = (j : Int) := ⟨k.toNat, by omega⟩
    have hj : j < n := by omega
    have e : aliveB n st (j : Int) = (st j).isSome := by unfold aliveB; rw [inR_yes hk, Int.toNat_natCast]; rfl
    rw [e]
    rw [inR_yes hk] at HT
    obtain ⟨_, _, _, c3, _⟩ := h.cell0
    have cR := h.cellR hj
    have i1 : (0 : Int) ≤ (j : Int) := by omega
    have i2 : (j : Int) < (n : Int) := by omega
    cases hs : st j with
    | none =>
      rw [ptr_none hs] at cR
      clear e hk h
      go_enter Try.func78, Try.ntmps78
      go_wp2_with fail
      refine HT.out.mono ?_
      rintro y w1 ⟨rfl, rfl⟩
      go_wp2_with fail
      go_ret
      exact ⟨rfl, rfl⟩
    | some d =>
      rw [ptr_some hs] at cR
      clear e hk h
      go_enter Try.func78, Try.ntmps78
      go_wp2_with fail
      refine HT.out.mono ?_
      rintro y w1 ⟨rfl, rfl⟩
      go_wp2_with fail
      go_ret
      exact ⟨rfl, rfl⟩
  · have e : aliveB n st k = false := by unfold aliveB; rw [inR_no hk]; rfl
    rw [e]
    rw [inR_no hk] at HT
    clear e hk h
    go_enter Try.func78, Try.ntmps78
    go_wp2_with fail
    refine HT.out.mono ?_
    rintro y w1 ⟨rfl, rfl⟩
    go_wp2_with fail
    go_ret
    exact ⟨rfl, rfl⟩
theorem fd_alive_nil (k : Int) (w : World) : Calls Try.prog 78 #[.pointer none, .int .i64 k] w fun y w' => y = .returned (.bool false) ∧ w = w' := by
  have HT := Lib.hid (fun u => fd_there_nil k u)
  go_enter Try.func78, Try.ntmps78
  go_wp2_with fail
  refine (HT.out _).mono ?_
  rintro y w1 ⟨rfl, rfl⟩
  go_wp2_with fail
  go_ret
  exact ⟨rfl, rfl⟩
/-- A tick of one node, with what was heard in a box. -/
theorem fd_tick1 (b s p : Int) (k : Nat) (hc : rightR b s p = true) (hk : k ≤ 31) (d : Nd) (hd : Ok1 b s p k d) (B H : Nat) (L : List Int) (a : Option Addr) (cap : Nat) (hl : L.length ≤ 1000) (w : World) (h : Blk w B 214 (ndC b s p k d)) (hH : Blk w H 79 [.slice a L.length cap]) (hR : Ints w a L) :
    Calls Try.prog 138 #[.pointer (some ⟨B, 0, none⟩), .pointer (some ⟨H, 0, none⟩)] w fun y w' => y = .returned (.bool (tkN b s p k L d).2) ∧ Blk w' B 214 (ndC b s p k (tkN b s p k L d).1) ∧ Kp B (.slice none 0 0) w w' := by
  have HT := Lib.hid (rk_tick b s p k hc (by omega) d hd B L a cap hl w h hR)
  have q := hH.cellAt (i := 0) (by simp)
  obtain ⟨V, hV⟩ : ∃ V, V = tkN b s p k L d := ⟨_, rfl⟩
  rw [← hV] at HT ⊢
  clear hV h hH hR hd hc
  go_enter Try.func138, Try.ntmps138
  go_wp2_with fail
  refine HT.out.mono ?_
  rintro y w1 ⟨rfl, h1, h2⟩
  go_wp2_with fail
  go_ret
  exact ⟨rfl, h1, h2⟩
theorem fd_tick1_nil (H : Nat) (v : Value) (w : World) (hH : Blk w H 79 [v]) : Calls Try.prog 138 #[.pointer none, .pointer (some ⟨H, 0, none⟩)] w fun y w' => y = .returned (.bool false) ∧ w = w' := by
  have HT := Lib.hid (fun u => rk_tick_nil v u)
  have q := hH.cellAt (i := 0) (by simp)
  clear hH
  go_enter Try.func138, Try.ntmps138
  go_wp2_with fail
  refine (HT.out _).mono ?_
  rintro y w1 ⟨rfl, rfl⟩
  go_wp2_with fail
  go_ret
  exact ⟨rfl, rfl⟩
end Go.Proofs.Ytdfalipgfnjglaa
