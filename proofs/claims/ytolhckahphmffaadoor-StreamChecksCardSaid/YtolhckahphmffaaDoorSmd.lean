/- Streams in memory: slices of them that are handed to a statement, opened; and placed, which yields each with its place. Conditions: there are at most so many as memory holds. -/
import Derived.Test.YtolhckahphmffaaDoorSmc
import Derived.Test.YtolhckahphmffaaDoorOpr
namespace Go.Proofs.YtolhckahphmffaaDoor
open Go.ChangeShapes Go.WideShapes Go.ChangeAt Go.RowKit Go.Shelf
attribute [local go_sem] Oper.semAt_some
/-- A stream. -/
structure Sm where
  i : Int
  n : Int
  c : Int
  p : Int
  d : Int
  s : Int
  b : Int
deriving DecidableEq
def Sm.C (x : Sm) : List Value := [.int .i64 x.i, .int .i64 x.n, .int .i64 x.c, .int .i64 x.p, .int .i64 x.d, .int .i64 x.s, .int .i64 x.b]
def Sm.wf (x : Sm) : Prop := (-9223372036854775808 ≤ x.i ∧ x.i ≤ 9223372036854775807) ∧ (-9223372036854775808 ≤ x.n ∧ x.n ≤ 9223372036854775807) ∧ (-9223372036854775808 ≤ x.c ∧ x.c ≤ 9223372036854775807) ∧ (-9223372036854775808 ≤ x.p ∧ x.p ≤ 9223372036854775807) ∧ (-9223372036854775808 ≤ x.d ∧ x.d ≤ 9223372036854775807) ∧ (-9223372036854775808 ≤ x.s ∧ x.s ≤ 9223372036854775807) ∧ (-9223372036854775808 ≤ x.b ∧ x.b ≤ 9223372036854775807)
def Sm.v (x : Sm) : Value := .agg #[.int .i64 x.i, .int .i64 x.n, .int .i64 x.c, .int .i64 x.p, .int .i64 x.d, .int .i64 x.s, .int .i64 x.b]
def Sm.right (x : Sm) : Int := rightS x.i x.n x.c x.p x.d x.s x.b
def Sm.cost (x : Sm) : Int := costS x.i x.n x.c x.p x.d x.s x.b
theorem Sm.C_len (x : Sm) : x.C.length = 7 := rfl
def sm0 : Sm := ⟨0, 0, 0, 0, 0, 0, 0⟩
section
variable {H : Type} {enc : TypeId × Value → H} {W : World} {base : Nat} {sp : Nat → Bool} {held : Bool} {r : Reach} {b0 : Nat} {v : Value} {d : DataW H} {p : List MemPlace}
theorem streamG {fuel : Nat} {cs : List Value} {x : DataW H × List MemPlace} (hl : cs.length = 7) (h : DataW.trod enc Tryd.prog W base sp held fuel 30 cs = some x) : ∃ s : Sm, cs = s.C ∧ s.wf := by
  obtain ⟨c0, c1, c2, c3, c4, c5, c6, hcs⟩ : ∃ c0 c1 c2 c3 c4 c5 c6, cs = [c0, c1, c2, c3, c4, c5, c6] := by
    match cs, hl with
    | [c0, c1, c2, c3, c4, c5, c6], _ => exact ⟨c0, c1, c2, c3, c4, c5, c6, rfl⟩
  subst hcs
  obtain ⟨xs, m, _, rfl, _, hlen, hf⟩ := DataW.trod_struct Tryd.underlying30 h
  have sINT : Tryd.prog.cellsOf 3 = 1 := by kernel_rfl
  have sI64 : Tryd.prog.cellsOf 2 = 1 := by kernel_rfl
  have sCL : Tryd.prog.cellsOf 28 = 1 := by kernel_rfl
  match xs, hlen with
  | [y0, y1, y2, y3, y4, y5, y6], _ =>
    have h0 := hf 0 _ rfl
    have h1 := hf 1 _ rfl
    have h2 := hf 2 _ rfl
    have h3 := hf 3 _ rfl
    have h4 := hf 4 _ rfl
    have h5 := hf 5 _ rfl
    have h6 := hf 6 _ rfl
    simp [sINT] at h0
    simp [sINT] at h1
    simp [sCL] at h2
    simp [sI64] at h3
    simp [sI64] at h4
    simp [sINT] at h5
    simp [sINT] at h6
    obtain ⟨n0, e0, _, w0⟩ := DataW.trod_int Tryd.underlying3 h0
    obtain ⟨n1, e1, _, w1⟩ := DataW.trod_int Tryd.underlying3 h1
    obtain ⟨n2, e2, _, w2⟩ := DataW.trod_int Tryd.underlying28 h2
    obtain ⟨n3, e3, _, w3⟩ := DataW.trod_int Tryd.underlying2 h3
    obtain ⟨n4, e4, _, w4⟩ := DataW.trod_int Tryd.underlying2 h4
    obtain ⟨n5, e5, _, w5⟩ := DataW.trod_int Tryd.underlying3 h5
    obtain ⟨n6, e6, _, w6⟩ := DataW.trod_int Tryd.underlying3 h6
    obtain rfl : c0 = .int .i64 n0 := by simpa using e0
    obtain rfl : c1 = .int .i64 n1 := by simpa using e1
    obtain rfl : c2 = .int .i64 n2 := by simpa using e2
    obtain rfl : c3 = .int .i64 n3 := by simpa using e3
    obtain rfl : c4 = .int .i64 n4 := by simpa using e4
    obtain rfl : c5 = .int .i64 n5 := by simpa using e5
    obtain rfl : c6 = .int .i64 n6 := by simpa using e6
    exact ⟨⟨n0, n1, n2, n3, n4, n5, n6⟩, rfl, wf64 w0, wf64 w1, wf64 w2, wf64 w3, wf64 w4, wf64 w5, wf64 w6⟩
set_option maxRecDepth 100000 in
theorem open_stream (hv : Value.okWide Tryd.prog W r b0 30 v) (h : DataW.Trod enc Tryd.prog W base sp held 30 v d p) : ∃ l : Sm, v = l.v ∧ l.wf := by
  obtain ⟨cs, rfl, hsz⟩ := okWide_struct Tryd.underlying30 hv
  obtain ⟨c0, c1, c2, c3, c4, c5, c6, rfl⟩ : ∃ c0 c1 c2 c3 c4 c5 c6, cs = #[c0, c1, c2, c3, c4, c5, c6] := by
    have hs3 : cs.size = 7 := hsz.trans (by kernel_rfl)
    obtain ⟨l⟩ := cs
    match l, hs3 with
    | [c0, c1, c2, c3, c4, c5, c6], _ => exact ⟨c0, c1, c2, c3, c4, c5, c6, rfl⟩
  obtain ⟨fuel, hf⟩ := h
  obtain ⟨l, hx, hw⟩ := streamG (cs := [c0, c1, c2, c3, c4, c5, c6]) rfl (by simpa [Value.cells] using hf)
  unfold Sm.C at hx
  simp only [List.cons.injEq, and_true] at hx
  obtain ⟨rfl, rfl, rfl, rfl, rfl, rfl, rfl⟩ := hx
  exact ⟨l, rfl, hw⟩
end
/-- The slice value sv holds these streams, in a block below n₀; or it is empty, wherever it leads, and there are none. -/
def Sts (n₀ : Nat) (W : World) (sv : Value) (L : List Sm) : Prop :=
  (∃ a cap, sv = .slice a 0 cap ∧ L = []) ∨ ∃ b off cap, sv = .slice (some ⟨b, off, none⟩) L.length cap ∧ b < n₀ ∧ ∀ j (hj : j < L.length) i u, (L[j].C)[i]? = some u → W.cell? ⟨b, off + j * 7 + i, none⟩ = some u
theorem Sts.below {n₀ : Nat} {A B : World} (h : Below n₀ A B) {sv : Value} {L : List Sm} : Sts n₀ A sv L → Sts n₀ B sv L
  | .inl e => .inl e
  | .inr ⟨b, off, cap, e, hb, hc⟩ => .inr ⟨b, off, cap, e, hb, fun j hj i u hu => (h.cell (p := ⟨b, off + j * 7 + i, none⟩) hb).trans (hc j hj i u hu)⟩
theorem Sts.mono {n₀ n₁ : Nat} (h : n₀ ≤ n₁) {A : World} {sv : Value} {L : List Sm} : Sts n₀ A sv L → Sts n₁ A sv L
  | .inl e => .inl e
  | .inr ⟨b, off, cap, e, hb, hc⟩ => .inr ⟨b, off, cap, e, Nat.lt_of_lt_of_le hb h, hc⟩
theorem Sts.len {n₀ len cap : Nat} {a : Option Addr} {W : World} {L : List Sm} (h : Sts n₀ W (.slice a len cap) L) : len = L.length := by
  rcases h with ⟨a', cap', e, rfl⟩ | ⟨b, off, cap', e, _⟩
  · injection e with _ e2 _
  · injection e with _ e2 _
theorem Sts.of_rd {W : World} {a : Option Addr} {len cap : Nat} {L : List Sm} (h : Rd W 7 (.slice a len cap) (L.flatMap Sm.C)) (hl : L.length = len) : Sts W.heap.size W (.slice a len cap) L := by
  by_cases h0 : 0 < L.length
  · obtain ⟨g, off, rfl, hg, _⟩ := rd_at Sm.C 7 Sm.C_len h h0 (by decide)
    refine .inr ⟨g, off, cap, by rw [hl], hg, fun j hj i u hu => ?_⟩
    obtain ⟨g', off', e, _, hc⟩ := rd_at Sm.C 7 Sm.C_len h hj (by decide)
    injection e with e
    injection e with e1 e2 _
    subst e1 e2
    exact hc i u hu
  · have h1 : L = [] := List.eq_nil_of_length_eq_zero (by omega)
    subst h1
    exact .inl ⟨a, cap, by rw [← hl]; rfl, rfl⟩
set_option maxRecDepth 100000 in
set_option maxHeartbeats 4000000 in
theorem placed1_in (n : Nat) (hn : 1 ≤ n) (l Bs n₀ b off cap : Nat) (L : List Sm) (hreach : L.length ≤ 4611686018427387904) (hb : b < n₀) (J Jx : List (Fin L.length) → World → Prop)
    (hY : ∀ pre x W, J pre W → pre.length < L.length → YieldAt Fence.wide (n - 1) Tryd.prog l #[.int .i64 (x.1 : Nat), (L[x.1]'x.2).v] W fun e W' =>
      (e = .returned (.bool true) ∧ J (pre ++ [x]) W' ∧ Below n₀ W W') ∨ (e = .returned (.bool false) ∧ Jx (pre ++ [x]) W'))
    (W : World) (hn₀ : n₀ ≤ W.heap.size) (hJ : AbidesFrom W.heap.size J) (hBs : W.cell? ⟨Bs, 0, none⟩ = some (.slice (some ⟨b, off, none⟩) L.length cap)) (hc : ∀ j (hj : j < L.length) i u, (L[j].C)[i]? = some u → W.cell? ⟨b, off + j * 7 + i, none⟩ = some u) (h0 : J [] W) :
    CallsIn Fence.wide n Tryd.prog 69 #[.func (.yield l) #[] #[], .pointer (some ⟨Bs, 0, none⟩)] W fun e W' => (∃ v, e = .returned v) ∧
      ((∃ ys, Came ys L.length ∧ J ys W') ∨ (∃ pre, (∃ k, k ≤ L.length ∧ Came pre k) ∧ Jx pre W')) := by
  refine callsIn_of_wp Tryd.func69 rfl trivial ?_ rfl
  simp only [Tryd.ntmps69, List.size_toArray, List.length_cons, List.length_nil, Nat.reduceAdd, Nat.reduceSub, Array.replicate_succ, Array.replicate_zero, List.push_toArray, List.append_toArray, List.nil_append, List.cons_append]
  have HJ := Lib.hid hJ; have HYY := Lib.hid hY; have HC := Lib.hid hc
  clear hJ hY hc
  gi_wp2
  gi_loopw [7] (fun i wr => ∃ (k : Nat) (pre : List (Fin L.length)), k ≤ L.length ∧ i = .int .i64 k ∧ Came pre k ∧ J pre wr ∧ Below n₀ W wr)
    (fun i _ => L.length - (intOf i).toNat)
  case atStart => exact ⟨0, [], Nat.zero_le _, rfl, rfl, h0, Below.refl _ _⟩
  case round =>
    obtain ⟨k, pre, hk, rfl, hpre, hJs, hnx⟩ := hrel
    have HPRE := Lib.hid hpre; have HNX := Lib.hid hnx; have HJS := Lib.hid hJs
    clear hpre hJs hnx
    by_cases hlt : k < L.length
    · have i1 : (k : Int) < (L.length : Int) := by omega
      have i2 : (0 : Int) ≤ (k : Int) := by omega
      obtain ⟨x, hx⟩ : ∃ x, x = L[k] := ⟨_, rfl⟩
      have hcw : ∀ i u, (x.C)[i]? = some u → wr.cell? ⟨b, off + k * 7 + i, none⟩ = some u := fun i u hu => (HNX.out.cell (p := ⟨b, off + k * 7 + i, none⟩) hb).trans (HC.out k hlt i u (hx ▸ hu))
      have q0 : wr.cell? ⟨b, off + k * 7, none⟩ = some (.int .i64 x.i) := hcw 0 _ rfl
      have q1 : wr.cell? ⟨b, off + k * 7 + 1, none⟩ = some (.int .i64 x.n) := hcw 1 _ rfl
      have q2 : wr.cell? ⟨b, off + k * 7 + 2, none⟩ = some (.int .i64 x.c) := hcw 2 _ rfl
      have q3 : wr.cell? ⟨b, off + k * 7 + 3, none⟩ = some (.int .i64 x.p) := hcw 3 _ rfl
      have q4 : wr.cell? ⟨b, off + k * 7 + 4, none⟩ = some (.int .i64 x.d) := hcw 4 _ rfl
      have q5 : wr.cell? ⟨b, off + k * 7 + 5, none⟩ = some (.int .i64 x.s) := hcw 5 _ rfl
      have q6 : wr.cell? ⟨b, off + k * 7 + 6, none⟩ = some (.int .i64 x.b) := hcw 6 _ rfl
      have hJ5 : J pre (wr.alloc (.cells #[.int .i64 x.i, .int .i64 x.n, .int .i64 x.c, .int .i64 x.p, .int .i64 x.d, .int .i64 x.s, .int .i64 x.b] 30)) := HJ.out _ _ _ none HJS.out (World.grownBy_alloc wr _ none) (fun r e => by cases e)
      obtain ⟨fn, tmps, assign, body, hy, hR⟩ := HYY.out _ ⟨k, hlt⟩ _ hJ5 (by rw [HPRE.out.length]; exact hlt)
      have hxv : (L[k]'hlt).v = x.v := by rw [hx]
      have HB5 := Lib.hid (HNX.out.alloc (Nat.le_trans hn₀ HNX.out.size) (.cells #[.int .i64 x.i, .int .i64 x.n, .int .i64 x.c, .int .i64 x.p, .int .i64 x.d, .int .i64 x.s, .int .i64 x.b] 30))
      dsimp only at hy hR
      rw [hxv] at hy
      unfold Sm.v at hy
      clear hx hcw hJ5 hxv
      gi_wp2
      refine hR.mono ?_
      rintro e W3 (⟨rfl, hJ3, hk3⟩ | ⟨rfl, hJx3⟩)
      · have HJ3 := Lib.hid hJ3; have HK3 := Lib.hid hk3
        clear hJ3 hk3 q0 q1 q2 q3 q4 q5 q6
        gi_wp2
        go_roundw
        case rel => exact ⟨k + 1, _, by omega, by simp, HPRE.out.snoc hlt, HJ3.out, HB5.out.trans HK3.out⟩
        case measure => simp [intOf]; omega
      · have HJ3 := Lib.hid hJx3
        clear hJx3 q0 q1 q2 q3 q4 q5 q6
        gi_wp2
        refine bodyPost_ret (results_none rfl _ _ _) rfl ?_
        exact ⟨⟨_, rfl⟩, .inr ⟨_, ⟨k + 1, by omega, HPRE.out.snoc hlt⟩, HJ3.out⟩⟩
    · obtain rfl : k = L.length := by omega
      gi_wp2
      go_end0
      exact ⟨⟨_, rfl⟩, .inl ⟨_, HPRE.out, HJS.out⟩⟩
set_option maxRecDepth 100000 in
set_option maxHeartbeats 1000000 in
theorem placed1_nil_in (n l Bs : Nat) (a : Option Addr) (cap : Nat) (J : List (Fin 0) → World → Prop) (W : World) (hBs : W.cell? ⟨Bs, 0, none⟩ = some (.slice a 0 cap)) (h0 : J [] W) :
    CallsIn Fence.wide n Tryd.prog 69 #[.func (.yield l) #[] #[], .pointer (some ⟨Bs, 0, none⟩)] W fun e W' => (∃ v, e = .returned v) ∧ J [] W' := by
  refine callsIn_of_wp Tryd.func69 rfl trivial ?_ rfl
  simp only [Tryd.ntmps69, List.size_toArray, List.length_cons, List.length_nil, Nat.reduceAdd, Nat.reduceSub, Array.replicate_succ, Array.replicate_zero, List.push_toArray, List.append_toArray, List.nil_append, List.cons_append]
  gi_wp2
  gi_loopw [7] (fun i wr => i = .int .i64 0 ∧ J [] wr) (fun _ _ => 0)
  case atStart => exact ⟨rfl, h0⟩
  case round =>
    obtain ⟨rfl, hJs⟩ := hrel
    gi_wp2
    go_end0
    exact ⟨⟨_, rfl⟩, hJs⟩
set_option maxHeartbeats 1000000 in
theorem placed_in (n : Nat) (a : Option Addr) (len cap : Nat) (w : World) :
    CallsIn Fence.wide n Tryd.prog 41 #[.slice a len cap] w fun e w' => e = .returned (.func (.func 69) #[] #[.pointer (some ⟨w.heap.size, 0, none⟩)]) ∧ w.alloc (.cells #[.slice a len cap] 22) = w' := by
  refine callsIn_of_wp Tryd.func41 rfl trivial ?_ rfl
  simp only [Tryd.ntmps41, List.size_toArray, List.length_cons, List.length_nil, Nat.reduceAdd, Nat.reduceSub, Array.replicate_succ, Array.replicate_zero, List.push_toArray, List.append_toArray, List.nil_append, List.cons_append]
  gi_wp2
  go_ret
  exact ⟨rfl, rfl⟩
theorem placed_stops (n : Nat) (hn : 1 ≤ n) (Bs n₀ : Nat) (sv : Value) (L : List Sm) (hreach : L.length ≤ 4611686018427387904) (w : World) (hBs : Bs < w.heap.size) (hn₀ : n₀ ≤ w.heap.size)
    (hc : w.cell? ⟨Bs, 0, none⟩ = some sv) (hI : Sts n₀ w sv L) :
    SeqStopsK Fence.wide n Tryd.prog 69 #[.pointer (some ⟨Bs, 0, none⟩)] (fun x : Fin L.length => #[Value.int .i64 (x.1 : Nat), (L[x.1]'x.2).v]) (Below n₀) (fun ys => Came ys L.length)
      (fun pre => ∃ k, k ≤ L.length ∧ Came pre k) L.length w := fun l J Jx W hW hJ _ hY h0 => by
  have hc' := (hW.cell (p := ⟨Bs, 0, none⟩) hBs).trans hc
  rcases hI.below (hW.mono hn₀) with ⟨a, cap, rfl, rfl⟩ | ⟨b, off, cap, rfl, hb, hcs⟩
  · exact (placed1_nil_in n l Bs a cap J W hc' h0).mono fun e W' ⟨he, hj⟩ => ⟨he, .inl ⟨[], (rfl : Came [] 0), hj⟩⟩
  · exact placed1_in n hn l Bs n₀ b off cap L hreach hb J Jx hY W (Nat.le_trans hn₀ hW.size) hJ hc' hcs h0
end Go.Proofs.YtolhckahphmffaaDoor
