/- For TopTold: an array of two slices of numbers, opened; ticks that a bit may have; a listener beside a pair. Conditions: each theorem says its own. -/
import Derived.Test.YtpamkmpaldepnaaAcq
import Derived.Test.YtpamkmpaldepnaaOsr
import Derived.Test.YtpamkmpaldepnaaOp2
namespace Go.Proofs.Ytpamkmpaldepnaa
open Go.RowKit Go.ChangeShapes Go.WideShapes
section
variable {H : Type} {enc : TypeId × Value → H} {W : World} {base : Nat} {sp : Nat → Bool} {held : Bool} {r : Reach} {b0 : Nat} {v : Value} {d : DataW H} {p : List MemPlace}
theorem row_of_trod (hsp : ∀ b, sp b = true) {fuel : Nat} {c : Value} {x : DataW H × List MemPlace} (hf : DataW.trod enc Try.prog W base sp held fuel 60 [c] = some x) : ∃ a len cap zs, c = .slice a len cap ∧ RowI .u16 W a len cap zs := by
  rcases open_ints Try.underlying60 Try.underlying62 (by kernel_rfl) hf with ⟨hcs, _⟩ | ⟨x, l, c, zs, hcs, _, hl, hm, hz, _, hcell, hwz⟩
  · simp at hcs
    exact ⟨none, 0, 0, [], hcs, .inl ⟨rfl, rfl, rfl, rfl⟩⟩
  · simp at hcs
    exact ⟨_, l, c, zs, hcs, .inr ⟨_, rfl, hl, hm, by simpa [hsp] using hz, hcell, hwz⟩⟩
set_option maxRecDepth 100000 in
theorem open_two16 (hsp : ∀ b, sp b = true) (hv : Value.okWide Try.prog W r b0 61 v) (h : DataW.Trod enc Try.prog W base sp held 61 v d p) : ∃ a la ca za b lb cb zb, v = .agg #[.slice a la ca, .slice b lb cb] ∧ RowI .u16 W a la ca za ∧ RowI .u16 W b lb cb zb := by
  have ht := Try.underlying61
  simp only [Value.okWide, ht] at hv
  obtain ⟨cs, rfl, hsz, _⟩ := hv
  rw [show Try.prog.cellsOf 61 = 2 by kernel_rfl] at hsz
  obtain ⟨c0, c1, rfl⟩ : ∃ c0 c1, cs = #[c0, c1] := by
    obtain ⟨l⟩ := cs
    match l, hsz with
    | [c0, c1], _ => exact ⟨c0, c1, rfl⟩
  obtain ⟨fuel, hf⟩ := h
  obtain ⟨y0, y1, m, _, h0, h1⟩ := trod_arr2 ht (by kernel_rfl) (by simpa [Value.cells] using hf)
  obtain ⟨a, la, ca, za, rfl, ha⟩ := row_of_trod hsp h0
  obtain ⟨b, lb, cb, zb, rfl, hb⟩ := row_of_trod hsp h1
  exact ⟨a, la, ca, za, b, lb, cb, zb, rfl, ha, hb⟩
end
set_option maxRecDepth 100000 in
set_option maxHeartbeats 4000000 in
theorem tp_ticks (n d u : Int) (hn : 2 ≤ n ∧ n ≤ 5001) (hd : 0 ≤ d ∧ d < n) (a : Option Addr) (len cap : Nat) (zs : List Int) (w0 : World) (hr : RowI .u16 w0 a len cap zs) (i : Nat) (_hi : i < 60) : ∃ t : Int, (n - d ≤ t ∧ t ≤ n + d) ∧ ∀ w, Below w0.heap.size w0 w → Calls Try.prog 33 #[.agg #[.int .i64 n, .int .i64 d, .int .i64 u], .slice a len cap, .int .i64 (i : Int)] w fun y w' => y = .returned (.int .i64 t) ∧ Below w.heap.size w w' := by
  obtain ⟨hr1, hr2, hr3⟩ := rowI_at hr
  have hL : (len : Int) ≤ 9223372036854775807 := by unfold maxLen at hr3; omega
  by_cases hlt : i < len
  rotate_left
  · have i1 : ((len : Nat) : Int) ≤ (i : Int) := by omega
    have i2 : ¬ (i : Int) < (len : Int) := by omega
    refine ⟨n, by omega, fun w hw => ?_⟩
    have HBX := Lib.hid ((Below.refl _ w).alloc (Nat.le_refl _) (.cells #[.int .i64 n, .int .i64 d, .int .i64 u] 25))
    clear hr hr1 hr2 hr3 hlt hn hd hL hw
    go_enter Try.func33, Try.ntmps33
    go_wp2_with fail
    go_ret
    exact ⟨rfl, HBX.out⟩
  obtain ⟨b, off, rfl, hb, hc⟩ : ∃ b off, a = some ⟨b, off, none⟩ ∧ b < w0.heap.size ∧ ∃ m : Int, (Lit.int .u16 m).wf = true ∧ ∀ X, Below w0.heap.size w0 X → X.cell? ⟨b, off + i, none⟩ = some (.int .u16 m) := by
    rcases hr1 with h | ⟨b, off, e, h1, h2⟩
    · omega
    · exact ⟨b, off, e, h1, h2 i hlt⟩
  obtain ⟨v, hv, hc⟩ := hc
  have hv2 : 0 ≤ v ∧ v ≤ 65535 := by
    simp [Lit.wf, IntKind.min, IntKind.max, IntKind.bits, IntKind.signed] at hv
    omega
  have i1 : ¬ ((len : Nat) : Int) ≤ (i : Int) := by omega
  have i2 : (i : Int) < (len : Int) := by omega
  have i3 : (0 : Int) ≤ (i : Int) := by omega
  have HNZ := Lib.hid (show ¬ IntKind.i64.wrap (IntKind.i64.wrap (2 * d) + 1) = 0 by rw [IntKind.wrap_i64, IntKind.wrap_i64]; omega)
  obtain ⟨q, hq⟩ : ∃ q, q = 2 * d + 1 := ⟨_, rfl⟩
  have w1 : IntKind.i64.wrap (2 * d) = 2 * d := by rw [IntKind.wrap_i64]; omega
  have w2 : IntKind.i64.wrap (2 * d + 1) = q := by rw [IntKind.wrap_i64]; omega
  have w3 : IntKind.i64.wrap (n - d) = n - d := by rw [IntKind.wrap_i64]; omega
  have w4 : IntKind.i64.wrap v = v := by rw [IntKind.wrap_i64]; omega
  have HX := Lib.hid (show n - d ≤ IntKind.i64.wrap (IntKind.i64.wrap (n - d) + (IntKind.i64.wrap v).tmod (IntKind.i64.wrap (IntKind.i64.wrap (2 * d) + 1))) ∧ IntKind.i64.wrap (IntKind.i64.wrap (n - d) + (IntKind.i64.wrap v).tmod (IntKind.i64.wrap (IntKind.i64.wrap (2 * d) + 1))) ≤ n + d by
    rw [w1, w2, w3, w4, Int.tmod_eq_emod_of_nonneg hv2.1, IntKind.wrap_i64]
    have h1 := Int.emod_nonneg v (b := q) (by omega)
    have h2 := Int.emod_lt_of_pos v (b := q) (by omega)
    omega)
  clear w1 w2 w3 w4 hq
  refine ⟨_, HX.out, fun w hw => ?_⟩
  have HBX := Lib.hid ((Below.refl _ w).alloc (Nat.le_refl _) (.cells #[.int .i64 n, .int .i64 d, .int .i64 u] 25))
  have HC := Lib.hid (show ∀ X, Below w.heap.size w X → X.cell? ⟨b, off + i, none⟩ = some (.int .u16 v) from fun X hX => hc X (hw.trans (hX.mono hw.size)))
  clear hr hr1 hr2 hr3 hlt hn hd hv hv2 hc hw hb hL
  go_enter Try.func33, Try.ntmps33
  go_upto_region 3 with fail
  obtain ⟨W0, hW0⟩ : ∃ W0, W0 = w.alloc (.cells #[.int .i64 n, .int .i64 d, .int .i64 u] 25) := ⟨_, rfl⟩
  have HB0 := Lib.hid (show Below w.heap.size w W0 by rw [hW0]; exact HBX.out)
  have HZ := Lib.hid (show ∀ x, Below W0.heap.size W0 x → Below W0.heap.size W0 x ∧ x.cell? ⟨w.heap.size, 0, none⟩ = some (.int .i64 n) ∧ x.cell? ⟨w.heap.size, 1, none⟩ = some (.int .i64 d) ∧ x.cell? ⟨b, off + i, none⟩ = some (.int .u16 v) from fun x hx => by
    have hb : Blk W0 w.heap.size 25 [.int .i64 n, .int .i64 d, .int .i64 u] := by rw [hW0]; exact Blk.new w 25 _
    exact ⟨hx, (hb.keep hx hb.lt).cellAt (i := 0) (by simp), (hb.keep hx hb.lt).cellAt (i := 1) (by simp), HC.out x (below_transG HB0.out hx)⟩)
  rw [← hW0]
  clear hW0
  refine wp_region_class (C := fun x => Below W0.heap.size W0 x ∧ x.cell? ⟨w.heap.size, 0, none⟩ = some (.int .i64 n) ∧ x.cell? ⟨w.heap.size, 1, none⟩ = some (.int .i64 d) ∧ x.cell? ⟨b, off + i, none⟩ = some (.int .u16 v)) (by kernel_rfl) (by kernel_rfl) (HZ.out _ (Below.refl _ _).drew) ?_
  repeat
    with_reducible refine wpQuiet_step (fun K hK => ?_)
    first
      | (refine quiet_skip (by rfl) ?_; (with_reducible refine hK _ ?_); clear hK K)
      | (refine quiet_want (by rfl) ?_
         apply Exists.intro
         refine ⟨fun x hx => ?_, hK _ ?_⟩
         (obtain ⟨_, hx1, hx2, hx3⟩ := id hx; go_simp; first | done | rfl | ((rw [if_neg HNZ.out]; exact ⟨rfl, rfl⟩)))
         clear hK K)
    try simp only [Act.put, List.setIfInBounds_toArray, List.set_cons_zero, List.set_cons_succ]
  with_reducible refine wpQuiet_nil ?_
  intro wq hq
  have HB2 := Lib.hid (below_transG HB0.out hq.1)
  clear hq HZ
  go_wp2_with fail
  go_ret
  exact ⟨by first | rfl | trace_state, HB2.out⟩
set_option linter.unusedVariables false in
/-- What a listener keeps does not touch a pair. -/
theorem PA.hear {u x : World} {B X : Nat} {s : PD} {pn pa : Value} {l : List Value} (h : PA u B s pn pa) (hX : Blk u X 106 l) (hl : l.length = 6) (hne : B ≠ X) (hk : Kp X (.slice none 0 0) u x) : PA x B s pn pa := by
  have np : ∀ o p, NP u B o p → NP x B o p := by
    intro o p hp
    match o, hp with
    | none, hp => exact hp
    | some (y, z), ⟨K, h1, h2, h3⟩ =>
      have hKX : K ≠ X := by
        intro e
        subst e
        have e1 := h2.row
        have e2 : Blk u K 106 l := hX
        have e3 : (some (Obj.cells #[.int .i64 y, .int .i64 z] 102) : Option Obj) = some (.cells l.toArray 106) := (show u.heap[K]? = _ from h2).symm.trans e2
        simp at e3
      exact ⟨K, h1, h2.on (hk.block K h2.lt hKX (fun e => by cases e)), h3⟩
  exact ⟨h.blk.on (hk.block B h.blk.lt hne (fun e => by cases e)), np _ _ h.no, np _ _ h.ap, h.ok⟩
theorem PH.hear {w u x : World} {C B X : Nat} {N D T : Int} {s : PD} {pn pa : Value} {l : List Value} (h : PH w u C B N D T s pn pa) (hX : Blk u X 106 l) (hl : l.length = 6) (hne : B ≠ X) (hnc : C ≠ X) (hwX : w.heap.size ≤ X) (hk : Kp X (.slice none 0 0) u x) : PH w x C B N D T s pn pa :=
  ⟨⟨h.q.a.hear hX hl hne hk, h.q.below.trans (hk.belowN hwX h.q.below.size (fun k e => by cases e)), h.q.la⟩, h.c.on (hk.block C h.c.lt hnc (fun e => by cases e)), h.ne⟩
end Go.Proofs.Ytpamkmpaldepnaa
