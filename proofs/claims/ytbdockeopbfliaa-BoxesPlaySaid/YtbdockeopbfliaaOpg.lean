/- Structs, and slices of structs, that are handed to a statement, opened. No conditions. -/
import Derived.Test.YtbdockeopbfliaaInb
import Derived.WalkKit
import Derived.ProofKit
import Derived.OpenShut
import Derived.Lib.SmallJoins
import Derived.Deep.Strs
import Derived.Deep.Slices
namespace Go.Proofs.Ytbdockeopbfliaa
open Go.ChangeShapes Go.WideShapes Go.ChangeAt Go.RowKit
theorem wfI8 {a : Int} (h : (Lit.int .u8 a).wf = true) : 0 ≤ a ∧ a < 256 := by
  simp [Lit.wf, IntKind.min, IntKind.max, IntKind.bits, IntKind.signed] at h
  omega
theorem wfI32 {a : Int} (h : (Lit.int .u32 a).wf = true) : 0 ≤ a ∧ a < 4294967296 := by
  simp [Lit.wf, IntKind.min, IntKind.max, IntKind.bits, IntKind.signed] at h
  omega
def SD.wf (s : SD) : Prop := (0 ≤ s.n ∧ s.n < 4294967296) ∧ (0 ≤ s.x0 ∧ s.x0 < 256) ∧ (0 ≤ s.x1 ∧ s.x1 < 256) ∧ (0 ≤ s.x2 ∧ s.x2 < 256) ∧ (0 ≤ s.x3 ∧ s.x3 < 256) ∧ (0 ≤ s.x4 ∧ s.x4 < 256) ∧ (0 ≤ s.x5 ∧ s.x5 < 256) ∧ (0 ≤ s.x6 ∧ s.x6 < 256) ∧ (0 ≤ s.x7 ∧ s.x7 < 256)
def Fl.wf (f : Fl) : Prop := (0 ≤ f.m ∧ f.m < 4294967296) ∧ (0 ≤ f.t ∧ f.t < 4294967296)
theorem array12G {α : Type} {cs : Array α} (h : cs.size = 12) : ∃ c0 c1 c2 c3 c4 c5 c6 c7 c8 c9 c10 c11, cs = #[c0, c1, c2, c3, c4, c5, c6, c7, c8, c9, c10, c11] := by
  obtain ⟨l⟩ := cs
  match l, h with
  | [c0, c1, c2, c3, c4, c5, c6, c7, c8, c9, c10, c11], _ => exact ⟨c0, c1, c2, c3, c4, c5, c6, c7, c8, c9, c10, c11, rfl⟩
theorem Rd.len14 {W : World} {a : Option Addr} {n cap : Nat} {L : List SD} (h : Rd W 14 (.slice a n cap) (stC L)) : n = L.length := by
  obtain ⟨n', cap', a', e, h1, _⟩ := h
  injection e with e1 e2 e3
  subst e1 e2 e3
  rw [stC_len] at h1
  omega
theorem Rd.sd {W : World} {a : Option Addr} {n cap : Nat} {L : List SD} (h : Rd W 14 (.slice a n cap) (stC L)) {j : Nat} (hj : j < L.length) : n = L.length ∧ ∃ g off, a = some ⟨g, off, none⟩ ∧ g < W.heap.size ∧ ∀ i u, L[j].C[i]? = some u → W.cell? ⟨g, off + j * 14 + i, none⟩ = some u := by
  have hn := h.len14
  obtain ⟨n', cap', a', e, h1, h2, h3, h4⟩ := h
  obtain ⟨e1, e2, e3⟩ := Value.slice.inj e
  rw [← e2] at h1 h4
  rw [← e1] at h4
  refine ⟨hn, ?_⟩
  rcases h4 with h5 | ⟨g, off, rfl, hg, hc⟩
  · omega
  · refine ⟨g, off, rfl, hg, fun i u hi => ?_⟩
    have hl : i < 14 := (List.getElem?_eq_some_iff.1 hi).1
    rw [Nat.add_assoc]
    exact hc (j * 14 + i) u ((flat_at 14 SD.C (fun _ => rfl) L j i hj hl).trans hi)
section
variable {H : Type} {enc : TypeId × Value → H} {W : World} {base : Nat} {sp : Nat → Bool} {held : Bool} {r : Reach} {b0 : Nat} {v : Value} {d : DataW H} {p : List MemPlace}
theorem byteG {fuel : Nat} {c : Value} {x : DataW H × List MemPlace} (h : DataW.trod enc Try.prog W base sp held fuel 5 [c] = some x) : ∃ n : Int, c = .int .u8 n ∧ 0 ≤ n ∧ n < 256 := by
  obtain ⟨n, hn, _, hw⟩ := DataW.trod_int Try.underlying5 h
  have hr := wfI8 hw
  obtain rfl : c = .int .u8 n := by simpa using hn
  exact ⟨n, rfl, hr⟩
theorem bytesG {fuel : Nat} {c4 c5 c6 c7 c8 c9 c10 c11 : Value} {x : DataW H × List MemPlace} (h : DataW.trod enc Try.prog W base sp held fuel 35 [c4, c5, c6, c7, c8, c9, c10, c11] = some x) : ∃ x0 x1 x2 x3 x4 x5 x6 x7 : Int, [c4, c5, c6, c7, c8, c9, c10, c11] = [.int .u8 x0, .int .u8 x1, .int .u8 x2, .int .u8 x3, .int .u8 x4, .int .u8 x5, .int .u8 x6, .int .u8 x7] ∧ (0 ≤ x0 ∧ x0 < 256) ∧ (0 ≤ x1 ∧ x1 < 256) ∧ (0 ≤ x2 ∧ x2 < 256) ∧ (0 ≤ x3 ∧ x3 < 256) ∧ (0 ≤ x4 ∧ x4 < 256) ∧ (0 ≤ x5 ∧ x5 < 256) ∧ (0 ≤ x6 ∧ x6 < 256) ∧ (0 ≤ x7 ∧ x7 < 256) := by
  obtain ⟨ys, m, _, _, _, hlen, hf⟩ := DataW.trod_array Try.underlying35 h
  have hu : Try.prog.cellsOf 5 = 1 := by kernel_rfl
  rw [hu] at hf
  match ys, hlen with
  | [y0, y1, y2, y3, y4, y5, y6, y7], _ =>
    obtain ⟨n0, rfl, h0⟩ := byteG (by simpa using hf 0 (by omega))
    obtain ⟨n1, rfl, h1⟩ := byteG (by simpa using hf 1 (by omega))
    obtain ⟨n2, rfl, h2⟩ := byteG (by simpa using hf 2 (by omega))
    obtain ⟨n3, rfl, h3⟩ := byteG (by simpa using hf 3 (by omega))
    obtain ⟨n4, rfl, h4⟩ := byteG (by simpa using hf 4 (by omega))
    obtain ⟨n5, rfl, h5⟩ := byteG (by simpa using hf 5 (by omega))
    obtain ⟨n6, rfl, h6⟩ := byteG (by simpa using hf 6 (by omega))
    obtain ⟨n7, rfl, h7⟩ := byteG (by simpa using hf 7 (by omega))
    exact ⟨n0, n1, n2, n3, n4, n5, n6, n7, rfl, h0, h1, h2, h3, h4, h5, h6, h7⟩
set_option maxRecDepth 100000 in
/-- A frame's cells. -/
theorem frameG {fuel : Nat} {cs : List Value} {x : DataW H × List MemPlace} (hl : cs.length = 12) (h : DataW.trod enc Try.prog W base sp held fuel 37 cs = some x) : ∃ (e : Bool) (n : Int) (q : Bool) (l x0 x1 x2 x3 x4 x5 x6 x7 : Int), cs = [.bool e, .int .u32 n, .bool q, .int .i64 l, .int .u8 x0, .int .u8 x1, .int .u8 x2, .int .u8 x3, .int .u8 x4, .int .u8 x5, .int .u8 x6, .int .u8 x7] ∧ (0 ≤ n ∧ n < 4294967296) ∧ (0 ≤ x0 ∧ x0 < 256) ∧ (0 ≤ x1 ∧ x1 < 256) ∧ (0 ≤ x2 ∧ x2 < 256) ∧ (0 ≤ x3 ∧ x3 < 256) ∧ (0 ≤ x4 ∧ x4 < 256) ∧ (0 ≤ x5 ∧ x5 < 256) ∧ (0 ≤ x6 ∧ x6 < 256) ∧ (0 ≤ x7 ∧ x7 < 256) := by
  obtain ⟨c0, c1, c2, c3, c4, c5, c6, c7, c8, c9, c10, c11, hcs⟩ : ∃ c0 c1 c2 c3 c4 c5 c6 c7 c8 c9 c10 c11, cs = [c0, c1, c2, c3, c4, c5, c6, c7, c8, c9, c10, c11] := by
    match cs, hl with
    | [c0, c1, c2, c3, c4, c5, c6, c7, c8, c9, c10, c11], _ => exact ⟨c0, c1, c2, c3, c4, c5, c6, c7, c8, c9, c10, c11, rfl⟩
  subst hcs
  obtain ⟨y0, y1, y2, y3, m, _, _, h0, h1, h2, h3⟩ := Joins.trod_struct4 Try.underlying37 h
  have sID : Try.prog.cellsOf 34 = 2 := by kernel_rfl
  have sBO : Try.prog.cellsOf 4 = 1 := by kernel_rfl
  have sINT : Try.prog.cellsOf 3 = 1 := by kernel_rfl
  have sA8 : Try.prog.cellsOf 35 = 8 := by kernel_rfl
  have sU32 : Try.prog.cellsOf 32 = 1 := by kernel_rfl
  simp [sID] at h0
  simp [sBO] at h1
  simp [sINT] at h2
  simp [sA8] at h3
  obtain ⟨z0, z1, m2, _, _, g0, g1⟩ := trod_struct2 Try.underlying34 h0
  simp [sBO] at g0
  simp [sU32] at g1
  obtain ⟨e, he, _⟩ := DataW.trod_bool Try.underlying4 g0
  obtain ⟨n, hnn, _, hw⟩ := DataW.trod_int Try.underlying32 g1
  obtain ⟨q, hq, _⟩ := DataW.trod_bool Try.underlying4 h1
  obtain ⟨l, hll, _, _⟩ := DataW.trod_int Try.underlying3 h2
  obtain ⟨x0, x1, x2, x3, x4, x5, x6, x7, hx, hxb⟩ := bytesG h3
  have hr := wfI32 hw
  obtain rfl : c0 = .bool e := by simpa using he
  obtain rfl : c1 = .int .u32 n := by simpa using hnn
  obtain rfl : c2 = .bool q := by simpa using hq
  obtain rfl : c3 = .int .i64 l := by simpa using hll
  exact ⟨e, n, q, l, x0, x1, x2, x3, x4, x5, x6, x7, by rw [hx], hr, hxb⟩
/-- A slice of structs of k cells. -/
theorem open_rows {S : Type} (C : S → List Value) (wf : S → Prop) (k : Nat) (hk : 0 < k) {T E : TypeId} (hu : Try.prog.underlying T = some (.slice E)) (hc : Try.prog.cellsOf E = k) (hCl : ∀ s, (C s).length = k)
    (hcell : ∀ fuel cs x, cs.length = k → DataW.trod enc Try.prog W base sp held fuel E cs = some x → ∃ s, cs = C s ∧ wf s) {fuel : Nat} {a : Option Addr} {len cap : Nat} {x : DataW H × List MemPlace} (h : DataW.trod enc Try.prog W base sp held fuel T [.slice a len cap] = some x) :
    ∃ L : List S, L.length = len ∧ (∀ s ∈ L, wf s) ∧ Rd W k (.slice a len cap) (L.flatMap C) := by
  rcases Deep.open_slice hu h with ⟨hcs, _⟩ | ⟨ad, len', cap', m, n, D, Pl, hcs, hb, hl, hm, hmm, _, hall⟩
  · injection hcs with hcs _
    injection hcs with h1 h2 h3
    subst h1 h2 h3
    exact ⟨[], rfl, fun s h => (by cases h), 0, 0, _, rfl, by simp, Nat.le_refl _, Nat.zero_le _, .inl rfl⟩
  · injection hcs with hcs _
    injection hcs with h1 h2 h3
    subst h1 h2 h3
    by_cases h0 : len = 0
    · subst h0
      exact ⟨[], rfl, fun s h => (by cases h), 0, cap, _, rfl, by simp, hl, hm, .inl rfl⟩
    have hlm : len ≤ m := by rw [hmm]; split <;> omega
    rw [hc] at hall
    obtain ⟨b, off, spot⟩ := ad
    have cell0 : ∀ j : Fin len, ∃ s : S, wf s ∧ ∀ i, i < k → W.cell? (((⟨b, off, spot⟩ : Addr).add (j.val * k)).add i) = (C s)[i]? := by
      intro j
      obtain ⟨cs', h1, h2⟩ := hall j.val (by have := j.isLt; omega)
      obtain ⟨_, hlen, hcell'⟩ := World.cells?_some h1
      obtain ⟨s, rfl, hw⟩ := hcell _ _ _ hlen h2
      exact ⟨s, hw, hcell'⟩
    have hspot : spot = none := by
      obtain ⟨s, _, hs⟩ := cell0 ⟨0, by omega⟩
      have h1 := hs 0 hk
      rw [List.getElem?_eq_getElem (by rw [hCl]; exact hk)] at h1
      have := World.cell?_spot h1
      simpa [Addr.add] using this
    subst hspot
    have hadd : ∀ j i, (((⟨b, off, none⟩ : Addr).add (j * k)).add i) = ⟨b, off + j * k + i, none⟩ := fun j i => by rw [Addr.add_lit, Addr.add_lit]
    have hch : ∃ f : Fin len → S, ∀ j, wf (f j) ∧ ∀ i, i < k → W.cell? (((⟨b, off, none⟩ : Addr).add (j.val * k)).add i) = (C (f j))[i]? :=
      ⟨fun j => Classical.choose (cell0 j), fun j => Classical.choose_spec (cell0 j)⟩
    obtain ⟨f, hf⟩ := hch
    refine ⟨List.ofFn f, by simp, fun s hs => ?_, len, cap, _, rfl, ?_, hl, hm, .inr ⟨b, off, rfl, ?_, fun j u hj => ?_⟩⟩
    · obtain ⟨j, rfl⟩ := List.mem_ofFn.1 hs
      exact (hf j).1
    · rw [flat_len k C hCl]; simp
    · have h1 := (hf ⟨0, by omega⟩).2 0 hk
      rw [hadd, List.getElem?_eq_getElem (by rw [hCl]; exact hk)] at h1
      exact cell_ltG h1
    · have hlt := (List.getElem?_eq_some_iff.1 hj).1
      rw [flat_len k C hCl, List.length_ofFn] at hlt
      have hdiv : j / k < len := (Nat.div_lt_iff_lt_mul hk).2 hlt
      have hmod : j % k < k := Nat.mod_lt _ hk
      have e : j / k * k + j % k = j := by rw [Nat.mul_comm]; exact Nat.div_add_mod j k
      have h2 := flat_at k C hCl (List.ofFn f) (j / k) (j % k) (by simpa using hdiv) hmod
      rw [e, hj] at h2
      have h3 := (hf ⟨j / k, hdiv⟩).2 (j % k) hmod
      rw [hadd, Nat.add_assoc, e] at h3
      rw [h3, h2]
      simp
set_option maxRecDepth 100000 in
theorem open_frameI (hv : Value.okWide Try.prog W r b0 37 v) (h : DataW.Trod enc Try.prog W base sp held 37 v d p) : ∃ (e : Bool) (n : Int) (q : Bool) (l x0 x1 x2 x3 x4 x5 x6 x7 : Int), v = .agg #[.bool e, .int .u32 n, .bool q, .int .i64 l, .int .u8 x0, .int .u8 x1, .int .u8 x2, .int .u8 x3, .int .u8 x4, .int .u8 x5, .int .u8 x6, .int .u8 x7] ∧ (0 ≤ n ∧ n < 4294967296) := by
  obtain ⟨cs, rfl, hsz⟩ := okWide_struct Try.underlying37 hv
  obtain ⟨c0, c1, c2, c3, c4, c5, c6, c7, c8, c9, c10, c11, rfl⟩ := array12G (hsz.trans (by kernel_rfl))
  obtain ⟨fuel, hf⟩ := h
  obtain ⟨e, n, q, l, x0, x1, x2, x3, x4, x5, x6, x7, hx, hw, _⟩ := frameG (cs := [c0, c1, c2, c3, c4, c5, c6, c7, c8, c9, c10, c11]) rfl (by simpa [Value.cells] using hf)
  simp only [List.cons.injEq, and_true] at hx
  obtain ⟨rfl, rfl, rfl, rfl, rfl, rfl, rfl, rfl, rfl, rfl, rfl, rfl⟩ := hx
  exact ⟨e, n, q, l, x0, x1, x2, x3, x4, x5, x6, x7, rfl, hw⟩
end
end Go.Proofs.Ytbdockeopbfliaa
