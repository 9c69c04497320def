/- Frames that are handed to a statement as a slice, opened. No conditions. -/
import Derived.Test.YtndjennhbggoiaaDoorOpe
import Derived.Deep.Slices
namespace Go.Proofs.YtndjennhbggoiaaDoor
open Go.ChangeShapes Go.WideShapes Go.ChangeAt Go.RowKit
section
variable {H : Type} {enc : TypeId × Value → H} {W : World} {base : Nat} {sp : Nat → Bool} {held : Bool}
set_option maxRecDepth 100000 in
theorem open_frame_cells {fuel : Nat} {cs : List Value} {x : DataW H × List MemPlace} (hl : cs.length = 12) (hf : DataW.trod enc Tryd.prog W base sp held fuel 27 cs = some x) : ∃ (e : Bool) (n : Nat) (q : Bool) (l : Int) (x : List Nat), cs = frameC e n q l x ∧ n < 4294967296 ∧ x.length = 8 ∧ ∀ y ∈ x, y < 256 := by
  obtain ⟨c0, c1, c2, c3, c4, c5, c6, c7, c8, c9, c10, c11, hcs⟩ : ∃ c0 c1 c2 c3 c4 c5 c6 c7 c8 c9 c10 c11, cs = [c0, c1, c2, c3, c4, c5, c6, c7, c8, c9, c10, c11] := by
    match cs, hl with
    | [c0, c1, c2, c3, c4, c5, c6, c7, c8, c9, c10, c11], _ => exact ⟨c0, c1, c2, c3, c4, c5, c6, c7, c8, c9, c10, c11, rfl⟩
  subst hcs
  obtain ⟨y0, y1, y2, y3, m, _, _, h0, h1, h2, h3⟩ := Joins.trod_struct4 Tryd.underlying27 hf
  have hi : Tryd.prog.cellsOf 24 = 2 := by kernel_rfl
  have hb : Tryd.prog.cellsOf 4 = 1 := by kernel_rfl
  have hn : Tryd.prog.cellsOf 3 = 1 := by kernel_rfl
  have ha : Tryd.prog.cellsOf 25 = 8 := by kernel_rfl
  have hu : Tryd.prog.cellsOf 22 = 1 := by kernel_rfl
  simp [hi] at h0
  simp [hb] at h1
  simp [hn] at h2
  simp [ha] at h3
  obtain ⟨z0, z1, m2, _, _, g0, g1⟩ := trod_struct2 Tryd.underlying24 h0
  simp [hb] at g0
  simp [hu] at g1
  obtain ⟨e, he, _⟩ := DataW.trod_bool Tryd.underlying4 g0
  obtain ⟨n, hnn, _, hw⟩ := DataW.trod_int Tryd.underlying22 g1
  obtain ⟨q, hq, _⟩ := DataW.trod_bool Tryd.underlying4 h1
  obtain ⟨l, hll, _, _⟩ := DataW.trod_int Tryd.underlying3 h2
  obtain ⟨x, hx8, hxb, hx⟩ := bytes_cells h3
  have hr := wfu32' hw
  obtain rfl : c0 = .bool e := by simpa using he
  obtain rfl : c1 = .int .u32 n := by simpa using hnn
  obtain rfl : c2 = .bool q := by simpa using hq
  obtain rfl : c3 = .int .i64 l := by simpa using hll
  refine ⟨e, n.toNat, q, l, x, ?_, by omega, hx8, hxb⟩
  unfold frameC
  rw [← hx, show ((n.toNat : Nat) : Int) = n by omega]
/-- What a walk is told of a slice of frames that came in. -/
def FrRow (w : World) (a : Option Addr) (len : Nat) : Prop := len = 0 ∨ ∃ b off, a = some ⟨b, off, none⟩ ∧ b < w.heap.size ∧ ∀ j, j < len → ∃ (e : Bool) (n : Nat) (q : Bool) (l : Int) (x : List Nat), n < 4294967296 ∧ x.length = 8 ∧ (∀ y ∈ x, y < 256) ∧ ∀ k, k < 12 → w.cell? ⟨b, off + j * 12 + k, none⟩ = (frameC e n q l x)[k]?
set_option maxRecDepth 100000 in
theorem open_frames {fuel : Nat} {a : Option Addr} {len cap : Nat} {x : DataW H × List MemPlace} (h : DataW.trod enc Tryd.prog W base sp held fuel 56 [.slice a len cap] = some x) : FrRow W a len ∧ cap ≤ maxLen ∧ len ≤ cap := by
  have hc : Tryd.prog.cellsOf 27 = 12 := by kernel_rfl
  rcases Deep.open_slice Tryd.underlying56 h with ⟨hcs, _⟩ | ⟨ad, len', cap', m, n, D, Pl, hcs, hb, hl, hm, hmm, _, hall⟩
  · injection hcs with hcs _
    injection hcs with h1 h2 h3
    subst h1 h2 h3
    exact ⟨.inl rfl, Nat.zero_le _, Nat.le_refl _⟩
  · injection hcs with hcs _
    injection hcs with h1 h2 h3
    subst h1 h2 h3
    refine ⟨?_, hm, hl⟩
    by_cases h0 : len = 0
    · exact .inl h0
    refine .inr ?_
    have hlm : len ≤ m := by rw [hmm]; split <;> omega
    rw [hc] at hall
    obtain ⟨b, off, spot⟩ := ad
    have cell0 : ∀ j, j < len → ∃ (e : Bool) (n : Nat) (q : Bool) (l : Int) (x : List Nat), n < 4294967296 ∧ x.length = 8 ∧ (∀ y ∈ x, y < 256) ∧ ∀ k, k < 12 → W.cell? (((⟨b, off, spot⟩ : Addr).add (j * 12)).add k) = (frameC e n q l x)[k]? := by
      intro j hj
      obtain ⟨cs', h1, h2⟩ := hall j (by omega)
      obtain ⟨_, hlen, hcell⟩ := World.cells?_some h1
      obtain ⟨e, n, q, l, x, rfl, hn, hx, hxb⟩ := open_frame_cells hlen h2
      exact ⟨e, n, q, l, x, hn, hx, hxb, hcell⟩
    have hspot : spot = none := by
      obtain ⟨e, n, q, l, x, _, hx, _, hk⟩ := cell0 0 (by omega)
      have h1 := hk 0 (by omega)
      rw [show (frameC e n q l x)[0]? = some (Value.bool e) from rfl] at h1
      have := World.cell?_spot h1
      simpa [Addr.add] using this
    subst hspot
    have hadd : ∀ j k, (((⟨b, off, none⟩ : Addr).add (j * 12)).add k) = ⟨b, off + j * 12 + k, none⟩ := fun j k => by
      rw [Deep.add_add]
      unfold Addr.add
      split
      · rename_i h; rw [show off + j * 12 + k = off by omega]
      · show (⟨b, off + (j * 12 + k), none⟩ : Addr) = _
        rw [Nat.add_assoc]
    refine ⟨b, off, rfl, ?_, fun j hj => ?_⟩
    · obtain ⟨e, n, q, l, x, _, hx, _, hk⟩ := cell0 0 (by omega)
      have h1 := hk 0 (by omega)
      rw [hadd, show (frameC e n q l x)[0]? = some (Value.bool e) from rfl] at h1
      exact cell_lt h1
    · obtain ⟨e, n, q, l, x, hn, hx, hxb, hk⟩ := cell0 j hj
      exact ⟨e, n, q, l, x, hn, hx, hxb, fun k hkk => by rw [← hadd]; exact hk k hkk⟩
end
end Go.Proofs.YtndjennhbggoiaaDoor
