/- Bits that a listener of the code hears one by one; and what must be whatever is asked (live of layer 8). Conditions: not more than nine hundred bits. -/
import Derived.Test.YtndjennhbggoiaaDoorLig
import Derived.Test.YtndjennhbggoiaaDoorWrf
namespace Go.Proofs.YtndjennhbggoiaaDoor
open Go.RowKit Go.Shelf
theorem Kp.ow {B n : Nat} {v bv : Value} {w w' : World} {E : List Nat} (h : Kp B v w w') (hs : Ow n w bv E) (hB : bv.ownBlock ≠ some B) (hv : ∀ k, bv.ownBlock = some k → v.ownBlock ≠ some k) : Ow n w' bv E := by
  obtain ⟨h1, h2⟩ := hs
  rcases h2 with hn | ⟨g, cap, cur, rfl, hb, hgg, rest⟩
  · exact ⟨h1, .inl hn⟩
  · have hg : (Value.slice (some ⟨g, 0, none⟩) E.length cap).ownBlock = some g := by simp [Value.ownBlock]
    have hlt : g < w.heap.size := by
      by_cases c : g < w.heap.size
      · exact c
      · rw [Array.getElem?_eq_none (by omega)] at hgg; exact absurd hgg (by simp)
    exact ⟨h1, .inr ⟨g, cap, cur, rfl, hb, (h.block g hlt (fun e => hB (by rw [hg, e])) (hv g hg)).trans hgg, rest⟩⟩
/-- A listener that has heard the first j bits. -/
structure Hr (w0 : World) (B : Nat) (bs : List Nat) (j : Nat) (wr : World) (v : Value) : Prop where
  la : LA wr B (LS0.run (bs.take j)) v
  kp : Kp B (.slice none 0 0) w0 wr
  nx : Nx w0 (.slice none 0 0) v
theorem own_none : (Value.slice none 0 0).ownBlock = none := rfl
theorem Hr.ge {w0 wr : World} {B j : Nat} {bs : List Nat} {v : Value} (h : Hr w0 B bs j wr v) (hB : B < w0.heap.size) : Below B w0 wr := h.kp.below (by omega) (fun k e => by rw [own_none] at e; exact absurd e (by simp))
theorem Hr.start {w0 : World} {B : Nat} {bs : List Nat} (h : LA w0 B LS0 (.slice none 0 0)) : Hr w0 B bs 0 w0 (.slice none 0 0) := ⟨h, Kp.refl _ _ _, Nx.refl _ _⟩
theorem Hr.ow {w0 wr : World} {B j n : Nat} {bs : List Nat} {v bv : Value} {E : List Nat} (h : Hr w0 B bs j wr v) (hs : Ow n w0 bv E) (hB : bv.ownBlock ≠ some B) : Ow n wr bv E := h.kp.ow hs hB (fun k _ => by rw [own_none]; simp)
theorem Hr.step {w0 wr : World} {B j : Nat} {bs : List Nat} {v : Value} (h : Hr w0 B bs j wr v) (hj : j < bs.length) (hl : bs.length ≤ 900) (h0 : 0 < B) (hB : B < w0.heap.size) (hT : Tab w0) :
    Calls Tryd.prog 39 #[.pointer (some ⟨B, 0, none⟩), .int .u8 ((bs[j]?.getD 0 : Nat) : Int)] wr fun y w' => ∃ v', y = .returned (.int .i64 ((((LS0.run (bs.take j)).hear (bs[j]?.getD 0)).2 : Nat) : Int)) ∧ Hr w0 B bs (j + 1) w' v' := by
  have hk := LS.run_ok LS0 0 LS0_ok (bs.take j)
  have hlj : (bs.take j).length ≤ 900 := by rw [List.length_take]; omega
  refine (hear_any B (LS0.run (bs.take j)) v (bs[j]?.getD 0) hk.p hk.r (by have := hk.raw; omega) (by have := hk.en; omega) (by have := hk.h; omega) wr h0 (hT.onB (h.ge hB) h0) h.la).mono ?_
  rintro y w' ⟨v', rfl, h1, h2, h3⟩
  exact ⟨v', rfl, ⟨by rw [LS.run_take _ _ _ hj]; exact h1, h.kp.trans h2 h.nx, h.nx.trans h3 h.kp.size⟩⟩
theorem place_nil (w : World) : Calls Tryd.prog 47 #[.pointer none] w fun y w' => y = .returned (.int .i64 5) ∧ w = w' := by
  go_enter Tryd.func47, Tryd.ntmps47
  go_wp2_with fail
  go_ret
  exact ⟨rfl, rfl⟩
theorem heard_nil (w : World) : Calls Tryd.prog 95 #[.pointer none] w fun y w' => y = .returned (.int .i64 0) ∧ w = w' := by
  go_enter Tryd.func95, Tryd.ntmps95
  go_wp2_with fail
  go_ret
  exact ⟨rfl, rfl⟩
theorem good_nil (w : World) : Calls Tryd.prog 43 #[.pointer none] w fun y w' => y = .returned (.bool false) ∧ w = w' := by
  have HP := Lib.hid (place_nil w)
  go_enter Tryd.func43, Tryd.ntmps43
  go_wp2_with fail
  refine HP.out.mono ?_
  rintro y w1 ⟨rfl, rfl⟩
  go_wp2_with fail
  go_ret
  exact ⟨rfl, rfl⟩
theorem hear_nil (w : World) (x : Nat) : Calls Tryd.prog 39 #[.pointer none, .int .u8 (x : Int)] w fun y w' => y = .returned (.int .i64 0) ∧ w = w' := by
  have HP := Lib.hid (place_nil w)
  go_enter Tryd.func39, Tryd.ntmps39
  go_wp2_with fail
  refine HP.out.mono ?_
  rintro y w1 ⟨rfl, rfl⟩
  go_wp2_with fail
  go_ret
  exact ⟨rfl, rfl⟩
end Go.Proofs.YtndjennhbggoiaaDoor
