/- Who sends: two of them in one memory, and a new one of any frame. Conditions: the divisor's cells hold what the program's own text lays in them. -/
import Derived.Test.YtmfnkfiocnngeaaDoorSpg
namespace Go.Proofs.YtmfnkfiocnngeaaDoor
open Go.RowKit Go.Shelf
theorem SPA.kp {w w' : World} {B D C : Nat} {fr : List Value} {L : List PB} {k : Nat} {on : Bool} (h : SPA w B D fr L k on) (hk : Kp C (.slice none 0 0) w w') (hB : B ≠ C) (hD : D ≠ C) : SPA w' B D fr L k on :=
  ⟨h.blk.on (hk.block B h.blk.lt hB (by rw [ownN]; simp)), h.parts.on (hk.block D h.parts.lt hD (by rw [ownN]; simp)), h.fr12, h.ne⟩
theorem SPA.ltOf {w : World} {B D : Nat} {fr : List Value} {L : List PB} {k : Nat} {on : Bool} (h : SPA w B D fr L k on) : B < w.heap.size := h.blk.lt
theorem kp_low {w w' : World} {B : Nat} (h : Kp B (.slice none 0 0) w w') (hB : B ≤ w.heap.size) : Below B w w' := h.below hB (fun k e => by rw [ownN] at e; exact absurd e (by simp))
theorem shd_kp (B D : Nat) (fr : List Value) (L : List PB) (k : Nat) (b : Nat) (a e s l : Bool) (hp : L[k]? = some ⟨b, a, e, s, l⟩) (hL : L.length ≤ 1000) (x V : Nat) (hV : verd b a e s l x = V) (hfin : V = 0 → k + 1 < L.length) (w : World) (hS : SPA w B D fr L k true) :
    Calls Tryd.prog 33 #[.pointer (some ⟨B, 0, none⟩), .int .u8 (x : Int)] w fun y w' => y = .returned (.int .i64 (V : Int)) ∧ SPA w' B D fr L (k + 1) (decide (V = 0)) ∧ Kp B (.slice none 0 0) w w' := by
  subst hV
  exact phd_on B D fr L k b a e s l hp hL x hfin w hS
theorem snew_any (e : Bool) (n : Nat) (hn : n < 4294967296) (r : Bool) (m : Int) (data : List Nat) (hd : data.length = 8) (hdb : ∀ x ∈ data, x < 256) (w : World) (h0 : 1 < w.heap.size) (hT : Tab w) :
    Calls Tryd.prog 28 #[frameV e n r m data] w fun y w' => ∃ p, y = .returned (.tuple #[.pointer p, .int .i64 ((rightF e n r m data : Nat) : Int)]) ∧ Below w.heap.size w w' ∧ (rightF e n r m data ≠ 0 → p = none) ∧ (rightF e n r m data = 0 → ∃ (k B D : Nat), m = (k : Int) ∧ p = some ⟨B, 0, none⟩ ∧ w.heap.size ≤ B ∧ w.heap.size ≤ D ∧ SPA w' B D (frameC e n r m data) (partsB (1 + (idBits e n r).length) (stuffB (bodyB e n r k data))) 0 true) := by
  by_cases hok : rightF e n r m data = 0
  · obtain ⟨k, rfl⟩ : ∃ k : Nat, m = k := by
      by_cases hneg : m < 0
      · exfalso
        unfold rightF at hok
        split at hok
        · exact absurd hok (by decide)
        · rw [if_pos (.inl hneg)] at hok; exact absurd hok (by decide)
      · exact ⟨m.toNat, by omega⟩
    refine (snew_yes e n hn r k data hd hdb hok w h0 hT).mono ?_
    rintro y w' ⟨B, D, rfl, h1, h2, h3, h4⟩
    exact ⟨some ⟨B, 0, none⟩, by rw [hok]; rfl, h4, fun h => absurd hok h, fun _ => ⟨k, B, D, rfl, rfl, h1, h2, h3⟩⟩
  · refine (snew_no e n r m data hd _ rfl hok w).mono ?_
    rintro y w' ⟨rfl, h4⟩
    exact ⟨none, rfl, h4, fun _ => rfl, fun h => absurd h hok⟩
end Go.Proofs.YtmfnkfiocnngeaaDoor
