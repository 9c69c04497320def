/- A field's way to one master begins. No program in it. Conditions: each theorem says its own. -/
import Derived.Test.YthgoaijfpdnolaaRkm
namespace Go.Proofs.Ythgoaijfpdnolaa
theorem I1.begins {b s p : Int} {n q : Nat} {L T : Int} {st : Fs} {told : List Int} (h : FI b s p n st told) (hc : Rc b s p) (hqn : q < n) (hoff : ∀ j, j < q → st j = none) {d : Nd} (hd : st q = some d) (hT : waitI b s q + 3 + L * p ≤ T) : I1 b s p n q L T 0 L st told := by
  have hok := h.ok q hqn d hd
  have hw := hc.wait q
  refine ⟨h, hoff, fun h => by omega, d, hd, ?_⟩
  cases hm : d.m with
  | false => exact .inl ⟨rfl, by have := hok.i0; omega⟩
  | true =>
    refine .inr ⟨rfl, fun k _ _ e _ => .inr ?_⟩
    have h1 := hok.m hm
    have := hc.b1
    unfold roadI; split <;> omega
theorem I2.begins {b s p : Int} {n q : Nat} {st : Fs} {told l : List Int} (h : FI b s p n st told) (hc : Rc b s p) {x : Int} {m : List Int} (hm : pickI n (mastB (tkS b s p l st)) = x :: m) (hx : x = (q : Int)) : q < n ∧ I2 b s p n q 0 (tkS b s p l st) (pickI n (tellB b s p l st)) := by
  obtain ⟨c, h1, h2, h3, h4⟩ := pick_head hm
  obtain rfl : c = q := by omega
  obtain ⟨d', h5, h6⟩ := mast_some h3
  have hfi := h.tick hc l
  refine ⟨h2, hfi, ⟨c, Nat.le_refl _, ⟨d', h5, h6⟩, fun r hr => ?_⟩, .inr ⟨d', h5, h6, ?_⟩⟩
  · obtain ⟨k, rfl, hk, hk2⟩ := pick_mem.1 hr
    obtain ⟨e, h7, h8⟩ := tell_some hk2
    by_cases hlt : k < c
    · have := h4 k hlt
      unfold mastB at this
      rw [tkS_of h7] at this
      exact absurd ((tk_told h8).1.symm.trans this) (by decide)
    · omega
  · have := (hfi.ok c h2 d' h5).m h6
    unfold roadI; split <;> omega
end Go.Proofs.Ythgoaijfpdnolaa
