/- Layer 21's own: small configs, and acts that are done to a field. Conditions: each theorem says its own. -/
import Derived.Test.YtdfalipgfnjglaaKnl
import Derived.StillTailTactics
namespace Go.Proofs.Ytdfalipgfnjglaa
open Go.RowKit
def partI (n m : Int) : Int := if n < 0 then 0 else n % m
theorem part_in {n m : Int} (hm : 0 < m) : 0 ≤ partI n m ∧ partI n m < m := by
  unfold partI
  split
  · omega
  · exact ⟨Int.emod_nonneg n (by omega), Int.emod_lt_of_pos n hm⟩
theorem lw_part (n m : Int) (hm : 0 < m) (w : World) : Calls Try.prog 72 #[.int .i64 n, .int .i64 m] w fun y w' => y = .returned (.int .i64 (partI n m)) ∧ w = w' := by
  by_cases h : n < 0
  · have e : partI n m = 0 := if_pos h
    rw [e]
    clear e
    go_enter Try.func72, Try.ntmps72
    go_wp2_with fail
    go_ret
    exact ⟨rfl, rfl⟩
  · have e : partI n m = n % m := if_neg h
    rw [e]
    have hz : ¬ m = 0 := by omega
    clear e
    go_enter Try.func72, Try.ntmps72
    go_wp2_with fail
    go_ret
    exact ⟨rfl, rfl⟩
def smB (b l : Int) : Int := partI b 10 + (l + 2) * 6
def smS (s : Int) : Int := partI s 6 + 1
def smP (p : Int) : Int := partI p 5 + 1
theorem sm_rc (b s p l : Int) (hl : 0 ≤ l ∧ l ≤ 4) : Rc (smB b l) (smS s) (smP p) ∧ (smP p ≤ 5) ∧ (l + 2) * 6 ≤ smB b l := by
  have h1 := part_in (n := b) (m := 10) (by decide); have h2 := part_in (n := s) (m := 6) (by decide); have h3 := part_in (n := p) (m := 5) (by decide)
  unfold smB smS smP
  exact ⟨⟨by omega, by omega, by omega⟩, by omega, by omega⟩
variable {W X : World} {A NB : Nat} {b s p : Int} {pk : Nat → Nat} {st : Fs} {ta : Option Addr} {tc : Nat} {told : List Int}
theorem FA.Sbox (h : FA W A NB b s p 5 pk st ta tc told) : FC.S A NB 5 pk st W.heap.size → False := fun hS => by have := h.c.lt hS; omega
end Go.Proofs.Ytdfalipgfnjglaa
