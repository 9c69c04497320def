/- Layer 19's own: small configs. Conditions: the arguments are numbers of 64 bits. -/
import Derived.Test.YtbjelggbnmfblaaAcl
namespace Go.Proofs.Ytbjelggbnmfblaa
open Go.RowKit
def posI (n : Int) : Int := if n < 0 then 0 else n
def smN (n : Int) : Int := posI n % 5000 + 2
def smD (n d : Int) : Int := posI d % (smN n / 2)
def smT (u : Int) : Int := posI u % 4097
theorem pos_ge (n : Int) : 0 ≤ posI n := by unfold posI; split <;> omega
theorem sm_in (n d u : Int) : (2 ≤ smN n ∧ smN n ≤ 5001) ∧ (0 ≤ smD n d ∧ smD n d < smN n / 2) ∧ (0 ≤ smT u ∧ smT u ≤ 4096) := by
  have h1 := pos_ge n; have h2 := pos_ge d; have h3 := pos_ge u
  have h4 : 2 ≤ smN n ∧ smN n ≤ 5001 := by unfold smN; omega
  refine ⟨h4, ?_, by unfold smT; omega⟩
  unfold smD
  exact ⟨Int.emod_nonneg _ (by omega), Int.emod_lt_of_pos _ (by omega)⟩
theorem sm_right (n d u : Int) : rightC (smN n) (smD n d) (smT u) = true := by
  obtain ⟨h1, h2, h3⟩ := sm_in n d u
  unfold rightC rightO
  simp
  omega
end Go.Proofs.Ytbjelggbnmfblaa
