/- The document's own Most in plain words: what it returns. No conditions. -/
import Derived.Test.YtdnonahpoklbfaaRha
namespace Go.Proofs.Ytdnonahpoklbfaa
open Go.RowKit Go.Shelf
/-- How long a string of so many bits is at most. -/
def mostB (n : Int) : Int := if n < 1 ∨ 1073741824 < n then 0 else n + (n - 1) / 4
theorem refMost_any (n : Int) (w : World) : Calls Try.prog 16 #[.int .i64 n] w fun e w' => e = .returned (.int .i64 (mostB n)) ∧ w = w' := by
  by_cases h1 : n < 1
  · rw [show mostB n = 0 from if_pos (.inl h1)]
    go_enter Try.func16, Try.ntmps16
    go_wp2
    go_ret
    exact ⟨rfl, rfl⟩
  · by_cases h2 : 1073741824 < n
    · rw [show mostB n = 0 from if_pos (.inr h2)]
      go_enter Try.func16, Try.ntmps16
      go_wp2
      go_ret
      exact ⟨rfl, rfl⟩
    · rw [show mostB n = n + (n - 1) / 4 from if_neg (by omega)]
      go_enter Try.func16, Try.ntmps16
      go_wp2
      go_ret
      exact ⟨rfl, rfl⟩
end Go.Proofs.Ytdnonahpoklbfaa
