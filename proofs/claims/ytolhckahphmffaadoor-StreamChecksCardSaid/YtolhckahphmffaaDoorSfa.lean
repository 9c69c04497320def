/- The code of package stuff (clean, tidy, Due, Most): what it returns. Conditions: a byte is a byte. -/
import Derived.Test.YtolhckahphmffaaDoorBas
import Derived.Deep.DeepCutAuto
import Derived.Deep.RegionWith
namespace Go.Proofs.YtolhckahphmffaaDoor
open Go.RowKit Go.Shelf
theorem str_one (w : World) (x : Nat) (T : TypeId) : Str (w.alloc (.cells #[.int .u8 (x : Int)] T)).heap.size (w.alloc (.cells #[.int .u8 (x : Int)] T)) (.slice (some ⟨w.heap.size, 0, none⟩) 1 1) [x] :=
  .inr ⟨w.heap.size, 0, 1, rfl, Nat.le_refl _, by omega, by simp, fun j hj => by
    obtain rfl : j = 0 := by simpa using hj
    simp⟩
theorem u8_bit (x : Nat) : IntKind.u8.wrap ((numB (bitsOf [x]) : Nat) : Int) = ((bitN x : Nat) : Int) := by
  have h := bitN_le x
  have e : numB (bitsOf [x]) = bitN x := by
    show (2 * 0 + bitN x) % 18446744073709551616 = _
    omega
  rw [e, IntKind.wrap_u8]
  omega
/-- A run, as a value. -/
def runW (b : Nat) (n : Int) : Value := .agg #[.int .u8 (b : Int), .int .i64 n]
def dueW (b : Nat) (n : Int) : Nat × Bool := if n < 5 then (0, false) else (1 - bitN b, true)
def mostW (n : Int) : Int := if n < 1 ∨ 1073741824 < n then 0 else n + (n - 1) / 4
theorem most_any (n : Int) (w : World) : Calls Tryd.prog 72 #[.int .i64 n] w fun e w' => e = .returned (.int .i64 (mostW n)) ∧ w = w' := by
  by_cases h1 : n < 1
  · rw [show mostW n = 0 from if_pos (.inl h1)]
    go_enter Tryd.func72, Tryd.ntmps72
    go_wp2
    go_ret
    exact ⟨rfl, rfl⟩
  · by_cases h2 : 1073741824 < n
    · rw [show mostW n = 0 from if_pos (.inr h2)]
      go_enter Tryd.func72, Tryd.ntmps72
      go_wp2
      go_ret
      exact ⟨rfl, rfl⟩
    · rw [show mostW n = n + (n - 1) / 4 from if_neg (by omega)]
      go_enter Tryd.func72, Tryd.ntmps72
      go_wp2
      go_ret
      exact ⟨rfl, rfl⟩
end Go.Proofs.YtolhckahphmffaaDoor
