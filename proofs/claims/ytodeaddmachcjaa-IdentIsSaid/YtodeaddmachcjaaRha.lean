/- The document's own answers of layer 4 in plain words (one, Due, Next, Most): what they return. Conditions: a byte is a byte. -/
import Derived.Test.YtodeaddmachcjaaSfm
import Derived.Test.YtodeaddmachcjaaRga
import Derived.Test.YtodeaddmachcjaaTwo
namespace Go.Proofs.Ytodeaddmachcjaa
open Go.RowKit Go.Shelf
/-- A run, as a value. -/
def runV (b : Nat) (n : Int) : Value := .agg #[.int .u8 (b : Int), .int .i64 n]
/-- What is due, and whether. -/
def dueB (b : Nat) (n : Int) : Nat × Bool := if n < 5 then (0, false) else (1 - bitN b, true)
/-- A run behind one more bit, and what that is: 0 data, 1 extra, 2 wrong. -/
def nextB (b : Nat) (n : Int) (v : Nat) : (Nat × Int) × Nat :=
  if 5 ≤ n then (if v = 1 - bitN b then ((v, 1), 1) else ((b, n), 2)) else if 0 < n ∧ bitN b = v then ((v, n + 1), 0) else ((v, 1), 0)
end Go.Proofs.Ytodeaddmachcjaa
