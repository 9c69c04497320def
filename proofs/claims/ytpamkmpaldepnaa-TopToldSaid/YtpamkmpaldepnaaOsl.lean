/- Package osc: what must be whatever is asked (live of layer 16). No conditions. -/
import Derived.Test.YtpamkmpaldepnaaOsb
namespace Go.Proofs.Ytpamkmpaldepnaa
open Go.RowKit
theorem lo_a : stepE 0 101 = 0 ∧ stepC 0 101 = 101 ∧ stepU 100 2 0 false 101 = false := by decide +kernel
theorem lo_b : stepE 101 (-1) = 1 ∧ stepC 101 (-1) = 101 ∧ stepU 100 2 101 false (-1) = false := by decide +kernel
theorem lo_c : stepE 101 110 = 0 ∧ stepC 101 110 = 211 ∧ stepU 100 2 101 false 110 = true := by decide +kernel
theorem lo_d : expX 300 250 8 = 250 ∧ expO 300 250 8 = true ∧ expX 300 44 8 = 300 ∧ expO 300 44 8 = true ∧ expX 3 250 8 = 0 ∧ expO 3 250 8 = false ∧ stampI 300 8 = 44 := by decide +kernel
theorem lo_e : rightO 100 2 = true ∧ rightO 0 0 = false ∧ rightO 1 0 = true := by decide +kernel
end Go.Proofs.Ytpamkmpaldepnaa
