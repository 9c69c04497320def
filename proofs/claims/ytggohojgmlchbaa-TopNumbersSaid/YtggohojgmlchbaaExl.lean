/- What the fixed calls of package exact that every statement of its layer asks come to: true. No conditions. -/
import Derived.Test.YtggohojgmlchbaaExj
namespace Go.Proofs.Ytggohojgmlchbaa
open Go.RowKit
theorem below_trans {w w1 w2 : World} (h1 : Below w.heap.size w w1) (h2 : Below w1.heap.size w1 w2) : Below w.heap.size w w2 := h1.trans (h2.mono h1.size)
set_option maxHeartbeats 400000 in
theorem live_ex (w : World) : Calls Try.prog 21 #[] w fun e w' => e = .returned (.bool true) ∧ Below w.heap.size w w' := by
  have C1 := fun w => div_ex (-7) 2 (by omega) (by omega) w
  have C2 := fun w => mod_ex (-7) 2 (by omega) w
  have C3 := fun w => add_ex 9223372036854775807 1 (by omega) (by omega) w
  have C4 := fun w => scale_ex 4611686018427387904 3 6 (by omega) (by omega) (by omega) w
  have C5 := fun w => scale_ex 4611686018427387904 6 3 (by omega) (by omega) (by omega) w
  have C6 := fun w => clamp_ex 9 1 5 w
  rw [show divV (-7) 2 = .tuple #[.int .i64 (-4), .bool true] from rfl] at C1
  rw [show modV (-7) 2 = .tuple #[.int .i64 1, .bool true] from rfl] at C2
  rw [show okV (9223372036854775807 + 1) = noV by unfold okV; rw [fit_no (by omega), cut_no (by omega)]; rfl] at C3
  rw [scaleV_yes (by omega), show (4611686018427387904 : Int) * 3 / 6 = 2305843009213693952 by omega, show okV 2305843009213693952 = .tuple #[.int .i64 2305843009213693952, .bool true] by unfold okV; rw [fit_yes (by omega), cut_yes (by omega)]] at C4
  rw [scaleV_yes (by omega), show (4611686018427387904 : Int) * 6 / 3 = 9223372036854775808 by omega, show okV 9223372036854775808 = noV by unfold okV; rw [fit_no (by omega), cut_no (by omega)]; rfl] at C5
  rw [show clampV 9 1 5 = 5 from rfl] at C6
  unfold noV at C3 C5
  have D1 := Lib.hid C1; have D2 := Lib.hid C2; have D3 := Lib.hid C3; have D4 := Lib.hid C4; have D5 := Lib.hid C5; have D6 := Lib.hid C6
  clear C1 C2 C3 C4 C5 C6
  go_enter Try.func21, Try.ntmps21
  go_wp2_with (fail)
  refine (D1.out _).mono ?_
  rintro e w1 ⟨rfl, rfl⟩
  go_wp2_with (fail)
  refine (D2.out _).mono ?_
  rintro e w1 ⟨rfl, rfl⟩
  go_wp2_with (fail)
  refine (D3.out _).mono ?_
  rintro e w1 ⟨rfl, rfl⟩
  go_wp2_with (fail)
  refine (D4.out _).mono ?_
  rintro e w1 ⟨rfl, b1⟩
  have HB := Lib.hid b1; clear b1
  go_wp2_with (fail)
  refine (D5.out _).mono ?_
  rintro e w2 ⟨rfl, b2⟩
  have HB2 := Lib.hid (below_trans HB.out b2); clear b2 HB
  go_wp2_with (fail)
  refine (D6.out _).mono ?_
  rintro e w3 ⟨rfl, rfl⟩
  go_wp2_with (fail)
  go_ret
  exact ⟨rfl, HB2.out⟩
end Go.Proofs.Ytggohojgmlchbaa
