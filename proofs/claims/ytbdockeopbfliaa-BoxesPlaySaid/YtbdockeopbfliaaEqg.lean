/- Arrays of eight bytes that are the same are told so. No conditions. -/
import Derived.Test.YtbdockeopbfliaaRows
import Derived.WalkKit
import Derived.ProofKit
import Derived.ChangeKeysEq
namespace Go.Proofs.Ytbdockeopbfliaa
open Go.RowKit
theorem eqs_step (d : Nat) (xs : Array Value) (i : Nat) (is : List Nat) (a : Int) (w : World) (hx : (part 5 xs (i * 1)).run Try.prog w = .ok (.int .u8 a) w) :
    (Op.eqItems (d + 1) 5 1 xs xs (i :: is)).run Try.prog w = (Op.eqItems (d + 1) 5 1 xs xs is).run Try.prog w := by
  have e := run_equalIn_int (P := Try.prog) w d 5 .u8 .u8 a a Try.underlying5
  simp only [Op.eqItems, Sem.run_bind, hx, Result.andThen_ok, e]
  simp
theorem eqs8 (d : Nat) (x0 x1 x2 x3 x4 x5 x6 x7 : Int) (w : World) : Sem.run Try.prog (Op.equalIn (d + 2) 35 (.agg #[.int .u8 x0, .int .u8 x1, .int .u8 x2, .int .u8 x3, .int .u8 x4, .int .u8 x5, .int .u8 x6, .int .u8 x7]) (.agg #[.int .u8 x0, .int .u8 x1, .int .u8 x2, .int .u8 x3, .int .u8 x4, .int .u8 x5, .int .u8 x6, .int .u8 x7])) w = .ok true w := by
  have hc : Try.prog.cellsOf 5 = 1 := by kernel_rfl
  rw [run_equalIn_array (P := Try.prog) w (d + 1) #[.int .u8 x0, .int .u8 x1, .int .u8 x2, .int .u8 x3, .int .u8 x4, .int .u8 x5, .int .u8 x6, .int .u8 x7] #[.int .u8 x0, .int .u8 x1, .int .u8 x2, .int .u8 x3, .int .u8 x4, .int .u8 x5, .int .u8 x6, .int .u8 x7] Try.underlying35 (show Try.prog.info? 5 = some ((Try.prog.info? 5).get!) by kernel_rfl), hc, show List.range 8 = [0, 1, 2, 3, 4, 5, 6, 7] from rfl]
  rw [eqs_step d _ 0 _ x0 w (by kernel_rfl), eqs_step d _ 1 _ x1 w (by kernel_rfl), eqs_step d _ 2 _ x2 w (by kernel_rfl), eqs_step d _ 3 _ x3 w (by kernel_rfl), eqs_step d _ 4 _ x4 w (by kernel_rfl), eqs_step d _ 5 _ x5 w (by kernel_rfl), eqs_step d _ 6 _ x6 w (by kernel_rfl), eqs_step d _ 7 _ x7 w (by kernel_rfl)]
  simp [Op.eqItems, Sem.run_pure]
end Go.Proofs.Ytbdockeopbfliaa
