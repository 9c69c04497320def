/- Layer 20: a word, as the document's. No conditions. -/
import Derived.Test.YtmlnobiakfapcaaSlp
namespace Go.Proofs.Ytmlnobiakfapcaa
open Go.RowKit
theorem plain20_any (f : Bool) (r n t : Int) (w : World) : Calls Try.prog 38 #[.agg #[.bool f, .int .i64 r, .int .i64 n, .int .i64 t]] w fun y w' => y = .returned (.agg #[.bool f, .int .i64 r, .int .i64 n, .int .i64 t]) ∧ Below w.heap.size w w' := by
  have HB := Lib.hid ((Below.refl w.heap.size w).alloc (Nat.le_refl _) (.cells #[.bool f, .int .i64 r, .int .i64 n, .int .i64 t] 61))
  go_enter Try.func38, Try.ntmps38
  go_wp2_with fail
  obtain ⟨W, hW⟩ : ∃ W, W = (w.alloc (.cells #[.bool f, .int .i64 r, .int .i64 n, .int .i64 t] 61)).alloc (.cells #[.bool f, .int .i64 r, .int .i64 n, .int .i64 t] 71) := ⟨_, rfl⟩
  rw [← hW]
  have hS : Blk W (w.heap.size + 1) 71 [.bool f, .int .i64 r, .int .i64 n, .int .i64 t] := by rw [hW]; exact blk_two w _ 71 [.bool f, .int .i64 r, .int .i64 n, .int .i64 t]
  have hb : Below w.heap.size w W := by rw [hW]; exact HB.out.alloc (by simp) _
  clear hW
  have z0 := hS.cellAt (i := 0) (by simp)
  have z1 := hS.cellAt (i := 1) (by simp)
  have z2 := hS.cellAt (i := 2) (by simp)
  have z3 := hS.cellAt (i := 3) (by simp)
  simp only [List.getElem_cons_zero, List.getElem_cons_succ] at z0 z1 z2 z3
  exact bodyPost_ret (v := .agg #[.bool f, .int .i64 r, .int .i64 n, .int .i64 t]) (by simp [results, Try.results38, go_sem, z0, z1, z2, z3]) rfl ⟨rfl, hb⟩
end Go.Proofs.Ytmlnobiakfapcaa
