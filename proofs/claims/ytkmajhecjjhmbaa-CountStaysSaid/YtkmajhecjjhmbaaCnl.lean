/- Counts that are handed to a statement, opened; and what must be whatever is asked (live). No conditions. -/
import Derived.Test.YtkmajhecjjhmbaaCnc
import Derived.OpenShut
import Derived.Lib.SmallJoins
import Derived.Deep.Strs
namespace Go.Proofs.Ytkmajhecjjhmbaa
open Go.ChangeShapes Go.WideShapes Go.ChangeAt Go.RowKit
section
variable {H : Type} {enc : TypeId × Value → H} {W : World} {base : Nat} {sp : Nat → Bool} {held : Bool} {r : Reach} {b0 : Nat} {v : Value} {d : DataW H} {p : List MemPlace}
theorem open_counts (hv : Value.okWide Try.prog W r b0 23 v) (h : DataW.Trod enc Try.prog W base sp held 23 v d p) : ∃ (t : Int) (r : Int) (o : Bool), v = cV t r o := by
  obtain ⟨cs, rfl, hsz⟩ := okWide_struct Try.underlying23 hv
  obtain ⟨c0, c1, c2, rfl⟩ := Joins.array3 (hsz.trans (by kernel_rfl))
  obtain ⟨fuel, hf⟩ := h
  obtain ⟨y0, y1, y2, m, _, _, h0, h1, h2⟩ := Deep.trod_struct3 Try.underlying23 (by simpa [Value.cells] using hf)
  have hi : Try.prog.cellsOf 3 = 1 := by kernel_rfl
  have hb : Try.prog.cellsOf 4 = 1 := by kernel_rfl
  simp [hi] at h0 h1
  simp [hb] at h2
  obtain ⟨t, ht, _⟩ := DataW.trod_int Try.underlying3 h0
  obtain ⟨r, hr, _⟩ := DataW.trod_int Try.underlying3 h1
  obtain ⟨o, ho, _⟩ := DataW.trod_bool Try.underlying4 h2
  obtain rfl : c0 = .int .i64 t := by simpa using ht
  obtain rfl : c1 = .int .i64 r := by simpa using hr
  obtain rfl : c2 = .bool o := by simpa using ho
  exact ⟨t, r, o, rfl⟩
end
set_option maxHeartbeats 4000000 in
theorem live10 (w : World) : Calls Try.prog 6 #[] w fun x w' => x = .returned (.bool true) ∧ Below w.heap.size w w' := by
  have H1 := Lib.hid (show ∀ u, Calls Try.prog 11 #[.agg #[.int .i64 124, .int .i64 0, .bool false]] u fun x w' => x = .returned (.agg #[.int .i64 132, .int .i64 0, .bool false]) ∧ Below u.heap.size u w' from fun u => txFail_any 124 0 false u)
  have H2 := Lib.hid (show ∀ u, Calls Try.prog 9 #[.agg #[.int .i64 132, .int .i64 0, .bool false]] u fun x w' => x = .returned (.int .i64 1) ∧ Below u.heap.size u w' from fun u => mode_any 132 0 false u)
  have H3 := Lib.hid (show ∀ u, Calls Try.prog 11 #[.agg #[.int .i64 250, .int .i64 0, .bool false]] u fun x w' => x = .returned (.agg #[.int .i64 256, .int .i64 0, .bool true]) ∧ Below u.heap.size u w' from fun u => txFail_any 250 0 false u)
  have H4 := Lib.hid (show ∀ u, Calls Try.prog 9 #[.agg #[.int .i64 256, .int .i64 0, .bool true]] u fun x w' => x = .returned (.int .i64 2) ∧ Below u.heap.size u w' from fun u => mode_any 256 0 true u)
  have H5 := Lib.hid (show ∀ u, Calls Try.prog 17 #[.agg #[.int .i64 0, .int .i64 200, .bool false]] u fun x w' => x = .returned (.agg #[.int .i64 0, .int .i64 120, .bool false]) ∧ Below u.heap.size u w' from fun u => rxGood_any 0 200 false u)
  have H6 := Lib.hid (show ∀ u, Calls Try.prog 13 #[.agg #[.int .i64 0, .int .i64 1, .bool false], .int .i64 8] u fun x w' => x = .returned (.agg #[.int .i64 0, .int .i64 9, .bool false]) ∧ Below u.heap.size u w' from fun u => rxFail_any 0 1 false 8 u)
  have H7 := Lib.hid (show ∀ u, Calls Try.prog 15 #[.agg #[.int .i64 3, .int .i64 0, .bool false]] u fun x w' => x = .returned (.agg #[.int .i64 2, .int .i64 0, .bool false]) ∧ Below u.heap.size u w' from fun u => txGood_any 3 0 false u)
  have H8 := Lib.hid (show ∀ u, Calls Try.prog 7 #[.agg #[.int .i64 132, .int .i64 0, .bool false]] u fun x w' => x = .returned (.bool true) ∧ Below u.heap.size u w' from fun u => right_any 132 0 false u)
  have H9 := Lib.hid (show ∀ u, Calls Try.prog 7 #[.agg #[.int .i64 (-1), .int .i64 0, .bool false]] u fun x w' => x = .returned (.bool false) ∧ Below u.heap.size u w' from fun u => right_any (-1) 0 false u)
  have f1 : ∀ u : World, Sem.run Try.prog (Instr.field 23 (.agg #[.int .i64 0, .int .i64 120, .bool false]) 1) u = .ok (.int .i64 120) u := fun u => by kernel_rfl
  have f2 : ∀ u : World, Sem.run Try.prog (Instr.field 23 (.agg #[.int .i64 0, .int .i64 9, .bool false]) 1) u = .ok (.int .i64 9) u := fun u => by kernel_rfl
  have f3 : ∀ u : World, Sem.run Try.prog (Instr.field 23 (.agg #[.int .i64 2, .int .i64 0, .bool false]) 0) u = .ok (.int .i64 2) u := fun u => by kernel_rfl
  go_enter Try.func6, Try.ntmps6
  go_wp2_with (fail)
  refine (H1.out _).mono ?_
  rintro x w1 ⟨rfl, hb⟩
  have H2B := Lib.hid (hb.alloc (Nat.le_trans (Nat.le_refl _) hb.size) (.cells #[.int .i64 132, .int .i64 0, .bool false] 23))
  clear hb
  have S2 := Tri.new w1 (.int .i64 132) (.int .i64 0) (.bool false) 23 rfl
  have hlt : w1.heap.size < (w1.alloc (.cells #[.int .i64 132, .int .i64 0, .bool false] 23)).heap.size := by simp
  go_upto_region 2 with fail
  obtain ⟨wr, hwr⟩ : ∃ wr, wr = w1.alloc (.cells #[.int .i64 132, .int .i64 0, .bool false] 23) := ⟨_, rfl⟩
  rw [← hwr] at S2 H2B hlt ⊢
  clear hwr
  have HS := Lib.hid (show ∀ u, Below wr.heap.size wr u → Tri u w1.heap.size (.int .i64 132) (.int .i64 0) (.bool false) from fun u hu => S2.keep hu hlt)
  clear hlt
  obtain ⟨s0, s1, s2, s3, s4, s5⟩ := S2
  go_wp2_with (fail)
  refine (H2.out _).mono ?_
  rintro x w2 ⟨rfl, hb⟩
  have HB2 := Lib.hid (hb)
  clear hb
  obtain ⟨s0, s1, s2, s3, s4, s5⟩ := HS.out _ HB2.out
  go_wp2_with (fail)
  refine (H3.out _).mono ?_
  rintro x w3 ⟨rfl, hb⟩
  have HB3 := Lib.hid (below_trans' HB2.out hb)
  clear hb
  obtain ⟨s0, s1, s2, s3, s4, s5⟩ := HS.out _ HB3.out
  go_wp2_with (fail)
  refine (H4.out _).mono ?_
  rintro x w4 ⟨rfl, hb⟩
  have HB4 := Lib.hid (below_trans' HB3.out hb)
  clear hb
  obtain ⟨s0, s1, s2, s3, s4, s5⟩ := HS.out _ HB4.out
  go_wp2_with (fail)
  refine (H5.out _).mono ?_
  rintro x w5 ⟨rfl, hb⟩
  have HB5 := Lib.hid (below_trans' HB4.out hb)
  clear hb
  obtain ⟨s0, s1, s2, s3, s4, s5⟩ := HS.out _ HB5.out
  go_wp2_with (fail)
  refine (H6.out _).mono ?_
  rintro x w6 ⟨rfl, hb⟩
  have HB6 := Lib.hid (below_trans' HB5.out hb)
  clear hb
  obtain ⟨s0, s1, s2, s3, s4, s5⟩ := HS.out _ HB6.out
  go_wp2_with (fail)
  refine (H7.out _).mono ?_
  rintro x w7 ⟨rfl, hb⟩
  have HB7 := Lib.hid (below_trans' HB6.out hb)
  clear hb
  obtain ⟨s0, s1, s2, s3, s4, s5⟩ := HS.out _ HB7.out
  go_wp2_with (fail)
  refine (H8.out _).mono ?_
  rintro x w8 ⟨rfl, hb⟩
  have HB8 := Lib.hid (below_trans' HB7.out hb)
  clear hb
  obtain ⟨s0, s1, s2, s3, s4, s5⟩ := HS.out _ HB8.out
  go_wp2_with (fail)
  refine (H9.out _).mono ?_
  rintro x w9 ⟨rfl, hb⟩
  have HB9 := Lib.hid (below_trans' HB8.out hb)
  clear hb
  obtain ⟨s0, s1, s2, s3, s4, s5⟩ := HS.out _ HB9.out
  go_wp2_with (fail)
  go_ret
  exact ⟨rfl, H2B.out.trans (HB9.out.mono H2B.out.size)⟩
end Go.Proofs.Ytkmajhecjjhmbaa
