/- Package rate: what must be whatever is asked (live of layer 18). No conditions. -/
import Derived.Test.YtffcadobdimdoaaRtg
namespace Go.Proofs.Ytffcadobdimdoaa
open Go.RowKit
theorem lr_a : rofB 0 0 1001 1000 4096 = true ∧ rofX 0 0 1001 1000 4096 = 1049624 := by decide +kernel
theorem lr_b : rofB 0 0 1 0 4096 = false ∧ rofX 0 0 1 0 4096 = 1048576 := by decide +kernel
theorem lr_c : (ES.fresh 100 3).addB 0 0 = false ∧ (ES.fresh 100 3).add 0 0 = ⟨100, 3, true, 0, 0, [0, 0, 0, 0, 0, 0, 0, 0, 0], [], 0⟩ := ⟨by rfl, by rfl⟩
theorem lr_d : ES.addB ⟨100, 3, true, 0, 0, [0, 0, 0, 0, 0, 0, 0, 0, 0], [], 0⟩ 2000 1000 = true := by decide +kernel
theorem lr_e : rofX 0 0 2000 1000 100 = 1048676 := by decide +kernel
theorem lr_f : ES.add ⟨100, 3, true, 0, 0, [0, 0, 0, 0, 0, 0, 0, 0, 0], [], 0⟩ 2000 1000 = ⟨100, 3, true, 2000, 1000, [1048676, 0, 0, 0, 0, 0, 0, 0, 0], [1048676], 1⟩ := by
  unfold ES.add
  rw [lr_d, if_pos rfl]
  show ES.keep _ (rofX 0 0 2000 1000 100) = _
  rw [lr_e]; rfl
theorem lr_g : medX [1048676] = 1048676 := by decide +kernel
set_option maxHeartbeats 2000000 in
theorem live18 (w : World) : Calls Try.prog 16 #[] w fun y w' => y = .returned (.bool true) ∧ Below w.heap.size w w' := by
  have HA := Lib.hid (fun u => rate_of_any 0 0 1001 1000 4096 (by decide) (by decide) (by decide) (by decide) u)
  have HB := Lib.hid (fun u => rate_of_any 0 0 1 0 4096 (by decide) (by decide) (by decide) (by decide) u)
  rw [lr_a.1, lr_a.2] at HA
  rw [lr_b.1, lr_b.2] at HB
  go_enter Try.func16, Try.ntmps16
  go_wp2_with fail
  refine (HA.out _).mono ?_
  rintro y w1 ⟨rfl, hb⟩
  have HB1 := Lib.hid hb
  clear hb
  go_wp2_with fail
  refine (HB.out _).mono ?_
  rintro y w2 ⟨rfl, hb⟩
  have HB2 := Lib.hid (below_transG HB1.out hb)
  clear hb
  go_wp2_with fail
  refine (enew_yes 100 3 (by decide) (by decide) _).mono ?_
  rintro y w3 ⟨B, rfl, hO, hB, hb⟩
  have HO3 := Lib.hid hO; have HB3 := Lib.hid (below_transG HB2.out hb); have HBB := Lib.hid (Nat.le_trans HB2.out.size hB)
  clear hO hb hB
  go_wp2_with fail
  refine (enew_no (-1) 3 (by decide) _).mono ?_
  rintro y w4 ⟨rfl, rfl⟩
  go_wp2_with fail
  refine (add_any 0 0 (by decide) (by decide) (ES.fresh 100 3) B _ HO3.out).mono ?_
  rw [lr_c.1, lr_c.2]
  rintro y w4 ⟨rfl, hO, hk⟩
  have HO4 := Lib.hid hO; have HB4 := Lib.hid (HB3.out.trans (hk.belowN HBB.out HB3.out.size (fun k e => by cases e)))
  clear hO hk
  go_wp2_with fail
  refine (add_any 2000 1000 (by decide) (by decide) ⟨100, 3, true, 0, 0, [0, 0, 0, 0, 0, 0, 0, 0, 0], [], 0⟩ B _ HO4.out).mono ?_
  rw [lr_d, lr_f]
  rintro y w5 ⟨rfl, hO, hk⟩
  have HO5 := Lib.hid hO; have HB5 := Lib.hid (HB4.out.trans (hk.belowN HBB.out HB4.out.size (fun k e => by cases e)))
  clear hO hk
  go_wp2_with fail
  refine (many_any ⟨100, 3, true, 2000, 1000, [1048676, 0, 0, 0, 0, 0, 0, 0, 0], [1048676], 1⟩ B _ HO5.out).mono ?_
  rintro y w6 ⟨rfl, rfl⟩
  go_wp2_with fail
  refine (rate_any ⟨100, 3, true, 2000, 1000, [1048676, 0, 0, 0, 0, 0, 0, 0, 0], [1048676], 1⟩ B _ HO5.out).mono ?_
  rw [show medX (ES.mk 100 3 true 2000 1000 [1048676, 0, 0, 0, 0, 0, 0, 0, 0] [1048676] 1).L = 1048676 from lr_g]
  rintro y w6 ⟨rfl, hb⟩
  have HO6 := Lib.hid (show EA w6 B ⟨100, 3, true, 2000, 1000, [1048676, 0, 0, 0, 0, 0, 0, 0, 0], [1048676], 1⟩ from ⟨HO5.out.1.keep hb HO5.out.1.lt, HO5.out.2⟩); have HB6 := Lib.hid (below_transG HB5.out hb)
  clear hb
  go_wp2_with fail
  refine (reset_any ⟨100, 3, true, 2000, 1000, [1048676, 0, 0, 0, 0, 0, 0, 0, 0], [1048676], 1⟩ B _ HO6.out).mono ?_
  rintro y w7 ⟨rfl, hO, hk⟩
  have HO7 := Lib.hid hO; have HB7 := Lib.hid (HB6.out.trans (hk.belowN HBB.out HB6.out.size (fun k e => by cases e)))
  clear hO hk
  go_wp2_with fail
  refine (reset_nil _).mono ?_
  rintro y w8 ⟨rfl, rfl⟩
  go_wp2_with fail
  refine (rate_any (ES.fresh 100 3) B _ HO7.out).mono ?_
  rw [show medX (ES.fresh 100 3).L = 1048576 from rfl]
  rintro y w8 ⟨rfl, hb⟩
  have HB8 := Lib.hid (below_transG HB7.out hb)
  clear hb
  go_wp2_with fail
  refine (rate_nil _).mono ?_
  rintro y w9 ⟨rfl, hb⟩
  have HB9 := Lib.hid (below_transG HB8.out hb)
  clear hb
  go_wp2_with fail
  refine (add_nil 0 0 _).mono ?_
  rintro y w10 ⟨rfl, hb⟩
  have HB10 := Lib.hid (below_transG HB9.out hb)
  clear hb
  go_wp2_with fail
  refine (many_nil _).mono ?_
  rintro y w11 ⟨rfl, rfl⟩
  go_wp2_with fail
  go_ret
  exact ⟨rfl, HB10.out⟩
end Go.Proofs.Ytffcadobdimdoaa
