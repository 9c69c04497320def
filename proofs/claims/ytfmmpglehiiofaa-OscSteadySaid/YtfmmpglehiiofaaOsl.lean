/- Package osc: what must be whatever is asked (live of layer 16). No conditions. -/
import Derived.Test.YtfmmpglehiiofaaOsb
namespace Go.Proofs.Ytfmmpglehiiofaa
open Go.RowKit
theorem lo_a : stepE 0 101 = 0 ∧ stepC 0 101 = 101 ∧ stepU 100 2 0 false 101 = false := by decide +kernel
theorem lo_b : stepE 101 (-1) = 1 ∧ stepC 101 (-1) = 101 ∧ stepU 100 2 101 false (-1) = false := by decide +kernel
theorem lo_c : stepE 101 110 = 0 ∧ stepC 101 110 = 211 ∧ stepU 100 2 101 false 110 = true := by decide +kernel
theorem lo_d : expX 300 250 8 = 250 ∧ expO 300 250 8 = true ∧ expX 300 44 8 = 300 ∧ expO 300 44 8 = true ∧ expX 3 250 8 = 0 ∧ expO 3 250 8 = false ∧ stampI 300 8 = 44 := by decide +kernel
theorem lo_e : rightO 100 2 = true ∧ rightO 0 0 = false ∧ rightO 1 0 = true := by decide +kernel
set_option maxHeartbeats 1000000 in
theorem live16 (w : World) : Calls Try.prog 48 #[] w fun y w' => y = .returned (.bool true) ∧ Below w.heap.size w w' := by
  have HN := Lib.hid (fun u => onew_yes 100 2 (by decide) lo_e.1 u)
  have HM := Lib.hid (fun u => onew_no 0 0 (by decide) lo_e.2.1 u)
  have HR := Lib.hid (fun u => oright_any 1 0 (by decide) u)
  rw [lo_e.2.2] at HR
  have HX := Lib.hid (fun u => osc_expand 300 250 8 (by decide) (by decide) u)
  have HY := Lib.hid (fun u => osc_expand 300 44 8 (by decide) (by decide) u)
  have HZ := Lib.hid (fun u => osc_expand 3 250 8 (by decide) (by decide) u)
  have HS := Lib.hid (fun u => osc_stamp 300 8 u)
  obtain ⟨d1, d2, d3, d4, d5, d6, d7⟩ := lo_d
  rw [d1, d2] at HX
  rw [d3, d4] at HY
  rw [d5, d6] at HZ
  rw [d7] at HS
  clear d1 d2 d3 d4 d5 d6 d7
  go_enter Try.func48, Try.ntmps48
  go_wp2_with fail
  refine (HN.out _).mono ?_
  rintro y w1 ⟨B, rfl, hO, hB, hb⟩
  have HO1 := Lib.hid hO; have HB1 := Lib.hid hb; have HBB := Lib.hid hB
  clear hO hb hB
  go_wp2_with fail
  refine (HM.out _).mono ?_
  rintro y w2 ⟨rfl, hb⟩
  have HO2 := Lib.hid (HO1.out.on hb); have HB2 := Lib.hid (below_transG HB1.out hb)
  clear hb
  go_wp2_with fail
  refine (ostep_any 101 (by decide) 100 2 0 false B _ HO2.out).mono ?_
  rw [lo_a.1, lo_a.2.1, lo_a.2.2]
  rintro y w3 ⟨rfl, hO, hk⟩
  have HO3 := Lib.hid hO; have HB3 := Lib.hid (HB2.out.trans (hk.belowN HBB.out HB2.out.size (fun k e => by cases e)))
  clear hO hk
  go_wp2_with fail
  refine (ostep_any (-1) (by decide) 100 2 101 false B _ HO3.out).mono ?_
  rw [lo_b.1, lo_b.2.1, lo_b.2.2]
  rintro y w4 ⟨rfl, hO, hk⟩
  have HO4 := Lib.hid hO; have HB4 := Lib.hid (HB3.out.trans (hk.belowN HBB.out HB3.out.size (fun k e => by cases e)))
  clear hO hk
  go_wp2_with fail
  refine (osteady_any 100 2 101 false B _ HO4.out).mono ?_
  rintro y w5 ⟨rfl, rfl⟩
  go_wp2_with fail
  refine (ostep_any 110 (by decide) 100 2 101 false B _ HO4.out).mono ?_
  rw [lo_c.1, lo_c.2.1, lo_c.2.2]
  rintro y w6 ⟨rfl, hO, hk⟩
  have HO6 := Lib.hid hO; have HB6 := Lib.hid (HB4.out.trans (hk.belowN HBB.out HB4.out.size (fun k e => by cases e)))
  clear hO hk
  go_wp2_with fail
  refine (HX.out _).mono ?_
  rintro y w7 ⟨rfl, rfl⟩
  go_wp2_with fail
  refine (HY.out _).mono ?_
  rintro y w7 ⟨rfl, rfl⟩
  go_wp2_with fail
  refine (HZ.out _).mono ?_
  rintro y w7 ⟨rfl, rfl⟩
  go_wp2_with fail
  refine (osteady_any 100 2 211 true B _ HO6.out).mono ?_
  rintro y w7 ⟨rfl, rfl⟩
  go_wp2_with fail
  refine (ocount_any 100 2 211 true B _ HO6.out).mono ?_
  rintro y w7 ⟨rfl, rfl⟩
  go_wp2_with fail
  refine (HS.out _).mono ?_
  rintro y w7 ⟨rfl, rfl⟩
  go_wp2_with fail
  refine (ocount_nil _).mono ?_
  rintro y w7 ⟨rfl, rfl⟩
  go_wp2_with fail
  refine (ostep_nil 1 _).mono ?_
  rintro y w7 ⟨rfl, rfl⟩
  go_wp2_with fail
  refine (osteady_nil _).mono ?_
  rintro y w7 ⟨rfl, rfl⟩
  go_wp2_with fail
  refine (HR.out _).mono ?_
  rintro y w7 ⟨rfl, hb⟩
  have HB7 := Lib.hid (below_transG HB6.out hb)
  clear hb
  go_wp2_with fail
  go_ret
  exact ⟨rfl, HB7.out⟩
end Go.Proofs.Ytfmmpglehiiofaa
