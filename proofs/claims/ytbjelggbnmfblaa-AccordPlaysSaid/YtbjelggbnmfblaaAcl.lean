/- Package accord: what must be whatever is asked (live of layer 19). No conditions. -/
import Derived.Test.YtbjelggbnmfblaaAcf
import Derived.Test.YtbjelggbnmfblaaAcg
namespace Go.Proofs.Ytbjelggbnmfblaa
open Go.RowKit
def la1 : PD := (newP 100 1 0 500).stepped 100 100
def la2 : PD := { la1 with no := some (la1.less, la1.bi) }
def la3 : PD := { la2.went 1048576 la1.less with ap := some (la1.less, la1.bi) }
def laI : Nat → PD
  | 0 => la3
  | i + 1 => (laI i).stepped 101 99
theorem la_new : rightC 100 1 0 = true ∧ rightC 0 0 0 = false ∧ stepE 0 100 = 0 ∧ slopeC 100 1 0 = 2 ∧ boundB 100 1 0 10 = true ∧ boundX 100 1 0 10 = 24 := by decide +kernel
theorem la_has : la1.has = true ∧ la1.mc = 100 ∧ la1.sc = 100 ∧ la1.less = -500 ∧ la1.bi = 1 ∧ la1.tu = 0 ∧ goE la2.c2 la2.v2 la2.r2 la2.sc 1048576 (-500) = 0 ∧ la3.se = false ∧ la3.bi = 1 := by decide +kernel
theorem la_step (i : Nat) (h : i < 6) : stepE (laI i).mc 101 = 0 ∧ stepE (laI i).sc 99 = 0 ∧ 0 ≤ (laI i).bi ∧ (laI i).bi < 4611686018427387904 := by
  match i, h with
  | 0, _ => decide +kernel
  | 1, _ => decide +kernel
  | 2, _ => decide +kernel
  | 3, _ => decide +kernel
  | 4, _ => decide +kernel
  | 5, _ => decide +kernel
theorem la_six : (laI 6).se = true ∧ (laI 6).t = 706 ∧ (laI 6).t2 = 694 ∧ (laI 6).gap = 6 := by decide +kernel
theorem go_one (B : Nat) (pn pa : Value) (w : World) (h : PA w B la2 pn pa) : Calls Try.prog 48 #[.pointer (some ⟨B, 0, none⟩), .int .i64 1048576] w fun y w' => y = .returned (.int .i64 0) ∧ PA w' B la3 (.pointer none) pn ∧ Kp B (.slice none 0 0) w w' := by
  refine (pr_apply_some la2 pn pa 1048576 (-500) 1 (by decide) B w h (by show some (la1.less, la1.bi) = some (-500, 1); rw [la_has.2.2.2.1, la_has.2.2.2.2.1])).mono fun y w' h2 => ?_
  rw [if_pos (by show 1048576 - la1.tu ≤ 1048576 ∧ 1048576 ≤ 1048576 + la1.tu; rw [la_has.2.2.2.2.2.1]; decide)] at h2
  obtain ⟨h3, h4, h5⟩ := h2
  have hg := la_has.2.2.2.2.2.2.1
  rw [hg] at h3
  rw [if_pos hg] at h4
  refine ⟨h3, ?_, h5⟩
  have e : ({ la2.went 1048576 (-500) with ap := some (-500, 1) } : PD) = la3 := by
    show ({ la2.went 1048576 (-500) with ap := some (-500, 1) } : PD) = { la2.went 1048576 la1.less with ap := some (la1.less, la1.bi) }
    rw [la_has.2.2.2.1, la_has.2.2.2.2.1]
  rw [← e]; exact h4
set_option maxRecDepth 100000 in
set_option maxHeartbeats 8000000 in
theorem live19 (w : World) : Calls Try.prog 45 #[] w fun y w' => y = .returned (.bool true) ∧ Below w.heap.size w w' := by
  obtain ⟨n1, n2, n3, n4, n5, n6⟩ := la_new
  have HSL := Lib.hid (fun u => ac_slope 100 1 0 (by decide) u)
  have HBO := Lib.hid (fun u => ac_bound 100 1 0 10 (by decide) (by decide) u)
  have HRI := Lib.hid (fun u => ac_right 100 1 0 (by decide) u)
  have HNO := Lib.hid (fun u => pr_new_no 0 0 0 0 (by decide) (by rw [n2]; rfl) u)
  rw [n4] at HSL
  rw [n5, n6] at HBO
  rw [n1] at HRI
  obtain ⟨W0, hW0⟩ : ∃ W, W = w.alloc (.cells #[.int .i64 100, .int .i64 1, .int .i64 0] 92) := ⟨_, rfl⟩
  have hB0 : Below w.heap.size w W0 := by rw [hW0]; exact (Below.refl _ w).alloc (Nat.le_refl _) _
  have hC0 : Blk W0 w.heap.size 92 [.int .i64 100, .int .i64 1, .int .i64 0] := by rw [hW0]; exact Blk.new w 92 [.int .i64 100, .int .i64 1, .int .i64 0]
  have HNW := Lib.hid (pr_new_yes 100 1 0 500 (by decide) n1 (by decide) W0)
  clear n1 n2 n4 n5 n6
  go_enter Try.func45, Try.ntmps45
  go_upto_region 2 with fail
  rw [← hW0]
  obtain ⟨C, hC⟩ : ∃ C, C = w.heap.size := ⟨_, rfl⟩
  rw [← hC] at hC0 ⊢
  have HCW := Lib.hid (show w.heap.size ≤ C by omega)
  have HB0 := Lib.hid hB0; have HC0 := Lib.hid hC0
  clear hW0 hB0 hC0 hC
  have c0 := HC0.out.cellAt (i := 0) (by simp); have c1 := HC0.out.cellAt (i := 1) (by simp); have c2 := HC0.out.cellAt (i := 2) (by simp)
  go_wp2_with fail
  refine HNW.out.mono ?_
  rintro y w1 ⟨B, rfl, hP, hBl, hb⟩
  have HP1 := Lib.hid hP
  have HBN := Lib.hid (show C ≠ B ∧ w.heap.size ≤ B by have h1 := HC0.out.lt; have h2 := HB0.out.size; omega)
  have HC1 := Lib.hid (HC0.out.keep hb HC0.out.lt); have HB1 := Lib.hid (below_transG HB0.out hb)
  clear hP hBl hb c0 c1 c2 HNW HB0 HC0
  go_wp2_with fail
  refine (HNO.out _).mono ?_
  rintro y w2 ⟨rfl, hb⟩
  have HP2 := Lib.hid (HP1.out.on hb); have HC2 := Lib.hid (HC1.out.keep hb HC1.out.lt); have HB2 := Lib.hid (below_transG HB1.out hb)
  clear hb HP1 HC1 HB1
  go_wp2_with fail
  refine (pr_step_ok _ _ _ 100 100 (by decide) (by decide) (by decide) B _ HP2.out n3 n3).mono ?_
  rintro y w3 ⟨rfl, hP, hk⟩
  have HP3 := Lib.hid (show PA w3 B la1 (.pointer none) (.pointer none) from hP)
  have HC3 := Lib.hid (HC2.out.on (hk.block C HC2.out.lt HBN.out.1 (fun e => by cases e)))
  have HB3 := Lib.hid (HB2.out.trans (hk.belowN HBN.out.2 HB2.out.size (fun k e => by cases e)))
  clear hP hk HP2 HC2 HB2
  go_wp2_with fail
  refine (pr_apply_none la1 _ _ 1048576 B _ HP3.out rfl).mono ?_
  rintro y w4 ⟨rfl, rfl⟩
  go_wp2_with fail
  refine (pr_capture_yes la1 _ _ B _ HP3.out la_has.1).mono ?_
  rintro y w4 ⟨rfl, ⟨K, hP⟩, hk⟩
  have HP4 := Lib.hid (show PA w4 B la2 (.pointer (some ⟨K, 0, none⟩)) (.pointer none) from hP)
  have HC4 := Lib.hid (HC3.out.on (hk.block C HC3.out.lt HBN.out.1 (fun e => by cases e)))
  have HB4 := Lib.hid (HB3.out.trans (hk.belowN HBN.out.2 HB3.out.size (fun k e => by cases e)))
  clear hP hk HP3 HC3 HB3
  go_wp2_with fail
  refine (go_one B _ _ _ HP4.out).mono ?_
  rintro y w5 ⟨rfl, hP, hk⟩
  have HP5 := Lib.hid hP
  have HC5 := Lib.hid (HC4.out.on (hk.block C HC4.out.lt HBN.out.1 (fun e => by cases e)))
  have HB5 := Lib.hid (HB4.out.trans (hk.belowN HBN.out.2 HB4.out.size (fun k e => by cases e)))
  clear hP hk HP4 HC4 HB4
  have HSE := Lib.hid (pr_settled la3 _ _ B _ HP5.out)
  rw [la_has.2.2.2.2.2.2.2.1] at HSE
  go_wp2_with fail
  refine HSE.out.mono ?_
  rintro y w6 ⟨rfl, rfl⟩
  go_wp2_with fail
  go_loopw [11] (fun s11 wr => ∃ (i : Nat), s11 = .int .i64 (i : Int) ∧ i ≤ 6 ∧ PA wr B (laI i) (.pointer none) (.pointer (some ⟨K, 0, none⟩)) ∧ Blk wr C 92 [.int .i64 100, .int .i64 1, .int .i64 0] ∧ Below w.heap.size w wr) (fun s11 _ => 6 - (intOf s11).toNat)
  case atStart => exact ⟨0, rfl, by omega, HP5.out, HC5.out, HB5.out⟩
  case round =>
    obtain ⟨i, rfl, hi6, hP, hC, hB⟩ := hrel
    have HP := Lib.hid hP; have HC := Lib.hid hC; have HB := Lib.hid hB
    clear hP hC hB HP5 HC5 HB5 HSE
    by_cases hlt : i < 6
    · have i1 : (i : Int) < 6 := by omega
      have HS := Lib.hid (la_step i hlt)
      go_wp2_with fail
      refine (pr_step_ok (laI i) _ _ 101 99 (by decide) (by decide) HS.out.2.2 B _ HP.out HS.out.1 HS.out.2.1).mono ?_
      rintro y w7 ⟨rfl, hP, hk⟩
      have HP7 := Lib.hid (show PA w7 B (laI (i + 1)) (.pointer none) (.pointer (some ⟨K, 0, none⟩)) from hP)
      have HC7 := Lib.hid (HC.out.on (hk.block C HC.out.lt HBN.out.1 (fun e => by cases e)))
      have HB7 := Lib.hid (HB.out.trans (hk.belowN HBN.out.2 HB.out.size (fun k e => by cases e)))
      clear hP hk
      go_wp2_with fail
      go_roundw
      case rel => exact ⟨i + 1, by simp, by omega, HP7.out, HC7.out, HB7.out⟩
      case measure => simp [intOf]; omega
    obtain rfl : i = 6 := by omega
    obtain ⟨x1, x2, x3, x4⟩ := la_six
    have HS1 := Lib.hid (fun u h => pr_settled (laI 6) (.pointer none) (.pointer (some ⟨K, 0, none⟩)) B u h)
    have HS2 := Lib.hid (fun u h => pr_master (laI 6) (.pointer none) (.pointer (some ⟨K, 0, none⟩)) B u h)
    have HS3 := Lib.hid (fun u h => pr_slave (laI 6) (.pointer none) (.pointer (some ⟨K, 0, none⟩)) B u h)
    have HS4 := Lib.hid (fun u h => pr_gap (laI 6) (.pointer none) (.pointer (some ⟨K, 0, none⟩)) B u h (by rw [x4]; decide))
    rw [x1] at HS1
    rw [x2] at HS2
    rw [x3] at HS3
    rw [x4] at HS4
    clear x1 x2 x3 x4
    have c0 := HC.out.cellAt (i := 0) (by simp); have c1 := HC.out.cellAt (i := 1) (by simp); have c2 := HC.out.cellAt (i := 2) (by simp)
    go_wp2_with fail
    refine (HBO.out _).mono ?_
    rintro y w8 ⟨rfl, hb⟩
    have HP8 := Lib.hid (HP.out.on hb); have HC8 := Lib.hid (HC.out.keep hb HC.out.lt); have HB8 := Lib.hid (below_transG HB.out hb)
    clear hb c0 c1 c2 HP HC HB
    go_wp2_with fail
    refine (HS1.out _ HP8.out).mono ?_
    rintro y w9 ⟨rfl, rfl⟩
    go_wp2_with fail
    refine (HS2.out _ HP8.out).mono ?_
    rintro y w9 ⟨rfl, rfl⟩
    go_wp2_with fail
    refine (HS3.out _ HP8.out).mono ?_
    rintro y w9 ⟨rfl, rfl⟩
    go_wp2_with fail
    refine (HS4.out _ HP8.out).mono ?_
    rintro y w9 ⟨rfl, hb⟩
    have HC9 := Lib.hid (HC8.out.keep hb HC8.out.lt); have HB9 := Lib.hid (below_transG HB8.out hb)
    clear hb HC8 HB8
    have c0 := HC9.out.cellAt (i := 0) (by simp); have c1 := HC9.out.cellAt (i := 1) (by simp); have c2 := HC9.out.cellAt (i := 2) (by simp)
    go_wp2_with fail
    refine (HSL.out _).mono ?_
    rintro y w10 ⟨rfl, hb⟩
    have HC10 := Lib.hid (HC9.out.keep hb HC9.out.lt); have HB10 := Lib.hid (below_transG HB9.out hb)
    clear hb c0 c1 c2
    have c0 := HC10.out.cellAt (i := 0) (by simp); have c1 := HC10.out.cellAt (i := 1) (by simp); have c2 := HC10.out.cellAt (i := 2) (by simp)
    go_wp2_with fail
    refine (HRI.out _).mono ?_
    rintro y w11 ⟨rfl, hb⟩
    have HB11 := Lib.hid (below_transG HB10.out hb)
    clear hb c0 c1 c2
    go_wp2_with fail
    refine (pr_step_nil 1 1 _).mono ?_
    rintro y w12 ⟨rfl, rfl⟩
    go_wp2_with fail
    refine (pr_capture_nil _).mono ?_
    rintro y w12 ⟨rfl, rfl⟩
    go_wp2_with fail
    refine (pr_gap_nil _).mono ?_
    rintro y w12 ⟨rfl, rfl⟩
    go_wp2_with fail
    refine (pr_master_nil _).mono ?_
    rintro y w12 ⟨rfl, rfl⟩
    go_wp2_with fail
    go_ret
    exact ⟨rfl, HB11.out⟩
end Go.Proofs.Ytbjelggbnmfblaa
