/- The statement of P10.3, P10.5 (CountStays): whatever happens, counts can be; a good frame never makes a mode worse, a failed one never better. No conditions. -/
import Derived.Test.YtkmajhecjjhmbaaRows
import Derived.Test.YtkmajhecjjhmbaaCns
import Derived.Deep.DeepCutAuto
import Derived.WalkKit
import Derived.ProofKit
import Derived.OpenShut
import Derived.ShutString
import Derived.ChangeOld
import Derived.Below
namespace Go.Proofs.Ytkmajhecjjhmbaa.countStays
open Go.ChangeShapes Go.WideShapes Go.ChangeAt Go.RowKit
theorem own : ownKnob Try.prog.godebug = none := by kernel_rfl
theorem laidOut : laidOutB Try.prog = true := by kernel_rfl
set_option maxRecDepth 20000 in
set_option maxHeartbeats 8000000 in
theorem walk (a : Option Addr) (len cap : Nat) (zs : List Int) (w : World) (hz : IsRow w a len cap zs) :
    Calls Try.prog 4 #[.slice a len cap] w fun e w' => e = .returned (.bool true) ∧ Below w.heap.size w w' := by
  obtain ⟨bs, hlt256, hS⟩ := isRow_str hz
  clear hz
  have hlen := hS.len
  have HLEN := Lib.hid hlen
  have HBY := Lib.hid hlt256
  have HROW := Lib.hid (show ∀ j, j < len → ∃ b off, a = some ⟨b, off, none⟩ ∧ b < w.heap.size ∧ w.cell? ⟨b, off + j, none⟩ = some (.int .u8 ((bs[j]?.getD 0 : Nat) : Int)) from fun j hj => by
    rcases hS with ⟨_, _, e, _, rfl⟩ | ⟨b, off, cap', e, _, _, hb, hc⟩
    · simp at hlen; omega
    · injection e with e1 e2 e3
      exact ⟨b, off, e1, hb, hc j (by omega)⟩)
  have HL := Lib.hid (fun u => live10 u)
  clear hlt256 hS hlen
  have hcap : (len : Int) ≤ (len : Int) := by omega
  go_enter Try.func4, Try.ntmps4
  go_wp2_with (fail)
  have HT0 := Lib.hid (Tri.new w (.int .i64 0) (.int .i64 0) (.bool false) 23 rfl)
  have HB0 := Lib.hid ((Below.refl w.heap.size w).alloc (Nat.le_refl _) (.cells #[.int .i64 0, .int .i64 0, .bool false] 23))
  go_loopw [4] (fun i wr => ∃ (j : Nat) (t r : Int) (o : Bool), j ≤ len ∧ i = .int .i64 j ∧ rightC t r o = true ∧ Tri wr w.heap.size (.int .i64 t) (.int .i64 r) (.bool o) ∧ Below w.heap.size w wr ∧ w.heap.size < wr.heap.size) (fun i _ => len - (intOf i).toNat)
  case atStart => exact ⟨0, 0, 0, false, Nat.zero_le _, rfl, rfl, HT0.out, HB0.out, by simp⟩
  case round =>
    obtain ⟨j, t, r, o, hj, rfl, hcan, hT, hB, hlt⟩ := hrel
    have HT := Lib.hid hT; have HB := Lib.hid hB; have HLT := Lib.hid hlt; have HCAN := Lib.hid hcan; have HJ := Lib.hid hj
    obtain ⟨s0, s1, s2, s3, s4, s5⟩ := hT
    clear hB hlt hcan hj
    by_cases hjk : j < len ∧ j < 400
    · obtain ⟨hj1, hj2⟩ := hjk
      obtain ⟨b, off, rfl, hbl, hcell⟩ := HROW.out j hj1
      have HBL := Lib.hid hbl
      have HCELL := Lib.hid hcell
      have hx := HBY.out j
      obtain ⟨x, hxd⟩ : ∃ x, x = bs[j]?.getD 0 := ⟨_, rfl⟩
      rw [← hxd] at hx HCELL
      clear hxd hcell hbl hcap
      have i1 : (j : Int) < (len : Int) := by omega
      have i2 : (j : Int) < 400 := by omega
      have i3 : (0 : Int) ≤ (j : Int) := by omega
      have hw : IntKind.i64.wrap ((j : Int) + 1) = (j : Int) + 1 := by rw [IntKind.wrap_i64]; omega
      obtain ⟨d, hd⟩ : ∃ d, d = x % 5 := ⟨_, rfl⟩
      have hrem : (x : Int).tmod 5 = (d : Int) := by rw [Int.tmod_eq_emod_of_nonneg (by omega), hd]; omega
      have hd5 : d = 0 ∨ d = 1 ∨ d = 2 ∨ d = 3 ∨ d = 4 := by omega
      have HJ1 := Lib.hid hj1
      clear hd hx hj1 hj2
      have HM := Lib.hid (fun u => mode_at HCAN.out u)
      obtain ⟨m, hm⟩ : ∃ m, m = moF t r := ⟨_, rfl⟩
      have HMD := Lib.hid hm
      rw [← hm] at HM
      clear hm
      have hc0 := (HB.out.cell (p := ⟨b, off + j, none⟩) HBL.out).trans HCELL.out
      go_wp2_with fail
      refine (HM.out _).mono ?_
      rintro y w2 ⟨rfl, hb⟩
      have HT2 := Lib.hid (HT.out.keep hb HLT.out)
      have HB2 := Lib.hid (HB.out.trans (hb.mono (Nat.le_of_lt HLT.out)))
      have HL2 := Lib.hid (Nat.lt_of_lt_of_le HLT.out hb.size)
      clear hb s0 s1 s2 s3 s4 s5 hc0
      obtain ⟨s0, s1, s2, s3, s4, s5⟩ := HT2.out
      obtain ⟨W3, hW3⟩ : ∃ W3, W3 = w2.alloc (.cells #[.int .i64 t, .int .i64 r, .bool o] 23) := ⟨_, rfl⟩
      have HB3 := Lib.hid (show Below w.heap.size w W3 by rw [hW3]; exact HB2.out.alloc (Nat.le_of_lt HL2.out) _)
      have HT3 := Lib.hid (show Tri W3 w.heap.size (.int .i64 t) (.int .i64 r) (.bool o) by rw [hW3]; exact HT2.out.more HL2.out _)
      have HD3 := Lib.hid (show Tri W3 w2.heap.size (.int .i64 t) (.int .i64 r) (.bool o) by rw [hW3]; exact Tri.new _ _ _ _ _ rfl)
      have HZ3 := Lib.hid (show w2.heap.size < W3.heap.size by rw [hW3]; simp)
      go_upto_region 7 with fail
      rw [← hW3]
      clear hW3 s0 s1 s2 s3 s4 s5
      obtain ⟨s0, s1, s2, s3, s4, s5⟩ := HT3.out
      obtain ⟨D, hD⟩ : ∃ D, D = w2.heap.size := ⟨_, rfl⟩
      rw [← hD] at HD3 HZ3 HL2 ⊢
      obtain ⟨t0, t1, t2, t3, t4, t5⟩ := HD3.out
      have hc0 := (HB3.out.cell (p := ⟨b, off + j, none⟩) HBL.out).trans HCELL.out
      clear hD
      rcases hd5 with rfl | rfl | rfl | rfl | rfl
      · obtain ⟨t', ht'⟩ : ∃ t', t' = txF t := ⟨_, rfl⟩
        obtain ⟨r', hr'⟩ : ∃ r', r' = r := ⟨_, rfl⟩
        obtain ⟨o', ho'⟩ : ∃ o', o' = decide (248 ≤ t) := ⟨_, rfl⟩
        have HO := Lib.hid (show ∀ u, Calls Try.prog 11 #[.agg #[.int .i64 t, .int .i64 r, .bool o]] u fun x w' => x = .returned (.agg #[.int .i64 t', .int .i64 r', .bool o']) ∧ Below u.heap.size u w' from fun u => by subst ht' hr' ho'; exact op0_at HCAN.out u)
        have hcan : rightC t' r' o' = true ∧ moF t r ≤ moF t' r' := by subst ht' hr' ho'; exact op0_can HCAN.out
        have HC' := Lib.hid hcan.1
        have HR' := Lib.hid (fun u => right_at HC'.out u)
        have HM' := Lib.hid (fun u => mode_at HC'.out u)
        have hmm := hcan.2
        rw [← HMD.out] at hmm
        obtain ⟨m', hm'⟩ : ∃ m', m' = moF t' r' := ⟨_, rfl⟩
        rw [← hm'] at HM' hmm
        have hnl : (m' < m) = False := by simp; exact hmm
        have hnd : decide (m' < m) = false := by simp; exact hmm
        have HND := Lib.hid hnd
        clear ht' hr' ho' hcan hm' hmm hnl hnd
        go_wp2_with fail
        refine (HO.out _).mono ?_
        rintro y w4 ⟨rfl, hb⟩
        have HT4 := Lib.hid (HT3.out.keep hb (Nat.lt_trans HL2.out HZ3.out))
        have HD4 := Lib.hid (HD3.out.keep hb HZ3.out)
        have HB4 := Lib.hid (HB3.out.trans (hb.mono (Nat.le_of_lt (Nat.lt_trans HL2.out HZ3.out))))
        have HZ4 := Lib.hid (Nat.lt_of_lt_of_le HZ3.out hb.size)
        clear hb s0 s1 s2 s3 s4 s5 t0 t1 t2 t3 t4 t5 hc0
        obtain ⟨W5, hW5⟩ : ∃ W5, W5 = ((w4.setCell ⟨D, 0, none⟩ (.int .i64 t')).setCell ⟨D, 1, none⟩ (.int .i64 r')).setCell ⟨D, 2, none⟩ (.bool o') := ⟨_, rfl⟩
        have HT5 := Lib.hid (show Tri W5 w.heap.size (.int .i64 t) (.int .i64 r) (.bool o) by rw [hW5]; exact HT4.out.other3 (Nat.ne_of_lt HL2.out) _ _ _)
        have HD5 := Lib.hid (show Tri W5 D (.int .i64 t') (.int .i64 r') (.bool o') by rw [hW5]; exact ((HD4.out.set0 _).set1 _).set2 _)
        have HB5 := Lib.hid (show Below w.heap.size w W5 by rw [hW5]; exact ((HB4.out.setCell (p := ⟨D, 0, none⟩) (Nat.le_of_lt HL2.out) _).setCell (p := ⟨D, 1, none⟩) (Nat.le_of_lt HL2.out) _).setCell (p := ⟨D, 2, none⟩) (Nat.le_of_lt HL2.out) _)
        have HZ5 := Lib.hid (show D < W5.heap.size by rw [hW5]; have := HZ4.out; simpa [World.setCell] using this)
        obtain ⟨t0, t1, t2, t3, t4, t5⟩ := HD4.out
        go_upto_region 17 with fail
        rw [← hW5]
        clear hW5 t0 t1 t2 t3 t4 t5
        obtain ⟨t0, t1, t2, t3, t4, t5⟩ := HD5.out
        go_wp2_with fail
        refine (HR'.out _).mono ?_
        rintro y w6 ⟨rfl, hb⟩
        have HT6 := Lib.hid (HT5.out.keep hb (Nat.lt_trans HL2.out HZ5.out))
        have HD6 := Lib.hid (HD5.out.keep hb HZ5.out)
        have HB6 := Lib.hid (HB5.out.trans (hb.mono (Nat.le_of_lt (Nat.lt_trans HL2.out HZ5.out))))
        have HZ6 := Lib.hid (Nat.lt_of_lt_of_le HZ5.out hb.size)
        clear hb t0 t1 t2 t3 t4 t5
        obtain ⟨t0, t1, t2, t3, t4, t5⟩ := HD6.out
        have hc0 := (HB6.out.cell (p := ⟨b, off + j, none⟩) HBL.out).trans HCELL.out
        have hnd := HND.out
        go_wp2_with fail
        refine (HM'.out _).mono ?_
        rintro y w7 ⟨rfl, hb⟩
        have HT7 := Lib.hid (HT6.out.keep hb (Nat.lt_trans HL2.out HZ6.out))
        have HD7 := Lib.hid (HD6.out.keep hb HZ6.out)
        have HB7 := Lib.hid (HB6.out.trans (hb.mono (Nat.le_of_lt (Nat.lt_trans HL2.out HZ6.out))))
        have HZ7 := Lib.hid (Nat.lt_of_lt_of_le HZ6.out hb.size)
        clear hb t0 t1 t2 t3 t4 t5 hc0
        obtain ⟨t0, t1, t2, t3, t4, t5⟩ := HD7.out
        obtain ⟨s0, s1, s2, s3, s4, s5⟩ := HT7.out
        have hc0 := (HB7.out.cell (p := ⟨b, off + j, none⟩) HBL.out).trans HCELL.out
        go_wp2_with fail
        go_roundw
        case rel =>
          refine ⟨j + 1, t', r', o', HJ1.out, by simp, HC'.out, ((HT7.out.set0 _).set1 _).set2 _, ((HB7.out.setCell (p := ⟨w.heap.size, 0, none⟩) (by simp) _).setCell (p := ⟨w.heap.size, 1, none⟩) (by simp) _).setCell (p := ⟨w.heap.size, 2, none⟩) (by simp) _, by have := Nat.lt_trans HL2.out HZ7.out; simpa [World.setCell] using this⟩
        case measure => have := HJ1.out; simp [intOf]; omega
      · obtain ⟨t', ht'⟩ : ∃ t', t' = t := ⟨_, rfl⟩
        obtain ⟨r', hr'⟩ : ∃ r', r' = rxF r 1 := ⟨_, rfl⟩
        obtain ⟨o', ho'⟩ : ∃ o', o' = o := ⟨_, rfl⟩
        have HO := Lib.hid (show ∀ u, Calls Try.prog 13 #[.agg #[.int .i64 t, .int .i64 r, .bool o], .int .i64 1] u fun x w' => x = .returned (.agg #[.int .i64 t', .int .i64 r', .bool o']) ∧ Below u.heap.size u w' from fun u => by subst ht' hr' ho'; exact op1_at HCAN.out u)
        have hcan : rightC t' r' o' = true ∧ moF t r ≤ moF t' r' := by subst ht' hr' ho'; exact op1_can HCAN.out
        have HC' := Lib.hid hcan.1
        have HR' := Lib.hid (fun u => right_at HC'.out u)
        have HM' := Lib.hid (fun u => mode_at HC'.out u)
        have hmm := hcan.2
        rw [← HMD.out] at hmm
        obtain ⟨m', hm'⟩ : ∃ m', m' = moF t' r' := ⟨_, rfl⟩
        rw [← hm'] at HM' hmm
        have hnl : (m' < m) = False := by simp; exact hmm
        have hnd : decide (m' < m) = false := by simp; exact hmm
        have HND := Lib.hid hnd
        clear ht' hr' ho' hcan hm' hmm hnl hnd
        go_wp2_with fail
        refine (HO.out _).mono ?_
        rintro y w4 ⟨rfl, hb⟩
        have HT4 := Lib.hid (HT3.out.keep hb (Nat.lt_trans HL2.out HZ3.out))
        have HD4 := Lib.hid (HD3.out.keep hb HZ3.out)
        have HB4 := Lib.hid (HB3.out.trans (hb.mono (Nat.le_of_lt (Nat.lt_trans HL2.out HZ3.out))))
        have HZ4 := Lib.hid (Nat.lt_of_lt_of_le HZ3.out hb.size)
        clear hb s0 s1 s2 s3 s4 s5 t0 t1 t2 t3 t4 t5 hc0
        obtain ⟨W5, hW5⟩ : ∃ W5, W5 = ((w4.setCell ⟨D, 0, none⟩ (.int .i64 t')).setCell ⟨D, 1, none⟩ (.int .i64 r')).setCell ⟨D, 2, none⟩ (.bool o') := ⟨_, rfl⟩
        have HT5 := Lib.hid (show Tri W5 w.heap.size (.int .i64 t) (.int .i64 r) (.bool o) by rw [hW5]; exact HT4.out.other3 (Nat.ne_of_lt HL2.out) _ _ _)
        have HD5 := Lib.hid (show Tri W5 D (.int .i64 t') (.int .i64 r') (.bool o') by rw [hW5]; exact ((HD4.out.set0 _).set1 _).set2 _)
        have HB5 := Lib.hid (show Below w.heap.size w W5 by rw [hW5]; exact ((HB4.out.setCell (p := ⟨D, 0, none⟩) (Nat.le_of_lt HL2.out) _).setCell (p := ⟨D, 1, none⟩) (Nat.le_of_lt HL2.out) _).setCell (p := ⟨D, 2, none⟩) (Nat.le_of_lt HL2.out) _)
        have HZ5 := Lib.hid (show D < W5.heap.size by rw [hW5]; have := HZ4.out; simpa [World.setCell] using this)
        obtain ⟨t0, t1, t2, t3, t4, t5⟩ := HD4.out
        go_upto_region 17 with fail
        rw [← hW5]
        clear hW5 t0 t1 t2 t3 t4 t5
        obtain ⟨t0, t1, t2, t3, t4, t5⟩ := HD5.out
        go_wp2_with fail
        refine (HR'.out _).mono ?_
        rintro y w6 ⟨rfl, hb⟩
        have HT6 := Lib.hid (HT5.out.keep hb (Nat.lt_trans HL2.out HZ5.out))
        have HD6 := Lib.hid (HD5.out.keep hb HZ5.out)
        have HB6 := Lib.hid (HB5.out.trans (hb.mono (Nat.le_of_lt (Nat.lt_trans HL2.out HZ5.out))))
        have HZ6 := Lib.hid (Nat.lt_of_lt_of_le HZ5.out hb.size)
        clear hb t0 t1 t2 t3 t4 t5
        obtain ⟨t0, t1, t2, t3, t4, t5⟩ := HD6.out
        have hc0 := (HB6.out.cell (p := ⟨b, off + j, none⟩) HBL.out).trans HCELL.out
        have hnd := HND.out
        go_wp2_with fail
        refine (HM'.out _).mono ?_
        rintro y w7 ⟨rfl, hb⟩
        have HT7 := Lib.hid (HT6.out.keep hb (Nat.lt_trans HL2.out HZ6.out))
        have HD7 := Lib.hid (HD6.out.keep hb HZ6.out)
        have HB7 := Lib.hid (HB6.out.trans (hb.mono (Nat.le_of_lt (Nat.lt_trans HL2.out HZ6.out))))
        have HZ7 := Lib.hid (Nat.lt_of_lt_of_le HZ6.out hb.size)
        clear hb t0 t1 t2 t3 t4 t5 hc0
        obtain ⟨t0, t1, t2, t3, t4, t5⟩ := HD7.out
        obtain ⟨s0, s1, s2, s3, s4, s5⟩ := HT7.out
        have hc0 := (HB7.out.cell (p := ⟨b, off + j, none⟩) HBL.out).trans HCELL.out
        go_wp2_with fail
        go_roundw
        case rel =>
          refine ⟨j + 1, t', r', o', HJ1.out, by simp, HC'.out, ((HT7.out.set0 _).set1 _).set2 _, ((HB7.out.setCell (p := ⟨w.heap.size, 0, none⟩) (by simp) _).setCell (p := ⟨w.heap.size, 1, none⟩) (by simp) _).setCell (p := ⟨w.heap.size, 2, none⟩) (by simp) _, by have := Nat.lt_trans HL2.out HZ7.out; simpa [World.setCell] using this⟩
        case measure => have := HJ1.out; simp [intOf]; omega
      · obtain ⟨t', ht'⟩ : ∃ t', t' = t := ⟨_, rfl⟩
        obtain ⟨r', hr'⟩ : ∃ r', r' = rxF r 8 := ⟨_, rfl⟩
        obtain ⟨o', ho'⟩ : ∃ o', o' = o := ⟨_, rfl⟩
        have HO := Lib.hid (show ∀ u, Calls Try.prog 13 #[.agg #[.int .i64 t, .int .i64 r, .bool o], .int .i64 8] u fun x w' => x = .returned (.agg #[.int .i64 t', .int .i64 r', .bool o']) ∧ Below u.heap.size u w' from fun u => by subst ht' hr' ho'; exact op2_at HCAN.out u)
        have hcan : rightC t' r' o' = true ∧ moF t r ≤ moF t' r' := by subst ht' hr' ho'; exact op2_can HCAN.out
        have HC' := Lib.hid hcan.1
        have HR' := Lib.hid (fun u => right_at HC'.out u)
        have HM' := Lib.hid (fun u => mode_at HC'.out u)
        have hmm := hcan.2
        rw [← HMD.out] at hmm
        obtain ⟨m', hm'⟩ : ∃ m', m' = moF t' r' := ⟨_, rfl⟩
        rw [← hm'] at HM' hmm
        have hnl : (m' < m) = False := by simp; exact hmm
        have hnd : decide (m' < m) = false := by simp; exact hmm
        have HND := Lib.hid hnd
        clear ht' hr' ho' hcan hm' hmm hnl hnd
        go_wp2_with fail
        refine (HO.out _).mono ?_
        rintro y w4 ⟨rfl, hb⟩
        have HT4 := Lib.hid (HT3.out.keep hb (Nat.lt_trans HL2.out HZ3.out))
        have HD4 := Lib.hid (HD3.out.keep hb HZ3.out)
        have HB4 := Lib.hid (HB3.out.trans (hb.mono (Nat.le_of_lt (Nat.lt_trans HL2.out HZ3.out))))
        have HZ4 := Lib.hid (Nat.lt_of_lt_of_le HZ3.out hb.size)
        clear hb s0 s1 s2 s3 s4 s5 t0 t1 t2 t3 t4 t5 hc0
        obtain ⟨W5, hW5⟩ : ∃ W5, W5 = ((w4.setCell ⟨D, 0, none⟩ (.int .i64 t')).setCell ⟨D, 1, none⟩ (.int .i64 r')).setCell ⟨D, 2, none⟩ (.bool o') := ⟨_, rfl⟩
        have HT5 := Lib.hid (show Tri W5 w.heap.size (.int .i64 t) (.int .i64 r) (.bool o) by rw [hW5]; exact HT4.out.other3 (Nat.ne_of_lt HL2.out) _ _ _)
        have HD5 := Lib.hid (show Tri W5 D (.int .i64 t') (.int .i64 r') (.bool o') by rw [hW5]; exact ((HD4.out.set0 _).set1 _).set2 _)
        have HB5 := Lib.hid (show Below w.heap.size w W5 by rw [hW5]; exact ((HB4.out.setCell (p := ⟨D, 0, none⟩) (Nat.le_of_lt HL2.out) _).setCell (p := ⟨D, 1, none⟩) (Nat.le_of_lt HL2.out) _).setCell (p := ⟨D, 2, none⟩) (Nat.le_of_lt HL2.out) _)
        have HZ5 := Lib.hid (show D < W5.heap.size by rw [hW5]; have := HZ4.out; simpa [World.setCell] using this)
        obtain ⟨t0, t1, t2, t3, t4, t5⟩ := HD4.out
        go_upto_region 17 with fail
        rw [← hW5]
        clear hW5 t0 t1 t2 t3 t4 t5
        obtain ⟨t0, t1, t2, t3, t4, t5⟩ := HD5.out
        go_wp2_with fail
        refine (HR'.out _).mono ?_
        rintro y w6 ⟨rfl, hb⟩
        have HT6 := Lib.hid (HT5.out.keep hb (Nat.lt_trans HL2.out HZ5.out))
        have HD6 := Lib.hid (HD5.out.keep hb HZ5.out)
        have HB6 := Lib.hid (HB5.out.trans (hb.mono (Nat.le_of_lt (Nat.lt_trans HL2.out HZ5.out))))
        have HZ6 := Lib.hid (Nat.lt_of_lt_of_le HZ5.out hb.size)
        clear hb t0 t1 t2 t3 t4 t5
        obtain ⟨t0, t1, t2, t3, t4, t5⟩ := HD6.out
        have hc0 := (HB6.out.cell (p := ⟨b, off + j, none⟩) HBL.out).trans HCELL.out
        have hnd := HND.out
        go_wp2_with fail
        refine (HM'.out _).mono ?_
        rintro y w7 ⟨rfl, hb⟩
        have HT7 := Lib.hid (HT6.out.keep hb (Nat.lt_trans HL2.out HZ6.out))
        have HD7 := Lib.hid (HD6.out.keep hb HZ6.out)
        have HB7 := Lib.hid (HB6.out.trans (hb.mono (Nat.le_of_lt (Nat.lt_trans HL2.out HZ6.out))))
        have HZ7 := Lib.hid (Nat.lt_of_lt_of_le HZ6.out hb.size)
        clear hb t0 t1 t2 t3 t4 t5 hc0
        obtain ⟨t0, t1, t2, t3, t4, t5⟩ := HD7.out
        obtain ⟨s0, s1, s2, s3, s4, s5⟩ := HT7.out
        have hc0 := (HB7.out.cell (p := ⟨b, off + j, none⟩) HBL.out).trans HCELL.out
        go_wp2_with fail
        go_roundw
        case rel =>
          refine ⟨j + 1, t', r', o', HJ1.out, by simp, HC'.out, ((HT7.out.set0 _).set1 _).set2 _, ((HB7.out.setCell (p := ⟨w.heap.size, 0, none⟩) (by simp) _).setCell (p := ⟨w.heap.size, 1, none⟩) (by simp) _).setCell (p := ⟨w.heap.size, 2, none⟩) (by simp) _, by have := Nat.lt_trans HL2.out HZ7.out; simpa [World.setCell] using this⟩
        case measure => have := HJ1.out; simp [intOf]; omega
      · obtain ⟨t', ht'⟩ : ∃ t', t' = txG t := ⟨_, rfl⟩
        obtain ⟨r', hr'⟩ : ∃ r', r' = r := ⟨_, rfl⟩
        obtain ⟨o', ho'⟩ : ∃ o', o' = o := ⟨_, rfl⟩
        have HO := Lib.hid (show ∀ u, Calls Try.prog 15 #[.agg #[.int .i64 t, .int .i64 r, .bool o]] u fun x w' => x = .returned (.agg #[.int .i64 t', .int .i64 r', .bool o']) ∧ Below u.heap.size u w' from fun u => by subst ht' hr' ho'; exact op3_at HCAN.out u)
        have hcan : rightC t' r' o' = true ∧ moF t' r' ≤ moF t r := by subst ht' hr' ho'; exact op3_can HCAN.out
        have HC' := Lib.hid hcan.1
        have HR' := Lib.hid (fun u => right_at HC'.out u)
        have HM' := Lib.hid (fun u => mode_at HC'.out u)
        have hmm := hcan.2
        rw [← HMD.out] at hmm
        obtain ⟨m', hm'⟩ : ∃ m', m' = moF t' r' := ⟨_, rfl⟩
        rw [← hm'] at HM' hmm
        have hnl : (m < m') = False := by simp; exact hmm
        have hnd : decide (m < m') = false := by simp; exact hmm
        have HND := Lib.hid hnd
        clear ht' hr' ho' hcan hm' hmm hnl hnd
        go_wp2_with fail
        refine (HO.out _).mono ?_
        rintro y w4 ⟨rfl, hb⟩
        have HT4 := Lib.hid (HT3.out.keep hb (Nat.lt_trans HL2.out HZ3.out))
        have HD4 := Lib.hid (HD3.out.keep hb HZ3.out)
        have HB4 := Lib.hid (HB3.out.trans (hb.mono (Nat.le_of_lt (Nat.lt_trans HL2.out HZ3.out))))
        have HZ4 := Lib.hid (Nat.lt_of_lt_of_le HZ3.out hb.size)
        clear hb s0 s1 s2 s3 s4 s5 t0 t1 t2 t3 t4 t5 hc0
        obtain ⟨W5, hW5⟩ : ∃ W5, W5 = ((w4.setCell ⟨D, 0, none⟩ (.int .i64 t')).setCell ⟨D, 1, none⟩ (.int .i64 r')).setCell ⟨D, 2, none⟩ (.bool o') := ⟨_, rfl⟩
        have HT5 := Lib.hid (show Tri W5 w.heap.size (.int .i64 t) (.int .i64 r) (.bool o) by rw [hW5]; exact HT4.out.other3 (Nat.ne_of_lt HL2.out) _ _ _)
        have HD5 := Lib.hid (show Tri W5 D (.int .i64 t') (.int .i64 r') (.bool o') by rw [hW5]; exact ((HD4.out.set0 _).set1 _).set2 _)
        have HB5 := Lib.hid (show Below w.heap.size w W5 by rw [hW5]; exact ((HB4.out.setCell (p := ⟨D, 0, none⟩) (Nat.le_of_lt HL2.out) _).setCell (p := ⟨D, 1, none⟩) (Nat.le_of_lt HL2.out) _).setCell (p := ⟨D, 2, none⟩) (Nat.le_of_lt HL2.out) _)
        have HZ5 := Lib.hid (show D < W5.heap.size by rw [hW5]; have := HZ4.out; simpa [World.setCell] using this)
        obtain ⟨t0, t1, t2, t3, t4, t5⟩ := HD4.out
        go_upto_region 17 with fail
        rw [← hW5]
        clear hW5 t0 t1 t2 t3 t4 t5
        obtain ⟨t0, t1, t2, t3, t4, t5⟩ := HD5.out
        go_wp2_with fail
        refine (HR'.out _).mono ?_
        rintro y w6 ⟨rfl, hb⟩
        have HT6 := Lib.hid (HT5.out.keep hb (Nat.lt_trans HL2.out HZ5.out))
        have HD6 := Lib.hid (HD5.out.keep hb HZ5.out)
        have HB6 := Lib.hid (HB5.out.trans (hb.mono (Nat.le_of_lt (Nat.lt_trans HL2.out HZ5.out))))
        have HZ6 := Lib.hid (Nat.lt_of_lt_of_le HZ5.out hb.size)
        clear hb t0 t1 t2 t3 t4 t5
        obtain ⟨t0, t1, t2, t3, t4, t5⟩ := HD6.out
        have hc0 := (HB6.out.cell (p := ⟨b, off + j, none⟩) HBL.out).trans HCELL.out
        have hnd := HND.out
        go_wp2_with fail
        refine (HM'.out _).mono ?_
        rintro y w7 ⟨rfl, hb⟩
        have HT7 := Lib.hid (HT6.out.keep hb (Nat.lt_trans HL2.out HZ6.out))
        have HD7 := Lib.hid (HD6.out.keep hb HZ6.out)
        have HB7 := Lib.hid (HB6.out.trans (hb.mono (Nat.le_of_lt (Nat.lt_trans HL2.out HZ6.out))))
        have HZ7 := Lib.hid (Nat.lt_of_lt_of_le HZ6.out hb.size)
        clear hb t0 t1 t2 t3 t4 t5 hc0
        obtain ⟨t0, t1, t2, t3, t4, t5⟩ := HD7.out
        obtain ⟨s0, s1, s2, s3, s4, s5⟩ := HT7.out
        have hc0 := (HB7.out.cell (p := ⟨b, off + j, none⟩) HBL.out).trans HCELL.out
        go_wp2_with fail
        go_roundw
        case rel =>
          refine ⟨j + 1, t', r', o', HJ1.out, by simp, HC'.out, ((HT7.out.set0 _).set1 _).set2 _, ((HB7.out.setCell (p := ⟨w.heap.size, 0, none⟩) (by simp) _).setCell (p := ⟨w.heap.size, 1, none⟩) (by simp) _).setCell (p := ⟨w.heap.size, 2, none⟩) (by simp) _, by have := Nat.lt_trans HL2.out HZ7.out; simpa [World.setCell] using this⟩
        case measure => have := HJ1.out; simp [intOf]; omega
      · obtain ⟨t', ht'⟩ : ∃ t', t' = t := ⟨_, rfl⟩
        obtain ⟨r', hr'⟩ : ∃ r', r' = rxG r := ⟨_, rfl⟩
        obtain ⟨o', ho'⟩ : ∃ o', o' = o := ⟨_, rfl⟩
        have HO := Lib.hid (show ∀ u, Calls Try.prog 17 #[.agg #[.int .i64 t, .int .i64 r, .bool o]] u fun x w' => x = .returned (.agg #[.int .i64 t', .int .i64 r', .bool o']) ∧ Below u.heap.size u w' from fun u => by subst ht' hr' ho'; exact op4_at HCAN.out u)
        have hcan : rightC t' r' o' = true ∧ moF t' r' ≤ moF t r := by subst ht' hr' ho'; exact op4_can HCAN.out
        have HC' := Lib.hid hcan.1
        have HR' := Lib.hid (fun u => right_at HC'.out u)
        have HM' := Lib.hid (fun u => mode_at HC'.out u)
        have hmm := hcan.2
        rw [← HMD.out] at hmm
        obtain ⟨m', hm'⟩ : ∃ m', m' = moF t' r' := ⟨_, rfl⟩
        rw [← hm'] at HM' hmm
        have hnl : (m < m') = False := by simp; exact hmm
        have hnd : decide (m < m') = false := by simp; exact hmm
        have HND := Lib.hid hnd
        clear ht' hr' ho' hcan hm' hmm hnl hnd
        go_wp2_with fail
        refine (HO.out _).mono ?_
        rintro y w4 ⟨rfl, hb⟩
        have HT4 := Lib.hid (HT3.out.keep hb (Nat.lt_trans HL2.out HZ3.out))
        have HD4 := Lib.hid (HD3.out.keep hb HZ3.out)
        have HB4 := Lib.hid (HB3.out.trans (hb.mono (Nat.le_of_lt (Nat.lt_trans HL2.out HZ3.out))))
        have HZ4 := Lib.hid (Nat.lt_of_lt_of_le HZ3.out hb.size)
        clear hb s0 s1 s2 s3 s4 s5 t0 t1 t2 t3 t4 t5 hc0
        obtain ⟨W5, hW5⟩ : ∃ W5, W5 = ((w4.setCell ⟨D, 0, none⟩ (.int .i64 t')).setCell ⟨D, 1, none⟩ (.int .i64 r')).setCell ⟨D, 2, none⟩ (.bool o') := ⟨_, rfl⟩
        have HT5 := Lib.hid (show Tri W5 w.heap.size (.int .i64 t) (.int .i64 r) (.bool o) by rw [hW5]; exact HT4.out.other3 (Nat.ne_of_lt HL2.out) _ _ _)
        have HD5 := Lib.hid (show Tri W5 D (.int .i64 t') (.int .i64 r') (.bool o') by rw [hW5]; exact ((HD4.out.set0 _).set1 _).set2 _)
        have HB5 := Lib.hid (show Below w.heap.size w W5 by rw [hW5]; exact ((HB4.out.setCell (p := ⟨D, 0, none⟩) (Nat.le_of_lt HL2.out) _).setCell (p := ⟨D, 1, none⟩) (Nat.le_of_lt HL2.out) _).setCell (p := ⟨D, 2, none⟩) (Nat.le_of_lt HL2.out) _)
        have HZ5 := Lib.hid (show D < W5.heap.size by rw [hW5]; have := HZ4.out; simpa [World.setCell] using this)
        obtain ⟨t0, t1, t2, t3, t4, t5⟩ := HD4.out
        go_upto_region 17 with fail
        rw [← hW5]
        clear hW5 t0 t1 t2 t3 t4 t5
        obtain ⟨t0, t1, t2, t3, t4, t5⟩ := HD5.out
        go_wp2_with fail
        refine (HR'.out _).mono ?_
        rintro y w6 ⟨rfl, hb⟩
        have HT6 := Lib.hid (HT5.out.keep hb (Nat.lt_trans HL2.out HZ5.out))
        have HD6 := Lib.hid (HD5.out.keep hb HZ5.out)
        have HB6 := Lib.hid (HB5.out.trans (hb.mono (Nat.le_of_lt (Nat.lt_trans HL2.out HZ5.out))))
        have HZ6 := Lib.hid (Nat.lt_of_lt_of_le HZ5.out hb.size)
        clear hb t0 t1 t2 t3 t4 t5
        obtain ⟨t0, t1, t2, t3, t4, t5⟩ := HD6.out
        have hc0 := (HB6.out.cell (p := ⟨b, off + j, none⟩) HBL.out).trans HCELL.out
        have hnd := HND.out
        go_wp2_with fail
        refine (HM'.out _).mono ?_
        rintro y w7 ⟨rfl, hb⟩
        have HT7 := Lib.hid (HT6.out.keep hb (Nat.lt_trans HL2.out HZ6.out))
        have HD7 := Lib.hid (HD6.out.keep hb HZ6.out)
        have HB7 := Lib.hid (HB6.out.trans (hb.mono (Nat.le_of_lt (Nat.lt_trans HL2.out HZ6.out))))
        have HZ7 := Lib.hid (Nat.lt_of_lt_of_le HZ6.out hb.size)
        clear hb t0 t1 t2 t3 t4 t5 hc0
        obtain ⟨t0, t1, t2, t3, t4, t5⟩ := HD7.out
        obtain ⟨s0, s1, s2, s3, s4, s5⟩ := HT7.out
        have hc0 := (HB7.out.cell (p := ⟨b, off + j, none⟩) HBL.out).trans HCELL.out
        go_wp2_with fail
        go_roundw
        case rel =>
          refine ⟨j + 1, t', r', o', HJ1.out, by simp, HC'.out, ((HT7.out.set0 _).set1 _).set2 _, ((HB7.out.setCell (p := ⟨w.heap.size, 0, none⟩) (by simp) _).setCell (p := ⟨w.heap.size, 1, none⟩) (by simp) _).setCell (p := ⟨w.heap.size, 2, none⟩) (by simp) _, by have := Nat.lt_trans HL2.out HZ7.out; simpa [World.setCell] using this⟩
        case measure => have := HJ1.out; simp [intOf]; omega
    · have parts : (¬ (j : Int) < (len : Int)) ∨ ((j : Int) < (len : Int) ∧ ¬ (j : Int) < 400) := by omega
      clear hjk
      rcases parts with c1 | ⟨c1, c2⟩
      all_goals go_wp2_with fail
      all_goals refine (HL.out _).mono ?_
      all_goals rintro y w2 ⟨rfl, hb⟩
      all_goals have HB2 := Lib.hid (HB.out.trans (hb.mono (Nat.le_of_lt HLT.out)))
      all_goals clear hb
      all_goals go_wp2_with fail
      all_goals go_ret
      all_goals exact ⟨rfl, HB2.out⟩
set_option maxRecDepth 100000 in
theorem lifted (os : Os) (started : os.Started) (H : Type) (enc : TypeId × Value → H) :
    ReturnsInHanded {} Try.checked os 4 .any (Rows.countStaysSpec.pre6 enc Try.prog Try.f4 Rows.countStaysRow.domain false) (Rows.countStaysSpec.post enc Try.prog Try.f4 false true false false) := by
  refine returnsInHanded_of_change (C := Try.checked) own started (by kernel_rfl) Try.func4
    (ChangeSpec.witness6 (enc := enc) (C := Try.checked) false ⟨#[], #[.slice none 0 0], []⟩ 8 (by kernel_rfl) (by kernel_rfl) (by kernel_rfl) (by kernel_rfl)) ?_
  intro W base args ds gs before hval0 hW _ _
  have hval : ∀ (j : Nat) t v, Try.f4.params[j]? = some t → args[j]? = some v → Value.okWide Try.prog W .any base t v := hval0
  have hW' := hW
  obtain ⟨p, q, hA0, hV, rfl, hfz, hnd⟩ := hW
  have hA : DataW.TrodAll enc Try.prog W 0 (fun _ => true) true Try.f4.params.toList args.toList ds p := hA0
  rw [Try.params4] at hA hval
  obtain ⟨v0, vs0, d0, ds0, p0, q0, hargs, rfl, rfl, h0, r0⟩ := trodAll_cons hA
  obtain ⟨rfl, rfl, rfl⟩ := trodAll_nil r0
  obtain rfl : args = #[v0] := by cases args; simp_all
  obtain ⟨rfl, rfl⟩ := trodVars_none hV
  obtain ⟨a0, len0, cap0, rfl⟩ := okWide_slice Try.underlying31 (hval 0 31 v0 rfl rfl)
  have k0 := h0
  have lt0 : ∀ x ∈ p0, x.block < W.heap.size := by obtain ⟨m, hm⟩ := k0; exact DataW.trod_lt m _ _ _ hm
  obtain ⟨z0, w0⟩ : ∃ zs, IsRow W a0 len0 cap0 zs := by
    obtain ⟨fuel, hf⟩ := h0
    rcases open_ints Try.underlying31 Try.underlying5 (by kernel_rfl) hf with ⟨hcs, _⟩ | ⟨x, l, c, zs, hcs, _, hl, hm, hz, _, hcell, hwz⟩
    · simp [Value.cells] at hcs
      obtain ⟨rfl, rfl, rfl⟩ := hcs
      exact ⟨[], .inl ⟨rfl, rfl, rfl, rfl⟩⟩
    · simp [Value.cells] at hcs
      obtain ⟨rfl, rfl, rfl⟩ := hcs
      exact ⟨zs, .inr ⟨_, rfl, hl, hm, by simpa using hz, hcell, hwz⟩⟩
  clear hA0 hval0
  refine (walk a0 len0 cap0 z0 W w0).mono fun e W' ⟨he, bel⟩ => ?_
  subst he
  exact ⟨_, rfl, _, _, _, [], _, [], hW', trodAll_mk1 (shut_bool Try.underlying4 _), (trodAll_cons_mk (Below.trod laidOut (by kernel_rfl) (of_decide_eq_true (by kernel_rfl)) k0 bel lt0) trodAll_mk0), rfl, bel.frame _, fun h => by cases h⟩
theorem over : Rows.countStaysRow.holds Try.pinned (OpenSpec.ofChange Rows.countStaysSpec) :=
  OpenClaim.holds_of_wide 4 Try.f4 rfl rfl rfl rfl rfl rfl rfl ⟨rfl, rfl, rfl, rfl, rfl⟩ rfl rfl rfl rfl rfl (by kernel_rfl) Try.func4 (by kernel_rfl)
    (of_decide_eq_true (by kernel_rfl)) (by unfold Func.isWrapper; first | (rw [if_pos (by decide +kernel)]; kernel_rfl) | (rw [if_neg (by decide +kernel)]; exact ⟨rfl, rfl⟩))
    (fun os started H enc _ => lifted os started H enc)
/-- The statement. -/
theorem proved : Rows.CountStaysSaid := over
end Go.Proofs.Ytkmajhecjjhmbaa.countStays
