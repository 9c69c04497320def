/- OscCounts (P16.1): of every oscillator, and ticks: each answer, how many ticks there were, and whether each bit had as many as it may, is what the document says. No conditions. -/
import Derived.Test.YtfmmpglehiiofaaRows
import Derived.Test.YtfmmpglehiiofaaOsr
import Derived.Test.YtfmmpglehiiofaaQui
import Derived.Deep.RegionHeld3
import Derived.Deep.DeepCutAuto
import Derived.Lib.SmallJoins
import Derived.WalkKit
import Derived.ProofKit
import Derived.OpenShut
import Derived.ShutString
import Derived.ChangeOld
import Derived.Below
namespace Go.Proofs.Ytfmmpglehiiofaa.oscCounts
open Go.ChangeShapes Go.WideShapes Go.ChangeAt Go.RowKit
theorem own : ownKnob Try.prog.godebug = none := by kernel_rfl
theorem laidOut : laidOutB Try.prog = true := by kernel_rfl
set_option maxRecDepth 100000 in
set_option maxHeartbeats 8000000 in
theorem walk (n d : Int) (a1 : Option Addr) (len1 cap1 : Nat) (z1 : List Int) (w : World) (wn : (Lit.int .i64 n).wf = true) (_wd : (Lit.int .i64 d).wf = true) (w1 : RowI .i64 w a1 len1 cap1 z1) :
    Calls Try.prog 7 #[.agg #[.int .i64 n, .int .i64 d], .slice a1 len1 cap1] w fun y w' => y = .returned (.bool true) ∧ Below w.heap.size w w' := by
  obtain ⟨hrow, hlc, hcm⟩ := rowI_at w1
  have hn := wf64 wn
  obtain ⟨D, hD⟩ : ∃ D, D = w.heap.size := ⟨_, rfl⟩
  obtain ⟨W0, hW0⟩ : ∃ W0, W0 = w.alloc (.cells #[.int .i64 n, .int .i64 d] 90) := ⟨_, rfl⟩
  have hb0 : Below w.heap.size w W0 := by rw [hW0]; exact (Below.refl _ w).alloc (Nat.le_refl _) _
  have hS := (show Blk W0 D 90 [.int .i64 n, .int .i64 d] by rw [hW0, hD]; exact Blk.new w _ [.int .i64 n, .int .i64 d])
  have HS0 := Lib.hid hS; have HB0 := Lib.hid hb0
  have HD := Lib.hid hD
  have q0 : W0.cell? ⟨D, 0, none⟩ = some (.int .i64 n) := hS.cellAt (i := 0) (by simp)
  have q1 : W0.cell? ⟨D, 1, none⟩ = some (.int .i64 d) := hS.cellAt (i := 1) (by simp)
  have HROW := Lib.hid hrow; have HLC := Lib.hid hlc
  clear hS hb0 hrow hlc hcm w1 wn
  have HR := Lib.hid (fun u => oright_any n d hn u)
  have HQ := Lib.hid (fun u => roright_any n d hn u)
  obtain ⟨r, hr⟩ : ∃ r, r = rightO n d := ⟨_, rfl⟩
  have HRE := Lib.hid hr
  rw [← hr] at HR HQ
  have kr : (r != r) = false := by simp
  cases r
  case false =>
    have HN := Lib.hid (fun u => onew_no n d hn hr.symm u)
    have HM := Lib.hid (fun u => ronew_no n d hn hr.symm u)
    clear hr hn
    go_enter Try.func7, Try.ntmps7
    go_upto_region 1 with fail
    rw [← hW0, ← hD]
    clear hW0 hD
    go_wp2_with fail
    refine (HN.out _).mono ?_
    rintro y w3 ⟨rfl, hb⟩
    have HB3 := Lib.hid (below_transG HB0.out hb); have HS3 := Lib.hid (HS0.out.keep hb HS0.out.lt)
    clear hb q0 q1
    have q0 : w3.cell? ⟨D, 0, none⟩ = some (.int .i64 n) := HS3.out.cellAt (i := 0) (by simp)
    have q1 : w3.cell? ⟨D, 1, none⟩ = some (.int .i64 d) := HS3.out.cellAt (i := 1) (by simp)
    go_wp2_with fail
    refine (HM.out _).mono ?_
    rintro y w4 ⟨rfl, hb⟩
    have HB4 := Lib.hid (below_transG HB3.out hb); have HS4 := Lib.hid (HS3.out.keep hb HS3.out.lt)
    clear hb q0 q1
    have HZ := Lib.hid (show ∀ u, Below w4.heap.size w4 u → (Below w4.heap.size w4 u ∧ (u.cell? ⟨D, 0, none⟩ = some (.int .i64 n) ∧ u.cell? ⟨D, 1, none⟩ = some (.int .i64 d))) from fun u hu => ⟨hu, (HS4.out.keep hu HS4.out.lt).cellAt (i := 0) (by simp), (HS4.out.keep hu HS4.out.lt).cellAt (i := 1) (by simp)⟩)
    have HK1 := Lib.hid (show ∀ u, Below w4.heap.size w4 u → Calls Try.prog 46 #[.agg #[.int .i64 n, .int .i64 d]] u fun y w' => y = .returned (.bool false) ∧ (Below w4.heap.size w4 w' ∧ (w'.cell? ⟨D, 0, none⟩ = some (.int .i64 n) ∧ w'.cell? ⟨D, 1, none⟩ = some (.int .i64 d))) from fun u hu => (HR.out u).mono fun y w' ⟨h1, h2⟩ => ⟨h1, HZ.out _ (below_transG hu h2)⟩)
    have HK2 := Lib.hid (show ∀ u, Below w4.heap.size w4 u → Calls Try.prog 47 #[.agg #[.int .i64 n, .int .i64 d]] u fun y w' => y = .returned (.bool false) ∧ (Below w4.heap.size w4 w' ∧ (w'.cell? ⟨D, 0, none⟩ = some (.int .i64 n) ∧ w'.cell? ⟨D, 1, none⟩ = some (.int .i64 d))) from fun u hu => (HQ.out u).mono fun y w' ⟨h1, h2⟩ => ⟨h1, HZ.out _ (below_transG hu h2)⟩)
    have z0 := HZ.out _ (Below.refl _ _)
    have z1 := HZ.out _ (Below.refl _ _).drew
    go_upto_region 3 with fail
    go_cut [36] (fun s36 wx => s36 = .bool false ∧ Below w4.heap.size w4 wx)
    case first =>
      go_region_held3 (fun u => (Below w4.heap.size w4 u ∧ (u.cell? ⟨D, 0, none⟩ = some (.int .i64 n) ∧ u.cell? ⟨D, 1, none⟩ = some (.int .i64 d)))) (first | (with_reducible assumption) | (with_reducible exact HZ.out _ (by first | assumption | exact (Below.refl _ _).drew | exact Below.refl _ _))) (first | (go_at_call 46; refine (HK1.out _ (by first | exact Below.refl _ _ | exact (Below.refl _ _).drew)).mono ?_; rintro e6 w6 ⟨rfl, h6S⟩) | (go_at_call 47; refine (HK2.out _ h6S.1).mono ?_; rintro e7 w7 ⟨rfl, h7S⟩))
      all_goals (go_wp2_with fail; go_meet; exact ⟨rfl, h7S.1⟩)
    case rest =>
    obtain ⟨rfl, h2⟩ := hcut
    have HB5 := Lib.hid (below_transG HB4.out h2)
    clear h2 z0 z1
    go_wp2_with fail
    refine (live16 _).mono ?_
    rintro y w5 ⟨rfl, hb⟩
    have HB6 := Lib.hid (below_transG HB5.out hb)
    clear hb
    go_wp2_with fail
    go_ret
    exact ⟨rfl, HB6.out⟩
  case true =>
    have HN := Lib.hid (fun u => onew_yes n d hn hr.symm u)
    have HM := Lib.hid (fun u => ronew_yes n d hn hr.symm u)
    clear hr hn
    go_enter Try.func7, Try.ntmps7
    go_upto_region 1 with fail
    rw [← hW0, ← hD]
    clear hW0 hD
    go_wp2_with fail
    refine (HN.out _).mono ?_
    rintro y w3 ⟨B, rfl, hO, hBB, hb⟩
    have HB3 := Lib.hid (below_transG HB0.out hb); have HS3 := Lib.hid (HS0.out.keep hb HS0.out.lt)
    have HO3 := Lib.hid hO; have HBB := Lib.hid (Nat.le_trans HB0.out.size hBB); have HBD := Lib.hid (show D < B from Nat.lt_of_lt_of_le HS0.out.lt hBB)
    clear hb q0 q1 hO hBB
    have q0 : w3.cell? ⟨D, 0, none⟩ = some (.int .i64 n) := HS3.out.cellAt (i := 0) (by simp)
    have q1 : w3.cell? ⟨D, 1, none⟩ = some (.int .i64 d) := HS3.out.cellAt (i := 1) (by simp)
    go_wp2_with fail
    refine (HM.out _).mono ?_
    rintro y w4 ⟨B', rfl, hO, hBB, hb⟩
    have HB4 := Lib.hid (below_transG HB3.out hb); have HS4 := Lib.hid (HS3.out.keep hb HS3.out.lt)
    have HI4 := Lib.hid (show O2 w.heap.size w4 B B' n d (0) (false) (0) (false) from ⟨HO3.out.on hb, hO, by have := HO3.out.lt; omega, HBB.out, Nat.le_trans HB3.out.size hBB, HB4.out.size⟩)
    clear hb q0 q1 hO hBB
    have HZ := Lib.hid (show ∀ u, Below w4.heap.size w4 u → (Below w4.heap.size w4 u ∧ (u.cell? ⟨D, 0, none⟩ = some (.int .i64 n) ∧ u.cell? ⟨D, 1, none⟩ = some (.int .i64 d))) from fun u hu => ⟨hu, (HS4.out.keep hu HS4.out.lt).cellAt (i := 0) (by simp), (HS4.out.keep hu HS4.out.lt).cellAt (i := 1) (by simp)⟩)
    have HK1 := Lib.hid (show ∀ u, Below w4.heap.size w4 u → Calls Try.prog 46 #[.agg #[.int .i64 n, .int .i64 d]] u fun y w' => y = .returned (.bool true) ∧ (Below w4.heap.size w4 w' ∧ (w'.cell? ⟨D, 0, none⟩ = some (.int .i64 n) ∧ w'.cell? ⟨D, 1, none⟩ = some (.int .i64 d))) from fun u hu => (HR.out u).mono fun y w' ⟨h1, h2⟩ => ⟨h1, HZ.out _ (below_transG hu h2)⟩)
    have HK2 := Lib.hid (show ∀ u, Below w4.heap.size w4 u → Calls Try.prog 47 #[.agg #[.int .i64 n, .int .i64 d]] u fun y w' => y = .returned (.bool true) ∧ (Below w4.heap.size w4 w' ∧ (w'.cell? ⟨D, 0, none⟩ = some (.int .i64 n) ∧ w'.cell? ⟨D, 1, none⟩ = some (.int .i64 d))) from fun u hu => (HQ.out u).mono fun y w' ⟨h1, h2⟩ => ⟨h1, HZ.out _ (below_transG hu h2)⟩)
    have z0 := HZ.out _ (Below.refl _ _)
    have z1 := HZ.out _ (Below.refl _ _).drew
    go_upto_region 3 with fail
    go_cut [36] (fun s36 wx => s36 = .bool false ∧ Below w4.heap.size w4 wx)
    case first =>
      go_region_held3 (fun u => (Below w4.heap.size w4 u ∧ (u.cell? ⟨D, 0, none⟩ = some (.int .i64 n) ∧ u.cell? ⟨D, 1, none⟩ = some (.int .i64 d)))) (first | (with_reducible assumption) | (with_reducible exact HZ.out _ (by first | assumption | exact (Below.refl _ _).drew | exact Below.refl _ _))) (first | (go_at_call 46; refine (HK1.out _ (by first | exact Below.refl _ _ | exact (Below.refl _ _).drew)).mono ?_; rintro e6 w6 ⟨rfl, h6S⟩) | (go_at_call 47; refine (HK2.out _ h6S.1).mono ?_; rintro e7 w7 ⟨rfl, h7S⟩))
      all_goals (go_wp2_with fail; go_meet; exact ⟨rfl, h7S.1⟩)
    case rest =>
    obtain ⟨rfl, h2⟩ := hcut
    have HB5 := Lib.hid (below_transG HB4.out h2); have HI5 := Lib.hid (HI4.out.on h2)
    clear h2 z0 z1
    go_wp2_with fail
    go_loopw [9] (fun s9 wr => ∃ (i : Nat) (c : Int) (u : Bool), s9 = .int .i64 (i : Int) ∧ i ≤ 100 ∧ O2 w.heap.size wr B B' n d (c) (u) (c) (u) ∧ Below w.heap.size w wr) (fun s9 _ => 100 - (intOf s9).toNat)
    case atStart => exact ⟨0, 0, false, rfl, by omega, HI5.out, HB5.out⟩
    case round =>
      obtain ⟨i, c, u, rfl, hi, hI, hB⟩ := hrel
      have HI := Lib.hid hI; have HB := Lib.hid hB
      clear hI hB HR HQ HN HM HB3 HS3 HO3 HBB HBD HB4 HS4 HI4 HZ HK1 HK2 HB5 HI5 HRE HD kr HB0 HS0
      by_cases hgo : i < len1 ∧ i < 100
      · have i1 : (i : Int) < (len1 : Int) := by omega
        have i2 : (i : Int) < 100 := by omega
        have i3 : (0 : Int) ≤ (i : Int) := by omega
        have i4 : i < len1 := hgo.1
        rcases HROW.out with h0 | ⟨g, off, rfl, hg, hrows⟩
        · omega
        obtain ⟨t, ht, hcell⟩ := hrows i hgo.1
        have hcell0 := hcell wr HB.out
        have HG2 := Lib.hid (show i < 100 from hgo.2)
        obtain ⟨S, hS⟩ : ∃ S : World → Prop, S = fun x => x.cell? ⟨g, off + i, none⟩ = some (.int .i64 t) := ⟨_, rfl⟩
        have HA := Lib.hid (fun x (h : O2 w.heap.size x B B' n d (c) (u) (c) (u)) => h.stepA t (wf64 ht))
        have HC := Lib.hid (fun x c' u' (h : O2 w.heap.size x B B' n d (c') (u') (c) (u)) => h.stepB t (wf64 ht))
        obtain ⟨e, he⟩ : ∃ e, e = stepE c t := ⟨_, rfl⟩
        obtain ⟨c1, hc1⟩ : ∃ c1, c1 = stepC c t := ⟨_, rfl⟩
        obtain ⟨u1, hu1⟩ : ∃ u1, u1 = stepU n d c u t := ⟨_, rfl⟩
        rw [← he, ← hc1, ← hu1] at HA HC
        have ke : (e != e) = false := by simp
        have kc : (c1 != c1) = false := by simp
        obtain ⟨v1, hv1⟩ : ∃ v1, v1 = !u1 := ⟨_, rfl⟩
        have ku : (v1 == u1) = false := by rw [hv1]; cases u1 <;> rfl
        have HW := Lib.hid (show ∀ x, Below w.heap.size w x → x.cell? ⟨g, off + i, none⟩ = some (.int .i64 t) from fun x hx => hcell x hx)
        have HK1 := Lib.hid (show ∀ x, O2 w.heap.size x B B' n d (c) (u) (c) (u) → Below w.heap.size w x → Calls Try.prog 49 #[.pointer (some ⟨B, 0, none⟩), .int .i64 t] x fun y w' => y = .returned (.int .i64 e) ∧ O2 w.heap.size w' B B' n d (c1) (u1) (c) (u) ∧ (Below w.heap.size w w' ∧ w'.cell? ⟨g, off + i, none⟩ = some (.int .i64 t)) from fun x h hb => (HA.out x h).mono fun y w' ⟨h1, h2, h3⟩ => ⟨h1, h2, hb.trans h3, HW.out _ (hb.trans h3)⟩)
        have HK2 := Lib.hid (show ∀ x, O2 w.heap.size x B B' n d (c1) (u1) (c) (u) → Below w.heap.size w x → Calls Try.prog 50 #[.pointer (some ⟨B', 0, none⟩), .int .i64 t] x fun y w' => y = .returned (.int .i64 e) ∧ O2 w.heap.size w' B B' n d (c1) (u1) (c1) (u1) ∧ (Below w.heap.size w w' ∧ w'.cell? ⟨g, off + i, none⟩ = some (.int .i64 t)) from fun x h hb => (HC.out x _ _ h).mono fun y w' ⟨h1, h2, h3⟩ => ⟨h1, h2, hb.trans h3, HW.out _ (hb.trans h3)⟩)
        have HK3 := Lib.hid (show ∀ x, O2 w.heap.size x B B' n d (c1) (u1) (c1) (u1) → Calls Try.prog 51 #[.pointer (some ⟨B, 0, none⟩)] x fun y w' => y = .returned (.int .i64 c1) ∧ x = w' from fun x h => ocount_any n d c1 u1 B x h.a)
        have HK4 := Lib.hid (show ∀ x, O2 w.heap.size x B B' n d (c1) (u1) (c1) (u1) → Calls Try.prog 52 #[.pointer (some ⟨B, 0, none⟩)] x fun y w' => y = .returned (.bool v1) ∧ x = w' from fun x h => by rw [hv1]; exact osteady_any n d c1 u1 B x h.a)
        have HQ2 := Lib.hid (show ∀ x, O2 w.heap.size x B B' n d (c1) (u1) (c1) (u1) → (x.cell? ⟨B', 2, none⟩ = some (.int .i64 c1) ∧ x.cell? ⟨B', 3, none⟩ = some (.bool u1)) from fun x h => ⟨h.b.blk.cellAt (i := 2) (by simp), h.b.blk.cellAt (i := 3) (by simp)⟩)
        have HOD := Lib.hid (show ∀ x, O2 w.heap.size x B B' n d (c1) (u1) (c1) (u1) → O2 w.heap.size x.drew B B' n d (c1) (u1) (c1) (u1) from fun x h => h.on (Below.refl _ _).drew)
        have h6c0 : wr.cell? ⟨g, off + i, none⟩ = some (.int .i64 t) := hcell0
        have h6c1 : wr.drew.cell? ⟨g, off + i, none⟩ = some (.int .i64 t) := hcell _ HB.out.drew
        clear he hc1 hu1 hv1 hcell hcell0 hgo hrows ht hS
        clear HA HC HW HROW HLC
        go_upto_region 10 with fail
        go_cut [80] (fun s80 wx => s80 = .bool false ∧ O2 w.heap.size wx B B' n d (c1) (u1) (c1) (u1) ∧ Below w.heap.size w wx)
        case first =>
          refine wp_region_held_drew (S := fun x => (Below w.heap.size w x ∧ x.cell? ⟨g, off + i, none⟩ = some (.int .i64 t))) (by kernel_rfl) ⟨HB.out.drew, h6c1⟩ (fun hHeld => ?_)
          refine wpAnyH_take (i := 0) (oi := _) (v := ?_) rfl (by kernel_rfl) (by kernel_rfl) (by kernel_rfl) (fun _ _ _ h => h) (Or.inl ⟨by rfl, ?_⟩) (by assumption) ?_
          rotate_left
          · intro x hSx
            try dsimp only at hSx
            obtain ⟨_, hSx1⟩ := hSx
            go_simp
            first | done | with_reducible rfl
          try simp only [Act.put, List.setIfInBounds_toArray, List.set_cons_zero, List.set_cons_succ]
          refine wpAnyH_take (i := 1) (oi := _) (v := ?_) rfl (by kernel_rfl) (by kernel_rfl) (by kernel_rfl) (fun _ _ _ h => h) (Or.inl ⟨by rfl, ?_⟩) (by assumption) ?_
          rotate_left
          · intro x hSx
            try dsimp only at hSx
            obtain ⟨_, hSx1⟩ := hSx
            go_simp
            first | done | with_reducible rfl
          try simp only [Act.put, List.setIfInBounds_toArray, List.set_cons_zero, List.set_cons_succ]
          refine wpAnyH_take (i := 2) (oi := _) (v := ?_) rfl (by kernel_rfl) (by kernel_rfl) (by kernel_rfl) (fun _ _ _ h => h) (Or.inl ⟨by rfl, ?_⟩) (by assumption) ?_
          rotate_left
          · intro x hSx
            try dsimp only at hSx
            obtain ⟨_, hSx1⟩ := hSx
            go_simp
            first | done | with_reducible rfl
          try simp only [Act.put, List.setIfInBounds_toArray, List.set_cons_zero, List.set_cons_succ]
          refine wpAnyH_take (i := 3) (oi := _) (v := ?_) rfl (by kernel_rfl) (by kernel_rfl) (by kernel_rfl) (fun _ _ _ h => h) (Or.inl ⟨by rfl, ?_⟩) (by assumption) ?_
          rotate_left
          · intro x hSx
            try dsimp only at hSx
            obtain ⟨_, hSx1⟩ := hSx
            go_simp
            first | done | with_reducible rfl
          try simp only [Act.put, List.setIfInBounds_toArray, List.set_cons_zero, List.set_cons_succ]
          refine wpAnyH_take (i := 4) (oi := _) (v := ?_) rfl (by kernel_rfl) (by kernel_rfl) (by kernel_rfl) (fun _ _ _ h => h) (Or.inl ⟨by rfl, ?_⟩) (by assumption) ?_
          rotate_left
          · intro x hSx
            try dsimp only at hSx
            obtain ⟨_, hSx1⟩ := hSx
            go_simp
            first | done | with_reducible rfl
          try simp only [Act.put, List.setIfInBounds_toArray, List.set_cons_zero, List.set_cons_succ]
          refine wpAnyH_take (i := 6) (oi := _) (v := ?_) rfl (by kernel_rfl) (by kernel_rfl) (by kernel_rfl) (fun _ _ _ h => h) (Or.inl ⟨by rfl, ?_⟩) (by assumption) ?_
          rotate_left
          · intro x hSx
            try dsimp only at hSx
            obtain ⟨_, hSx1⟩ := hSx
            go_simp
            first | done | with_reducible rfl
          try simp only [Act.put, List.setIfInBounds_toArray, List.set_cons_zero, List.set_cons_succ]
          refine wpAnyH_take (i := 7) (oi := _) (v := ?_) rfl (by kernel_rfl) (by kernel_rfl) (by kernel_rfl) (fun _ _ _ h => h) (Or.inl ⟨by rfl, ?_⟩) (by assumption) ?_
          rotate_left
          · intro x hSx
            try dsimp only at hSx
            obtain ⟨_, hSx1⟩ := hSx
            go_simp
            first | done | with_reducible rfl
          try simp only [Act.put, List.setIfInBounds_toArray, List.set_cons_zero, List.set_cons_succ]
          refine wpAnyH_take (i := 8) (oi := _) (v := ?_) rfl (by kernel_rfl) (by kernel_rfl) (by kernel_rfl) (fun _ _ _ h => h) (Or.inl ⟨by rfl, ?_⟩) (by assumption) ?_
          rotate_left
          · intro x hSx
            try dsimp only at hSx
            obtain ⟨_, hSx1⟩ := hSx
            go_simp
            first | done | with_reducible rfl
          try simp only [Act.put, List.setIfInBounds_toArray, List.set_cons_zero, List.set_cons_succ]
          refine wpAnyH_take (i := 9) (oi := _) (v := ?_) rfl (by kernel_rfl) (by kernel_rfl) (by kernel_rfl) (fun _ _ _ h => h) (Or.inl ⟨by rfl, ?_⟩) (by assumption) ?_
          rotate_left
          · intro x hSx
            try dsimp only at hSx
            obtain ⟨_, hSx1⟩ := hSx
            go_simp
            first | done | with_reducible rfl
          try simp only [Act.put, List.setIfInBounds_toArray, List.set_cons_zero, List.set_cons_succ]
          refine wpAnyH_take (i := 10) (oi := _) (v := ?_) rfl (by kernel_rfl) (by kernel_rfl) (by kernel_rfl) (fun _ _ _ h => h) (Or.inl ⟨by rfl, ?_⟩) (by assumption) ?_
          rotate_left
          · intro x hSx
            try dsimp only at hSx
            obtain ⟨_, hSx1⟩ := hSx
            go_simp
            first | done | with_reducible rfl
          try simp only [Act.put, List.setIfInBounds_toArray, List.set_cons_zero, List.set_cons_succ]
          refine wpAnyH_ready (rs := [5]) (by kernel_rfl) (by simp) ?_
          refine AllReadyH.cons (o := _) rfl (fun K hK => ?_) AllReadyH.nil
          go_simp
          refine (HK1.out _ (HI.out.on (Below.refl _ _).drew) HB.out.drew).mono ?_
          rintro e6 w6 ⟨rfl, h6, h6S⟩
          go_wp2_with fail
          refine hK.out _ _ h6S (fun hHeld => ?_)
          clear hK K
          try simp only [Act.put, List.setIfInBounds_toArray, List.set_cons_zero, List.set_cons_succ]
          refine wpAnyH_ready (rs := [11]) (by kernel_rfl) (by simp) ?_
          refine AllReadyH.cons (o := _) rfl (fun K hK => ?_) AllReadyH.nil
          go_simp
          refine (HK2.out _ h6 h6S.1).mono ?_
          rintro e7 w7 ⟨rfl, h7, h7S⟩
          go_wp2_with fail
          refine hK.out _ _ h7S (fun hHeld => ?_)
          clear hK K
          try simp only [Act.put, List.setIfInBounds_toArray, List.set_cons_zero, List.set_cons_succ]
          refine wpAnyH_class (C := fun x => (O2 w.heap.size x B B' n d (c1) (u1) (c1) (u1) ∧ (x.cell? ⟨B', 2, none⟩ = some (.int .i64 c1) ∧ x.cell? ⟨B', 3, none⟩ = some (.bool u1)) ∧ (Below w.heap.size w x ∧ x.cell? ⟨g, off + i, none⟩ = some (.int .i64 t)))) 12 _ rfl (by kernel_rfl) (by rfl) (by kernel_rfl) (fun x hx => hx.2.2) ⟨h7, HQ2.out _ h7, h7S⟩ ?_
          simp only [List.drop_succ_cons, List.drop_zero]
          repeat
            with_reducible refine wpQuiet_step (fun K hK => ?_)
            first
              | (refine quiet_skip (by rfl) ?_; (with_reducible refine hK _ ?_); clear hK K)
              | (refine quiet_want (by rfl) ?_
                 apply Exists.intro
                 refine ⟨fun x hx => ?_, hK _ ?_⟩
                 (obtain ⟨_, ⟨hx1, hx2⟩, _, _⟩ := id hx; go_simp; first | done | rfl | (first | (go_at_call 51; exact (HK3.out _ hx.1).mono fun y w' ⟨h1, h2⟩ => ⟨h1, h2 ▸ hx⟩) | (go_at_call 52; exact (HK4.out _ hx.1).mono fun y w' ⟨h1, h2⟩ => ⟨h1, h2 ▸ hx⟩)))
                 clear hK K)
            try simp only [Act.put, List.setIfInBounds_toArray, List.set_cons_zero, List.set_cons_succ]
          with_reducible refine wpQuiet_nil ?_
          intro wq hq
          go_wp2_with fail
          go_meet
          exact ⟨rfl, hq.1, hq.2.2.1⟩
        case rest =>
        obtain ⟨rfl, h3, h4⟩ := hcut
        have HIf := Lib.hid h3; have HBf := Lib.hid h4
        clear h3 h4
        go_wp2_with fail
        go_roundw
        case rel => exact ⟨i + 1, c1, u1, by simp, by have := HG2.out; omega, HIf.out, HBf.out⟩
        case measure => have := HG2.out; simp [intOf]; omega
      · have hT : ((i : Int) < (len1 : Int) ∧ ¬ (i : Int) < 100) ∨ ¬ (i : Int) < (len1 : Int) := by omega
        clear hgo
        rcases hT with ⟨i1, i2⟩ | i1
        all_goals
          go_wp2_with fail
          refine (live16 _).mono ?_
          rintro y w5 ⟨rfl, hb⟩
          have HBz := Lib.hid (below_transG HB.out hb)
          clear hb
          go_wp2_with fail
          go_ret
          exact ⟨rfl, HBz.out⟩
set_option maxRecDepth 100000 in
theorem lifted (os : Os) (started : os.Started) (H : Type) (enc : TypeId × Value → H) :
    ReturnsInHanded {} Try.checked os 7 .any (Rows.oscCountsSpec.pre6 enc Try.prog Try.f7 Rows.oscCountsRow.domain false) (Rows.oscCountsSpec.post enc Try.prog Try.f7 false true false false) := by
  refine returnsInHanded_of_change (C := Try.checked) own started (by kernel_rfl) Try.func7
    (ChangeSpec.witness6 (enc := enc) (C := Try.checked) false ⟨#[], #[.agg #[.int .i64 0, .int .i64 0], .slice none 0 0], []⟩ 8 (by kernel_rfl) (by kernel_rfl) (by kernel_rfl) (by kernel_rfl)) ?_
  intro W base args ds gs before hval0 hW _ _
  have hval : ∀ (j : Nat) t v, Try.f7.params[j]? = some t → args[j]? = some v → Value.okWide Try.prog W .any base t v := hval0
  have hW' := hW
  obtain ⟨p, q, hA0, hV, rfl, hfz, hnd⟩ := hW
  have hA : DataW.TrodAll enc Try.prog W 0 (fun _ => true) true Try.f7.params.toList args.toList ds p := hA0
  rw [Try.params7] at hA hval
  obtain ⟨v0, vs0, d0, ds0, p0, q0, hargs, rfl, rfl, h0, r0⟩ := trodAll_cons hA
  obtain ⟨v1, vs1, d1, ds1, p1, q1, rfl, rfl, rfl, h1, r1⟩ := trodAll_cons r0
  obtain ⟨rfl, rfl, rfl⟩ := trodAll_nil r1
  obtain rfl : args = #[v0, v1] := by cases args; simp_all
  obtain ⟨rfl, rfl⟩ := trodVars_none hV
  have k0 := h0
  have lt0 : ∀ x ∈ p0, x.block < W.heap.size := by obtain ⟨m, hm⟩ := k0; exact DataW.trod_lt m _ _ _ hm
  obtain ⟨ca0, cb0, ya0, yb0, n0, rfl, rfl, rfl, ta0, tb0⟩ := Joins.open_agg2 Try.underlying90 (by kernel_rfl) (by kernel_rfl) (hval 0 90 v0 rfl rfl) h0
  obtain ⟨xa0, hxa0, rfl, wa0⟩ := DataW.trod_int Try.underlying2 ta0
  obtain ⟨xb0, hxb0, rfl, wb0⟩ := DataW.trod_int Try.underlying2 tb0
  obtain rfl : ca0 = .int .i64 xa0 := by simpa using hxa0
  obtain rfl : cb0 = .int .i64 xb0 := by simpa using hxb0
  obtain ⟨a1, len1, cap1, rfl⟩ := okWide_slice Try.underlying91 (hval 1 91 v1 rfl rfl)
  have k1 := h1
  have lt1 : ∀ x ∈ p1, x.block < W.heap.size := by obtain ⟨m, hm⟩ := k1; exact DataW.trod_lt m _ _ _ hm
  obtain ⟨z1, w1⟩ : ∃ zs, RowI .i64 W a1 len1 cap1 zs := by
    obtain ⟨fuel, hf⟩ := h1
    rcases open_ints Try.underlying91 Try.underlying2 (by kernel_rfl) hf with ⟨hcs, _⟩ | ⟨x, l, c, zs, hcs, _, hl, hm, hz, _, hcell, hwz⟩
    · simp [Value.cells] at hcs
      obtain ⟨rfl, rfl, rfl⟩ := hcs
      exact ⟨[], .inl ⟨rfl, rfl, rfl, rfl⟩⟩
    · simp [Value.cells] at hcs
      obtain ⟨rfl, rfl, rfl⟩ := hcs
      exact ⟨zs, .inr ⟨_, rfl, hl, hm, by simpa using hz, hcell, hwz⟩⟩
  clear hA0 hval0
  refine (walk xa0 xb0 a1 len1 cap1 z1 W wa0 wb0 w1).mono fun e W' ⟨he, bel⟩ => ?_
  subst he
  exact ⟨_, rfl, _, _, _, [], _, [], hW', trodAll_mk1 (shut_bool Try.underlying4 _), (trodAll_cons_mk (Below.trod laidOut (by kernel_rfl) (of_decide_eq_true (by kernel_rfl)) k0 bel lt0) (trodAll_cons_mk (Below.trod laidOut (by kernel_rfl) (of_decide_eq_true (by kernel_rfl)) k1 bel lt1) trodAll_mk0)), rfl, bel.frame _, fun h => by cases h⟩
theorem over : Rows.oscCountsRow.holds Try.pinned (OpenSpec.ofChange Rows.oscCountsSpec) :=
  OpenClaim.holds_of_wide 7 Try.f7 rfl rfl rfl rfl rfl rfl rfl ⟨rfl, rfl, rfl, rfl, rfl⟩ rfl rfl rfl rfl rfl (by kernel_rfl) Try.func7 (by kernel_rfl)
    (of_decide_eq_true (by kernel_rfl)) (by unfold Func.isWrapper; first | (rw [if_pos (by decide +kernel)]; kernel_rfl) | (rw [if_neg (by decide +kernel)]; exact ⟨rfl, rfl⟩))
    (fun os started H enc _ => lifted os started H enc)
/-- The statement. -/
theorem proved : Rows.OscCountsSaid := over
end Go.Proofs.Ytfmmpglehiiofaa.oscCounts
