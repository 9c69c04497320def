/- RatePlays (P18.2): whatever samples come: which are taken, and what all of them tell. No conditions. -/
import Derived.Test.YtffcadobdimdoaaRows
import Derived.Test.YtffcadobdimdoaaRtl
import Derived.Test.YtffcadobdimdoaaRtj
import Derived.Test.YtffcadobdimdoaaOpk
import Derived.Test.YtffcadobdimdoaaQui
import Derived.Deep.DeepCutAuto
import Derived.LoopTactic
import Derived.WalkKit
import Derived.ProofKit
import Derived.OpenShut
import Derived.ShutString
import Derived.ChangeOld
import Derived.Below
namespace Go.Proofs.Ytffcadobdimdoaa.ratePlays
open Go.ChangeShapes Go.WideShapes Go.ChangeAt Go.RowKit
theorem own : ownKnob Try.prog.godebug = none := by kernel_rfl
theorem laidOut : laidOutB Try.prog = true := by kernel_rfl
theorem EA.on {u x : World} {B : Nat} {e : ES} (h : EA u B e) (hb : Below u.heap.size u x) : EA x B e := ⟨h.1.keep hb h.1.lt, h.2⟩
/-- Two estimators that tell the same. -/
structure Sm (e d : ES) : Prop where
  m : e.m = d.m
  n : e.n = d.n
  s : e.s = d.s
  l : e.L = d.L
  th : e.s = true → e.t = d.t ∧ e.h = d.h
theorem add_l (e : ES) (a b : Int) : (e.add a b).L = if e.addB a b = true then keepL e.n e.L (rofX e.t e.h a b e.m) else e.L := by
  unfold ES.add; split
  · rfl
  · rfl
theorem add_f (e : ES) (a b : Int) : (e.add a b).m = e.m ∧ (e.add a b).n = e.n ∧ (e.add a b).s = true ∧ (e.add a b).t = a ∧ (e.add a b).h = b := by
  unfold ES.add; split <;> exact ⟨rfl, rfl, rfl, rfl, rfl⟩
theorem Sm.addB {e d : ES} (h : Sm e d) (a b : Int) : e.addB a b = d.addB a b := by
  unfold ES.addB
  rw [← h.s]
  cases hs : e.s
  · rfl
  · obtain ⟨h1, h2⟩ := h.th hs
    rw [h1, h2, h.m]
theorem Sm.add {e d : ES} (h : Sm e d) (a b : Int) : Sm (e.add a b) (d.add a b) := by
  have f1 := add_f e a b; have f2 := add_f d a b
  refine ⟨by rw [f1.1, f2.1, h.m], by rw [f1.2.1, f2.2.1, h.n], by rw [f1.2.2.1, f2.2.2.1], ?_, fun _ => ⟨by rw [f1.2.2.2.1, f2.2.2.2.1], by rw [f1.2.2.2.2, f2.2.2.2.2]⟩⟩
  rw [add_l, add_l, h.addB a b, h.l, h.n]
  by_cases hb : d.addB a b = true
  · have hs : e.s = true := by
      have := hb; unfold ES.addB at this
      rw [Bool.and_eq_true] at this
      rw [h.s]; exact this.1
    obtain ⟨h1, h2⟩ := h.th hs
    rw [if_pos hb, if_pos hb, h1, h2, h.m]
  · rw [if_neg hb, if_neg hb]
/-- The code's estimator and the document's, in one memory, both younger than a world. -/
structure E2 (w u : World) (B C : Nat) (e d : ES) (v : Value) : Prop where
  a : EA u B e
  b : EdA u C d v
  ne : B ≠ C
  nv : v.ownBlock ≠ some B
  below : Below w.heap.size w u
  la : w.heap.size ≤ B
  lb : w.heap.size ≤ C
  lv : ∀ g, v.ownBlock = some g → w.heap.size ≤ g
theorem E2.on {w u x : World} {B C : Nat} {e d : ES} {v : Value} (h : E2 w u B C e d v) (hb : Below u.heap.size u x) : E2 w x B C e d v := ⟨EA.on h.a hb, h.b.on hb, h.ne, h.nv, below_transG h.below hb, h.la, h.lb, h.lv⟩
theorem E2.stepA {w u x : World} {B C : Nat} {e d e2 : ES} {v : Value} (h : E2 w u B C e d v) (ha : EA x B e2) (hk : Kp B (.slice none 0 0) u x) : E2 w x B C e2 d v :=
  ⟨ha, ⟨h.b.blk.on (hk.block C h.b.blk.lt (fun e => h.ne e.symm) (fun e => by cases e)), h.b.row.on hk.size (fun g hg => hk.block g (h.b.row.lt g hg) (fun e => h.nv (by rw [hg, e])) (fun e => by cases e)), h.b.own, h.b.ok⟩, h.ne, h.nv, h.below.trans (hk.belowN h.la h.below.size (fun k e => by cases e)), h.la, h.lb, h.lv⟩
theorem E2.stepB {w u x : World} {B C : Nat} {e d d2 : ES} {v v2 : Value} (h : E2 w u B C e d v) (hd : EdA x C d2 v2) (hk : Kp C v u x) (hn : Nx u v v2) : E2 w x B C e d2 v2 :=
  ⟨⟨h.a.1.on (hk.block B h.a.1.lt h.ne h.nv), h.a.2⟩, hd, h.ne, fun e => by
    rcases hn _ e with h1 | h1
    · exact h.nv h1
    · have := h.a.1.lt; omega, h.below.trans (hk.belowN h.lb h.below.size h.lv), h.la, h.lb, fun g e => by
    rcases hn _ e with h1 | h1
    · exact h.lv g h1
    · exact Nat.le_trans h.below.size h1⟩
set_option maxRecDepth 100000 in
set_option maxHeartbeats 8000000 in
theorem walk (a0 a1 : Int) (a2 : Option Addr) (len2 cap2 : Nat) (L : List SA) (w : World) (_ : (Lit.int .i64 a0).wf = true) (_ : (Lit.int .i64 a1).wf = true) (v2 : L.length = len2 ∧ (∀ s ∈ L, s.wf) ∧ Rd w 2 (.slice a2 len2 cap2) (L.flatMap SA.C)) :
    Calls Try.prog 4 #[.int .i64 a0, .int .i64 a1, .slice a2 len2 cap2] w fun y w' => y = .returned (.bool true) ∧ Below w.heap.size w w' := by
  obtain ⟨rfl, hwf, hL⟩ := v2
  have HLR := Lib.hid hL; have HWF := Lib.hid hwf
  clear hL hwf
  by_cases hok : (0 ≤ a0 ∧ a0 ≤ 4096) ∧ (1 ≤ a1 ∧ a1 ≤ 9)
  case neg =>
    have HN := Lib.hid (fun u => enew_no a0 a1 hok u)
    have HM := Lib.hid (fun u => rnew_no a0 a1 hok u)
    clear hok
    go_enter Try.func4, Try.ntmps4
    go_wp2_with fail
    refine (HN.out _).mono ?_
    rintro y w1 ⟨rfl, rfl⟩
    go_wp2_with fail
    refine (HM.out _).mono ?_
    rintro y w1 ⟨rfl, rfl⟩
    go_wp2_with fail
    refine (live18 _).mono ?_
    rintro y w1 ⟨rfl, hb⟩
    have HB := Lib.hid hb
    clear hb
    go_wp2_with fail
    go_ret
    exact ⟨rfl, HB.out⟩
  case pos =>
  obtain ⟨n, hn⟩ : ∃ n : Nat, a1 = (n : Int) := ⟨a1.toNat, by omega⟩
  subst hn
  have HN := Lib.hid (fun u => enew_yes a0 n hok.1 (by omega) u)
  have HM := Lib.hid (fun u => rnew_yes a0 n hok.1 (by omega) u)
  clear hok
  go_enter Try.func4, Try.ntmps4
  go_wp2_with fail
  refine (HN.out _).mono ?_
  rintro y w1 ⟨B, rfl, hO, hB, hb⟩
  have HO1 := Lib.hid hO; have HB1 := Lib.hid hb; have HBB := Lib.hid hB
  clear hO hb hB
  go_wp2_with fail
  refine (HM.out _).mono ?_
  rintro y w2 ⟨C, rfl, hO, hC, hb⟩
  have HI2 := Lib.hid (show E2 w w2 B C (ES.fresh a0 n) (ES.fresh a0 n) (.slice none 0 0) from ⟨EA.on HO1.out hb, hO, by have := HO1.out.1.lt; omega, by simp [Value.ownBlock], below_transG HB1.out hb, HBB.out, Nat.le_trans HB1.out.size hC, fun g e => by cases e⟩)
  clear hO hb hC
  go_wp2_with fail
  go_loopw [11] (fun s11 wr => ∃ (i : Nat) (e d : ES) (v : Value), s11 = .int .i64 (i : Int) ∧ i ≤ 60 ∧ Sm e d ∧ E2 w wr B C e d v) (fun s11 _ => 60 - (intOf s11).toNat)
  case atStart => exact ⟨0, ES.fresh a0 n, ES.fresh a0 n, .slice none 0 0, rfl, by omega, ⟨rfl, rfl, rfl, rfl, fun _ => ⟨rfl, rfl⟩⟩, HI2.out⟩
  case round =>
    obtain ⟨i, e, d, v, rfl, hi60, hsm, hI⟩ := hrel
    have HI := Lib.hid hI; have HSM := Lib.hid hsm
    clear hI HI2 hsm
    by_cases hgo : i < L.length ∧ i < 60
    · have hlt := hgo.1
      have i1 : (i : Int) < (L.length : Int) := by omega
      have i2 : (i : Int) < 60 := by have := hgo.2; omega
      have i3 : (0 : Int) ≤ (i : Int) := by omega
      obtain ⟨g, off, rfl, hg, hcell⟩ := rd_at SA.C 2 (fun _ => rfl) HLR.out hlt (by decide)
      have hwf := HWF.out L[i] (List.getElem_mem _)
      obtain ⟨s, hs⟩ : ∃ s, s = L[i] := ⟨_, rfl⟩
      rw [← hs] at hcell hwf
      clear hs
      obtain ⟨x, y⟩ := s
      have HX := Lib.hid hwf.1; have HY := Lib.hid hwf.2
      unfold SA.wf at HX HY
      simp only at HX HY
      have hcw : ∀ u, Below w.heap.size w u → u.cell? ⟨g, off + i * 2, none⟩ = some (.int .i64 x) ∧ u.cell? ⟨g, off + i * 2 + 1, none⟩ = some (.int .i64 y) := fun u hu => by
        have h : ∀ j v, (SA.C ⟨x, y⟩)[j]? = some v → u.cell? ⟨g, off + i * 2 + j, none⟩ = some v := fun j v h => (hu.cell (p := ⟨g, off + i * 2 + j, none⟩) hg).trans (hcell j v h)
        exact ⟨h 0 _ rfl, h 1 _ rfl⟩
      have HGO := Lib.hid hgo.2
      obtain ⟨c0, c1⟩ := hcw wr HI.out.below
      have HCW := Lib.hid hcw
      clear hcw hcell hwf hlt
      go_upto_region 13 with fail
      refine (reset_any e B _ HI.out.a).mono ?_
      rintro y3 w3 ⟨rfl, hO, hk⟩
      have HI3 := Lib.hid (HI.out.stepA hO hk)
      clear hO hk
      go_wp2_with fail
      refine (rreset_any d v C _ HI3.out.b).mono ?_
      rintro y4 w4 ⟨rfl, d1, hm1, hn1, hs1, hl1, hD, hk⟩
      have HI4 := Lib.hid (HI3.out.stepB hD ⟨hk.os, hk.tape, hk.output, hk.size, fun k h1 h2 _ => hk.block k h1 h2 (fun e => by cases e)⟩ (fun k e => by cases e))
      have HSM4 := Lib.hid (show Sm (ES.fresh e.m e.n) d1 from ⟨HSM.out.m.trans hm1.symm, HSM.out.n.trans hn1.symm, hs1.symm, hl1.symm, fun h => by cases h⟩)
      clear hm1 hn1 hs1 hl1 hD hk c0 c1 HI3
      go_upto_region 13 with fail
      clear HI HSM
      have HI := HI4; have HSM := HSM4
      clear HI4 HSM4
      obtain ⟨e', he'⟩ : ∃ z, z = ES.fresh e.m e.n := ⟨_, rfl⟩
      rw [← he'] at HI HSM
      clear he' e d v
      have ⟨e, he⟩ : ∃ z, z = e' := ⟨_, rfl⟩
      rw [← he] at HI HSM
      clear he e'
      have ⟨d, hd⟩ : ∃ z, z = d1 := ⟨_, rfl⟩
      rw [← hd] at HI HSM
      clear hd d1
      have ⟨v, hv⟩ : ∃ z, z = Value.slice none 0 0 := ⟨_, rfl⟩
      rw [← hv] at HI
      clear hv
      have ⟨wr, hwr⟩ : ∃ z, z = w4 := ⟨_, rfl⟩
      rw [← hwr] at HI ⊢
      clear hwr w4
      all_goals
        try (rename x = 0 => hz0; clear hz0)
        try (rename ¬ x = 0 => hz0; clear hz0)
        try (rename y = 0 => hz0; clear hz0)
        try (rename ¬ y = 0 => hz0; clear hz0)
        try (rename ((i : Int) % 7 == 3) = true => hz0; clear hz0)
        try (rename ((i : Int) % 7 == 3) = false => hz0; clear hz0)
        obtain ⟨e2, he2⟩ : ∃ z, z = e.add x y := ⟨_, rfl⟩
        obtain ⟨d2, hd2⟩ : ∃ z, z = d.add x y := ⟨_, rfl⟩
        obtain ⟨bb, hbb⟩ : ∃ z, z = e.addB x y := ⟨_, rfl⟩
        obtain ⟨X, hX⟩ : ∃ z, z = medX e2.L := ⟨_, rfl⟩
        have HSM2 := Lib.hid (show Sm e2 d2 by rw [he2, hd2]; exact HSM.out.add x y)
        have HXD := Lib.hid (show X = medX d2.L by rw [hX, HSM2.out.l])
        have HSW := Lib.hid (show ∀ u, Below w.heap.size w u → (Below w.heap.size w u ∧ u.cell? ⟨g, off + i * 2, none⟩ = some (.int .i64 x) ∧ u.cell? ⟨g, off + i * 2 + 1, none⟩ = some (.int .i64 y)) from fun u hu => ⟨hu, HCW.out u hu⟩)
        have HK1 := Lib.hid (show ∀ u, E2 w u B C e d v → Calls Try.prog 21 #[.pointer (some ⟨B, 0, none⟩), .agg #[.int .i64 x, .int .i64 y]] u fun y' w' => y' = .returned (.bool bb) ∧ E2 w w' B C e2 d v ∧ (Below w.heap.size w w' ∧ w'.cell? ⟨g, off + i * 2, none⟩ = some (.int .i64 x) ∧ w'.cell? ⟨g, off + i * 2 + 1, none⟩ = some (.int .i64 y)) from fun u hu => (add_any x y HX.out HY.out e B u hu.a).mono fun y' w' ⟨h1, h2, h3⟩ => by
          have h9 : E2 w w' B C (e.add x y) d v := hu.stepA h2 h3
          rw [← he2] at h9
          rw [← hbb] at h1
          exact ⟨h1, h9, HSW.out _ h9.below⟩)
        have HKP := Lib.hid (show ∀ u, E2 w u B C e2 d v → Calls Try.prog 15 #[.agg #[.int .i64 x, .int .i64 y]] u fun y' w' => y' = .returned (.agg #[.int .i64 x, .int .i64 y]) ∧ E2 w w' B C e2 d v ∧ (Below w.heap.size w w' ∧ w'.cell? ⟨g, off + i * 2, none⟩ = some (.int .i64 x) ∧ w'.cell? ⟨g, off + i * 2 + 1, none⟩ = some (.int .i64 y)) from fun u hu => (plain_any x y u).mono fun y' w' ⟨h1, h2⟩ => ⟨h1, hu.on h2, HSW.out _ (hu.on h2).below⟩)
        have HK2 := Lib.hid (show ∀ u, E2 w u B C e2 d v → Calls Try.prog 22 #[.pointer (some ⟨C, 0, none⟩), .agg #[.int .i64 x, .int .i64 y]] u fun y' w' => y' = .returned (.bool bb) ∧ ∃ v2, E2 w w' B C e2 d2 v2 ∧ (Below w.heap.size w w' ∧ w'.cell? ⟨g, off + i * 2, none⟩ = some (.int .i64 x) ∧ w'.cell? ⟨g, off + i * 2 + 1, none⟩ = some (.int .i64 y)) from fun u hu => (radd_any x y HX.out HY.out d v C u hu.b).mono fun y' w' ⟨h1, v2, h2, h3, h4⟩ => by
          have h9 : E2 w w' B C e2 (d.add x y) v2 := hu.stepB h2 h3 h4
          rw [← hd2] at h9
          rw [← HSM.out.addB x y, ← hbb] at h1
          exact ⟨h1, v2, h9, HSW.out _ h9.below⟩)
        have z0 := HSW.out wr HI.out.below
        have z1 := HSW.out wr.drew HI.out.below.drew
        have HID := Lib.hid (show E2 w wr.drew B C e d v from HI.out.on (Below.refl _ _).drew)
        have kb : (bb != bb) = false := by simp
        have kx : (X != X) = false := by simp
        clear he2 hd2 hbb
        go_cut [92] (fun s92 wx => s92 = .bool false ∧ ∃ v2, E2 w wx B C e2 d2 v2)
        case first =>
          refine wp_region_held_drew (S := fun x' => Below w.heap.size w x' ∧ x'.cell? ⟨g, off + i * 2, none⟩ = some (.int .i64 x) ∧ x'.cell? ⟨g, off + i * 2 + 1, none⟩ = some (.int .i64 y)) (by kernel_rfl) z1 (fun hHeld => ?_)
          refine wpAnyH_take (i := 0) (oi := _) (v := ?_) rfl (by kernel_rfl) (by kernel_rfl) (by kernel_rfl) (fun _ _ _ h => h) (Or.inl ⟨by rfl, ?_⟩) (by assumption) ?_
          rotate_left
          · intro x hSx
            try dsimp only at hSx
            obtain ⟨_, hSx1⟩ := hSx
            go_simp
            first | done | with_reducible rfl
          try simp only [Act.put, List.setIfInBounds_toArray, List.set_cons_zero, List.set_cons_succ]
          refine wpAnyH_take (i := 1) (oi := _) (v := ?_) rfl (by kernel_rfl) (by kernel_rfl) (by kernel_rfl) (fun _ _ _ h => h) (Or.inl ⟨by rfl, ?_⟩) (by assumption) ?_
          rotate_left
          · intro x hSx
            try dsimp only at hSx
            obtain ⟨_, hSx1⟩ := hSx
            go_simp
            first | done | with_reducible rfl
          try simp only [Act.put, List.setIfInBounds_toArray, List.set_cons_zero, List.set_cons_succ]
          refine wpAnyH_take (i := 2) (oi := _) (v := ?_) rfl (by kernel_rfl) (by kernel_rfl) (by kernel_rfl) (fun _ _ _ h => h) (Or.inl ⟨by rfl, ?_⟩) (by assumption) ?_
          rotate_left
          · intro x hSx
            try dsimp only at hSx
            obtain ⟨_, hSx1⟩ := hSx
            go_simp
            first | done | with_reducible rfl
          try simp only [Act.put, List.setIfInBounds_toArray, List.set_cons_zero, List.set_cons_succ]
          refine wpAnyH_take (i := 3) (oi := _) (v := ?_) rfl (by kernel_rfl) (by kernel_rfl) (by kernel_rfl) (fun _ _ _ h => h) (Or.inl ⟨by rfl, ?_⟩) (by assumption) ?_
          rotate_left
          · intro x hSx
            try dsimp only at hSx
            obtain ⟨_, hSx1⟩ := hSx
            go_simp
            first | done | with_reducible rfl
          try simp only [Act.put, List.setIfInBounds_toArray, List.set_cons_zero, List.set_cons_succ]
          refine wpAnyH_take (i := 4) (oi := _) (v := ?_) rfl (by kernel_rfl) (by kernel_rfl) (by kernel_rfl) (fun _ _ _ h => h) (Or.inl ⟨by rfl, ?_⟩) (by assumption) ?_
          rotate_left
          · intro x hSx
            try dsimp only at hSx
            obtain ⟨_, hSx1⟩ := hSx
            go_simp
            first | done | with_reducible rfl
          try simp only [Act.put, List.setIfInBounds_toArray, List.set_cons_zero, List.set_cons_succ]
          refine wpAnyH_take (i := 6) (oi := _) (v := ?_) rfl (by kernel_rfl) (by kernel_rfl) (by kernel_rfl) (fun _ _ _ h => h) (Or.inl ⟨by rfl, ?_⟩) (by assumption) ?_
          rotate_left
          · intro x hSx
            try dsimp only at hSx
            obtain ⟨_, hSx1⟩ := hSx
            go_simp
            first | done | with_reducible rfl
          try simp only [Act.put, List.setIfInBounds_toArray, List.set_cons_zero, List.set_cons_succ]
          refine wpAnyH_take (i := 7) (oi := _) (v := ?_) rfl (by kernel_rfl) (by kernel_rfl) (by kernel_rfl) (fun _ _ _ h => h) (Or.inl ⟨by rfl, ?_⟩) (by assumption) ?_
          rotate_left
          · intro x hSx
            try dsimp only at hSx
            obtain ⟨_, hSx1⟩ := hSx
            go_simp
            first | done | with_reducible rfl
          try simp only [Act.put, List.setIfInBounds_toArray, List.set_cons_zero, List.set_cons_succ]
          refine wpAnyH_take (i := 8) (oi := _) (v := ?_) rfl (by kernel_rfl) (by kernel_rfl) (by kernel_rfl) (fun _ _ _ h => h) (Or.inl ⟨by rfl, ?_⟩) (by assumption) ?_
          rotate_left
          · intro x hSx
            try dsimp only at hSx
            obtain ⟨_, hSx1⟩ := hSx
            go_simp
            first | done | with_reducible rfl
          try simp only [Act.put, List.setIfInBounds_toArray, List.set_cons_zero, List.set_cons_succ]
          refine wpAnyH_take (i := 9) (oi := _) (v := ?_) rfl (by kernel_rfl) (by kernel_rfl) (by kernel_rfl) (fun _ _ _ h => h) (Or.inl ⟨by rfl, ?_⟩) (by assumption) ?_
          rotate_left
          · intro x hSx
            try dsimp only at hSx
            obtain ⟨_, hSx1⟩ := hSx
            go_simp
            first | done | with_reducible rfl
          try simp only [Act.put, List.setIfInBounds_toArray, List.set_cons_zero, List.set_cons_succ]
          refine wpAnyH_take (i := 10) (oi := _) (v := ?_) rfl (by kernel_rfl) (by kernel_rfl) (by kernel_rfl) (fun _ _ _ h => h) (Or.inl ⟨by rfl, ?_⟩) (by assumption) ?_
          rotate_left
          · intro x hSx
            try dsimp only at hSx
            obtain ⟨_, hSx1⟩ := hSx
            go_simp
            first | done | with_reducible rfl
          try simp only [Act.put, List.setIfInBounds_toArray, List.set_cons_zero, List.set_cons_succ]
          refine wpAnyH_ready (rs := [5]) (by kernel_rfl) (by simp) ?_
          refine AllReadyH.cons (o := _) rfl (fun K hK => ?_) AllReadyH.nil
          go_simp
          refine (HK1.out _ HID.out).mono ?_
          rintro e6 w6 ⟨rfl, h6, h6S⟩
          go_wp2_with fail
          refine hK.out _ _ h6S (fun hHeld => ?_)
          clear hK K
          try simp only [Act.put, List.setIfInBounds_toArray, List.set_cons_zero, List.set_cons_succ]
          refine wpAnyH_ready (rs := [11]) (by kernel_rfl) (by simp) ?_
          refine AllReadyH.cons (o := _) rfl (fun K hK => ?_) AllReadyH.nil
          go_simp
          refine (HKP.out _ h6).mono ?_
          rintro e7 w7 ⟨rfl, h7, h7S⟩
          go_wp2_with fail
          refine hK.out _ _ h7S (fun hHeld => ?_)
          clear hK K
          try simp only [Act.put, List.setIfInBounds_toArray, List.set_cons_zero, List.set_cons_succ]
          refine wpAnyH_ready (rs := [12]) (by kernel_rfl) (by simp) ?_
          refine AllReadyH.cons (o := _) rfl (fun K hK => ?_) AllReadyH.nil
          go_simp
          refine (HK2.out _ h7).mono ?_
          rintro e8 w8 ⟨rfl, v2, h8, h8S⟩
          go_wp2_with fail
          refine hK.out _ _ h8S (fun hHeld => ?_)
          clear hK K
          try simp only [Act.put, List.setIfInBounds_toArray, List.set_cons_zero, List.set_cons_succ]
          obtain ⟨nl, cap, ad, hv2, hl, _⟩ := h8.b.row
          have hl : nl = e2.L.length := by rw [cI_len] at hl; rw [HSM2.out.l]; omega
          subst hv2
          subst hl
          have kl : ((e2.L.length : Int) != (e2.L.length : Int)) = false := by simp
          have HCC := Lib.hid (show ∀ u, E2 w u B C e2 d2 (.slice ad e2.L.length cap) → (E2 w u B C e2 d2 (.slice ad e2.L.length cap) ∧ u.cell? ⟨C, 5, none⟩ = some (.slice ad e2.L.length cap) ∧ (Below w.heap.size w u ∧ u.cell? ⟨g, off + i * 2, none⟩ = some (.int .i64 x) ∧ u.cell? ⟨g, off + i * 2 + 1, none⟩ = some (.int .i64 y))) from fun u hu => ⟨hu, hu.b.blk.cellAt (i := 5) (by simp), HSW.out _ hu.below⟩)
          have HK3 := Lib.hid (show ∀ u, (E2 w u B C e2 d2 (.slice ad e2.L.length cap) ∧ u.cell? ⟨C, 5, none⟩ = some (.slice ad e2.L.length cap) ∧ (Below w.heap.size w u ∧ u.cell? ⟨g, off + i * 2, none⟩ = some (.int .i64 x) ∧ u.cell? ⟨g, off + i * 2 + 1, none⟩ = some (.int .i64 y))) → Calls Try.prog 23 #[.pointer (some ⟨B, 0, none⟩)] u fun y' w' => y' = .returned (.int .i64 X) ∧ (E2 w w' B C e2 d2 (.slice ad e2.L.length cap) ∧ w'.cell? ⟨C, 5, none⟩ = some (.slice ad e2.L.length cap) ∧ (Below w.heap.size w w' ∧ w'.cell? ⟨g, off + i * 2, none⟩ = some (.int .i64 x) ∧ w'.cell? ⟨g, off + i * 2 + 1, none⟩ = some (.int .i64 y))) from fun u hu => (rate_any e2 B u hu.1.a).mono fun y' w' ⟨h1, h2⟩ => ⟨by rw [hX]; exact h1, HCC.out _ (hu.1.on h2)⟩)
          have HK4 := Lib.hid (show ∀ u, (E2 w u B C e2 d2 (.slice ad e2.L.length cap) ∧ u.cell? ⟨C, 5, none⟩ = some (.slice ad e2.L.length cap) ∧ (Below w.heap.size w u ∧ u.cell? ⟨g, off + i * 2, none⟩ = some (.int .i64 x) ∧ u.cell? ⟨g, off + i * 2 + 1, none⟩ = some (.int .i64 y))) → Calls Try.prog 24 #[.pointer (some ⟨C, 0, none⟩)] u fun y' w' => y' = .returned (.int .i64 X) ∧ (E2 w w' B C e2 d2 (.slice ad e2.L.length cap) ∧ w'.cell? ⟨C, 5, none⟩ = some (.slice ad e2.L.length cap) ∧ (Below w.heap.size w w' ∧ w'.cell? ⟨g, off + i * 2, none⟩ = some (.int .i64 x) ∧ w'.cell? ⟨g, off + i * 2 + 1, none⟩ = some (.int .i64 y))) from fun u hu => (rrate_any d2 _ C u hu.1.b).mono fun y' w' ⟨h1, h2⟩ => ⟨by rw [HXD.out]; exact h1, HCC.out _ (hu.1.on h2)⟩)
          have HK5 := Lib.hid (show ∀ u, (E2 w u B C e2 d2 (.slice ad e2.L.length cap) ∧ u.cell? ⟨C, 5, none⟩ = some (.slice ad e2.L.length cap) ∧ (Below w.heap.size w u ∧ u.cell? ⟨g, off + i * 2, none⟩ = some (.int .i64 x) ∧ u.cell? ⟨g, off + i * 2 + 1, none⟩ = some (.int .i64 y))) → Calls Try.prog 25 #[.pointer (some ⟨B, 0, none⟩)] u fun y' w' => y' = .returned (.int .i64 (e2.L.length : Int)) ∧ (E2 w w' B C e2 d2 (.slice ad e2.L.length cap) ∧ w'.cell? ⟨C, 5, none⟩ = some (.slice ad e2.L.length cap) ∧ (Below w.heap.size w w' ∧ w'.cell? ⟨g, off + i * 2, none⟩ = some (.int .i64 x) ∧ w'.cell? ⟨g, off + i * 2 + 1, none⟩ = some (.int .i64 y))) from fun u hu => (many_any e2 B u hu.1.a).mono fun y' w' ⟨h1, h2⟩ => ⟨h1, h2 ▸ hu⟩)
          refine wpAnyH_class (C := fun x' => (E2 w x' B C e2 d2 (.slice ad e2.L.length cap) ∧ x'.cell? ⟨C, 5, none⟩ = some (.slice ad e2.L.length cap) ∧ (Below w.heap.size w x' ∧ x'.cell? ⟨g, off + i * 2, none⟩ = some (.int .i64 x) ∧ x'.cell? ⟨g, off + i * 2 + 1, none⟩ = some (.int .i64 y)))) 13 _ rfl (by kernel_rfl) (by rfl) (by kernel_rfl) (fun x' hx => hx.2.2) (HCC.out _ h8) ?_
          simp only [List.drop_succ_cons, List.drop_zero]
          repeat
            with_reducible refine wpQuiet_step (fun K hK => ?_)
            first
              | (refine quiet_skip (by rfl) ?_; (with_reducible refine hK _ ?_); clear hK K)
              | (refine quiet_want (by rfl) ?_
                 apply Exists.intro
                 refine ⟨fun x hx => ?_, hK _ ?_⟩
                 (obtain ⟨_, hx1, _⟩ := id hx; go_simp; first | done | rfl | (first | (go_at_call 23; exact HK3.out _ hx) | (go_at_call 24; exact HK4.out _ hx) | (go_at_call 25; exact HK5.out _ hx)))
                 clear hK K)
            try simp only [Act.put, List.setIfInBounds_toArray, List.set_cons_zero, List.set_cons_succ]
          with_reducible refine wpQuiet_nil ?_
          intro wq hq
          go_wp2_with fail
          go_meet
          exact ⟨rfl, _, hq.1⟩
        case rest =>
        obtain ⟨rfl, v2, h3⟩ := hcut
        have HIf := Lib.hid h3
        clear h3 z0 z1
        go_wp2_with fail
        go_roundw
        case rel => exact ⟨i + 1, e2, d2, v2, by simp, by have := HGO.out; omega, HSM2.out, HIf.out⟩
        case measure => have := HGO.out; simp [intOf]; omega
    · have hT : ((i : Int) < (L.length : Int) ∧ ¬ (i : Int) < 60) ∨ ¬ (i : Int) < (L.length : Int) := by omega
      clear hgo
      rcases hT with ⟨i1, i2⟩ | i1
      all_goals
        go_wp2_with fail
        refine (live18 _).mono ?_
        rintro y w5 ⟨rfl, hb⟩
        have HIz := Lib.hid (HI.out.on hb)
        clear hb
        go_wp2_with fail
        go_ret
        exact ⟨rfl, HIz.out.below⟩
set_option maxRecDepth 100000 in
theorem lifted (os : Os) (started : os.Started) (H : Type) (enc : TypeId × Value → H) :
    ReturnsInHanded {} Try.checked os 4 .any (Rows.ratePlaysSpec.pre6 enc Try.prog Try.f4 Rows.ratePlaysRow.domain false) (Rows.ratePlaysSpec.post enc Try.prog Try.f4 false true false false) := by
  refine returnsInHanded_of_change (C := Try.checked) own started (by kernel_rfl) Try.func4
    (ChangeSpec.witness6 (enc := enc) (C := Try.checked) false ⟨#[], #[.int .i64 0, .int .i64 0, .slice none 0 0], []⟩ 8 (by kernel_rfl) (by kernel_rfl) (by kernel_rfl) (by kernel_rfl)) ?_
  intro W base args ds gs before hval0 hW _ _
  have hval : ∀ (j : Nat) t v, Try.f4.params[j]? = some t → args[j]? = some v → Value.okWide Try.prog W .any base t v := hval0
  have hW' := hW
  obtain ⟨p, q, hA0, hV, rfl, hfz, hnd⟩ := hW
  have hA : DataW.TrodAll enc Try.prog W 0 (fun _ => true) true Try.f4.params.toList args.toList ds p := hA0
  rw [Try.params4] at hA hval
  obtain ⟨v0, vs0, d0, ds0, p0, q0, hargs, rfl, rfl, h0, r0⟩ := trodAll_cons hA
  obtain ⟨v1, vs1, d1, ds1, p1, q1, rfl, rfl, rfl, h1, r1⟩ := trodAll_cons r0
  obtain ⟨v2, vs2, d2, ds2, p2, q2, rfl, rfl, rfl, h2, r2⟩ := trodAll_cons r1
  obtain ⟨rfl, rfl, rfl⟩ := trodAll_nil r2
  obtain rfl : args = #[v0, v1, v2] := by cases args; simp_all
  obtain ⟨rfl, rfl⟩ := trodVars_none hV
  obtain ⟨a0, rfl, rfl, rfl, w0⟩ := open_int Try.underlying2 (hval 0 2 v0 rfl rfl) h0
  obtain ⟨a1, rfl, rfl, rfl, w1⟩ := open_int Try.underlying3 (hval 1 3 v1 rfl rfl) h1
  obtain ⟨a2, len2, cap2, rfl⟩ := okWide_slice Try.underlying31 (hval 2 31 v2 rfl rfl)
  have k2 := h2
  have lt2 : ∀ x ∈ p2, x.block < W.heap.size := by obtain ⟨m, hm⟩ := k2; exact DataW.trod_lt m _ _ _ hm
  obtain ⟨L2, wl2, ww2, wr2⟩ : ∃ L : List SA, L.length = len2 ∧ (∀ s ∈ L, SA.wf s) ∧ Rd W 2 (.slice a2 len2 cap2) (L.flatMap SA.C) := by
    obtain ⟨fuel, hf⟩ := h2
    exact open_rows SA.C SA.wf 2 (by decide) Try.underlying31 (by kernel_rfl) (fun _ => rfl) (fun _ _ _ => sampleG) (by simpa [Value.cells] using hf)
  clear hA0 hval0
  refine (walk a0 a1 a2 len2 cap2 L2 W w0 w1 ⟨wl2, ww2, wr2⟩).mono fun e W' ⟨he, bel⟩ => ?_
  subst he
  exact ⟨_, rfl, _, _, _, [], _, [], hW', trodAll_mk1 (shut_bool Try.underlying4 _), (trodAll_cons_mk (shut_int Try.underlying2 w0) (trodAll_cons_mk (shut_int Try.underlying3 w1) (trodAll_cons_mk (Below.trod laidOut (by kernel_rfl) (of_decide_eq_true (by kernel_rfl)) k2 bel lt2) trodAll_mk0))), rfl, bel.frame _, fun h => by cases h⟩
theorem over : Rows.ratePlaysRow.holds Try.pinned (OpenSpec.ofChange Rows.ratePlaysSpec) :=
  OpenClaim.holds_of_wide 4 Try.f4 rfl rfl rfl rfl rfl rfl rfl ⟨rfl, rfl, rfl, rfl, rfl⟩ rfl rfl rfl rfl rfl (by kernel_rfl) Try.func4 (by kernel_rfl)
    (of_decide_eq_true (by kernel_rfl)) (by unfold Func.isWrapper; first | (rw [if_pos (by decide +kernel)]; kernel_rfl) | (rw [if_neg (by decide +kernel)]; exact ⟨rfl, rfl⟩))
    (fun os started H enc _ => lifted os started H enc)
/-- The statement. -/
theorem proved : Rows.RatePlaysSaid := over
end Go.Proofs.Ytffcadobdimdoaa.ratePlays
