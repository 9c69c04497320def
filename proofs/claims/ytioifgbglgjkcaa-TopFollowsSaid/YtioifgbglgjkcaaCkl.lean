/- Package clock: what must be whatever is asked (live of layer 17); two clocks in one memory. No conditions. -/
import Derived.Test.YtioifgbglgjkcaaCkb
namespace Go.Proofs.Ytioifgbglgjkcaa
open Go.RowKit
theorem lk_a : readT 0 0 1048576 0 5 = 5 ∧ lookB 0 0 1048576 5 = true := by decide +kernel
theorem lk_b : readT 0 0 1048576 5 3 = 5 ∧ lookB 0 0 1048576 3 = true ∧ lookX 0 0 1048576 3 = 3 := by decide +kernel
theorem lk_c : shE 0 0 1048576 10 7 = 0 ∧ shC 0 0 1048576 10 7 = 10 ∧ shV 0 0 1048576 10 7 = 17 := by decide +kernel
theorem lk_d : readT 10 17 1048576 5 10 = 17 ∧ lookB 10 17 1048576 10 = true := by decide +kernel
theorem lk_e : tuE 10 17 1048576 10 0 = 1 ∧ tuC 10 17 1048576 10 0 = 10 ∧ tuV 10 17 1048576 10 0 = 17 ∧ tuR 10 17 1048576 10 0 = 1048576 := by decide +kernel
set_option maxHeartbeats 1000000 in
theorem live17 (w : World) : Calls Try.prog 25 #[] w fun y w' => y = .returned (.bool true) ∧ Below w.heap.size w w' := by
  go_enter Try.func25, Try.ntmps25
  go_wp2_with fail
  refine (cknew_any _).mono ?_
  rintro y w1 ⟨B, rfl, hO, hB, hb⟩
  have HO1 := Lib.hid hO; have HB1 := Lib.hid hb; have HBB := Lib.hid hB
  clear hO hb hB
  go_wp2_with fail
  refine (ckread_any 5 (by decide) 0 0 1048576 0 B _ HO1.out).mono ?_
  rw [lk_a.1, lk_a.2]
  rintro y w2 ⟨rfl, hO, hk⟩
  have HO2 := Lib.hid hO; have HB2 := Lib.hid (HB1.out.trans (hk.belowN HBB.out HB1.out.size (fun k e => by cases e)))
  clear hO hk
  go_wp2_with fail
  refine (ckread_any 3 (by decide) 0 0 1048576 5 B _ HO2.out).mono ?_
  rw [lk_b.1, lk_b.2.1]
  rintro y w3 ⟨rfl, hO, hk⟩
  have HO3 := Lib.hid hO; have HB3 := Lib.hid (HB2.out.trans (hk.belowN HBB.out HB2.out.size (fun k e => by cases e)))
  clear hO hk
  go_wp2_with fail
  refine (cklook_any 3 (by decide) 0 0 1048576 5 B _ HO3.out).mono ?_
  rw [lk_b.2.1, lk_b.2.2]
  rintro y w4 ⟨rfl, hb⟩
  have HO4 := Lib.hid (HO3.out.on hb); have HB4 := Lib.hid (below_transG HB3.out hb)
  clear hb
  go_wp2_with fail
  refine (ckshift_any 10 7 (by decide) (by decide) 0 0 1048576 5 B _ HO4.out).mono ?_
  rw [lk_c.1, lk_c.2.1, lk_c.2.2]
  rintro y w5 ⟨rfl, hO, hk⟩
  have HO5 := Lib.hid hO; have HB5 := Lib.hid (HB4.out.trans (hk.belowN HBB.out HB4.out.size (fun k e => by cases e)))
  clear hO hk
  go_wp2_with fail
  refine (ckread_any 10 (by decide) 10 17 1048576 5 B _ HO5.out).mono ?_
  rw [lk_d.1, lk_d.2]
  rintro y w6 ⟨rfl, hO, hk⟩
  have HO6 := Lib.hid hO; have HB6 := Lib.hid (HB5.out.trans (hk.belowN HBB.out HB5.out.size (fun k e => by cases e)))
  clear hO hk
  go_wp2_with fail
  refine (cktune_any 10 0 (by decide) 10 17 1048576 17 B _ HO6.out).mono ?_
  rw [lk_e.1, lk_e.2.1, lk_e.2.2.1, lk_e.2.2.2]
  rintro y w7 ⟨rfl, hO, hk⟩
  have HO7 := Lib.hid hO; have HB7 := Lib.hid (HB6.out.trans (hk.belowN HBB.out HB6.out.size (fun k e => by cases e)))
  clear hO hk
  go_wp2_with fail
  refine (ckread_nil 1 _).mono ?_
  rintro y w8 ⟨rfl, rfl⟩
  go_wp2_with fail
  refine (ckrate_any 10 17 1048576 17 B _ HO7.out).mono ?_
  rintro y w8 ⟨rfl, rfl⟩
  go_wp2_with fail
  refine (cklast_any 10 17 1048576 17 B _ HO7.out).mono ?_
  rintro y w8 ⟨rfl, rfl⟩
  go_wp2_with fail
  refine (ckshift_nil 0 0 _).mono ?_
  rintro y w8 ⟨rfl, rfl⟩
  go_wp2_with fail
  refine (cktune_nil 0 1048576 _).mono ?_
  rintro y w8 ⟨rfl, rfl⟩
  go_wp2_with fail
  refine (cklast_nil _).mono ?_
  rintro y w8 ⟨rfl, rfl⟩
  go_wp2_with fail
  go_ret
  exact ⟨rfl, HB7.out⟩
/-- The code's clock and the document's, in one memory, both younger than a world. -/
structure C2 (w u : World) (B B' : Nat) (c v r t c' v' r' t' : Int) : Prop where
  a : CK u 76 B c v r t
  b : CK u 35 B' c' v' r' t'
  below : Below w.heap.size w u
  la : w.heap.size ≤ B
  lb : w.heap.size ≤ B'
  ne : B ≠ B'
theorem C2.on {w u x : World} {B B' : Nat} {c v r t c' v' r' t' : Int} (h : C2 w u B B' c v r t c' v' r' t') (hb : Below u.heap.size u x) : C2 w x B B' c v r t c' v' r' t' := ⟨h.a.on hb, h.b.on hb, below_transG h.below hb, h.la, h.lb, h.ne⟩
theorem C2.stepA {w u x : World} {B B' : Nat} {c v r t c' v' r' t' c2 v2 r2 t2 : Int} (h : C2 w u B B' c v r t c' v' r' t') (ha : CK x 76 B c2 v2 r2 t2) (hk : Kp B (.slice none 0 0) u x) : C2 w x B B' c2 v2 r2 t2 c' v' r' t' :=
  ⟨ha, h.b.byK (fun e => h.ne e.symm) hk, h.below.trans (hk.belowN h.la h.below.size (fun k e => by cases e)), h.la, h.lb, h.ne⟩
theorem C2.stepB {w u x : World} {B B' : Nat} {c v r t c' v' r' t' c2 v2 r2 t2 : Int} (h : C2 w u B B' c v r t c' v' r' t') (hb : CK x 35 B' c2 v2 r2 t2) (hk : Kp B' (.slice none 0 0) u x) : C2 w x B B' c v r t c2 v2 r2 t2 :=
  ⟨h.a.byK h.ne hk, hb, h.below.trans (hk.belowN h.lb h.below.size (fun k e => by cases e)), h.la, h.lb, h.ne⟩
/-- A block beside both clocks. -/
structure Bd (u : World) (B B' D : Nat) (T : TypeId) (l : List Value) : Prop where
  blk : Blk u D T l
  na : D ≠ B
  nb : D ≠ B'
theorem Bd.on {u x : World} {B B' D : Nat} {T : TypeId} {l : List Value} (h : Bd u B B' D T l) (hb : Below u.heap.size u x) : Bd x B B' D T l := ⟨h.blk.keep hb h.blk.lt, h.na, h.nb⟩
theorem Bd.stepA {u x : World} {B B' D : Nat} {T : TypeId} {l : List Value} (h : Bd u B B' D T l) (hk : Kp B (.slice none 0 0) u x) : Bd x B B' D T l := ⟨h.blk.on (hk.block D h.blk.lt h.na (fun e => by cases e)), h.na, h.nb⟩
theorem Bd.stepB {u x : World} {B B' D : Nat} {T : TypeId} {l : List Value} (h : Bd u B B' D T l) (hk : Kp B' (.slice none 0 0) u x) : Bd x B B' D T l := ⟨h.blk.on (hk.block D h.blk.lt h.nb (fun e => by cases e)), h.na, h.nb⟩
end Go.Proofs.Ytioifgbglgjkcaa
