/- The statement of P10.1, P10.2 (CountIs): any counts, and behind any frame. No conditions. -/
import Derived.Test.YtkmajhecjjhmbaaRows
import Derived.Test.YtkmajhecjjhmbaaCnl
import Derived.Deep.RegionHeld3
import Derived.WalkKit
import Derived.ProofKit
import Derived.OpenShut
import Derived.ShutString
import Derived.ChangeOld
import Derived.Below
namespace Go.Proofs.Ytkmajhecjjhmbaa.countIs
open Go.ChangeShapes Go.WideShapes Go.ChangeAt Go.RowKit
theorem own : ownKnob Try.prog.godebug = none := by kernel_rfl
theorem laidOut : laidOutB Try.prog = true := by kernel_rfl
set_option maxHeartbeats 8000000 in
theorem walk (tx rx : Int) (off : Bool) (n : Int) (_hn : (Lit.int .i64 n).wf = true) (w : World) :
    Calls Try.prog 3 #[cV tx rx off, .int .i64 n] w fun e w' => e = .returned (.bool true) ∧ Below w.heap.size w w' := by
  clear _hn
  obtain ⟨t, ht⟩ : ∃ t, t = nT tx rx off := ⟨_, rfl⟩
  obtain ⟨r, hr⟩ : ∃ r, r = nR tx rx off := ⟨_, rfl⟩
  obtain ⟨o, ho⟩ : ∃ o, o = nO tx rx off := ⟨_, rfl⟩
  obtain ⟨b, hb⟩ : ∃ b, b = rightC tx rx off := ⟨_, rfl⟩
  obtain ⟨m, hm⟩ : ∃ m, m = moF (nT tx rx off) (nR tx rx off) := ⟨_, rfl⟩
  obtain ⟨t1, ht1⟩ : ∃ t1, t1 = txF (nT tx rx off) := ⟨_, rfl⟩
  obtain ⟨o1, ho1⟩ : ∃ o1, o1 = decide (248 ≤ nT tx rx off) := ⟨_, rfl⟩
  obtain ⟨r2, hr2⟩ : ∃ r2, r2 = rxF (nR tx rx off) n := ⟨_, rfl⟩
  obtain ⟨t3, ht3⟩ : ∃ t3, t3 = txG (nT tx rx off) := ⟨_, rfl⟩
  obtain ⟨r4, hr4⟩ : ∃ r4, r4 = rxG (nR tx rx off) := ⟨_, rfl⟩
  have HR0 := Lib.hid (show ∀ u, Calls Try.prog 7 #[.agg #[.int .i64 tx, .int .i64 rx, .bool off]] u fun x w' => x = .returned (.bool b) ∧ Below u.heap.size u w' from fun u => by subst ht hr ho hb hm ht1 ho1 hr2 ht3 hr4; exact right_any tx rx off u)
  have HR1 := Lib.hid (show ∀ u, Calls Try.prog 8 #[.agg #[.int .i64 tx, .int .i64 rx, .bool off]] u fun x w' => x = .returned (.bool b) ∧ Below u.heap.size u w' from fun u => by subst ht hr ho hb hm ht1 ho1 hr2 ht3 hr4; exact refRight_any tx rx off u)
  have HM0 := Lib.hid (show ∀ u, Calls Try.prog 9 #[.agg #[.int .i64 tx, .int .i64 rx, .bool off]] u fun x w' => x = .returned (.int .i64 m) ∧ Below u.heap.size u w' from fun u => by subst ht hr ho hb hm ht1 ho1 hr2 ht3 hr4; exact mode_any tx rx off u)
  have HM1 := Lib.hid (show ∀ u, Calls Try.prog 10 #[.agg #[.int .i64 tx, .int .i64 rx, .bool off]] u fun x w' => x = .returned (.int .i64 m) ∧ Below u.heap.size u w' from fun u => by subst ht hr ho hb hm ht1 ho1 hr2 ht3 hr4; exact refMode_any tx rx off u)
  have HF0 := Lib.hid (show ∀ u, Calls Try.prog 11 #[.agg #[.int .i64 tx, .int .i64 rx, .bool off]] u fun x w' => x = .returned (.agg #[.int .i64 t1, .int .i64 r, .bool o1]) ∧ Below u.heap.size u w' from fun u => by subst ht hr ho hb hm ht1 ho1 hr2 ht3 hr4; exact txFail_any tx rx off u)
  have HF1 := Lib.hid (show ∀ u, Calls Try.prog 12 #[.agg #[.int .i64 tx, .int .i64 rx, .bool off]] u fun x w' => x = .returned (.agg #[.int .i64 t1, .int .i64 r, .bool o1]) ∧ Below u.heap.size u w' from fun u => by subst ht hr ho hb hm ht1 ho1 hr2 ht3 hr4; exact refTxFail_any tx rx off u)
  have HX0 := Lib.hid (show ∀ u, Calls Try.prog 13 #[.agg #[.int .i64 tx, .int .i64 rx, .bool off], .int .i64 n] u fun x w' => x = .returned (.agg #[.int .i64 t, .int .i64 r2, .bool o]) ∧ Below u.heap.size u w' from fun u => by subst ht hr ho hb hm ht1 ho1 hr2 ht3 hr4; exact rxFail_any tx rx off n u)
  have HX1 := Lib.hid (show ∀ u, Calls Try.prog 14 #[.agg #[.int .i64 tx, .int .i64 rx, .bool off], .int .i64 n] u fun x w' => x = .returned (.agg #[.int .i64 t, .int .i64 r2, .bool o]) ∧ Below u.heap.size u w' from fun u => by subst ht hr ho hb hm ht1 ho1 hr2 ht3 hr4; exact refRxFail_any tx rx off n u)
  have HG0 := Lib.hid (show ∀ u, Calls Try.prog 15 #[.agg #[.int .i64 tx, .int .i64 rx, .bool off]] u fun x w' => x = .returned (.agg #[.int .i64 t3, .int .i64 r, .bool o]) ∧ Below u.heap.size u w' from fun u => by subst ht hr ho hb hm ht1 ho1 hr2 ht3 hr4; exact txGood_any tx rx off u)
  have HG1 := Lib.hid (show ∀ u, Calls Try.prog 16 #[.agg #[.int .i64 tx, .int .i64 rx, .bool off]] u fun x w' => x = .returned (.agg #[.int .i64 t3, .int .i64 r, .bool o]) ∧ Below u.heap.size u w' from fun u => by subst ht hr ho hb hm ht1 ho1 hr2 ht3 hr4; exact refTxGood_any tx rx off u)
  have HH0 := Lib.hid (show ∀ u, Calls Try.prog 17 #[.agg #[.int .i64 tx, .int .i64 rx, .bool off]] u fun x w' => x = .returned (.agg #[.int .i64 t, .int .i64 r4, .bool o]) ∧ Below u.heap.size u w' from fun u => by subst ht hr ho hb hm ht1 ho1 hr2 ht3 hr4; exact rxGood_any tx rx off u)
  have HH1 := Lib.hid (show ∀ u, Calls Try.prog 18 #[.agg #[.int .i64 tx, .int .i64 rx, .bool off]] u fun x w' => x = .returned (.agg #[.int .i64 t, .int .i64 r4, .bool o]) ∧ Below u.heap.size u w' from fun u => by subst ht hr ho hb hm ht1 ho1 hr2 ht3 hr4; exact refRxGood_any tx rx off u)
  clear ht hr ho hb hm ht1 ho1 hr2 ht3 hr4
  unfold cV
  go_enter Try.func3, Try.ntmps3
  go_wp2_with (fail)
  have T := Tri.new w (.int .i64 tx) (.int .i64 rx) (.bool off) 23 rfl
  have HB := Lib.hid ((Below.refl w.heap.size w).alloc (Nat.le_refl _) (.cells #[.int .i64 tx, .int .i64 rx, .bool off] 23))
  have hlt : w.heap.size < (w.alloc (.cells #[.int .i64 tx, .int .i64 rx, .bool off] 23)).heap.size := by simp
  obtain ⟨wr, hwr⟩ : ∃ wr, wr = w.alloc (.cells #[.int .i64 tx, .int .i64 rx, .bool off] 23) := ⟨_, rfl⟩
  rw [← hwr] at T HB hlt ⊢
  clear hwr
  have HS := Lib.hid (show ∀ u, Below wr.heap.size wr u → Below wr.heap.size wr u ∧ u.cell? ⟨w.heap.size, 0, none⟩ = some (.int .i64 tx) ∧ u.cell? ⟨w.heap.size, 1, none⟩ = some (.int .i64 rx) ∧ u.cell? ⟨w.heap.size, 2, none⟩ = some (.bool off) from fun u hu => ⟨hu, ((bcell2 hu).1 _ _ hlt).trans T.1, ((bcell2 hu).1 _ _ hlt).trans T.2.1, ((bcell2 hu).1 _ _ hlt).trans T.2.2.1⟩)
  clear T hlt
  have HR0' := Lib.hid (show ∀ u, Below wr.heap.size wr u ∧ u.cell? ⟨w.heap.size, 0, none⟩ = some (.int .i64 tx) ∧ u.cell? ⟨w.heap.size, 1, none⟩ = some (.int .i64 rx) ∧ u.cell? ⟨w.heap.size, 2, none⟩ = some (.bool off) → Calls Try.prog 7 #[.agg #[.int .i64 tx, .int .i64 rx, .bool off]] u fun x w' => x = .returned (.bool b) ∧ Below wr.heap.size wr w' ∧ w'.cell? ⟨w.heap.size, 0, none⟩ = some (.int .i64 tx) ∧ w'.cell? ⟨w.heap.size, 1, none⟩ = some (.int .i64 rx) ∧ w'.cell? ⟨w.heap.size, 2, none⟩ = some (.bool off) from fun u hu => (HR0.out u).mono fun _ _ h => ⟨h.1, HS.out _ (below_trans' hu.1 h.2)⟩)
  clear HR0
  have HR1' := Lib.hid (show ∀ u, Below wr.heap.size wr u ∧ u.cell? ⟨w.heap.size, 0, none⟩ = some (.int .i64 tx) ∧ u.cell? ⟨w.heap.size, 1, none⟩ = some (.int .i64 rx) ∧ u.cell? ⟨w.heap.size, 2, none⟩ = some (.bool off) → Calls Try.prog 8 #[.agg #[.int .i64 tx, .int .i64 rx, .bool off]] u fun x w' => x = .returned (.bool b) ∧ Below wr.heap.size wr w' ∧ w'.cell? ⟨w.heap.size, 0, none⟩ = some (.int .i64 tx) ∧ w'.cell? ⟨w.heap.size, 1, none⟩ = some (.int .i64 rx) ∧ w'.cell? ⟨w.heap.size, 2, none⟩ = some (.bool off) from fun u hu => (HR1.out u).mono fun _ _ h => ⟨h.1, HS.out _ (below_trans' hu.1 h.2)⟩)
  clear HR1
  have HM0' := Lib.hid (show ∀ u, Below wr.heap.size wr u ∧ u.cell? ⟨w.heap.size, 0, none⟩ = some (.int .i64 tx) ∧ u.cell? ⟨w.heap.size, 1, none⟩ = some (.int .i64 rx) ∧ u.cell? ⟨w.heap.size, 2, none⟩ = some (.bool off) → Calls Try.prog 9 #[.agg #[.int .i64 tx, .int .i64 rx, .bool off]] u fun x w' => x = .returned (.int .i64 m) ∧ Below wr.heap.size wr w' ∧ w'.cell? ⟨w.heap.size, 0, none⟩ = some (.int .i64 tx) ∧ w'.cell? ⟨w.heap.size, 1, none⟩ = some (.int .i64 rx) ∧ w'.cell? ⟨w.heap.size, 2, none⟩ = some (.bool off) from fun u hu => (HM0.out u).mono fun _ _ h => ⟨h.1, HS.out _ (below_trans' hu.1 h.2)⟩)
  clear HM0
  have HM1' := Lib.hid (show ∀ u, Below wr.heap.size wr u ∧ u.cell? ⟨w.heap.size, 0, none⟩ = some (.int .i64 tx) ∧ u.cell? ⟨w.heap.size, 1, none⟩ = some (.int .i64 rx) ∧ u.cell? ⟨w.heap.size, 2, none⟩ = some (.bool off) → Calls Try.prog 10 #[.agg #[.int .i64 tx, .int .i64 rx, .bool off]] u fun x w' => x = .returned (.int .i64 m) ∧ Below wr.heap.size wr w' ∧ w'.cell? ⟨w.heap.size, 0, none⟩ = some (.int .i64 tx) ∧ w'.cell? ⟨w.heap.size, 1, none⟩ = some (.int .i64 rx) ∧ w'.cell? ⟨w.heap.size, 2, none⟩ = some (.bool off) from fun u hu => (HM1.out u).mono fun _ _ h => ⟨h.1, HS.out _ (below_trans' hu.1 h.2)⟩)
  clear HM1
  have HF0' := Lib.hid (show ∀ u, Below wr.heap.size wr u ∧ u.cell? ⟨w.heap.size, 0, none⟩ = some (.int .i64 tx) ∧ u.cell? ⟨w.heap.size, 1, none⟩ = some (.int .i64 rx) ∧ u.cell? ⟨w.heap.size, 2, none⟩ = some (.bool off) → Calls Try.prog 11 #[.agg #[.int .i64 tx, .int .i64 rx, .bool off]] u fun x w' => x = .returned (.agg #[.int .i64 t1, .int .i64 r, .bool o1]) ∧ Below wr.heap.size wr w' ∧ w'.cell? ⟨w.heap.size, 0, none⟩ = some (.int .i64 tx) ∧ w'.cell? ⟨w.heap.size, 1, none⟩ = some (.int .i64 rx) ∧ w'.cell? ⟨w.heap.size, 2, none⟩ = some (.bool off) from fun u hu => (HF0.out u).mono fun _ _ h => ⟨h.1, HS.out _ (below_trans' hu.1 h.2)⟩)
  clear HF0
  have HF1' := Lib.hid (show ∀ u, Below wr.heap.size wr u ∧ u.cell? ⟨w.heap.size, 0, none⟩ = some (.int .i64 tx) ∧ u.cell? ⟨w.heap.size, 1, none⟩ = some (.int .i64 rx) ∧ u.cell? ⟨w.heap.size, 2, none⟩ = some (.bool off) → Calls Try.prog 12 #[.agg #[.int .i64 tx, .int .i64 rx, .bool off]] u fun x w' => x = .returned (.agg #[.int .i64 t1, .int .i64 r, .bool o1]) ∧ Below wr.heap.size wr w' ∧ w'.cell? ⟨w.heap.size, 0, none⟩ = some (.int .i64 tx) ∧ w'.cell? ⟨w.heap.size, 1, none⟩ = some (.int .i64 rx) ∧ w'.cell? ⟨w.heap.size, 2, none⟩ = some (.bool off) from fun u hu => (HF1.out u).mono fun _ _ h => ⟨h.1, HS.out _ (below_trans' hu.1 h.2)⟩)
  clear HF1
  have HX0' := Lib.hid (show ∀ u, Below wr.heap.size wr u ∧ u.cell? ⟨w.heap.size, 0, none⟩ = some (.int .i64 tx) ∧ u.cell? ⟨w.heap.size, 1, none⟩ = some (.int .i64 rx) ∧ u.cell? ⟨w.heap.size, 2, none⟩ = some (.bool off) → Calls Try.prog 13 #[.agg #[.int .i64 tx, .int .i64 rx, .bool off], .int .i64 n] u fun x w' => x = .returned (.agg #[.int .i64 t, .int .i64 r2, .bool o]) ∧ Below wr.heap.size wr w' ∧ w'.cell? ⟨w.heap.size, 0, none⟩ = some (.int .i64 tx) ∧ w'.cell? ⟨w.heap.size, 1, none⟩ = some (.int .i64 rx) ∧ w'.cell? ⟨w.heap.size, 2, none⟩ = some (.bool off) from fun u hu => (HX0.out u).mono fun _ _ h => ⟨h.1, HS.out _ (below_trans' hu.1 h.2)⟩)
  clear HX0
  have HX1' := Lib.hid (show ∀ u, Below wr.heap.size wr u ∧ u.cell? ⟨w.heap.size, 0, none⟩ = some (.int .i64 tx) ∧ u.cell? ⟨w.heap.size, 1, none⟩ = some (.int .i64 rx) ∧ u.cell? ⟨w.heap.size, 2, none⟩ = some (.bool off) → Calls Try.prog 14 #[.agg #[.int .i64 tx, .int .i64 rx, .bool off], .int .i64 n] u fun x w' => x = .returned (.agg #[.int .i64 t, .int .i64 r2, .bool o]) ∧ Below wr.heap.size wr w' ∧ w'.cell? ⟨w.heap.size, 0, none⟩ = some (.int .i64 tx) ∧ w'.cell? ⟨w.heap.size, 1, none⟩ = some (.int .i64 rx) ∧ w'.cell? ⟨w.heap.size, 2, none⟩ = some (.bool off) from fun u hu => (HX1.out u).mono fun _ _ h => ⟨h.1, HS.out _ (below_trans' hu.1 h.2)⟩)
  clear HX1
  have HG0' := Lib.hid (show ∀ u, Below wr.heap.size wr u ∧ u.cell? ⟨w.heap.size, 0, none⟩ = some (.int .i64 tx) ∧ u.cell? ⟨w.heap.size, 1, none⟩ = some (.int .i64 rx) ∧ u.cell? ⟨w.heap.size, 2, none⟩ = some (.bool off) → Calls Try.prog 15 #[.agg #[.int .i64 tx, .int .i64 rx, .bool off]] u fun x w' => x = .returned (.agg #[.int .i64 t3, .int .i64 r, .bool o]) ∧ Below wr.heap.size wr w' ∧ w'.cell? ⟨w.heap.size, 0, none⟩ = some (.int .i64 tx) ∧ w'.cell? ⟨w.heap.size, 1, none⟩ = some (.int .i64 rx) ∧ w'.cell? ⟨w.heap.size, 2, none⟩ = some (.bool off) from fun u hu => (HG0.out u).mono fun _ _ h => ⟨h.1, HS.out _ (below_trans' hu.1 h.2)⟩)
  clear HG0
  have HG1' := Lib.hid (show ∀ u, Below wr.heap.size wr u ∧ u.cell? ⟨w.heap.size, 0, none⟩ = some (.int .i64 tx) ∧ u.cell? ⟨w.heap.size, 1, none⟩ = some (.int .i64 rx) ∧ u.cell? ⟨w.heap.size, 2, none⟩ = some (.bool off) → Calls Try.prog 16 #[.agg #[.int .i64 tx, .int .i64 rx, .bool off]] u fun x w' => x = .returned (.agg #[.int .i64 t3, .int .i64 r, .bool o]) ∧ Below wr.heap.size wr w' ∧ w'.cell? ⟨w.heap.size, 0, none⟩ = some (.int .i64 tx) ∧ w'.cell? ⟨w.heap.size, 1, none⟩ = some (.int .i64 rx) ∧ w'.cell? ⟨w.heap.size, 2, none⟩ = some (.bool off) from fun u hu => (HG1.out u).mono fun _ _ h => ⟨h.1, HS.out _ (below_trans' hu.1 h.2)⟩)
  clear HG1
  have HH0' := Lib.hid (show ∀ u, Below wr.heap.size wr u ∧ u.cell? ⟨w.heap.size, 0, none⟩ = some (.int .i64 tx) ∧ u.cell? ⟨w.heap.size, 1, none⟩ = some (.int .i64 rx) ∧ u.cell? ⟨w.heap.size, 2, none⟩ = some (.bool off) → Calls Try.prog 17 #[.agg #[.int .i64 tx, .int .i64 rx, .bool off]] u fun x w' => x = .returned (.agg #[.int .i64 t, .int .i64 r4, .bool o]) ∧ Below wr.heap.size wr w' ∧ w'.cell? ⟨w.heap.size, 0, none⟩ = some (.int .i64 tx) ∧ w'.cell? ⟨w.heap.size, 1, none⟩ = some (.int .i64 rx) ∧ w'.cell? ⟨w.heap.size, 2, none⟩ = some (.bool off) from fun u hu => (HH0.out u).mono fun _ _ h => ⟨h.1, HS.out _ (below_trans' hu.1 h.2)⟩)
  clear HH0
  have HH1' := Lib.hid (show ∀ u, Below wr.heap.size wr u ∧ u.cell? ⟨w.heap.size, 0, none⟩ = some (.int .i64 tx) ∧ u.cell? ⟨w.heap.size, 1, none⟩ = some (.int .i64 rx) ∧ u.cell? ⟨w.heap.size, 2, none⟩ = some (.bool off) → Calls Try.prog 18 #[.agg #[.int .i64 tx, .int .i64 rx, .bool off]] u fun x w' => x = .returned (.agg #[.int .i64 t, .int .i64 r4, .bool o]) ∧ Below wr.heap.size wr w' ∧ w'.cell? ⟨w.heap.size, 0, none⟩ = some (.int .i64 tx) ∧ w'.cell? ⟨w.heap.size, 1, none⟩ = some (.int .i64 rx) ∧ w'.cell? ⟨w.heap.size, 2, none⟩ = some (.bool off) from fun u hu => (HH1.out u).mono fun _ _ h => ⟨h.1, HS.out _ (below_trans' hu.1 h.2)⟩)
  clear HH1
  have HL := Lib.hid (show ∀ u, Below wr.heap.size wr u ∧ u.cell? ⟨w.heap.size, 0, none⟩ = some (.int .i64 tx) ∧ u.cell? ⟨w.heap.size, 1, none⟩ = some (.int .i64 rx) ∧ u.cell? ⟨w.heap.size, 2, none⟩ = some (.bool off) → Calls Try.prog 6 #[] u fun x w' => x = .returned (.bool true) ∧ Below wr.heap.size wr w' ∧ w'.cell? ⟨w.heap.size, 0, none⟩ = some (.int .i64 tx) ∧ w'.cell? ⟨w.heap.size, 1, none⟩ = some (.int .i64 rx) ∧ w'.cell? ⟨w.heap.size, 2, none⟩ = some (.bool off) from fun u hu => (live10 u).mono fun _ _ h => ⟨h.1, HS.out _ (below_trans' hu.1 h.2)⟩)
  have k0 := HS.out _ (Below.refl wr.heap.size wr).drew
  go_region_held3 (fun w' => Below wr.heap.size wr w' ∧ w'.cell? ⟨w.heap.size, 0, none⟩ = some (.int .i64 tx) ∧ w'.cell? ⟨w.heap.size, 1, none⟩ = some (.int .i64 rx) ∧ w'.cell? ⟨w.heap.size, 2, none⟩ = some (.bool off)) (assumption) (first | (go_at_call 6; refine (HL.out _ (by assumption)).mono ?_; rintro x u0 ⟨rfl, hx0⟩) | (go_at_call 7; refine (HR0'.out _ (by assumption)).mono ?_; rintro x u1 ⟨rfl, hx1⟩) | (go_at_call 8; refine (HR1'.out _ (by assumption)).mono ?_; rintro x u2 ⟨rfl, hx2⟩) | (go_at_call 9; refine (HM0'.out _ (by assumption)).mono ?_; rintro x u3 ⟨rfl, hx3⟩) | (go_at_call 10; refine (HM1'.out _ (by assumption)).mono ?_; rintro x u4 ⟨rfl, hx4⟩) | (go_at_call 11; refine (HF0'.out _ (by assumption)).mono ?_; rintro x u5 ⟨rfl, hx5⟩) | (go_at_call 12; refine (HF1'.out _ (by assumption)).mono ?_; rintro x u6 ⟨rfl, hx6⟩) | (go_at_call 13; refine (HX0'.out _ (by assumption)).mono ?_; rintro x u7 ⟨rfl, hx7⟩) | (go_at_call 14; refine (HX1'.out _ (by assumption)).mono ?_; rintro x u8 ⟨rfl, hx8⟩) | (go_at_call 15; refine (HG0'.out _ (by assumption)).mono ?_; rintro x u9 ⟨rfl, hx9⟩) | (go_at_call 16; refine (HG1'.out _ (by assumption)).mono ?_; rintro x u10 ⟨rfl, hx10⟩) | (go_at_call 17; refine (HH0'.out _ (by assumption)).mono ?_; rintro x u11 ⟨rfl, hx11⟩) | (go_at_call 18; refine (HH1'.out _ (by assumption)).mono ?_; rintro x u12 ⟨rfl, hx12⟩))
  have HE := Lib.hid (HB.out.trans (hx12.1.mono HB.out.size))
  clear hx0 hx1 hx2 hx3 hx4 hx5 hx6 hx7 hx8 hx9 hx10 hx11 hx12 k0
  go_wp2_with (fail)
  go_ret
  exact ⟨rfl, HE.out⟩
set_option maxRecDepth 100000 in
theorem lifted (os : Os) (started : os.Started) (H : Type) (enc : TypeId × Value → H) :
    ReturnsInHanded {} Try.checked os 3 .any (Rows.countIsSpec.pre6 enc Try.prog Try.f3 Rows.countIsRow.domain false) (Rows.countIsSpec.post enc Try.prog Try.f3 false true false false) := by
  refine returnsInHanded_of_change (C := Try.checked) own started (by kernel_rfl) Try.func3
    (ChangeSpec.witness6 (enc := enc) (C := Try.checked) false ⟨#[], #[.agg #[.int .i64 0, .int .i64 0, .bool false], .int .i64 0], []⟩ 8 (by kernel_rfl) (by kernel_rfl) (by kernel_rfl) (by kernel_rfl)) ?_
  intro W base args ds gs before hval0 hW _ _
  have hval : ∀ (j : Nat) t v, Try.f3.params[j]? = some t → args[j]? = some v → Value.okWide Try.prog W .any base t v := hval0
  have hW' := hW
  obtain ⟨p, q, hA0, hV, rfl, hfz, hnd⟩ := hW
  have hA : DataW.TrodAll enc Try.prog W 0 (fun _ => true) true Try.f3.params.toList args.toList ds p := hA0
  rw [Try.params3] at hA hval
  obtain ⟨v0, vs0, d0, ds0, p0, q0, hargs, rfl, rfl, h0, r0⟩ := trodAll_cons hA
  obtain ⟨v1, vs1, d1, ds1, p1, q1, rfl, rfl, rfl, h1, r1⟩ := trodAll_cons r0
  obtain ⟨rfl, rfl, rfl⟩ := trodAll_nil r1
  obtain rfl : args = #[v0, v1] := by cases args; simp_all
  obtain ⟨rfl, rfl⟩ := trodVars_none hV
  have k0 := h0
  have lt0 : ∀ x ∈ p0, x.block < W.heap.size := by obtain ⟨m, hm⟩ := k0; exact DataW.trod_lt m _ _ _ hm
  obtain ⟨t0, r0_, o0, rfl⟩ := open_counts (hval 0 23 v0 rfl rfl) h0
  obtain ⟨a1, rfl, rfl, rfl, w1⟩ := open_int Try.underlying3 (hval 1 3 v1 rfl rfl) h1
  clear hA0 hval0
  refine (walk t0 r0_ o0 a1 w1 W).mono fun e W' ⟨he, bel⟩ => ?_
  subst he
  exact ⟨_, rfl, _, _, _, [], _, [], hW', trodAll_mk1 (shut_bool Try.underlying4 _), (trodAll_cons_mk (Below.trod laidOut (by kernel_rfl) (of_decide_eq_true (by kernel_rfl)) k0 bel lt0) (trodAll_cons_mk (shut_int Try.underlying3 w1) trodAll_mk0)), rfl, bel.frame _, fun h => by cases h⟩
theorem over : Rows.countIsRow.holds Try.pinned (OpenSpec.ofChange Rows.countIsSpec) :=
  OpenClaim.holds_of_wide 3 Try.f3 rfl rfl rfl rfl rfl rfl rfl ⟨rfl, rfl, rfl, rfl, rfl⟩ rfl rfl rfl rfl rfl (by kernel_rfl) Try.func3 (by kernel_rfl)
    (of_decide_eq_true (by kernel_rfl)) (by unfold Func.isWrapper; first | (rw [if_pos (by decide +kernel)]; kernel_rfl) | (rw [if_neg (by decide +kernel)]; exact ⟨rfl, rfl⟩))
    (fun os started H enc _ => lifted os started H enc)
/-- The statement. -/
theorem proved : Rows.CountIsSaid := over
end Go.Proofs.Ytkmajhecjjhmbaa.countIs
