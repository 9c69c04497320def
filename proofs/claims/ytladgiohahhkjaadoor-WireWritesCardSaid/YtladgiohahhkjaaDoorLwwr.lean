/- The statement of P7.1 (WireWrites): any frame's bits on the wire, how many, and how many at most. Conditions: the divisor's cells hold what the program's own text lays in them (tied). -/
import Derived.Test.YtladgiohahhkjaaDoorRows
import Derived.Test.YtladgiohahhkjaaDoorOpe
import Derived.Test.YtladgiohahhkjaaDoorWrf
import Derived.Test.YtladgiohahhkjaaDoorBat
import Derived.WalkKit
import Derived.ProofKit
import Derived.OpenShut
import Derived.ShutString
import Derived.ChangeOld
import Derived.Below
namespace Go.Proofs.YtladgiohahhkjaaDoor.wireWrites
open Go.ChangeShapes Go.WideShapes Go.ChangeAt Go.RowKit
theorem own : ownKnob Tryd.prog.godebug = none := by kernel_rfl
theorem laidOut : laidOutB Tryd.prog = true := by kernel_rfl
set_option maxRecDepth 100000 in
set_option maxHeartbeats 8000000 in
theorem walk (e0 : Bool) (n0 : Nat) (q0 : Bool) (l0 : Int) (x0 : List Nat) (w0 : n0 < 4294967296 ∧ x0.length = 8 ∧ ∀ y ∈ x0, y < 256) (w : World) (h0 : 1 < w.heap.size) (hT : Tab w) :
    Calls Tryd.prog 8 #[frameV e0 n0 q0 l0 x0] w fun e w' => e = .returned (.bool true) ∧ Below w.heap.size w w' := by
  obtain ⟨hn0, hx0, hb0⟩ := w0
  have hLV := fun u (hu : Below w.heap.size w u) => live7 u (Nat.lt_of_lt_of_le h0 hu.size) (hT.onB hu h0)
  have HLV := Lib.hid hLV
  clear hLV
  have hMO := fun u (hu : Below w.heap.size w u) => most_any7 e0 l0 u (Nat.lt_of_lt_of_le h0 hu.size) (hT.onB hu h0)
  have hRM := fun u => refMost7_any e0 l0 u
  obtain ⟨M, hM⟩ : ∃ M, M = mostF e0 l0 := ⟨_, rfl⟩
  rw [← hM] at hMO hRM
  have HMO := Lib.hid hMO; have HRM := Lib.hid hRM
  clear hMO hRM hM
  obtain ⟨L, E, hLE, HEN, HRE, HLO⟩ : ∃ (L : Nat) (E : List Nat), L = E.length ∧ Hid (∀ u, Below w.heap.size w u → Calls Tryd.prog 32 #[frameV e0 n0 q0 l0 x0] u fun x w' => ∃ a cap, x = .returned (.slice a L cap) ∧ Str w'.heap.size w' (.slice a L cap) E ∧ Below u.heap.size u w') ∧ Hid (∀ u, Calls Tryd.prog 34 #[frameV e0 n0 q0 l0 x0] u fun x w' => ∃ a cap, x = .returned (.slice a L cap) ∧ Str w'.heap.size w' (.slice a L cap) E ∧ Below u.heap.size u w') ∧ Hid (∀ u, Below w.heap.size w u → Calls Tryd.prog 35 #[frameV e0 n0 q0 l0 x0] u fun x w' => x = .returned (.int .i64 (L : Int)) ∧ Below u.heap.size u w') := by
    by_cases hok : rightF e0 n0 q0 l0 x0 = 0
    · obtain ⟨m, rfl⟩ : ∃ m : Nat, l0 = m := by
        by_cases hneg : l0 < 0
        · exfalso
          unfold rightF at hok
          split at hok
          · exact absurd hok (by decide)
          · rw [if_pos (.inl hneg)] at hok; exact absurd hok (by decide)
        · exact ⟨l0.toNat, by omega⟩
      refine ⟨_, encB e0 n0 q0 m x0, rfl, Lib.hid fun u hu => ?_, Lib.hid fun u => ?_, Lib.hid fun u hu => long_yes e0 n0 hn0 q0 m x0 hx0 hb0 hok u (Nat.lt_of_lt_of_le h0 hu.size) (hT.onB hu h0)⟩
      · refine (encode_yes e0 n0 hn0 q0 m x0 hx0 hb0 hok u (Nat.lt_of_lt_of_le h0 hu.size) (hT.onB hu h0)).mono ?_
        rintro x w' ⟨v, rfl, ho, hb⟩
        obtain ⟨a, cap, rfl⟩ := ho.shape
        exact ⟨a, cap, rfl, ho.str, hb⟩
      · refine (refEnc_yes e0 n0 hn0 q0 m x0 hx0 hb0 hok u).mono ?_
        rintro x w' ⟨v, rfl, ho, hb⟩
        obtain ⟨a, cap, rfl⟩ := ho.shape
        exact ⟨a, cap, rfl, ho.str, hb⟩
    · refine ⟨0, [], rfl, Lib.hid fun u hu => ?_, Lib.hid fun u => ?_, Lib.hid fun u hu => long_no e0 n0 q0 l0 x0 hx0 hok u⟩
      · refine (encode_no e0 n0 q0 l0 x0 hx0 hok u).mono ?_
        rintro x w' ⟨rfl, hb⟩
        exact ⟨none, 0, rfl, (Ow.nil 0 w').str, hb⟩
      · refine (refEnc_no e0 n0 q0 l0 x0 hx0 hok u).mono ?_
        rintro x w' ⟨rfl, hb⟩
        exact ⟨none, 0, rfl, (Ow.nil 0 w').str, hb⟩
  have HFA := Lib.hid (FrameAt.new w 27 e0 n0 q0 l0 x0 hx0)
  obtain ⟨x0, x1, x2, x3, x4, x5, x6, x7, rfl⟩ := eight hx0
  simp only [frameV, frameC, List.map] at HEN HRE HLO HFA ⊢
  clear hn0 hx0 hb0 h0 hT hLE
  go_enter Tryd.func8, Tryd.ntmps8
  go_wp2_with fail
  refine (HEN.out _ ((Below.refl _ w).alloc (Nat.le_refl _) _)).mono ?_
  rintro x w1 ⟨a, cap, rfl, hs1, hb⟩
  have HB1 := Lib.hid (below_trans' ((Below.refl _ w).alloc (Nat.le_refl _) _) hb)
  have HF1 := Lib.hid (FrameAt.keep HFA.out hb (by simp))
  have lt1 : w.heap.size < w1.heap.size := by have := hb.size; simp at this; omega
  have HS1 := Lib.hid hs1
  clear hb hs1
  go_wp2_with fail
  have HS := Lib.hid (show ∀ u, Below w1.heap.size w1 u → (Below w1.heap.size w1 u ∧ u.cell? ⟨w.heap.size, 0, none⟩ = some (.bool e0) ∧ u.cell? ⟨w.heap.size, 1, none⟩ = some (.int .u32 (n0 : Int)) ∧ u.cell? ⟨w.heap.size, 2, none⟩ = some (.bool q0) ∧ u.cell? ⟨w.heap.size, 3, none⟩ = some (.int .i64 l0) ∧ u.cell? ⟨w.heap.size, 4, none⟩ = some (.int .u8 (x0 : Int)) ∧ u.cell? ⟨w.heap.size, 5, none⟩ = some (.int .u8 (x1 : Int)) ∧ u.cell? ⟨w.heap.size, 6, none⟩ = some (.int .u8 (x2 : Int)) ∧ u.cell? ⟨w.heap.size, 7, none⟩ = some (.int .u8 (x3 : Int)) ∧ u.cell? ⟨w.heap.size, 8, none⟩ = some (.int .u8 (x4 : Int)) ∧ u.cell? ⟨w.heap.size, 9, none⟩ = some (.int .u8 (x5 : Int)) ∧ u.cell? ⟨w.heap.size, 10, none⟩ = some (.int .u8 (x6 : Int)) ∧ u.cell? ⟨w.heap.size, 11, none⟩ = some (.int .u8 (x7 : Int))) from fun u hu => by
    obtain ⟨c0, c1, c2, c3, c4, c5, c6, c7, c8, c9, c10, c11⟩ := (HF1.out.keep hu lt1).cells
    exact ⟨hu, c0, c1, c2, c3, c4, c5, c6, c7, c8, c9, c10, c11⟩)
  have hbb : ∀ u, Below w1.heap.size w1 u → Below w.heap.size w u := fun u hu => HB1.out.trans (hu.mono HB1.out.size)
  have CLV := Lib.hid (show ∀ u, (Below w1.heap.size w1 u ∧ u.cell? ⟨w.heap.size, 0, none⟩ = some (.bool e0) ∧ u.cell? ⟨w.heap.size, 1, none⟩ = some (.int .u32 (n0 : Int)) ∧ u.cell? ⟨w.heap.size, 2, none⟩ = some (.bool q0) ∧ u.cell? ⟨w.heap.size, 3, none⟩ = some (.int .i64 l0) ∧ u.cell? ⟨w.heap.size, 4, none⟩ = some (.int .u8 (x0 : Int)) ∧ u.cell? ⟨w.heap.size, 5, none⟩ = some (.int .u8 (x1 : Int)) ∧ u.cell? ⟨w.heap.size, 6, none⟩ = some (.int .u8 (x2 : Int)) ∧ u.cell? ⟨w.heap.size, 7, none⟩ = some (.int .u8 (x3 : Int)) ∧ u.cell? ⟨w.heap.size, 8, none⟩ = some (.int .u8 (x4 : Int)) ∧ u.cell? ⟨w.heap.size, 9, none⟩ = some (.int .u8 (x5 : Int)) ∧ u.cell? ⟨w.heap.size, 10, none⟩ = some (.int .u8 (x6 : Int)) ∧ u.cell? ⟨w.heap.size, 11, none⟩ = some (.int .u8 (x7 : Int))) → Calls Tryd.prog 33 #[] u fun x w' => x = .returned (.bool true) ∧ (Below w1.heap.size w1 w' ∧ w'.cell? ⟨w.heap.size, 0, none⟩ = some (.bool e0) ∧ w'.cell? ⟨w.heap.size, 1, none⟩ = some (.int .u32 (n0 : Int)) ∧ w'.cell? ⟨w.heap.size, 2, none⟩ = some (.bool q0) ∧ w'.cell? ⟨w.heap.size, 3, none⟩ = some (.int .i64 l0) ∧ w'.cell? ⟨w.heap.size, 4, none⟩ = some (.int .u8 (x0 : Int)) ∧ w'.cell? ⟨w.heap.size, 5, none⟩ = some (.int .u8 (x1 : Int)) ∧ w'.cell? ⟨w.heap.size, 6, none⟩ = some (.int .u8 (x2 : Int)) ∧ w'.cell? ⟨w.heap.size, 7, none⟩ = some (.int .u8 (x3 : Int)) ∧ w'.cell? ⟨w.heap.size, 8, none⟩ = some (.int .u8 (x4 : Int)) ∧ w'.cell? ⟨w.heap.size, 9, none⟩ = some (.int .u8 (x5 : Int)) ∧ w'.cell? ⟨w.heap.size, 10, none⟩ = some (.int .u8 (x6 : Int)) ∧ w'.cell? ⟨w.heap.size, 11, none⟩ = some (.int .u8 (x7 : Int))) from fun u hu => (HLV.out u (hbb u hu.1)).mono fun _ _ h => ⟨h.1, HS.out _ (hu.1.trans (h.2.mono hu.1.size))⟩)
  have CRE := Lib.hid (show ∀ u, (Below w1.heap.size w1 u ∧ u.cell? ⟨w.heap.size, 0, none⟩ = some (.bool e0) ∧ u.cell? ⟨w.heap.size, 1, none⟩ = some (.int .u32 (n0 : Int)) ∧ u.cell? ⟨w.heap.size, 2, none⟩ = some (.bool q0) ∧ u.cell? ⟨w.heap.size, 3, none⟩ = some (.int .i64 l0) ∧ u.cell? ⟨w.heap.size, 4, none⟩ = some (.int .u8 (x0 : Int)) ∧ u.cell? ⟨w.heap.size, 5, none⟩ = some (.int .u8 (x1 : Int)) ∧ u.cell? ⟨w.heap.size, 6, none⟩ = some (.int .u8 (x2 : Int)) ∧ u.cell? ⟨w.heap.size, 7, none⟩ = some (.int .u8 (x3 : Int)) ∧ u.cell? ⟨w.heap.size, 8, none⟩ = some (.int .u8 (x4 : Int)) ∧ u.cell? ⟨w.heap.size, 9, none⟩ = some (.int .u8 (x5 : Int)) ∧ u.cell? ⟨w.heap.size, 10, none⟩ = some (.int .u8 (x6 : Int)) ∧ u.cell? ⟨w.heap.size, 11, none⟩ = some (.int .u8 (x7 : Int))) → Calls Tryd.prog 34 #[.agg #[.bool e0, .int .u32 (n0 : Int), .bool q0, .int .i64 l0, .int .u8 (x0 : Int), .int .u8 (x1 : Int), .int .u8 (x2 : Int), .int .u8 (x3 : Int), .int .u8 (x4 : Int), .int .u8 (x5 : Int), .int .u8 (x6 : Int), .int .u8 (x7 : Int)]] u fun x w' => ∃ a cap, x = .returned (.slice a L cap) ∧ Str w'.heap.size w' (.slice a L cap) E ∧ (Below w1.heap.size w1 w' ∧ w'.cell? ⟨w.heap.size, 0, none⟩ = some (.bool e0) ∧ w'.cell? ⟨w.heap.size, 1, none⟩ = some (.int .u32 (n0 : Int)) ∧ w'.cell? ⟨w.heap.size, 2, none⟩ = some (.bool q0) ∧ w'.cell? ⟨w.heap.size, 3, none⟩ = some (.int .i64 l0) ∧ w'.cell? ⟨w.heap.size, 4, none⟩ = some (.int .u8 (x0 : Int)) ∧ w'.cell? ⟨w.heap.size, 5, none⟩ = some (.int .u8 (x1 : Int)) ∧ w'.cell? ⟨w.heap.size, 6, none⟩ = some (.int .u8 (x2 : Int)) ∧ w'.cell? ⟨w.heap.size, 7, none⟩ = some (.int .u8 (x3 : Int)) ∧ w'.cell? ⟨w.heap.size, 8, none⟩ = some (.int .u8 (x4 : Int)) ∧ w'.cell? ⟨w.heap.size, 9, none⟩ = some (.int .u8 (x5 : Int)) ∧ w'.cell? ⟨w.heap.size, 10, none⟩ = some (.int .u8 (x6 : Int)) ∧ w'.cell? ⟨w.heap.size, 11, none⟩ = some (.int .u8 (x7 : Int))) from fun u hu => (HRE.out u).mono fun x w' h => by
    obtain ⟨a, cap, h1, h2, h3⟩ := h
    exact ⟨a, cap, h1, h2, HS.out _ (hu.1.trans (h3.mono hu.1.size))⟩)
  have CBY := Lib.hid (show ∀ u a' cap', (Below w1.heap.size w1 u ∧ u.cell? ⟨w.heap.size, 0, none⟩ = some (.bool e0) ∧ u.cell? ⟨w.heap.size, 1, none⟩ = some (.int .u32 (n0 : Int)) ∧ u.cell? ⟨w.heap.size, 2, none⟩ = some (.bool q0) ∧ u.cell? ⟨w.heap.size, 3, none⟩ = some (.int .i64 l0) ∧ u.cell? ⟨w.heap.size, 4, none⟩ = some (.int .u8 (x0 : Int)) ∧ u.cell? ⟨w.heap.size, 5, none⟩ = some (.int .u8 (x1 : Int)) ∧ u.cell? ⟨w.heap.size, 6, none⟩ = some (.int .u8 (x2 : Int)) ∧ u.cell? ⟨w.heap.size, 7, none⟩ = some (.int .u8 (x3 : Int)) ∧ u.cell? ⟨w.heap.size, 8, none⟩ = some (.int .u8 (x4 : Int)) ∧ u.cell? ⟨w.heap.size, 9, none⟩ = some (.int .u8 (x5 : Int)) ∧ u.cell? ⟨w.heap.size, 10, none⟩ = some (.int .u8 (x6 : Int)) ∧ u.cell? ⟨w.heap.size, 11, none⟩ = some (.int .u8 (x7 : Int))) → Str u.heap.size u (.slice a' L cap') E → Calls Tryd.prog 20 #[.slice a L cap, .slice a' L cap'] u fun x w' => x = .returned (.bool true) ∧ (Below w1.heap.size w1 w' ∧ w'.cell? ⟨w.heap.size, 0, none⟩ = some (.bool e0) ∧ w'.cell? ⟨w.heap.size, 1, none⟩ = some (.int .u32 (n0 : Int)) ∧ w'.cell? ⟨w.heap.size, 2, none⟩ = some (.bool q0) ∧ w'.cell? ⟨w.heap.size, 3, none⟩ = some (.int .i64 l0) ∧ w'.cell? ⟨w.heap.size, 4, none⟩ = some (.int .u8 (x0 : Int)) ∧ w'.cell? ⟨w.heap.size, 5, none⟩ = some (.int .u8 (x1 : Int)) ∧ w'.cell? ⟨w.heap.size, 6, none⟩ = some (.int .u8 (x2 : Int)) ∧ w'.cell? ⟨w.heap.size, 7, none⟩ = some (.int .u8 (x3 : Int)) ∧ w'.cell? ⟨w.heap.size, 8, none⟩ = some (.int .u8 (x4 : Int)) ∧ w'.cell? ⟨w.heap.size, 9, none⟩ = some (.int .u8 (x5 : Int)) ∧ w'.cell? ⟨w.heap.size, 10, none⟩ = some (.int .u8 (x6 : Int)) ∧ w'.cell? ⟨w.heap.size, 11, none⟩ = some (.int .u8 (x7 : Int))) from fun u a' cap' hu hs => (bytes_any a L cap E a' L cap' E u ((HS1.out.below hu.1).mono hu.1.size) hs).mono fun _ _ h => ⟨by rw [h.1, decide_eq_true rfl], HS.out _ (hu.1.trans (h.2.mono hu.1.size))⟩)
  have CLO := Lib.hid (show ∀ u, (Below w1.heap.size w1 u ∧ u.cell? ⟨w.heap.size, 0, none⟩ = some (.bool e0) ∧ u.cell? ⟨w.heap.size, 1, none⟩ = some (.int .u32 (n0 : Int)) ∧ u.cell? ⟨w.heap.size, 2, none⟩ = some (.bool q0) ∧ u.cell? ⟨w.heap.size, 3, none⟩ = some (.int .i64 l0) ∧ u.cell? ⟨w.heap.size, 4, none⟩ = some (.int .u8 (x0 : Int)) ∧ u.cell? ⟨w.heap.size, 5, none⟩ = some (.int .u8 (x1 : Int)) ∧ u.cell? ⟨w.heap.size, 6, none⟩ = some (.int .u8 (x2 : Int)) ∧ u.cell? ⟨w.heap.size, 7, none⟩ = some (.int .u8 (x3 : Int)) ∧ u.cell? ⟨w.heap.size, 8, none⟩ = some (.int .u8 (x4 : Int)) ∧ u.cell? ⟨w.heap.size, 9, none⟩ = some (.int .u8 (x5 : Int)) ∧ u.cell? ⟨w.heap.size, 10, none⟩ = some (.int .u8 (x6 : Int)) ∧ u.cell? ⟨w.heap.size, 11, none⟩ = some (.int .u8 (x7 : Int))) → Calls Tryd.prog 35 #[.agg #[.bool e0, .int .u32 (n0 : Int), .bool q0, .int .i64 l0, .int .u8 (x0 : Int), .int .u8 (x1 : Int), .int .u8 (x2 : Int), .int .u8 (x3 : Int), .int .u8 (x4 : Int), .int .u8 (x5 : Int), .int .u8 (x6 : Int), .int .u8 (x7 : Int)]] u fun x w' => x = .returned (.int .i64 (L : Int)) ∧ (Below w1.heap.size w1 w' ∧ w'.cell? ⟨w.heap.size, 0, none⟩ = some (.bool e0) ∧ w'.cell? ⟨w.heap.size, 1, none⟩ = some (.int .u32 (n0 : Int)) ∧ w'.cell? ⟨w.heap.size, 2, none⟩ = some (.bool q0) ∧ w'.cell? ⟨w.heap.size, 3, none⟩ = some (.int .i64 l0) ∧ w'.cell? ⟨w.heap.size, 4, none⟩ = some (.int .u8 (x0 : Int)) ∧ w'.cell? ⟨w.heap.size, 5, none⟩ = some (.int .u8 (x1 : Int)) ∧ w'.cell? ⟨w.heap.size, 6, none⟩ = some (.int .u8 (x2 : Int)) ∧ w'.cell? ⟨w.heap.size, 7, none⟩ = some (.int .u8 (x3 : Int)) ∧ w'.cell? ⟨w.heap.size, 8, none⟩ = some (.int .u8 (x4 : Int)) ∧ w'.cell? ⟨w.heap.size, 9, none⟩ = some (.int .u8 (x5 : Int)) ∧ w'.cell? ⟨w.heap.size, 10, none⟩ = some (.int .u8 (x6 : Int)) ∧ w'.cell? ⟨w.heap.size, 11, none⟩ = some (.int .u8 (x7 : Int))) from fun u hu => (HLO.out u (hbb u hu.1)).mono fun _ _ h => ⟨h.1, HS.out _ (hu.1.trans (h.2.mono hu.1.size))⟩)
  have CMO := Lib.hid (show ∀ u, (Below w1.heap.size w1 u ∧ u.cell? ⟨w.heap.size, 0, none⟩ = some (.bool e0) ∧ u.cell? ⟨w.heap.size, 1, none⟩ = some (.int .u32 (n0 : Int)) ∧ u.cell? ⟨w.heap.size, 2, none⟩ = some (.bool q0) ∧ u.cell? ⟨w.heap.size, 3, none⟩ = some (.int .i64 l0) ∧ u.cell? ⟨w.heap.size, 4, none⟩ = some (.int .u8 (x0 : Int)) ∧ u.cell? ⟨w.heap.size, 5, none⟩ = some (.int .u8 (x1 : Int)) ∧ u.cell? ⟨w.heap.size, 6, none⟩ = some (.int .u8 (x2 : Int)) ∧ u.cell? ⟨w.heap.size, 7, none⟩ = some (.int .u8 (x3 : Int)) ∧ u.cell? ⟨w.heap.size, 8, none⟩ = some (.int .u8 (x4 : Int)) ∧ u.cell? ⟨w.heap.size, 9, none⟩ = some (.int .u8 (x5 : Int)) ∧ u.cell? ⟨w.heap.size, 10, none⟩ = some (.int .u8 (x6 : Int)) ∧ u.cell? ⟨w.heap.size, 11, none⟩ = some (.int .u8 (x7 : Int))) → Calls Tryd.prog 36 #[.bool e0, .int .i64 l0] u fun x w' => x = .returned (.int .i64 M) ∧ (Below w1.heap.size w1 w' ∧ w'.cell? ⟨w.heap.size, 0, none⟩ = some (.bool e0) ∧ w'.cell? ⟨w.heap.size, 1, none⟩ = some (.int .u32 (n0 : Int)) ∧ w'.cell? ⟨w.heap.size, 2, none⟩ = some (.bool q0) ∧ w'.cell? ⟨w.heap.size, 3, none⟩ = some (.int .i64 l0) ∧ w'.cell? ⟨w.heap.size, 4, none⟩ = some (.int .u8 (x0 : Int)) ∧ w'.cell? ⟨w.heap.size, 5, none⟩ = some (.int .u8 (x1 : Int)) ∧ w'.cell? ⟨w.heap.size, 6, none⟩ = some (.int .u8 (x2 : Int)) ∧ w'.cell? ⟨w.heap.size, 7, none⟩ = some (.int .u8 (x3 : Int)) ∧ w'.cell? ⟨w.heap.size, 8, none⟩ = some (.int .u8 (x4 : Int)) ∧ w'.cell? ⟨w.heap.size, 9, none⟩ = some (.int .u8 (x5 : Int)) ∧ w'.cell? ⟨w.heap.size, 10, none⟩ = some (.int .u8 (x6 : Int)) ∧ w'.cell? ⟨w.heap.size, 11, none⟩ = some (.int .u8 (x7 : Int))) from fun u hu => (HMO.out u (hbb u hu.1)).mono fun _ _ h => ⟨h.1, HS.out _ (hu.1.trans (h.2.mono hu.1.size))⟩)
  have CRM := Lib.hid (show ∀ u, (Below w1.heap.size w1 u ∧ u.cell? ⟨w.heap.size, 0, none⟩ = some (.bool e0) ∧ u.cell? ⟨w.heap.size, 1, none⟩ = some (.int .u32 (n0 : Int)) ∧ u.cell? ⟨w.heap.size, 2, none⟩ = some (.bool q0) ∧ u.cell? ⟨w.heap.size, 3, none⟩ = some (.int .i64 l0) ∧ u.cell? ⟨w.heap.size, 4, none⟩ = some (.int .u8 (x0 : Int)) ∧ u.cell? ⟨w.heap.size, 5, none⟩ = some (.int .u8 (x1 : Int)) ∧ u.cell? ⟨w.heap.size, 6, none⟩ = some (.int .u8 (x2 : Int)) ∧ u.cell? ⟨w.heap.size, 7, none⟩ = some (.int .u8 (x3 : Int)) ∧ u.cell? ⟨w.heap.size, 8, none⟩ = some (.int .u8 (x4 : Int)) ∧ u.cell? ⟨w.heap.size, 9, none⟩ = some (.int .u8 (x5 : Int)) ∧ u.cell? ⟨w.heap.size, 10, none⟩ = some (.int .u8 (x6 : Int)) ∧ u.cell? ⟨w.heap.size, 11, none⟩ = some (.int .u8 (x7 : Int))) → Calls Tryd.prog 37 #[.bool e0, .int .i64 l0] u fun x w' => x = .returned (.int .i64 M) ∧ (Below w1.heap.size w1 w' ∧ w'.cell? ⟨w.heap.size, 0, none⟩ = some (.bool e0) ∧ w'.cell? ⟨w.heap.size, 1, none⟩ = some (.int .u32 (n0 : Int)) ∧ w'.cell? ⟨w.heap.size, 2, none⟩ = some (.bool q0) ∧ w'.cell? ⟨w.heap.size, 3, none⟩ = some (.int .i64 l0) ∧ w'.cell? ⟨w.heap.size, 4, none⟩ = some (.int .u8 (x0 : Int)) ∧ w'.cell? ⟨w.heap.size, 5, none⟩ = some (.int .u8 (x1 : Int)) ∧ w'.cell? ⟨w.heap.size, 6, none⟩ = some (.int .u8 (x2 : Int)) ∧ w'.cell? ⟨w.heap.size, 7, none⟩ = some (.int .u8 (x3 : Int)) ∧ w'.cell? ⟨w.heap.size, 8, none⟩ = some (.int .u8 (x4 : Int)) ∧ w'.cell? ⟨w.heap.size, 9, none⟩ = some (.int .u8 (x5 : Int)) ∧ w'.cell? ⟨w.heap.size, 10, none⟩ = some (.int .u8 (x6 : Int)) ∧ w'.cell? ⟨w.heap.size, 11, none⟩ = some (.int .u8 (x7 : Int))) from fun u hu => (HRM.out u).mono fun _ _ h => ⟨h.1, by rw [← h.2]; exact hu⟩)
  have k0 := HS.out _ (Below.refl w1.heap.size w1).drew
  clear hbb
  go_region_held3 (fun u => (Below w1.heap.size w1 u ∧ u.cell? ⟨w.heap.size, 0, none⟩ = some (.bool e0) ∧ u.cell? ⟨w.heap.size, 1, none⟩ = some (.int .u32 (n0 : Int)) ∧ u.cell? ⟨w.heap.size, 2, none⟩ = some (.bool q0) ∧ u.cell? ⟨w.heap.size, 3, none⟩ = some (.int .i64 l0) ∧ u.cell? ⟨w.heap.size, 4, none⟩ = some (.int .u8 (x0 : Int)) ∧ u.cell? ⟨w.heap.size, 5, none⟩ = some (.int .u8 (x1 : Int)) ∧ u.cell? ⟨w.heap.size, 6, none⟩ = some (.int .u8 (x2 : Int)) ∧ u.cell? ⟨w.heap.size, 7, none⟩ = some (.int .u8 (x3 : Int)) ∧ u.cell? ⟨w.heap.size, 8, none⟩ = some (.int .u8 (x4 : Int)) ∧ u.cell? ⟨w.heap.size, 9, none⟩ = some (.int .u8 (x5 : Int)) ∧ u.cell? ⟨w.heap.size, 10, none⟩ = some (.int .u8 (x6 : Int)) ∧ u.cell? ⟨w.heap.size, 11, none⟩ = some (.int .u8 (x7 : Int)))) (first | (with_reducible assumption)) (first | (go_at_call 33; refine (CLV.out _ (by assumption)).mono ?_; rintro x w2 ⟨rfl, h2⟩) | (go_at_call 34; refine (CRE.out _ (by assumption)).mono ?_; rintro x w3 ⟨a', cap', rfl, hs3, h3⟩) | (go_at_call 20; refine (CBY.out _ _ _ (by assumption) (by assumption)).mono ?_; rintro x w4 ⟨rfl, h4⟩) | (go_at_call 35; refine (CLO.out _ (by assumption)).mono ?_; rintro x w5 ⟨rfl, h5⟩) | (go_at_call 36; refine (CMO.out _ (by assumption)).mono ?_; rintro x w6 ⟨rfl, h6⟩) | (go_at_call 37; refine (CRM.out _ (by assumption)).mono ?_; rintro x w7 ⟨rfl, h7⟩))
  have HBZ := Lib.hid (HB1.out.trans (h7.1.mono HB1.out.size))
  clear h2 h3 h4 h5 h6 h7 hs3 k0
  go_wp2_with fail
  go_ret
  exact ⟨rfl, HBZ.out⟩
theorem door_met (os : Os) (args : Array Value) : laidMetH Tryd.prog laidD ((World.doorLaid Tryd.prog 400 os).forCall (fun _ _ => 0) ⟨#[], args, []⟩).memory :=
  laidMetH_of_parts3 (fuel := 8) (laidMet_of_run' 8 (by kernel_rfl) (by kernel_rfl)) (by kernel_rfl) (by kernel_rfl)
set_option maxRecDepth 100000 in
theorem lifted (os : Os) (started : os.Started) (H : Type) (enc : TypeId × Value → H) :
    ReturnsInHanded {} Tryd.checked os 8 .any (fun w args => (Rows.wireWritesSpec.pre enc Tryd.prog Tryd.f8 [] false w args ∧ laidMetH Tryd.prog laidD w) ∧ sizedMet enc Tryd.prog Tryd.f8 (OpenSpec.ofChange Rows.wireWritesSpec) false w args)
      (Rows.wireWritesSpec.post enc Tryd.prog Tryd.f8 false true false false) := by
  refine returnsInHanded_of_change_and (C := Tryd.checked) (X := fun w _ => laidMetH Tryd.prog laidD w) (fun _ _ _ hh h => h.of_heap hh) own started (by kernel_rfl) Tryd.func8
    (ChangeSpec.witness_shaped (enc := enc) (C := Tryd.checked) (os := os) (X := fun w _ => laidMetH Tryd.prog laidD w) false (World.doorLaid Tryd.prog 400 os) #[.agg #[.bool false, .int .u32 0, .bool false, .int .i64 0, .int .u8 0, .int .u8 0, .int .u8 0, .int .u8 0, .int .u8 0, .int .u8 0, .int .u8 0, .int .u8 0]] 8 rfl (World.shaped_of_RefB (by kernel_rfl) (by kernel_rfl)) (by kernel_rfl) (by kernel_rfl) (by kernel_rfl) (door_met os _)) ?_
  intro W base args ds gs before hval0 hW _ _ hL _
  have hval : ∀ (j : Nat) t v, Tryd.f8.params[j]? = some t → args[j]? = some v → Value.okWide Tryd.prog W .any base t v := hval0
  have hW' := hW
  obtain ⟨p, q, hA0, hV, rfl, hfz, hnd⟩ := hW
  have hA : DataW.TrodAll enc Tryd.prog W 0 (fun _ => true) true Tryd.f8.params.toList args.toList ds p := hA0
  rw [Tryd.params8] at hA hval
  obtain ⟨v0, vs0, d0, ds0, p0, q0, hargs, rfl, rfl, h0, r0⟩ := trodAll_cons hA
  obtain ⟨rfl, rfl, rfl⟩ := trodAll_nil r0
  obtain rfl : args = #[v0] := by cases args; simp_all
  obtain ⟨rfl, rfl⟩ := trodVars_none hV
  have k0 := h0
  have lt0 : ∀ x ∈ p0, x.block < W.heap.size := by obtain ⟨m, hm⟩ := k0; exact DataW.trod_lt m _ _ _ hm
  obtain ⟨e0, n0, q0, l0, x0, rfl, w0⟩ := open_frame (hval 0 27 v0 rfl rfl) h0
  clear hA0 hval0
  obtain ⟨hTab, hsz0⟩ := tab_of_laid hL
  refine (walk e0 n0 q0 l0 x0 w0 W hsz0 hTab).mono fun e W' ⟨he, bel⟩ => ?_
  subst he
  exact ⟨_, rfl, _, _, _, [], _, [], hW', trodAll_mk1 (shut_bool Tryd.underlying4 _), (trodAll_cons_mk (Below.trod laidOut (by kernel_rfl) (of_decide_eq_true (by kernel_rfl)) k0 bel lt0) trodAll_mk0), rfl, bel.frame _, fun h => by cases h⟩
theorem over : Rows.wireWritesRow.holds Tryd.pinned (OpenSpec.ofChange Rows.wireWritesSpec) :=
  OpenClaim.holds_of_wide 8 Tryd.f8 rfl rfl rfl rfl rfl rfl rfl ⟨rfl, rfl, rfl, rfl, rfl⟩ rfl rfl rfl rfl rfl (by kernel_rfl) Tryd.func8 (by kernel_rfl)
    (of_decide_eq_true (by kernel_rfl)) (by unfold Func.isWrapper; first | (rw [if_pos (by decide +kernel)]; kernel_rfl) | (rw [if_neg (by decide +kernel)]; exact ⟨rfl, rfl⟩))
    (fun os started H enc _ => lifted os started H enc)
/-- The statement: the row, and what it lists tied to the program's text. -/
theorem proved : Rows.WireWritesCardSaid :=
  Claim7.holds_tied_plain_at .later [] [.data] true _ true
    over (fun _ h => by cases h) (by kernel_rfl) (fun _ h => by cases h) wireWrites_row_tie rfl ⟨rfl, rfl⟩ (by kernel_rfl) rfl
    (fun f fn hf hfn => by
      obtain rfl : f = 8 := Option.some.inj ((show Tryd.prog.funcNamed "bellbuoy/bellbuoylaw07.WireWrites" = some 8 by kernel_rfl).symm.trans hf) |>.symm
      obtain rfl : fn = Tryd.f8 := (Option.some.inj (Tryd.func8.symm.trans hfn)).symm
      exact ⟨by kernel_rfl, fun j t ht => by
        rw [Tryd.params8] at ht
        have hm : t ∈ [27] := by simpa using Array.mem_of_getElem? ht
        have hall : ([27].all fun u => !Tryd.prog.wantsStandIn u) = true := by kernel_rfl
        exact (show Tryd.prog.wantsStandIn t = false by simpa using List.all_eq_true.1 hall t hm)⟩)
    (by kernel_rfl)
end Go.Proofs.YtladgiohahhkjaaDoor.wireWrites
