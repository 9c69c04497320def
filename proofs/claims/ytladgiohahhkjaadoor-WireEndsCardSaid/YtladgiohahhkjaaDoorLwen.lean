/- The statement of P7.6 (WireEnds): with one of the ten bits behind the sum flipped it is refused, there; but for the slot's. Conditions: the divisor's cells hold what the program's own text lays in them (tied). -/
import Derived.Test.YtladgiohahhkjaaDoorRows
import Derived.Test.YtladgiohahhkjaaDoorOpe
import Derived.Test.YtladgiohahhkjaaDoorWrf
import Derived.Test.YtladgiohahhkjaaDoorBat
import Derived.WalkKit
import Derived.ProofKit
import Derived.OpenShut
import Derived.ShutString
import Derived.ChangeOld
import Derived.Below
namespace Go.Proofs.YtladgiohahhkjaaDoor.wireEnds
open Go.ChangeShapes Go.WideShapes Go.ChangeAt Go.RowKit
theorem own : ownKnob Tryd.prog.godebug = none := by kernel_rfl
theorem laidOut : laidOutB Tryd.prog = true := by kernel_rfl
/-- What is wrong, with no frame. -/
theorem dcV_bad {l : List Nat} {c p : Nat} {b : List Nat} (h : decB l = (c, p, b)) (hc : c ≠ 0) : dcV l = .tuple #[.agg #[.bool false, .int .u32 0, .bool false, .int .i64 0, .int .u8 0, .int .u8 0, .int .u8 0, .int .u8 0, .int .u8 0, .int .u8 0, .int .u8 0, .int .u8 0], .int .i64 (p : Nat), .int .i64 (c : Nat)] := by
  rw [dcV, h]
  show Value.tuple #[frOf (if c = 0 then parseB b else .error 0), .int .i64 (p : Nat), .int .i64 (c : Nat)] = _
  rw [if_neg hc]
  rfl
set_option maxRecDepth 100000 in
set_option maxHeartbeats 8000000 in
theorem walk (e0 : Bool) (n0 : Nat) (q0 : Bool) (l0 : Int) (x0 : List Nat) (a1 : Int) (w0 : n0 < 4294967296 ∧ x0.length = 8 ∧ ∀ y ∈ x0, y < 256) (w1 : (Lit.int .u8 a1).wf = true) (w : World) (h0 : 1 < w.heap.size) (hT : Tab w) :
    Calls Tryd.prog 12 #[frameV e0 n0 q0 l0 x0, .int .u8 a1] w fun e w' => e = .returned (.bool true) ∧ Below w.heap.size w w' := by
  obtain ⟨hn0, hx0, hb0⟩ := w0
  have hLV := fun u (hu : Below w.heap.size w u) => live7 u (Nat.lt_of_lt_of_le h0 hu.size) (hT.onB hu h0)
  have HLV := Lib.hid hLV
  clear hLV
  obtain ⟨ha1, ha2⟩ := wfu8 w1
  obtain ⟨b1, rfl⟩ : ∃ b1 : Nat, a1 = b1 := ⟨a1.toNat, by omega⟩
  have hb1 : b1 ≤ 255 := by omega
  clear w1 ha1 ha2
  by_cases hok : rightF e0 n0 q0 l0 x0 = 0
  ·
    obtain ⟨m, rfl⟩ : ∃ m : Nat, l0 = m := by
      by_cases hneg : l0 < 0
      · exfalso
        unfold rightF at hok
        split at hok
        · exact absurd hok (by decide)
        · rw [if_pos (.inl hneg)] at hok; exact absurd hok (by decide)
      · exact ⟨l0.toNat, by omega⟩
    obtain ⟨x0, x1, x2, x3, x4, x5, x6, x7, rfl⟩ := eight hx0
    obtain ⟨hri, hm8, _⟩ := rightF_data hok
    obtain ⟨hL1, hL2, hL3⟩ := enc_long hok
    have hself : bitsOf (encB e0 n0 q0 m [x0, x1, x2, x3, x4, x5, x6, x7]) = encB e0 n0 q0 m [x0, x1, x2, x3, x4, x5, x6, x7] := bitsOf_self (enc_bits _ _ _ _ _)
    obtain ⟨L, hL⟩ : ∃ L, L = (encB e0 n0 q0 m [x0, x1, x2, x3, x4, x5, x6, x7]).length := ⟨_, rfl⟩
    have HLE := Lib.hid hL
    rw [← hL] at hL1 hL2
    have HRE := Lib.hid (show ∀ u, Calls Tryd.prog 34 #[.agg #[.bool e0, .int .u32 (n0 : Int), .bool q0, .int .i64 (m : Int), .int .u8 (x0 : Int), .int .u8 (x1 : Int), .int .u8 (x2 : Int), .int .u8 (x3 : Int), .int .u8 (x4 : Int), .int .u8 (x5 : Int), .int .u8 (x6 : Int), .int .u8 (x7 : Int)]] u fun x w' => ∃ a cap, x = .returned (.slice a L cap) ∧ Str w'.heap.size w' (.slice a L cap) (encB e0 n0 q0 m [x0, x1, x2, x3, x4, x5, x6, x7]) ∧ Below u.heap.size u w' from fun u => (refEnc_yes e0 n0 hn0 q0 m [x0, x1, x2, x3, x4, x5, x6, x7] rfl hb0 hok u).mono fun x w' h => by
      obtain ⟨v, rfl, ho, hb⟩ := h
      obtain ⟨a, cap, rfl⟩ := ho.shape
      rw [hL]
      exact ⟨a, cap, rfl, ho.str, hb⟩)
    obtain ⟨k, hk⟩ : ∃ k, k = b1 % 10 := ⟨_, rfl⟩
    have hk10 : k < 10 := by omega
    have e1 : Int.tmod (b1 : Int) 10 = (k : Int) := by rw [Int.tmod_eq_emod_of_nonneg (by omega), hk]; omega
    obtain ⟨p, hp⟩ : ∃ p, p = L - 10 + k := ⟨_, rfl⟩
    have hstl : (stuffB (bodyB e0 n0 q0 m [x0, x1, x2, x3, x4, x5, x6, x7])).length = L - 10 := by rw [hL, encB_length]; omega
    obtain ⟨s, hs⟩ : ∃ s, s = L - 10 := ⟨_, rfl⟩
    have e2 : (L : Int) - 10 = (s : Int) := by omega
    have e3 : IntKind.i64.wrap (s : Int) = (s : Int) := by rw [IntKind.wrap_i64]; omega
    have e4 : (s : Int) + (k : Int) = (p : Int) := by omega
    have e5 : IntKind.i64.wrap (p : Int) = (p : Int) := by rw [IntKind.wrap_i64]; omega
    have hflip : flipB (encB e0 n0 q0 m [x0, x1, x2, x3, x4, x5, x6, x7]) (p : Int) = (stuffB (bodyB e0 n0 q0 m [x0, x1, x2, x3, x4, x5, x6, x7]) ++ (List.replicate 10 1).set k 0) := by
      unfold flipB
      rw [if_pos ⟨by omega, by omega⟩, hself]
      have hb : bitAt (encB e0 n0 q0 m [x0, x1, x2, x3, x4, x5, x6, x7]) (p : Int).toNat = 1 := by
        have h1 : (encB e0 n0 q0 m [x0, x1, x2, x3, x4, x5, x6, x7])[p]?.getD 0 = 1 := by
          unfold encB
          rw [List.getElem?_append_right (by omega), List.getElem?_replicate, if_pos (by omega)]
          rfl
        have h2 : (p : Int).toNat = p := by omega
        rw [h2]
        show bitN ((encB e0 n0 q0 m [x0, x1, x2, x3, x4, x5, x6, x7])[p]?.getD 0) = 1
        rw [h1]; rfl
      rw [hb, show (p : Int).toNat = p by omega]
      unfold encB
      rw [List.set_append_right _ _ (by omega), show p - (stuffB (bodyB e0 n0 q0 m [x0, x1, x2, x3, x4, x5, x6, x7])).length = k by omega]
    have hbitx : ∀ y ∈ (stuffB (bodyB e0 n0 q0 m [x0, x1, x2, x3, x4, x5, x6, x7]) ++ (List.replicate 10 1).set k 0), y ≤ 1 := fun y hy => by
      rcases List.mem_append.mp hy with h1 | h1
      · exact stuff_le _ (bodyB_le _ _ _ _ _) y h1
      · rcases List.mem_or_eq_of_mem_set h1 with h2 | h2
        · rw [List.eq_of_mem_replicate h2]; exact Nat.le_refl _
        · rw [h2]; omega
    have hlx : (stuffB (bodyB e0 n0 q0 m [x0, x1, x2, x3, x4, x5, x6, x7]) ++ (List.replicate 10 1).set k 0).length = L := by rw [List.length_append, hstl]; simp; omega
    have HFL := Lib.hid (show ∀ u a c, Str u.heap.size u (.slice a L c) (encB e0 n0 q0 m [x0, x1, x2, x3, x4, x5, x6, x7]) → Calls Tryd.prog 31 #[.slice a L c, .int .i64 (p : Int)] u fun x w' => ∃ a' c', x = .returned (.slice a' L c') ∧ Str w'.heap.size w' (.slice a' L c') (stuffB (bodyB e0 n0 q0 m [x0, x1, x2, x3, x4, x5, x6, x7]) ++ (List.replicate 10 1).set k 0) ∧ Below u.heap.size u w' from fun u a c hs => (refFlip_any a L c _ (p : Int) (by omega) u hs).mono fun x w' h => by
      obtain ⟨v, rfl, ho, hb⟩ := h
      rw [hflip] at ho
      obtain ⟨a', c', rfl⟩ := ho.shape
      rw [← hlx]
      exact ⟨a', c', rfl, ho.str, hb⟩)
    have i0 : ((L : Int) == 0) = false := by rw [beq_eq_false_iff_ne]; omega
    have i4 : IntKind.i64.wrap (b1 : Int) = (b1 : Int) := by rw [IntKind.wrap_i64]; omega
    have HFA := Lib.hid (FrameAt.new w 27 e0 n0 q0 (m : Int) [x0, x1, x2, x3, x4, x5, x6, x7] rfl)
    simp only [frameC, List.map] at HFA
    simp only [frameV, frameC, List.map]
    by_cases hk1 : k = 1
    · have hdv : dcV (bitsOf (stuffB (bodyB e0 n0 q0 m [x0, x1, x2, x3, x4, x5, x6, x7]) ++ (List.replicate 10 1).set k 0)) = .tuple #[.agg #[.bool e0, .int .u32 (n0 : Int), .bool q0, .int .i64 (m : Int), .int .u8 (x0 : Int), .int .u8 (x1 : Int), .int .u8 (x2 : Int), .int .u8 (x3 : Int), .int .u8 (x4 : Int), .int .u8 (x5 : Int), .int .u8 (x6 : Int), .int .u8 (x7 : Int)], .int .i64 (L : Int), .int .i64 0] := by
        rw [bitsOf_self hbitx, hk1]
        have := dcV_back (x := 0) (q := []) hok rfl hb0
        rw [← hL] at this
        exact this
      have HDE := Lib.hid (show ∀ u, Below w.heap.size w u → ∀ a c, Str u.heap.size u (.slice a L c) (stuffB (bodyB e0 n0 q0 m [x0, x1, x2, x3, x4, x5, x6, x7]) ++ (List.replicate 10 1).set k 0) → Calls Tryd.prog 38 #[.slice a L c] u fun x w' => x = .returned (.tuple #[.agg #[.bool e0, .int .u32 (n0 : Int), .bool q0, .int .i64 (m : Int), .int .u8 (x0 : Int), .int .u8 (x1 : Int), .int .u8 (x2 : Int), .int .u8 (x3 : Int), .int .u8 (x4 : Int), .int .u8 (x5 : Int), .int .u8 (x6 : Int), .int .u8 (x7 : Int)], .int .i64 (L : Int), .int .i64 0]) ∧ Below u.heap.size u w' from fun u hu a c hs => (decode_any a L c _ (by omega) u (Nat.lt_of_lt_of_le h0 hu.size) (hT.onB hu h0) hs).mono fun x w' h => by
        rw [hdv] at h
        exact h)
      have heq : ∀ u : World, Sem.run Tryd.prog (Op.equalIn 9999 25 (.agg #[.int .u8 (x0 : Int), .int .u8 (x1 : Int), .int .u8 (x2 : Int), .int .u8 (x3 : Int), .int .u8 (x4 : Int), .int .u8 (x5 : Int), .int .u8 (x6 : Int), .int .u8 (x7 : Int)]) (.agg #[.int .u8 (x0 : Int), .int .u8 (x1 : Int), .int .u8 (x2 : Int), .int .u8 (x3 : Int), .int .u8 (x4 : Int), .int .u8 (x5 : Int), .int .u8 (x6 : Int), .int .u8 (x7 : Int)])) u = .ok true u := fun u => frame_same 9997 x0 x1 x2 x3 x4 x5 x6 x7 u
      have i5 : ((k : Int) == 1) = true := by rw [hk1]; rfl
      clear hdv hk1
      clear hk hL hri hm8 hself hok hx0 hb0 hn0 h0 hT hL3 hflip hbitx hlx hstl hp hs
      go_enter Tryd.func12, Tryd.ntmps12
      go_wp2_with fail
      refine (HRE.out _).mono ?_
      rintro x w1 ⟨a, cap, rfl, hs1, hb⟩
      have HB1 := Lib.hid (below_trans' ((Below.refl _ w).alloc (Nat.le_refl _) _) hb)
      have HF1 := Lib.hid (FrameAt.keep HFA.out hb (by simp))
      have lt1 : w.heap.size < w1.heap.size := by have := hb.size; simp at this; omega
      have HS1 := Lib.hid hs1
      clear hb hs1
      go_wp2_with fail
      refine (HFL.out _ _ _ HS1.out).mono ?_
      rintro x w2 ⟨a', c', rfl, hs2, hb⟩
      have HB2 := Lib.hid (below_trans' HB1.out hb)
      have HF2 := Lib.hid (HF1.out.keep hb lt1)
      have lt2 : w.heap.size < w2.heap.size := by have := hb.size; omega
      have HS2 := Lib.hid hs2
      clear hb hs2
      go_wp2_with fail
      refine (HDE.out _ HB2.out _ _ HS2.out).mono ?_
      rintro x w6 ⟨rfl, hb6⟩
      have HB6 := Lib.hid (below_trans' HB2.out hb6)
      have hb6s := hb6.size
      obtain ⟨w7, hw7⟩ : ∃ w7, w7 = w6.alloc (.cells #[.bool e0, .int .u32 (n0 : Int), .bool q0, .int .i64 (m : Int), .int .u8 (x0 : Int), .int .u8 (x1 : Int), .int .u8 (x2 : Int), .int .u8 (x3 : Int), .int .u8 (x4 : Int), .int .u8 (x5 : Int), .int .u8 (x6 : Int), .int .u8 (x7 : Int)] 27) := ⟨_, rfl⟩
      have HF7 := Lib.hid (show FrameAt w7 w.heap.size e0 n0 q0 (m : Int) [x0, x1, x2, x3, x4, x5, x6, x7] by rw [hw7]; exact (HF2.out.keep hb6 lt2).more (by omega) _)
      have HG7 := Lib.hid (show FrameAt w7 w6.heap.size e0 n0 q0 (m : Int) [x0, x1, x2, x3, x4, x5, x6, x7] by rw [hw7]; exact FrameAt.new w6 27 e0 n0 q0 (m : Int) [x0, x1, x2, x3, x4, x5, x6, x7] rfl)
      have HB7 := Lib.hid (show Below w.heap.size w w7 by rw [hw7]; exact HB6.out.alloc HB6.out.size _)
      have hn7 : w.heap.size < w7.heap.size ∧ w6.heap.size < w7.heap.size := by rw [hw7]; simp; omega
      clear hb6 hb6s
      go_wp2_with fail
      rw [← hw7]
      clear hw7
      refine (HLV.out _ HB7.out).mono ?_
      rintro x wz ⟨rfl, hbz⟩
      have HBZ := Lib.hid (below_trans' HB7.out hbz)
      obtain ⟨c0, c1, c2, c3, c4, c5, c6, c7, c8, c9, c10, c11⟩ := (HF7.out.keep hbz hn7.1).cells
      obtain ⟨k0, k1, k2, k3, k4, k5, k6, k7, k8, k9, k10, k11⟩ := (HG7.out.keep hbz hn7.2).cells
      clear hbz hn7
      go_wp2_with fail
      go_ret
      exact ⟨rfl, HBZ.out⟩
    · have hdv : dcV (bitsOf (stuffB (bodyB e0 n0 q0 m [x0, x1, x2, x3, x4, x5, x6, x7]) ++ (List.replicate 10 1).set k 0)) = .tuple #[.agg #[.bool false, .int .u32 0, .bool false, .int .i64 0, .int .u8 0, .int .u8 0, .int .u8 0, .int .u8 0, .int .u8 0, .int .u8 0, .int .u8 0, .int .u8 0], .int .i64 (p : Int), .int .i64 3] := by
        rw [bitsOf_self hbitx]
        have := dec_flip (r := q0) (data := [x0, x1, x2, x3, x4, x5, x6, x7]) hri hm8 k hk10 hk1
        rw [hstl, ← hp] at this
        exact dcV_bad this (by decide)
      have HDE := Lib.hid (show ∀ u, Below w.heap.size w u → ∀ a c, Str u.heap.size u (.slice a L c) (stuffB (bodyB e0 n0 q0 m [x0, x1, x2, x3, x4, x5, x6, x7]) ++ (List.replicate 10 1).set k 0) → Calls Tryd.prog 38 #[.slice a L c] u fun x w' => x = .returned (.tuple #[.agg #[.bool false, .int .u32 0, .bool false, .int .i64 0, .int .u8 0, .int .u8 0, .int .u8 0, .int .u8 0, .int .u8 0, .int .u8 0, .int .u8 0, .int .u8 0], .int .i64 (p : Int), .int .i64 3]) ∧ Below u.heap.size u w' from fun u hu a c hs => (decode_any a L c _ (by omega) u (Nat.lt_of_lt_of_le h0 hu.size) (hT.onB hu h0) hs).mono fun x w' h => by
        rw [hdv] at h
        exact h)
      have heq0 : ∀ u : World, Sem.run Tryd.prog (Op.equalIn 9999 25 (.agg #[.int .u8 0, .int .u8 0, .int .u8 0, .int .u8 0, .int .u8 0, .int .u8 0, .int .u8 0, .int .u8 0]) (.agg #[.int .u8 0, .int .u8 0, .int .u8 0, .int .u8 0, .int .u8 0, .int .u8 0, .int .u8 0, .int .u8 0])) u = .ok true u := fun u => frame_same 9997 0 0 0 0 0 0 0 0 u
      have i5 : ((k : Int) == 1) = false := by rw [beq_eq_false_iff_ne]; omega
      clear hdv hk1
      clear hk hL hri hm8 hself hok hx0 hb0 hn0 h0 hT hL3 hflip hbitx hlx hstl hp hs
      go_enter Tryd.func12, Tryd.ntmps12
      go_wp2_with fail
      refine (HRE.out _).mono ?_
      rintro x w1 ⟨a, cap, rfl, hs1, hb⟩
      have HB1 := Lib.hid (below_trans' ((Below.refl _ w).alloc (Nat.le_refl _) _) hb)
      have HF1 := Lib.hid (FrameAt.keep HFA.out hb (by simp))
      have lt1 : w.heap.size < w1.heap.size := by have := hb.size; simp at this; omega
      have HS1 := Lib.hid hs1
      clear hb hs1
      go_wp2_with fail
      refine (HFL.out _ _ _ HS1.out).mono ?_
      rintro x w2 ⟨a', c', rfl, hs2, hb⟩
      have HB2 := Lib.hid (below_trans' HB1.out hb)
      have HF2 := Lib.hid (HF1.out.keep hb lt1)
      have lt2 : w.heap.size < w2.heap.size := by have := hb.size; omega
      have HS2 := Lib.hid hs2
      clear hb hs2
      go_wp2_with fail
      refine (HDE.out _ HB2.out _ _ HS2.out).mono ?_
      rintro x w6 ⟨rfl, hb6⟩
      have HB6 := Lib.hid (below_trans' HB2.out hb6)
      obtain ⟨w7, hw7⟩ : ∃ w7, w7 = w6.alloc (.cells #[.bool false, .int .u32 0, .bool false, .int .i64 0, .int .u8 0, .int .u8 0, .int .u8 0, .int .u8 0, .int .u8 0, .int .u8 0, .int .u8 0, .int .u8 0] 27) := ⟨_, rfl⟩
      have HG7 := Lib.hid (show FrameAt w7 w6.heap.size false 0 false 0 [0, 0, 0, 0, 0, 0, 0, 0] by rw [hw7]; exact FrameAt.new w6 27 false 0 false 0 [0, 0, 0, 0, 0, 0, 0, 0] rfl)
      have HB7 := Lib.hid (show Below w.heap.size w w7 by rw [hw7]; exact HB6.out.alloc HB6.out.size _)
      have hn7 : w6.heap.size < w7.heap.size := by rw [hw7]; simp
      clear hb6
      go_wp2_with fail
      rw [← hw7]
      clear hw7
      refine (HLV.out _ HB7.out).mono ?_
      rintro x wz ⟨rfl, hbz⟩
      have HBZ := Lib.hid (below_trans' HB7.out hbz)
      obtain ⟨c0, c1, c2, c3, c4, c5, c6, c7, c8, c9, c10, c11⟩ := (HG7.out.keep hbz hn7).cells
      clear hbz hn7
      go_wp2_with fail
      go_ret
      exact ⟨rfl, HBZ.out⟩
  ·
    have HRN := Lib.hid (fun u => refEnc_no e0 n0 q0 l0 x0 hx0 hok u)
    obtain ⟨x0, x1, x2, x3, x4, x5, x6, x7, rfl⟩ := eight hx0
    simp only [frameV, frameC, List.map] at HRN ⊢
    clear hok hx0 hb0 hn0 h0 hT
    go_enter Tryd.func12, Tryd.ntmps12
    go_wp2_with fail
    refine (HRN.out _).mono ?_
    rintro x wa ⟨rfl, hb⟩
    have HBa := Lib.hid (below_trans' ((Below.refl _ w).alloc (Nat.le_refl _) _) hb)
    clear hb
    go_wp2_with fail
    refine (HLV.out _ HBa.out).mono ?_
    rintro x wd ⟨rfl, hb⟩
    have HBd := Lib.hid (below_trans' HBa.out hb)
    clear hb
    go_wp2_with fail
    go_ret
    exact ⟨rfl, HBd.out⟩
theorem door_met (os : Os) (args : Array Value) : laidMetH Tryd.prog laidD ((World.doorLaid Tryd.prog 400 os).forCall (fun _ _ => 0) ⟨#[], args, []⟩).memory :=
  laidMetH_of_parts3 (fuel := 8) (laidMet_of_run' 8 (by kernel_rfl) (by kernel_rfl)) (by kernel_rfl) (by kernel_rfl)
set_option maxRecDepth 100000 in
theorem lifted (os : Os) (started : os.Started) (H : Type) (enc : TypeId × Value → H) :
    ReturnsInHanded {} Tryd.checked os 12 .any (fun w args => (Rows.wireEndsSpec.pre enc Tryd.prog Tryd.f12 [] false w args ∧ laidMetH Tryd.prog laidD w) ∧ sizedMet enc Tryd.prog Tryd.f12 (OpenSpec.ofChange Rows.wireEndsSpec) false w args)
      (Rows.wireEndsSpec.post enc Tryd.prog Tryd.f12 false true false false) := by
  refine returnsInHanded_of_change_and (C := Tryd.checked) (X := fun w _ => laidMetH Tryd.prog laidD w) (fun _ _ _ hh h => h.of_heap hh) own started (by kernel_rfl) Tryd.func12
    (ChangeSpec.witness_shaped (enc := enc) (C := Tryd.checked) (os := os) (X := fun w _ => laidMetH Tryd.prog laidD w) false (World.doorLaid Tryd.prog 400 os) #[.agg #[.bool false, .int .u32 0, .bool false, .int .i64 0, .int .u8 0, .int .u8 0, .int .u8 0, .int .u8 0, .int .u8 0, .int .u8 0, .int .u8 0, .int .u8 0], .int .u8 0] 8 rfl (World.shaped_of_RefB (by kernel_rfl) (by kernel_rfl)) (by kernel_rfl) (by kernel_rfl) (by kernel_rfl) (door_met os _)) ?_
  intro W base args ds gs before hval0 hW _ _ hL _
  have hval : ∀ (j : Nat) t v, Tryd.f12.params[j]? = some t → args[j]? = some v → Value.okWide Tryd.prog W .any base t v := hval0
  have hW' := hW
  obtain ⟨p, q, hA0, hV, rfl, hfz, hnd⟩ := hW
  have hA : DataW.TrodAll enc Tryd.prog W 0 (fun _ => true) true Tryd.f12.params.toList args.toList ds p := hA0
  rw [Tryd.params12] at hA hval
  obtain ⟨v0, vs0, d0, ds0, p0, q0, hargs, rfl, rfl, h0, r0⟩ := trodAll_cons hA
  obtain ⟨v1, vs1, d1, ds1, p1, q1, rfl, rfl, rfl, h1, r1⟩ := trodAll_cons r0
  obtain ⟨rfl, rfl, rfl⟩ := trodAll_nil r1
  obtain rfl : args = #[v0, v1] := by cases args; simp_all
  obtain ⟨rfl, rfl⟩ := trodVars_none hV
  have k0 := h0
  have lt0 : ∀ x ∈ p0, x.block < W.heap.size := by obtain ⟨m, hm⟩ := k0; exact DataW.trod_lt m _ _ _ hm
  obtain ⟨e0, n0, q0, l0, x0, rfl, w0⟩ := open_frame (hval 0 27 v0 rfl rfl) h0
  obtain ⟨a1, rfl, rfl, rfl, w1⟩ := open_int Tryd.underlying5 (hval 1 5 v1 rfl rfl) h1
  clear hA0 hval0
  obtain ⟨hTab, hsz0⟩ := tab_of_laid hL
  refine (walk e0 n0 q0 l0 x0 a1 w0 w1 W hsz0 hTab).mono fun e W' ⟨he, bel⟩ => ?_
  subst he
  exact ⟨_, rfl, _, _, _, [], _, [], hW', trodAll_mk1 (shut_bool Tryd.underlying4 _), (trodAll_cons_mk (Below.trod laidOut (by kernel_rfl) (of_decide_eq_true (by kernel_rfl)) k0 bel lt0) (trodAll_cons_mk (shut_int Tryd.underlying5 w1) trodAll_mk0)), rfl, bel.frame _, fun h => by cases h⟩
theorem over : Rows.wireEndsRow.holds Tryd.pinned (OpenSpec.ofChange Rows.wireEndsSpec) :=
  OpenClaim.holds_of_wide 12 Tryd.f12 rfl rfl rfl rfl rfl rfl rfl ⟨rfl, rfl, rfl, rfl, rfl⟩ rfl rfl rfl rfl rfl (by kernel_rfl) Tryd.func12 (by kernel_rfl)
    (of_decide_eq_true (by kernel_rfl)) (by unfold Func.isWrapper; first | (rw [if_pos (by decide +kernel)]; kernel_rfl) | (rw [if_neg (by decide +kernel)]; exact ⟨rfl, rfl⟩))
    (fun os started H enc _ => lifted os started H enc)
/-- The statement: the row, and what it lists tied to the program's text. -/
theorem proved : Rows.WireEndsCardSaid :=
  Claim7.holds_tied_plain_at .later [] [.data] true _ true
    over (fun _ h => by cases h) (by kernel_rfl) (fun _ h => by cases h) wireEnds_row_tie rfl ⟨rfl, rfl⟩ (by kernel_rfl) rfl
    (fun f fn hf hfn => by
      obtain rfl : f = 12 := Option.some.inj ((show Tryd.prog.funcNamed "bellbuoy/bellbuoylaw07.WireEnds" = some 12 by kernel_rfl).symm.trans hf) |>.symm
      obtain rfl : fn = Tryd.f12 := (Option.some.inj (Tryd.func12.symm.trans hfn)).symm
      exact ⟨by kernel_rfl, fun j t ht => by
        rw [Tryd.params12] at ht
        have hm : t ∈ [27, 5] := by simpa using Array.mem_of_getElem? ht
        have hall : ([27, 5].all fun u => !Tryd.prog.wantsStandIn u) = true := by kernel_rfl
        exact (show Tryd.prog.wantsStandIn t = false by simpa using List.all_eq_true.1 hall t hm)⟩)
    (by kernel_rfl)
end Go.Proofs.YtladgiohahhkjaaDoor.wireEnds
