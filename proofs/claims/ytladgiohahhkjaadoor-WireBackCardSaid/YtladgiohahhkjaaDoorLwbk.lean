/- The statement of P7.3 and P7.4 (WireBack): a frame that is on the wire is read as it is, whether it is answered or not, whatever stands behind. Conditions: the divisor's cells hold what the program's own text lays in them (tied). -/
import Derived.Test.YtladgiohahhkjaaDoorRows
import Derived.Test.YtladgiohahhkjaaDoorOpe
import Derived.Test.YtladgiohahhkjaaDoorWrl
import Derived.Laws.AppendOwnNone
import Derived.Test.YtladgiohahhkjaaDoorBat
import Derived.WalkKit
import Derived.ProofKit
import Derived.OpenShut
import Derived.ShutString
import Derived.ChangeOld
import Derived.Below
namespace Go.Proofs.YtladgiohahhkjaaDoor.wireBack
open Go.ChangeShapes Go.WideShapes Go.ChangeAt Go.RowKit
theorem own : ownKnob Tryd.prog.godebug = none := by kernel_rfl
theorem laidOut : laidOutB Tryd.prog = true := by kernel_rfl
/-- The first two hundred of what comes, as a slice: nothing at all, or a row that holds it. -/
theorem few_two (a : Option Addr) (len cap : Nat) (z : List Int) (w : World) (h : IsRow w a len cap z) : ∃ (bs : List Nat) (a' : Option Addr) (q c' : Nat), bs.length = q ∧ q ≤ 200 ∧ (∀ u, Below w.heap.size w u → Calls Tryd.prog 25 #[.slice a len cap] u fun x w' => x = .returned (.slice a' q c') ∧ u = w') ∧ ((a' = none ∧ q = 0 ∧ c' = 0) ∨ ∃ ad, a' = some ad ∧ ∀ u, Below w.heap.size w u → ∀ (j : Nat) (v : Value), (bs.map (fun n : Nat => Value.int .u8 ((n : Nat) : Int)))[j]? = some v → u.cell? (Addr.add ad j) = some v) := by
  obtain ⟨bs, _, hI⟩ := isRow_str h
  have hlc := hI.lenCap
  by_cases hl : len = 0
  · subst hl
    have hc : a = none ∧ cap = 0 ∨ ∃ ad, a = some ad := by
      rcases h with ⟨rfl, _, rfl, _⟩ | ⟨x, rfl, _⟩
      · exact .inl ⟨rfl, rfl⟩
      · exact .inr ⟨x, rfl⟩
    refine ⟨[], a, 0, cap, rfl, by omega, fun u _ => ?_, ?_⟩
    · go_enter Tryd.func25, Tryd.ntmps25
      go_wp2
      go_ret
      exact ⟨rfl, rfl⟩
    · rcases hc with ⟨rfl, rfl⟩ | ⟨ad, rfl⟩
      · exact .inl ⟨rfl, rfl, rfl⟩
      · exact .inr ⟨ad, rfl, fun u _ j v hj => by simp at hj⟩
  · obtain ⟨bk, off, rfl, hbk, _⟩ := hI.at (k := 0) (by omega)
    have hlen := hI.len
    have hcell : ∀ u, Below w.heap.size w u → ∀ q, q ≤ len → ∀ (j : Nat) (v : Value), ((bs.take q).map (fun n : Nat => Value.int .u8 ((n : Nat) : Int)))[j]? = some v → u.cell? (Addr.add ⟨bk, off, none⟩ j) = some v := fun u hu q hq j v hj => by
      have hjq : j < (bs.take q).length := by
        by_cases hh : j < (bs.take q).length
        · exact hh
        · rw [List.getElem?_eq_none (by rw [List.length_map]; omega)] at hj; exact absurd hj (by simp)
      rw [List.length_take] at hjq
      obtain ⟨b2, o2, he, _, hc⟩ := hI.at (k := j) (by omega)
      injection he with he
      injection he with he1 he2 _
      subst he1 he2
      rw [add_off, hc u hu]
      rw [List.getElem?_map, List.getElem?_take_of_lt (by omega)] at hj
      rw [List.getElem?_eq_getElem (by omega)] at hj ⊢
      exact hj
    by_cases h200 : 200 < len
    · refine ⟨bs.take 200, some ⟨bk, off, none⟩, 200, cap, by rw [List.length_take]; omega, by omega, fun u hu => ?_, .inr ⟨_, rfl, fun u hu => hcell u hu 200 (by omega)⟩⟩
      have i1 : (200 : Int) < (len : Int) := by omega
      have i2 : (200 : Int) ≤ (cap : Int) := by omega
      clear hcell hlen hI h
      go_enter Tryd.func25, Tryd.ntmps25
      go_wp2
      go_ret
      exact ⟨rfl, rfl⟩
    · refine ⟨bs.take len, some ⟨bk, off, none⟩, len, cap, by rw [List.length_take]; omega, by omega, fun u hu => ?_, .inr ⟨_, rfl, fun u hu => hcell u hu len (by omega)⟩⟩
      have i1 : ¬ (200 : Int) < (len : Int) := by omega
      clear hcell hlen hI h
      go_enter Tryd.func25, Tryd.ntmps25
      go_wp2
      go_ret
      exact ⟨rfl, rfl⟩
/-- The slot of a frame on the wire has a place of its own. -/
theorem enc_slot (e : Bool) (n : Nat) (r : Bool) (m : Nat) (data : List Nat) (x : Nat) : (encB e n r m data).set ((encB e n r m data).length - 9) x = stuffB (bodyB e n r m data) ++ (1 :: x :: 1 :: 1 :: 1 :: 1 :: 1 :: 1 :: 1 :: 1 :: []) := by
  rw [encB_length, show (stuffB (bodyB e n r m data)).length + 10 - 9 = (stuffB (bodyB e n r m data)).length + 1 by omega]
  unfold encB
  rw [List.set_append_right _ _ (by omega), show (stuffB (bodyB e n r m data)).length + 1 - (stuffB (bodyB e n r m data)).length = 1 by omega]
  rfl
set_option maxRecDepth 100000 in
set_option maxHeartbeats 8000000 in
theorem walk (e0 : Bool) (n0 : Nat) (q0 : Bool) (l0 : Int) (x0 : List Nat) (a1 : Bool) (a2 : Option Addr) (len2 cap2 : Nat) (z2 : List Int) (w : World) (w0 : n0 < 4294967296 ∧ x0.length = 8 ∧ ∀ y ∈ x0, y < 256) (w2 : IsRow w a2 len2 cap2 z2) (h0 : 1 < w.heap.size) (hT : Tab w) :
    Calls Tryd.prog 10 #[frameV e0 n0 q0 l0 x0, .bool a1, .slice a2 len2 cap2] w fun e w' => e = .returned (.bool true) ∧ Below w.heap.size w w' := by
  obtain ⟨hn0, hx0, hb0⟩ := w0
  obtain ⟨xs, a', q, c', hxq, hq, hfew, hsrc⟩ := few_two a2 len2 cap2 z2 w w2
  have hRI := fun u => ref6Right_any e0 n0 q0 l0 x0 hx0 u
  have hLV := fun u (hu : Below w.heap.size w u) => live7 u (Nat.lt_of_lt_of_le h0 hu.size) (hT.onB hu h0)
  have HFW := Lib.hid hfew; have HSR := Lib.hid hsrc; have HXQ := Lib.hid hxq; have HLV := Lib.hid hLV
  clear hfew hsrc hxq hLV w2
  by_cases hok : rightF e0 n0 q0 l0 x0 = 0
  · obtain ⟨m, rfl⟩ : ∃ m : Nat, l0 = m := by
      by_cases hneg : l0 < 0
      · exfalso
        unfold rightF at hok
        split at hok
        · exact absurd hok (by decide)
        · rw [if_pos (.inl hneg)] at hok; exact absurd hok (by decide)
      · exact ⟨l0.toNat, by omega⟩
    obtain ⟨x0, x1, x2, x3, x4, x5, x6, x7, rfl⟩ := eight hx0
    obtain ⟨hL1, hL2, hL3⟩ := enc_long hok
    have hself : bitsOf (encB e0 n0 q0 m [x0, x1, x2, x3, x4, x5, x6, x7]) = encB e0 n0 q0 m [x0, x1, x2, x3, x4, x5, x6, x7] := bitsOf_self (enc_bits _ _ _ _ _)
    have hEN := fun u (hu : Below w.heap.size w u) => encode_yes e0 n0 hn0 q0 m [x0, x1, x2, x3, x4, x5, x6, x7] rfl hb0 hok u (Nat.lt_of_lt_of_le h0 hu.size) (hT.onB hu h0)
    obtain ⟨L, hL⟩ : ∃ L, L = (encB e0 n0 q0 m [x0, x1, x2, x3, x4, x5, x6, x7]).length := ⟨_, rfl⟩
    have HLE := Lib.hid hL
    have HEN := Lib.hid (show ∀ u, Below w.heap.size w u → Calls Tryd.prog 32 #[.agg #[.bool e0, .int .u32 (n0 : Int), .bool q0, .int .i64 (m : Int), .int .u8 (x0 : Int), .int .u8 (x1 : Int), .int .u8 (x2 : Int), .int .u8 (x3 : Int), .int .u8 (x4 : Int), .int .u8 (x5 : Int), .int .u8 (x6 : Int), .int .u8 (x7 : Int)]] u fun x w' => ∃ a cap, x = .returned (.slice a L cap) ∧ Str w'.heap.size w' (.slice a L cap) (encB e0 n0 q0 m [x0, x1, x2, x3, x4, x5, x6, x7]) ∧ Below u.heap.size u w' from fun u hu => (hEN u hu).mono fun x w' h => by
      obtain ⟨v, rfl, ho, hb⟩ := h
      obtain ⟨a, cap, rfl⟩ := ho.shape
      rw [hL]
      exact ⟨a, cap, rfl, ho.str, hb⟩)
    obtain ⟨M, hM⟩ : ∃ M, M = mostF e0 (m : Int) := ⟨_, rfl⟩
    have HMO := Lib.hid (show ∀ u, Below w.heap.size w u → Calls Tryd.prog 36 #[.bool e0, .int .i64 (m : Int)] u fun x w' => x = .returned (.int .i64 M) ∧ Below u.heap.size u w' from fun u hu => by rw [hM]; exact most_any7 e0 (m : Int) u (Nat.lt_of_lt_of_le h0 hu.size) (hT.onB hu h0))
    rw [← hL] at hL1 hL2 hL3
    rw [← hM] at hL3
    rw [hok] at hRI
    have HRI := Lib.hid hRI
    have HOK := Lib.hid hok; have HDB := Lib.hid hb0; have HG0 := Lib.hid h0; have HTT := Lib.hid hT; have HSE := Lib.hid hself
    have HFA := Lib.hid (FrameAt.new w 27 e0 n0 q0 (m : Int) [x0, x1, x2, x3, x4, x5, x6, x7] rfl)
    simp only [frameV, frameC, List.map] at HRI HFA ⊢
    have i1 : ¬ (L : Int) < 44 := by omega
    have i2 : ¬ M < (L : Int) := by omega
    have heq : ∀ u : World, Sem.run Tryd.prog (Op.equalIn 9999 25 (.agg #[.int .u8 (x0 : Int), .int .u8 (x1 : Int), .int .u8 (x2 : Int), .int .u8 (x3 : Int), .int .u8 (x4 : Int), .int .u8 (x5 : Int), .int .u8 (x6 : Int), .int .u8 (x7 : Int)]) (.agg #[.int .u8 (x0 : Int), .int .u8 (x1 : Int), .int .u8 (x2 : Int), .int .u8 (x3 : Int), .int .u8 (x4 : Int), .int .u8 (x5 : Int), .int .u8 (x6 : Int), .int .u8 (x7 : Int)])) u = .ok true u := fun u => frame_same 9997 x0 x1 x2 x3 x4 x5 x6 x7 u
    obtain ⟨i0, hi, hz0, hz1, hz2⟩ := info_parts info_u8
    clear hRI hM hL hEN hself hok hx0 hb0 hn0 h0 hT hL3
    go_enter Tryd.func10, Tryd.ntmps10
    go_wp2_with fail
    refine (HEN.out _ ((Below.refl _ w).alloc (Nat.le_refl _) _)).mono ?_
    rintro x w1 ⟨a, cap, rfl, hs1, hb⟩
    have HB1 := Lib.hid (below_trans' ((Below.refl _ w).alloc (Nat.le_refl _) _) hb)
    have HF1 := Lib.hid (FrameAt.keep HFA.out hb (by simp))
    have hlt1 : w.heap.size < w1.heap.size := by have := hb.size; simp at this; omega
    have HS1 := Lib.hid hs1
    clear hb hs1
    go_wp2_with fail
    refine (refClean_any a L cap _ (by rw [← HLE.out]; omega) w1 HS1.out).mono ?_
    rintro x w2 ⟨v, rfl, ho, hb⟩
    rw [HSE.out] at ho
    obtain ⟨va, vc, rfl⟩ := ho.shape
    rw [← HLE.out] at ho ⊢
    have HB2 := Lib.hid (below_trans' HB1.out hb)
    have HF2 := Lib.hid (HF1.out.keep hb hlt1)
    have hlt2 : w.heap.size < w2.heap.size := by have := hb.size; omega
    have HO2 := Lib.hid (Ow.low ho (A := w.heap.size + 1) (by omega))
    obtain ⟨c0, c1, c2, c3, c4, c5, c6, c7, c8, c9, c10, c11⟩ := HF2.out.cells
    clear hb ho
    go_wp2_with fail
    refine (HRI.out _).mono ?_
    rintro x w3 ⟨rfl, hb⟩
    have HB3 := Lib.hid (below_trans' HB2.out hb)
    have HF3 := Lib.hid (HF2.out.keep hb hlt2)
    have hlt3 : w.heap.size < w3.heap.size := by have := hb.size; omega
    have HO3' := Lib.hid (HO2.out.on hb)
    clear hb c0 c1 c2 c3 c4 c5 c6 c7 c8 c9 c10 c11
    obtain ⟨c0, c1, c2, c3, c4, c5, c6, c7, c8, c9, c10, c11⟩ := HF3.out.cells
    go_wp2_with fail
    refine (HMO.out _ HB3.out).mono ?_
    rintro x w4 ⟨rfl, hb⟩
    have HB4 := Lib.hid (below_trans' HB3.out hb)
    have HF4 := Lib.hid (HF3.out.keep hb hlt3)
    have hlt4 : w.heap.size < w4.heap.size := by have := hb.size; omega
    have HO3 := Lib.hid (HO3'.out.on hb)
    clear hb c0 c1 c2 c3 c4 c5 c6 c7 c8 c9 c10 c11 HO3' HO2
    cases a1
    · obtain ⟨EB, hEB⟩ : ∃ EB, EB = stuffB (bodyB e0 n0 q0 m [x0, x1, x2, x3, x4, x5, x6, x7]) ++ (1 :: 1 :: 1 :: 1 :: 1 :: 1 :: 1 :: 1 :: 1 :: 1 :: []) := ⟨_, rfl⟩
      have heb : EB.length = L := by
        rw [hEB, HLE.out, encB_length]; simp
      have HEB := Lib.hid heb
      have HDE := Lib.hid (show ∀ u, Below w.heap.size w u → ∀ a l c, Str u.heap.size u (.slice a l c) (EB ++ xs) → Calls Tryd.prog 38 #[.slice a l c] u fun x w' => x = .returned (.tuple #[.agg #[.bool e0, .int .u32 (n0 : Int), .bool q0, .int .i64 (m : Int), .int .u8 (x0 : Int), .int .u8 (x1 : Int), .int .u8 (x2 : Int), .int .u8 (x3 : Int), .int .u8 (x4 : Int), .int .u8 (x5 : Int), .int .u8 (x6 : Int), .int .u8 (x7 : Int)], .int .i64 (L : Int), .int .i64 0]) ∧ Below u.heap.size u w' from fun u hu a l c hs => (decode_any a l c (EB ++ xs) (by rw [List.length_append, HXQ.out]; omega) u (Nat.lt_of_lt_of_le HG0.out hu.size) (HTT.out.onB hu HG0.out) hs).mono fun x w' h => by
        have e : bitsOf (EB ++ xs) = stuffB (bodyB e0 n0 q0 m [x0, x1, x2, x3, x4, x5, x6, x7]) ++ (1 :: 1 :: 1 :: 1 :: 1 :: 1 :: 1 :: 1 :: 1 :: 1 :: bitsOf xs) := by
          rw [show bitsOf (EB ++ xs) = bitsOf EB ++ bitsOf xs by simp [bitsOf], bitsOf_self (bs := EB), hEB]
          · simp
          · intro y hy
            rw [hEB] at hy
            rcases List.mem_append.mp hy with h1 | h1
            · exact stuff_le _ (bodyB_le _ _ _ _ _) y h1
            · simp at h1; omega
        rw [e, dcV_back HOK.out rfl HDB.out] at h
        rw [HLE.out]
        exact h)
      have HO4 := Lib.hid (show Ow (w.heap.size + 1) w4 (.slice va L vc) EB by rw [hEB]; exact HO3.out)
      clear hEB
      go_wp2_with fail
      rcases HSR.out with ⟨rfl, rfl, rfl⟩ | ⟨ad, rfl, hsc⟩
      · refine (HFW.out _ HB4.out).mono ?_
        rintro x w6 ⟨rfl, rfl⟩
        go_wp2_with (at_builtin; refine wpList_append_own_none rfl _ _ 34 rfl (w.heap.size + 1) 5 i0 1 Tryd.underlying34 hi _ _ _ rfl HO4.out.own rfl ?_)
        obtain ⟨w7, hw7⟩ : ∃ w7, w7 = w4 := ⟨_, rfl⟩
        have HO7 := Lib.hid (show Ow (w.heap.size + 1) w7 (.slice va L vc) (EB ++ xs) by
          have : xs = [] := List.length_eq_zero_iff.mp HXQ.out
          rw [this, List.append_nil, hw7]
          exact HO4.out)
        have HB7 := Lib.hid (show Below w.heap.size w w7 by rw [hw7]; exact HB4.out)
        have HF7 := Lib.hid (show FrameAt w7 w.heap.size e0 n0 q0 (m : Int) [x0, x1, x2, x3, x4, x5, x6, x7] by rw [hw7]; exact HF4.out)
        have hlt7 : w.heap.size < w7.heap.size := by rw [hw7]; exact hlt4
        rw [← hw7]
        clear hw7
        have HS7 := Lib.hid HO7.out.str
        go_wp2_with fail
        refine (HDE.out w7 HB7.out va L vc HS7.out).mono ?_
        
        rintro x w8 ⟨rfl, hb8⟩
        have HB8 := Lib.hid (below_trans' HB7.out hb8)
        have hb8s := hb8.size
        have HF8 := Lib.hid ((HF7.out.keep hb8 hlt7).more (by omega) (.cells #[.bool e0, .int .u32 (n0 : Int), .bool q0, .int .i64 (m : Int), .int .u8 (x0 : Int), .int .u8 (x1 : Int), .int .u8 (x2 : Int), .int .u8 (x3 : Int), .int .u8 (x4 : Int), .int .u8 (x5 : Int), .int .u8 (x6 : Int), .int .u8 (x7 : Int)] 27))
        have HG8 := Lib.hid (show FrameAt (w8.alloc (.cells #[.bool e0, .int .u32 (n0 : Int), .bool q0, .int .i64 (m : Int), .int .u8 (x0 : Int), .int .u8 (x1 : Int), .int .u8 (x2 : Int), .int .u8 (x3 : Int), .int .u8 (x4 : Int), .int .u8 (x5 : Int), .int .u8 (x6 : Int), .int .u8 (x7 : Int)] 27)) w8.heap.size e0 n0 q0 (m : Int) [x0, x1, x2, x3, x4, x5, x6, x7] from FrameAt.new w8 27 e0 n0 q0 (m : Int) [x0, x1, x2, x3, x4, x5, x6, x7] rfl)
        obtain ⟨w9, hw9⟩ : ∃ w9, w9 = w8.alloc (.cells #[.bool e0, .int .u32 (n0 : Int), .bool q0, .int .i64 (m : Int), .int .u8 (x0 : Int), .int .u8 (x1 : Int), .int .u8 (x2 : Int), .int .u8 (x3 : Int), .int .u8 (x4 : Int), .int .u8 (x5 : Int), .int .u8 (x6 : Int), .int .u8 (x7 : Int)] 27) := ⟨_, rfl⟩
        rw [← hw9] at HF8 HG8
        have HB9 := Lib.hid (show Below w.heap.size w w9 by rw [hw9]; exact HB8.out.alloc HB8.out.size _)
        have hn9 : w.heap.size < w9.heap.size ∧ w8.heap.size < w9.heap.size := by rw [hw9]; simp; omega
        clear hb8 hb8s
        go_wp2_with fail
        rw [← hw9]
        clear hw9
        refine (HLV.out _ HB9.out).mono ?_
        rintro x wz ⟨rfl, hbz⟩
        have HBZ := Lib.hid (below_trans' HB9.out hbz)
        obtain ⟨c0, c1, c2, c3, c4, c5, c6, c7, c8, c9, c10, c11⟩ := (HF8.out.keep hbz hn9.1).cells
        obtain ⟨k0, k1, k2, k3, k4, k5, k6, k7, k8, k9, k10, k11⟩ := (HG8.out.keep hbz hn9.2).cells
        clear hbz hn9
        go_wp2_with fail
        go_ret
        exact ⟨rfl, HBZ.out⟩
      · refine (HFW.out _ HB4.out).mono ?_
        rintro x w6 ⟨rfl, rfl⟩
        go_wp2_with (at_builtin; refine wpList_append_own _ rfl _ _ 34 rfl (w.heap.size + 1) 5 i0 (.int .u8 0) 1 1 Tryd.underlying34 hi hz0 hz1 hz2 rfl (by decide) _ _ _ rfl HO4.out.own ad q c' (xs.map (fun n : Nat => Value.int .u8 ((n : Nat) : Int))) rfl (by rw [List.length_map, HXQ.out, Nat.mul_one]) (hsc _ HB4.out) (flat_bytes _) ?c3 ?c4 ?c5 ?_)
        case c3 => unfold maxLen; omega
        case c4 => omega
        case c5 => omega
        intro v7 w7 hown7 hgrow7 _
        have HO7' := Lib.hid (show Ow (w.heap.size + 1) w7 v7 (EB ++ xs) by
          unfold Ow
          rw [List.length_append, List.map_append, HXQ.out, HEB.out]
          exact hown7)
        have h47 : Below (w.heap.size + 1) w4 w7 := (Below.refl _ w4).grown hgrow7 (by omega) HO4.out.ge
        have HB7 := Lib.hid (HB4.out.trans (h47.mono (by omega)))
        have HF7 := Lib.hid (HF4.out.keepAt h47 (by omega))
        have hlt7 : w.heap.size < w7.heap.size := by have := h47.size; omega
        obtain ⟨a7, c7', rfl⟩ := HO7'.out.shape
        have HS7 := Lib.hid HO7'.out.str
        clear hown7 hgrow7 h47
        obtain ⟨L7, hL7⟩ : ∃ L7, L7 = (EB ++ xs).length := ⟨_, rfl⟩
        rw [← hL7] at HS7 ⊢
        clear hL7
        go_wp2_with fail
        refine (HDE.out w7 HB7.out a7 L7 c7' HS7.out).mono ?_
        rintro x w8 ⟨rfl, hb8⟩
        have HB8 := Lib.hid (below_trans' HB7.out hb8)
        have hb8s := hb8.size
        have HF8 := Lib.hid ((HF7.out.keep hb8 hlt7).more (by omega) (.cells #[.bool e0, .int .u32 (n0 : Int), .bool q0, .int .i64 (m : Int), .int .u8 (x0 : Int), .int .u8 (x1 : Int), .int .u8 (x2 : Int), .int .u8 (x3 : Int), .int .u8 (x4 : Int), .int .u8 (x5 : Int), .int .u8 (x6 : Int), .int .u8 (x7 : Int)] 27))
        have HG8 := Lib.hid (show FrameAt (w8.alloc (.cells #[.bool e0, .int .u32 (n0 : Int), .bool q0, .int .i64 (m : Int), .int .u8 (x0 : Int), .int .u8 (x1 : Int), .int .u8 (x2 : Int), .int .u8 (x3 : Int), .int .u8 (x4 : Int), .int .u8 (x5 : Int), .int .u8 (x6 : Int), .int .u8 (x7 : Int)] 27)) w8.heap.size e0 n0 q0 (m : Int) [x0, x1, x2, x3, x4, x5, x6, x7] from FrameAt.new w8 27 e0 n0 q0 (m : Int) [x0, x1, x2, x3, x4, x5, x6, x7] rfl)
        obtain ⟨w9, hw9⟩ : ∃ w9, w9 = w8.alloc (.cells #[.bool e0, .int .u32 (n0 : Int), .bool q0, .int .i64 (m : Int), .int .u8 (x0 : Int), .int .u8 (x1 : Int), .int .u8 (x2 : Int), .int .u8 (x3 : Int), .int .u8 (x4 : Int), .int .u8 (x5 : Int), .int .u8 (x6 : Int), .int .u8 (x7 : Int)] 27) := ⟨_, rfl⟩
        rw [← hw9] at HF8 HG8
        have HB9 := Lib.hid (show Below w.heap.size w w9 by rw [hw9]; exact HB8.out.alloc HB8.out.size _)
        have hn9 : w.heap.size < w9.heap.size ∧ w8.heap.size < w9.heap.size := by rw [hw9]; simp; omega
        clear hb8 hb8s
        go_wp2_with fail
        rw [← hw9]
        clear hw9
        refine (HLV.out _ HB9.out).mono ?_
        rintro x wz ⟨rfl, hbz⟩
        have HBZ := Lib.hid (below_trans' HB9.out hbz)
        obtain ⟨c0, c1, c2, c3, c4, c5, c6, c7, c8, c9, c10, c11⟩ := (HF8.out.keep hbz hn9.1).cells
        obtain ⟨k0, k1, k2, k3, k4, k5, k6, k7, k8, k9, k10, k11⟩ := (HG8.out.keep hbz hn9.2).cells
        clear hbz hn9
        go_wp2_with fail
        go_ret
        exact ⟨rfl, HBZ.out⟩
    · obtain ⟨EB, hEB⟩ : ∃ EB, EB = stuffB (bodyB e0 n0 q0 m [x0, x1, x2, x3, x4, x5, x6, x7]) ++ (1 :: 0 :: 1 :: 1 :: 1 :: 1 :: 1 :: 1 :: 1 :: 1 :: []) := ⟨_, rfl⟩
      have heb : EB.length = L := by
        rw [hEB, HLE.out, encB_length]; simp
      have HEB := Lib.hid heb
      have HDE := Lib.hid (show ∀ u, Below w.heap.size w u → ∀ a l c, Str u.heap.size u (.slice a l c) (EB ++ xs) → Calls Tryd.prog 38 #[.slice a l c] u fun x w' => x = .returned (.tuple #[.agg #[.bool e0, .int .u32 (n0 : Int), .bool q0, .int .i64 (m : Int), .int .u8 (x0 : Int), .int .u8 (x1 : Int), .int .u8 (x2 : Int), .int .u8 (x3 : Int), .int .u8 (x4 : Int), .int .u8 (x5 : Int), .int .u8 (x6 : Int), .int .u8 (x7 : Int)], .int .i64 (L : Int), .int .i64 0]) ∧ Below u.heap.size u w' from fun u hu a l c hs => (decode_any a l c (EB ++ xs) (by rw [List.length_append, HXQ.out]; omega) u (Nat.lt_of_lt_of_le HG0.out hu.size) (HTT.out.onB hu HG0.out) hs).mono fun x w' h => by
        have e : bitsOf (EB ++ xs) = stuffB (bodyB e0 n0 q0 m [x0, x1, x2, x3, x4, x5, x6, x7]) ++ (1 :: 0 :: 1 :: 1 :: 1 :: 1 :: 1 :: 1 :: 1 :: 1 :: bitsOf xs) := by
          rw [show bitsOf (EB ++ xs) = bitsOf EB ++ bitsOf xs by simp [bitsOf], bitsOf_self (bs := EB), hEB]
          · simp
          · intro y hy
            rw [hEB] at hy
            rcases List.mem_append.mp hy with h1 | h1
            · exact stuff_le _ (bodyB_le _ _ _ _ _) y h1
            · simp at h1; omega
        rw [e, dcV_back HOK.out rfl HDB.out] at h
        rw [HLE.out]
        exact h)
      obtain ⟨k, hk⟩ : ∃ k, k = L - 9 := ⟨_, rfl⟩
      obtain ⟨g, cap', hgv, hg1, _, _, hg2, hg3, hg4, hg5⟩ := Ow.write HO3.out (k := k) (by rw [← HLE.out]; omega)
      injection hgv with hg6 hgl hg7
      clear hgl
      subst hg6 hg7
      have e1 : (L : Int) - 9 = (k : Int) := by omega
      have e2 : IntKind.i64.wrap (k : Int) = (k : Int) := by rw [IntKind.wrap_i64]; omega
      have i5 : (0 : Int) ≤ (k : Int) := by omega
      have i6 : (k : Int) < (L : Int) := by omega
      obtain ⟨w5, hw5⟩ : ∃ w5, w5 = w4.setCell ⟨g, k, none⟩ (.int .u8 ((0 : Nat) : Int)) := ⟨_, rfl⟩
      have HO5 := Lib.hid (show Ow (w.heap.size + 1) w5 (.slice (some ⟨g, 0, none⟩) L vc) EB by
        have h := hg5 0
        rw [hk] at h hw5
        rw [hEB, ← enc_slot, ← HLE.out, hw5]
        exact h)
      have HB5 := Lib.hid (show Below w.heap.size w w5 by rw [hw5]; exact HB4.out.setCell (p := ⟨g, k, none⟩) (by show w.heap.size ≤ g; omega) _)
      have HF5 := Lib.hid (show FrameAt w5 w.heap.size e0 n0 q0 (m : Int) [x0, x1, x2, x3, x4, x5, x6, x7] by rw [hw5]; exact HF4.out.other (by omega) _)
      have hlt5 : w.heap.size < w5.heap.size := by rw [hw5]; simp only [setCell_size2]; exact hlt4
      have HW5 := Lib.hid hw5
      clear hw5 hEB hk hg5
      go_wp2_with fail
      rw [show w4.setCell ⟨g, k, none⟩ (.int .u8 0) = w5 from HW5.out.symm]
      clear hg3 hg4 e1 e2 i5 i6
      rcases HSR.out with ⟨rfl, rfl, rfl⟩ | ⟨ad, rfl, hsc⟩
      · refine (HFW.out _ HB5.out).mono ?_
        rintro x w6 ⟨rfl, rfl⟩
        go_wp2_with (at_builtin; refine wpList_append_own_none rfl _ _ 34 rfl (w.heap.size + 1) 5 i0 1 Tryd.underlying34 hi _ _ _ rfl HO5.out.own rfl ?_)
        obtain ⟨w7, hw7⟩ : ∃ w7, w7 = w5 := ⟨_, rfl⟩
        have HO7 := Lib.hid (show Ow (w.heap.size + 1) w7 (.slice (some ⟨g, 0, none⟩) L vc) (EB ++ xs) by
          have : xs = [] := List.length_eq_zero_iff.mp HXQ.out
          rw [this, List.append_nil, hw7]
          exact HO5.out)
        have HB7 := Lib.hid (show Below w.heap.size w w7 by rw [hw7]; exact HB5.out)
        have HF7 := Lib.hid (show FrameAt w7 w.heap.size e0 n0 q0 (m : Int) [x0, x1, x2, x3, x4, x5, x6, x7] by rw [hw7]; exact HF5.out)
        have hlt7 : w.heap.size < w7.heap.size := by rw [hw7]; exact hlt5
        rw [← hw7]
        clear hw7
        have HS7 := Lib.hid HO7.out.str
        go_wp2_with fail
        refine (HDE.out w7 HB7.out (some ⟨g, 0, none⟩) L vc HS7.out).mono ?_
        
        rintro x w8 ⟨rfl, hb8⟩
        have HB8 := Lib.hid (below_trans' HB7.out hb8)
        have hb8s := hb8.size
        have HF8 := Lib.hid ((HF7.out.keep hb8 hlt7).more (by omega) (.cells #[.bool e0, .int .u32 (n0 : Int), .bool q0, .int .i64 (m : Int), .int .u8 (x0 : Int), .int .u8 (x1 : Int), .int .u8 (x2 : Int), .int .u8 (x3 : Int), .int .u8 (x4 : Int), .int .u8 (x5 : Int), .int .u8 (x6 : Int), .int .u8 (x7 : Int)] 27))
        have HG8 := Lib.hid (show FrameAt (w8.alloc (.cells #[.bool e0, .int .u32 (n0 : Int), .bool q0, .int .i64 (m : Int), .int .u8 (x0 : Int), .int .u8 (x1 : Int), .int .u8 (x2 : Int), .int .u8 (x3 : Int), .int .u8 (x4 : Int), .int .u8 (x5 : Int), .int .u8 (x6 : Int), .int .u8 (x7 : Int)] 27)) w8.heap.size e0 n0 q0 (m : Int) [x0, x1, x2, x3, x4, x5, x6, x7] from FrameAt.new w8 27 e0 n0 q0 (m : Int) [x0, x1, x2, x3, x4, x5, x6, x7] rfl)
        obtain ⟨w9, hw9⟩ : ∃ w9, w9 = w8.alloc (.cells #[.bool e0, .int .u32 (n0 : Int), .bool q0, .int .i64 (m : Int), .int .u8 (x0 : Int), .int .u8 (x1 : Int), .int .u8 (x2 : Int), .int .u8 (x3 : Int), .int .u8 (x4 : Int), .int .u8 (x5 : Int), .int .u8 (x6 : Int), .int .u8 (x7 : Int)] 27) := ⟨_, rfl⟩
        rw [← hw9] at HF8 HG8
        have HB9 := Lib.hid (show Below w.heap.size w w9 by rw [hw9]; exact HB8.out.alloc HB8.out.size _)
        have hn9 : w.heap.size < w9.heap.size ∧ w8.heap.size < w9.heap.size := by rw [hw9]; simp; omega
        clear hb8 hb8s
        go_wp2_with fail
        rw [← hw9]
        clear hw9
        refine (HLV.out _ HB9.out).mono ?_
        rintro x wz ⟨rfl, hbz⟩
        have HBZ := Lib.hid (below_trans' HB9.out hbz)
        obtain ⟨c0, c1, c2, c3, c4, c5, c6, c7, c8, c9, c10, c11⟩ := (HF8.out.keep hbz hn9.1).cells
        obtain ⟨k0, k1, k2, k3, k4, k5, k6, k7, k8, k9, k10, k11⟩ := (HG8.out.keep hbz hn9.2).cells
        clear hbz hn9
        go_wp2_with fail
        go_ret
        exact ⟨rfl, HBZ.out⟩
      · refine (HFW.out _ HB5.out).mono ?_
        rintro x w6 ⟨rfl, rfl⟩
        go_wp2_with (at_builtin; refine wpList_append_own _ rfl _ _ 34 rfl (w.heap.size + 1) 5 i0 (.int .u8 0) 1 1 Tryd.underlying34 hi hz0 hz1 hz2 rfl (by decide) _ _ _ rfl HO5.out.own ad q c' (xs.map (fun n : Nat => Value.int .u8 ((n : Nat) : Int))) rfl (by rw [List.length_map, HXQ.out, Nat.mul_one]) (hsc _ HB5.out) (flat_bytes _) ?c3 ?c4 ?c5 ?_)
        case c3 => unfold maxLen; omega
        case c4 => omega
        case c5 => omega
        intro v7 w7 hown7 hgrow7 _
        have HO7' := Lib.hid (show Ow (w.heap.size + 1) w7 v7 (EB ++ xs) by
          unfold Ow
          rw [List.length_append, List.map_append, HXQ.out, HEB.out]
          exact hown7)
        have h47 : Below (w.heap.size + 1) w5 w7 := (Below.refl _ w5).grown hgrow7 (by omega) HO5.out.ge
        have HB7 := Lib.hid (HB5.out.trans (h47.mono (by omega)))
        have HF7 := Lib.hid (HF5.out.keepAt h47 (by omega))
        have hlt7 : w.heap.size < w7.heap.size := by have := h47.size; omega
        obtain ⟨a7, c7', rfl⟩ := HO7'.out.shape
        have HS7 := Lib.hid HO7'.out.str
        clear hown7 hgrow7 h47
        obtain ⟨L7, hL7⟩ : ∃ L7, L7 = (EB ++ xs).length := ⟨_, rfl⟩
        rw [← hL7] at HS7 ⊢
        clear hL7
        go_wp2_with fail
        refine (HDE.out w7 HB7.out a7 L7 c7' HS7.out).mono ?_
        rintro x w8 ⟨rfl, hb8⟩
        have HB8 := Lib.hid (below_trans' HB7.out hb8)
        have hb8s := hb8.size
        have HF8 := Lib.hid ((HF7.out.keep hb8 hlt7).more (by omega) (.cells #[.bool e0, .int .u32 (n0 : Int), .bool q0, .int .i64 (m : Int), .int .u8 (x0 : Int), .int .u8 (x1 : Int), .int .u8 (x2 : Int), .int .u8 (x3 : Int), .int .u8 (x4 : Int), .int .u8 (x5 : Int), .int .u8 (x6 : Int), .int .u8 (x7 : Int)] 27))
        have HG8 := Lib.hid (show FrameAt (w8.alloc (.cells #[.bool e0, .int .u32 (n0 : Int), .bool q0, .int .i64 (m : Int), .int .u8 (x0 : Int), .int .u8 (x1 : Int), .int .u8 (x2 : Int), .int .u8 (x3 : Int), .int .u8 (x4 : Int), .int .u8 (x5 : Int), .int .u8 (x6 : Int), .int .u8 (x7 : Int)] 27)) w8.heap.size e0 n0 q0 (m : Int) [x0, x1, x2, x3, x4, x5, x6, x7] from FrameAt.new w8 27 e0 n0 q0 (m : Int) [x0, x1, x2, x3, x4, x5, x6, x7] rfl)
        obtain ⟨w9, hw9⟩ : ∃ w9, w9 = w8.alloc (.cells #[.bool e0, .int .u32 (n0 : Int), .bool q0, .int .i64 (m : Int), .int .u8 (x0 : Int), .int .u8 (x1 : Int), .int .u8 (x2 : Int), .int .u8 (x3 : Int), .int .u8 (x4 : Int), .int .u8 (x5 : Int), .int .u8 (x6 : Int), .int .u8 (x7 : Int)] 27) := ⟨_, rfl⟩
        rw [← hw9] at HF8 HG8
        have HB9 := Lib.hid (show Below w.heap.size w w9 by rw [hw9]; exact HB8.out.alloc HB8.out.size _)
        have hn9 : w.heap.size < w9.heap.size ∧ w8.heap.size < w9.heap.size := by rw [hw9]; simp; omega
        clear hb8 hb8s
        go_wp2_with fail
        rw [← hw9]
        clear hw9
        refine (HLV.out _ HB9.out).mono ?_
        rintro x wz ⟨rfl, hbz⟩
        have HBZ := Lib.hid (below_trans' HB9.out hbz)
        obtain ⟨c0, c1, c2, c3, c4, c5, c6, c7, c8, c9, c10, c11⟩ := (HF8.out.keep hbz hn9.1).cells
        obtain ⟨k0, k1, k2, k3, k4, k5, k6, k7, k8, k9, k10, k11⟩ := (HG8.out.keep hbz hn9.2).cells
        clear hbz hn9
        go_wp2_with fail
        go_ret
        exact ⟨rfl, HBZ.out⟩
  · have HEN := Lib.hid (fun u => encode_no e0 n0 q0 l0 x0 hx0 hok u)
    have HCL := Lib.hid (fun u => refClean_any none 0 0 [] (by simp) u (Ow.nil 0 u).str)
    have HFA := Lib.hid (FrameAt.new w 27 e0 n0 q0 l0 x0 hx0)
    have hr0 : ((rightF e0 n0 q0 l0 x0 : Nat) : Int) ≠ 0 := by omega
    obtain ⟨rr, hrr⟩ : ∃ rr, rr = rightF e0 n0 q0 l0 x0 := ⟨_, rfl⟩
    rw [← hrr] at hRI hr0
    have HRI := Lib.hid hRI
    have i1 : ((rr : Int) != 0) = true := by simp; omega
    obtain ⟨x0, x1, x2, x3, x4, x5, x6, x7, rfl⟩ := eight hx0
    simp only [frameV, frameC, List.map] at HEN HRI HFA ⊢
    clear hRI hrr hr0 hok hx0 hb0 hn0 h0 hT
    go_enter Tryd.func10, Tryd.ntmps10
    go_wp2_with fail
    refine (HEN.out _).mono ?_
    rintro x wa ⟨rfl, hb⟩
    have HBa := Lib.hid (below_trans' ((Below.refl _ w).alloc (Nat.le_refl _) _) hb)
    have HFa := Lib.hid (FrameAt.keep HFA.out hb (by simp))
    have hsa : w.heap.size < wa.heap.size := by have := hb.size; simp at this; omega
    clear hb
    go_wp2_with fail
    refine (HCL.out _).mono ?_
    rintro x wb ⟨v, rfl, ho, hb⟩
    obtain ⟨va, vc, rfl⟩ := ho.shape
    have HBb := Lib.hid (below_trans' HBa.out hb)
    obtain ⟨c0, c1, c2, c3, c4, c5, c6, c7, c8, c9, c10, c11⟩ := (HFa.out.keep hb hsa).cells
    clear hb ho hsa
    go_wp2_with fail
    refine (HRI.out _).mono ?_
    rintro x wc' ⟨rfl, hb⟩
    have HBc := Lib.hid (below_trans' HBb.out hb)
    clear hb c0 c1 c2 c3 c4 c5 c6 c7 c8 c9 c10 c11
    go_wp2_with fail
    refine (HLV.out _ HBc.out).mono ?_
    rintro x wd ⟨rfl, hb⟩
    have HBd := Lib.hid (below_trans' HBc.out hb)
    clear hb
    go_wp2_with fail
    go_ret
    exact ⟨rfl, HBd.out⟩
theorem door_met (os : Os) (args : Array Value) : laidMetH Tryd.prog laidD ((World.doorLaid Tryd.prog 400 os).forCall (fun _ _ => 0) ⟨#[], args, []⟩).memory :=
  laidMetH_of_parts3 (fuel := 8) (laidMet_of_run' 8 (by kernel_rfl) (by kernel_rfl)) (by kernel_rfl) (by kernel_rfl)
set_option maxRecDepth 100000 in
theorem lifted (os : Os) (started : os.Started) (H : Type) (enc : TypeId × Value → H) :
    ReturnsInHanded {} Tryd.checked os 10 .any (fun w args => (Rows.wireBackSpec.pre enc Tryd.prog Tryd.f10 [] false w args ∧ laidMetH Tryd.prog laidD w) ∧ sizedMet enc Tryd.prog Tryd.f10 (OpenSpec.ofChange Rows.wireBackSpec) false w args)
      (Rows.wireBackSpec.post enc Tryd.prog Tryd.f10 false true false false) := by
  refine returnsInHanded_of_change_and (C := Tryd.checked) (X := fun w _ => laidMetH Tryd.prog laidD w) (fun _ _ _ hh h => h.of_heap hh) own started (by kernel_rfl) Tryd.func10
    (ChangeSpec.witness_shaped (enc := enc) (C := Tryd.checked) (os := os) (X := fun w _ => laidMetH Tryd.prog laidD w) false (World.doorLaid Tryd.prog 400 os) #[.agg #[.bool false, .int .u32 0, .bool false, .int .i64 0, .int .u8 0, .int .u8 0, .int .u8 0, .int .u8 0, .int .u8 0, .int .u8 0, .int .u8 0, .int .u8 0], .bool false, .slice none 0 0] 8 rfl (World.shaped_of_RefB (by kernel_rfl) (by kernel_rfl)) (by kernel_rfl) (by kernel_rfl) (by kernel_rfl) (door_met os _)) ?_
  intro W base args ds gs before hval0 hW _ _ hL _
  have hval : ∀ (j : Nat) t v, Tryd.f10.params[j]? = some t → args[j]? = some v → Value.okWide Tryd.prog W .any base t v := hval0
  have hW' := hW
  obtain ⟨p, q, hA0, hV, rfl, hfz, hnd⟩ := hW
  have hA : DataW.TrodAll enc Tryd.prog W 0 (fun _ => true) true Tryd.f10.params.toList args.toList ds p := hA0
  rw [Tryd.params10] at hA hval
  obtain ⟨v0, vs0, d0, ds0, p0, q0, hargs, rfl, rfl, h0, r0⟩ := trodAll_cons hA
  obtain ⟨v1, vs1, d1, ds1, p1, q1, rfl, rfl, rfl, h1, r1⟩ := trodAll_cons r0
  obtain ⟨v2, vs2, d2, ds2, p2, q2, rfl, rfl, rfl, h2, r2⟩ := trodAll_cons r1
  obtain ⟨rfl, rfl, rfl⟩ := trodAll_nil r2
  obtain rfl : args = #[v0, v1, v2] := by cases args; simp_all
  obtain ⟨rfl, rfl⟩ := trodVars_none hV
  have k0 := h0
  have lt0 : ∀ x ∈ p0, x.block < W.heap.size := by obtain ⟨m, hm⟩ := k0; exact DataW.trod_lt m _ _ _ hm
  obtain ⟨e0, n0, q0, l0, x0, rfl, w0⟩ := open_frame (hval 0 27 v0 rfl rfl) h0
  obtain ⟨a1, rfl, rfl, rfl⟩ := open_bool Tryd.underlying4 (hval 1 4 v1 rfl rfl) h1
  obtain ⟨a2, len2, cap2, rfl⟩ := okWide_slice Tryd.underlying34 (hval 2 34 v2 rfl rfl)
  have k2 := h2
  have lt2 : ∀ x ∈ p2, x.block < W.heap.size := by obtain ⟨m, hm⟩ := k2; exact DataW.trod_lt m _ _ _ hm
  obtain ⟨z2, w2⟩ : ∃ zs, IsRow W a2 len2 cap2 zs := by
    obtain ⟨fuel, hf⟩ := h2
    rcases open_ints Tryd.underlying34 Tryd.underlying5 (by kernel_rfl) hf with ⟨hcs, _⟩ | ⟨x, l, c, zs, hcs, _, hl, hm, hz, _, hcell, hwz⟩
    · simp [Value.cells] at hcs
      obtain ⟨rfl, rfl, rfl⟩ := hcs
      exact ⟨[], .inl ⟨rfl, rfl, rfl, rfl⟩⟩
    · simp [Value.cells] at hcs
      obtain ⟨rfl, rfl, rfl⟩ := hcs
      exact ⟨zs, .inr ⟨_, rfl, hl, hm, by simpa using hz, hcell, hwz⟩⟩
  clear hA0 hval0
  obtain ⟨hTab, hsz0⟩ := tab_of_laid hL
  refine (walk e0 n0 q0 l0 x0 a1 a2 len2 cap2 z2 W w0 w2 hsz0 hTab).mono fun e W' ⟨he, bel⟩ => ?_
  subst he
  exact ⟨_, rfl, _, _, _, [], _, [], hW', trodAll_mk1 (shut_bool Tryd.underlying4 _), (trodAll_cons_mk (Below.trod laidOut (by kernel_rfl) (of_decide_eq_true (by kernel_rfl)) k0 bel lt0) (trodAll_cons_mk (shut_bool Tryd.underlying4 _) (trodAll_cons_mk (Below.trod laidOut (by kernel_rfl) (of_decide_eq_true (by kernel_rfl)) k2 bel lt2) trodAll_mk0))), rfl, bel.frame _, fun h => by cases h⟩
theorem over : Rows.wireBackRow.holds Tryd.pinned (OpenSpec.ofChange Rows.wireBackSpec) :=
  OpenClaim.holds_of_wide 10 Tryd.f10 rfl rfl rfl rfl rfl rfl rfl ⟨rfl, rfl, rfl, rfl, rfl⟩ rfl rfl rfl rfl rfl (by kernel_rfl) Tryd.func10 (by kernel_rfl)
    (of_decide_eq_true (by kernel_rfl)) (by unfold Func.isWrapper; first | (rw [if_pos (by decide +kernel)]; kernel_rfl) | (rw [if_neg (by decide +kernel)]; exact ⟨rfl, rfl⟩))
    (fun os started H enc _ => lifted os started H enc)
/-- The statement: the row, and what it lists tied to the program's text. -/
theorem proved : Rows.WireBackCardSaid :=
  Claim7.holds_tied_plain_at .later [] [.data] true _ true
    over (fun _ h => by cases h) (by kernel_rfl) (fun _ h => by cases h) wireBack_row_tie rfl ⟨rfl, rfl⟩ (by kernel_rfl) rfl
    (fun f fn hf hfn => by
      obtain rfl : f = 10 := Option.some.inj ((show Tryd.prog.funcNamed "bellbuoy/bellbuoylaw07.WireBack" = some 10 by kernel_rfl).symm.trans hf) |>.symm
      obtain rfl : fn = Tryd.f10 := (Option.some.inj (Tryd.func10.symm.trans hfn)).symm
      exact ⟨by kernel_rfl, fun j t ht => by
        rw [Tryd.params10] at ht
        have hm : t ∈ [27, 4, 34] := by simpa using Array.mem_of_getElem? ht
        have hall : ([27, 4, 34].all fun u => !Tryd.prog.wantsStandIn u) = true := by kernel_rfl
        exact (show Tryd.prog.wantsStandIn t = false by simpa using List.all_eq_true.1 hall t hm)⟩)
    (by kernel_rfl)
end Go.Proofs.YtladgiohahhkjaaDoor.wireBack
