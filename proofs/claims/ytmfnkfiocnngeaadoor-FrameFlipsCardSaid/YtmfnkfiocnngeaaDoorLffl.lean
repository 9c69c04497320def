/- The statement of P6.6 (FrameFlips): with one bit changed a body is refused, as its sum is another one, but for bits that say how many there are. Conditions: the listed variables' cells hold what the program's own text lays in them (tied). -/
import Derived.Test.YtmfnkfiocnngeaaDoorRows
import Derived.Test.YtmfnkfiocnngeaaDoorRdg
import Derived.Test.YtmfnkfiocnngeaaDoorWri
import Derived.Test.YtmfnkfiocnngeaaDoorLia
import Derived.Test.YtmfnkfiocnngeaaDoorOpe
import Derived.Test.YtmfnkfiocnngeaaDoorCru
import Derived.Test.YtmfnkfiocnngeaaDoorBat
import Derived.WalkKit
import Derived.ProofKit
import Derived.OpenShut
import Derived.ShutString
import Derived.ChangeOld
import Derived.Below
namespace Go.Proofs.YtmfnkfiocnngeaaDoor.frameFlips
open Go.ChangeShapes Go.WideShapes Go.ChangeAt Go.RowKit
theorem own : ownKnob Tryd.prog.godebug = none := by kernel_rfl
theorem laidOut : laidOutB Tryd.prog = true := by kernel_rfl
set_option maxRecDepth 100000 in
set_option maxHeartbeats 8000000 in
theorem walk (e0 : Bool) (n0 : Nat) (q0 : Bool) (l0 : Int) (x0 : List Nat) (n : Int) (w0 : n0 < 4294967296 ∧ x0.length = 8 ∧ ∀ y ∈ x0, y < 256) (hn : (Lit.int .u8 n).wf = true) (w : World) (h0 : 1 < w.heap.size) (hT : Tab w) :
    Calls Tryd.prog 7 #[frameV e0 n0 q0 l0 x0, .int .u8 n] w fun e w' => e = .returned (.bool true) ∧ Below w.heap.size w w' := by
  obtain ⟨hn0, hx0, hb0⟩ := w0
  have hr : 0 ≤ n ∧ n ≤ 255 := by
    simp [Lit.wf, IntKind.min, IntKind.max, IntKind.bits, IntKind.signed] at hn
    omega
  clear hn
  obtain ⟨g0, g1⟩ := hr
  have hw0 : IntKind.i64.wrap n = n := by rw [IntKind.wrap_i64]; omega
  have HLV := Lib.hid (fun u (hu : Below w.heap.size w u) => live6 u (Nat.lt_of_lt_of_le h0 hu.size) (hT.onB hu h0))
  have HFA := Lib.hid (FrameAt.new w 27 e0 n0 q0 l0 x0 hx0)
  by_cases hok : rightF e0 n0 q0 l0 x0 = 0
  · obtain ⟨m, rfl⟩ : ∃ m : Nat, l0 = m := by
      by_cases hneg : l0 < 0
      · exfalso
        unfold rightF at hok
        split at hok
        · exact absurd hok (by decide)
        · rw [if_pos (.inl hneg)] at hok; exact absurd hok (by decide)
      · exact ⟨l0.toNat, by omega⟩
    obtain ⟨hri, hm8, _⟩ := rightF_data hok
    have HRB := Lib.hid (fun u => ref6Body_yes e0 n0 hn0 q0 m x0 hx0 hb0 hok u)
    have hble := bodyB_le e0 n0 q0 m x0
    have hbl := bodyB_length (r := q0) (len := m) (data := x0) hri
    have hflip := fun i hi h0 hs => parse_flip (e := e0) (n := n0) (r := q0) (len := m) (data := x0) hri (i := i) hi h0 hs
    have hb00 := body_zero e0 n0 q0 m x0
    have hs118 : 34 ≤ sizeN e0 q0 m ∧ sizeN e0 q0 m ≤ 200 := by unfold sizeN; cases e0 <;> cases q0 <;> simp <;> omega
    obtain ⟨Bo, hBo⟩ : ∃ Bo, Bo = bodyB e0 n0 q0 m x0 := ⟨_, rfl⟩
    rw [← hBo] at HRB hble hbl hflip hb00
    obtain ⟨N, hN⟩ : ∃ N, N = Bo.length := ⟨_, rfl⟩
    rw [← hN] at hbl hflip
    rw [← hbl] at hs118
    obtain ⟨j, hj⟩ : ∃ j : Nat, (j : Int) = n.tmod (N : Int) := ⟨(n.tmod (N : Int)).toNat, by rw [Int.tmod_eq_emod_of_nonneg g0]; have := Int.emod_nonneg n (b := (N : Int)) (by omega); omega⟩
    have hjN : j < N := by
      rw [Int.tmod_eq_emod_of_nonneg g0] at hj
      have := Int.emod_lt_of_pos n (b := (N : Int)) (by omega)
      omega
    have hrem : n.tmod (N : Int) = (j : Int) := hj.symm
    obtain ⟨X, hX⟩ : ∃ X, X = Bo.set j (1 - Bo[j]?.getD 0) := ⟨_, rfl⟩
    have hXl : X.length = N := by rw [hX, List.length_set, hN]
    have hX1 : ∀ x ∈ X, x ≤ 1 := fun x hx => by
      rw [hX] at hx
      rcases List.mem_or_eq_of_mem_set hx with h | h
      · exact hble x h
      · omega
    have hfx : flipB Bo (j : Int) = X := by
      unfold flipB
      rw [if_pos ⟨by omega, by omega⟩, bitsOf_self hble, hX]
      congr 1
      unfold bitAt
      rw [show ((j : Int).toNat) = j by omega]
      rw [bitN_self (getD_bit hble j)]
    have HFLI := Lib.hid (show ∀ u a cap, Str u.heap.size u (.slice a N cap) Bo → Calls Tryd.prog 27 #[.slice a N cap, .int .i64 (j : Int)] u fun x w' => ∃ a cap, x = .returned (.slice a N cap) ∧ Ow u.heap.size w' (.slice a N cap) X ∧ Below u.heap.size u w' from fun u a cap hs => (refFlip_any a N cap Bo (j : Int) (by omega) u hs).mono fun x w' h => by
      obtain ⟨v, rfl, ho, hb⟩ := h
      rw [hfx] at ho
      obtain ⟨a, cap, rfl⟩ := ho.shape
      rw [hXl] at ho ⊢
      exact ⟨a, cap, rfl, ho, hb⟩)
    obtain ⟨q, ok, hq⟩ : ∃ (q : Nat) (ok : Bool), (sizeB X).getD 0 = q ∧ (sizeB X).isSome = ok := ⟨_, _, rfl, rfl⟩
    have HS1 := Lib.hid (show ∀ u a cap, Str u.heap.size u (.slice a N cap) X → Calls Tryd.prog 25 #[.slice a N cap] u fun x w' => x = .returned (.tuple #[.int .i64 (q : Int), .bool ok]) ∧ Below u.heap.size u w' from fun u a cap hs => by
      have h := ref6Size_any a N cap X u hs
      rw [bitsOf_self hX1, hq.1, hq.2] at h
      exact h)
    obtain ⟨pe, pn, pq, pm, z0, z1, z2, z3, z4, z5, z6, z7, pk, pc, hpr, _, hpok⟩ := pr_form X
    have HS2 := Lib.hid (show ∀ u a cap, Below w.heap.size w u → Str u.heap.size u (.slice a N cap) X → Calls Tryd.prog 22 #[.slice a N cap] u fun x w' => x = .returned (.tuple #[frameV pe pn pq (pm : Int) [z0, z1, z2, z3, z4, z5, z6, z7], .int .i64 (pk : Int), .int .i64 (pc : Int)]) ∧ Below u.heap.size u w' from fun u a cap hu hs => by
      have h := frameParse_any a N cap X (by omega) u (Nat.lt_of_lt_of_le h0 hu.size) (hT.onB hu h0) hs
      rw [bitsOf_self hX1, hpr] at h
      exact h)
    have hcode : ∀ c, parseB X = .error c → pc = c := fun c h => by
      rw [h] at hpr
      injection hpr with h2
      have h3 := congrArg (fun a : Array Value => a[2]?) h2
      simp at h3
      omega
    have HW := Lib.hid (show (j = 0 → pc = 3) ∧ (j ≠ 0 → ok = true → q = N → pc = 5) from ⟨fun h => by
      refine hcode 3 ?_
      unfold parseB
      rw [if_pos]
      rw [hX, h, List.getElem?_set_self (by omega), Option.getD_some, hb00], fun h hok hqN => by
      refine hcode 5 ?_
      rw [hX]
      refine hflip j hjN h ?_
      rw [← hX]
      rw [hok] at hq
      obtain ⟨k, hk⟩ := Option.isSome_iff_exists.1 hq.2
      rw [hk] at hq
      rw [hk, ← hqN, ← hq.1]
      rfl⟩)
    have HN := Lib.hid hN
    obtain ⟨x0, x1, x2, x3, x4, x5, x6, x7, rfl⟩ := eight hx0
    simp only [frameV, frameC, List.map] at HRB HFA ⊢
    obtain ⟨c0, c1, c2, c3, c4, c5, c6, c7, c8, c9, c10, c11⟩ := HFA.out.cells
    have i0 : ((N : Int) == 0) = false := by rw [beq_eq_false_iff_ne]; omega
    have i3 : (0 : Int) ≤ (j : Int) := by omega
    clear hok hri hm8 hble hbl hflip hb00 hBo hN hj hq hx0 hb0 hn0 h0 hT hX hXl hX1 hfx hpr hpok hcode
    simp only [frameV, frameC, List.map] at HS2
    go_enter Tryd.func7, Tryd.ntmps7
    go_wp2_with fail
    refine (HRB.out _).mono ?_
    rintro y w2 ⟨v, rfl, ho, hb⟩
    obtain ⟨a, cap, rfl⟩ := ho.shape
    rw [← HN.out] at ho ⊢
    have HO2 := Lib.hid ho
    have HB2 := Lib.hid (below_trans' ((Below.refl _ w).alloc (Nat.le_refl _) _) hb)
    clear ho hb c0 c1 c2 c3 c4 c5 c6 c7 c8 c9 c10 c11
    go_wp2_with fail
    refine (HFLI.out _ _ _ HO2.out.str).mono ?_
    rintro y w3 ⟨a', cap', rfl, ho, hb⟩
    have HB3 := Lib.hid (below_trans' HB2.out hb); have HO3 := Lib.hid ho
    clear ho hb
    go_wp2_with fail
    refine (HS1.out _ _ _ HO3.out.str).mono ?_
    rintro y w4 ⟨rfl, hb⟩
    have HB4 := Lib.hid (below_trans' HB3.out hb); have HO4 := Lib.hid (HO3.out.on hb)
    clear hb
    go_wp2_with fail
    refine (HS2.out _ _ _ HB4.out HO4.out.str).mono ?_
    rintro y w5 ⟨rfl, hb⟩
    have HB5 := Lib.hid (below_trans' HB4.out hb)
    clear hb
    have ways : j = 0 ∨ (j ≠ 0 ∧ ok = false) ∨ (j ≠ 0 ∧ ok = true ∧ q ≠ N) ∨ (j ≠ 0 ∧ ok = true ∧ q = N) := by
      cases ok
      · by_cases h : j = 0
        · exact .inl h
        · exact .inr (.inl ⟨h, rfl⟩)
      · by_cases h : j = 0
        · exact .inl h
        · by_cases h2 : q = N
          · exact .inr (.inr (.inr ⟨h, rfl, h2⟩))
          · exact .inr (.inr (.inl ⟨h, rfl, h2⟩))
    rcases ways with hw' | ⟨hw', rfl⟩ | ⟨hw', rfl, hqN⟩ | ⟨hw', rfl, rfl⟩
    · obtain rfl : pc = 3 := HW.out.1 hw'
      have i5 : ((j : Int) == 0) = true := by rw [hw']; rfl
      clear hw'
      go_wp2_with fail
      refine (HLV.out _ (HB5.out.alloc HB5.out.size _)).mono ?_
      rintro x w6 ⟨rfl, hb⟩
      have HB6 := Lib.hid (below_trans' (HB5.out.alloc HB5.out.size _) hb)
      clear hb
      go_wp2_with fail
      go_ret
      exact ⟨rfl, HB6.out⟩
    · have i5 : ((j : Int) == 0) = false := by rw [beq_eq_false_iff_ne]; omega
      clear hw'
      go_wp2_with fail
      refine (HLV.out _ (HB5.out.alloc HB5.out.size _)).mono ?_
      rintro x w6 ⟨rfl, hb⟩
      have HB6 := Lib.hid (below_trans' (HB5.out.alloc HB5.out.size _) hb)
      clear hb
      go_wp2_with fail
      go_ret
      exact ⟨rfl, HB6.out⟩
    · have i5 : ((j : Int) == 0) = false := by rw [beq_eq_false_iff_ne]; omega
      have i6 : ((q : Int) != (N : Int)) = true := by simp; omega
      clear hw' hqN
      go_wp2_with fail
      refine (HLV.out _ (HB5.out.alloc HB5.out.size _)).mono ?_
      rintro x w6 ⟨rfl, hb⟩
      have HB6 := Lib.hid (below_trans' (HB5.out.alloc HB5.out.size _) hb)
      clear hb
      go_wp2_with fail
      go_ret
      exact ⟨rfl, HB6.out⟩
    · obtain rfl : pc = 5 := HW.out.2 hw' rfl rfl
      have i5 : ((j : Int) == 0) = false := by rw [beq_eq_false_iff_ne]; omega
      have i6 : ((q : Int) != (q : Int)) = false := by simp
      clear hw'
      go_wp2_with fail
      refine (HLV.out _ (HB5.out.alloc HB5.out.size _)).mono ?_
      rintro x w6 ⟨rfl, hb⟩
      have HB6 := Lib.hid (below_trans' (HB5.out.alloc HB5.out.size _) hb)
      clear hb
      go_wp2_with fail
      go_ret
      exact ⟨rfl, HB6.out⟩
  · have HRB := Lib.hid (fun u => ref6Body_no e0 n0 q0 l0 x0 hx0 hok u)
    obtain ⟨x0, x1, x2, x3, x4, x5, x6, x7, rfl⟩ := eight hx0
    simp only [frameV, frameC, List.map] at HRB HFA ⊢
    obtain ⟨c0, c1, c2, c3, c4, c5, c6, c7, c8, c9, c10, c11⟩ := HFA.out.cells
    clear hok hx0 hb0 hn0 h0 hT
    go_enter Tryd.func7, Tryd.ntmps7
    go_wp2_with fail
    refine (HRB.out _).mono ?_
    rintro x wb ⟨rfl, hb⟩
    have HBb := Lib.hid (below_trans' ((Below.refl _ w).alloc (Nat.le_refl _) _) hb)
    clear hb
    go_wp2_with fail
    refine (HLV.out _ HBb.out).mono ?_
    rintro x wd ⟨rfl, hb⟩
    have HBd := Lib.hid (below_trans' HBb.out hb)
    clear hb
    go_wp2_with fail
    go_ret
    exact ⟨rfl, HBd.out⟩
theorem door_met (os : Os) (args : Array Value) : laidMetH Tryd.prog laidD6 ((World.doorLaid Tryd.prog 400 os).forCall (fun _ _ => 0) ⟨#[], args, []⟩).memory :=
  laidMetH_of_parts3 (fuel := 8) (laidMet_of_run' 8 (by kernel_rfl) (by kernel_rfl)) (by kernel_rfl) (by kernel_rfl)
set_option maxRecDepth 100000 in
theorem lifted (os : Os) (started : os.Started) (H : Type) (enc : TypeId × Value → H) :
    ReturnsInHanded {} Tryd.checked os 7 .any (fun w args => (Rows.frameFlipsSpec.pre enc Tryd.prog Tryd.f7 [] false w args ∧ laidMetH Tryd.prog laidD6 w) ∧ sizedMet enc Tryd.prog Tryd.f7 (OpenSpec.ofChange Rows.frameFlipsSpec) false w args)
      (Rows.frameFlipsSpec.post enc Tryd.prog Tryd.f7 false true false false) := by
  refine returnsInHanded_of_change_and (C := Tryd.checked) (X := fun w _ => laidMetH Tryd.prog laidD6 w) (fun _ _ _ hh h => h.of_heap hh) own started (by kernel_rfl) Tryd.func7
    (ChangeSpec.witness_shaped (enc := enc) (C := Tryd.checked) (os := os) (X := fun w _ => laidMetH Tryd.prog laidD6 w) false (World.doorLaid Tryd.prog 400 os) #[.agg #[.bool false, .int .u32 0, .bool false, .int .i64 0, .int .u8 0, .int .u8 0, .int .u8 0, .int .u8 0, .int .u8 0, .int .u8 0, .int .u8 0, .int .u8 0], .int .u8 0] 8 rfl (World.shaped_of_RefB (by kernel_rfl) (by kernel_rfl)) (by kernel_rfl) (by kernel_rfl) (by kernel_rfl) (door_met os _)) ?_
  intro W base args ds gs before hval0 hW _ _ hL _
  have hval : ∀ (j : Nat) t v, Tryd.f7.params[j]? = some t → args[j]? = some v → Value.okWide Tryd.prog W .any base t v := hval0
  have hW' := hW
  obtain ⟨p, q, hA0, hV, rfl, hfz, hnd⟩ := hW
  have hA : DataW.TrodAll enc Tryd.prog W 0 (fun _ => true) true Tryd.f7.params.toList args.toList ds p := hA0
  rw [Tryd.params7] at hA hval
  obtain ⟨v0, vs0, d0, ds0, p0, q0, hargs, rfl, rfl, h0, r0⟩ := trodAll_cons hA
  obtain ⟨v1, vs1, d1, ds1, p1, q1, rfl, rfl, rfl, h1, r1⟩ := trodAll_cons r0
  obtain ⟨rfl, rfl, rfl⟩ := trodAll_nil r1
  obtain rfl : args = #[v0, v1] := by cases args; simp_all
  obtain ⟨rfl, rfl⟩ := trodVars_none hV
  have k0 := h0
  have lt0 : ∀ x ∈ p0, x.block < W.heap.size := by obtain ⟨m, hm⟩ := k0; exact DataW.trod_lt m _ _ _ hm
  obtain ⟨e0, n0, q0, l0, x0, rfl, w0⟩ := open_frame (hval 0 27 v0 rfl rfl) h0
  obtain ⟨a1, rfl, rfl, rfl, w1⟩ := open_int Tryd.underlying5 (hval 1 5 v1 rfl rfl) h1
  clear hA0 hval0
  obtain ⟨hTab, hsz0⟩ := tab_of_laid6 hL
  refine (walk e0 n0 q0 l0 x0 a1 w0 w1 W hsz0 hTab).mono fun e W' ⟨he, bel⟩ => ?_
  subst he
  exact ⟨_, rfl, _, _, _, [], _, [], hW', trodAll_mk1 (shut_bool Tryd.underlying4 _), (trodAll_cons_mk (Below.trod laidOut (by kernel_rfl) (of_decide_eq_true (by kernel_rfl)) k0 bel lt0) (trodAll_cons_mk (shut_int Tryd.underlying5 w1) trodAll_mk0)), rfl, bel.frame _, fun h => by cases h⟩
theorem over : Rows.frameFlipsRow.holds Tryd.pinned (OpenSpec.ofChange Rows.frameFlipsSpec) :=
  OpenClaim.holds_of_wide 7 Tryd.f7 rfl rfl rfl rfl rfl rfl rfl ⟨rfl, rfl, rfl, rfl, rfl⟩ rfl rfl rfl rfl rfl (by kernel_rfl) Tryd.func7 (by kernel_rfl)
    (of_decide_eq_true (by kernel_rfl)) (by unfold Func.isWrapper; first | (rw [if_pos (by decide +kernel)]; kernel_rfl) | (rw [if_neg (by decide +kernel)]; exact ⟨rfl, rfl⟩))
    (fun os started H enc _ => lifted os started H enc)
/-- The statement: the row, and what it lists tied to the program's text. -/
theorem proved : Rows.FrameFlipsCardSaid :=
  Claim7.holds_tied_plain_at .later [] [.data, .data, .data, .data, .sentinel, .sentinel] true _ true
    over (fun _ h => by cases h) (by kernel_rfl) (fun _ h => by cases h) frameFlips_row_tie rfl ⟨rfl, rfl⟩ (by kernel_rfl) rfl
    (fun f fn hf hfn => by
      obtain rfl : f = 7 := Option.some.inj ((show Tryd.prog.funcNamed "bellbuoy/bellbuoylaw06.FrameFlips" = some 7 by kernel_rfl).symm.trans hf) |>.symm
      obtain rfl : fn = Tryd.f7 := (Option.some.inj (Tryd.func7.symm.trans hfn)).symm
      exact ⟨by kernel_rfl, fun j t ht => by
        rw [Tryd.params7] at ht
        have hm : t ∈ [27, 5] := by simpa using Array.mem_of_getElem? ht
        have hall : ([27, 5].all fun u => !Tryd.prog.wantsStandIn u) = true := by kernel_rfl
        exact (show Tryd.prog.wantsStandIn t = false by simpa using List.all_eq_true.1 hall t hm)⟩)
    (by kernel_rfl)
end Go.Proofs.YtmfnkfiocnngeaaDoor.frameFlips
