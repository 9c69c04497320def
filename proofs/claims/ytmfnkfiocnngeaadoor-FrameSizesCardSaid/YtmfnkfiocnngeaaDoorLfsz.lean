/- The statement of P6.5 (FrameSizes): how many bits a body has is told by its beginning, the same from wherever it is told. Conditions: the listed variables' cells hold what the program's own text lays in them (tied). -/
import Derived.Test.YtmfnkfiocnngeaaDoorRows
import Derived.Test.YtmfnkfiocnngeaaDoorRdg
import Derived.Test.YtmfnkfiocnngeaaDoorWri
import Derived.Test.YtmfnkfiocnngeaaDoorOpe
import Derived.Test.YtmfnkfiocnngeaaDoorCru
import Derived.Test.YtmfnkfiocnngeaaDoorBat
import Derived.WalkKit
import Derived.ProofKit
import Derived.OpenShut
import Derived.ShutString
import Derived.ChangeOld
import Derived.Below
namespace Go.Proofs.YtmfnkfiocnngeaaDoor.frameSizes
open Go.ChangeShapes Go.WideShapes Go.ChangeAt Go.RowKit
theorem own : ownKnob Tryd.prog.godebug = none := by kernel_rfl
theorem laidOut : laidOutB Tryd.prog = true := by kernel_rfl
set_option maxRecDepth 100000 in
set_option maxHeartbeats 8000000 in
theorem walk (e0 : Bool) (n0 : Nat) (q0 : Bool) (l0 : Int) (x0 : List Nat) (n : Int) (w0 : n0 < 4294967296 ∧ x0.length = 8 ∧ ∀ y ∈ x0, y < 256) (hn : (Lit.int .u8 n).wf = true) (w : World) (h0 : 1 < w.heap.size) (hT : Tab w) :
    Calls Tryd.prog 6 #[frameV e0 n0 q0 l0 x0, .int .u8 n] w fun e w' => e = .returned (.bool true) ∧ Below w.heap.size w w' := by
  obtain ⟨hn0, hx0, hb0⟩ := w0
  have hr : 0 ≤ n ∧ n ≤ 255 := by
    simp [Lit.wf, IntKind.min, IntKind.max, IntKind.bits, IntKind.signed] at hn
    omega
  clear hn
  obtain ⟨g0, g1⟩ := hr
  have hw0 : IntKind.i64.wrap n = n := by rw [IntKind.wrap_i64]; omega
  have HLV := Lib.hid (fun u (hu : Below w.heap.size w u) => live6 u (Nat.lt_of_lt_of_le h0 hu.size) (hT.onB hu h0))
  have HFA := Lib.hid (FrameAt.new w 27 e0 n0 q0 l0 x0 hx0)
  by_cases hok : rightF e0 n0 q0 l0 x0 = 0
  · obtain ⟨m, rfl⟩ : ∃ m : Nat, l0 = m := by
      by_cases hneg : l0 < 0
      · exfalso
        unfold rightF at hok
        split at hok
        · exact absurd hok (by decide)
        · rw [if_pos (.inl hneg)] at hok; exact absurd hok (by decide)
      · exact ⟨l0.toNat, by omega⟩
    obtain ⟨hri, hm8, _⟩ := rightF_data hok
    have HRB := Lib.hid (fun u => ref6Body_yes e0 n0 hn0 q0 m x0 hx0 hb0 hok u)
    have hble := bodyB_le e0 n0 q0 m x0
    have hbl := bodyB_length (r := q0) (len := m) (data := x0) hri
    have hszb := size_body (r := q0) (data := x0) hri hm8 []
    rw [List.append_nil] at hszb
    have hbeg := fun j k => size_begin (e := e0) (n := n0) (r := q0) (len := m) (j := j) (k := k) (data := x0) hri hm8
    have hs118 : 34 ≤ sizeN e0 q0 m ∧ sizeN e0 q0 m ≤ 200 := by unfold sizeN; cases e0 <;> cases q0 <;> simp <;> omega
    obtain ⟨Bo, hBo⟩ : ∃ Bo, Bo = bodyB e0 n0 q0 m x0 := ⟨_, rfl⟩
    rw [← hBo] at HRB hble hbl hszb hbeg
    obtain ⟨N, hN⟩ : ∃ N, N = Bo.length := ⟨_, rfl⟩
    rw [← hN] at hbl hszb hbeg
    rw [← hbl] at hs118
    obtain ⟨j, hj⟩ : ∃ j : Nat, (j : Int) = n.tmod ((N : Int) + 1) := ⟨(n.tmod ((N : Int) + 1)).toNat, by rw [Int.tmod_eq_emod_of_nonneg g0]; have := Int.emod_nonneg n (b := (N : Int) + 1) (by omega); omega⟩
    have hjN : j ≤ N := by
      rw [Int.tmod_eq_emod_of_nonneg g0] at hj
      have := Int.emod_lt_of_pos n (b := (N : Int) + 1) (by omega)
      omega
    have hrem : n.tmod ((N : Int) + 1) = (j : Int) := hj.symm
    have hw1 : IntKind.i64.wrap ((N : Int) + 1) = (N : Int) + 1 := by rw [IntKind.wrap_i64]; omega
    obtain ⟨q, ok, hq⟩ : ∃ (q : Nat) (ok : Bool), (sizeB (Bo.take j)).getD 0 = q ∧ (sizeB (Bo.take j)).isSome = ok := ⟨_, _, rfl, rfl⟩
    have HOK := Lib.hid (show ok = true → q = N from fun h => by
      rw [h] at hq
      obtain ⟨k, hk⟩ := Option.isSome_iff_exists.1 hq.2
      have h2 := hbeg j k hk
      rw [hk] at hq
      rw [← hq.1, h2]
      rfl)
    have HS1 := Lib.hid (show ∀ u a cap, Str u.heap.size u (.slice a j cap) (Bo.take j) → Calls Tryd.prog 24 #[.slice a j cap] u fun x w' => x = .returned (.tuple #[.int .i64 (q : Int), .bool ok]) ∧ Below u.heap.size u w' from fun u a cap hs => by
      have h := frameSize_any a j cap (Bo.take j) (by rw [List.length_take]; omega) u hs
      rw [bitsOf_self (fun x hx => hble x (List.mem_of_mem_take hx)), hq.1, hq.2] at h
      exact h)
    have HS2 := Lib.hid (show ∀ u a cap, Str u.heap.size u (.slice a N cap) Bo → Calls Tryd.prog 24 #[.slice a N cap] u fun x w' => x = .returned (.tuple #[.int .i64 (N : Int), .bool true]) ∧ Below u.heap.size u w' from fun u a cap hs => by
      have h := frameSize_any a N cap Bo (by omega) u hs
      rw [bitsOf_self hble, hszb] at h
      exact h)
    have HN := Lib.hid hN
    obtain ⟨x0, x1, x2, x3, x4, x5, x6, x7, rfl⟩ := eight hx0
    simp only [frameV, frameC, List.map] at HRB HFA ⊢
    obtain ⟨c0, c1, c2, c3, c4, c5, c6, c7, c8, c9, c10, c11⟩ := HFA.out.cells
    have i0 : ((N : Int) == 0) = false := by rw [beq_eq_false_iff_ne]; omega
    have i3 : (0 : Int) ≤ (j : Int) := by omega
    clear hok hri hm8 hble hbl hszb hbeg hBo hN hj hq hx0 hb0 hn0 h0 hT
    go_enter Tryd.func6, Tryd.ntmps6
    go_wp2_with fail
    refine (HRB.out _).mono ?_
    rintro y w2 ⟨v, rfl, ho, hb⟩
    obtain ⟨a, cap, rfl⟩ := ho.shape
    rw [← HN.out] at ho ⊢
    have HO2 := Lib.hid ho
    have hlc := ho.lenCap
    rw [← HN.out] at hlc
    have i4 : (j : Int) ≤ (cap : Int) := by omega
    have HB2 := Lib.hid (below_trans' ((Below.refl _ w).alloc (Nat.le_refl _) _) hb)
    have HT2 := Lib.hid (ho.take (n := j) (by rw [← HN.out]; exact hjN))
    clear ho hb hlc c0 c1 c2 c3 c4 c5 c6 c7 c8 c9 c10 c11
    go_wp2_with fail
    refine (HS1.out _ _ _ HT2.out.str).mono ?_
    rintro y w3 ⟨rfl, hb⟩
    have HB3 := Lib.hid (below_trans' HB2.out hb); have HO3 := Lib.hid (HO2.out.on hb)
    clear hb
    go_wp2_with fail
    refine (HS2.out _ _ _ HO3.out.str).mono ?_
    rintro y w4 ⟨rfl, hb⟩
    have HB4 := Lib.hid (below_trans' HB3.out hb)
    clear hb
    cases ok
    · go_wp2_with fail
      refine (HLV.out _ HB4.out).mono ?_
      rintro x w5 ⟨rfl, hb⟩
      have HB5 := Lib.hid (below_trans' HB4.out hb)
      clear hb
      go_wp2_with fail
      go_ret
      exact ⟨rfl, HB5.out⟩
    · obtain rfl : q = N := HOK.out rfl
      go_wp2_with fail
      refine (HLV.out _ HB4.out).mono ?_
      rintro x w5 ⟨rfl, hb⟩
      have HB5 := Lib.hid (below_trans' HB4.out hb)
      clear hb
      go_wp2_with fail
      go_ret
      exact ⟨rfl, HB5.out⟩
  · have HRB := Lib.hid (fun u => ref6Body_no e0 n0 q0 l0 x0 hx0 hok u)
    obtain ⟨x0, x1, x2, x3, x4, x5, x6, x7, rfl⟩ := eight hx0
    simp only [frameV, frameC, List.map] at HRB HFA ⊢
    obtain ⟨c0, c1, c2, c3, c4, c5, c6, c7, c8, c9, c10, c11⟩ := HFA.out.cells
    clear hok hx0 hb0 hn0 h0 hT
    go_enter Tryd.func6, Tryd.ntmps6
    go_wp2_with fail
    refine (HRB.out _).mono ?_
    rintro x wb ⟨rfl, hb⟩
    have HBb := Lib.hid (below_trans' ((Below.refl _ w).alloc (Nat.le_refl _) _) hb)
    clear hb
    go_wp2_with fail
    refine (HLV.out _ HBb.out).mono ?_
    rintro x wd ⟨rfl, hb⟩
    have HBd := Lib.hid (below_trans' HBb.out hb)
    clear hb
    go_wp2_with fail
    go_ret
    exact ⟨rfl, HBd.out⟩
theorem door_met (os : Os) (args : Array Value) : laidMetH Tryd.prog laidD6 ((World.doorLaid Tryd.prog 400 os).forCall (fun _ _ => 0) ⟨#[], args, []⟩).memory :=
  laidMetH_of_parts3 (fuel := 8) (laidMet_of_run' 8 (by kernel_rfl) (by kernel_rfl)) (by kernel_rfl) (by kernel_rfl)
set_option maxRecDepth 100000 in
theorem lifted (os : Os) (started : os.Started) (H : Type) (enc : TypeId × Value → H) :
    ReturnsInHanded {} Tryd.checked os 6 .any (fun w args => (Rows.frameSizesSpec.pre enc Tryd.prog Tryd.f6 [] false w args ∧ laidMetH Tryd.prog laidD6 w) ∧ sizedMet enc Tryd.prog Tryd.f6 (OpenSpec.ofChange Rows.frameSizesSpec) false w args)
      (Rows.frameSizesSpec.post enc Tryd.prog Tryd.f6 false true false false) := by
  refine returnsInHanded_of_change_and (C := Tryd.checked) (X := fun w _ => laidMetH Tryd.prog laidD6 w) (fun _ _ _ hh h => h.of_heap hh) own started (by kernel_rfl) Tryd.func6
    (ChangeSpec.witness_shaped (enc := enc) (C := Tryd.checked) (os := os) (X := fun w _ => laidMetH Tryd.prog laidD6 w) false (World.doorLaid Tryd.prog 400 os) #[.agg #[.bool false, .int .u32 0, .bool false, .int .i64 0, .int .u8 0, .int .u8 0, .int .u8 0, .int .u8 0, .int .u8 0, .int .u8 0, .int .u8 0, .int .u8 0], .int .u8 0] 8 rfl (World.shaped_of_RefB (by kernel_rfl) (by kernel_rfl)) (by kernel_rfl) (by kernel_rfl) (by kernel_rfl) (door_met os _)) ?_
  intro W base args ds gs before hval0 hW _ _ hL _
  have hval : ∀ (j : Nat) t v, Tryd.f6.params[j]? = some t → args[j]? = some v → Value.okWide Tryd.prog W .any base t v := hval0
  have hW' := hW
  obtain ⟨p, q, hA0, hV, rfl, hfz, hnd⟩ := hW
  have hA : DataW.TrodAll enc Tryd.prog W 0 (fun _ => true) true Tryd.f6.params.toList args.toList ds p := hA0
  rw [Tryd.params6] at hA hval
  obtain ⟨v0, vs0, d0, ds0, p0, q0, hargs, rfl, rfl, h0, r0⟩ := trodAll_cons hA
  obtain ⟨v1, vs1, d1, ds1, p1, q1, rfl, rfl, rfl, h1, r1⟩ := trodAll_cons r0
  obtain ⟨rfl, rfl, rfl⟩ := trodAll_nil r1
  obtain rfl : args = #[v0, v1] := by cases args; simp_all
  obtain ⟨rfl, rfl⟩ := trodVars_none hV
  have k0 := h0
  have lt0 : ∀ x ∈ p0, x.block < W.heap.size := by obtain ⟨m, hm⟩ := k0; exact DataW.trod_lt m _ _ _ hm
  obtain ⟨e0, n0, q0, l0, x0, rfl, w0⟩ := open_frame (hval 0 27 v0 rfl rfl) h0
  obtain ⟨a1, rfl, rfl, rfl, w1⟩ := open_int Tryd.underlying5 (hval 1 5 v1 rfl rfl) h1
  clear hA0 hval0
  obtain ⟨hTab, hsz0⟩ := tab_of_laid6 hL
  refine (walk e0 n0 q0 l0 x0 a1 w0 w1 W hsz0 hTab).mono fun e W' ⟨he, bel⟩ => ?_
  subst he
  exact ⟨_, rfl, _, _, _, [], _, [], hW', trodAll_mk1 (shut_bool Tryd.underlying4 _), (trodAll_cons_mk (Below.trod laidOut (by kernel_rfl) (of_decide_eq_true (by kernel_rfl)) k0 bel lt0) (trodAll_cons_mk (shut_int Tryd.underlying5 w1) trodAll_mk0)), rfl, bel.frame _, fun h => by cases h⟩
theorem over : Rows.frameSizesRow.holds Tryd.pinned (OpenSpec.ofChange Rows.frameSizesSpec) :=
  OpenClaim.holds_of_wide 6 Tryd.f6 rfl rfl rfl rfl rfl rfl rfl ⟨rfl, rfl, rfl, rfl, rfl⟩ rfl rfl rfl rfl rfl (by kernel_rfl) Tryd.func6 (by kernel_rfl)
    (of_decide_eq_true (by kernel_rfl)) (by unfold Func.isWrapper; first | (rw [if_pos (by decide +kernel)]; kernel_rfl) | (rw [if_neg (by decide +kernel)]; exact ⟨rfl, rfl⟩))
    (fun os started H enc _ => lifted os started H enc)
/-- The statement: the row, and what it lists tied to the program's text. -/
theorem proved : Rows.FrameSizesCardSaid :=
  Claim7.holds_tied_plain_at .later [] [.data, .data, .data, .data, .sentinel, .sentinel] true _ true
    over (fun _ h => by cases h) (by kernel_rfl) (fun _ h => by cases h) frameSizes_row_tie rfl ⟨rfl, rfl⟩ (by kernel_rfl) rfl
    (fun f fn hf hfn => by
      obtain rfl : f = 6 := Option.some.inj ((show Tryd.prog.funcNamed "bellbuoy/bellbuoylaw06.FrameSizes" = some 6 by kernel_rfl).symm.trans hf) |>.symm
      obtain rfl : fn = Tryd.f6 := (Option.some.inj (Tryd.func6.symm.trans hfn)).symm
      exact ⟨by kernel_rfl, fun j t ht => by
        rw [Tryd.params6] at ht
        have hm : t ∈ [27, 5] := by simpa using Array.mem_of_getElem? ht
        have hall : ([27, 5].all fun u => !Tryd.prog.wantsStandIn u) = true := by kernel_rfl
        exact (show Tryd.prog.wantsStandIn t = false by simpa using List.all_eq_true.1 hall t hm)⟩)
    (by kernel_rfl)
end Go.Proofs.YtmfnkfiocnngeaaDoor.frameSizes
