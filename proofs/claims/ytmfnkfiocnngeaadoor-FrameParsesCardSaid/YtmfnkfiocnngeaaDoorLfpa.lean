/- The statement of P6.1 and P6.2 (FrameParses): what any bits are as a body, and how many these are. Conditions: the listed variables' cells hold what the program's own text lays in them (tied). -/
import Derived.Test.YtmfnkfiocnngeaaDoorRows
import Derived.Test.YtmfnkfiocnngeaaDoorRdg
import Derived.Test.YtmfnkfiocnngeaaDoorWri
import Derived.Test.YtmfnkfiocnngeaaDoorLia
import Derived.Test.YtmfnkfiocnngeaaDoorCru
import Derived.Test.YtmfnkfiocnngeaaDoorBat
import Derived.WalkKit
import Derived.ProofKit
import Derived.OpenShut
import Derived.ShutString
import Derived.ChangeOld
import Derived.Below
namespace Go.Proofs.YtmfnkfiocnngeaaDoor.frameParses
open Go.ChangeShapes Go.WideShapes Go.ChangeAt Go.RowKit
theorem own : ownKnob Tryd.prog.godebug = none := by kernel_rfl
theorem laidOut : laidOutB Tryd.prog = true := by kernel_rfl
set_option maxRecDepth 100000 in
set_option maxHeartbeats 8000000 in
theorem walk (a1 : Option Addr) (len1 cap1 : Nat) (z1 : List Int) (w : World) (w1 : IsRow w a1 len1 cap1 z1) (h0 : 1 < w.heap.size) (hT : Tab w) :
    Calls Tryd.prog 4 #[.slice a1 len1 cap1] w fun e w' => e = .returned (.bool true) ∧ Below w.heap.size w w' := by
  obtain ⟨bs0, _, hI⟩ := isRow_str w1
  have HFW := Lib.hid (few3_any a1 len1 cap1 bs0 w hI)
  have HLV := Lib.hid (fun u (hu : Below w.heap.size w u) => live6 u (Nat.lt_of_lt_of_le h0 hu.size) (hT.onB hu h0))
  obtain ⟨bs, hbs⟩ : ∃ bs, bs = bs0.take 200 := ⟨_, rfl⟩
  have hl : bs.length ≤ 1000 := by rw [hbs, List.length_take]; omega
  rw [← hbs] at HFW
  obtain ⟨e, n, q, m, x0, x1, x2, x3, x4, x5, x6, x7, p, c, hdc, _, _⟩ := pr_form (bitsOf bs)
  obtain ⟨qs, ok, hqs⟩ : ∃ (qs : Nat) (ok : Bool), (sizeB (bitsOf bs)).getD 0 = qs ∧ (sizeB (bitsOf bs)).isSome = ok := ⟨_, _, rfl, rfl⟩
  have HZ1 := Lib.hid (show ∀ u, ∀ a l c', Str u.heap.size u (.slice a l c') bs → Calls Tryd.prog 24 #[.slice a l c'] u fun x w' => x = .returned (.tuple #[.int .i64 (qs : Int), .bool ok]) ∧ Below u.heap.size u w' from fun u a l c' hs => by
    have h := frameSize_any a l c' bs hl u hs
    rw [hqs.1, hqs.2] at h
    exact h)
  have HZ2 := Lib.hid (show ∀ u, ∀ a l c', Str u.heap.size u (.slice a l c') bs → Calls Tryd.prog 25 #[.slice a l c'] u fun x w' => x = .returned (.tuple #[.int .i64 (qs : Int), .bool ok]) ∧ Below u.heap.size u w' from fun u a l c' hs => by
    have h := ref6Size_any a l c' bs u hs
    rw [hqs.1, hqs.2] at h
    exact h)
  simp only [frameV, frameC, List.map] at hdc
  have HDE := Lib.hid (show ∀ u, Below w.heap.size w u → ∀ a l c', Str u.heap.size u (.slice a l c') bs → Calls Tryd.prog 22 #[.slice a l c'] u fun x w' => x = .returned (.tuple #[.agg #[.bool e, .int .u32 (n : Int), .bool q, .int .i64 (m : Int), .int .u8 (x0 : Int), .int .u8 (x1 : Int), .int .u8 (x2 : Int), .int .u8 (x3 : Int), .int .u8 (x4 : Int), .int .u8 (x5 : Int), .int .u8 (x6 : Int), .int .u8 (x7 : Int)], .int .i64 (p : Nat), .int .i64 (c : Nat)]) ∧ Below u.heap.size u w' from fun u hu a l c' hs => by
    have h := frameParse_any a l c' bs hl u (Nat.lt_of_lt_of_le h0 hu.size) (hT.onB hu h0) hs
    rw [hdc] at h
    exact h)
  have HRD := Lib.hid (show ∀ u, ∀ a l c', Str u.heap.size u (.slice a l c') bs → Calls Tryd.prog 23 #[.slice a l c'] u fun x w' => x = .returned (.tuple #[.agg #[.bool e, .int .u32 (n : Int), .bool q, .int .i64 (m : Int), .int .u8 (x0 : Int), .int .u8 (x1 : Int), .int .u8 (x2 : Int), .int .u8 (x3 : Int), .int .u8 (x4 : Int), .int .u8 (x5 : Int), .int .u8 (x6 : Int), .int .u8 (x7 : Int)], .int .i64 (p : Nat), .int .i64 (c : Nat)]) ∧ Below u.heap.size u w' from fun u a l c' hs => by
    have h := ref6Parse_any a l c' bs hl u hs
    rw [hdc] at h
    exact h)
  have heq : ∀ u : World, Sem.run Tryd.prog (Op.equalIn 9999 25 (.agg #[.int .u8 (x0 : Int), .int .u8 (x1 : Int), .int .u8 (x2 : Int), .int .u8 (x3 : Int), .int .u8 (x4 : Int), .int .u8 (x5 : Int), .int .u8 (x6 : Int), .int .u8 (x7 : Int)]) (.agg #[.int .u8 (x0 : Int), .int .u8 (x1 : Int), .int .u8 (x2 : Int), .int .u8 (x3 : Int), .int .u8 (x4 : Int), .int .u8 (x5 : Int), .int .u8 (x6 : Int), .int .u8 (x7 : Int)])) u = .ok true u := fun u => frame_same 9997 x0 x1 x2 x3 x4 x5 x6 x7 u
  clear hI hbs hl hdc hqs h0 hT w1
  go_enter Tryd.func4, Tryd.ntmps4
  go_wp2_with fail
  refine HFW.out.mono ?_
  rintro x w2 ⟨⟨a, l, cc, rfl, hs⟩, rfl⟩
  have HS := Lib.hid hs
  clear hs HFW
  go_wp2_with fail
  refine (HDE.out _ (Below.refl _ _) a l cc HS.out).mono ?_
  rintro x w3 ⟨rfl, hb3⟩
  have HB3 := Lib.hid (show Below w.heap.size w (w3.alloc (.cells #[.bool e, .int .u32 (n : Int), .bool q, .int .i64 (m : Int), .int .u8 (x0 : Int), .int .u8 (x1 : Int), .int .u8 (x2 : Int), .int .u8 (x3 : Int), .int .u8 (x4 : Int), .int .u8 (x5 : Int), .int .u8 (x6 : Int), .int .u8 (x7 : Int)] 27)) from hb3.alloc hb3.size _)
  have HF3 := Lib.hid (show FrameAt (w3.alloc (.cells #[.bool e, .int .u32 (n : Int), .bool q, .int .i64 (m : Int), .int .u8 (x0 : Int), .int .u8 (x1 : Int), .int .u8 (x2 : Int), .int .u8 (x3 : Int), .int .u8 (x4 : Int), .int .u8 (x5 : Int), .int .u8 (x6 : Int), .int .u8 (x7 : Int)] 27)) w3.heap.size e n q (m : Int) [x0, x1, x2, x3, x4, x5, x6, x7] from FrameAt.new w3 27 e n q (m : Int) [x0, x1, x2, x3, x4, x5, x6, x7] rfl)
  have hn3 : w3.heap.size < (w3.alloc (.cells #[.bool e, .int .u32 (n : Int), .bool q, .int .i64 (m : Int), .int .u8 (x0 : Int), .int .u8 (x1 : Int), .int .u8 (x2 : Int), .int .u8 (x3 : Int), .int .u8 (x4 : Int), .int .u8 (x5 : Int), .int .u8 (x6 : Int), .int .u8 (x7 : Int)] 27)).heap.size := by simp
  have hle3 := hb3.size
  obtain ⟨W3, hW3⟩ : ∃ W3, W3 = w3.alloc (.cells #[.bool e, .int .u32 (n : Int), .bool q, .int .i64 (m : Int), .int .u8 (x0 : Int), .int .u8 (x1 : Int), .int .u8 (x2 : Int), .int .u8 (x3 : Int), .int .u8 (x4 : Int), .int .u8 (x5 : Int), .int .u8 (x6 : Int), .int .u8 (x7 : Int)] 27) := ⟨_, rfl⟩
  rw [← hW3] at HB3 HF3 hn3
  clear hb3 HDE
  go_wp2_with fail
  rw [← hW3]
  clear hW3
  obtain ⟨D, hD⟩ : ∃ D, D = w3.heap.size := ⟨_, rfl⟩
  rw [← hD] at HF3 hn3 hle3 ⊢
  clear hD
  refine (HRD.out _ a l cc ((HS.out.below HB3.out).mono HB3.out.size)).mono ?_
  rintro x w4 ⟨rfl, hb4⟩
  have HB4 := Lib.hid (below_trans' HB3.out hb4)
  have HF4 := Lib.hid ((HF3.out.keep hb4 hn3).more (Nat.lt_of_lt_of_le hn3 hb4.size) (.cells #[.bool e, .int .u32 (n : Int), .bool q, .int .i64 (m : Int), .int .u8 (x0 : Int), .int .u8 (x1 : Int), .int .u8 (x2 : Int), .int .u8 (x3 : Int), .int .u8 (x4 : Int), .int .u8 (x5 : Int), .int .u8 (x6 : Int), .int .u8 (x7 : Int)] 27))
  have HG4 := Lib.hid (show FrameAt (w4.alloc (.cells #[.bool e, .int .u32 (n : Int), .bool q, .int .i64 (m : Int), .int .u8 (x0 : Int), .int .u8 (x1 : Int), .int .u8 (x2 : Int), .int .u8 (x3 : Int), .int .u8 (x4 : Int), .int .u8 (x5 : Int), .int .u8 (x6 : Int), .int .u8 (x7 : Int)] 27)) w4.heap.size e n q (m : Int) [x0, x1, x2, x3, x4, x5, x6, x7] from FrameAt.new w4 27 e n q (m : Int) [x0, x1, x2, x3, x4, x5, x6, x7] rfl)
  have HB5 := Lib.hid (show Below w.heap.size w (w4.alloc (.cells #[.bool e, .int .u32 (n : Int), .bool q, .int .i64 (m : Int), .int .u8 (x0 : Int), .int .u8 (x1 : Int), .int .u8 (x2 : Int), .int .u8 (x3 : Int), .int .u8 (x4 : Int), .int .u8 (x5 : Int), .int .u8 (x6 : Int), .int .u8 (x7 : Int)] 27)) from HB4.out.alloc HB4.out.size _)
  obtain ⟨W5, hW5⟩ : ∃ W5, W5 = w4.alloc (.cells #[.bool e, .int .u32 (n : Int), .bool q, .int .i64 (m : Int), .int .u8 (x0 : Int), .int .u8 (x1 : Int), .int .u8 (x2 : Int), .int .u8 (x3 : Int), .int .u8 (x4 : Int), .int .u8 (x5 : Int), .int .u8 (x6 : Int), .int .u8 (x7 : Int)] 27) := ⟨_, rfl⟩
  have hn5 : D < W5.heap.size ∧ w4.heap.size < W5.heap.size := by rw [hW5]; simp; have := hb4.size; omega
  rw [← hW5] at HF4 HG4 HB5
  clear hb4 HRD
  go_wp2_with fail
  rw [← hW5]
  clear hW5
  refine (HZ1.out _ a l cc ((HS.out.below HB5.out).mono HB5.out.size)).mono ?_
  rintro x w6 ⟨rfl, hb⟩
  have HB6 := Lib.hid (below_trans' HB5.out hb)
  have HF6 := Lib.hid (HF4.out.keep hb hn5.1); have HG6 := Lib.hid (HG4.out.keep hb hn5.2)
  have hn6 : D < w6.heap.size ∧ w4.heap.size < w6.heap.size := by have := hb.size; omega
  clear hb
  go_wp2_with fail
  refine (HZ2.out _ a l cc ((HS.out.below HB6.out).mono HB6.out.size)).mono ?_
  rintro x w7 ⟨rfl, hb⟩
  have HB7 := Lib.hid (below_trans' HB6.out hb)
  have HF7 := Lib.hid (HF6.out.keep hb hn6.1); have HG7 := Lib.hid (HG6.out.keep hb hn6.2)
  have hn7 : D < w7.heap.size ∧ w4.heap.size < w7.heap.size := by have := hb.size; omega
  clear hb
  go_wp2_with fail
  refine (HLV.out _ HB7.out).mono ?_
  rintro x wz ⟨rfl, hbz⟩
  have HBZ := Lib.hid (below_trans' HB7.out hbz)
  obtain ⟨c0, c1, c2, c3, c4, c5, c6, c7, c8, c9, c10, c11⟩ := (HF7.out.keep hbz hn7.1).cells
  obtain ⟨k0, k1, k2, k3, k4, k5, k6, k7, k8, k9, k10, k11⟩ := (HG7.out.keep hbz hn7.2).cells
  clear hbz hn5 hn3 hle3 hn6 hn7
  go_wp2_with fail
  go_ret
  exact ⟨rfl, HBZ.out⟩
theorem door_met (os : Os) (args : Array Value) : laidMetH Tryd.prog laidD6 ((World.doorLaid Tryd.prog 400 os).forCall (fun _ _ => 0) ⟨#[], args, []⟩).memory :=
  laidMetH_of_parts3 (fuel := 8) (laidMet_of_run' 8 (by kernel_rfl) (by kernel_rfl)) (by kernel_rfl) (by kernel_rfl)
set_option maxRecDepth 100000 in
theorem lifted (os : Os) (started : os.Started) (H : Type) (enc : TypeId × Value → H) :
    ReturnsInHanded {} Tryd.checked os 4 .any (fun w args => (Rows.frameParsesSpec.pre enc Tryd.prog Tryd.f4 [] false w args ∧ laidMetH Tryd.prog laidD6 w) ∧ sizedMet enc Tryd.prog Tryd.f4 (OpenSpec.ofChange Rows.frameParsesSpec) false w args)
      (Rows.frameParsesSpec.post enc Tryd.prog Tryd.f4 false true false false) := by
  refine returnsInHanded_of_change_and (C := Tryd.checked) (X := fun w _ => laidMetH Tryd.prog laidD6 w) (fun _ _ _ hh h => h.of_heap hh) own started (by kernel_rfl) Tryd.func4
    (ChangeSpec.witness_shaped (enc := enc) (C := Tryd.checked) (os := os) (X := fun w _ => laidMetH Tryd.prog laidD6 w) false (World.doorLaid Tryd.prog 400 os) #[.slice none 0 0] 8 rfl (World.shaped_of_RefB (by kernel_rfl) (by kernel_rfl)) (by kernel_rfl) (by kernel_rfl) (by kernel_rfl) (door_met os _)) ?_
  intro W base args ds gs before hval0 hW _ _ hL _
  have hval : ∀ (j : Nat) t v, Tryd.f4.params[j]? = some t → args[j]? = some v → Value.okWide Tryd.prog W .any base t v := hval0
  have hW' := hW
  obtain ⟨p, q, hA0, hV, rfl, hfz, hnd⟩ := hW
  have hA : DataW.TrodAll enc Tryd.prog W 0 (fun _ => true) true Tryd.f4.params.toList args.toList ds p := hA0
  rw [Tryd.params4] at hA hval
  obtain ⟨v0, vs0, d0, ds0, p0, q0, hargs, rfl, rfl, h0, r0⟩ := trodAll_cons hA
  obtain ⟨rfl, rfl, rfl⟩ := trodAll_nil r0
  obtain rfl : args = #[v0] := by cases args; simp_all
  obtain ⟨rfl, rfl⟩ := trodVars_none hV
  obtain ⟨a0, len0, cap0, rfl⟩ := okWide_slice Tryd.underlying34 (hval 0 34 v0 rfl rfl)
  have k0 := h0
  have lt0 : ∀ x ∈ p0, x.block < W.heap.size := by obtain ⟨m, hm⟩ := k0; exact DataW.trod_lt m _ _ _ hm
  obtain ⟨z0, w0⟩ : ∃ zs, IsRow W a0 len0 cap0 zs := by
    obtain ⟨fuel, hf⟩ := h0
    rcases open_ints Tryd.underlying34 Tryd.underlying5 (by kernel_rfl) hf with ⟨hcs, _⟩ | ⟨x, l, c, zs, hcs, _, hl, hm, hz, _, hcell, hwz⟩
    · simp [Value.cells] at hcs
      obtain ⟨rfl, rfl, rfl⟩ := hcs
      exact ⟨[], .inl ⟨rfl, rfl, rfl, rfl⟩⟩
    · simp [Value.cells] at hcs
      obtain ⟨rfl, rfl, rfl⟩ := hcs
      exact ⟨zs, .inr ⟨_, rfl, hl, hm, by simpa using hz, hcell, hwz⟩⟩
  clear hA0 hval0
  obtain ⟨hTab, hsz0⟩ := tab_of_laid6 hL
  refine (walk a0 len0 cap0 z0 W w0 hsz0 hTab).mono fun e W' ⟨he, bel⟩ => ?_
  subst he
  exact ⟨_, rfl, _, _, _, [], _, [], hW', trodAll_mk1 (shut_bool Tryd.underlying4 _), (trodAll_cons_mk (Below.trod laidOut (by kernel_rfl) (of_decide_eq_true (by kernel_rfl)) k0 bel lt0) trodAll_mk0), rfl, bel.frame _, fun h => by cases h⟩
theorem over : Rows.frameParsesRow.holds Tryd.pinned (OpenSpec.ofChange Rows.frameParsesSpec) :=
  OpenClaim.holds_of_wide 4 Tryd.f4 rfl rfl rfl rfl rfl rfl rfl ⟨rfl, rfl, rfl, rfl, rfl⟩ rfl rfl rfl rfl rfl (by kernel_rfl) Tryd.func4 (by kernel_rfl)
    (of_decide_eq_true (by kernel_rfl)) (by unfold Func.isWrapper; first | (rw [if_pos (by decide +kernel)]; kernel_rfl) | (rw [if_neg (by decide +kernel)]; exact ⟨rfl, rfl⟩))
    (fun os started H enc _ => lifted os started H enc)
/-- The statement: the row, and what it lists tied to the program's text. -/
theorem proved : Rows.FrameParsesCardSaid :=
  Claim7.holds_tied_plain_at .later [] [.data, .data, .data, .data, .sentinel, .sentinel] true _ true
    over (fun _ h => by cases h) (by kernel_rfl) (fun _ h => by cases h) frameParses_row_tie rfl ⟨rfl, rfl⟩ (by kernel_rfl) rfl
    (fun f fn hf hfn => by
      obtain rfl : f = 4 := Option.some.inj ((show Tryd.prog.funcNamed "bellbuoy/bellbuoylaw06.FrameParses" = some 4 by kernel_rfl).symm.trans hf) |>.symm
      obtain rfl : fn = Tryd.f4 := (Option.some.inj (Tryd.func4.symm.trans hfn)).symm
      exact ⟨by kernel_rfl, fun j t ht => by
        rw [Tryd.params4] at ht
        have hm : t ∈ [34] := by simpa using Array.mem_of_getElem? ht
        have hall : ([34].all fun u => !Tryd.prog.wantsStandIn u) = true := by kernel_rfl
        exact (show Tryd.prog.wantsStandIn t = false by simpa using List.all_eq_true.1 hall t hm)⟩)
    (by kernel_rfl)
end Go.Proofs.YtmfnkfiocnngeaaDoor.frameParses
