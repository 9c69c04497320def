/- InboxOpen (P14.5): of every frame and filter: with its mask set to 0 a filter lets through just what is long or short as it is; an inbox without a filter lets all through. No conditions. -/
import Derived.Test.YtifpifhaajkncaaRows
import Derived.Test.YtifpifhaajkncaaInf
import Derived.Test.YtifpifhaajkncaaOpg
import Derived.WalkKit
import Derived.ProofKit
import Derived.OpenShut
import Derived.ShutString
import Derived.ChangeOld
import Derived.Below
namespace Go.Proofs.Ytifpifhaajkncaa.inboxOpen
open Go.ChangeShapes Go.WideShapes Go.ChangeAt Go.RowKit
theorem own : ownKnob Try.prog.godebug = none := by kernel_rfl
theorem laidOut : laidOutB Try.prog = true := by kernel_rfl
theorem lets_zero (f : Fl) (hw : f.wf) (e : Bool) (n : Int) (hn : 0 ≤ n ∧ n < 4294967296) : letsB [⟨f.x, 0, f.t⟩] e n = (f.x == e) := by
  have h1 := u32_xor f.t n hw.2.1 hw.2.2 hn.1 hn.2
  have hx : f.t.toNat ^^^ n.toNat < 2 ^ 32 := Nat.xor_lt_two_pow (by have := hw.2; omega) (by omega)
  have h2 := u32_and_nat 0 (f.t.toNat ^^^ n.toNat) (by omega) (by omega)
  unfold letsB letF
  simp only [List.isEmpty_cons, Bool.false_or, List.any_cons, List.any_nil, Bool.or_false]
  rw [h1, show bits .and .u32 0 ((f.t.toNat ^^^ n.toNat : Nat) : Int) = 0 from h2.trans (by simp)]
  simp
set_option maxRecDepth 100000 in
set_option maxHeartbeats 8000000 in
theorem walk (e0 : Bool) (n0 : Int) (q0 : Bool) (l0 x0_0 x0_1 x0_2 x0_3 x0_4 x0_5 x0_6 x0_7 : Int) (a1 : Fl) (w0 : 0 ≤ n0 ∧ n0 < 4294967296) (w1 : a1.wf) (w : World) :
    Calls Try.prog 8 #[.agg #[.bool e0, .int .u32 n0, .bool q0, .int .i64 l0, .int .u8 x0_0, .int .u8 x0_1, .int .u8 x0_2, .int .u8 x0_3, .int .u8 x0_4, .int .u8 x0_5, .int .u8 x0_6, .int .u8 x0_7], a1.V] w fun y w' => y = .returned (.bool true) ∧ Below w.heap.size w w' := by
  have HLZ := Lib.hid (lets_zero a1 w1 e0 n0 w0)
  obtain ⟨x, m, t⟩ := a1
  unfold Fl.V
  simp only at HLZ ⊢
  obtain ⟨b, hb⟩ : ∃ b, b = (x == e0) := ⟨_, rfl⟩
  rw [← hb] at HLZ
  have hxe : (x == e0) = b := hb.symm
  have hbb : (b == b) = true := by simp
  clear hb
  obtain ⟨Wa, hWa⟩ : ∃ Wa, Wa = w.alloc (.cells #[.bool e0, .int .u32 n0, .bool q0, .int .i64 l0, .int .u8 x0_0, .int .u8 x0_1, .int .u8 x0_2, .int .u8 x0_3, .int .u8 x0_4, .int .u8 x0_5, .int .u8 x0_6, .int .u8 x0_7] 37) := ⟨_, rfl⟩
  obtain ⟨Wb, hWb⟩ : ∃ Wb, Wb = Wa.alloc (.cells #[.bool x, .int .u32 0, .int .u32 t] 82) := ⟨_, rfl⟩
  have hba : Below w.heap.size w Wa := by rw [hWa]; exact (Below.refl _ w).alloc (Nat.le_refl _) _
  have hbb : Below Wa.heap.size Wa Wb := by rw [hWb]; exact (Below.refl _ Wa).alloc (Nat.le_refl _) _
  have hSa : Blk Wb w.heap.size 37 [.bool e0, .int .u32 n0, .bool q0, .int .i64 l0, .int .u8 x0_0, .int .u8 x0_1, .int .u8 x0_2, .int .u8 x0_3, .int .u8 x0_4, .int .u8 x0_5, .int .u8 x0_6, .int .u8 x0_7] := (show Blk Wa w.heap.size 37 [.bool e0, .int .u32 n0, .bool q0, .int .i64 l0, .int .u8 x0_0, .int .u8 x0_1, .int .u8 x0_2, .int .u8 x0_3, .int .u8 x0_4, .int .u8 x0_5, .int .u8 x0_6, .int .u8 x0_7] by rw [hWa]; exact Blk.new w _ [.bool e0, .int .u32 n0, .bool q0, .int .i64 l0, .int .u8 x0_0, .int .u8 x0_1, .int .u8 x0_2, .int .u8 x0_3, .int .u8 x0_4, .int .u8 x0_5, .int .u8 x0_6, .int .u8 x0_7]).keep hbb (by rw [hWa]; simp)
  have hSb : Blk Wb Wa.heap.size 82 [.bool x, .int .u32 0, .int .u32 t] := by
    rw [hWb]; exact Blk.new Wa 82 [.bool x, .int .u32 0, .int .u32 t]
  have HBb := Lib.hid (hba.trans (hbb.mono hba.size))
  obtain ⟨D, hD⟩ : ∃ D, D = w.heap.size := ⟨_, rfl⟩
  rw [← hD] at hSa
  have hD2 : Wa.heap.size = D + 1 := by rw [hWa, hD]; simp
  rw [hD2] at hSb
  have HSa := Lib.hid hSa; have HSb := Lib.hid hSb
  have d0 := hSa.cellAt (i := 0) (by simp)
  have d1 := hSa.cellAt (i := 1) (by simp)
  have d2 := hSa.cellAt (i := 2) (by simp)
  have d3 := hSa.cellAt (i := 3) (by simp)
  have d4 := hSa.cellAt (i := 4) (by simp)
  have d5 := hSa.cellAt (i := 5) (by simp)
  have d6 := hSa.cellAt (i := 6) (by simp)
  have d7 := hSa.cellAt (i := 7) (by simp)
  have d8 := hSa.cellAt (i := 8) (by simp)
  have d9 := hSa.cellAt (i := 9) (by simp)
  have d10 := hSa.cellAt (i := 10) (by simp)
  have d11 := hSa.cellAt (i := 11) (by simp)
  simp only [List.getElem_cons_zero, List.getElem_cons_succ] at d0 d1 d2 d3 d4 d5 d6 d7 d8 d9 d10 d11
  have b0 := hSb.cellAt (i := 0) (by simp)
  have b1 := hSb.cellAt (i := 1) (by simp)
  have b2 := hSb.cellAt (i := 2) (by simp)
  simp only [List.getElem_cons_zero, List.getElem_cons_succ] at b0 b1 b2
  have HNW := Lib.hid (fun T => inew_any 1 (by decide) (by decide) [⟨x, 0, t⟩] (some ⟨Wb.heap.size, 0, none⟩) 1 1 (by simp) (Wb.alloc (.cells #[.bool x, .int .u32 0, .int .u32 t] T)) (rd_lit Wb T ⟨x, 0, t⟩))
  have HN2 := Lib.hid (fun u => inew_any 1 (by decide) (by decide) [] none 0 0 (by decide) u (rd_nil u))
  clear hSa hSb hba hbb w0 w1
  go_enter Try.func8, Try.ntmps8
  go_upto_region 2 with fail
  rw [← hWa, ← hD, ← hWb]
  clear hWa hWb hD hD2
  go_wp2_with fail
  refine (HNW.out _).mono ?_
  rintro y wi ⟨B, fv, rfl, hBB, hI, hfv, hb⟩
  have hb' := ((Below.refl _ Wb).alloc (Nat.le_refl _) (.cells #[.bool x, .int .u32 0, .int .u32 t] 82)).trans (hb.mono (by simp))
  have HI1 := Lib.hid hI; have HB1 := Lib.hid (below_transG HBb.out hb'); have HSa1 := Lib.hid (HSa.out.keep hb' HSa.out.lt); have HSb1 := Lib.hid (HSb.out.keep hb' HSb.out.lt)
  clear hBB hI hfv hb hb' d0 d1 d2 d3 d4 d5 d6 d7 d8 d9 d10 d11 b0 b1 b2
  go_wp2_with fail
  refine (HN2.out _).mono ?_
  rintro y w2 ⟨B2, fv2, rfl, hBB, hI, hfv, hb⟩
  have HI2 := Lib.hid (HI1.out.on hb); have HJ2 := Lib.hid hI; have HB2 := Lib.hid (below_transG HB1.out hb); have HSa2 := Lib.hid (HSa1.out.keep hb HSa1.out.lt); have HSb2 := Lib.hid (HSb1.out.keep hb HSb1.out.lt)
  clear hBB hI hfv hb
  go_upto_region 4 with fail
  have HZ := Lib.hid (show ∀ u, Below w2.heap.size w2 u → (Below w2.heap.size w2 u ∧ u.cell? ⟨D, 0, none⟩ = some (.bool e0) ∧ u.cell? ⟨D, 1, none⟩ = some (.int .u32 n0) ∧ u.cell? ⟨D, 2, none⟩ = some (.bool q0) ∧ u.cell? ⟨D, 3, none⟩ = some (.int .i64 l0) ∧ u.cell? ⟨D, 4, none⟩ = some (.int .u8 x0_0) ∧ u.cell? ⟨D, 5, none⟩ = some (.int .u8 x0_1) ∧ u.cell? ⟨D, 6, none⟩ = some (.int .u8 x0_2) ∧ u.cell? ⟨D, 7, none⟩ = some (.int .u8 x0_3) ∧ u.cell? ⟨D, 8, none⟩ = some (.int .u8 x0_4) ∧ u.cell? ⟨D, 9, none⟩ = some (.int .u8 x0_5) ∧ u.cell? ⟨D, 10, none⟩ = some (.int .u8 x0_6) ∧ u.cell? ⟨D, 11, none⟩ = some (.int .u8 x0_7) ∧ u.cell? ⟨D + 1, 0, none⟩ = some (.bool x)) from fun u hu => by
    have hA := HSa2.out.keep hu HSa2.out.lt
    have hB := HSb2.out.keep hu HSb2.out.lt
    exact ⟨hu, hA.cellAt (i := 0) (by simp), hA.cellAt (i := 1) (by simp), hA.cellAt (i := 2) (by simp), hA.cellAt (i := 3) (by simp), hA.cellAt (i := 4) (by simp), hA.cellAt (i := 5) (by simp), hA.cellAt (i := 6) (by simp), hA.cellAt (i := 7) (by simp), hA.cellAt (i := 8) (by simp), hA.cellAt (i := 9) (by simp), hA.cellAt (i := 10) (by simp), hA.cellAt (i := 11) (by simp), hB.cellAt (i := 0) (by simp)⟩)
  have HZA := Lib.hid (show ∀ u o, (Below w2.heap.size w2 u ∧ u.cell? ⟨D, 0, none⟩ = some (.bool e0) ∧ u.cell? ⟨D, 1, none⟩ = some (.int .u32 n0) ∧ u.cell? ⟨D, 2, none⟩ = some (.bool q0) ∧ u.cell? ⟨D, 3, none⟩ = some (.int .i64 l0) ∧ u.cell? ⟨D, 4, none⟩ = some (.int .u8 x0_0) ∧ u.cell? ⟨D, 5, none⟩ = some (.int .u8 x0_1) ∧ u.cell? ⟨D, 6, none⟩ = some (.int .u8 x0_2) ∧ u.cell? ⟨D, 7, none⟩ = some (.int .u8 x0_3) ∧ u.cell? ⟨D, 8, none⟩ = some (.int .u8 x0_4) ∧ u.cell? ⟨D, 9, none⟩ = some (.int .u8 x0_5) ∧ u.cell? ⟨D, 10, none⟩ = some (.int .u8 x0_6) ∧ u.cell? ⟨D, 11, none⟩ = some (.int .u8 x0_7) ∧ u.cell? ⟨D + 1, 0, none⟩ = some (.bool x)) → (Below w2.heap.size w2 (u.alloc o) ∧ (u.alloc o).cell? ⟨D, 0, none⟩ = some (.bool e0) ∧ (u.alloc o).cell? ⟨D, 1, none⟩ = some (.int .u32 n0) ∧ (u.alloc o).cell? ⟨D, 2, none⟩ = some (.bool q0) ∧ (u.alloc o).cell? ⟨D, 3, none⟩ = some (.int .i64 l0) ∧ (u.alloc o).cell? ⟨D, 4, none⟩ = some (.int .u8 x0_0) ∧ (u.alloc o).cell? ⟨D, 5, none⟩ = some (.int .u8 x0_1) ∧ (u.alloc o).cell? ⟨D, 6, none⟩ = some (.int .u8 x0_2) ∧ (u.alloc o).cell? ⟨D, 7, none⟩ = some (.int .u8 x0_3) ∧ (u.alloc o).cell? ⟨D, 8, none⟩ = some (.int .u8 x0_4) ∧ (u.alloc o).cell? ⟨D, 9, none⟩ = some (.int .u8 x0_5) ∧ (u.alloc o).cell? ⟨D, 10, none⟩ = some (.int .u8 x0_6) ∧ (u.alloc o).cell? ⟨D, 11, none⟩ = some (.int .u8 x0_7) ∧ (u.alloc o).cell? ⟨D + 1, 0, none⟩ = some (.bool x)) from fun u o h => HZ.out _ (h.1.alloc h.1.size o))
  have HZD := Lib.hid (show ∀ u, (Below w2.heap.size w2 u ∧ u.cell? ⟨D, 0, none⟩ = some (.bool e0) ∧ u.cell? ⟨D, 1, none⟩ = some (.int .u32 n0) ∧ u.cell? ⟨D, 2, none⟩ = some (.bool q0) ∧ u.cell? ⟨D, 3, none⟩ = some (.int .i64 l0) ∧ u.cell? ⟨D, 4, none⟩ = some (.int .u8 x0_0) ∧ u.cell? ⟨D, 5, none⟩ = some (.int .u8 x0_1) ∧ u.cell? ⟨D, 6, none⟩ = some (.int .u8 x0_2) ∧ u.cell? ⟨D, 7, none⟩ = some (.int .u8 x0_3) ∧ u.cell? ⟨D, 8, none⟩ = some (.int .u8 x0_4) ∧ u.cell? ⟨D, 9, none⟩ = some (.int .u8 x0_5) ∧ u.cell? ⟨D, 10, none⟩ = some (.int .u8 x0_6) ∧ u.cell? ⟨D, 11, none⟩ = some (.int .u8 x0_7) ∧ u.cell? ⟨D + 1, 0, none⟩ = some (.bool x)) → (Below w2.heap.size w2 u.drew ∧ u.drew.cell? ⟨D, 0, none⟩ = some (.bool e0) ∧ u.drew.cell? ⟨D, 1, none⟩ = some (.int .u32 n0) ∧ u.drew.cell? ⟨D, 2, none⟩ = some (.bool q0) ∧ u.drew.cell? ⟨D, 3, none⟩ = some (.int .i64 l0) ∧ u.drew.cell? ⟨D, 4, none⟩ = some (.int .u8 x0_0) ∧ u.drew.cell? ⟨D, 5, none⟩ = some (.int .u8 x0_1) ∧ u.drew.cell? ⟨D, 6, none⟩ = some (.int .u8 x0_2) ∧ u.drew.cell? ⟨D, 7, none⟩ = some (.int .u8 x0_3) ∧ u.drew.cell? ⟨D, 8, none⟩ = some (.int .u8 x0_4) ∧ u.drew.cell? ⟨D, 9, none⟩ = some (.int .u8 x0_5) ∧ u.drew.cell? ⟨D, 10, none⟩ = some (.int .u8 x0_6) ∧ u.drew.cell? ⟨D, 11, none⟩ = some (.int .u8 x0_7) ∧ u.drew.cell? ⟨D + 1, 0, none⟩ = some (.bool x)) from fun u h => HZ.out _ h.1.drew)
  have HZC := Lib.hid (show ∀ u u', (Below w2.heap.size w2 u ∧ u.cell? ⟨D, 0, none⟩ = some (.bool e0) ∧ u.cell? ⟨D, 1, none⟩ = some (.int .u32 n0) ∧ u.cell? ⟨D, 2, none⟩ = some (.bool q0) ∧ u.cell? ⟨D, 3, none⟩ = some (.int .i64 l0) ∧ u.cell? ⟨D, 4, none⟩ = some (.int .u8 x0_0) ∧ u.cell? ⟨D, 5, none⟩ = some (.int .u8 x0_1) ∧ u.cell? ⟨D, 6, none⟩ = some (.int .u8 x0_2) ∧ u.cell? ⟨D, 7, none⟩ = some (.int .u8 x0_3) ∧ u.cell? ⟨D, 8, none⟩ = some (.int .u8 x0_4) ∧ u.cell? ⟨D, 9, none⟩ = some (.int .u8 x0_5) ∧ u.cell? ⟨D, 10, none⟩ = some (.int .u8 x0_6) ∧ u.cell? ⟨D, 11, none⟩ = some (.int .u8 x0_7) ∧ u.cell? ⟨D + 1, 0, none⟩ = some (.bool x)) → Below u.heap.size u u' → (Below w2.heap.size w2 u' ∧ u'.cell? ⟨D, 0, none⟩ = some (.bool e0) ∧ u'.cell? ⟨D, 1, none⟩ = some (.int .u32 n0) ∧ u'.cell? ⟨D, 2, none⟩ = some (.bool q0) ∧ u'.cell? ⟨D, 3, none⟩ = some (.int .i64 l0) ∧ u'.cell? ⟨D, 4, none⟩ = some (.int .u8 x0_0) ∧ u'.cell? ⟨D, 5, none⟩ = some (.int .u8 x0_1) ∧ u'.cell? ⟨D, 6, none⟩ = some (.int .u8 x0_2) ∧ u'.cell? ⟨D, 7, none⟩ = some (.int .u8 x0_3) ∧ u'.cell? ⟨D, 8, none⟩ = some (.int .u8 x0_4) ∧ u'.cell? ⟨D, 9, none⟩ = some (.int .u8 x0_5) ∧ u'.cell? ⟨D, 10, none⟩ = some (.int .u8 x0_6) ∧ u'.cell? ⟨D, 11, none⟩ = some (.int .u8 x0_7) ∧ u'.cell? ⟨D + 1, 0, none⟩ = some (.bool x)) from fun u u' h hb => HZ.out _ (h.1.trans (hb.mono h.1.size)))
  go_cut [4] (fun s4 wx => s4 = .bool true ∧ Below w2.heap.size w2 wx)
  case first =>
    have K1 := Lib.hid (show ∀ u, (Below w2.heap.size w2 u ∧ u.cell? ⟨D, 0, none⟩ = some (.bool e0) ∧ u.cell? ⟨D, 1, none⟩ = some (.int .u32 n0) ∧ u.cell? ⟨D, 2, none⟩ = some (.bool q0) ∧ u.cell? ⟨D, 3, none⟩ = some (.int .i64 l0) ∧ u.cell? ⟨D, 4, none⟩ = some (.int .u8 x0_0) ∧ u.cell? ⟨D, 5, none⟩ = some (.int .u8 x0_1) ∧ u.cell? ⟨D, 6, none⟩ = some (.int .u8 x0_2) ∧ u.cell? ⟨D, 7, none⟩ = some (.int .u8 x0_3) ∧ u.cell? ⟨D, 8, none⟩ = some (.int .u8 x0_4) ∧ u.cell? ⟨D, 9, none⟩ = some (.int .u8 x0_5) ∧ u.cell? ⟨D, 10, none⟩ = some (.int .u8 x0_6) ∧ u.cell? ⟨D, 11, none⟩ = some (.int .u8 x0_7) ∧ u.cell? ⟨D + 1, 0, none⟩ = some (.bool x)) → Calls Try.prog 32 #[.pointer (some ⟨B, 0, none⟩), .agg #[.bool e0, .int .u32 n0, .bool q0, .int .i64 l0, .int .u8 x0_0, .int .u8 x0_1, .int .u8 x0_2, .int .u8 x0_3, .int .u8 x0_4, .int .u8 x0_5, .int .u8 x0_6, .int .u8 x0_7]] u fun y w' => y = .returned (.bool b) ∧ (Below w2.heap.size w2 w' ∧ w'.cell? ⟨D, 0, none⟩ = some (.bool e0) ∧ w'.cell? ⟨D, 1, none⟩ = some (.int .u32 n0) ∧ w'.cell? ⟨D, 2, none⟩ = some (.bool q0) ∧ w'.cell? ⟨D, 3, none⟩ = some (.int .i64 l0) ∧ w'.cell? ⟨D, 4, none⟩ = some (.int .u8 x0_0) ∧ w'.cell? ⟨D, 5, none⟩ = some (.int .u8 x0_1) ∧ w'.cell? ⟨D, 6, none⟩ = some (.int .u8 x0_2) ∧ w'.cell? ⟨D, 7, none⟩ = some (.int .u8 x0_3) ∧ w'.cell? ⟨D, 8, none⟩ = some (.int .u8 x0_4) ∧ w'.cell? ⟨D, 9, none⟩ = some (.int .u8 x0_5) ∧ w'.cell? ⟨D, 10, none⟩ = some (.int .u8 x0_6) ∧ w'.cell? ⟨D, 11, none⟩ = some (.int .u8 x0_7) ∧ w'.cell? ⟨D + 1, 0, none⟩ = some (.bool x)) from fun u hu => by
      refine (lets_any B 1 [⟨x, 0, t⟩] fv [] (.slice none 0 0) false e0 n0 q0 l0 x0_0 x0_1 x0_2 x0_3 x0_4 x0_5 x0_6 x0_7 (by simp) u (HI2.out.on hu.1)).mono ?_
      rintro _ w' ⟨rfl, hb⟩
      exact ⟨by first | rfl | rw [HLZ.out], HZC.out _ _ hu hb⟩)
    have K2 := Lib.hid (show ∀ u, (Below w2.heap.size w2 u ∧ u.cell? ⟨D, 0, none⟩ = some (.bool e0) ∧ u.cell? ⟨D, 1, none⟩ = some (.int .u32 n0) ∧ u.cell? ⟨D, 2, none⟩ = some (.bool q0) ∧ u.cell? ⟨D, 3, none⟩ = some (.int .i64 l0) ∧ u.cell? ⟨D, 4, none⟩ = some (.int .u8 x0_0) ∧ u.cell? ⟨D, 5, none⟩ = some (.int .u8 x0_1) ∧ u.cell? ⟨D, 6, none⟩ = some (.int .u8 x0_2) ∧ u.cell? ⟨D, 7, none⟩ = some (.int .u8 x0_3) ∧ u.cell? ⟨D, 8, none⟩ = some (.int .u8 x0_4) ∧ u.cell? ⟨D, 9, none⟩ = some (.int .u8 x0_5) ∧ u.cell? ⟨D, 10, none⟩ = some (.int .u8 x0_6) ∧ u.cell? ⟨D, 11, none⟩ = some (.int .u8 x0_7) ∧ u.cell? ⟨D + 1, 0, none⟩ = some (.bool x)) → Calls Try.prog 32 #[.pointer (some ⟨B2, 0, none⟩), .agg #[.bool e0, .int .u32 n0, .bool q0, .int .i64 l0, .int .u8 x0_0, .int .u8 x0_1, .int .u8 x0_2, .int .u8 x0_3, .int .u8 x0_4, .int .u8 x0_5, .int .u8 x0_6, .int .u8 x0_7]] u fun y w' => y = .returned (.bool true) ∧ (Below w2.heap.size w2 w' ∧ w'.cell? ⟨D, 0, none⟩ = some (.bool e0) ∧ w'.cell? ⟨D, 1, none⟩ = some (.int .u32 n0) ∧ w'.cell? ⟨D, 2, none⟩ = some (.bool q0) ∧ w'.cell? ⟨D, 3, none⟩ = some (.int .i64 l0) ∧ w'.cell? ⟨D, 4, none⟩ = some (.int .u8 x0_0) ∧ w'.cell? ⟨D, 5, none⟩ = some (.int .u8 x0_1) ∧ w'.cell? ⟨D, 6, none⟩ = some (.int .u8 x0_2) ∧ w'.cell? ⟨D, 7, none⟩ = some (.int .u8 x0_3) ∧ w'.cell? ⟨D, 8, none⟩ = some (.int .u8 x0_4) ∧ w'.cell? ⟨D, 9, none⟩ = some (.int .u8 x0_5) ∧ w'.cell? ⟨D, 10, none⟩ = some (.int .u8 x0_6) ∧ w'.cell? ⟨D, 11, none⟩ = some (.int .u8 x0_7) ∧ w'.cell? ⟨D + 1, 0, none⟩ = some (.bool x)) from fun u hu => by
      refine (lets_any B2 1 [] fv2 [] (.slice none 0 0) false e0 n0 q0 l0 x0_0 x0_1 x0_2 x0_3 x0_4 x0_5 x0_6 x0_7 (by decide) u (HJ2.out.on hu.1)).mono ?_
      rintro _ w' ⟨rfl, hb⟩
      exact ⟨by first | rfl | rw [HLZ.out], HZC.out _ _ hu hb⟩)
    have K3 := Lib.hid (show ∀ u, (Below w2.heap.size w2 u ∧ u.cell? ⟨D, 0, none⟩ = some (.bool e0) ∧ u.cell? ⟨D, 1, none⟩ = some (.int .u32 n0) ∧ u.cell? ⟨D, 2, none⟩ = some (.bool q0) ∧ u.cell? ⟨D, 3, none⟩ = some (.int .i64 l0) ∧ u.cell? ⟨D, 4, none⟩ = some (.int .u8 x0_0) ∧ u.cell? ⟨D, 5, none⟩ = some (.int .u8 x0_1) ∧ u.cell? ⟨D, 6, none⟩ = some (.int .u8 x0_2) ∧ u.cell? ⟨D, 7, none⟩ = some (.int .u8 x0_3) ∧ u.cell? ⟨D, 8, none⟩ = some (.int .u8 x0_4) ∧ u.cell? ⟨D, 9, none⟩ = some (.int .u8 x0_5) ∧ u.cell? ⟨D, 10, none⟩ = some (.int .u8 x0_6) ∧ u.cell? ⟨D, 11, none⟩ = some (.int .u8 x0_7) ∧ u.cell? ⟨D + 1, 0, none⟩ = some (.bool x)) → Calls Try.prog 31 #[] u fun y w' => y = .returned (.bool true) ∧ (Below w2.heap.size w2 w' ∧ w'.cell? ⟨D, 0, none⟩ = some (.bool e0) ∧ w'.cell? ⟨D, 1, none⟩ = some (.int .u32 n0) ∧ w'.cell? ⟨D, 2, none⟩ = some (.bool q0) ∧ w'.cell? ⟨D, 3, none⟩ = some (.int .i64 l0) ∧ w'.cell? ⟨D, 4, none⟩ = some (.int .u8 x0_0) ∧ w'.cell? ⟨D, 5, none⟩ = some (.int .u8 x0_1) ∧ w'.cell? ⟨D, 6, none⟩ = some (.int .u8 x0_2) ∧ w'.cell? ⟨D, 7, none⟩ = some (.int .u8 x0_3) ∧ w'.cell? ⟨D, 8, none⟩ = some (.int .u8 x0_4) ∧ w'.cell? ⟨D, 9, none⟩ = some (.int .u8 x0_5) ∧ w'.cell? ⟨D, 10, none⟩ = some (.int .u8 x0_6) ∧ w'.cell? ⟨D, 11, none⟩ = some (.int .u8 x0_7) ∧ w'.cell? ⟨D + 1, 0, none⟩ = some (.bool x)) from fun u hu => by
      refine (live14 u).mono ?_
      rintro _ w' ⟨rfl, hb⟩
      exact ⟨by first | rfl | rw [HLZ.out], HZC.out _ _ hu hb⟩)
    have z1 := HZD.out _ (HZ.out _ (Below.refl _ _))
    have z0 := HZ.out _ (Below.refl _ _)
    go_region_held3 (fun u => (Below w2.heap.size w2 u ∧ u.cell? ⟨D, 0, none⟩ = some (.bool e0) ∧ u.cell? ⟨D, 1, none⟩ = some (.int .u32 n0) ∧ u.cell? ⟨D, 2, none⟩ = some (.bool q0) ∧ u.cell? ⟨D, 3, none⟩ = some (.int .i64 l0) ∧ u.cell? ⟨D, 4, none⟩ = some (.int .u8 x0_0) ∧ u.cell? ⟨D, 5, none⟩ = some (.int .u8 x0_1) ∧ u.cell? ⟨D, 6, none⟩ = some (.int .u8 x0_2) ∧ u.cell? ⟨D, 7, none⟩ = some (.int .u8 x0_3) ∧ u.cell? ⟨D, 8, none⟩ = some (.int .u8 x0_4) ∧ u.cell? ⟨D, 9, none⟩ = some (.int .u8 x0_5) ∧ u.cell? ⟨D, 10, none⟩ = some (.int .u8 x0_6) ∧ u.cell? ⟨D, 11, none⟩ = some (.int .u8 x0_7) ∧ u.cell? ⟨D + 1, 0, none⟩ = some (.bool x))) (repeat (first | (with_reducible assumption) | (with_reducible refine HZA.out _ _ ?_) | (with_reducible refine HZD.out _ ?_))) (first | (go_at_call 32; have zz := h2S; clear zz; refine (K2.out _ (by repeat (first | (with_reducible assumption) | (with_reducible refine HZA.out _ _ ?_) | (with_reducible refine HZD.out _ ?_)))).mono ?_; rintro y3 v3 ⟨rfl, h3S⟩) | (go_at_call 31; refine (K3.out _ (by repeat (first | (with_reducible assumption) | (with_reducible refine HZA.out _ _ ?_) | (with_reducible refine HZD.out _ ?_)))).mono ?_; rintro y1 v1 ⟨rfl, h1S⟩) | (go_at_call 32; refine (K1.out _ (by repeat (first | (with_reducible assumption) | (with_reducible refine HZA.out _ _ ?_) | (with_reducible refine HZD.out _ ?_)))).mono ?_; rintro y2 v2 ⟨rfl, h2S⟩))
    all_goals (go_wp2_with fail; go_meet)
    all_goals exact ⟨rfl, h3S.1⟩
  case rest =>
  obtain ⟨rfl, hbx⟩ := hcut
  go_wp2_with fail
  go_ret
  exact ⟨rfl, below_transG HB2.out hbx⟩
set_option maxRecDepth 100000 in
theorem lifted (os : Os) (started : os.Started) (H : Type) (enc : TypeId × Value → H) :
    ReturnsInHanded {} Try.checked os 8 .any (Rows.inboxOpenSpec.pre6 enc Try.prog Try.f8 Rows.inboxOpenRow.domain false) (Rows.inboxOpenSpec.post enc Try.prog Try.f8 false true false false) := by
  refine returnsInHanded_of_change (C := Try.checked) own started (by kernel_rfl) Try.func8
    (ChangeSpec.witness6 (enc := enc) (C := Try.checked) false ⟨#[], #[.agg #[.bool false, .int .u32 0, .bool false, .int .i64 0, .int .u8 0, .int .u8 0, .int .u8 0, .int .u8 0, .int .u8 0, .int .u8 0, .int .u8 0, .int .u8 0], .agg #[.bool false, .int .u32 0, .int .u32 0]], []⟩ 8 (by kernel_rfl) (by kernel_rfl) (by kernel_rfl) (by kernel_rfl)) ?_
  intro W base args ds gs before hval0 hW _ _
  have hval : ∀ (j : Nat) t v, Try.f8.params[j]? = some t → args[j]? = some v → Value.okWide Try.prog W .any base t v := hval0
  have hW' := hW
  obtain ⟨p, q, hA0, hV, rfl, hfz, hnd⟩ := hW
  have hA : DataW.TrodAll enc Try.prog W 0 (fun _ => true) true Try.f8.params.toList args.toList ds p := hA0
  rw [Try.params8] at hA hval
  obtain ⟨v0, vs0, d0, ds0, p0, q0, hargs, rfl, rfl, h0, r0⟩ := trodAll_cons hA
  obtain ⟨v1, vs1, d1, ds1, p1, q1, rfl, rfl, rfl, h1, r1⟩ := trodAll_cons r0
  obtain ⟨rfl, rfl, rfl⟩ := trodAll_nil r1
  obtain rfl : args = #[v0, v1] := by cases args; simp_all
  obtain ⟨rfl, rfl⟩ := trodVars_none hV
  have k0 := h0
  have lt0 : ∀ x ∈ p0, x.block < W.heap.size := by obtain ⟨m, hm⟩ := k0; exact DataW.trod_lt m _ _ _ hm
  obtain ⟨e0, n0, q0, l0, x0_0, x0_1, x0_2, x0_3, x0_4, x0_5, x0_6, x0_7, rfl, w0⟩ := open_frameI (hval 0 37 v0 rfl rfl) h0
  have k1 := h1
  have lt1 : ∀ x ∈ p1, x.block < W.heap.size := by obtain ⟨m, hm⟩ := k1; exact DataW.trod_lt m _ _ _ hm
  obtain ⟨a1, rfl, w1⟩ := open_filter (hval 1 82 v1 rfl rfl) h1
  clear hA0 hval0
  refine (walk e0 n0 q0 l0 x0_0 x0_1 x0_2 x0_3 x0_4 x0_5 x0_6 x0_7 a1 w0 w1 W).mono fun e W' ⟨he, bel⟩ => ?_
  subst he
  exact ⟨_, rfl, _, _, _, [], _, [], hW', trodAll_mk1 (shut_bool Try.underlying4 _), (trodAll_cons_mk (Below.trod laidOut (by kernel_rfl) (of_decide_eq_true (by kernel_rfl)) k0 bel lt0) (trodAll_cons_mk (Below.trod laidOut (by kernel_rfl) (of_decide_eq_true (by kernel_rfl)) k1 bel lt1) trodAll_mk0)), rfl, bel.frame _, fun h => by cases h⟩
theorem over : Rows.inboxOpenRow.holds Try.pinned (OpenSpec.ofChange Rows.inboxOpenSpec) :=
  OpenClaim.holds_of_wide 8 Try.f8 rfl rfl rfl rfl rfl rfl rfl ⟨rfl, rfl, rfl, rfl, rfl⟩ rfl rfl rfl rfl rfl (by kernel_rfl) Try.func8 (by kernel_rfl)
    (of_decide_eq_true (by kernel_rfl)) (by unfold Func.isWrapper; first | (rw [if_pos (by decide +kernel)]; kernel_rfl) | (rw [if_neg (by decide +kernel)]; exact ⟨rfl, rfl⟩))
    (fun os started H enc _ => lifted os started H enc)
/-- The statement. -/
theorem proved : Rows.InboxOpenSaid := over
end Go.Proofs.Ytifpifhaajkncaa.inboxOpen
