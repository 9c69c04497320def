/- InboxPlays (P14.1, P14.2): of every room, filters and acts: each answer of an inbox, how many wait, and whether one was lost, is what the document says. No conditions. -/
import Derived.Test.YtifpifhaajkncaaRows
import Derived.Test.YtifpifhaajkncaaInt
import Derived.Test.YtifpifhaajkncaaInf
import Derived.Test.YtifpifhaajkncaaOpg
import Derived.Test.YtifpifhaajkncaaEqg
import Derived.WalkKit
import Derived.ProofKit
import Derived.OpenShut
import Derived.ShutString
import Derived.ChangeOld
import Derived.Below
namespace Go.Proofs.Ytifpifhaajkncaa.inboxPlays
open Go.ChangeShapes Go.WideShapes Go.ChangeAt Go.RowKit
theorem own : ownKnob Try.prog.godebug = none := by kernel_rfl
theorem laidOut : laidOutB Try.prog = true := by kernel_rfl
/-- What is done. -/
structure A14 where
  k : Int
  s : SD
def A14.C (a : A14) : List Value := .int .i64 a.k :: a.s.C
def A14.wf (a : A14) : Prop := a.s.wf
section
open Go.ChangeShapes Go.WideShapes Go.ChangeAt
variable {H : Type} {enc : TypeId × Value → H} {W : World} {base : Nat} {sp : Nat → Bool} {held : Bool}
theorem act14G {fuel : Nat} {cs : List Value} {x : DataW H × List MemPlace} (hl : cs.length = 15) (h : DataW.trod enc Try.prog W base sp held fuel 71 cs = some x) : ∃ a : A14, cs = a.C ∧ a.wf := by
  obtain ⟨c0, c1, c2, c3, c4, c5, c6, c7, c8, c9, c10, c11, c12, c13, c14, hcs⟩ : ∃ c0 c1 c2 c3 c4 c5 c6 c7 c8 c9 c10 c11 c12 c13 c14, cs = [c0, c1, c2, c3, c4, c5, c6, c7, c8, c9, c10, c11, c12, c13, c14] := by
    match cs, hl with
    | [c0, c1, c2, c3, c4, c5, c6, c7, c8, c9, c10, c11, c12, c13, c14], _ => exact ⟨c0, c1, c2, c3, c4, c5, c6, c7, c8, c9, c10, c11, c12, c13, c14, rfl⟩
  subst hcs
  obtain ⟨y0, y1, m, _, _, h0, h1⟩ := trod_struct2 Try.underlying71 h
  have sINT : Try.prog.cellsOf 3 = 1 := by kernel_rfl
  simp [sINT] at h0
  have sST : Try.prog.cellsOf 69 = 14 := by kernel_rfl
  simp [sST] at h1
  obtain ⟨k, hk, _, _⟩ := DataW.trod_int Try.underlying3 h0
  obtain rfl : c0 = .int .i64 k := by simpa using hk
  obtain ⟨s, hs, hw⟩ := stampedG rfl h1
  exact ⟨⟨k, s⟩, by unfold A14.C; rw [hs], hw⟩
end
theorem rd_act {W : World} {a : Option Addr} {n cap : Nat} {L : List A14} (h : Rd W 15 (.slice a n cap) (L.flatMap A14.C)) {j : Nat} (hj : j < L.length) : ∃ g off, a = some ⟨g, off, none⟩ ∧ g < W.heap.size ∧ ∀ i u, L[j].C[i]? = some u → W.cell? ⟨g, off + j * 15 + i, none⟩ = some u := by
  obtain ⟨n', cap', a', e, h1, h2, h3, h4⟩ := h
  obtain ⟨e1, e2, e3⟩ := Value.slice.inj e
  rw [flat_len 15 A14.C (fun _ => rfl)] at h1
  rw [← e2] at h1 h4
  rw [← e1] at h4
  rcases h4 with h5 | ⟨g, off, rfl, hg, hc⟩
  · omega
  · refine ⟨g, off, rfl, hg, fun i u hi => ?_⟩
    have hl : i < 15 := (List.getElem?_eq_some_iff.1 hi).1
    rw [Nat.add_assoc]
    exact hc (j * 15 + i) u ((flat_at 15 A14.C (fun _ => rfl) L j i hj hl).trans hi)
set_option maxRecDepth 100000 in
set_option maxHeartbeats 16000000 in
theorem walk (a0 : Int) (a1 : Option Addr) (len1 cap1 : Nat) (F : List Fl) (a2 : Option Addr) (len2 cap2 : Nat) (L : List A14) (w : World) (_w0 : (Lit.int .i64 a0).wf = true) (w1 : F.length = len1 ∧ (∀ s ∈ F, s.wf) ∧ Rd w 3 (.slice a1 len1 cap1) (F.flatMap Fl.C)) (w2 : L.length = len2 ∧ (∀ s ∈ L, s.wf) ∧ Rd w 15 (.slice a2 len2 cap2) (L.flatMap A14.C)) :
    Calls Try.prog 6 #[.int .i64 a0, .slice a1 len1 cap1, .slice a2 len2 cap2] w fun y w' => y = .returned (.bool true) ∧ Below w.heap.size w w' := by
  obtain ⟨rfl, _, hF⟩ := w1
  obtain ⟨rfl, _, hL⟩ := w2
  have HF := Lib.hid (show Rd w 3 (.slice a1 F.length cap1) (flC F) from hF)
  have HLR := Lib.hid hL
  have heqs : ∀ (x0 x1 x2 x3 x4 x5 x6 x7 : Int) (u : World), Sem.run Try.prog (Op.equalIn 9998 35 (.agg #[.int .u8 x0, .int .u8 x1, .int .u8 x2, .int .u8 x3, .int .u8 x4, .int .u8 x5, .int .u8 x6, .int .u8 x7]) (.agg #[.int .u8 x0, .int .u8 x1, .int .u8 x2, .int .u8 x3, .int .u8 x4, .int .u8 x5, .int .u8 x6, .int .u8 x7])) u = .ok true u := fun x0 x1 x2 x3 x4 x5 x6 x7 u => eqs8 9996 x0 x1 x2 x3 x4 x5 x6 x7 u
  clear hF hL
  by_cases hroom : 1 ≤ a0 ∧ a0 ≤ 16
  case neg =>
    have HN := Lib.hid (fun u => inew_no a0 hroom a1 F.length cap1 u)
    have HM := Lib.hid (fun u => qnew_no a0 hroom a1 F.length cap1 u)
    clear hroom
    go_enter Try.func6, Try.ntmps6
    go_wp2_with fail
    refine (HN.out _).mono ?_
    rintro y w3 ⟨rfl, rfl⟩
    go_wp2_with fail
    refine (HM.out _).mono ?_
    rintro y w4 ⟨rfl, rfl⟩
    go_wp2_with fail
    refine (live14 _).mono ?_
    rintro y w5 ⟨rfl, hb⟩
    have HB := Lib.hid hb
    clear hb
    go_wp2_with fail
    go_ret
    exact ⟨rfl, HB.out⟩
  by_cases hlong : 8 < F.length
  · have HN := Lib.hid (fun u => inew_long a0 hroom.1 hroom.2 a1 F.length cap1 hlong u)
    have HM := Lib.hid (fun u => qnew_long a0 hroom.1 hroom.2 a1 F.length cap1 hlong u)
    clear hroom hlong
    go_enter Try.func6, Try.ntmps6
    go_wp2_with fail
    refine (HN.out _).mono ?_
    rintro y w3 ⟨rfl, rfl⟩
    go_wp2_with fail
    refine (HM.out _).mono ?_
    rintro y w4 ⟨rfl, rfl⟩
    go_wp2_with fail
    refine (live14 _).mono ?_
    rintro y w5 ⟨rfl, hb⟩
    have HB := Lib.hid hb
    clear hb
    go_wp2_with fail
    go_ret
    exact ⟨rfl, HB.out⟩
  obtain ⟨room, rfl⟩ : ∃ room : Nat, a0 = (room : Int) := ⟨a0.toNat, by omega⟩
  have HRM := Lib.hid (show 1 ≤ room ∧ room ≤ 16 by omega)
  have HF8 := Lib.hid (show F.length ≤ 8 by omega)
  have HN := Lib.hid (inew_any room HRM.out.1 HRM.out.2 F a1 F.length cap1 HF8.out w HF.out)
  have HM := Lib.hid (fun u hu => qnew_any room HRM.out.1 HRM.out.2 F a1 F.length cap1 HF8.out u (show Rd u 3 (.slice a1 F.length cap1) (flC F) from hu))
  have HFK := Lib.hid (show ∀ u, Below w.heap.size w u → Rd u 3 (.slice a1 F.length cap1) (flC F) from fun u hu => by
    obtain ⟨n', cap', a', e, h1, h2, h3, h4⟩ := HF.out
    refine ⟨n', cap', a', e, h1, h2, h3, ?_⟩
    rcases h4 with h4 | ⟨g, off, h5, hg, hc⟩
    · exact .inl h4
    · exact .inr ⟨g, off, h5, Nat.lt_of_lt_of_le hg hu.size, fun j u hj => (hu.cell (p := ⟨g, off + j, none⟩) hg).trans (hc j u hj)⟩)
  clear hroom hlong
  go_enter Try.func6, Try.ntmps6
  go_wp2_with fail
  refine HN.out.mono ?_
  rintro y w3 ⟨B, fv, rfl, hBB, hI, hfv, hb⟩
  have HI3 := Lib.hid hI; have HB3 := Lib.hid hb; have HBB := Lib.hid hBB
  clear hBB hI hfv hb HN
  go_wp2_with fail
  refine (HM.out w3 (HFK.out _ HB3.out)).mono ?_
  rintro y w4 ⟨B', rfl, hBB, fv', hI, hfv, hb⟩
  have hap : ∀ g, (g = B ∨ fv.ownBlock = some g ∨ (Value.slice none 0 0).ownBlock = some g) → (g = B' ∨ fv'.ownBlock = some g ∨ (Value.slice none 0 0).ownBlock = some g) → False := fun g h1 h2 => by
    have h5 := HI3.out.foot h1
    rcases h2 with h2 | h2 | h2
    · omega
    · have := hfv g h2; omega
    · cases h2
  have HI4 := Lib.hid (show I2 w.heap.size w4 B B' room F fv fv' ([]) (.slice none 0 0) false ([]) (.slice none 0 0) false from ⟨HI3.out.on hb, hI, hap, ⟨HBB.out, Nat.le_trans HB3.out.size hBB, fun g hg => (by cases hg), fun g hg => (by cases hg), Nat.le_trans HB3.out.size hb.size⟩⟩)
  have HB4 := Lib.hid (below_transG HB3.out hb)
  clear hBB hI hfv hb hap
  go_wp2_with fail
  go_loopw [11] (fun s11 wr => ∃ (i : Nat) (Q : List SD) (va vb : Value) (o : Bool), s11 = .int .i64 (i : Int) ∧ i ≤ 80 ∧ I2 w.heap.size wr B B' room F fv fv' (Q) va o (Q) vb o ∧ Q.length ≤ room ∧ Below w.heap.size w wr) (fun s11 _ => 80 - (intOf s11).toNat)
  case atStart => exact ⟨0, [], _, _, false, rfl, by omega, HI4.out, by simp, HB4.out⟩
  case round =>
    obtain ⟨i, Q, va, vb, o, rfl, hi80, hI, hQ, hB⟩ := hrel
    have HI := Lib.hid hI; have HQ := Lib.hid hQ; have HB := Lib.hid hB
    clear hI hQ hB
    by_cases hgo : i < L.length ∧ i < 80
    · have hlt := hgo.1
      have i1 : (i : Int) < (L.length : Int) := by omega
      have i2 : (i : Int) < 80 := by have := hgo.2; omega
      have i3 : (0 : Int) ≤ (i : Int) := by omega
      obtain ⟨g, off, rfl, hg, hcell⟩ := rd_act HLR.out hlt
      obtain ⟨s, hs⟩ : ∃ s, s = L[i] := ⟨_, rfl⟩
      rw [← hs] at hcell
      clear hs
      obtain ⟨kd, s⟩ := s
      have hcw : ∀ j u, (A14.C ⟨kd, s⟩)[j]? = some u → wr.cell? ⟨g, off + i * 15 + j, none⟩ = some u := fun j u h => (HB.out.cell (p := ⟨g, off + i * 15 + j, none⟩) hg).trans (hcell j u h)
      have HOA := Lib.hid (fun (u : World) (h : I2 w.heap.size u B B' room F fv fv' (Q) va o (Q) vb o) => h.offA s HF8.out (by have := HQ.out; have := HRM.out; omega))
      have HOB := Lib.hid (fun (u : World) Q2 v2 o2 (h : I2 w.heap.size u B B' room F fv fv' (Q2) v2 o2 (Q) vb o) => h.offB s HF8.out (by have := HQ.out; have := HRM.out; omega) HQ.out)
      have HOL := Lib.hid (off_len room F Q o s HQ.out)
      obtain ⟨R, hR⟩ : ∃ R, R = offF room F Q o s := ⟨_, rfl⟩
      rw [← hR] at HOA HOB HOL
      clear hcell hR
      obtain ⟨e, n, q, l, x0, x1, x2, x3, x4, x5, x6, x7, f, t⟩ := s
      unfold SD.V at HOA HOB
      simp only at HOA HOB
      have e0 : wr.cell? ⟨g, off + i * 15, none⟩ = some (.int .i64 kd) := hcw 0 _ rfl
      have e1 : wr.cell? ⟨g, off + i * 15 + 1, none⟩ = some (.bool e) := hcw 1 _ rfl
      have e2 : wr.cell? ⟨g, off + i * 15 + 2, none⟩ = some (.int .u32 n) := hcw 2 _ rfl
      have e3 : wr.cell? ⟨g, off + i * 15 + 3, none⟩ = some (.bool q) := hcw 3 _ rfl
      have e4 : wr.cell? ⟨g, off + i * 15 + 4, none⟩ = some (.int .i64 l) := hcw 4 _ rfl
      have e5 : wr.cell? ⟨g, off + i * 15 + 5, none⟩ = some (.int .u8 x0) := hcw 5 _ rfl
      have e6 : wr.cell? ⟨g, off + i * 15 + 6, none⟩ = some (.int .u8 x1) := hcw 6 _ rfl
      have e7 : wr.cell? ⟨g, off + i * 15 + 7, none⟩ = some (.int .u8 x2) := hcw 7 _ rfl
      have e8 : wr.cell? ⟨g, off + i * 15 + 8, none⟩ = some (.int .u8 x3) := hcw 8 _ rfl
      have e9 : wr.cell? ⟨g, off + i * 15 + 9, none⟩ = some (.int .u8 x4) := hcw 9 _ rfl
      have e10 : wr.cell? ⟨g, off + i * 15 + 10, none⟩ = some (.int .u8 x5) := hcw 10 _ rfl
      have e11 : wr.cell? ⟨g, off + i * 15 + 11, none⟩ = some (.int .u8 x6) := hcw 11 _ rfl
      have e12 : wr.cell? ⟨g, off + i * 15 + 12, none⟩ = some (.int .u8 x7) := hcw 12 _ rfl
      have e13 : wr.cell? ⟨g, off + i * 15 + 13, none⟩ = some (.int .i64 f) := hcw 13 _ rfl
      have e14 : wr.cell? ⟨g, off + i * 15 + 14, none⟩ = some (.int .i64 t) := hcw 14 _ rfl
      obtain ⟨W1, hW1⟩ : ∃ W1, W1 = wr.alloc (.cells #[.int .i64 kd, .bool e, .int .u32 n, .bool q, .int .i64 l, .int .u8 x0, .int .u8 x1, .int .u8 x2, .int .u8 x3, .int .u8 x4, .int .u8 x5, .int .u8 x6, .int .u8 x7, .int .i64 f, .int .i64 t] 71) := ⟨_, rfl⟩
      have hb1 : Below wr.heap.size wr W1 := by rw [hW1]; exact (Below.refl _ wr).alloc (Nat.le_refl _) _
      have hBs := (show Bs W1 B B' va vb wr.heap.size 71 [.int .i64 kd, .bool e, .int .u32 n, .bool q, .int .i64 l, .int .u8 x0, .int .u8 x1, .int .u8 x2, .int .u8 x3, .int .u8 x4, .int .u8 x5, .int .u8 x6, .int .u8 x7, .int .i64 f, .int .i64 t] by rw [hW1]; exact Bs.new HI.out 71 [.int .i64 kd, .bool e, .int .u32 n, .bool q, .int .i64 l, .int .u8 x0, .int .u8 x1, .int .u8 x2, .int .u8 x3, .int .u8 x4, .int .u8 x5, .int .u8 x6, .int .u8 x7, .int .i64 f, .int .i64 t])
      have HI1 := Lib.hid (HI.out.on hb1); have HB1 := Lib.hid (below_transG HB.out hb1)
      clear hcw hb1
      go_upto_region 11 with fail
      obtain ⟨D, hD⟩ : ∃ D, D = wr.heap.size := ⟨_, rfl⟩
      rw [← hD] at hBs ⊢
      rw [← hW1]
      have HBs := Lib.hid hBs
      clear hW1 hD hBs e0 e1 e2 e3 e4 e5 e6 e7 e8 e9 e10 e11 e12 e13 e14
      have HZ := Lib.hid (show ∀ u, Below W1.heap.size W1 u → (Below w.heap.size w u ∧ u.cell? ⟨D, 0, none⟩ = some (.int .i64 kd) ∧ u.cell? ⟨D, 1, none⟩ = some (.bool e) ∧ u.cell? ⟨D, 2, none⟩ = some (.int .u32 n) ∧ u.cell? ⟨D, 3, none⟩ = some (.bool q) ∧ u.cell? ⟨D, 4, none⟩ = some (.int .i64 l) ∧ u.cell? ⟨D, 5, none⟩ = some (.int .u8 x0) ∧ u.cell? ⟨D, 6, none⟩ = some (.int .u8 x1) ∧ u.cell? ⟨D, 7, none⟩ = some (.int .u8 x2) ∧ u.cell? ⟨D, 8, none⟩ = some (.int .u8 x3) ∧ u.cell? ⟨D, 9, none⟩ = some (.int .u8 x4) ∧ u.cell? ⟨D, 10, none⟩ = some (.int .u8 x5) ∧ u.cell? ⟨D, 11, none⟩ = some (.int .u8 x6) ∧ u.cell? ⟨D, 12, none⟩ = some (.int .u8 x7) ∧ u.cell? ⟨D, 13, none⟩ = some (.int .i64 f) ∧ u.cell? ⟨D, 14, none⟩ = some (.int .i64 t)) from fun u hu => ⟨HB1.out.trans (hu.mono HB1.out.size), (HBs.out.blk.keep hu HBs.out.blk.lt).cellAt (i := 0) (by simp), (HBs.out.blk.keep hu HBs.out.blk.lt).cellAt (i := 1) (by simp), (HBs.out.blk.keep hu HBs.out.blk.lt).cellAt (i := 2) (by simp), (HBs.out.blk.keep hu HBs.out.blk.lt).cellAt (i := 3) (by simp), (HBs.out.blk.keep hu HBs.out.blk.lt).cellAt (i := 4) (by simp), (HBs.out.blk.keep hu HBs.out.blk.lt).cellAt (i := 5) (by simp), (HBs.out.blk.keep hu HBs.out.blk.lt).cellAt (i := 6) (by simp), (HBs.out.blk.keep hu HBs.out.blk.lt).cellAt (i := 7) (by simp), (HBs.out.blk.keep hu HBs.out.blk.lt).cellAt (i := 8) (by simp), (HBs.out.blk.keep hu HBs.out.blk.lt).cellAt (i := 9) (by simp), (HBs.out.blk.keep hu HBs.out.blk.lt).cellAt (i := 10) (by simp), (HBs.out.blk.keep hu HBs.out.blk.lt).cellAt (i := 11) (by simp), (HBs.out.blk.keep hu HBs.out.blk.lt).cellAt (i := 12) (by simp), (HBs.out.blk.keep hu HBs.out.blk.lt).cellAt (i := 13) (by simp), (HBs.out.blk.keep hu HBs.out.blk.lt).cellAt (i := 14) (by simp)⟩)
      obtain ⟨lb, hlb⟩ : ∃ lb, lb = letsB F e n := ⟨_, rfl⟩
      have HK1 := Lib.hid (show ∀ u, Below W1.heap.size W1 u → Calls Try.prog 32 #[.pointer (some ⟨B, 0, none⟩), .agg #[.bool e, .int .u32 n, .bool q, .int .i64 l, .int .u8 x0, .int .u8 x1, .int .u8 x2, .int .u8 x3, .int .u8 x4, .int .u8 x5, .int .u8 x6, .int .u8 x7]] u fun y w' => y = .returned (.bool lb) ∧ Below W1.heap.size W1 w' ∧ (Below w.heap.size w w' ∧ w'.cell? ⟨D, 0, none⟩ = some (.int .i64 kd) ∧ w'.cell? ⟨D, 1, none⟩ = some (.bool e) ∧ w'.cell? ⟨D, 2, none⟩ = some (.int .u32 n) ∧ w'.cell? ⟨D, 3, none⟩ = some (.bool q) ∧ w'.cell? ⟨D, 4, none⟩ = some (.int .i64 l) ∧ w'.cell? ⟨D, 5, none⟩ = some (.int .u8 x0) ∧ w'.cell? ⟨D, 6, none⟩ = some (.int .u8 x1) ∧ w'.cell? ⟨D, 7, none⟩ = some (.int .u8 x2) ∧ w'.cell? ⟨D, 8, none⟩ = some (.int .u8 x3) ∧ w'.cell? ⟨D, 9, none⟩ = some (.int .u8 x4) ∧ w'.cell? ⟨D, 10, none⟩ = some (.int .u8 x5) ∧ w'.cell? ⟨D, 11, none⟩ = some (.int .u8 x6) ∧ w'.cell? ⟨D, 12, none⟩ = some (.int .u8 x7) ∧ w'.cell? ⟨D, 13, none⟩ = some (.int .i64 f) ∧ w'.cell? ⟨D, 14, none⟩ = some (.int .i64 t)) from fun u hu => by
        rw [hlb]
        exact (lets_any B room F fv Q va o e n q l x0 x1 x2 x3 x4 x5 x6 x7 HF8.out u (HI1.out.on hu).a).mono fun _ w' ⟨h1, h2⟩ => ⟨h1, below_transG hu h2, HZ.out _ (below_transG hu h2)⟩)
      have HK2 := Lib.hid (show ∀ u, Below W1.heap.size W1 u → Calls Try.prog 33 #[.pointer (some ⟨B', 0, none⟩), .agg #[.bool e, .int .u32 n, .bool q, .int .i64 l, .int .u8 x0, .int .u8 x1, .int .u8 x2, .int .u8 x3, .int .u8 x4, .int .u8 x5, .int .u8 x6, .int .u8 x7]] u fun y w' => y = .returned (.bool lb) ∧ Below W1.heap.size W1 w' ∧ (Below w.heap.size w w' ∧ w'.cell? ⟨D, 0, none⟩ = some (.int .i64 kd) ∧ w'.cell? ⟨D, 1, none⟩ = some (.bool e) ∧ w'.cell? ⟨D, 2, none⟩ = some (.int .u32 n) ∧ w'.cell? ⟨D, 3, none⟩ = some (.bool q) ∧ w'.cell? ⟨D, 4, none⟩ = some (.int .i64 l) ∧ w'.cell? ⟨D, 5, none⟩ = some (.int .u8 x0) ∧ w'.cell? ⟨D, 6, none⟩ = some (.int .u8 x1) ∧ w'.cell? ⟨D, 7, none⟩ = some (.int .u8 x2) ∧ w'.cell? ⟨D, 8, none⟩ = some (.int .u8 x3) ∧ w'.cell? ⟨D, 9, none⟩ = some (.int .u8 x4) ∧ w'.cell? ⟨D, 10, none⟩ = some (.int .u8 x5) ∧ w'.cell? ⟨D, 11, none⟩ = some (.int .u8 x6) ∧ w'.cell? ⟨D, 12, none⟩ = some (.int .u8 x7) ∧ w'.cell? ⟨D, 13, none⟩ = some (.int .i64 f) ∧ w'.cell? ⟨D, 14, none⟩ = some (.int .i64 t)) from fun u hu => by
        rw [hlb]
        exact (rlets_any B' room F fv' Q vb o e n q l x0 x1 x2 x3 x4 x5 x6 x7 HF8.out u (HI1.out.on hu).b).mono fun _ w' ⟨h1, h2⟩ => ⟨h1, below_transG hu h2, HZ.out _ (below_transG hu h2)⟩)
      clear hlb
      have klb : (lb != lb) = false := by simp
      have z0 := HZ.out _ (Below.refl _ _)
      have z1 := HZ.out _ (Below.refl _ _).drew
      go_cut [66] (fun s66 wx => s66 = .bool false ∧ Below W1.heap.size W1 wx)
      case first =>
        go_region_held3 (fun u => (Below w.heap.size w u ∧ u.cell? ⟨D, 0, none⟩ = some (.int .i64 kd) ∧ u.cell? ⟨D, 1, none⟩ = some (.bool e) ∧ u.cell? ⟨D, 2, none⟩ = some (.int .u32 n) ∧ u.cell? ⟨D, 3, none⟩ = some (.bool q) ∧ u.cell? ⟨D, 4, none⟩ = some (.int .i64 l) ∧ u.cell? ⟨D, 5, none⟩ = some (.int .u8 x0) ∧ u.cell? ⟨D, 6, none⟩ = some (.int .u8 x1) ∧ u.cell? ⟨D, 7, none⟩ = some (.int .u8 x2) ∧ u.cell? ⟨D, 8, none⟩ = some (.int .u8 x3) ∧ u.cell? ⟨D, 9, none⟩ = some (.int .u8 x4) ∧ u.cell? ⟨D, 10, none⟩ = some (.int .u8 x5) ∧ u.cell? ⟨D, 11, none⟩ = some (.int .u8 x6) ∧ u.cell? ⟨D, 12, none⟩ = some (.int .u8 x7) ∧ u.cell? ⟨D, 13, none⟩ = some (.int .i64 f) ∧ u.cell? ⟨D, 14, none⟩ = some (.int .i64 t))) (first | (with_reducible assumption) | (with_reducible exact HZ.out _ (by first | assumption | exact (Below.refl _ _).drew | exact Below.refl _ _))) (first | (go_at_call 32; refine (HK1.out _ (by first | exact Below.refl _ _ | exact (Below.refl _ _).drew)).mono ?_; rintro e6 w6 ⟨rfl, h6, h6S⟩) | (go_at_call 33; refine (HK2.out _ (by first | exact h6 | exact h6.drew)).mono ?_; rintro e7 w7 ⟨rfl, h7, h7S⟩))
        all_goals (go_wp2_with fail; go_meet; exact ⟨rfl, h7⟩)
      case rest =>
      obtain ⟨rfl, h2⟩ := hcut
      have HI2 := Lib.hid (HI1.out.on h2); have HB2 := Lib.hid (below_transG HB1.out h2); have HBs2 := Lib.hid (HBs.out.on h2)
      clear h2 z0 z1 HZ HK1 HK2 klb
      obtain ⟨wm, hwm⟩ : ∃ wm, wm = wc := ⟨_, rfl⟩
      rw [← hwm] at HI2 HB2 HBs2 ⊢
      clear hwm
      have hS2 := HBs2.out.blk
      have d0 := hS2.cellAt (i := 0) (by simp)
      have f0 := hS2.frozenAt 0
      have d1 := hS2.cellAt (i := 1) (by simp)
      have f1 := hS2.frozenAt 1
      have d2 := hS2.cellAt (i := 2) (by simp)
      have f2 := hS2.frozenAt 2
      have d3 := hS2.cellAt (i := 3) (by simp)
      have f3 := hS2.frozenAt 3
      have d4 := hS2.cellAt (i := 4) (by simp)
      have f4 := hS2.frozenAt 4
      have d5 := hS2.cellAt (i := 5) (by simp)
      have f5 := hS2.frozenAt 5
      have d6 := hS2.cellAt (i := 6) (by simp)
      have f6 := hS2.frozenAt 6
      have d7 := hS2.cellAt (i := 7) (by simp)
      have f7 := hS2.frozenAt 7
      have d8 := hS2.cellAt (i := 8) (by simp)
      have f8 := hS2.frozenAt 8
      have d9 := hS2.cellAt (i := 9) (by simp)
      have f9 := hS2.frozenAt 9
      have d10 := hS2.cellAt (i := 10) (by simp)
      have f10 := hS2.frozenAt 10
      have d11 := hS2.cellAt (i := 11) (by simp)
      have f11 := hS2.frozenAt 11
      have d12 := hS2.cellAt (i := 12) (by simp)
      have f12 := hS2.frozenAt 12
      have d13 := hS2.cellAt (i := 13) (by simp)
      have f13 := hS2.frozenAt 13
      have d14 := hS2.cellAt (i := 14) (by simp)
      have f14 := hS2.frozenAt 14
      simp only [List.getElem_cons_zero, List.getElem_cons_succ] at d0 d1 d2 d3 d4 d5 d6 d7 d8 d9 d10 d11 d12 d13 d14
      clear hS2
      have HGO := Lib.hid (show i < 80 from hgo.2)
      by_cases h0 : kd = 0
      · have i4 : (kd == 0) = true := by rw [h0]; rfl
        have HS := Lib.hid (show ∀ u, Below w.heap.size w u → (∃ va vb, Bs u B B' va vb D 71 [.int .i64 kd, .bool e, .int .u32 n, .bool q, .int .i64 l, .int .u8 x0, .int .u8 x1, .int .u8 x2, .int .u8 x3, .int .u8 x4, .int .u8 x5, .int .u8 x6, .int .u8 x7, .int .i64 f, .int .i64 t]) → (Below w.heap.size w u ∧ u.cell? ⟨D, 0, none⟩ = some (.int .i64 kd) ∧ u.cell? ⟨D, 1, none⟩ = some (.bool e) ∧ u.cell? ⟨D, 2, none⟩ = some (.int .u32 n) ∧ u.cell? ⟨D, 3, none⟩ = some (.bool q) ∧ u.cell? ⟨D, 4, none⟩ = some (.int .i64 l) ∧ u.cell? ⟨D, 5, none⟩ = some (.int .u8 x0) ∧ u.cell? ⟨D, 6, none⟩ = some (.int .u8 x1) ∧ u.cell? ⟨D, 7, none⟩ = some (.int .u8 x2) ∧ u.cell? ⟨D, 8, none⟩ = some (.int .u8 x3) ∧ u.cell? ⟨D, 9, none⟩ = some (.int .u8 x4) ∧ u.cell? ⟨D, 10, none⟩ = some (.int .u8 x5) ∧ u.cell? ⟨D, 11, none⟩ = some (.int .u8 x6) ∧ u.cell? ⟨D, 12, none⟩ = some (.int .u8 x7) ∧ u.cell? ⟨D, 13, none⟩ = some (.int .i64 f) ∧ u.cell? ⟨D, 14, none⟩ = some (.int .i64 t)) from fun u hu hb => by
          obtain ⟨va, vb, hb⟩ := hb
          exact ⟨hu, hb.blk.cellAt (i := 0) (by simp), hb.blk.cellAt (i := 1) (by simp), hb.blk.cellAt (i := 2) (by simp), hb.blk.cellAt (i := 3) (by simp), hb.blk.cellAt (i := 4) (by simp), hb.blk.cellAt (i := 5) (by simp), hb.blk.cellAt (i := 6) (by simp), hb.blk.cellAt (i := 7) (by simp), hb.blk.cellAt (i := 8) (by simp), hb.blk.cellAt (i := 9) (by simp), hb.blk.cellAt (i := 10) (by simp), hb.blk.cellAt (i := 11) (by simp), hb.blk.cellAt (i := 12) (by simp), hb.blk.cellAt (i := 13) (by simp), hb.blk.cellAt (i := 14) (by simp)⟩)
        have HQ1 := Lib.hid (show ∀ u, I2 w.heap.size u B B' room F fv fv' (Q) va o (Q) vb o → Bs u B B' va vb D 71 [.int .i64 kd, .bool e, .int .u32 n, .bool q, .int .i64 l, .int .u8 x0, .int .u8 x1, .int .u8 x2, .int .u8 x3, .int .u8 x4, .int .u8 x5, .int .u8 x6, .int .u8 x7, .int .i64 f, .int .i64 t] → Below w.heap.size w u → Calls Try.prog 34 #[.pointer (some ⟨B, 0, none⟩), .agg #[.bool e, .int .u32 n, .bool q, .int .i64 l, .int .u8 x0, .int .u8 x1, .int .u8 x2, .int .u8 x3, .int .u8 x4, .int .u8 x5, .int .u8 x6, .int .u8 x7, .int .i64 f, .int .i64 t]] u fun y w' => ∃ v2, y = .returned (.bool R.2.2) ∧ I2 w.heap.size w' B B' room F fv fv' (R.1) v2 R.2.1 (Q) vb o ∧ Bs w' B B' v2 vb D 71 [.int .i64 kd, .bool e, .int .u32 n, .bool q, .int .i64 l, .int .u8 x0, .int .u8 x1, .int .u8 x2, .int .u8 x3, .int .u8 x4, .int .u8 x5, .int .u8 x6, .int .u8 x7, .int .i64 f, .int .i64 t] ∧ (Below w.heap.size w w' ∧ w'.cell? ⟨D, 0, none⟩ = some (.int .i64 kd) ∧ w'.cell? ⟨D, 1, none⟩ = some (.bool e) ∧ w'.cell? ⟨D, 2, none⟩ = some (.int .u32 n) ∧ w'.cell? ⟨D, 3, none⟩ = some (.bool q) ∧ w'.cell? ⟨D, 4, none⟩ = some (.int .i64 l) ∧ w'.cell? ⟨D, 5, none⟩ = some (.int .u8 x0) ∧ w'.cell? ⟨D, 6, none⟩ = some (.int .u8 x1) ∧ w'.cell? ⟨D, 7, none⟩ = some (.int .u8 x2) ∧ w'.cell? ⟨D, 8, none⟩ = some (.int .u8 x3) ∧ w'.cell? ⟨D, 9, none⟩ = some (.int .u8 x4) ∧ w'.cell? ⟨D, 10, none⟩ = some (.int .u8 x5) ∧ w'.cell? ⟨D, 11, none⟩ = some (.int .u8 x6) ∧ w'.cell? ⟨D, 12, none⟩ = some (.int .u8 x7) ∧ w'.cell? ⟨D, 13, none⟩ = some (.int .i64 f) ∧ w'.cell? ⟨D, 14, none⟩ = some (.int .i64 t)) from fun u h hb hB => (HOA.out u h).mono fun y w' ⟨v2, he, hi, hbb, hk, hn⟩ => ⟨v2, he, hi, hb.stepA hk hn, HS.out _ (hB.trans hbb) ⟨_, _, hb.stepA hk hn⟩⟩)
        have HQ2 := Lib.hid (show ∀ u v2, I2 w.heap.size u B B' room F fv fv' (R.1) v2 R.2.1 (Q) vb o → Bs u B B' v2 vb D 71 [.int .i64 kd, .bool e, .int .u32 n, .bool q, .int .i64 l, .int .u8 x0, .int .u8 x1, .int .u8 x2, .int .u8 x3, .int .u8 x4, .int .u8 x5, .int .u8 x6, .int .u8 x7, .int .i64 f, .int .i64 t] → Below w.heap.size w u → Calls Try.prog 35 #[.pointer (some ⟨B', 0, none⟩), .agg #[.bool e, .int .u32 n, .bool q, .int .i64 l, .int .u8 x0, .int .u8 x1, .int .u8 x2, .int .u8 x3, .int .u8 x4, .int .u8 x5, .int .u8 x6, .int .u8 x7, .int .i64 f, .int .i64 t]] u fun y w' => ∃ v3, y = .returned (.bool R.2.2) ∧ I2 w.heap.size w' B B' room F fv fv' (R.1) v2 R.2.1 (R.1) v3 R.2.1 ∧ Bs w' B B' v2 v3 D 71 [.int .i64 kd, .bool e, .int .u32 n, .bool q, .int .i64 l, .int .u8 x0, .int .u8 x1, .int .u8 x2, .int .u8 x3, .int .u8 x4, .int .u8 x5, .int .u8 x6, .int .u8 x7, .int .i64 f, .int .i64 t] ∧ (Below w.heap.size w w' ∧ w'.cell? ⟨D, 0, none⟩ = some (.int .i64 kd) ∧ w'.cell? ⟨D, 1, none⟩ = some (.bool e) ∧ w'.cell? ⟨D, 2, none⟩ = some (.int .u32 n) ∧ w'.cell? ⟨D, 3, none⟩ = some (.bool q) ∧ w'.cell? ⟨D, 4, none⟩ = some (.int .i64 l) ∧ w'.cell? ⟨D, 5, none⟩ = some (.int .u8 x0) ∧ w'.cell? ⟨D, 6, none⟩ = some (.int .u8 x1) ∧ w'.cell? ⟨D, 7, none⟩ = some (.int .u8 x2) ∧ w'.cell? ⟨D, 8, none⟩ = some (.int .u8 x3) ∧ w'.cell? ⟨D, 9, none⟩ = some (.int .u8 x4) ∧ w'.cell? ⟨D, 10, none⟩ = some (.int .u8 x5) ∧ w'.cell? ⟨D, 11, none⟩ = some (.int .u8 x6) ∧ w'.cell? ⟨D, 12, none⟩ = some (.int .u8 x7) ∧ w'.cell? ⟨D, 13, none⟩ = some (.int .i64 f) ∧ w'.cell? ⟨D, 14, none⟩ = some (.int .i64 t)) from fun u v2 h hb hB => (HOB.out u _ _ _ h).mono fun y w' ⟨v3, he, hi, hbb, hk, hn⟩ => ⟨v3, he, hi, hb.stepB hk hn, HS.out _ (hB.trans hbb) ⟨_, _, hb.stepB hk hn⟩⟩)
        have kne : (R.2.2 != R.2.2) = false := by simp
        have z0 := HS.out _ HB2.out ⟨_, _, HBs2.out⟩
        have z1 := HS.out _ HB2.out.drew ⟨_, _, HBs2.out.on (Below.refl _ _).drew⟩
        clear h0
        go_upto_region 17 with fail
        clear d0 d1 d2 d3 d4 d5 d6 d7 d8 d9 d10 d11 d12 d13 d14 f0 f1 f2 f3 f4 f5 f6 f7 f8 f9 f10 f11 f12 f13 f14
        go_cut [84] (fun s84 wx => s84 = .bool false ∧ ∃ v2 v3, I2 w.heap.size wx B B' room F fv fv' (R.1) v2 R.2.1 (R.1) v3 R.2.1 ∧ Below w.heap.size w wx)
        case first =>
          go_region_held3 (fun u => (Below w.heap.size w u ∧ u.cell? ⟨D, 0, none⟩ = some (.int .i64 kd) ∧ u.cell? ⟨D, 1, none⟩ = some (.bool e) ∧ u.cell? ⟨D, 2, none⟩ = some (.int .u32 n) ∧ u.cell? ⟨D, 3, none⟩ = some (.bool q) ∧ u.cell? ⟨D, 4, none⟩ = some (.int .i64 l) ∧ u.cell? ⟨D, 5, none⟩ = some (.int .u8 x0) ∧ u.cell? ⟨D, 6, none⟩ = some (.int .u8 x1) ∧ u.cell? ⟨D, 7, none⟩ = some (.int .u8 x2) ∧ u.cell? ⟨D, 8, none⟩ = some (.int .u8 x3) ∧ u.cell? ⟨D, 9, none⟩ = some (.int .u8 x4) ∧ u.cell? ⟨D, 10, none⟩ = some (.int .u8 x5) ∧ u.cell? ⟨D, 11, none⟩ = some (.int .u8 x6) ∧ u.cell? ⟨D, 12, none⟩ = some (.int .u8 x7) ∧ u.cell? ⟨D, 13, none⟩ = some (.int .i64 f) ∧ u.cell? ⟨D, 14, none⟩ = some (.int .i64 t))) (first | (with_reducible assumption) | (with_reducible exact h6S)) (first | (go_at_call 34; refine (HQ1.out _ (by first | exact HI2.out | exact HI2.out.on (Below.refl _ _).drew) (by first | exact HBs2.out | exact HBs2.out.on (Below.refl _ _).drew) (by first | exact HB2.out | exact HB2.out.drew)).mono ?_; rintro e6 w6 ⟨v6, rfl, h6, h6B, h6S⟩) | (go_at_call 35; refine (HQ2.out _ _ h6 h6B h6S.1).mono ?_; rintro e7 w7 ⟨v7, rfl, h7, h7B, h7S⟩))
          all_goals (go_wp2_with fail; go_meet; exact ⟨rfl, _, _, h7, h7S.1⟩)
        case rest =>
        obtain ⟨rfl, v2, v3, h3, h4⟩ := hcut
        obtain ⟨we, hwe⟩ : ∃ we, we = wc := ⟨_, rfl⟩
        rw [← hwe] at h3 h4 ⊢
        have HIe := Lib.hid h3; have HBe := Lib.hid h4; have HQe := Lib.hid HOL.out
        clear h3 h4 hwe z0 z1 kne
        have kne : (((R.1).length : Int) != ((R.1).length : Int)) = false := by simp
        have kno : ((R.2.1) != (R.2.1)) = false := by simp
        have q3 : we.cell? ⟨B', 3, none⟩ = some (.bool (R.2.1)) := HIe.out.b.blk.cellAt (i := 3) (by simp)
        have HZ24 := Lib.hid (show ∀ u, Below we.heap.size we u → (Below we.heap.size we u ∧ u.cell? ⟨B', 3, none⟩ = some (.bool (R.2.1))) from fun u hu => ⟨hu, (HIe.out.on hu).b.blk.cellAt (i := 3) (by simp)⟩)
        have HLA := Lib.hid (show ∀ u, Below we.heap.size we u → Calls Try.prog 39 #[.pointer (some ⟨B, 0, none⟩)] u fun y w' => y = .returned (.int .i64 ((R.1).length : Int)) ∧ (Below we.heap.size we w' ∧ w'.cell? ⟨B', 3, none⟩ = some (.bool (R.2.1))) from fun u hu => (ilen_any B room F fv (R.1) v2 (R.2.1) u (HIe.out.on hu).a).mono fun y w' ⟨h1, h2⟩ => ⟨h1, by rw [← h2]; exact HZ24.out u hu⟩)
        have HLB := Lib.hid (show ∀ u, Below we.heap.size we u → Calls Try.prog 40 #[.pointer (some ⟨B', 0, none⟩)] u fun y w' => y = .returned (.int .i64 ((R.1).length : Int)) ∧ (Below we.heap.size we w' ∧ w'.cell? ⟨B', 3, none⟩ = some (.bool (R.2.1))) from fun u hu => (rlen_any B' room F fv' (R.1) v3 (R.2.1) u (HIe.out.on hu).b).mono fun y w' ⟨h1, h2⟩ => ⟨h1, by rw [← h2]; exact HZ24.out u hu⟩)
        have HLO := Lib.hid (show ∀ u, Below we.heap.size we u → Calls Try.prog 41 #[.pointer (some ⟨B, 0, none⟩)] u fun y w' => y = .returned (.bool (R.2.1)) ∧ (Below we.heap.size we w' ∧ w'.cell? ⟨B', 3, none⟩ = some (.bool (R.2.1))) from fun u hu => (iover_any B room F fv (R.1) v2 (R.2.1) u (HIe.out.on hu).a).mono fun y w' ⟨h1, h2⟩ => ⟨h1, by rw [← h2]; exact HZ24.out u hu⟩)
        have y0 := HZ24.out _ (Below.refl _ _)
        have y1 := HZ24.out _ (Below.refl _ _).drew
        go_upto_region 24 with fail
        go_cut [118] (fun s118 wx => s118 = .bool false ∧ Below we.heap.size we wx)
        case first =>
          go_region_held3 (fun u => (Below we.heap.size we u ∧ u.cell? ⟨B', 3, none⟩ = some (.bool (R.2.1)))) (with_reducible assumption) (first | (go_at_call 41; refine (HLO.out _ h11S.1).mono ?_; rintro e12 w12 ⟨rfl, h12S⟩) | (go_at_call 39; refine (HLA.out _ (by first | exact Below.refl _ _ | exact (Below.refl _ _).drew)).mono ?_; rintro e10 w10 ⟨rfl, h10S⟩) | (go_at_call 40; refine (HLB.out _ h10S.1).mono ?_; rintro e11 w11 ⟨rfl, h11S⟩))
          all_goals (go_wp2_with fail; go_meet; exact ⟨rfl, h12S.1⟩)
        case rest =>
        obtain ⟨rfl, h3⟩ := hcut
        have HIf := Lib.hid (HIe.out.on h3); have HBf := Lib.hid (below_transG HBe.out h3)
        clear h3
        go_wp2_with fail
        go_roundw
        case rel => exact ⟨i + 1, (R.1), v2, v3, (R.2.1), by simp, by have := HGO.out; omega, HIf.out, HQe.out, HBf.out⟩
        case measure => have := HGO.out; simp [intOf]; omega
      · have i4 : (kd == 0) = false := by rw [beq_eq_false_iff_ne]; exact h0
        by_cases h1 : kd = 1
        · have i5 : (kd == 1) = true := by rw [h1]; rfl
          clear h0 h1
          obtain ⟨PP, hPP⟩ : ∃ PP, PP = popF Q := ⟨_, rfl⟩
          have HPA := Lib.hid (HI2.out.popA (by have := HQ.out; have := HRM.out; omega))
          have HPB := Lib.hid (fun (u : World) v2 (h : I2 w.heap.size u B B' room F fv fv' (PP.2.2) v2 o (Q) vb o) => I2.popB h (by have := HQ.out; have := HRM.out; omega))
          have HPL := Lib.hid (pop_len Q room HQ.out)
          rw [← hPP] at HPA HPB HPL
          clear hPP
          obtain ⟨⟨pe, pn, pqq, pl, px0, px1, px2, px3, px4, px5, px6, px7, pf, pt⟩, pb, pq⟩ := PP
          unfold SD.V at HPA HPB
          simp only at HPA HPB HPL
          go_wp2_with fail
          refine HPA.out.mono ?_
          rintro y w6 ⟨v6, rfl, h6, hb6, hk6, hn6⟩
          obtain ⟨X7, hX7⟩ : ∃ X7, X7 = w6.alloc (.cells #[.bool pe, .int .u32 pn, .bool pqq, .int .i64 pl, .int .u8 px0, .int .u8 px1, .int .u8 px2, .int .u8 px3, .int .u8 px4, .int .u8 px5, .int .u8 px6, .int .u8 px7, .int .i64 pf, .int .i64 pt] 69) := ⟨_, rfl⟩
          have hb7 : Below w6.heap.size w6 X7 := by rw [hX7]; exact (Below.refl _ w6).alloc (Nat.le_refl _) _
          have HI7 := Lib.hid (h6.on hb7); have HB7 := Lib.hid ((HB2.out.trans hb6).trans (hb7.mono h6.lo.2.2.2.2))
          have HB13 := Lib.hid (show Bs X7 B B' v6 vb w6.heap.size 69 [.bool pe, .int .u32 pn, .bool pqq, .int .i64 pl, .int .u8 px0, .int .u8 px1, .int .u8 px2, .int .u8 px3, .int .u8 px4, .int .u8 px5, .int .u8 px6, .int .u8 px7, .int .i64 pf, .int .i64 pt] by rw [hX7]; exact Bs.new h6 69 [.bool pe, .int .u32 pn, .bool pqq, .int .i64 pl, .int .u8 px0, .int .u8 px1, .int .u8 px2, .int .u8 px3, .int .u8 px4, .int .u8 px5, .int .u8 px6, .int .u8 px7, .int .i64 pf, .int .i64 pt])
          clear h6 hb6 hk6 hn6 hb7 d0 d1 d2 d3 d4 d5 d6 d7 d8 d9 d10 d11 d12 d13 d14 f0 f1 f2 f3 f4 f5 f6 f7 f8 f9 f10 f11 f12 f13 f14
          go_upto_region 21 with fail
          rw [← hX7]
          clear hX7
          obtain ⟨D13, hD13⟩ : ∃ D13, D13 = w6.heap.size := ⟨_, rfl⟩
          rw [← hD13] at HB13 ⊢
          clear hD13
          go_wp2_with fail
          refine (HPB.out _ _ HI7.out).mono ?_
          rintro y w8 ⟨v8, rfl, h8, hb8, hk8, hn8⟩
          obtain ⟨X9, hX9⟩ : ∃ X9, X9 = w8.alloc (.cells #[.bool pe, .int .u32 pn, .bool pqq, .int .i64 pl, .int .u8 px0, .int .u8 px1, .int .u8 px2, .int .u8 px3, .int .u8 px4, .int .u8 px5, .int .u8 px6, .int .u8 px7, .int .i64 pf, .int .i64 pt] 69) := ⟨_, rfl⟩
          have hb9 : Below w8.heap.size w8 X9 := by rw [hX9]; exact (Below.refl _ w8).alloc (Nat.le_refl _) _
          have HIe := Lib.hid (h8.on hb9); have HBe := Lib.hid ((HB7.out.trans hb8).trans (hb9.mono h8.lo.2.2.2.2))
          have hS13 := ((HB13.out.stepB hk8 hn8).on hb9).blk
          have hS15 := (show Blk X9 w8.heap.size 69 [.bool pe, .int .u32 pn, .bool pqq, .int .i64 pl, .int .u8 px0, .int .u8 px1, .int .u8 px2, .int .u8 px3, .int .u8 px4, .int .u8 px5, .int .u8 px6, .int .u8 px7, .int .i64 pf, .int .i64 pt] by rw [hX9]; exact Blk.new w8 _ [.bool pe, .int .u32 pn, .bool pqq, .int .i64 pl, .int .u8 px0, .int .u8 px1, .int .u8 px2, .int .u8 px3, .int .u8 px4, .int .u8 px5, .int .u8 px6, .int .u8 px7, .int .i64 pf, .int .i64 pt])
          have HQe := Lib.hid HPL.out
          clear h8 hb8 hk8 hn8 hb9
          obtain ⟨we, hwe⟩ : ∃ we, we = X9 := ⟨_, rfl⟩
          go_upto_region 22 with fail
          rw [← hX9]
          rw [← hwe] at HIe HBe hS13 hS15 ⊢
          clear hX9 hwe
          have d0 := hS13.cellAt (i := 0) (by simp)
          have f0 := hS13.frozenAt 0
          have d1 := hS13.cellAt (i := 1) (by simp)
          have f1 := hS13.frozenAt 1
          have d2 := hS13.cellAt (i := 2) (by simp)
          have f2 := hS13.frozenAt 2
          have d3 := hS13.cellAt (i := 3) (by simp)
          have f3 := hS13.frozenAt 3
          have d4 := hS13.cellAt (i := 4) (by simp)
          have f4 := hS13.frozenAt 4
          have d5 := hS13.cellAt (i := 5) (by simp)
          have f5 := hS13.frozenAt 5
          have d6 := hS13.cellAt (i := 6) (by simp)
          have f6 := hS13.frozenAt 6
          have d7 := hS13.cellAt (i := 7) (by simp)
          have f7 := hS13.frozenAt 7
          have d8 := hS13.cellAt (i := 8) (by simp)
          have f8 := hS13.frozenAt 8
          have d9 := hS13.cellAt (i := 9) (by simp)
          have f9 := hS13.frozenAt 9
          have d10 := hS13.cellAt (i := 10) (by simp)
          have f10 := hS13.frozenAt 10
          have d11 := hS13.cellAt (i := 11) (by simp)
          have f11 := hS13.frozenAt 11
          have d12 := hS13.cellAt (i := 12) (by simp)
          have f12 := hS13.frozenAt 12
          have d13 := hS13.cellAt (i := 13) (by simp)
          have f13 := hS13.frozenAt 13
          simp only [List.getElem_cons_zero, List.getElem_cons_succ] at d0 d1 d2 d3 d4 d5 d6 d7 d8 d9 d10 d11 d12 d13
          have k0 := hS15.cellAt (i := 0) (by simp)
          have m0 := hS15.frozenAt 0
          have k1 := hS15.cellAt (i := 1) (by simp)
          have m1 := hS15.frozenAt 1
          have k2 := hS15.cellAt (i := 2) (by simp)
          have m2 := hS15.frozenAt 2
          have k3 := hS15.cellAt (i := 3) (by simp)
          have m3 := hS15.frozenAt 3
          have k4 := hS15.cellAt (i := 4) (by simp)
          have m4 := hS15.frozenAt 4
          have k5 := hS15.cellAt (i := 5) (by simp)
          have m5 := hS15.frozenAt 5
          have k6 := hS15.cellAt (i := 6) (by simp)
          have m6 := hS15.frozenAt 6
          have k7 := hS15.cellAt (i := 7) (by simp)
          have m7 := hS15.frozenAt 7
          have k8 := hS15.cellAt (i := 8) (by simp)
          have m8 := hS15.frozenAt 8
          have k9 := hS15.cellAt (i := 9) (by simp)
          have m9 := hS15.frozenAt 9
          have k10 := hS15.cellAt (i := 10) (by simp)
          have m10 := hS15.frozenAt 10
          have k11 := hS15.cellAt (i := 11) (by simp)
          have m11 := hS15.frozenAt 11
          have k12 := hS15.cellAt (i := 12) (by simp)
          have m12 := hS15.frozenAt 12
          have k13 := hS15.cellAt (i := 13) (by simp)
          have m13 := hS15.frozenAt 13
          simp only [List.getElem_cons_zero, List.getElem_cons_succ] at k0 k1 k2 k3 k4 k5 k6 k7 k8 k9 k10 k11 k12 k13
          have kpb : (pb != pb) = false := by simp
          have hee := heqs px0 px1 px2 px3 px4 px5 px6 px7
          clear hS13 hS15
          go_upto_region 24 with fail
          have kne : (((pq).length : Int) != ((pq).length : Int)) = false := by simp
          have kno : ((o) != (o)) = false := by simp
          have q3 : we.cell? ⟨B', 3, none⟩ = some (.bool (o)) := HIe.out.b.blk.cellAt (i := 3) (by simp)
          have HZ24 := Lib.hid (show ∀ u, Below we.heap.size we u → (Below we.heap.size we u ∧ u.cell? ⟨B', 3, none⟩ = some (.bool (o))) from fun u hu => ⟨hu, (HIe.out.on hu).b.blk.cellAt (i := 3) (by simp)⟩)
          have HLA := Lib.hid (show ∀ u, Below we.heap.size we u → Calls Try.prog 39 #[.pointer (some ⟨B, 0, none⟩)] u fun y w' => y = .returned (.int .i64 ((pq).length : Int)) ∧ (Below we.heap.size we w' ∧ w'.cell? ⟨B', 3, none⟩ = some (.bool (o))) from fun u hu => (ilen_any B room F fv (pq) v6 (o) u (HIe.out.on hu).a).mono fun y w' ⟨h1, h2⟩ => ⟨h1, by rw [← h2]; exact HZ24.out u hu⟩)
          have HLB := Lib.hid (show ∀ u, Below we.heap.size we u → Calls Try.prog 40 #[.pointer (some ⟨B', 0, none⟩)] u fun y w' => y = .returned (.int .i64 ((pq).length : Int)) ∧ (Below we.heap.size we w' ∧ w'.cell? ⟨B', 3, none⟩ = some (.bool (o))) from fun u hu => (rlen_any B' room F fv' (pq) v8 (o) u (HIe.out.on hu).b).mono fun y w' ⟨h1, h2⟩ => ⟨h1, by rw [← h2]; exact HZ24.out u hu⟩)
          have HLO := Lib.hid (show ∀ u, Below we.heap.size we u → Calls Try.prog 41 #[.pointer (some ⟨B, 0, none⟩)] u fun y w' => y = .returned (.bool (o)) ∧ (Below we.heap.size we w' ∧ w'.cell? ⟨B', 3, none⟩ = some (.bool (o))) from fun u hu => (iover_any B room F fv (pq) v6 (o) u (HIe.out.on hu).a).mono fun y w' ⟨h1, h2⟩ => ⟨h1, by rw [← h2]; exact HZ24.out u hu⟩)
          have y0 := HZ24.out _ (Below.refl _ _)
          have y1 := HZ24.out _ (Below.refl _ _).drew
          go_upto_region 24 with fail
          go_cut [118] (fun s118 wx => s118 = .bool false ∧ Below we.heap.size we wx)
          case first =>
            go_region_held3 (fun u => (Below we.heap.size we u ∧ u.cell? ⟨B', 3, none⟩ = some (.bool (o)))) (with_reducible assumption) (first | (go_at_call 41; refine (HLO.out _ h11S.1).mono ?_; rintro e12 w12 ⟨rfl, h12S⟩) | (go_at_call 39; refine (HLA.out _ (by first | exact Below.refl _ _ | exact (Below.refl _ _).drew)).mono ?_; rintro e10 w10 ⟨rfl, h10S⟩) | (go_at_call 40; refine (HLB.out _ h10S.1).mono ?_; rintro e11 w11 ⟨rfl, h11S⟩))
            all_goals (go_wp2_with fail; go_meet; exact ⟨rfl, h12S.1⟩)
          case rest =>
          obtain ⟨rfl, h3⟩ := hcut
          have HIf := Lib.hid (HIe.out.on h3); have HBf := Lib.hid (below_transG HBe.out h3)
          clear h3
          go_wp2_with fail
          go_roundw
          case rel => exact ⟨i + 1, (pq), v6, v8, (o), by simp, by have := HGO.out; omega, HIf.out, HQe.out, HBf.out⟩
          case measure => have := HGO.out; simp [intOf]; omega
        · have i5 : (kd == 1) = false := by rw [beq_eq_false_iff_ne]; exact h1
          clear h0 h1
          go_wp2_with fail
          refine HI2.out.clrA.mono ?_
          rintro y w6 ⟨rfl, h6, hb6, hk6⟩
          have q2 : w6.cell? ⟨B', 3, none⟩ = some (.bool o) := h6.b.blk.cellAt (i := 3) (by simp)
          have p2 : w6.frozen? ⟨B', 3, none⟩ = false := h6.b.blk.frozenAt 3
          obtain ⟨we, hwe⟩ : ∃ we, we = w6.setCell ⟨B', 3, none⟩ (.bool false) := ⟨_, rfl⟩
          have hst := h6.stepB (h6.b.set false) ((Kp.refl B' vb w6).set 3 (.bool false)) (Nx.refl _ _)
          rw [← hwe] at hst
          have HIe := Lib.hid hst.1; have HBe := Lib.hid ((HB2.out.trans hb6).trans hst.2); have HQe := Lib.hid HQ.out
          clear h6 hb6 hk6 hst d0 d1 d2 d3 d4 d5 d6 d7 d8 d9 d10 d11 d12 d13 d14 f0 f1 f2 f3 f4 f5 f6 f7 f8 f9 f10 f11 f12 f13 f14
          go_upto_region 24 with fail
          rw [← hwe]
          clear hwe q2 p2
          have kne : (((Q).length : Int) != ((Q).length : Int)) = false := by simp
          have kno : ((false) != (false)) = false := by simp
          have q3 : we.cell? ⟨B', 3, none⟩ = some (.bool (false)) := HIe.out.b.blk.cellAt (i := 3) (by simp)
          have HZ24 := Lib.hid (show ∀ u, Below we.heap.size we u → (Below we.heap.size we u ∧ u.cell? ⟨B', 3, none⟩ = some (.bool (false))) from fun u hu => ⟨hu, (HIe.out.on hu).b.blk.cellAt (i := 3) (by simp)⟩)
          have HLA := Lib.hid (show ∀ u, Below we.heap.size we u → Calls Try.prog 39 #[.pointer (some ⟨B, 0, none⟩)] u fun y w' => y = .returned (.int .i64 ((Q).length : Int)) ∧ (Below we.heap.size we w' ∧ w'.cell? ⟨B', 3, none⟩ = some (.bool (false))) from fun u hu => (ilen_any B room F fv (Q) va (false) u (HIe.out.on hu).a).mono fun y w' ⟨h1, h2⟩ => ⟨h1, by rw [← h2]; exact HZ24.out u hu⟩)
          have HLB := Lib.hid (show ∀ u, Below we.heap.size we u → Calls Try.prog 40 #[.pointer (some ⟨B', 0, none⟩)] u fun y w' => y = .returned (.int .i64 ((Q).length : Int)) ∧ (Below we.heap.size we w' ∧ w'.cell? ⟨B', 3, none⟩ = some (.bool (false))) from fun u hu => (rlen_any B' room F fv' (Q) vb (false) u (HIe.out.on hu).b).mono fun y w' ⟨h1, h2⟩ => ⟨h1, by rw [← h2]; exact HZ24.out u hu⟩)
          have HLO := Lib.hid (show ∀ u, Below we.heap.size we u → Calls Try.prog 41 #[.pointer (some ⟨B, 0, none⟩)] u fun y w' => y = .returned (.bool (false)) ∧ (Below we.heap.size we w' ∧ w'.cell? ⟨B', 3, none⟩ = some (.bool (false))) from fun u hu => (iover_any B room F fv (Q) va (false) u (HIe.out.on hu).a).mono fun y w' ⟨h1, h2⟩ => ⟨h1, by rw [← h2]; exact HZ24.out u hu⟩)
          have y0 := HZ24.out _ (Below.refl _ _)
          have y1 := HZ24.out _ (Below.refl _ _).drew
          go_upto_region 24 with fail
          go_cut [118] (fun s118 wx => s118 = .bool false ∧ Below we.heap.size we wx)
          case first =>
            go_region_held3 (fun u => (Below we.heap.size we u ∧ u.cell? ⟨B', 3, none⟩ = some (.bool (false)))) (with_reducible assumption) (first | (go_at_call 41; refine (HLO.out _ h11S.1).mono ?_; rintro e12 w12 ⟨rfl, h12S⟩) | (go_at_call 39; refine (HLA.out _ (by first | exact Below.refl _ _ | exact (Below.refl _ _).drew)).mono ?_; rintro e10 w10 ⟨rfl, h10S⟩) | (go_at_call 40; refine (HLB.out _ h10S.1).mono ?_; rintro e11 w11 ⟨rfl, h11S⟩))
            all_goals (go_wp2_with fail; go_meet; exact ⟨rfl, h12S.1⟩)
          case rest =>
          obtain ⟨rfl, h3⟩ := hcut
          have HIf := Lib.hid (HIe.out.on h3); have HBf := Lib.hid (below_transG HBe.out h3)
          clear h3
          go_wp2_with fail
          go_roundw
          case rel => exact ⟨i + 1, (Q), va, vb, (false), by simp, by have := HGO.out; omega, HIf.out, HQe.out, HBf.out⟩
          case measure => have := HGO.out; simp [intOf]; omega
    · have HGX := Lib.hid hgo
      have hT : ((i : Int) < (L.length : Int) ∧ ¬ (i : Int) < 80) ∨ ¬ (i : Int) < (L.length : Int) := by omega
      clear hgo
      rcases hT with ⟨i1, i2⟩ | i1
      all_goals
        go_wp2_with fail
        refine (live14 _).mono ?_
        rintro y w5 ⟨rfl, hb⟩
        have HBz := Lib.hid (below_transG HB.out hb)
        clear hb
        go_wp2_with fail
        go_ret
        exact ⟨rfl, HBz.out⟩
set_option maxRecDepth 100000 in
theorem lifted (os : Os) (started : os.Started) (H : Type) (enc : TypeId × Value → H) :
    ReturnsInHanded {} Try.checked os 6 .any (Rows.inboxPlaysSpec.pre6 enc Try.prog Try.f6 Rows.inboxPlaysRow.domain false) (Rows.inboxPlaysSpec.post enc Try.prog Try.f6 false true false false) := by
  refine returnsInHanded_of_change (C := Try.checked) own started (by kernel_rfl) Try.func6
    (ChangeSpec.witness6 (enc := enc) (C := Try.checked) false ⟨#[], #[.int .i64 0, .slice none 0 0, .slice none 0 0], []⟩ 8 (by kernel_rfl) (by kernel_rfl) (by kernel_rfl) (by kernel_rfl)) ?_
  intro W base args ds gs before hval0 hW _ _
  have hval : ∀ (j : Nat) t v, Try.f6.params[j]? = some t → args[j]? = some v → Value.okWide Try.prog W .any base t v := hval0
  have hW' := hW
  obtain ⟨p, q, hA0, hV, rfl, hfz, hnd⟩ := hW
  have hA : DataW.TrodAll enc Try.prog W 0 (fun _ => true) true Try.f6.params.toList args.toList ds p := hA0
  rw [Try.params6] at hA hval
  obtain ⟨v0, vs0, d0, ds0, p0, q0, hargs, rfl, rfl, h0, r0⟩ := trodAll_cons hA
  obtain ⟨v1, vs1, d1, ds1, p1, q1, rfl, rfl, rfl, h1, r1⟩ := trodAll_cons r0
  obtain ⟨v2, vs2, d2, ds2, p2, q2, rfl, rfl, rfl, h2, r2⟩ := trodAll_cons r1
  obtain ⟨rfl, rfl, rfl⟩ := trodAll_nil r2
  obtain rfl : args = #[v0, v1, v2] := by cases args; simp_all
  obtain ⟨rfl, rfl⟩ := trodVars_none hV
  obtain ⟨a0, rfl, rfl, rfl, w0⟩ := open_int Try.underlying3 (hval 0 3 v0 rfl rfl) h0
  obtain ⟨a1, len1, cap1, rfl⟩ := okWide_slice Try.underlying60 (hval 1 60 v1 rfl rfl)
  have k1 := h1
  have lt1 : ∀ x ∈ p1, x.block < W.heap.size := by obtain ⟨m, hm⟩ := k1; exact DataW.trod_lt m _ _ _ hm
  obtain ⟨L1, wl1, ww1, wr1⟩ : ∃ L : List Fl, L.length = len1 ∧ (∀ s ∈ L, Fl.wf s) ∧ Rd W 3 (.slice a1 len1 cap1) (L.flatMap Fl.C) := by
    obtain ⟨fuel, hf⟩ := h1
    exact open_rows Fl.C Fl.wf 3 (by decide) Try.underlying60 (by kernel_rfl) (fun _ => rfl) (fun _ _ _ => filterG) (by simpa [Value.cells] using hf)
  obtain ⟨a2, len2, cap2, rfl⟩ := okWide_slice Try.underlying61 (hval 2 61 v2 rfl rfl)
  have k2 := h2
  have lt2 : ∀ x ∈ p2, x.block < W.heap.size := by obtain ⟨m, hm⟩ := k2; exact DataW.trod_lt m _ _ _ hm
  obtain ⟨L2, wl2, ww2, wr2⟩ : ∃ L : List A14, L.length = len2 ∧ (∀ s ∈ L, A14.wf s) ∧ Rd W 15 (.slice a2 len2 cap2) (L.flatMap A14.C) := by
    obtain ⟨fuel, hf⟩ := h2
    exact open_rows A14.C A14.wf 15 (by decide) Try.underlying61 (by kernel_rfl) (fun _ => rfl) (fun _ _ _ => act14G) (by simpa [Value.cells] using hf)
  clear hA0 hval0
  refine (walk a0 a1 len1 cap1 L1 a2 len2 cap2 L2 W w0 ⟨wl1, ww1, wr1⟩ ⟨wl2, ww2, wr2⟩).mono fun e W' ⟨he, bel⟩ => ?_
  subst he
  exact ⟨_, rfl, _, _, _, [], _, [], hW', trodAll_mk1 (shut_bool Try.underlying4 _), (trodAll_cons_mk (shut_int Try.underlying3 w0) (trodAll_cons_mk (Below.trod laidOut (by kernel_rfl) (of_decide_eq_true (by kernel_rfl)) k1 bel lt1) (trodAll_cons_mk (Below.trod laidOut (by kernel_rfl) (of_decide_eq_true (by kernel_rfl)) k2 bel lt2) trodAll_mk0))), rfl, bel.frame _, fun h => by cases h⟩
theorem over : Rows.inboxPlaysRow.holds Try.pinned (OpenSpec.ofChange Rows.inboxPlaysSpec) :=
  OpenClaim.holds_of_wide 6 Try.f6 rfl rfl rfl rfl rfl rfl rfl ⟨rfl, rfl, rfl, rfl, rfl⟩ rfl rfl rfl rfl rfl (by kernel_rfl) Try.func6 (by kernel_rfl)
    (of_decide_eq_true (by kernel_rfl)) (by unfold Func.isWrapper; first | (rw [if_pos (by decide +kernel)]; kernel_rfl) | (rw [if_neg (by decide +kernel)]; exact ⟨rfl, rfl⟩))
    (fun os started H enc _ => lifted os started H enc)
/-- The statement. -/
theorem proved : Rows.InboxPlaysSaid := over
end Go.Proofs.Ytifpifhaajkncaa.inboxPlays
