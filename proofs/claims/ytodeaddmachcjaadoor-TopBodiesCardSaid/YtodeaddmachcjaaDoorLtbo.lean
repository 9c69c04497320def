/- The statement of E3 (TopBodies): of two frames the one that wins has the dominant bit where their bodies are unlike first. Conditions: the divisor's cells hold what the program's own text lays in them (tied). -/
import Derived.Test.YtodeaddmachcjaaDoorRows
import Derived.Test.YtodeaddmachcjaaDoorOpe
import Derived.Test.YtodeaddmachcjaaDoorFcc
import Derived.Test.YtodeaddmachcjaaDoorIdg
import Derived.Deep.RegionHeld3
import Derived.Deep.DeepCutAuto
import Derived.Deep.RegionWith
import Derived.BigQuiet
import Derived.Test.YtodeaddmachcjaaDoorBat
import Derived.WalkKit
import Derived.ProofKit
import Derived.OpenShut
import Derived.ShutString
import Derived.ChangeOld
import Derived.Below
namespace Go.Proofs.YtodeaddmachcjaaDoor.topBodies
open Go.ChangeShapes Go.WideShapes Go.ChangeAt Go.RowKit
theorem own : ownKnob Tryd.prog.godebug = none := by kernel_rfl
theorem laidOut : laidOutB Tryd.prog = true := by kernel_rfl
theorem put_other {W : World} {B C : Nat} {e0 : Bool} {n0 : Nat} {r0 : Bool} {l0 : Int} {x0 : List Nat} (h : FrameAt W B e0 n0 r0 l0 x0) (hne : C ≠ B) (e : Bool) (n : Nat) (r : Bool) (len : Int) (d0 d1 d2 d3 d4 d5 d6 d7 : Nat) : FrameAt ((((((((((((W.setCell ⟨C, 0, none⟩ (.bool e)).setCell ⟨C, 1, none⟩ (.int .u32 (n : Int))).setCell ⟨C, 2, none⟩ (.bool r)).setCell ⟨C, 3, none⟩ (.int .i64 len)).setCell ⟨C, 4, none⟩ (.int .u8 (d0 : Int))).setCell ⟨C, 5, none⟩ (.int .u8 (d1 : Int))).setCell ⟨C, 6, none⟩ (.int .u8 (d2 : Int))).setCell ⟨C, 7, none⟩ (.int .u8 (d3 : Int))).setCell ⟨C, 8, none⟩ (.int .u8 (d4 : Int))).setCell ⟨C, 9, none⟩ (.int .u8 (d5 : Int))).setCell ⟨C, 10, none⟩ (.int .u8 (d6 : Int))).setCell ⟨C, 11, none⟩ (.int .u8 (d7 : Int))) B e0 n0 r0 l0 x0 := ((((((((((((h).other (o := 0) hne _).other (o := 1) hne _).other (o := 2) hne _).other (o := 3) hne _).other (o := 4) hne _).other (o := 5) hne _).other (o := 6) hne _).other (o := 7) hne _).other (o := 8) hne _).other (o := 9) hne _).other (o := 10) hne _).other (o := 11) hne _
theorem put_below {W a : World} {n₀ C : Nat} (h : Below n₀ a W) (hC : n₀ ≤ C) (e : Bool) (n : Nat) (r : Bool) (len : Int) (d0 d1 d2 d3 d4 d5 d6 d7 : Nat) : Below n₀ a ((((((((((((W.setCell ⟨C, 0, none⟩ (.bool e)).setCell ⟨C, 1, none⟩ (.int .u32 (n : Int))).setCell ⟨C, 2, none⟩ (.bool r)).setCell ⟨C, 3, none⟩ (.int .i64 len)).setCell ⟨C, 4, none⟩ (.int .u8 (d0 : Int))).setCell ⟨C, 5, none⟩ (.int .u8 (d1 : Int))).setCell ⟨C, 6, none⟩ (.int .u8 (d2 : Int))).setCell ⟨C, 7, none⟩ (.int .u8 (d3 : Int))).setCell ⟨C, 8, none⟩ (.int .u8 (d4 : Int))).setCell ⟨C, 9, none⟩ (.int .u8 (d5 : Int))).setCell ⟨C, 10, none⟩ (.int .u8 (d6 : Int))).setCell ⟨C, 11, none⟩ (.int .u8 (d7 : Int))) := ((((((((((((h).setCell (p := ⟨C, 0, none⟩) hC _).setCell (p := ⟨C, 1, none⟩) hC _).setCell (p := ⟨C, 2, none⟩) hC _).setCell (p := ⟨C, 3, none⟩) hC _).setCell (p := ⟨C, 4, none⟩) hC _).setCell (p := ⟨C, 5, none⟩) hC _).setCell (p := ⟨C, 6, none⟩) hC _).setCell (p := ⟨C, 7, none⟩) hC _).setCell (p := ⟨C, 8, none⟩) hC _).setCell (p := ⟨C, 9, none⟩) hC _).setCell (p := ⟨C, 10, none⟩) hC _).setCell (p := ⟨C, 11, none⟩) hC _
theorem put_size {W : World} {C : Nat} (e : Bool) (n : Nat) (r : Bool) (len : Int) (d0 d1 d2 d3 d4 d5 d6 d7 : Nat) : ((((((((((((W.setCell ⟨C, 0, none⟩ (.bool e)).setCell ⟨C, 1, none⟩ (.int .u32 (n : Int))).setCell ⟨C, 2, none⟩ (.bool r)).setCell ⟨C, 3, none⟩ (.int .i64 len)).setCell ⟨C, 4, none⟩ (.int .u8 (d0 : Int))).setCell ⟨C, 5, none⟩ (.int .u8 (d1 : Int))).setCell ⟨C, 6, none⟩ (.int .u8 (d2 : Int))).setCell ⟨C, 7, none⟩ (.int .u8 (d3 : Int))).setCell ⟨C, 8, none⟩ (.int .u8 (d4 : Int))).setCell ⟨C, 9, none⟩ (.int .u8 (d5 : Int))).setCell ⟨C, 10, none⟩ (.int .u8 (d6 : Int))).setCell ⟨C, 11, none⟩ (.int .u8 (d7 : Int))).heap.size = W.heap.size := by simp only [setCell_size2]
set_option maxRecDepth 100000 in
set_option maxHeartbeats 8000000 in
theorem walk (e0 : Bool) (n0 : Nat) (q0 : Bool) (l0 : Int) (x0 : List Nat) (e1 : Bool) (n1 : Nat) (q1 : Bool) (l1 : Int) (x1 : List Nat) (w0 : n0 < 4294967296 ∧ x0.length = 8 ∧ ∀ y ∈ x0, y < 256) (w1 : n1 < 4294967296 ∧ x1.length = 8 ∧ ∀ y ∈ x1, y < 256) (w : World) (h0 : 1 < w.heap.size) (hT : Tab w) :
    Calls Tryd.prog 8 #[frameV e0 n0 q0 l0 x0, frameV e1 n1 q1 l1 x1] w fun e w' => e = .returned (.bool true) ∧ Below w.heap.size w w' := by
  obtain ⟨hn0, hx0, hb0⟩ := w0
  obtain ⟨hn1, hx1, hb1⟩ := w1
  have HT := Lib.hid hT
  have HLF := Lib.hid (fun u => lawFrame_any e0 n0 hn0 q0 l0 x0 hx0 u)
  have HLG := Lib.hid (fun u => lawFrame_any e1 n1 hn1 q1 l1 x1 hx1 u)
  have HF0 := Lib.hid (FrameAt.new w 27 e0 n0 q0 l0 x0 hx0)
  have HG0 := Lib.hid (FrameAt.new (w.alloc (.cells ((frameC e0 n0 q0 l0 x0).toArray) 27)) 27 e1 n1 q1 l1 x1 hx1)
  -- the frames that can be
  have hrf := cut_can e0 n0 q0 l0 x0
  have hrg := cut_can e1 n1 q1 l1 x1
  have tb : ∀ (x : List Nat) (r : Bool) (m : Nat), (∀ y ∈ x, y < 256) → ∀ y ∈ trimD x r m 8, y < 256 := fun x r m hx y hy => by
    simp only [trimD, List.mem_map, List.mem_range] at hy
    obtain ⟨i, hi, rfl⟩ := hy
    split
    · omega
    · by_cases hl : i < x.length
      · rw [List.getElem?_eq_getElem hl]; exact hx _ (List.getElem_mem _)
      · rw [List.getElem?_eq_none (by omega)]; exact Nat.zero_lt_succ _
  have hcb := tb x0 q0 (cutL l0) hb0
  have hgb := tb x1 q1 (cutL l1) hb1
  have hsn : ∀ (e : Bool) (n : Nat), n < 4294967296 → cutN e n < 4294967296 := fun e n h => by unfold cutN; split <;> omega
  have hs0 := hsn e0 n0 hn0
  have hs1 := hsn e1 n1 hn1
  obtain ⟨c0, c1, c2, c3, c4, c5, c6, c7, hC⟩ := eight (trimD_length x0 q0 (cutL l0) 8)
  obtain ⟨g0, g1, g2, g3, g4, g5, g6, g7, hE⟩ := eight (trimD_length x1 q1 (cutL l1) 8)
  rw [hC] at HLF hrf hcb
  rw [hE] at HLG hrg hgb
  obtain ⟨s0, hss0⟩ : ∃ s0, s0 = cutN e0 n0 := ⟨_, rfl⟩
  obtain ⟨s1, hss1⟩ : ∃ s1, s1 = cutN e1 n1 := ⟨_, rfl⟩
  obtain ⟨m0, hm0⟩ : ∃ m0, m0 = cutL l0 := ⟨_, rfl⟩
  obtain ⟨m1, hm1⟩ : ∃ m1, m1 = cutL l1 := ⟨_, rfl⟩
  rw [← hss0, ← hm0] at HLF hrf
  rw [← hss1, ← hm1] at HLG hrg
  rw [← hss0] at hs0
  rw [← hss1] at hs1
  have HRF := Lib.hid hrf; have HRG := Lib.hid hrg; have HCB := Lib.hid hcb; have HGB := Lib.hid hgb
  obtain ⟨a0, a1, a2, a3, a4, a5, a6, a7, rfl⟩ := eight hx0
  obtain ⟨b0, b1, b2, b3, b4, b5, b6, b7, rfl⟩ := eight hx1
  simp only [frameV, frameC, List.map] at HLF HLG
  simp only [frameC, List.map] at HF0 HG0
  clear hC hE hss0 hss1 hm0 hm1 hrf hrg hcb hgb hb0 hb1 hx0 hx1 tb hsn hT hn0 hn1
  simp only [frameV, frameC, List.map]
  go_enter Tryd.func8, Tryd.ntmps8
  go_wp2_with fail
  obtain ⟨wr, hwr⟩ : ∃ wr, wr = ((w.alloc (.cells #[.bool e0, .int .u32 (n0 : Int), .bool q0, .int .i64 l0, .int .u8 (a0 : Int), .int .u8 (a1 : Int), .int .u8 (a2 : Int), .int .u8 (a3 : Int), .int .u8 (a4 : Int), .int .u8 (a5 : Int), .int .u8 (a6 : Int), .int .u8 (a7 : Int)] 27)).alloc (.cells #[.bool e1, .int .u32 (n1 : Int), .bool q1, .int .i64 l1, .int .u8 (b0 : Int), .int .u8 (b1 : Int), .int .u8 (b2 : Int), .int .u8 (b3 : Int), .int .u8 (b4 : Int), .int .u8 (b5 : Int), .int .u8 (b6 : Int), .int .u8 (b7 : Int)] 27)) := ⟨_, rfl⟩
  have HF1 := Lib.hid (show FrameAt wr w.heap.size e0 n0 q0 l0 [a0, a1, a2, a3, a4, a5, a6, a7] by rw [hwr]; exact HF0.out.more (by simp) _)
  have HG1 := Lib.hid (show FrameAt wr (w.heap.size + 1) e1 n1 q1 l1 [b0, b1, b2, b3, b4, b5, b6, b7] by have h := HG0.out; rw [World.size_alloc] at h; rw [hwr]; exact h)
  have BR := Lib.hid (show Below w.heap.size w wr by rw [hwr]; exact ((Below.refl _ w).alloc (Nat.le_refl _) _).alloc (by simp) _)
  have hzr : w.heap.size + 2 ≤ wr.heap.size := by rw [hwr]; simp
  rw [← hwr]
  clear hwr HF0 HG0
  -- f, g = Frame(f), Frame(g)
  go_cut [10, 11, 12, 13] (fun _ _ _ _ wx => FrameAt wx w.heap.size e0 s0 q0 (m0 : Int) [c0, c1, c2, c3, c4, c5, c6, c7] ∧ FrameAt wx (w.heap.size + 1) e1 s1 q1 (m1 : Int) [g0, g1, g2, g3, g4, g5, g6, g7] ∧ Below w.heap.size w wx ∧ w.heap.size + 2 ≤ wx.heap.size)
  case first =>
    have ff : ∀ u, Below wr.heap.size wr u → FrameAt u w.heap.size e0 n0 q0 l0 [a0, a1, a2, a3, a4, a5, a6, a7] := fun u hu => HF1.out.keep hu (by omega)
    have gg : ∀ u, Below wr.heap.size wr u → FrameAt u (w.heap.size + 1) e1 n1 q1 l1 [b0, b1, b2, b3, b4, b5, b6, b7] := fun u hu => HG1.out.keep hu (by omega)
    have FF := Lib.hid ff; have GG := Lib.hid gg
    clear ff gg
    have KF := Lib.hid (show ∀ u, Below wr.heap.size wr u → Calls Tryd.prog 26 #[.agg #[.bool e0, .int .u32 (n0 : Int), .bool q0, .int .i64 l0, .int .u8 (a0 : Int), .int .u8 (a1 : Int), .int .u8 (a2 : Int), .int .u8 (a3 : Int), .int .u8 (a4 : Int), .int .u8 (a5 : Int), .int .u8 (a6 : Int), .int .u8 (a7 : Int)]] u fun x w' => x = .returned (.agg #[.bool e0, .int .u32 (s0 : Int), .bool q0, .int .i64 (m0 : Int), .int .u8 (c0 : Int), .int .u8 (c1 : Int), .int .u8 (c2 : Int), .int .u8 (c3 : Int), .int .u8 (c4 : Int), .int .u8 (c5 : Int), .int .u8 (c6 : Int), .int .u8 (c7 : Int)]) ∧ Below wr.heap.size wr w' from fun u hu => (HLF.out u).mono fun _ _ h => ⟨h.1, below_trans' hu h.2⟩)
    have KG := Lib.hid (show ∀ u, Below wr.heap.size wr u → Calls Tryd.prog 26 #[.agg #[.bool e1, .int .u32 (n1 : Int), .bool q1, .int .i64 l1, .int .u8 (b0 : Int), .int .u8 (b1 : Int), .int .u8 (b2 : Int), .int .u8 (b3 : Int), .int .u8 (b4 : Int), .int .u8 (b5 : Int), .int .u8 (b6 : Int), .int .u8 (b7 : Int)]] u fun x w' => x = .returned (.agg #[.bool e1, .int .u32 (s1 : Int), .bool q1, .int .i64 (m1 : Int), .int .u8 (g0 : Int), .int .u8 (g1 : Int), .int .u8 (g2 : Int), .int .u8 (g3 : Int), .int .u8 (g4 : Int), .int .u8 (g5 : Int), .int .u8 (g6 : Int), .int .u8 (g7 : Int)]) ∧ Below wr.heap.size wr w' from fun u hu => (HLG.out u).mono fun _ _ h => ⟨h.1, below_trans' hu h.2⟩)
    obtain ⟨p0, p1, p2, p3, p4, p5, p6, p7, p8, p9, p10, p11⟩ := HF1.out.cells
    obtain ⟨o0, o1, o2, o3, o4, o5, o6, o7, o8, o9, o10, o11⟩ := HG1.out.cells
    have hbr : Below wr.heap.size wr wr.drew := (Below.refl _ _).drew
    go_region_with (first | (go_at_call 26; have zz := hbA; clear zz; refine (KG.out _ (by first | exact hbA | exact hbA.drew)).mono ?_; rintro x wB ⟨rfl, hbB⟩; obtain ⟨p0, p1, p2, p3, p4, p5, p6, p7, p8, p9, p10, p11⟩ := (FF.out _ hbB).cells; obtain ⟨f0, f1, f2, f3, f4, f5, f6, f7, f8, f9, f10, f11⟩ := (FF.out _ hbB).frz; obtain ⟨o0, o1, o2, o3, o4, o5, o6, o7, o8, o9, o10, o11⟩ := (GG.out _ hbB).cells; obtain ⟨h0, h1, h2, h3, h4, h5, h6, h7, h8, h9, h10, h11⟩ := (GG.out _ hbB).frz) | (go_at_call 26; refine (KF.out _ (by first | exact hbr | exact hbr.drew)).mono ?_; rintro x wA ⟨rfl, hbA⟩; obtain ⟨p0, p1, p2, p3, p4, p5, p6, p7, p8, p9, p10, p11⟩ := (FF.out _ hbA).cells; obtain ⟨o0, o1, o2, o3, o4, o5, o6, o7, o8, o9, o10, o11⟩ := (GG.out _ hbA).cells))
    all_goals
      go_wp2_with fail
      go_meet
      have fB := FF.out _ hbB
      have gB := GG.out _ hbB
      exact ⟨put_other (fB.put e0 s0 q0 (m0 : Int) c0 c1 c2 c3 c4 c5 c6 c7) (by omega) e1 s1 q1 (m1 : Int) g0 g1 g2 g3 g4 g5 g6 g7, (put_other gB (by omega) e0 s0 q0 (m0 : Int) c0 c1 c2 c3 c4 c5 c6 c7).put e1 s1 q1 (m1 : Int) g0 g1 g2 g3 g4 g5 g6 g7, put_below (put_below (BR.out.trans (hbB.mono (by omega))) (Nat.le_refl _) e0 s0 q0 (m0 : Int) c0 c1 c2 c3 c4 c5 c6 c7) (Nat.le_succ _) e1 s1 q1 (m1 : Int) g0 g1 g2 g3 g4 g5 g6 g7, by rw [put_size, put_size]; exact Nat.le_trans hzr hbB.size⟩
  case rest =>
  obtain ⟨hF, hG, hBX, hzx⟩ := hcut
  obtain ⟨wx, hwx⟩ : ∃ wx, wx = wc := ⟨_, rfl⟩
  rw [← hwx] at hF hG hBX hzx ⊢
  clear hwx
  have HFX := Lib.hid hF; have HGX := Lib.hid hG; have BX := Lib.hid hBX
  clear hF hG hBX HF1 HG1 BR hzr HLF HLG
  have HS := Lib.hid (show ∀ u, Below wx.heap.size wx u → Below wx.heap.size wx u ∧ u.cell? ⟨w.heap.size, 0, none⟩ = some (.bool e0) ∧ u.cell? ⟨w.heap.size, 1, none⟩ = some (.int .u32 (s0 : Int)) ∧ u.cell? ⟨w.heap.size, 2, none⟩ = some (.bool q0) ∧ u.cell? ⟨w.heap.size, 3, none⟩ = some (.int .i64 (m0 : Int)) ∧ u.cell? ⟨w.heap.size, 4, none⟩ = some (.int .u8 (c0 : Int)) ∧ u.cell? ⟨w.heap.size, 5, none⟩ = some (.int .u8 (c1 : Int)) ∧ u.cell? ⟨w.heap.size, 6, none⟩ = some (.int .u8 (c2 : Int)) ∧ u.cell? ⟨w.heap.size, 7, none⟩ = some (.int .u8 (c3 : Int)) ∧ u.cell? ⟨w.heap.size, 8, none⟩ = some (.int .u8 (c4 : Int)) ∧ u.cell? ⟨w.heap.size, 9, none⟩ = some (.int .u8 (c5 : Int)) ∧ u.cell? ⟨w.heap.size, 10, none⟩ = some (.int .u8 (c6 : Int)) ∧ u.cell? ⟨w.heap.size, 11, none⟩ = some (.int .u8 (c7 : Int)) ∧ u.cell? ⟨w.heap.size + 1, 0, none⟩ = some (.bool e1) ∧ u.cell? ⟨w.heap.size + 1, 1, none⟩ = some (.int .u32 (s1 : Int)) ∧ u.cell? ⟨w.heap.size + 1, 2, none⟩ = some (.bool q1) ∧ u.cell? ⟨w.heap.size + 1, 3, none⟩ = some (.int .i64 (m1 : Int)) ∧ u.cell? ⟨w.heap.size + 1, 4, none⟩ = some (.int .u8 (g0 : Int)) ∧ u.cell? ⟨w.heap.size + 1, 5, none⟩ = some (.int .u8 (g1 : Int)) ∧ u.cell? ⟨w.heap.size + 1, 6, none⟩ = some (.int .u8 (g2 : Int)) ∧ u.cell? ⟨w.heap.size + 1, 7, none⟩ = some (.int .u8 (g3 : Int)) ∧ u.cell? ⟨w.heap.size + 1, 8, none⟩ = some (.int .u8 (g4 : Int)) ∧ u.cell? ⟨w.heap.size + 1, 9, none⟩ = some (.int .u8 (g5 : Int)) ∧ u.cell? ⟨w.heap.size + 1, 10, none⟩ = some (.int .u8 (g6 : Int)) ∧ u.cell? ⟨w.heap.size + 1, 11, none⟩ = some (.int .u8 (g7 : Int)) from fun u hu => by
    obtain ⟨p0, p1, p2, p3, p4, p5, p6, p7, p8, p9, p10, p11⟩ := (HFX.out.keep hu (by omega)).cells
    obtain ⟨o0, o1, o2, o3, o4, o5, o6, o7, o8, o9, o10, o11⟩ := (HGX.out.keep hu (by omega)).cells
    exact ⟨hu, p0, p1, p2, p3, p4, p5, p6, p7, p8, p9, p10, p11, o0, o1, o2, o3, o4, o5, o6, o7, o8, o9, o10, o11⟩)
  obtain ⟨X, hX⟩ : ∃ X, X = bodyB e0 s0 q0 m0 [c0, c1, c2, c3, c4, c5, c6, c7] := ⟨_, rfl⟩
  obtain ⟨Y, hY⟩ : ∃ Y, Y = bodyB e1 s1 q1 m1 [g0, g1, g2, g3, g4, g5, g6, g7] := ⟨_, rfl⟩
  obtain ⟨hri0, hm80, _⟩ := rightF_data HRF.out
  obtain ⟨hri1, hm81, _⟩ := rightF_data HRG.out
  have hXl := bodyB_length (r := q0) (len := m0) (data := [c0, c1, c2, c3, c4, c5, c6, c7]) hri0
  have hYl := bodyB_length (r := q1) (len := m1) (data := [g0, g1, g2, g3, g4, g5, g6, g7]) hri1
  rw [← hX] at hXl
  rw [← hY] at hYl
  have szb : ∀ (e r : Bool) (m : Nat), m ≤ 8 → 34 ≤ sizeN e r m ∧ sizeN e r m ≤ 200 := fun e r m hm => by
    unfold sizeN
    cases e <;> cases r <;> simp <;> omega
  have hX34 := szb e0 q0 m0 hm80
  have hY34 := szb e1 q1 m1 hm81
  rw [← hXl] at hX34
  rw [← hYl] at hY34
  have HWF := Lib.hid (fun i (hd : ¬ (e0 = e1 ∧ s0 = s1 ∧ q0 = q1)) => body_first (e := e0) (n := s0) (r := q0) (f := e1) (m := s1) (s := q1) (len := m0) (len' := m1) (d := [c0, c1, c2, c3, c4, c5, c6, c7]) (d' := [g0, g1, g2, g3, g4, g5, g6, g7]) (i := i) hri0 hri1 hd)
  have HWS := Lib.hid (body_same (e := e0) (n := s0) (r := q0) (f := e1) (m := s1) (s := q1) (len := m0) (len' := m1) (d := [c0, c1, c2, c3, c4, c5, c6, c7]) (d' := [g0, g1, g2, g3, g4, g5, g6, g7]) hri0 hri1)
  obtain ⟨wn, hwn⟩ : ∃ wn, wn = winsI e0 s0 q0 e1 s1 q1 := ⟨_, rfl⟩
  obtain ⟨ls, hls⟩ : ∃ ls, ls = winsI e1 s1 q1 e0 s0 q0 := ⟨_, rfl⟩
  have HON := Lib.hid (show (e0 = e1 ∧ s0 = s1 ∧ q0 = q1 → wn = false ∧ ls = false) ∧ (¬ (e0 = e1 ∧ s0 = s1 ∧ q0 = q1) → wn = !ls) from ⟨fun h => by
    obtain ⟨rfl, rfl, rfl⟩ := h
    rw [hwn, hls]
    exact ⟨winsI_same _ _ _, winsI_same _ _ _⟩, fun h => by rw [hwn, hls]; exact winsI_one hri0 hri1 h⟩)
  have HWN := Lib.hid (fun u => wins_any e0 s0 q0 e1 s1 q1 hs0 hs1 u)
  have HLS := Lib.hid (fun u => wins_any e1 s1 q1 e0 s0 q0 hs1 hs0 u)
  rw [← hwn] at HWF HWN
  rw [← hls] at HLS
  rw [← hX, ← hY] at HWF HWS
  unfold identV at HWN HLS
  have HBF := Lib.hid (show ∀ u, (Below wx.heap.size wx u ∧ u.cell? ⟨w.heap.size, 0, none⟩ = some (.bool e0) ∧ u.cell? ⟨w.heap.size, 1, none⟩ = some (.int .u32 (s0 : Int)) ∧ u.cell? ⟨w.heap.size, 2, none⟩ = some (.bool q0) ∧ u.cell? ⟨w.heap.size, 3, none⟩ = some (.int .i64 (m0 : Int)) ∧ u.cell? ⟨w.heap.size, 4, none⟩ = some (.int .u8 (c0 : Int)) ∧ u.cell? ⟨w.heap.size, 5, none⟩ = some (.int .u8 (c1 : Int)) ∧ u.cell? ⟨w.heap.size, 6, none⟩ = some (.int .u8 (c2 : Int)) ∧ u.cell? ⟨w.heap.size, 7, none⟩ = some (.int .u8 (c3 : Int)) ∧ u.cell? ⟨w.heap.size, 8, none⟩ = some (.int .u8 (c4 : Int)) ∧ u.cell? ⟨w.heap.size, 9, none⟩ = some (.int .u8 (c5 : Int)) ∧ u.cell? ⟨w.heap.size, 10, none⟩ = some (.int .u8 (c6 : Int)) ∧ u.cell? ⟨w.heap.size, 11, none⟩ = some (.int .u8 (c7 : Int)) ∧ u.cell? ⟨w.heap.size + 1, 0, none⟩ = some (.bool e1) ∧ u.cell? ⟨w.heap.size + 1, 1, none⟩ = some (.int .u32 (s1 : Int)) ∧ u.cell? ⟨w.heap.size + 1, 2, none⟩ = some (.bool q1) ∧ u.cell? ⟨w.heap.size + 1, 3, none⟩ = some (.int .i64 (m1 : Int)) ∧ u.cell? ⟨w.heap.size + 1, 4, none⟩ = some (.int .u8 (g0 : Int)) ∧ u.cell? ⟨w.heap.size + 1, 5, none⟩ = some (.int .u8 (g1 : Int)) ∧ u.cell? ⟨w.heap.size + 1, 6, none⟩ = some (.int .u8 (g2 : Int)) ∧ u.cell? ⟨w.heap.size + 1, 7, none⟩ = some (.int .u8 (g3 : Int)) ∧ u.cell? ⟨w.heap.size + 1, 8, none⟩ = some (.int .u8 (g4 : Int)) ∧ u.cell? ⟨w.heap.size + 1, 9, none⟩ = some (.int .u8 (g5 : Int)) ∧ u.cell? ⟨w.heap.size + 1, 10, none⟩ = some (.int .u8 (g6 : Int)) ∧ u.cell? ⟨w.heap.size + 1, 11, none⟩ = some (.int .u8 (g7 : Int))) → Calls Tryd.prog 15 #[.agg #[.bool e0, .int .u32 (s0 : Int), .bool q0, .int .i64 (m0 : Int), .int .u8 (c0 : Int), .int .u8 (c1 : Int), .int .u8 (c2 : Int), .int .u8 (c3 : Int), .int .u8 (c4 : Int), .int .u8 (c5 : Int), .int .u8 (c6 : Int), .int .u8 (c7 : Int)]] u fun x w' => ∃ a c, x = .returned (.slice a X.length c) ∧ Str w'.heap.size w' (.slice a X.length c) X ∧ Below u.heap.size u w' ∧ Below wx.heap.size wx w' ∧ w'.cell? ⟨w.heap.size, 0, none⟩ = some (.bool e0) ∧ w'.cell? ⟨w.heap.size, 1, none⟩ = some (.int .u32 (s0 : Int)) ∧ w'.cell? ⟨w.heap.size, 2, none⟩ = some (.bool q0) ∧ w'.cell? ⟨w.heap.size, 3, none⟩ = some (.int .i64 (m0 : Int)) ∧ w'.cell? ⟨w.heap.size, 4, none⟩ = some (.int .u8 (c0 : Int)) ∧ w'.cell? ⟨w.heap.size, 5, none⟩ = some (.int .u8 (c1 : Int)) ∧ w'.cell? ⟨w.heap.size, 6, none⟩ = some (.int .u8 (c2 : Int)) ∧ w'.cell? ⟨w.heap.size, 7, none⟩ = some (.int .u8 (c3 : Int)) ∧ w'.cell? ⟨w.heap.size, 8, none⟩ = some (.int .u8 (c4 : Int)) ∧ w'.cell? ⟨w.heap.size, 9, none⟩ = some (.int .u8 (c5 : Int)) ∧ w'.cell? ⟨w.heap.size, 10, none⟩ = some (.int .u8 (c6 : Int)) ∧ w'.cell? ⟨w.heap.size, 11, none⟩ = some (.int .u8 (c7 : Int)) ∧ w'.cell? ⟨w.heap.size + 1, 0, none⟩ = some (.bool e1) ∧ w'.cell? ⟨w.heap.size + 1, 1, none⟩ = some (.int .u32 (s1 : Int)) ∧ w'.cell? ⟨w.heap.size + 1, 2, none⟩ = some (.bool q1) ∧ w'.cell? ⟨w.heap.size + 1, 3, none⟩ = some (.int .i64 (m1 : Int)) ∧ w'.cell? ⟨w.heap.size + 1, 4, none⟩ = some (.int .u8 (g0 : Int)) ∧ w'.cell? ⟨w.heap.size + 1, 5, none⟩ = some (.int .u8 (g1 : Int)) ∧ w'.cell? ⟨w.heap.size + 1, 6, none⟩ = some (.int .u8 (g2 : Int)) ∧ w'.cell? ⟨w.heap.size + 1, 7, none⟩ = some (.int .u8 (g3 : Int)) ∧ w'.cell? ⟨w.heap.size + 1, 8, none⟩ = some (.int .u8 (g4 : Int)) ∧ w'.cell? ⟨w.heap.size + 1, 9, none⟩ = some (.int .u8 (g5 : Int)) ∧ w'.cell? ⟨w.heap.size + 1, 10, none⟩ = some (.int .u8 (g6 : Int)) ∧ w'.cell? ⟨w.heap.size + 1, 11, none⟩ = some (.int .u8 (g7 : Int)) from fun u hu => by
    have bu := BX.out.trans (hu.1.mono BX.out.size)
    refine (frameBody_yes e0 s0 hs0 q0 m0 [c0, c1, c2, c3, c4, c5, c6, c7] rfl HCB.out HRF.out u (Nat.lt_of_lt_of_le h0 bu.size) (HT.out.onB bu h0)).mono ?_
    rintro x w' ⟨v, rfl, ho, hb⟩
    rw [← hX] at ho
    obtain ⟨a, c, rfl⟩ := ho.shape
    exact ⟨a, c, rfl, ho.str, hb, HS.out _ (below_trans' hu.1 hb)⟩)
  have HBG := Lib.hid (show ∀ u, (Below wx.heap.size wx u ∧ u.cell? ⟨w.heap.size, 0, none⟩ = some (.bool e0) ∧ u.cell? ⟨w.heap.size, 1, none⟩ = some (.int .u32 (s0 : Int)) ∧ u.cell? ⟨w.heap.size, 2, none⟩ = some (.bool q0) ∧ u.cell? ⟨w.heap.size, 3, none⟩ = some (.int .i64 (m0 : Int)) ∧ u.cell? ⟨w.heap.size, 4, none⟩ = some (.int .u8 (c0 : Int)) ∧ u.cell? ⟨w.heap.size, 5, none⟩ = some (.int .u8 (c1 : Int)) ∧ u.cell? ⟨w.heap.size, 6, none⟩ = some (.int .u8 (c2 : Int)) ∧ u.cell? ⟨w.heap.size, 7, none⟩ = some (.int .u8 (c3 : Int)) ∧ u.cell? ⟨w.heap.size, 8, none⟩ = some (.int .u8 (c4 : Int)) ∧ u.cell? ⟨w.heap.size, 9, none⟩ = some (.int .u8 (c5 : Int)) ∧ u.cell? ⟨w.heap.size, 10, none⟩ = some (.int .u8 (c6 : Int)) ∧ u.cell? ⟨w.heap.size, 11, none⟩ = some (.int .u8 (c7 : Int)) ∧ u.cell? ⟨w.heap.size + 1, 0, none⟩ = some (.bool e1) ∧ u.cell? ⟨w.heap.size + 1, 1, none⟩ = some (.int .u32 (s1 : Int)) ∧ u.cell? ⟨w.heap.size + 1, 2, none⟩ = some (.bool q1) ∧ u.cell? ⟨w.heap.size + 1, 3, none⟩ = some (.int .i64 (m1 : Int)) ∧ u.cell? ⟨w.heap.size + 1, 4, none⟩ = some (.int .u8 (g0 : Int)) ∧ u.cell? ⟨w.heap.size + 1, 5, none⟩ = some (.int .u8 (g1 : Int)) ∧ u.cell? ⟨w.heap.size + 1, 6, none⟩ = some (.int .u8 (g2 : Int)) ∧ u.cell? ⟨w.heap.size + 1, 7, none⟩ = some (.int .u8 (g3 : Int)) ∧ u.cell? ⟨w.heap.size + 1, 8, none⟩ = some (.int .u8 (g4 : Int)) ∧ u.cell? ⟨w.heap.size + 1, 9, none⟩ = some (.int .u8 (g5 : Int)) ∧ u.cell? ⟨w.heap.size + 1, 10, none⟩ = some (.int .u8 (g6 : Int)) ∧ u.cell? ⟨w.heap.size + 1, 11, none⟩ = some (.int .u8 (g7 : Int))) → Calls Tryd.prog 15 #[.agg #[.bool e1, .int .u32 (s1 : Int), .bool q1, .int .i64 (m1 : Int), .int .u8 (g0 : Int), .int .u8 (g1 : Int), .int .u8 (g2 : Int), .int .u8 (g3 : Int), .int .u8 (g4 : Int), .int .u8 (g5 : Int), .int .u8 (g6 : Int), .int .u8 (g7 : Int)]] u fun x w' => ∃ a c, x = .returned (.slice a Y.length c) ∧ Str w'.heap.size w' (.slice a Y.length c) Y ∧ Below u.heap.size u w' ∧ Below wx.heap.size wx w' ∧ w'.cell? ⟨w.heap.size, 0, none⟩ = some (.bool e0) ∧ w'.cell? ⟨w.heap.size, 1, none⟩ = some (.int .u32 (s0 : Int)) ∧ w'.cell? ⟨w.heap.size, 2, none⟩ = some (.bool q0) ∧ w'.cell? ⟨w.heap.size, 3, none⟩ = some (.int .i64 (m0 : Int)) ∧ w'.cell? ⟨w.heap.size, 4, none⟩ = some (.int .u8 (c0 : Int)) ∧ w'.cell? ⟨w.heap.size, 5, none⟩ = some (.int .u8 (c1 : Int)) ∧ w'.cell? ⟨w.heap.size, 6, none⟩ = some (.int .u8 (c2 : Int)) ∧ w'.cell? ⟨w.heap.size, 7, none⟩ = some (.int .u8 (c3 : Int)) ∧ w'.cell? ⟨w.heap.size, 8, none⟩ = some (.int .u8 (c4 : Int)) ∧ w'.cell? ⟨w.heap.size, 9, none⟩ = some (.int .u8 (c5 : Int)) ∧ w'.cell? ⟨w.heap.size, 10, none⟩ = some (.int .u8 (c6 : Int)) ∧ w'.cell? ⟨w.heap.size, 11, none⟩ = some (.int .u8 (c7 : Int)) ∧ w'.cell? ⟨w.heap.size + 1, 0, none⟩ = some (.bool e1) ∧ w'.cell? ⟨w.heap.size + 1, 1, none⟩ = some (.int .u32 (s1 : Int)) ∧ w'.cell? ⟨w.heap.size + 1, 2, none⟩ = some (.bool q1) ∧ w'.cell? ⟨w.heap.size + 1, 3, none⟩ = some (.int .i64 (m1 : Int)) ∧ w'.cell? ⟨w.heap.size + 1, 4, none⟩ = some (.int .u8 (g0 : Int)) ∧ w'.cell? ⟨w.heap.size + 1, 5, none⟩ = some (.int .u8 (g1 : Int)) ∧ w'.cell? ⟨w.heap.size + 1, 6, none⟩ = some (.int .u8 (g2 : Int)) ∧ w'.cell? ⟨w.heap.size + 1, 7, none⟩ = some (.int .u8 (g3 : Int)) ∧ w'.cell? ⟨w.heap.size + 1, 8, none⟩ = some (.int .u8 (g4 : Int)) ∧ w'.cell? ⟨w.heap.size + 1, 9, none⟩ = some (.int .u8 (g5 : Int)) ∧ w'.cell? ⟨w.heap.size + 1, 10, none⟩ = some (.int .u8 (g6 : Int)) ∧ w'.cell? ⟨w.heap.size + 1, 11, none⟩ = some (.int .u8 (g7 : Int)) from fun u hu => by
    have bu := BX.out.trans (hu.1.mono BX.out.size)
    refine (frameBody_yes e1 s1 hs1 q1 m1 [g0, g1, g2, g3, g4, g5, g6, g7] rfl HGB.out HRG.out u (Nat.lt_of_lt_of_le h0 bu.size) (HT.out.onB bu h0)).mono ?_
    rintro x w' ⟨v, rfl, ho, hb⟩
    rw [← hY] at ho
    obtain ⟨a, c, rfl⟩ := ho.shape
    exact ⟨a, c, rfl, ho.str, hb, HS.out _ (below_trans' hu.1 hb)⟩)
  clear hXl hYl szb hwn hls hm80 hm81
  have HX := Lib.hid hX; have HY := Lib.hid hY
  clear hX hY
  go_wp2_with fail
  have k0 := HS.out _ (Below.refl wx.heap.size wx).drew
  go_region_held3 (fun w' => Below wx.heap.size wx w' ∧ w'.cell? ⟨w.heap.size, 0, none⟩ = some (.bool e0) ∧ w'.cell? ⟨w.heap.size, 1, none⟩ = some (.int .u32 (s0 : Int)) ∧ w'.cell? ⟨w.heap.size, 2, none⟩ = some (.bool q0) ∧ w'.cell? ⟨w.heap.size, 3, none⟩ = some (.int .i64 (m0 : Int)) ∧ w'.cell? ⟨w.heap.size, 4, none⟩ = some (.int .u8 (c0 : Int)) ∧ w'.cell? ⟨w.heap.size, 5, none⟩ = some (.int .u8 (c1 : Int)) ∧ w'.cell? ⟨w.heap.size, 6, none⟩ = some (.int .u8 (c2 : Int)) ∧ w'.cell? ⟨w.heap.size, 7, none⟩ = some (.int .u8 (c3 : Int)) ∧ w'.cell? ⟨w.heap.size, 8, none⟩ = some (.int .u8 (c4 : Int)) ∧ w'.cell? ⟨w.heap.size, 9, none⟩ = some (.int .u8 (c5 : Int)) ∧ w'.cell? ⟨w.heap.size, 10, none⟩ = some (.int .u8 (c6 : Int)) ∧ w'.cell? ⟨w.heap.size, 11, none⟩ = some (.int .u8 (c7 : Int)) ∧ w'.cell? ⟨w.heap.size + 1, 0, none⟩ = some (.bool e1) ∧ w'.cell? ⟨w.heap.size + 1, 1, none⟩ = some (.int .u32 (s1 : Int)) ∧ w'.cell? ⟨w.heap.size + 1, 2, none⟩ = some (.bool q1) ∧ w'.cell? ⟨w.heap.size + 1, 3, none⟩ = some (.int .i64 (m1 : Int)) ∧ w'.cell? ⟨w.heap.size + 1, 4, none⟩ = some (.int .u8 (g0 : Int)) ∧ w'.cell? ⟨w.heap.size + 1, 5, none⟩ = some (.int .u8 (g1 : Int)) ∧ w'.cell? ⟨w.heap.size + 1, 6, none⟩ = some (.int .u8 (g2 : Int)) ∧ w'.cell? ⟨w.heap.size + 1, 7, none⟩ = some (.int .u8 (g3 : Int)) ∧ w'.cell? ⟨w.heap.size + 1, 8, none⟩ = some (.int .u8 (g4 : Int)) ∧ w'.cell? ⟨w.heap.size + 1, 9, none⟩ = some (.int .u8 (g5 : Int)) ∧ w'.cell? ⟨w.heap.size + 1, 10, none⟩ = some (.int .u8 (g6 : Int)) ∧ w'.cell? ⟨w.heap.size + 1, 11, none⟩ = some (.int .u8 (g7 : Int))) (assumption) (first | (go_at_call 15; have zz := h4; clear zz; refine (HBG.out _ (by assumption)).mono ?_; rintro x w5 ⟨ay, cy, rfl, sy, hb5, h5⟩; have sx5 := sx.on hb5) | (go_at_call 15; refine (HBF.out _ (by assumption)).mono ?_; rintro x w4 ⟨ax, cx, rfl, sx, hb4, h4⟩))
  have SX := Lib.hid sx5
  have SY := Lib.hid sy
  have B5 := Lib.hid h5.1
  have ix : ¬ ((X.length : Int) < 34) := by omega
  have iy : ¬ ((Y.length : Int) < 34) := by omega
  clear sx sx5 sy hb4 hb5 h4 h5 k0 HBF HBG
  go_wp2_with fail
  have HC5 := Lib.hid (HS.out _ B5.out)
  have hz5 : w.heap.size + 2 ≤ w5.heap.size := Nat.le_trans hzx B5.out.size
  have HS5 := Lib.hid (show ∀ u, Below w5.heap.size w5 u → Below w5.heap.size w5 u ∧ u.cell? ⟨w.heap.size, 0, none⟩ = some (.bool e0) ∧ u.cell? ⟨w.heap.size, 1, none⟩ = some (.int .u32 (s0 : Int)) ∧ u.cell? ⟨w.heap.size, 2, none⟩ = some (.bool q0) ∧ u.cell? ⟨w.heap.size + 1, 0, none⟩ = some (.bool e1) ∧ u.cell? ⟨w.heap.size + 1, 1, none⟩ = some (.int .u32 (s1 : Int)) ∧ u.cell? ⟨w.heap.size + 1, 2, none⟩ = some (.bool q1) from fun u hu => by
    have h := HS.out _ (below_trans' B5.out hu)
    exact ⟨hu, h.2.1, h.2.2.1, h.2.2.2.1, h.2.2.2.2.2.2.2.2.2.2.2.2.2.1, h.2.2.2.2.2.2.2.2.2.2.2.2.2.2.1, h.2.2.2.2.2.2.2.2.2.2.2.2.2.2.2.1⟩)
  have CW := Lib.hid (show ∀ u, (Below w5.heap.size w5 u ∧ u.cell? ⟨w.heap.size, 0, none⟩ = some (.bool e0) ∧ u.cell? ⟨w.heap.size, 1, none⟩ = some (.int .u32 (s0 : Int)) ∧ u.cell? ⟨w.heap.size, 2, none⟩ = some (.bool q0) ∧ u.cell? ⟨w.heap.size + 1, 0, none⟩ = some (.bool e1) ∧ u.cell? ⟨w.heap.size + 1, 1, none⟩ = some (.int .u32 (s1 : Int)) ∧ u.cell? ⟨w.heap.size + 1, 2, none⟩ = some (.bool q1)) → Calls Tryd.prog 27 #[.agg #[.bool e0, .int .u32 (s0 : Int)], .bool q0, .agg #[.bool e1, .int .u32 (s1 : Int)], .bool q1] u fun x w' => x = .returned (.bool wn) ∧ Below w5.heap.size w5 w' ∧ w'.cell? ⟨w.heap.size, 0, none⟩ = some (.bool e0) ∧ w'.cell? ⟨w.heap.size, 1, none⟩ = some (.int .u32 (s0 : Int)) ∧ w'.cell? ⟨w.heap.size, 2, none⟩ = some (.bool q0) ∧ w'.cell? ⟨w.heap.size + 1, 0, none⟩ = some (.bool e1) ∧ w'.cell? ⟨w.heap.size + 1, 1, none⟩ = some (.int .u32 (s1 : Int)) ∧ w'.cell? ⟨w.heap.size + 1, 2, none⟩ = some (.bool q1) from fun u hu => (HWN.out u).mono fun _ _ h => ⟨h.1, HS5.out _ (below_trans' hu.1 h.2)⟩)
  have CL := Lib.hid (show ∀ u, (Below w5.heap.size w5 u ∧ u.cell? ⟨w.heap.size, 0, none⟩ = some (.bool e0) ∧ u.cell? ⟨w.heap.size, 1, none⟩ = some (.int .u32 (s0 : Int)) ∧ u.cell? ⟨w.heap.size, 2, none⟩ = some (.bool q0) ∧ u.cell? ⟨w.heap.size + 1, 0, none⟩ = some (.bool e1) ∧ u.cell? ⟨w.heap.size + 1, 1, none⟩ = some (.int .u32 (s1 : Int)) ∧ u.cell? ⟨w.heap.size + 1, 2, none⟩ = some (.bool q1)) → Calls Tryd.prog 27 #[.agg #[.bool e1, .int .u32 (s1 : Int)], .bool q1, .agg #[.bool e0, .int .u32 (s0 : Int)], .bool q0] u fun x w' => x = .returned (.bool ls) ∧ Below w5.heap.size w5 w' ∧ w'.cell? ⟨w.heap.size, 0, none⟩ = some (.bool e0) ∧ w'.cell? ⟨w.heap.size, 1, none⟩ = some (.int .u32 (s0 : Int)) ∧ w'.cell? ⟨w.heap.size, 2, none⟩ = some (.bool q0) ∧ w'.cell? ⟨w.heap.size + 1, 0, none⟩ = some (.bool e1) ∧ w'.cell? ⟨w.heap.size + 1, 1, none⟩ = some (.int .u32 (s1 : Int)) ∧ w'.cell? ⟨w.heap.size + 1, 2, none⟩ = some (.bool q1) from fun u hu => (HLS.out u).mono fun _ _ h => ⟨h.1, HS5.out _ (below_trans' hu.1 h.2)⟩)
  have B0 := Lib.hid (BX.out.trans (B5.out.mono BX.out.size))
  clear HS HWN HLS BX
  have k5 := HS5.out _ (Below.refl w5.heap.size w5).drew
  go_region_held3 (fun w' => Below w5.heap.size w5 w' ∧ w'.cell? ⟨w.heap.size, 0, none⟩ = some (.bool e0) ∧ w'.cell? ⟨w.heap.size, 1, none⟩ = some (.int .u32 (s0 : Int)) ∧ w'.cell? ⟨w.heap.size, 2, none⟩ = some (.bool q0) ∧ w'.cell? ⟨w.heap.size + 1, 0, none⟩ = some (.bool e1) ∧ w'.cell? ⟨w.heap.size + 1, 1, none⟩ = some (.int .u32 (s1 : Int)) ∧ w'.cell? ⟨w.heap.size + 1, 2, none⟩ = some (.bool q1)) (assumption) (first | (go_at_call 27; have zz := h6; clear zz; refine (CL.out _ (by assumption)).mono ?_; rintro x w7 ⟨rfl, h7⟩) | (go_at_call 27; refine (CW.out _ (by assumption)).mono ?_; rintro x w6 ⟨rfl, h6⟩))
  have B7 := Lib.hid h7.1
  clear h6 h7 k5 CW CL HS5
  by_cases hid : e0 = e1 ∧ s0 = s1 ∧ q0 = q1
  · obtain ⟨rfl, rfl⟩ := HON.out.1 hid
    go_wp2_with fail
    go_loopw [9] (fun i wq => ∃ j : Nat, i = .int .i64 j ∧ j ≤ X.length ∧ j ≤ Y.length ∧ Below w5.heap.size w5 wq) (fun i _ => X.length - (intOf i).toNat)
    case atStart => exact ⟨0, rfl, Nat.zero_le _, Nat.zero_le _, B7.out⟩
    case round =>
      obtain ⟨j, rfl, hjx, hjy, hbel⟩ := hrel
      have HBR := Lib.hid hbel
      clear hbel
      have j0 : (0 : Int) ≤ (j : Int) := by omega
      by_cases hlx : j < X.length
      · by_cases hly : j < Y.length
        · obtain ⟨bx, ox, rfl, hbx, cx'⟩ := SX.out.at hlx
          obtain ⟨by', oy, rfl, hby, cy'⟩ := SY.out.at hly
          have xx := cx' _ HBR.out
          have yy := cy' _ HBR.out
          obtain ⟨x, hx⟩ : ∃ x, x = X[j]?.getD 0 := ⟨_, rfl⟩
          obtain ⟨y, hy⟩ : ∃ y, y = Y[j]?.getD 0 := ⟨_, rfl⟩
          rw [← hx] at xx
          rw [← hy] at yy
          have jx : (j : Int) < (X.length : Int) := by omega
          have jy : (j : Int) < (Y.length : Int) := by omega
          clear cx' cy' hx hy
          by_cases hxy : x = y
          · have hne : ((x : Int) != (y : Int)) = false := by rw [hxy]; simp
            clear hxy
            go_wp2_with fail
            go_quiet (fail)
            have HBD := Lib.hid (below_drewN' HBR.out nq)
            go_wp2_with fail
            go_roundw
            case rel => exact ⟨j + 1, by simp, by omega, by omega, HBD.out⟩
            case measure => simp [intOf]; omega
          · have hne : ((x : Int) != (y : Int)) = true := by rw [bne_iff_ne]; omega
            clear hxy
            go_wp2_with fail
            go_quiet (fail)
            have HBD := Lib.hid (below_drewN' HBR.out nq)
            go_wp2_with fail
            go_roundw
            case rel => exact ⟨j + 1, by simp, by omega, by omega, HBD.out⟩
            case measure => simp [intOf]; omega
        · have hge : ¬ ((j : Int) < (Y.length : Int)) := by omega
          have HE := Lib.hid (B0.out.trans (HBR.out.mono B0.out.size))
          go_wp2_with fail
          go_ret
          exact ⟨rfl, HE.out⟩
      · have hge : ¬ ((j : Int) < (X.length : Int)) := by omega
        have HE := Lib.hid (B0.out.trans (HBR.out.mono B0.out.size))
        go_wp2_with fail
        go_ret
        exact ⟨rfl, HE.out⟩
  · obtain rfl := HON.out.2 hid
    have HNE := Lib.hid hid
    clear hid
    cases ls
    all_goals
      try simp only [Bool.not_false, Bool.not_true] at *
      go_wp2_with fail
      go_loopw [9] (fun i wq => ∃ j : Nat, i = .int .i64 j ∧ j ≤ X.length ∧ j ≤ Y.length ∧ (∀ k, k < j → X[k]?.getD 0 = Y[k]?.getD 0) ∧ Below w5.heap.size w5 wq) (fun i _ => X.length - (intOf i).toNat)
      case atStart => exact ⟨0, rfl, Nat.zero_le _, Nat.zero_le _, fun k hk => absurd hk (Nat.not_lt_zero _), B7.out⟩
      case round =>
        obtain ⟨j, rfl, hjx, hjy, hpre, hbel⟩ := hrel
        have HBR := Lib.hid hbel
        have HPRE := Lib.hid hpre
        clear hbel hpre
        have j0 : (0 : Int) ≤ (j : Int) := by omega
        by_cases hlx : j < X.length
        · by_cases hly : j < Y.length
          · obtain ⟨bx, ox, rfl, hbx, cx'⟩ := SX.out.at hlx
            obtain ⟨by', oy, rfl, hby, cy'⟩ := SY.out.at hly
            have xx := cx' _ HBR.out
            have yy := cy' _ HBR.out
            have CX := Lib.hid cx'
            obtain ⟨x, hx⟩ : ∃ x, x = X[j]?.getD 0 := ⟨_, rfl⟩
            obtain ⟨y, hy⟩ : ∃ y, y = Y[j]?.getD 0 := ⟨_, rfl⟩
            rw [← hx] at xx CX
            rw [← hy] at yy
            have jx : (j : Int) < (X.length : Int) := by omega
            have jy : (j : Int) < (Y.length : Int) := by omega
            have HXE := Lib.hid hx; have HYE := Lib.hid hy
            clear cx' cy' hx hy
            by_cases hxy : x = y
            · have hne : ((x : Int) != (y : Int)) = false := by rw [hxy]; simp
              have HN := Lib.hid (show ∀ k, k < j + 1 → X[k]?.getD 0 = Y[k]?.getD 0 from fun k hk => by
                by_cases e : k = j
                · rw [e, ← HXE.out, ← HYE.out]; exact hxy
                · exact HPRE.out k (by omega))
              clear hxy
              go_wp2_with fail
              go_quiet (fail)
              have HBD := Lib.hid (below_drewN' HBR.out nq)
              go_wp2_with fail
              go_roundw
              case rel => exact ⟨j + 1, by simp, by omega, by omega, HN.out, HBD.out⟩
              case measure => simp [intOf]; omega
            · have hne : ((x : Int) != (y : Int)) = true := by rw [bne_iff_ne]; omega
              have hw := HWF.out j HNE.out HPRE.out (by rw [← HXE.out, ← HYE.out]; exact hxy)
              rw [← HXE.out] at hw
              have hx0 : ((x : Int) == 0) = decide (x = 0) := by rw [Bool.eq_iff_iff]; simp
              rw [← hw] at hx0
              clear hxy hw
              go_wp2_with fail
              go_quiet (fail)
              have HBD := Lib.hid (below_drewN' HBR.out nq)
              have xx := CX.out _ HBD.out
              have HE := Lib.hid (B0.out.trans (HBD.out.mono B0.out.size))
              go_wp2_with fail
              go_ret
              exact ⟨by simp, HE.out⟩
          · exfalso
            exact HNE.out (HWS.out (fun i a b => HPRE.out i (by omega)))
        · exfalso
          exact HNE.out (HWS.out (fun i a b => HPRE.out i (by omega)))
theorem door_met (os : Os) (args : Array Value) : laidMetH Tryd.prog laidD ((World.doorLaid Tryd.prog 400 os).forCall (fun _ _ => 0) ⟨#[], args, []⟩).memory :=
  laidMetH_of_parts3 (fuel := 8) (laidMet_of_run' 8 (by kernel_rfl) (by kernel_rfl)) (by kernel_rfl) (by kernel_rfl)
set_option maxRecDepth 100000 in
theorem lifted (os : Os) (started : os.Started) (H : Type) (enc : TypeId × Value → H) :
    ReturnsInHanded {} Tryd.checked os 8 .any (fun w args => (Rows.topBodiesSpec.pre enc Tryd.prog Tryd.f8 [] false w args ∧ laidMetH Tryd.prog laidD w) ∧ sizedMet enc Tryd.prog Tryd.f8 (OpenSpec.ofChange Rows.topBodiesSpec) false w args)
      (Rows.topBodiesSpec.post enc Tryd.prog Tryd.f8 false true false false) := by
  refine returnsInHanded_of_change_and (C := Tryd.checked) (X := fun w _ => laidMetH Tryd.prog laidD w) (fun _ _ _ hh h => h.of_heap hh) own started (by kernel_rfl) Tryd.func8
    (ChangeSpec.witness_shaped (enc := enc) (C := Tryd.checked) (os := os) (X := fun w _ => laidMetH Tryd.prog laidD w) false (World.doorLaid Tryd.prog 400 os) #[.agg #[.bool false, .int .u32 0, .bool false, .int .i64 0, .int .u8 0, .int .u8 0, .int .u8 0, .int .u8 0, .int .u8 0, .int .u8 0, .int .u8 0, .int .u8 0], .agg #[.bool false, .int .u32 0, .bool false, .int .i64 0, .int .u8 0, .int .u8 0, .int .u8 0, .int .u8 0, .int .u8 0, .int .u8 0, .int .u8 0, .int .u8 0]] 8 rfl (World.shaped_of_RefB (by kernel_rfl) (by kernel_rfl)) (by kernel_rfl) (by kernel_rfl) (by kernel_rfl) (door_met os _)) ?_
  intro W base args ds gs before hval0 hW _ _ hL _
  have hval : ∀ (j : Nat) t v, Tryd.f8.params[j]? = some t → args[j]? = some v → Value.okWide Tryd.prog W .any base t v := hval0
  have hW' := hW
  obtain ⟨p, q, hA0, hV, rfl, hfz, hnd⟩ := hW
  have hA : DataW.TrodAll enc Tryd.prog W 0 (fun _ => true) true Tryd.f8.params.toList args.toList ds p := hA0
  rw [Tryd.params8] at hA hval
  obtain ⟨v0, vs0, d0, ds0, p0, q0, hargs, rfl, rfl, h0, r0⟩ := trodAll_cons hA
  obtain ⟨v1, vs1, d1, ds1, p1, q1, rfl, rfl, rfl, h1, r1⟩ := trodAll_cons r0
  obtain ⟨rfl, rfl, rfl⟩ := trodAll_nil r1
  obtain rfl : args = #[v0, v1] := by cases args; simp_all
  obtain ⟨rfl, rfl⟩ := trodVars_none hV
  have k0 := h0
  have lt0 : ∀ x ∈ p0, x.block < W.heap.size := by obtain ⟨m, hm⟩ := k0; exact DataW.trod_lt m _ _ _ hm
  obtain ⟨e0, n0, q0, l0, x0, rfl, w0⟩ := open_frame (hval 0 27 v0 rfl rfl) h0
  have k1 := h1
  have lt1 : ∀ x ∈ p1, x.block < W.heap.size := by obtain ⟨m, hm⟩ := k1; exact DataW.trod_lt m _ _ _ hm
  obtain ⟨e1, n1, q1, l1, x1, rfl, w1⟩ := open_frame (hval 1 27 v1 rfl rfl) h1
  clear hA0 hval0
  obtain ⟨hTab, hsz0⟩ := tab_of_laid hL
  refine (walk e0 n0 q0 l0 x0 e1 n1 q1 l1 x1 w0 w1 W hsz0 hTab).mono fun e W' ⟨he, bel⟩ => ?_
  subst he
  exact ⟨_, rfl, _, _, _, [], _, [], hW', trodAll_mk1 (shut_bool Tryd.underlying4 _), (trodAll_cons_mk (Below.trod laidOut (by kernel_rfl) (of_decide_eq_true (by kernel_rfl)) k0 bel lt0) (trodAll_cons_mk (Below.trod laidOut (by kernel_rfl) (of_decide_eq_true (by kernel_rfl)) k1 bel lt1) trodAll_mk0)), rfl, bel.frame _, fun h => by cases h⟩
theorem over : Rows.topBodiesRow.holds Tryd.pinned (OpenSpec.ofChange Rows.topBodiesSpec) :=
  OpenClaim.holds_of_wide 8 Tryd.f8 rfl rfl rfl rfl rfl rfl rfl ⟨rfl, rfl, rfl, rfl, rfl⟩ rfl rfl rfl rfl rfl (by kernel_rfl) Tryd.func8 (by kernel_rfl)
    (of_decide_eq_true (by kernel_rfl)) (by unfold Func.isWrapper; first | (rw [if_pos (by decide +kernel)]; kernel_rfl) | (rw [if_neg (by decide +kernel)]; exact ⟨rfl, rfl⟩))
    (fun os started H enc _ => lifted os started H enc)
/-- The statement: the row, and what it lists tied to the program's text. -/
theorem proved : Rows.TopBodiesCardSaid :=
  Claim7.holds_tied_plain_at .later [] [.data] true _ true
    over (fun _ h => by cases h) (by kernel_rfl) (fun _ h => by cases h) topBodies_row_tie rfl ⟨rfl, rfl⟩ (by kernel_rfl) rfl
    (fun f fn hf hfn => by
      obtain rfl : f = 8 := Option.some.inj ((show Tryd.prog.funcNamed "bellbuoy/bellbuoytop.TopBodies" = some 8 by kernel_rfl).symm.trans hf) |>.symm
      obtain rfl : fn = Tryd.f8 := (Option.some.inj (Tryd.func8.symm.trans hfn)).symm
      exact ⟨by kernel_rfl, fun j t ht => by
        rw [Tryd.params8] at ht
        have hm : t ∈ [27, 27] := by simpa using Array.mem_of_getElem? ht
        have hall : ([27, 27].all fun u => !Tryd.prog.wantsStandIn u) = true := by kernel_rfl
        exact (show Tryd.prog.wantsStandIn t = false by simpa using List.all_eq_true.1 hall t hm)⟩)
    (by kernel_rfl)
end Go.Proofs.YtodeaddmachcjaaDoor.topBodies
