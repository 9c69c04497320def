/- ClassBack (P23.4): a label that has an identifier is told by it again, an identifier that says a label is that one's. Conditions: none but the widths, which the card ties. -/
import Derived.Test.YtmealljdecancaaDoorRows
import Derived.Test.YtmealljdecancaaDoorCle
import Derived.Test.YtmealljdecancaaDoorOpn
import Derived.Test.YtmealljdecancaaDoorClt
import Derived.WalkKit
import Derived.ProofKit
import Derived.OpenShut
import Derived.ShutString
import Derived.ChangeOld
import Derived.Below
namespace Go.Proofs.YtmealljdecancaaDoor.classBack
open Go.ChangeShapes Go.WideShapes Go.ChangeAt Go.RowKit
theorem own : ownKnob Tryd.prog.godebug = none := by kernel_rfl
theorem laidOut : laidOutB Tryd.prog = true := by kernel_rfl
theorem num_nat (c s t n : Int) (h : rightL c s t n = true) : ∃ N : Nat, numL c s t n = (N : Int) ∧ N < 536870912 := by
  have hin := of_decide_eq_true h
  refine ⟨(numL c s t n).toNat, ?_, ?_⟩
  · unfold numL; omega
  · unfold numL; omega
theorem of_num {c s t n : Int} {N : Nat} (h : rightL c s t n = true) (hN : numL c s t n = (N : Int)) : ofLV true N = .tuple #[.agg #[.int .i64 c, .int .i64 s, .int .i64 t, .int .i64 n], .bool true] := by
  have hin := of_decide_eq_true h
  unfold numL at hN
  have e1 : meantC N = c := by unfold meantC; omega
  have e2 : meantS N = s := by unfold meantS; omega
  have e3 : meantT N = t := by unfold meantT; omega
  have e4 : meantN N = n := by unfold meantN; omega
  have e5 : N < 536870912 := by omega
  have e6 : N % 8 = 0 := by omega
  unfold ofLV okI
  rw [e1, e2, e3, e4, h]
  simp [e5, e6]
theorem num_of {e : Bool} {N : Nat} (h : okI e N = true) : e = true ∧ rightL (meantC N) (meantS N) (meantT N) (meantN N) = true ∧ numL (meantC N) (meantS N) (meantT N) (meantN N) = (N : Int) := by
  unfold okI at h
  simp only [Bool.and_eq_true, decide_eq_true_eq] at h
  obtain ⟨⟨⟨h1, h2⟩, h3⟩, h4⟩ := h
  refine ⟨h1, h4, ?_⟩
  unfold numL meantC meantS meantT meantN
  omega
set_option maxRecDepth 100000 in
set_option maxHeartbeats 8000000 in
theorem walk (l : Lb) (e : Bool) (N : Nat) (hN : N < 4294967296) (w : World) (h0 : 0 < w.heap.size) (hT : TabW w) : Calls Tryd.prog 6 #[l.v, identV e N] w fun y w' => y = .returned (.bool true) ∧ Below w.heap.size w w' := by
  have HTX := Lib.hid (show ∀ x, Below w.heap.size w x → 0 < x.heap.size ∧ TabW x from fun x hx => ⟨Nat.lt_of_lt_of_le h0 hx.size, hT.on hx h0⟩)
  have HTZ := Lib.hid hT; have H00 := Lib.hid h0
  clear hT h0
  have HL := Lib.hid (fun u a b => live23 u a b)
  have HR1 := Lib.hid (fun u => r23right_any l.c l.s l.t l.n u)
  have HO := Lib.hid (fun u a b => clof_any e N hN u a b)
  unfold Lb.v identV
  have HCS := Lib.hid (show (okI e N = false ∧ ofLV e N = .tuple #[.agg #[.int .i64 0, .int .i64 0, .int .i64 0, .int .i64 0], .bool false]) ∨ ∃ mc ms mt mn : Int, e = true ∧ ofLV e N = .tuple #[.agg #[.int .i64 mc, .int .i64 ms, .int .i64 mt, .int .i64 mn], .bool true] ∧ rightL mc ms mt mn = true ∧ numL mc ms mt mn = (N : Int) from by
    unfold ofLV
    cases h : okI e N
    · exact .inl ⟨rfl, if_neg (by decide)⟩
    · obtain ⟨h1, h2, h3⟩ := num_of h
      exact .inr ⟨_, _, _, _, h1, if_pos rfl, h2, h3⟩)
  cases h1 : rightL l.c l.s l.t l.n
  · rcases HCS.out with ⟨_, h2⟩ | ⟨mc, ms, mt, mn, rfl, h2, h3, h4⟩
    · rw [h1] at HR1
      rw [h2] at HO
      clear h2 HCS
      clear h1 hN
      go_enter Tryd.func6, Tryd.ntmps6
      go_upto_region 1 with fail
      obtain ⟨W1, hW1⟩ : ∃ W, W = ((w.alloc (.cells #[.int .i64 l.c, .int .i64 l.s, .int .i64 l.t, .int .i64 l.n] 24)).alloc (.cells #[.bool e, .int .u32 (N : Int)] 27)) := ⟨_, rfl⟩
      have hbel_ : Below w.heap.size w W1 := by rw [hW1]; exact (((Below.refl w.heap.size w).alloc (Nat.le_refl w.heap.size) _).alloc (by have := (Nat.le_refl w.heap.size); simp only [World.size_alloc]; omega) _)
      have h_l : Blk W1 w.heap.size 24 [.int .i64 l.c, .int .i64 l.s, .int .i64 l.t, .int .i64 l.n] := by rw [hW1]; exact (blk_at (w) w.heap.size (by rfl) 24 [.int .i64 l.c, .int .i64 l.s, .int .i64 l.t, .int .i64 l.n]).keep ((Below.refl (w.heap.size + 1) _).alloc (by simp only [World.size_alloc]; omega) _) (by omega)
      have h_i : Blk W1 (w.heap.size + 1) 27 [.bool e, .int .u32 (N : Int)] := by rw [hW1]; exact (blk_at ((w.alloc (.cells #[.int .i64 l.c, .int .i64 l.s, .int .i64 l.t, .int .i64 l.n] 24))) (w.heap.size + 1) (by simp only [World.size_alloc]) 27 [.bool e, .int .u32 (N : Int)]).keep (Below.refl ((w.heap.size + 1) + 1) _) (by omega)
      rw [← hW1]
      have HB1 := Lib.hid hbel_
      have Hl1 := Lib.hid h_l
      have Hi1 := Lib.hid h_i
      clear hbel_ hW1  h_l h_i
      have l_0 : W1.cell? ⟨w.heap.size, 0, none⟩ = some (.int .i64 l.c) := Hl1.out.cellAt (i := 0) (by simp)
      have l_1 : W1.cell? ⟨w.heap.size, 1, none⟩ = some (.int .i64 l.s) := Hl1.out.cellAt (i := 1) (by simp)
      have l_2 : W1.cell? ⟨w.heap.size, 2, none⟩ = some (.int .i64 l.t) := Hl1.out.cellAt (i := 2) (by simp)
      have l_3 : W1.cell? ⟨w.heap.size, 3, none⟩ = some (.int .i64 l.n) := Hl1.out.cellAt (i := 3) (by simp)
      go_wp2_with fail
      clear l_0 l_1 l_2 l_3
      refine (HR1.out _).mono ?_
      rintro y w2 ⟨rfl, hb⟩
      have HB2 := Lib.hid (below_transG HB1.out hb)
      have Hl2 := Lib.hid (Hl1.out.keep hb Hl1.out.lt)
      have Hi2 := Lib.hid (Hi1.out.keep hb Hi1.out.lt)
      clear hb
      go_upto_region 6 with fail
      have i_0 : w2.cell? ⟨(w.heap.size + 1), 0, none⟩ = some (.bool e) := Hi2.out.cellAt (i := 0) (by simp)
      have i_1 : w2.cell? ⟨(w.heap.size + 1), 1, none⟩ = some (.int .u32 (N : Int)) := Hi2.out.cellAt (i := 1) (by simp)
      go_wp2_with fail
      clear i_0 i_1
      refine (HO.out _ (HTX.out _ HB2.out).1 (HTX.out _ HB2.out).2).mono ?_
      rintro y w3 ⟨rfl, hb⟩
      have HB3 := Lib.hid (below_transG HB2.out hb)
      have Hl3 := Lib.hid (Hl2.out.keep hb Hl2.out.lt)
      have Hi3 := Lib.hid (Hi2.out.keep hb Hi2.out.lt)
      clear hb
      go_upto_region 7 with fail
      obtain ⟨W4, hW4⟩ : ∃ W, W = (w3.alloc (.cells #[.int .i64 0, .int .i64 0, .int .i64 0, .int .i64 0] 24)) := ⟨_, rfl⟩
      have hbel_ : Below w.heap.size w W4 := by rw [hW4]; exact (HB3.out.alloc HB3.out.size _)
      have h_l : Blk W4 w.heap.size 24 [.int .i64 l.c, .int .i64 l.s, .int .i64 l.t, .int .i64 l.n] := by rw [hW4]; exact Hl3.out.keep ((Below.refl w3.heap.size w3).alloc (Nat.le_refl _) _) Hl3.out.lt
      have h_i : Blk W4 (w.heap.size + 1) 27 [.bool e, .int .u32 (N : Int)] := by rw [hW4]; exact Hi3.out.keep ((Below.refl w3.heap.size w3).alloc (Nat.le_refl _) _) Hi3.out.lt
      have h_y : Blk W4 w3.heap.size 24 [.int .i64 0, .int .i64 0, .int .i64 0, .int .i64 0] := by rw [hW4]; exact (blk_at (w3) w3.heap.size (by rfl) 24 [.int .i64 0, .int .i64 0, .int .i64 0, .int .i64 0]).keep (Below.refl (w3.heap.size + 1) _) (by omega)
      rw [← hW4]
      have HB4 := Lib.hid hbel_
      have Hl4 := Lib.hid h_l
      have Hi4 := Lib.hid h_i
      have Hy4 := Lib.hid h_y
      clear hbel_ hW4 h_l h_i h_y
      go_wp2_with fail
      refine (HL.out _ (HTX.out _ HB4.out).1 (HTX.out _ HB4.out).2).mono ?_
      rintro y w5 ⟨rfl, hb⟩
      have HB5 := Lib.hid (below_transG HB4.out hb)
      have Hl5 := Lib.hid (Hl4.out.keep hb Hl4.out.lt)
      have Hi5 := Lib.hid (Hi4.out.keep hb Hi4.out.lt)
      have Hy5 := Lib.hid (Hy4.out.keep hb Hy4.out.lt)
      clear hb
      go_wp2_with fail
      go_ret
      exact ⟨rfl, HB5.out⟩
    · rw [h1] at HR1
      rw [h2] at HO
      clear h2 HCS
      have HB' := Lib.hid (fun u a b => clid_yes mc ms mt mn h3 u a b)
      rw [h4] at HB'
      have f4 : ((N : Int) == (N : Int)) = true := by simp
      clear h3 h4
      clear h1 hN
      go_enter Tryd.func6, Tryd.ntmps6
      go_upto_region 1 with fail
      obtain ⟨W1, hW1⟩ : ∃ W, W = ((w.alloc (.cells #[.int .i64 l.c, .int .i64 l.s, .int .i64 l.t, .int .i64 l.n] 24)).alloc (.cells #[.bool true, .int .u32 (N : Int)] 27)) := ⟨_, rfl⟩
      have hbel_ : Below w.heap.size w W1 := by rw [hW1]; exact (((Below.refl w.heap.size w).alloc (Nat.le_refl w.heap.size) _).alloc (by have := (Nat.le_refl w.heap.size); simp only [World.size_alloc]; omega) _)
      have h_l : Blk W1 w.heap.size 24 [.int .i64 l.c, .int .i64 l.s, .int .i64 l.t, .int .i64 l.n] := by rw [hW1]; exact (blk_at (w) w.heap.size (by rfl) 24 [.int .i64 l.c, .int .i64 l.s, .int .i64 l.t, .int .i64 l.n]).keep ((Below.refl (w.heap.size + 1) _).alloc (by simp only [World.size_alloc]; omega) _) (by omega)
      have h_i : Blk W1 (w.heap.size + 1) 27 [.bool true, .int .u32 (N : Int)] := by rw [hW1]; exact (blk_at ((w.alloc (.cells #[.int .i64 l.c, .int .i64 l.s, .int .i64 l.t, .int .i64 l.n] 24))) (w.heap.size + 1) (by simp only [World.size_alloc]) 27 [.bool true, .int .u32 (N : Int)]).keep (Below.refl ((w.heap.size + 1) + 1) _) (by omega)
      rw [← hW1]
      have HB1 := Lib.hid hbel_
      have Hl1 := Lib.hid h_l
      have Hi1 := Lib.hid h_i
      clear hbel_ hW1  h_l h_i
      have l_0 : W1.cell? ⟨w.heap.size, 0, none⟩ = some (.int .i64 l.c) := Hl1.out.cellAt (i := 0) (by simp)
      have l_1 : W1.cell? ⟨w.heap.size, 1, none⟩ = some (.int .i64 l.s) := Hl1.out.cellAt (i := 1) (by simp)
      have l_2 : W1.cell? ⟨w.heap.size, 2, none⟩ = some (.int .i64 l.t) := Hl1.out.cellAt (i := 2) (by simp)
      have l_3 : W1.cell? ⟨w.heap.size, 3, none⟩ = some (.int .i64 l.n) := Hl1.out.cellAt (i := 3) (by simp)
      go_wp2_with fail
      clear l_0 l_1 l_2 l_3
      refine (HR1.out _).mono ?_
      rintro y w2 ⟨rfl, hb⟩
      have HB2 := Lib.hid (below_transG HB1.out hb)
      have Hl2 := Lib.hid (Hl1.out.keep hb Hl1.out.lt)
      have Hi2 := Lib.hid (Hi1.out.keep hb Hi1.out.lt)
      clear hb
      go_upto_region 6 with fail
      have i_0 : w2.cell? ⟨(w.heap.size + 1), 0, none⟩ = some (.bool true) := Hi2.out.cellAt (i := 0) (by simp)
      have i_1 : w2.cell? ⟨(w.heap.size + 1), 1, none⟩ = some (.int .u32 (N : Int)) := Hi2.out.cellAt (i := 1) (by simp)
      go_wp2_with fail
      clear i_0 i_1
      refine (HO.out _ (HTX.out _ HB2.out).1 (HTX.out _ HB2.out).2).mono ?_
      rintro y w3 ⟨rfl, hb⟩
      have HB3 := Lib.hid (below_transG HB2.out hb)
      have Hl3 := Lib.hid (Hl2.out.keep hb Hl2.out.lt)
      have Hi3 := Lib.hid (Hi2.out.keep hb Hi2.out.lt)
      clear hb
      go_upto_region 7 with fail
      obtain ⟨W4, hW4⟩ : ∃ W, W = (w3.alloc (.cells #[.int .i64 mc, .int .i64 ms, .int .i64 mt, .int .i64 mn] 24)) := ⟨_, rfl⟩
      have hbel_ : Below w.heap.size w W4 := by rw [hW4]; exact (HB3.out.alloc HB3.out.size _)
      have h_l : Blk W4 w.heap.size 24 [.int .i64 l.c, .int .i64 l.s, .int .i64 l.t, .int .i64 l.n] := by rw [hW4]; exact Hl3.out.keep ((Below.refl w3.heap.size w3).alloc (Nat.le_refl _) _) Hl3.out.lt
      have h_i : Blk W4 (w.heap.size + 1) 27 [.bool true, .int .u32 (N : Int)] := by rw [hW4]; exact Hi3.out.keep ((Below.refl w3.heap.size w3).alloc (Nat.le_refl _) _) Hi3.out.lt
      have h_y : Blk W4 w3.heap.size 24 [.int .i64 mc, .int .i64 ms, .int .i64 mt, .int .i64 mn] := by rw [hW4]; exact (blk_at (w3) w3.heap.size (by rfl) 24 [.int .i64 mc, .int .i64 ms, .int .i64 mt, .int .i64 mn]).keep (Below.refl (w3.heap.size + 1) _) (by omega)
      rw [← hW4]
      have HB4 := Lib.hid hbel_
      have Hl4 := Lib.hid h_l
      have Hi4 := Lib.hid h_i
      have Hy4 := Lib.hid h_y
      clear hbel_ hW4 h_l h_i h_y
      have y_0 : W4.cell? ⟨w3.heap.size, 0, none⟩ = some (.int .i64 mc) := Hy4.out.cellAt (i := 0) (by simp)
      have y_1 : W4.cell? ⟨w3.heap.size, 1, none⟩ = some (.int .i64 ms) := Hy4.out.cellAt (i := 1) (by simp)
      have y_2 : W4.cell? ⟨w3.heap.size, 2, none⟩ = some (.int .i64 mt) := Hy4.out.cellAt (i := 2) (by simp)
      have y_3 : W4.cell? ⟨w3.heap.size, 3, none⟩ = some (.int .i64 mn) := Hy4.out.cellAt (i := 3) (by simp)
      go_wp2_with fail
      clear y_0 y_1 y_2 y_3
      refine (HB'.out _ (HTX.out _ HB4.out).1 (HTX.out _ HB4.out).2).mono ?_
      rintro y w5 ⟨rfl, hb⟩
      have HB5 := Lib.hid (below_transG HB4.out hb)
      have Hl5 := Lib.hid (Hl4.out.keep hb Hl4.out.lt)
      have Hi5 := Lib.hid (Hi4.out.keep hb Hi4.out.lt)
      have Hy5 := Lib.hid (Hy4.out.keep hb Hy4.out.lt)
      clear hb
      go_upto_region 10 with fail
      obtain ⟨W6, hW6⟩ : ∃ W, W = (w5.alloc (.cells #[.bool true, .int .u32 (N : Int)] 27)) := ⟨_, rfl⟩
      have hbel_ : Below w.heap.size w W6 := by rw [hW6]; exact (HB5.out.alloc HB5.out.size _)
      have h_l : Blk W6 w.heap.size 24 [.int .i64 l.c, .int .i64 l.s, .int .i64 l.t, .int .i64 l.n] := by rw [hW6]; exact Hl5.out.keep ((Below.refl w5.heap.size w5).alloc (Nat.le_refl _) _) Hl5.out.lt
      have h_i : Blk W6 (w.heap.size + 1) 27 [.bool true, .int .u32 (N : Int)] := by rw [hW6]; exact Hi5.out.keep ((Below.refl w5.heap.size w5).alloc (Nat.le_refl _) _) Hi5.out.lt
      have h_y : Blk W6 w3.heap.size 24 [.int .i64 mc, .int .i64 ms, .int .i64 mt, .int .i64 mn] := by rw [hW6]; exact Hy5.out.keep ((Below.refl w5.heap.size w5).alloc (Nat.le_refl _) _) Hy5.out.lt
      have h_z : Blk W6 w5.heap.size 27 [.bool true, .int .u32 (N : Int)] := by rw [hW6]; exact (blk_at (w5) w5.heap.size (by rfl) 27 [.bool true, .int .u32 (N : Int)]).keep (Below.refl (w5.heap.size + 1) _) (by omega)
      rw [← hW6]
      have HB6 := Lib.hid hbel_
      have Hl6 := Lib.hid h_l
      have Hi6 := Lib.hid h_i
      have Hy6 := Lib.hid h_y
      have Hz6 := Lib.hid h_z
      clear hbel_ hW6 h_l h_i h_y h_z
      have i_0 : W6.cell? ⟨(w.heap.size + 1), 0, none⟩ = some (.bool true) := Hi6.out.cellAt (i := 0) (by simp)
      have i_1 : W6.cell? ⟨(w.heap.size + 1), 1, none⟩ = some (.int .u32 (N : Int)) := Hi6.out.cellAt (i := 1) (by simp)
      have z_0 : W6.cell? ⟨w5.heap.size, 0, none⟩ = some (.bool true) := Hz6.out.cellAt (i := 0) (by simp)
      have z_1 : W6.cell? ⟨w5.heap.size, 1, none⟩ = some (.int .u32 (N : Int)) := Hz6.out.cellAt (i := 1) (by simp)
      go_wp2_with fail
      clear i_0 i_1 z_0 z_1
      refine (HL.out _ (HTX.out _ HB6.out).1 (HTX.out _ HB6.out).2).mono ?_
      rintro y w7 ⟨rfl, hb⟩
      have HB7 := Lib.hid (below_transG HB6.out hb)
      have Hl7 := Lib.hid (Hl6.out.keep hb Hl6.out.lt)
      have Hi7 := Lib.hid (Hi6.out.keep hb Hi6.out.lt)
      have Hy7 := Lib.hid (Hy6.out.keep hb Hy6.out.lt)
      have Hz7 := Lib.hid (Hz6.out.keep hb Hz6.out.lt)
      clear hb
      have i_0 : w7.cell? ⟨(w.heap.size + 1), 0, none⟩ = some (.bool true) := Hi7.out.cellAt (i := 0) (by simp)
      have i_1 : w7.cell? ⟨(w.heap.size + 1), 1, none⟩ = some (.int .u32 (N : Int)) := Hi7.out.cellAt (i := 1) (by simp)
      have z_0 : w7.cell? ⟨w5.heap.size, 0, none⟩ = some (.bool true) := Hz7.out.cellAt (i := 0) (by simp)
      have z_1 : w7.cell? ⟨w5.heap.size, 1, none⟩ = some (.int .u32 (N : Int)) := Hz7.out.cellAt (i := 1) (by simp)
      go_wp2_with fail
      go_ret
      exact ⟨rfl, HB7.out⟩
  · rcases HCS.out with ⟨_, h2⟩ | ⟨mc, ms, mt, mn, rfl, h2, h3, h4⟩
    · rw [h1] at HR1
      rw [h2] at HO
      clear h2 HCS
      obtain ⟨P, hP, hP1⟩ := num_nat _ _ _ _ h1
      have HA := Lib.hid (fun u a b => clid_yes l.c l.s l.t l.n h1 u a b)
      rw [hP] at HA
      have HO1 := Lib.hid (fun u a b => clof_any true P (by omega) u a b)
      rw [of_num h1 hP] at HO1
      have HRI := Lib.hid (fun u => refRight5_any true P u)
      unfold identV rightI at HRI
      rw [if_pos rfl, decide_eq_true hP1] at HRI
      have f0 : (l.c == l.c) = true := by simp
      have f1 : (l.s == l.s) = true := by simp
      have f2 : (l.t == l.t) = true := by simp
      have f3 : (l.n == l.n) = true := by simp
      clear hP hP1
      clear h1 hN
      go_enter Tryd.func6, Tryd.ntmps6
      go_upto_region 1 with fail
      obtain ⟨W1, hW1⟩ : ∃ W, W = ((w.alloc (.cells #[.int .i64 l.c, .int .i64 l.s, .int .i64 l.t, .int .i64 l.n] 24)).alloc (.cells #[.bool e, .int .u32 (N : Int)] 27)) := ⟨_, rfl⟩
      have hbel_ : Below w.heap.size w W1 := by rw [hW1]; exact (((Below.refl w.heap.size w).alloc (Nat.le_refl w.heap.size) _).alloc (by have := (Nat.le_refl w.heap.size); simp only [World.size_alloc]; omega) _)
      have h_l : Blk W1 w.heap.size 24 [.int .i64 l.c, .int .i64 l.s, .int .i64 l.t, .int .i64 l.n] := by rw [hW1]; exact (blk_at (w) w.heap.size (by rfl) 24 [.int .i64 l.c, .int .i64 l.s, .int .i64 l.t, .int .i64 l.n]).keep ((Below.refl (w.heap.size + 1) _).alloc (by simp only [World.size_alloc]; omega) _) (by omega)
      have h_i : Blk W1 (w.heap.size + 1) 27 [.bool e, .int .u32 (N : Int)] := by rw [hW1]; exact (blk_at ((w.alloc (.cells #[.int .i64 l.c, .int .i64 l.s, .int .i64 l.t, .int .i64 l.n] 24))) (w.heap.size + 1) (by simp only [World.size_alloc]) 27 [.bool e, .int .u32 (N : Int)]).keep (Below.refl ((w.heap.size + 1) + 1) _) (by omega)
      rw [← hW1]
      have HB1 := Lib.hid hbel_
      have Hl1 := Lib.hid h_l
      have Hi1 := Lib.hid h_i
      clear hbel_ hW1  h_l h_i
      have l_0 : W1.cell? ⟨w.heap.size, 0, none⟩ = some (.int .i64 l.c) := Hl1.out.cellAt (i := 0) (by simp)
      have l_1 : W1.cell? ⟨w.heap.size, 1, none⟩ = some (.int .i64 l.s) := Hl1.out.cellAt (i := 1) (by simp)
      have l_2 : W1.cell? ⟨w.heap.size, 2, none⟩ = some (.int .i64 l.t) := Hl1.out.cellAt (i := 2) (by simp)
      have l_3 : W1.cell? ⟨w.heap.size, 3, none⟩ = some (.int .i64 l.n) := Hl1.out.cellAt (i := 3) (by simp)
      go_wp2_with fail
      clear l_0 l_1 l_2 l_3
      refine (HR1.out _).mono ?_
      rintro y w2 ⟨rfl, hb⟩
      have HB2 := Lib.hid (below_transG HB1.out hb)
      have Hl2 := Lib.hid (Hl1.out.keep hb Hl1.out.lt)
      have Hi2 := Lib.hid (Hi1.out.keep hb Hi1.out.lt)
      clear hb
      have l_0 : w2.cell? ⟨w.heap.size, 0, none⟩ = some (.int .i64 l.c) := Hl2.out.cellAt (i := 0) (by simp)
      have l_1 : w2.cell? ⟨w.heap.size, 1, none⟩ = some (.int .i64 l.s) := Hl2.out.cellAt (i := 1) (by simp)
      have l_2 : w2.cell? ⟨w.heap.size, 2, none⟩ = some (.int .i64 l.t) := Hl2.out.cellAt (i := 2) (by simp)
      have l_3 : w2.cell? ⟨w.heap.size, 3, none⟩ = some (.int .i64 l.n) := Hl2.out.cellAt (i := 3) (by simp)
      go_upto_region 2 with fail
      clear l_0 l_1 l_2 l_3
      have l_0 : w2.cell? ⟨w.heap.size, 0, none⟩ = some (.int .i64 l.c) := Hl2.out.cellAt (i := 0) (by simp)
      have l_1 : w2.cell? ⟨w.heap.size, 1, none⟩ = some (.int .i64 l.s) := Hl2.out.cellAt (i := 1) (by simp)
      have l_2 : w2.cell? ⟨w.heap.size, 2, none⟩ = some (.int .i64 l.t) := Hl2.out.cellAt (i := 2) (by simp)
      have l_3 : w2.cell? ⟨w.heap.size, 3, none⟩ = some (.int .i64 l.n) := Hl2.out.cellAt (i := 3) (by simp)
      go_wp2_with fail
      clear l_0 l_1 l_2 l_3
      refine (HA.out _ (HTX.out _ HB2.out).1 (HTX.out _ HB2.out).2).mono ?_
      rintro y w3 ⟨rfl, hb⟩
      have HB3 := Lib.hid (below_transG HB2.out hb)
      have Hl3 := Lib.hid (Hl2.out.keep hb Hl2.out.lt)
      have Hi3 := Lib.hid (Hi2.out.keep hb Hi2.out.lt)
      clear hb
      go_upto_region 3 with fail
      obtain ⟨W4, hW4⟩ : ∃ W, W = (w3.alloc (.cells #[.bool true, .int .u32 (P : Int)] 27)) := ⟨_, rfl⟩
      have hbel_ : Below w.heap.size w W4 := by rw [hW4]; exact (HB3.out.alloc HB3.out.size _)
      have h_l : Blk W4 w.heap.size 24 [.int .i64 l.c, .int .i64 l.s, .int .i64 l.t, .int .i64 l.n] := by rw [hW4]; exact Hl3.out.keep ((Below.refl w3.heap.size w3).alloc (Nat.le_refl _) _) Hl3.out.lt
      have h_i : Blk W4 (w.heap.size + 1) 27 [.bool e, .int .u32 (N : Int)] := by rw [hW4]; exact Hi3.out.keep ((Below.refl w3.heap.size w3).alloc (Nat.le_refl _) _) Hi3.out.lt
      have h_x : Blk W4 w3.heap.size 27 [.bool true, .int .u32 (P : Int)] := by rw [hW4]; exact (blk_at (w3) w3.heap.size (by rfl) 27 [.bool true, .int .u32 (P : Int)]).keep (Below.refl (w3.heap.size + 1) _) (by omega)
      rw [← hW4]
      have HB4 := Lib.hid hbel_
      have Hl4 := Lib.hid h_l
      have Hi4 := Lib.hid h_i
      have Hx4 := Lib.hid h_x
      clear hbel_ hW4 h_l h_i h_x
      have x_0 : W4.cell? ⟨w3.heap.size, 0, none⟩ = some (.bool true) := Hx4.out.cellAt (i := 0) (by simp)
      have x_1 : W4.cell? ⟨w3.heap.size, 1, none⟩ = some (.int .u32 (P : Int)) := Hx4.out.cellAt (i := 1) (by simp)
      go_wp2_with fail
      clear x_0 x_1
      refine (HO1.out _ (HTX.out _ HB4.out).1 (HTX.out _ HB4.out).2).mono ?_
      rintro y w5 ⟨rfl, hb⟩
      have HB5 := Lib.hid (below_transG HB4.out hb)
      have Hl5 := Lib.hid (Hl4.out.keep hb Hl4.out.lt)
      have Hi5 := Lib.hid (Hi4.out.keep hb Hi4.out.lt)
      have Hx5 := Lib.hid (Hx4.out.keep hb Hx4.out.lt)
      clear hb
      go_upto_region 4 with fail
      obtain ⟨W6, hW6⟩ : ∃ W, W = (w5.alloc (.cells #[.int .i64 l.c, .int .i64 l.s, .int .i64 l.t, .int .i64 l.n] 24)) := ⟨_, rfl⟩
      have hbel_ : Below w.heap.size w W6 := by rw [hW6]; exact (HB5.out.alloc HB5.out.size _)
      have h_l : Blk W6 w.heap.size 24 [.int .i64 l.c, .int .i64 l.s, .int .i64 l.t, .int .i64 l.n] := by rw [hW6]; exact Hl5.out.keep ((Below.refl w5.heap.size w5).alloc (Nat.le_refl _) _) Hl5.out.lt
      have h_i : Blk W6 (w.heap.size + 1) 27 [.bool e, .int .u32 (N : Int)] := by rw [hW6]; exact Hi5.out.keep ((Below.refl w5.heap.size w5).alloc (Nat.le_refl _) _) Hi5.out.lt
      have h_x : Blk W6 w3.heap.size 27 [.bool true, .int .u32 (P : Int)] := by rw [hW6]; exact Hx5.out.keep ((Below.refl w5.heap.size w5).alloc (Nat.le_refl _) _) Hx5.out.lt
      have h_m : Blk W6 w5.heap.size 24 [.int .i64 l.c, .int .i64 l.s, .int .i64 l.t, .int .i64 l.n] := by rw [hW6]; exact (blk_at (w5) w5.heap.size (by rfl) 24 [.int .i64 l.c, .int .i64 l.s, .int .i64 l.t, .int .i64 l.n]).keep (Below.refl (w5.heap.size + 1) _) (by omega)
      rw [← hW6]
      have HB6 := Lib.hid hbel_
      have Hl6 := Lib.hid h_l
      have Hi6 := Lib.hid h_i
      have Hx6 := Lib.hid h_x
      have Hm6 := Lib.hid h_m
      clear hbel_ hW6 h_l h_i h_x h_m
      have l_0 : W6.cell? ⟨w.heap.size, 0, none⟩ = some (.int .i64 l.c) := Hl6.out.cellAt (i := 0) (by simp)
      have l_1 : W6.cell? ⟨w.heap.size, 1, none⟩ = some (.int .i64 l.s) := Hl6.out.cellAt (i := 1) (by simp)
      have l_2 : W6.cell? ⟨w.heap.size, 2, none⟩ = some (.int .i64 l.t) := Hl6.out.cellAt (i := 2) (by simp)
      have l_3 : W6.cell? ⟨w.heap.size, 3, none⟩ = some (.int .i64 l.n) := Hl6.out.cellAt (i := 3) (by simp)
      have x_0 : W6.cell? ⟨w3.heap.size, 0, none⟩ = some (.bool true) := Hx6.out.cellAt (i := 0) (by simp)
      have x_1 : W6.cell? ⟨w3.heap.size, 1, none⟩ = some (.int .u32 (P : Int)) := Hx6.out.cellAt (i := 1) (by simp)
      have m_0 : W6.cell? ⟨w5.heap.size, 0, none⟩ = some (.int .i64 l.c) := Hm6.out.cellAt (i := 0) (by simp)
      have m_1 : W6.cell? ⟨w5.heap.size, 1, none⟩ = some (.int .i64 l.s) := Hm6.out.cellAt (i := 1) (by simp)
      have m_2 : W6.cell? ⟨w5.heap.size, 2, none⟩ = some (.int .i64 l.t) := Hm6.out.cellAt (i := 2) (by simp)
      have m_3 : W6.cell? ⟨w5.heap.size, 3, none⟩ = some (.int .i64 l.n) := Hm6.out.cellAt (i := 3) (by simp)
      go_wp2_with fail
      clear l_0 l_1 l_2 l_3 x_0 x_1 m_0 m_1 m_2 m_3
      refine (HRI.out _).mono ?_
      rintro y w7 ⟨rfl, hb⟩
      have HB7 := Lib.hid (below_transG HB6.out hb)
      have Hl7 := Lib.hid (Hl6.out.keep hb Hl6.out.lt)
      have Hi7 := Lib.hid (Hi6.out.keep hb Hi6.out.lt)
      have Hx7 := Lib.hid (Hx6.out.keep hb Hx6.out.lt)
      have Hm7 := Lib.hid (Hm6.out.keep hb Hm6.out.lt)
      clear hb
      go_upto_region 6 with fail
      have i_0 : w7.cell? ⟨(w.heap.size + 1), 0, none⟩ = some (.bool e) := Hi7.out.cellAt (i := 0) (by simp)
      have i_1 : w7.cell? ⟨(w.heap.size + 1), 1, none⟩ = some (.int .u32 (N : Int)) := Hi7.out.cellAt (i := 1) (by simp)
      go_wp2_with fail
      clear i_0 i_1
      refine (HO.out _ (HTX.out _ HB7.out).1 (HTX.out _ HB7.out).2).mono ?_
      rintro y w8 ⟨rfl, hb⟩
      have HB8 := Lib.hid (below_transG HB7.out hb)
      have Hl8 := Lib.hid (Hl7.out.keep hb Hl7.out.lt)
      have Hi8 := Lib.hid (Hi7.out.keep hb Hi7.out.lt)
      clear hb
      go_upto_region 7 with fail
      obtain ⟨W9, hW9⟩ : ∃ W, W = (w8.alloc (.cells #[.int .i64 0, .int .i64 0, .int .i64 0, .int .i64 0] 24)) := ⟨_, rfl⟩
      have hbel_ : Below w.heap.size w W9 := by rw [hW9]; exact (HB8.out.alloc HB8.out.size _)
      have h_l : Blk W9 w.heap.size 24 [.int .i64 l.c, .int .i64 l.s, .int .i64 l.t, .int .i64 l.n] := by rw [hW9]; exact Hl8.out.keep ((Below.refl w8.heap.size w8).alloc (Nat.le_refl _) _) Hl8.out.lt
      have h_i : Blk W9 (w.heap.size + 1) 27 [.bool e, .int .u32 (N : Int)] := by rw [hW9]; exact Hi8.out.keep ((Below.refl w8.heap.size w8).alloc (Nat.le_refl _) _) Hi8.out.lt
      have h_y : Blk W9 w8.heap.size 24 [.int .i64 0, .int .i64 0, .int .i64 0, .int .i64 0] := by rw [hW9]; exact (blk_at (w8) w8.heap.size (by rfl) 24 [.int .i64 0, .int .i64 0, .int .i64 0, .int .i64 0]).keep (Below.refl (w8.heap.size + 1) _) (by omega)
      rw [← hW9]
      have HB9 := Lib.hid hbel_
      have Hl9 := Lib.hid h_l
      have Hi9 := Lib.hid h_i
      have Hy9 := Lib.hid h_y
      clear hbel_ hW9 h_l h_i h_y
      go_wp2_with fail
      refine (HL.out _ (HTX.out _ HB9.out).1 (HTX.out _ HB9.out).2).mono ?_
      rintro y w10 ⟨rfl, hb⟩
      have HB10 := Lib.hid (below_transG HB9.out hb)
      have Hl10 := Lib.hid (Hl9.out.keep hb Hl9.out.lt)
      have Hi10 := Lib.hid (Hi9.out.keep hb Hi9.out.lt)
      have Hy10 := Lib.hid (Hy9.out.keep hb Hy9.out.lt)
      clear hb
      go_wp2_with fail
      go_ret
      exact ⟨rfl, HB10.out⟩
    · rw [h1] at HR1
      rw [h2] at HO
      clear h2 HCS
      obtain ⟨P, hP, hP1⟩ := num_nat _ _ _ _ h1
      have HA := Lib.hid (fun u a b => clid_yes l.c l.s l.t l.n h1 u a b)
      rw [hP] at HA
      have HO1 := Lib.hid (fun u a b => clof_any true P (by omega) u a b)
      rw [of_num h1 hP] at HO1
      have HRI := Lib.hid (fun u => refRight5_any true P u)
      unfold identV rightI at HRI
      rw [if_pos rfl, decide_eq_true hP1] at HRI
      have f0 : (l.c == l.c) = true := by simp
      have f1 : (l.s == l.s) = true := by simp
      have f2 : (l.t == l.t) = true := by simp
      have f3 : (l.n == l.n) = true := by simp
      clear hP hP1
      have HB' := Lib.hid (fun u a b => clid_yes mc ms mt mn h3 u a b)
      rw [h4] at HB'
      have f4 : ((N : Int) == (N : Int)) = true := by simp
      clear h3 h4
      clear h1 hN
      go_enter Tryd.func6, Tryd.ntmps6
      go_upto_region 1 with fail
      obtain ⟨W1, hW1⟩ : ∃ W, W = ((w.alloc (.cells #[.int .i64 l.c, .int .i64 l.s, .int .i64 l.t, .int .i64 l.n] 24)).alloc (.cells #[.bool true, .int .u32 (N : Int)] 27)) := ⟨_, rfl⟩
      have hbel_ : Below w.heap.size w W1 := by rw [hW1]; exact (((Below.refl w.heap.size w).alloc (Nat.le_refl w.heap.size) _).alloc (by have := (Nat.le_refl w.heap.size); simp only [World.size_alloc]; omega) _)
      have h_l : Blk W1 w.heap.size 24 [.int .i64 l.c, .int .i64 l.s, .int .i64 l.t, .int .i64 l.n] := by rw [hW1]; exact (blk_at (w) w.heap.size (by rfl) 24 [.int .i64 l.c, .int .i64 l.s, .int .i64 l.t, .int .i64 l.n]).keep ((Below.refl (w.heap.size + 1) _).alloc (by simp only [World.size_alloc]; omega) _) (by omega)
      have h_i : Blk W1 (w.heap.size + 1) 27 [.bool true, .int .u32 (N : Int)] := by rw [hW1]; exact (blk_at ((w.alloc (.cells #[.int .i64 l.c, .int .i64 l.s, .int .i64 l.t, .int .i64 l.n] 24))) (w.heap.size + 1) (by simp only [World.size_alloc]) 27 [.bool true, .int .u32 (N : Int)]).keep (Below.refl ((w.heap.size + 1) + 1) _) (by omega)
      rw [← hW1]
      have HB1 := Lib.hid hbel_
      have Hl1 := Lib.hid h_l
      have Hi1 := Lib.hid h_i
      clear hbel_ hW1  h_l h_i
      have l_0 : W1.cell? ⟨w.heap.size, 0, none⟩ = some (.int .i64 l.c) := Hl1.out.cellAt (i := 0) (by simp)
      have l_1 : W1.cell? ⟨w.heap.size, 1, none⟩ = some (.int .i64 l.s) := Hl1.out.cellAt (i := 1) (by simp)
      have l_2 : W1.cell? ⟨w.heap.size, 2, none⟩ = some (.int .i64 l.t) := Hl1.out.cellAt (i := 2) (by simp)
      have l_3 : W1.cell? ⟨w.heap.size, 3, none⟩ = some (.int .i64 l.n) := Hl1.out.cellAt (i := 3) (by simp)
      go_wp2_with fail
      clear l_0 l_1 l_2 l_3
      refine (HR1.out _).mono ?_
      rintro y w2 ⟨rfl, hb⟩
      have HB2 := Lib.hid (below_transG HB1.out hb)
      have Hl2 := Lib.hid (Hl1.out.keep hb Hl1.out.lt)
      have Hi2 := Lib.hid (Hi1.out.keep hb Hi1.out.lt)
      clear hb
      have l_0 : w2.cell? ⟨w.heap.size, 0, none⟩ = some (.int .i64 l.c) := Hl2.out.cellAt (i := 0) (by simp)
      have l_1 : w2.cell? ⟨w.heap.size, 1, none⟩ = some (.int .i64 l.s) := Hl2.out.cellAt (i := 1) (by simp)
      have l_2 : w2.cell? ⟨w.heap.size, 2, none⟩ = some (.int .i64 l.t) := Hl2.out.cellAt (i := 2) (by simp)
      have l_3 : w2.cell? ⟨w.heap.size, 3, none⟩ = some (.int .i64 l.n) := Hl2.out.cellAt (i := 3) (by simp)
      go_upto_region 2 with fail
      clear l_0 l_1 l_2 l_3
      have l_0 : w2.cell? ⟨w.heap.size, 0, none⟩ = some (.int .i64 l.c) := Hl2.out.cellAt (i := 0) (by simp)
      have l_1 : w2.cell? ⟨w.heap.size, 1, none⟩ = some (.int .i64 l.s) := Hl2.out.cellAt (i := 1) (by simp)
      have l_2 : w2.cell? ⟨w.heap.size, 2, none⟩ = some (.int .i64 l.t) := Hl2.out.cellAt (i := 2) (by simp)
      have l_3 : w2.cell? ⟨w.heap.size, 3, none⟩ = some (.int .i64 l.n) := Hl2.out.cellAt (i := 3) (by simp)
      go_wp2_with fail
      clear l_0 l_1 l_2 l_3
      refine (HA.out _ (HTX.out _ HB2.out).1 (HTX.out _ HB2.out).2).mono ?_
      rintro y w3 ⟨rfl, hb⟩
      have HB3 := Lib.hid (below_transG HB2.out hb)
      have Hl3 := Lib.hid (Hl2.out.keep hb Hl2.out.lt)
      have Hi3 := Lib.hid (Hi2.out.keep hb Hi2.out.lt)
      clear hb
      go_upto_region 3 with fail
      obtain ⟨W4, hW4⟩ : ∃ W, W = (w3.alloc (.cells #[.bool true, .int .u32 (P : Int)] 27)) := ⟨_, rfl⟩
      have hbel_ : Below w.heap.size w W4 := by rw [hW4]; exact (HB3.out.alloc HB3.out.size _)
      have h_l : Blk W4 w.heap.size 24 [.int .i64 l.c, .int .i64 l.s, .int .i64 l.t, .int .i64 l.n] := by rw [hW4]; exact Hl3.out.keep ((Below.refl w3.heap.size w3).alloc (Nat.le_refl _) _) Hl3.out.lt
      have h_i : Blk W4 (w.heap.size + 1) 27 [.bool true, .int .u32 (N : Int)] := by rw [hW4]; exact Hi3.out.keep ((Below.refl w3.heap.size w3).alloc (Nat.le_refl _) _) Hi3.out.lt
      have h_x : Blk W4 w3.heap.size 27 [.bool true, .int .u32 (P : Int)] := by rw [hW4]; exact (blk_at (w3) w3.heap.size (by rfl) 27 [.bool true, .int .u32 (P : Int)]).keep (Below.refl (w3.heap.size + 1) _) (by omega)
      rw [← hW4]
      have HB4 := Lib.hid hbel_
      have Hl4 := Lib.hid h_l
      have Hi4 := Lib.hid h_i
      have Hx4 := Lib.hid h_x
      clear hbel_ hW4 h_l h_i h_x
      have x_0 : W4.cell? ⟨w3.heap.size, 0, none⟩ = some (.bool true) := Hx4.out.cellAt (i := 0) (by simp)
      have x_1 : W4.cell? ⟨w3.heap.size, 1, none⟩ = some (.int .u32 (P : Int)) := Hx4.out.cellAt (i := 1) (by simp)
      go_wp2_with fail
      clear x_0 x_1
      refine (HO1.out _ (HTX.out _ HB4.out).1 (HTX.out _ HB4.out).2).mono ?_
      rintro y w5 ⟨rfl, hb⟩
      have HB5 := Lib.hid (below_transG HB4.out hb)
      have Hl5 := Lib.hid (Hl4.out.keep hb Hl4.out.lt)
      have Hi5 := Lib.hid (Hi4.out.keep hb Hi4.out.lt)
      have Hx5 := Lib.hid (Hx4.out.keep hb Hx4.out.lt)
      clear hb
      go_upto_region 4 with fail
      obtain ⟨W6, hW6⟩ : ∃ W, W = (w5.alloc (.cells #[.int .i64 l.c, .int .i64 l.s, .int .i64 l.t, .int .i64 l.n] 24)) := ⟨_, rfl⟩
      have hbel_ : Below w.heap.size w W6 := by rw [hW6]; exact (HB5.out.alloc HB5.out.size _)
      have h_l : Blk W6 w.heap.size 24 [.int .i64 l.c, .int .i64 l.s, .int .i64 l.t, .int .i64 l.n] := by rw [hW6]; exact Hl5.out.keep ((Below.refl w5.heap.size w5).alloc (Nat.le_refl _) _) Hl5.out.lt
      have h_i : Blk W6 (w.heap.size + 1) 27 [.bool true, .int .u32 (N : Int)] := by rw [hW6]; exact Hi5.out.keep ((Below.refl w5.heap.size w5).alloc (Nat.le_refl _) _) Hi5.out.lt
      have h_x : Blk W6 w3.heap.size 27 [.bool true, .int .u32 (P : Int)] := by rw [hW6]; exact Hx5.out.keep ((Below.refl w5.heap.size w5).alloc (Nat.le_refl _) _) Hx5.out.lt
      have h_m : Blk W6 w5.heap.size 24 [.int .i64 l.c, .int .i64 l.s, .int .i64 l.t, .int .i64 l.n] := by rw [hW6]; exact (blk_at (w5) w5.heap.size (by rfl) 24 [.int .i64 l.c, .int .i64 l.s, .int .i64 l.t, .int .i64 l.n]).keep (Below.refl (w5.heap.size + 1) _) (by omega)
      rw [← hW6]
      have HB6 := Lib.hid hbel_
      have Hl6 := Lib.hid h_l
      have Hi6 := Lib.hid h_i
      have Hx6 := Lib.hid h_x
      have Hm6 := Lib.hid h_m
      clear hbel_ hW6 h_l h_i h_x h_m
      have l_0 : W6.cell? ⟨w.heap.size, 0, none⟩ = some (.int .i64 l.c) := Hl6.out.cellAt (i := 0) (by simp)
      have l_1 : W6.cell? ⟨w.heap.size, 1, none⟩ = some (.int .i64 l.s) := Hl6.out.cellAt (i := 1) (by simp)
      have l_2 : W6.cell? ⟨w.heap.size, 2, none⟩ = some (.int .i64 l.t) := Hl6.out.cellAt (i := 2) (by simp)
      have l_3 : W6.cell? ⟨w.heap.size, 3, none⟩ = some (.int .i64 l.n) := Hl6.out.cellAt (i := 3) (by simp)
      have x_0 : W6.cell? ⟨w3.heap.size, 0, none⟩ = some (.bool true) := Hx6.out.cellAt (i := 0) (by simp)
      have x_1 : W6.cell? ⟨w3.heap.size, 1, none⟩ = some (.int .u32 (P : Int)) := Hx6.out.cellAt (i := 1) (by simp)
      have m_0 : W6.cell? ⟨w5.heap.size, 0, none⟩ = some (.int .i64 l.c) := Hm6.out.cellAt (i := 0) (by simp)
      have m_1 : W6.cell? ⟨w5.heap.size, 1, none⟩ = some (.int .i64 l.s) := Hm6.out.cellAt (i := 1) (by simp)
      have m_2 : W6.cell? ⟨w5.heap.size, 2, none⟩ = some (.int .i64 l.t) := Hm6.out.cellAt (i := 2) (by simp)
      have m_3 : W6.cell? ⟨w5.heap.size, 3, none⟩ = some (.int .i64 l.n) := Hm6.out.cellAt (i := 3) (by simp)
      go_wp2_with fail
      clear l_0 l_1 l_2 l_3 x_0 x_1 m_0 m_1 m_2 m_3
      refine (HRI.out _).mono ?_
      rintro y w7 ⟨rfl, hb⟩
      have HB7 := Lib.hid (below_transG HB6.out hb)
      have Hl7 := Lib.hid (Hl6.out.keep hb Hl6.out.lt)
      have Hi7 := Lib.hid (Hi6.out.keep hb Hi6.out.lt)
      have Hx7 := Lib.hid (Hx6.out.keep hb Hx6.out.lt)
      have Hm7 := Lib.hid (Hm6.out.keep hb Hm6.out.lt)
      clear hb
      go_upto_region 6 with fail
      have i_0 : w7.cell? ⟨(w.heap.size + 1), 0, none⟩ = some (.bool true) := Hi7.out.cellAt (i := 0) (by simp)
      have i_1 : w7.cell? ⟨(w.heap.size + 1), 1, none⟩ = some (.int .u32 (N : Int)) := Hi7.out.cellAt (i := 1) (by simp)
      go_wp2_with fail
      clear i_0 i_1
      refine (HO.out _ (HTX.out _ HB7.out).1 (HTX.out _ HB7.out).2).mono ?_
      rintro y w8 ⟨rfl, hb⟩
      have HB8 := Lib.hid (below_transG HB7.out hb)
      have Hl8 := Lib.hid (Hl7.out.keep hb Hl7.out.lt)
      have Hi8 := Lib.hid (Hi7.out.keep hb Hi7.out.lt)
      clear hb
      go_upto_region 7 with fail
      obtain ⟨W9, hW9⟩ : ∃ W, W = (w8.alloc (.cells #[.int .i64 mc, .int .i64 ms, .int .i64 mt, .int .i64 mn] 24)) := ⟨_, rfl⟩
      have hbel_ : Below w.heap.size w W9 := by rw [hW9]; exact (HB8.out.alloc HB8.out.size _)
      have h_l : Blk W9 w.heap.size 24 [.int .i64 l.c, .int .i64 l.s, .int .i64 l.t, .int .i64 l.n] := by rw [hW9]; exact Hl8.out.keep ((Below.refl w8.heap.size w8).alloc (Nat.le_refl _) _) Hl8.out.lt
      have h_i : Blk W9 (w.heap.size + 1) 27 [.bool true, .int .u32 (N : Int)] := by rw [hW9]; exact Hi8.out.keep ((Below.refl w8.heap.size w8).alloc (Nat.le_refl _) _) Hi8.out.lt
      have h_y : Blk W9 w8.heap.size 24 [.int .i64 mc, .int .i64 ms, .int .i64 mt, .int .i64 mn] := by rw [hW9]; exact (blk_at (w8) w8.heap.size (by rfl) 24 [.int .i64 mc, .int .i64 ms, .int .i64 mt, .int .i64 mn]).keep (Below.refl (w8.heap.size + 1) _) (by omega)
      rw [← hW9]
      have HB9 := Lib.hid hbel_
      have Hl9 := Lib.hid h_l
      have Hi9 := Lib.hid h_i
      have Hy9 := Lib.hid h_y
      clear hbel_ hW9 h_l h_i h_y
      have y_0 : W9.cell? ⟨w8.heap.size, 0, none⟩ = some (.int .i64 mc) := Hy9.out.cellAt (i := 0) (by simp)
      have y_1 : W9.cell? ⟨w8.heap.size, 1, none⟩ = some (.int .i64 ms) := Hy9.out.cellAt (i := 1) (by simp)
      have y_2 : W9.cell? ⟨w8.heap.size, 2, none⟩ = some (.int .i64 mt) := Hy9.out.cellAt (i := 2) (by simp)
      have y_3 : W9.cell? ⟨w8.heap.size, 3, none⟩ = some (.int .i64 mn) := Hy9.out.cellAt (i := 3) (by simp)
      go_wp2_with fail
      clear y_0 y_1 y_2 y_3
      refine (HB'.out _ (HTX.out _ HB9.out).1 (HTX.out _ HB9.out).2).mono ?_
      rintro y w10 ⟨rfl, hb⟩
      have HB10 := Lib.hid (below_transG HB9.out hb)
      have Hl10 := Lib.hid (Hl9.out.keep hb Hl9.out.lt)
      have Hi10 := Lib.hid (Hi9.out.keep hb Hi9.out.lt)
      have Hy10 := Lib.hid (Hy9.out.keep hb Hy9.out.lt)
      clear hb
      go_upto_region 10 with fail
      obtain ⟨W11, hW11⟩ : ∃ W, W = (w10.alloc (.cells #[.bool true, .int .u32 (N : Int)] 27)) := ⟨_, rfl⟩
      have hbel_ : Below w.heap.size w W11 := by rw [hW11]; exact (HB10.out.alloc HB10.out.size _)
      have h_l : Blk W11 w.heap.size 24 [.int .i64 l.c, .int .i64 l.s, .int .i64 l.t, .int .i64 l.n] := by rw [hW11]; exact Hl10.out.keep ((Below.refl w10.heap.size w10).alloc (Nat.le_refl _) _) Hl10.out.lt
      have h_i : Blk W11 (w.heap.size + 1) 27 [.bool true, .int .u32 (N : Int)] := by rw [hW11]; exact Hi10.out.keep ((Below.refl w10.heap.size w10).alloc (Nat.le_refl _) _) Hi10.out.lt
      have h_y : Blk W11 w8.heap.size 24 [.int .i64 mc, .int .i64 ms, .int .i64 mt, .int .i64 mn] := by rw [hW11]; exact Hy10.out.keep ((Below.refl w10.heap.size w10).alloc (Nat.le_refl _) _) Hy10.out.lt
      have h_z : Blk W11 w10.heap.size 27 [.bool true, .int .u32 (N : Int)] := by rw [hW11]; exact (blk_at (w10) w10.heap.size (by rfl) 27 [.bool true, .int .u32 (N : Int)]).keep (Below.refl (w10.heap.size + 1) _) (by omega)
      rw [← hW11]
      have HB11 := Lib.hid hbel_
      have Hl11 := Lib.hid h_l
      have Hi11 := Lib.hid h_i
      have Hy11 := Lib.hid h_y
      have Hz11 := Lib.hid h_z
      clear hbel_ hW11 h_l h_i h_y h_z
      have i_0 : W11.cell? ⟨(w.heap.size + 1), 0, none⟩ = some (.bool true) := Hi11.out.cellAt (i := 0) (by simp)
      have i_1 : W11.cell? ⟨(w.heap.size + 1), 1, none⟩ = some (.int .u32 (N : Int)) := Hi11.out.cellAt (i := 1) (by simp)
      have z_0 : W11.cell? ⟨w10.heap.size, 0, none⟩ = some (.bool true) := Hz11.out.cellAt (i := 0) (by simp)
      have z_1 : W11.cell? ⟨w10.heap.size, 1, none⟩ = some (.int .u32 (N : Int)) := Hz11.out.cellAt (i := 1) (by simp)
      go_wp2_with fail
      clear i_0 i_1 z_0 z_1
      refine (HL.out _ (HTX.out _ HB11.out).1 (HTX.out _ HB11.out).2).mono ?_
      rintro y w12 ⟨rfl, hb⟩
      have HB12 := Lib.hid (below_transG HB11.out hb)
      have Hl12 := Lib.hid (Hl11.out.keep hb Hl11.out.lt)
      have Hi12 := Lib.hid (Hi11.out.keep hb Hi11.out.lt)
      have Hy12 := Lib.hid (Hy11.out.keep hb Hy11.out.lt)
      have Hz12 := Lib.hid (Hz11.out.keep hb Hz11.out.lt)
      clear hb
      have i_0 : w12.cell? ⟨(w.heap.size + 1), 0, none⟩ = some (.bool true) := Hi12.out.cellAt (i := 0) (by simp)
      have i_1 : w12.cell? ⟨(w.heap.size + 1), 1, none⟩ = some (.int .u32 (N : Int)) := Hi12.out.cellAt (i := 1) (by simp)
      have z_0 : w12.cell? ⟨w10.heap.size, 0, none⟩ = some (.bool true) := Hz12.out.cellAt (i := 0) (by simp)
      have z_1 : w12.cell? ⟨w10.heap.size, 1, none⟩ = some (.int .u32 (N : Int)) := Hz12.out.cellAt (i := 1) (by simp)
      go_wp2_with fail
      go_ret
      exact ⟨rfl, HB12.out⟩
theorem door_met (os : Os) (args : Array Value) : laidMetH Tryd.prog laidD ((World.doorLaid Tryd.prog 400 os).forCall (fun _ _ => 0) ⟨#[], args, []⟩).memory :=
  laidMetH_of_parts3 (fuel := 8) (laidMet_of_run' 8 (by kernel_rfl) (by kernel_rfl)) (by kernel_rfl) (by kernel_rfl)
set_option maxRecDepth 100000 in
theorem lifted (os : Os) (started : os.Started) (H : Type) (enc : TypeId × Value → H) :
    ReturnsInHanded {} Tryd.checked os 6 .any (fun w args => (Rows.classBackSpec.pre enc Tryd.prog Tryd.f6 [] false w args ∧ laidMetH Tryd.prog laidD w) ∧ sizedMet enc Tryd.prog Tryd.f6 (OpenSpec.ofChange Rows.classBackSpec) false w args)
      (Rows.classBackSpec.post enc Tryd.prog Tryd.f6 false true false false) := by
  refine returnsInHanded_of_change_and (C := Tryd.checked) (X := fun w _ => laidMetH Tryd.prog laidD w) (fun _ _ _ hh h => h.of_heap hh) own started (by kernel_rfl) Tryd.func6
    (ChangeSpec.witness_shaped (enc := enc) (C := Tryd.checked) (os := os) (X := fun w _ => laidMetH Tryd.prog laidD w) false (World.doorLaid Tryd.prog 400 os) #[.agg #[.int .i64 0, .int .i64 0, .int .i64 0, .int .i64 0], .agg #[.bool false, .int .u32 0]] 8 rfl (World.shaped_of_RefB (by kernel_rfl) (by kernel_rfl)) (by kernel_rfl) (by kernel_rfl) (by kernel_rfl) (door_met os _)) ?_
  intro W base args ds gs before hval0 hW _ _ hL _
  have hval : ∀ (j : Nat) t v, Tryd.f6.params[j]? = some t → args[j]? = some v → Value.okWide Tryd.prog W .any base t v := hval0
  have hW' := hW
  obtain ⟨p, q, hA0, hV, rfl, hfz, hnd⟩ := hW
  have hA : DataW.TrodAll enc Tryd.prog W 0 (fun _ => true) true Tryd.f6.params.toList args.toList ds p := hA0
  rw [Tryd.params6] at hA hval
  obtain ⟨v0, vs0, d0, ds0, p0, q0, hargs, rfl, rfl, h0, r0⟩ := trodAll_cons hA
  obtain ⟨v1, vs1, d1, ds1, p1, q1, rfl, rfl, rfl, h1, r1⟩ := trodAll_cons r0
  obtain ⟨rfl, rfl, rfl⟩ := trodAll_nil r1
  obtain rfl : args = #[v0, v1] := by cases args; simp_all
  obtain ⟨rfl, rfl⟩ := trodVars_none hV
  have k0 := h0
  have lt0 : ∀ x ∈ p0, x.block < W.heap.size := by obtain ⟨m, hm⟩ := k0; exact DataW.trod_lt m _ _ _ hm
  obtain ⟨l0, rfl⟩ := open_label (hval 0 24 v0 rfl rfl) h0
  have k1 := h1
  have lt1 : ∀ x ∈ p1, x.block < W.heap.size := by obtain ⟨m, hm⟩ := k1; exact DataW.trod_lt m _ _ _ hm
  obtain ⟨e1, n1, rfl, w1⟩ := open_ident (hval 1 27 v1 rfl rfl) h1
  clear hA0 hval0
  obtain ⟨hTab, hsz0⟩ := tab_of_wid hL
  refine (walk l0 e1 n1 w1 W hsz0 hTab).mono fun e W' ⟨he, bel⟩ => ?_
  subst he
  exact ⟨_, rfl, _, _, _, [], _, [], hW', trodAll_mk1 (shut_bool Tryd.underlying4 _), (trodAll_cons_mk (Below.trod laidOut (by kernel_rfl) (of_decide_eq_true (by kernel_rfl)) k0 bel lt0) (trodAll_cons_mk (Below.trod laidOut (by kernel_rfl) (of_decide_eq_true (by kernel_rfl)) k1 bel lt1) trodAll_mk0)), rfl, bel.frame _, fun h => by cases h⟩
theorem over : Rows.classBackRow.holds Tryd.pinned (OpenSpec.ofChange Rows.classBackSpec) :=
  OpenClaim.holds_of_wide 6 Tryd.f6 rfl rfl rfl rfl rfl rfl rfl ⟨rfl, rfl, rfl, rfl, rfl⟩ rfl rfl rfl rfl rfl (by kernel_rfl) Tryd.func6 (by kernel_rfl)
    (of_decide_eq_true (by kernel_rfl)) (by unfold Func.isWrapper; first | (rw [if_pos (by decide +kernel)]; kernel_rfl) | (rw [if_neg (by decide +kernel)]; exact ⟨rfl, rfl⟩))
    (fun os started H enc _ => lifted os started H enc)
/-- The statement: the row, and what it lists tied to the program's text. -/
theorem proved : Rows.ClassBackCardSaid :=
  Claim7.holds_tied_plain_at .later [] [.data] true _ false
    over (fun _ h => by cases h) (by kernel_rfl) (fun _ h => by cases h) classBack_row_tie rfl ⟨rfl, rfl⟩ (by kernel_rfl) rfl
    (fun f fn hf hfn => by
      obtain rfl : f = 6 := Option.some.inj ((show Tryd.prog.funcNamed "bellbuoy/bellbuoylaw23.ClassBack" = some 6 by kernel_rfl).symm.trans hf) |>.symm
      obtain rfl : fn = Tryd.f6 := (Option.some.inj (Tryd.func6.symm.trans hfn)).symm
      exact ⟨by kernel_rfl, fun j t ht => by
        rw [Tryd.params6] at ht
        have hm : t ∈ [24, 27] := by simpa using Array.mem_of_getElem? ht
        have hall : ([24, 27].all fun u => !Tryd.prog.wantsStandIn u) = true := by kernel_rfl
        exact (show Tryd.prog.wantsStandIn t = false by simpa using List.all_eq_true.1 hall t hm)⟩)
    (by kernel_rfl)
end Go.Proofs.YtmealljdecancaaDoor.classBack
