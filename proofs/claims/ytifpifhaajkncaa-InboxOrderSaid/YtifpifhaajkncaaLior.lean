/- InboxOrder (P14.3, P14.4): of every room and list of stamped frames: what is taken out is what was laid in, in that order, each once; what finds no room changes nothing but that one was lost. No conditions. -/
import Derived.Test.YtifpifhaajkncaaRows
import Derived.Test.YtifpifhaajkncaaInf
import Derived.Test.YtifpifhaajkncaaOpg
import Derived.Test.YtifpifhaajkncaaEqg
import Derived.WalkKit
import Derived.ProofKit
import Derived.OpenShut
import Derived.ShutString
import Derived.ChangeOld
import Derived.Below
namespace Go.Proofs.Ytifpifhaajkncaa.inboxOrder
open Go.ChangeShapes Go.WideShapes Go.ChangeAt Go.RowKit
theorem own : ownKnob Try.prog.godebug = none := by kernel_rfl
theorem laidOut : laidOutB Try.prog = true := by kernel_rfl
theorem off_open (N : Nat) (Q : List SD) (o : Bool) (s : SD) : offF N [] Q o s = if N ≤ Q.length then (Q, true, false) else (Q ++ [s], o, true) := by
  unfold offF
  rw [if_neg (by simp [letsB])]
theorem off_next (N k : Nat) (L : List SD) (hk : k < L.length) : offF N [] (L.take (min k N)) (decide (N < k)) L[k] = (L.take (min (k + 1) N), decide (N < k + 1), decide (k < N)) := by
  rw [off_open]
  have hl : (L.take (min k N)).length = min k N := by rw [List.length_take]; omega
  by_cases h : k < N
  · rw [if_neg (by omega), show min k N = k by omega, show min (k + 1) N = k + 1 by omega, decide_eq_false (show ¬ N < k by omega), decide_eq_false (show ¬ N < k + 1 by omega), decide_eq_true h, List.take_succ_eq_append_getElem hk]
  · rw [if_pos (by omega), show min k N = N by omega, show min (k + 1) N = N by omega, decide_eq_true (show N < k + 1 by omega), decide_eq_false h]
set_option maxRecDepth 100000 in
set_option maxHeartbeats 8000000 in
theorem walk (a0 : Int) (a : Option Addr) (len cap : Nat) (L : List SD) (w : World) (w0 : (Lit.int .u8 a0).wf = true) (w1 : L.length = len ∧ (∀ s ∈ L, s.wf) ∧ Rd w 14 (.slice a len cap) (L.flatMap SD.C)) :
    Calls Try.prog 7 #[.int .u8 a0, .slice a len cap] w fun y w' => y = .returned (.bool true) ∧ Below w.heap.size w w' := by
  obtain ⟨rfl, _, hRd⟩ := w1
  have HRD := Lib.hid (show Rd w 14 (.slice a L.length cap) (stC L) from hRd)
  have ha := wfI8 w0
  obtain ⟨N, hN⟩ : ∃ N : Nat, (N : Int) = a0 % 16 + 1 := ⟨(a0 % 16 + 1).toNat, by omega⟩
  have HN := Lib.hid (show 1 ≤ N ∧ N ≤ 16 by omega)
  have q1 : Int.tmod a0 16 = a0 % 16 := Int.tmod_eq_emod_of_nonneg ha.1
  have q2 : a0 % 16 + 1 = (N : Int) := hN.symm
  have q3 : IntKind.i64.wrap (N : Int) = (N : Int) := by rw [IntKind.wrap_i64]; have := HN.out; omega
  have HNW := Lib.hid (inew_any N HN.out.1 HN.out.2 [] none 0 0 (by decide) w (rd_nil w))
  have q4 : IntKind.i64.wrap a0 = a0 := by rw [IntKind.wrap_i64]; omega
  have q5 : IntKind.i64.wrap (a0 % 16) = a0 % 16 := by rw [IntKind.wrap_i64]; omega
  have heqs : ∀ (x0 x1 x2 x3 x4 x5 x6 x7 : Int) (u : World), Sem.run Try.prog (Op.equalIn 9998 35 (.agg #[.int .u8 x0, .int .u8 x1, .int .u8 x2, .int .u8 x3, .int .u8 x4, .int .u8 x5, .int .u8 x6, .int .u8 x7]) (.agg #[.int .u8 x0, .int .u8 x1, .int .u8 x2, .int .u8 x3, .int .u8 x4, .int .u8 x5, .int .u8 x6, .int .u8 x7])) u = .ok true u := fun x0 x1 x2 x3 x4 x5 x6 x7 u => eqs8 9996 x0 x1 x2 x3 x4 x5 x6 x7 u
  clear hRd w0 ha hN
  go_enter Try.func7, Try.ntmps7
  go_wp2_with fail
  refine HNW.out.mono ?_
  rintro y w1 ⟨B, fv, rfl, hBB, hI, hfv, hb⟩
  have HI1 := Lib.hid hI; have HB1 := Lib.hid hb; have HBB := Lib.hid hBB
  clear hBB hI hfv hb
  go_wp2_with fail
  go_loopw [8, 9] (fun s8 s9 wr => ∃ (k : Nat) (v : Value), s8 = .int .i64 (k : Int) ∧ s9 = .int .i64 (k : Int) ∧ k ≤ 40 ∧ k ≤ L.length ∧ IA wr 103 B N [] fv (L.take (min k N)) v (decide (N < k)) ∧ Below w.heap.size w wr ∧ (∀ g, v.ownBlock = some g → w.heap.size ≤ g)) (fun _ s9 _ => 40 - (intOf s9).toNat)
  case atStart => exact ⟨0, _, rfl, rfl, by omega, by omega, by simpa using HI1.out, HB1.out, fun g hg => by cases hg⟩
  case round =>
    obtain ⟨k, v, rfl, rfl, hk40, hkL, hI, hB, hv⟩ := hrel
    have HI := Lib.hid hI; have HB := Lib.hid hB; have HV := Lib.hid hv
    clear hI hB hv
    by_cases hgo : k < L.length ∧ k < 40
    · have hlt := hgo.1
      have i1 : (k : Int) < (L.length : Int) := by omega
      have i2 : (k : Int) < 40 := by have := hgo.2; omega
      have i3 : (0 : Int) ≤ (k : Int) := by omega
      obtain ⟨_, g, off, rfl, hg, hcell⟩ := HRD.out.sd hlt
      obtain ⟨s, hs⟩ : ∃ s, s = L[k] := ⟨_, rfl⟩
      have HSD := Lib.hid hs
      rw [← hs] at hcell
      have hcw : ∀ i u, s.C[i]? = some u → wr.cell? ⟨g, off + k * 14 + i, none⟩ = some u := fun i u h => (HB.out.cell (p := ⟨g, off + k * 14 + i, none⟩) hg).trans (hcell i u h)
      have HOF := Lib.hid (offer_any B N [] fv (L.take (min k N)) v (decide (N < k)) s (by decide) (by rw [List.length_take]; omega) wr HI.out)
      rw [hs, off_next N k L hlt, ← hs] at HOF
      clear hs hcell
      obtain ⟨e, n, q, l, x0, x1, x2, x3, x4, x5, x6, x7, f, t⟩ := s
      unfold SD.V at HOF
      simp only at HOF
      have e0 : wr.cell? ⟨g, off + k * 14, none⟩ = some (.bool e) := hcw 0 _ rfl
      have e1 : wr.cell? ⟨g, off + k * 14 + 1, none⟩ = some (.int .u32 n) := hcw 1 _ rfl
      have e2 : wr.cell? ⟨g, off + k * 14 + 2, none⟩ = some (.bool q) := hcw 2 _ rfl
      have e3 : wr.cell? ⟨g, off + k * 14 + 3, none⟩ = some (.int .i64 l) := hcw 3 _ rfl
      have e4 : wr.cell? ⟨g, off + k * 14 + 4, none⟩ = some (.int .u8 x0) := hcw 4 _ rfl
      have e5 : wr.cell? ⟨g, off + k * 14 + 5, none⟩ = some (.int .u8 x1) := hcw 5 _ rfl
      have e6 : wr.cell? ⟨g, off + k * 14 + 6, none⟩ = some (.int .u8 x2) := hcw 6 _ rfl
      have e7 : wr.cell? ⟨g, off + k * 14 + 7, none⟩ = some (.int .u8 x3) := hcw 7 _ rfl
      have e8 : wr.cell? ⟨g, off + k * 14 + 8, none⟩ = some (.int .u8 x4) := hcw 8 _ rfl
      have e9 : wr.cell? ⟨g, off + k * 14 + 9, none⟩ = some (.int .u8 x5) := hcw 9 _ rfl
      have e10 : wr.cell? ⟨g, off + k * 14 + 10, none⟩ = some (.int .u8 x6) := hcw 10 _ rfl
      have e11 : wr.cell? ⟨g, off + k * 14 + 11, none⟩ = some (.int .u8 x7) := hcw 11 _ rfl
      have e12 : wr.cell? ⟨g, off + k * 14 + 12, none⟩ = some (.int .i64 f) := hcw 12 _ rfl
      have e13 : wr.cell? ⟨g, off + k * 14 + 13, none⟩ = some (.int .i64 t) := hcw 13 _ rfl
      have i4 : (decide ((k : Int) < (N : Int))) = decide (k < N) := by rw [decide_eq_decide]; omega
      clear hcw
      go_wp2_with fail
      refine HOF.out.mono ?_
      rintro y w2 ⟨v2, rfl, hI, hk, hn⟩
      have HI2 := Lib.hid hI; have HB2 := Lib.hid (HB.out.trans (hk.belowN HBB.out HB.out.size HV.out))
      have HV2 := Lib.hid (show ∀ g, v2.ownBlock = some g → w.heap.size ≤ g from fun g h => by
        rcases hn g h with h | h
        · exact HV.out g h
        · have := HB.out.size; omega)
      clear hI hk hn e0 e1 e2 e3 e4 e5 e6 e7 e8 e9 e10 e11 e12 e13
      by_cases hkN : k < N
      · have i5 : (k : Int) < (N : Int) := by omega
        have i6 : decide (k < N) = true := decide_eq_true hkN
        rw [i6]
        go_wp2_with fail
        go_roundw
        case rel => exact ⟨k + 1, v2, by simp, by simp, by omega, by omega, HI2.out, HB2.out, HV2.out⟩
        case measure => simp [intOf]; omega
      · have i5 : ¬ (k : Int) < (N : Int) := by omega
        have i6 : decide (k < N) = false := decide_eq_false hkN
        rw [i6]
        go_wp2_with fail
        go_roundw
        case rel => exact ⟨k + 1, v2, by simp, by simp, by omega, by omega, HI2.out, HB2.out, HV2.out⟩
        case measure => simp [intOf]; omega
    · obtain ⟨o, ho⟩ : ∃ o, o = decide (N < k) := ⟨_, rfl⟩
      obtain ⟨M, hM⟩ : ∃ M, M = min k N := ⟨_, rfl⟩
      rw [← ho, ← hM] at HI
      have hML : (L.take M).length = M := by rw [List.length_take]; omega
      have HO := Lib.hid (iover_any B N [] fv (L.take M) v o wr HI.out)
      have HLN := Lib.hid (ilen_any B N [] fv (L.take M) v o wr HI.out)
      rw [hML] at HLN
      obtain ⟨P, hP⟩ : ∃ P : World → Nat → Value → Prop, P = fun u j v => IA u 103 B N [] fv ((L.take M).drop j) v o := ⟨_, rfl⟩
      have HP0 := Lib.hid (show P wr 0 v by rw [hP]; exact HI.out)
      have HPS := Lib.hid (show ∀ (u : World) (j : Nat) (v : Value) (s : SD), j < M → L[j]? = some s → P u j v → Calls Try.prog 36 #[.pointer (some ⟨B, 0, none⟩)] u fun y u' => ∃ v', y = .returned (.tuple #[s.V, .bool true]) ∧ P u' (j + 1) v' ∧ Kp B v u u' ∧ Nx u v v' from fun u j v s hj hs h => by
        rw [hP] at h ⊢
        have hjl : j < (L.take M).length := by omega
        have e : (L.take M).drop j = s :: (L.take M).drop (j + 1) := by
          rw [List.drop_eq_getElem_cons hjl]
          congr 1
          rw [List.getElem_take]
          exact Option.some.inj ((List.getElem?_eq_getElem (by omega)).symm.trans hs)
        rw [e] at h
        exact pop_some B N [] fv s _ v o (by rw [List.length_drop]; omega) u h)
      have HPE := Lib.hid (show ∀ (u : World) (v : Value), P u M v → Calls Try.prog 36 #[.pointer (some ⟨B, 0, none⟩)] u fun y u' => y = .returned (.tuple #[SD.zero.V, .bool false]) ∧ P u' M v ∧ Below u.heap.size u u' from fun u v h => by
        have e : (L.take M).drop M = [] := List.drop_of_length_le (by omega)
        have h2 : IA u 103 B N [] fv ((L.take M).drop M) v o := by rw [hP] at h; exact h
        rw [e] at h2
        refine (pop_none B N [] fv v o u h2).mono fun y u' hh => ⟨hh.1, ?_, hh.2.2⟩
        rw [hP]
        show IA u' 103 B N [] fv ((L.take M).drop M) v o
        rw [e]
        exact hh.2.1)
      have HPB := Lib.hid (show ∀ (u u' : World) (j : Nat) (v : Value), P u j v → Below u.heap.size u u' → P u' j v from fun u u' j v h hb => by rw [hP] at h ⊢; exact IA.on h hb)
      have HPO := Lib.hid (show ∀ (u : World) (j : Nat) (v : Value), P u j v → Calls Try.prog 41 #[.pointer (some ⟨B, 0, none⟩)] u fun y u' => y = .returned (.bool o) ∧ u = u' from fun u j v h => by rw [hP] at h; exact iover_any B N [] fv _ v o u h)
      have HML := Lib.hid (show M ≤ L.length ∧ M ≤ 16 by have := HN.out; omega)
      have HJ := Lib.hid (show ∀ j : Nat, j < M → (j : Int) < (k : Int) ∧ (j : Int) < (N : Int) from fun j hj => by omega)
      have hD : ((k : Int) < (L.length : Int) ∧ ¬ (k : Int) < 40 ∧ o = true ∧ (N : Int) < (k : Int) ∧ M = N) ∨ (¬ (k : Int) < (L.length : Int) ∧ o = true ∧ (N : Int) < (k : Int) ∧ M = N) ∨ (¬ (k : Int) < (L.length : Int) ∧ o = false ∧ ¬ (N : Int) < (k : Int) ∧ M = k) := by
        have := HN.out
        by_cases h : N < k
        · have h1 : o = true := by rw [ho, decide_eq_true h]
          by_cases h2 : k < L.length
          · exact .inl ⟨by omega, by omega, h1, by omega, by omega⟩
          · exact .inr (.inl ⟨by omega, h1, by omega, by omega⟩)
        · have h1 : o = false := by rw [ho, decide_eq_false h]
          exact .inr (.inr ⟨by omega, h1, by omega, by omega⟩)
      clear hgo ho hM hk40 hkL hP hML HI
      rcases hD with ⟨i1, i2, rfl, j1, rfl⟩ | ⟨i1, rfl, j1, rfl⟩ | ⟨i1, rfl, j1, rfl⟩
      all_goals
        go_wp2_with fail
        refine HO.out.mono ?_
        rintro y w4 ⟨rfl, rfl⟩
        go_wp2_with fail
        refine HLN.out.mono ?_
        rintro y w4 ⟨rfl, rfl⟩
        go_wp2_with fail
        obtain ⟨wo, hwo⟩ : ∃ wo, wo = wr := ⟨_, rfl⟩
        rw [← hwo] at HP0 HB ⊢
        clear HO HLN hwo
        go_loopw [10] (fun s10 wr => ∃ (j : Nat) (v : Value), s10 = .int .i64 (j : Int) ∧ j ≤ M ∧ P wr j v ∧ Below w.heap.size w wr ∧ (∀ g, v.ownBlock = some g → w.heap.size ≤ g)) (fun s10 _ => M - (intOf s10).toNat)
        case atStart => exact ⟨0, _, rfl, Nat.zero_le _, HP0.out, HB.out, HV.out⟩
        case round =>
          obtain ⟨j, vj, rfl, hjM, hPj, hBj, hvj⟩ := hrel
          have HPJ := Lib.hid hPj; have HBJ := Lib.hid hBj; have HVJ := Lib.hid hvj
          clear hPj hBj hvj
          by_cases hlt0 : j < M
          · have hlt : j < L.length := Nat.lt_of_lt_of_le hlt0 HML.out.1
            obtain ⟨i3, i4⟩ := HJ.out j hlt0
            have i5 : (j : Int) < (L.length : Int) := by omega
            have i6 : (0 : Int) ≤ (j : Int) := by omega
            obtain ⟨_, g, off, rfl, hg, hcell⟩ := HRD.out.sd hlt
            obtain ⟨s, hs⟩ : ∃ s, s = L[j] := ⟨_, rfl⟩
            have HPOP := Lib.hid (HPS.out wr j vj s hlt0 (by rw [hs]; exact List.getElem?_eq_getElem hlt) HPJ.out)
            rw [← hs] at hcell
            clear hs
            have HCE := Lib.hid hcell
            obtain ⟨e, n, q, l, x0, x1, x2, x3, x4, x5, x6, x7, f, t⟩ := s
            unfold SD.V at HPOP
            simp only at HPOP
            clear hcell
            go_wp2_with fail
            refine HPOP.out.mono ?_
            rintro y w5 ⟨v5, rfl, hp, hk, hn⟩
            obtain ⟨W6, hW6⟩ : ∃ W6, W6 = w5.alloc (.cells #[.bool e, .int .u32 n, .bool q, .int .i64 l, .int .u8 x0, .int .u8 x1, .int .u8 x2, .int .u8 x3, .int .u8 x4, .int .u8 x5, .int .u8 x6, .int .u8 x7, .int .i64 f, .int .i64 t] 69) := ⟨_, rfl⟩
            have hb6 : Below w5.heap.size w5 W6 := by rw [hW6]; exact (Below.refl _ w5).alloc (Nat.le_refl _) _
            have HP6 := Lib.hid (HPB.out _ _ _ _ hp hb6)
            have HB6 := Lib.hid (below_transG (HBJ.out.trans (hk.belowN HBB.out HBJ.out.size HVJ.out)) hb6)
            have HV6 := Lib.hid (show ∀ g, v5.ownBlock = some g → w.heap.size ≤ g from fun g h => by
              rcases hn g h with h | h
              · exact HVJ.out g h
              · have := HBJ.out.size; omega)
            have hS6 := (show Blk W6 w5.heap.size 69 [.bool e, .int .u32 n, .bool q, .int .i64 l, .int .u8 x0, .int .u8 x1, .int .u8 x2, .int .u8 x3, .int .u8 x4, .int .u8 x5, .int .u8 x6, .int .u8 x7, .int .i64 f, .int .i64 t] by rw [hW6]; exact Blk.new w5 _ [.bool e, .int .u32 n, .bool q, .int .i64 l, .int .u8 x0, .int .u8 x1, .int .u8 x2, .int .u8 x3, .int .u8 x4, .int .u8 x5, .int .u8 x6, .int .u8 x7, .int .i64 f, .int .i64 t])
            have hcw : ∀ i u, (SD.C ⟨e, n, q, l, x0, x1, x2, x3, x4, x5, x6, x7, f, t⟩)[i]? = some u → W6.cell? ⟨g, off + j * 14 + i, none⟩ = some u := fun i u h => (HB6.out.cell (p := ⟨g, off + j * 14 + i, none⟩) hg).trans (HCE.out i u h)
            have e0 : W6.cell? ⟨g, off + j * 14, none⟩ = some (.bool e) := hcw 0 _ rfl
            have e1 : W6.cell? ⟨g, off + j * 14 + 1, none⟩ = some (.int .u32 n) := hcw 1 _ rfl
            have e2 : W6.cell? ⟨g, off + j * 14 + 2, none⟩ = some (.bool q) := hcw 2 _ rfl
            have e3 : W6.cell? ⟨g, off + j * 14 + 3, none⟩ = some (.int .i64 l) := hcw 3 _ rfl
            have e4 : W6.cell? ⟨g, off + j * 14 + 4, none⟩ = some (.int .u8 x0) := hcw 4 _ rfl
            have e5 : W6.cell? ⟨g, off + j * 14 + 5, none⟩ = some (.int .u8 x1) := hcw 5 _ rfl
            have e6 : W6.cell? ⟨g, off + j * 14 + 6, none⟩ = some (.int .u8 x2) := hcw 6 _ rfl
            have e7 : W6.cell? ⟨g, off + j * 14 + 7, none⟩ = some (.int .u8 x3) := hcw 7 _ rfl
            have e8 : W6.cell? ⟨g, off + j * 14 + 8, none⟩ = some (.int .u8 x4) := hcw 8 _ rfl
            have e9 : W6.cell? ⟨g, off + j * 14 + 9, none⟩ = some (.int .u8 x5) := hcw 9 _ rfl
            have e10 : W6.cell? ⟨g, off + j * 14 + 10, none⟩ = some (.int .u8 x6) := hcw 10 _ rfl
            have e11 : W6.cell? ⟨g, off + j * 14 + 11, none⟩ = some (.int .u8 x7) := hcw 11 _ rfl
            have e12 : W6.cell? ⟨g, off + j * 14 + 12, none⟩ = some (.int .i64 f) := hcw 12 _ rfl
            have e13 : W6.cell? ⟨g, off + j * 14 + 13, none⟩ = some (.int .i64 t) := hcw 13 _ rfl
            have d0 := hS6.cellAt (i := 0) (by simp)
            have f0 := hS6.frozenAt 0
            have d1 := hS6.cellAt (i := 1) (by simp)
            have f1 := hS6.frozenAt 1
            have d2 := hS6.cellAt (i := 2) (by simp)
            have f2 := hS6.frozenAt 2
            have d3 := hS6.cellAt (i := 3) (by simp)
            have f3 := hS6.frozenAt 3
            have d4 := hS6.cellAt (i := 4) (by simp)
            have f4 := hS6.frozenAt 4
            have d5 := hS6.cellAt (i := 5) (by simp)
            have f5 := hS6.frozenAt 5
            have d6 := hS6.cellAt (i := 6) (by simp)
            have f6 := hS6.frozenAt 6
            have d7 := hS6.cellAt (i := 7) (by simp)
            have f7 := hS6.frozenAt 7
            have d8 := hS6.cellAt (i := 8) (by simp)
            have f8 := hS6.frozenAt 8
            have d9 := hS6.cellAt (i := 9) (by simp)
            have f9 := hS6.frozenAt 9
            have d10 := hS6.cellAt (i := 10) (by simp)
            have f10 := hS6.frozenAt 10
            have d11 := hS6.cellAt (i := 11) (by simp)
            have f11 := hS6.frozenAt 11
            have d12 := hS6.cellAt (i := 12) (by simp)
            have f12 := hS6.frozenAt 12
            have d13 := hS6.cellAt (i := 13) (by simp)
            have f13 := hS6.frozenAt 13
            simp only [List.getElem_cons_zero, List.getElem_cons_succ] at d0 d1 d2 d3 d4 d5 d6 d7 d8 d9 d10 d11 d12 d13
            clear hp hk hn hb6 hS6 hcw
            go_upto_region 18 with fail
            rw [← hW6]
            clear hW6
            have hee := heqs x0 x1 x2 x3 x4 x5 x6 x7
            go_quiet (fail)
            go_wp2_with fail
            go_roundw
            case rel => exact ⟨j + 1, v5, by simp, by omega, HPB.out _ _ _ _ HP6.out (below_drewG (Below.refl _ _) _), below_drewG HB6.out _, HV6.out⟩
            case measure => simp [intOf]; omega
          · obtain rfl : j = M := by omega
            have HPOP := Lib.hid (HPE.out wr vj HPJ.out)
            unfold SD.V SD.zero at HPOP
            simp only at HPOP
            go_wp2_with fail
            refine HPOP.out.mono ?_
            rintro y w5 ⟨rfl, hp, hb⟩
            have hb6 : Below wr.heap.size wr (w5.alloc (.cells #[.bool false, .int .u32 0, .bool false, .int .i64 0, .int .u8 0, .int .u8 0, .int .u8 0, .int .u8 0, .int .u8 0, .int .u8 0, .int .u8 0, .int .u8 0, .int .i64 0, .int .i64 0] 69)) := hb.alloc hb.size _
            have HP6 := Lib.hid (HPB.out _ _ _ _ HPJ.out hb6)
            have HB6 := Lib.hid (below_transG HBJ.out hb6)
            clear hp hb hb6
            go_wp2_with fail
            refine (live14 _).mono ?_
            rintro y w7 ⟨rfl, hb⟩
            have HP7 := Lib.hid (HPB.out _ _ _ _ HP6.out hb)
            have HB7 := Lib.hid (below_transG HB6.out hb)
            clear hb
            go_wp2_with fail
            refine (HPO.out _ _ _ HP7.out).mono ?_
            rintro y w8 ⟨rfl, rfl⟩
            go_wp2_with fail
            go_ret
            exact ⟨rfl, HB7.out⟩
set_option maxRecDepth 100000 in
theorem lifted (os : Os) (started : os.Started) (H : Type) (enc : TypeId × Value → H) :
    ReturnsInHanded {} Try.checked os 7 .any (Rows.inboxOrderSpec.pre6 enc Try.prog Try.f7 Rows.inboxOrderRow.domain false) (Rows.inboxOrderSpec.post enc Try.prog Try.f7 false true false false) := by
  refine returnsInHanded_of_change (C := Try.checked) own started (by kernel_rfl) Try.func7
    (ChangeSpec.witness6 (enc := enc) (C := Try.checked) false ⟨#[], #[.int .u8 0, .slice none 0 0], []⟩ 8 (by kernel_rfl) (by kernel_rfl) (by kernel_rfl) (by kernel_rfl)) ?_
  intro W base args ds gs before hval0 hW _ _
  have hval : ∀ (j : Nat) t v, Try.f7.params[j]? = some t → args[j]? = some v → Value.okWide Try.prog W .any base t v := hval0
  have hW' := hW
  obtain ⟨p, q, hA0, hV, rfl, hfz, hnd⟩ := hW
  have hA : DataW.TrodAll enc Try.prog W 0 (fun _ => true) true Try.f7.params.toList args.toList ds p := hA0
  rw [Try.params7] at hA hval
  obtain ⟨v0, vs0, d0, ds0, p0, q0, hargs, rfl, rfl, h0, r0⟩ := trodAll_cons hA
  obtain ⟨v1, vs1, d1, ds1, p1, q1, rfl, rfl, rfl, h1, r1⟩ := trodAll_cons r0
  obtain ⟨rfl, rfl, rfl⟩ := trodAll_nil r1
  obtain rfl : args = #[v0, v1] := by cases args; simp_all
  obtain ⟨rfl, rfl⟩ := trodVars_none hV
  obtain ⟨a0, rfl, rfl, rfl, w0⟩ := open_int Try.underlying5 (hval 0 5 v0 rfl rfl) h0
  obtain ⟨a1, len1, cap1, rfl⟩ := okWide_slice Try.underlying76 (hval 1 76 v1 rfl rfl)
  have k1 := h1
  have lt1 : ∀ x ∈ p1, x.block < W.heap.size := by obtain ⟨m, hm⟩ := k1; exact DataW.trod_lt m _ _ _ hm
  obtain ⟨L1, wl1, ww1, wr1⟩ : ∃ L : List SD, L.length = len1 ∧ (∀ s ∈ L, SD.wf s) ∧ Rd W 14 (.slice a1 len1 cap1) (L.flatMap SD.C) := by
    obtain ⟨fuel, hf⟩ := h1
    exact open_rows SD.C SD.wf 14 (by decide) Try.underlying76 (by kernel_rfl) (fun _ => rfl) (fun _ _ _ => stampedG) (by simpa [Value.cells] using hf)
  clear hA0 hval0
  refine (walk a0 a1 len1 cap1 L1 W w0 ⟨wl1, ww1, wr1⟩).mono fun e W' ⟨he, bel⟩ => ?_
  subst he
  exact ⟨_, rfl, _, _, _, [], _, [], hW', trodAll_mk1 (shut_bool Try.underlying4 _), (trodAll_cons_mk (shut_int Try.underlying5 w0) (trodAll_cons_mk (Below.trod laidOut (by kernel_rfl) (of_decide_eq_true (by kernel_rfl)) k1 bel lt1) trodAll_mk0)), rfl, bel.frame _, fun h => by cases h⟩
theorem over : Rows.inboxOrderRow.holds Try.pinned (OpenSpec.ofChange Rows.inboxOrderSpec) :=
  OpenClaim.holds_of_wide 7 Try.f7 rfl rfl rfl rfl rfl rfl rfl ⟨rfl, rfl, rfl, rfl, rfl⟩ rfl rfl rfl rfl rfl (by kernel_rfl) Try.func7 (by kernel_rfl)
    (of_decide_eq_true (by kernel_rfl)) (by unfold Func.isWrapper; first | (rw [if_pos (by decide +kernel)]; kernel_rfl) | (rw [if_neg (by decide +kernel)]; exact ⟨rfl, rfl⟩))
    (fun os started H enc _ => lifted os started H enc)
/-- The statement. -/
theorem proved : Rows.InboxOrderSaid := over
end Go.Proofs.Ytifpifhaajkncaa.inboxOrder
