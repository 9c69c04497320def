/- The code of package boxes: mailboxes in memory; which one of them is the first of its kind. Conditions: there are at most eight. -/
import Derived.Test.YtbdockeopbfliaaRows
import Derived.Test.YtbdockeopbfliaaInb
import Derived.Lib.SliceRun
namespace Go.Proofs.Ytbdockeopbfliaa
open Go.RowKit
/-- The first place below n at which p holds, or -1. -/
def firstI (p : Nat → Bool) : Nat → Int
  | 0 => -1
  | n + 1 => if firstI p n ≠ -1 then firstI p n else if p n then (n : Int) else -1
theorem firstI_none {p : Nat → Bool} {n : Nat} (h : ∀ j, j < n → p j = false) : firstI p n = -1 := by
  induction n with
  | zero => rfl
  | succ n ih =>
    unfold firstI
    rw [if_neg (by rw [ih (fun j hj => h j (by omega))]; simp), h n (by omega), if_neg (by simp)]
theorem firstI_at {p : Nat → Bool} {n k : Nat} (hk : k < n) (hp : p k = true) (h : ∀ j, j < k → p j = false) : firstI p n = (k : Int) := by
  induction n with
  | zero => omega
  | succ n ih =>
    unfold firstI
    by_cases e : k < n
    · rw [ih e, if_pos (by omega)]
    · obtain rfl : k = n := by omega
      rw [if_neg (by rw [firstI_none h]; simp), hp, if_pos rfl]
theorem firstI_cases (p : Nat → Bool) (n : Nat) : (firstI p n = -1 ∧ ∀ j, j < n → p j = false) ∨ ∃ k : Nat, firstI p n = (k : Int) ∧ k < n ∧ p k = true ∧ ∀ j, j < k → p j = false := by
  induction n with
  | zero => exact .inl ⟨rfl, fun j hj => by omega⟩
  | succ n ih =>
    rcases ih with ⟨h1, h2⟩ | ⟨k, h1, h2, h3, h4⟩
    · by_cases hp : p n = true
      · exact .inr ⟨n, firstI_at (by omega) hp h2, by omega, hp, h2⟩
      · refine .inl ⟨firstI_none fun j hj => ?_, fun j hj => ?_⟩
        all_goals
          by_cases e : j < n
          · exact h2 j e
          · obtain rfl : j = n := by omega
            simpa using hp
    · exact .inr ⟨k, firstI_at (by omega) h3 h4, by omega, h3, h4⟩
/-- A post. -/
structure PD where
  e : Bool
  n : Nat
  q : Bool
  l : Int
  x0 : Nat
  x1 : Nat
  x2 : Nat
  x3 : Nat
  x4 : Nat
  x5 : Nat
  x6 : Nat
  x7 : Nat
  once : Bool
  tag : Int
def PD.C (p : PD) : List Value := [.bool p.e, .int .u32 (p.n : Int), .bool p.q, .int .i64 p.l, .int .u8 (p.x0 : Int), .int .u8 (p.x1 : Int), .int .u8 (p.x2 : Int), .int .u8 (p.x3 : Int), .int .u8 (p.x4 : Int), .int .u8 (p.x5 : Int), .int .u8 (p.x6 : Int), .int .u8 (p.x7 : Int), .bool p.once, .int .i64 p.tag]
def PD.V (p : PD) : Value := .agg #[.bool p.e, .int .u32 (p.n : Int), .bool p.q, .int .i64 p.l, .int .u8 (p.x0 : Int), .int .u8 (p.x1 : Int), .int .u8 (p.x2 : Int), .int .u8 (p.x3 : Int), .int .u8 (p.x4 : Int), .int .u8 (p.x5 : Int), .int .u8 (p.x6 : Int), .int .u8 (p.x7 : Int), .bool p.once, .int .i64 p.tag]
def PD.zero : PD := ⟨false, 0, false, 0, 0, 0, 0, 0, 0, 0, 0, 0, false, 0⟩
/-- A mailbox. -/
structure BD where
  full : Bool
  p : PD
def BD.C (b : BD) : List Value := .bool b.full :: b.p.C
def BD.V (b : BD) : Value := .agg #[.bool b.full, .bool b.p.e, .int .u32 (b.p.n : Int), .bool b.p.q, .int .i64 b.p.l, .int .u8 (b.p.x0 : Int), .int .u8 (b.p.x1 : Int), .int .u8 (b.p.x2 : Int), .int .u8 (b.p.x3 : Int), .int .u8 (b.p.x4 : Int), .int .u8 (b.p.x5 : Int), .int .u8 (b.p.x6 : Int), .int .u8 (b.p.x7 : Int), .bool b.p.once, .int .i64 b.p.tag]
def BD.zero : BD := ⟨false, PD.zero⟩
def bxAt (L : List BD) (j : Nat) : BD := L[j]?.getD BD.zero
def bxC (L : List BD) (room : Nat) : List Value := L.flatMap BD.C ++ [.int .i64 (room : Int)]
theorem BD.len (b : BD) : b.C.length = 15 := rfl
/-- Mailboxes in memory. -/
structure BxA (W : World) (B : Nat) (L : List BD) (room : Nat) : Prop where
  blk : Blk W B 59 (bxC L room)
  eight : L.length = 8
  r1 : 1 ≤ room
  r8 : room ≤ 8
theorem BxA.lt {W : World} {B : Nat} {L : List BD} {room : Nat} (h : BxA W B L room) : B < W.heap.size := h.blk.lt
theorem BxA.on {W X : World} {B : Nat} {L : List BD} {room : Nat} (h : BxA W B L room) (hb : Below W.heap.size W X) : BxA X B L room := ⟨h.blk.keep hb h.lt, h.eight, h.r1, h.r8⟩
theorem flat15 (L : List BD) : (L.flatMap BD.C).length = L.length * 15 := flat_len 15 BD.C BD.len L
theorem bxC_len (L : List BD) (room : Nat) : (bxC L room).length = L.length * 15 + 1 := by unfold bxC; rw [List.length_append, flat15]; rfl
theorem BxA.cell {W : World} {B : Nat} {L : List BD} {room : Nat} (h : BxA W B L room) {j : Nat} (hj : j < 8) {i : Nat} {u : Value} (hi : (bxAt L j).C[i]? = some u) : W.cell? ⟨B, j * 15 + i, none⟩ = some u ∧ W.frozen? ⟨B, j * 15 + i, none⟩ = false := by
  have hl : i < 15 := (List.getElem?_eq_some_iff.1 hi).1
  have hjl : j < L.length := by rw [h.eight]; exact hj
  have hlt : j * 15 + i < (bxC L room).length := by rw [bxC_len]; omega
  refine ⟨?_, h.blk.frozenAt _⟩
  rw [h.blk.cellAt hlt]
  have e := flat_at 15 BD.C BD.len L j i hjl hl
  have e2 : bxAt L j = L[j] := by unfold bxAt; rw [List.getElem?_eq_getElem hjl]; rfl
  rw [e2, ← e] at hi
  have h3 : (bxC L room)[j * 15 + i]? = some u := by
    unfold bxC
    rw [List.getElem?_append_left (by rw [flat15]; omega)]
    exact hi
  rw [List.getElem?_eq_getElem hlt] at h3
  exact h3
theorem BxA.room {W : World} {B : Nat} {L : List BD} {room : Nat} (h : BxA W B L room) : W.cell? ⟨B, 120, none⟩ = some (.int .i64 (room : Int)) := by
  have hlt : 120 < (bxC L room).length := by rw [bxC_len, h.eight]; omega
  rw [h.blk.cellAt hlt]
  have h3 : (bxC L room)[120]? = some (.int .i64 (room : Int)) := by
    unfold bxC
    rw [List.getElem?_append_right (by rw [flat15, h.eight]; omega), flat15, h.eight]
    rfl
  rw [List.getElem?_eq_getElem hlt] at h3
  exact h3
theorem BxA.rd {W : World} {B : Nat} {L : List BD} {room : Nat} (h : BxA W B L room) : Rd W 15 (.slice (some ⟨B, 0, none⟩) room 8) ((L.take room).flatMap BD.C) := by
  have hr := h.r8
  have hl : (L.take room).length = room := by rw [List.length_take, h.eight]; omega
  refine ⟨room, 8, _, rfl, by rw [flat15, hl], h.r8, by decide, .inr ⟨B, 0, rfl, h.lt, fun j u hj => ?_⟩⟩
  have hlt := (List.getElem?_eq_some_iff.1 hj).1
  rw [flat15, hl] at hlt
  have hdiv : j / 15 < room := (Nat.div_lt_iff_lt_mul (by decide)).2 hlt
  have e : j / 15 * 15 + j % 15 = j := by omega
  have h2 := flat_at 15 BD.C BD.len (L.take room) (j / 15) (j % 15) (by rw [hl]; exact hdiv) (Nat.mod_lt _ (by decide))
  rw [e, hj] at h2
  have e2 : bxAt L (j / 15) = (L.take room)[j / 15]'(by rw [hl]; exact hdiv) := by
    unfold bxAt
    rw [List.getElem_take, List.getElem?_eq_getElem (by rw [h.eight]; omega)]
    rfl
  have h3 := (h.cell (j := j / 15) (by omega) (i := j % 15) (u := u) (by rw [e2]; exact h2.symm)).1
  rw [e] at h3
  rw [Nat.zero_add]
  exact h3
theorem rd_bx {W : World} {B m : Nat} {L : List BD} (h : Rd W 15 (.slice (some ⟨B, 0, none⟩) m 8) ((L.take m).flatMap BD.C)) (hm : m ≤ L.length) {j : Nat} (hj : j < m) : B < W.heap.size ∧ ∀ i u, (bxAt L j).C[i]? = some u → W.cell? ⟨B, j * 15 + i, none⟩ = some u := by
  obtain ⟨n', cap', a', e, h1, h2, h3, h4⟩ := h
  obtain ⟨e1, e2, e3⟩ := Value.slice.inj e
  rw [← e2] at h4
  rw [← e1] at h4
  rcases h4 with h5 | ⟨g, off, h5, hg, hc⟩
  · omega
  · have h6 := Option.some.inj h5
    injection h6 with h7 h8
    subst h7 h8
    refine ⟨hg, fun i u hi => ?_⟩
    have hl : i < 15 := (List.getElem?_eq_some_iff.1 hi).1
    have e4 : bxAt L j = (L.take m)[j]'(by rw [List.length_take]; omega) := by
      unfold bxAt
      rw [List.getElem_take, List.getElem?_eq_getElem (by omega)]
      rfl
    rw [e4] at hi
    have := hc (j * 15 + i) u ((flat_at 15 BD.C BD.len (L.take m) j i (by rw [List.length_take]; omega) hl).trans hi)
    rw [Nat.zero_add] at this
    exact this
theorem sliceBx (B k : Nat) (hk : k ≤ 8) (w : World) : Sem.run Try.prog (Instr.sliceAt 57 (.pointer (some ⟨B, 0, none⟩)) none (some (.int .i64 (k : Int))) none) w = .ok (.slice (some ⟨B, 0, none⟩) k 8) w := by
  have ha : Try.prog.arrayLen 57 = 8 := by kernel_rfl
  have hs : (sizeOf (Try.prog.elem 57)).run Try.prog w = .ok 15 w := by kernel_rfl
  have h := run_sliceAt_array_h (P := Try.prog) w 57 ⟨B, 0, none⟩ (by kernel_rfl) .i64 (k : Int) (by omega) (by rw [ha]; omega)
  rw [ha, hs] at h
  exact h
theorem all_any (B : Nat) (L : List BD) (room : Nat) (w : World) (h : BxA w B L room) : Calls Try.prog 23 #[.pointer (some ⟨B, 0, none⟩)] w fun y w' => y = .returned (.slice (some ⟨B, 0, none⟩) room 8) ∧ Below w.heap.size w w' := by
  have c := h.room
  have hsl := fun u => sliceBx B room h.r8 u
  clear h
  go_enter Try.func23, Try.ntmps23
  go_wp2_with fail
  go_quiet (fail)
  go_wp2_with fail
  go_ret
  exact ⟨rfl, below_drewG (Below.refl _ _) _⟩
theorem all_nil (w : World) : Calls Try.prog 23 #[.pointer none] w fun y w' => y = .returned (.slice none 0 0) ∧ Below w.heap.size w w' := by
  go_enter Try.func23, Try.ntmps23
  go_wp2_with fail
  go_ret
  exact ⟨rfl, Below.refl _ _⟩
theorem room_any (B : Nat) (L : List BD) (room : Nat) (w : World) (h : BxA w B L room) : Calls Try.prog 9 #[.pointer (some ⟨B, 0, none⟩)] w fun y w' => y = .returned (.int .i64 (room : Int)) ∧ Below w.heap.size w w' := by
  have HA := Lib.hid (all_any B L room w h)
  clear h
  go_enter Try.func9, Try.ntmps9
  go_wp2_with fail
  refine HA.out.mono ?_
  rintro y w1 ⟨rfl, hb⟩
  have HB := Lib.hid hb
  clear hb
  go_wp2_with fail
  go_ret
  exact ⟨rfl, HB.out⟩
theorem room_nil (w : World) : Calls Try.prog 9 #[.pointer none] w fun y w' => y = .returned (.int .i64 0) ∧ Below w.heap.size w w' := by
  have HA := Lib.hid (all_nil w)
  go_enter Try.func9, Try.ntmps9
  go_wp2_with fail
  refine HA.out.mono ?_
  rintro y w1 ⟨rfl, hb⟩
  have HB := Lib.hid hb
  clear hb
  go_wp2_with fail
  go_ret
  exact ⟨rfl, HB.out⟩
theorem there_any (B : Nat) (L : List BD) (room : Nat) (i : Int) (w : World) (h : BxA w B L room) : Calls Try.prog 25 #[.pointer (some ⟨B, 0, none⟩), .int .i64 i] w fun y w' => y = .returned (.bool (decide (0 ≤ i ∧ i < (room : Int)))) ∧ Below w.heap.size w w' := by
  have HA := Lib.hid (room_any B L room w h)
  obtain ⟨V, hV⟩ : ∃ V, V = decide (0 ≤ i ∧ i < (room : Int)) := ⟨_, rfl⟩
  rw [← hV]
  have HV := Lib.hid hV
  clear h hV
  by_cases i1 : 0 ≤ i
  · by_cases i2 : i < (room : Int)
    · have HE := Lib.hid (show V = true by rw [HV.out]; exact decide_eq_true ⟨i1, i2⟩)
      go_enter Try.func25, Try.ntmps25
      go_wp2_with fail
      refine HA.out.mono ?_
      rintro y w1 ⟨rfl, hb⟩
      have HB := Lib.hid hb
      clear hb
      go_wp2_with fail
      go_ret
      exact ⟨by rw [HE.out]; rfl, HB.out⟩
    · have HE := Lib.hid (show V = false by rw [HV.out]; exact decide_eq_false (fun h => i2 h.2))
      have i3 : decide (i < (room : Int)) = false := decide_eq_false i2
      go_enter Try.func25, Try.ntmps25
      go_wp2_with fail
      refine HA.out.mono ?_
      rintro y w1 ⟨rfl, hb⟩
      have HB := Lib.hid hb
      clear hb
      go_wp2_with fail
      go_ret
      exact ⟨by rw [HE.out]; first | rfl | (show Ending.returned (Value.bool (decide (i < (room : Int)))) = _; rw [decide_eq_false (by omega)]), HB.out⟩
  · have HE := Lib.hid (show V = false by rw [HV.out]; exact decide_eq_false (fun h => i1 h.1))
    go_enter Try.func25, Try.ntmps25
    go_wp2_with fail
    go_ret
    exact ⟨by rw [HE.out]; rfl, Below.refl _ _⟩
def emptyB (b : BD) : Bool := !b.full
theorem empty_any (b : BD) (w : World) : Calls Try.prog 24 #[b.V] w fun y w' => y = .returned (.bool (emptyB b)) ∧ Below w.heap.size w w' := by
  obtain ⟨full, ⟨e, n, q, l, x0, x1, x2, x3, x4, x5, x6, x7, once, tag⟩⟩ := b
  unfold BD.V emptyB
  simp only
  cases full
  all_goals
    go_enter Try.func24, Try.ntmps24
    go_wp2_with fail
    go_ret
    exact ⟨rfl, (Below.refl _ w).alloc (Nat.le_refl _) _⟩
/-- Is it full, and has it this tag? -/
def tagB (tag : Int) (b : BD) : Bool := b.full && (b.p.tag == tag)
theorem find1_any (b : BD) (tg : Int) (T : Nat) (w : World) (c : w.cell? ⟨T, 0, none⟩ = some (.int .i64 tg)) : Calls Try.prog 26 #[b.V, .pointer (some ⟨T, 0, none⟩)] w fun y w' => y = .returned (.bool (tagB tg b)) ∧ Below w.heap.size w w' := by
  have hlt := cell_ltG c
  obtain ⟨full, ⟨e, n, q, l, x0, x1, x2, x3, x4, x5, x6, x7, once, tag⟩⟩ := b
  unfold BD.V tagB
  simp only
  obtain ⟨z, hz⟩ : ∃ z, z = (tag == tg) := ⟨_, rfl⟩
  rw [← hz]
  have i1 : (tag == tg) = z := hz.symm
  clear hz
  cases full <;> cases z
  all_goals
    go_enter Try.func26, Try.ntmps26
    go_wp2_with fail
    go_ret
    exact ⟨rfl, (Below.refl _ w).alloc (Nat.le_refl _) _⟩
set_option maxHeartbeats 4000000 in
theorem ixe_any (L : List BD) (B : Nat) (m : Nat) (hm : m ≤ L.length) (hm8 : m ≤ 8) (w : World) (hR : Rd w 15 (.slice (some ⟨B, 0, none⟩) m 8) ((L.take m).flatMap BD.C)) :
    Calls Try.prog 22 #[.slice (some ⟨B, 0, none⟩) m 8, .func (.func 24) #[] #[]] w fun y w' => y = .returned (.int .i64 (firstI (fun j => emptyB (bxAt L j)) m)) ∧ Below w.heap.size w w' := by
  have HC := Lib.hid (show ∀ b u, Below w.heap.size w u → Calls Try.prog 24 (#[BD.V b] ++ #[]) u fun y w' => y = .returned (.bool (emptyB b)) ∧ Below u.heap.size u w' from fun b u hu => empty_any b u)
  have HR := Lib.hid (fun j (hj : j < m) => rd_bx hR hm hj)
  obtain ⟨V, hV⟩ : ∃ V, V = firstI (fun j => emptyB (bxAt L j)) m := ⟨_, rfl⟩
  have HV := Lib.hid hV
  rw [← hV]
  have HM := Lib.hid hm
  clear hR hV hm
  go_enter Try.func22, Try.ntmps22
  go_wp2_with fail
  go_loopw [8] (fun i wr => ∃ k : Nat, i = .int .i64 (k : Int) ∧ k ≤ m ∧ (∀ j, j < k → emptyB (bxAt L j) = false) ∧ Below w.heap.size w wr) (fun i _ => m - (intOf i).toNat)
  case atStart => exact ⟨0, rfl, by omega, fun j h => by omega, Below.refl _ _⟩
  case round =>
    obtain ⟨k, rfl, hk, hno, hB⟩ := hrel
    have HB := Lib.hid hB; have HNO := Lib.hid hno
    clear hB hno
    by_cases hlt : k < m
    · have i1 : (k : Int) < (m : Int) := by omega
      have i2 : (0 : Int) ≤ (k : Int) := by omega
      obtain ⟨hBl, hcell⟩ := HR.out k hlt
      obtain ⟨b, hb⟩ : ∃ b, b = bxAt L k := ⟨_, rfl⟩
      rw [← hb] at hcell
      have HBB := Lib.hid hb
      have hcw : ∀ i u, b.C[i]? = some u → wr.cell? ⟨B, k * 15 + i, none⟩ = some u := fun i u h => (HB.out.cell (p := ⟨B, k * 15 + i, none⟩) hBl).trans (hcell i u h)
      have HK := Lib.hid (HC.out b wr HB.out)
      obtain ⟨v, hv⟩ : ∃ v, v = emptyB b := ⟨_, rfl⟩
      rw [← hv] at HK
      have HVV := Lib.hid hv
      clear hb hv hcell
      obtain ⟨full, ⟨e, n, q, l, x0, x1, x2, x3, x4, x5, x6, x7, once, tag⟩⟩ := b
      unfold BD.V at HK
      simp only at HK
      have e0 : wr.cell? ⟨B, k * 15, none⟩ = some (.bool full) := hcw 0 _ rfl
      have e1 : wr.cell? ⟨B, k * 15 + 1, none⟩ = some (.bool e) := hcw 1 _ rfl
      have e2 : wr.cell? ⟨B, k * 15 + 2, none⟩ = some (.int .u32 (n : Int)) := hcw 2 _ rfl
      have e3 : wr.cell? ⟨B, k * 15 + 3, none⟩ = some (.bool q) := hcw 3 _ rfl
      have e4 : wr.cell? ⟨B, k * 15 + 4, none⟩ = some (.int .i64 l) := hcw 4 _ rfl
      have e5 : wr.cell? ⟨B, k * 15 + 5, none⟩ = some (.int .u8 (x0 : Int)) := hcw 5 _ rfl
      have e6 : wr.cell? ⟨B, k * 15 + 6, none⟩ = some (.int .u8 (x1 : Int)) := hcw 6 _ rfl
      have e7 : wr.cell? ⟨B, k * 15 + 7, none⟩ = some (.int .u8 (x2 : Int)) := hcw 7 _ rfl
      have e8 : wr.cell? ⟨B, k * 15 + 8, none⟩ = some (.int .u8 (x3 : Int)) := hcw 8 _ rfl
      have e9 : wr.cell? ⟨B, k * 15 + 9, none⟩ = some (.int .u8 (x4 : Int)) := hcw 9 _ rfl
      have e10 : wr.cell? ⟨B, k * 15 + 10, none⟩ = some (.int .u8 (x5 : Int)) := hcw 10 _ rfl
      have e11 : wr.cell? ⟨B, k * 15 + 11, none⟩ = some (.int .u8 (x6 : Int)) := hcw 11 _ rfl
      have e12 : wr.cell? ⟨B, k * 15 + 12, none⟩ = some (.int .u8 (x7 : Int)) := hcw 12 _ rfl
      have e13 : wr.cell? ⟨B, k * 15 + 13, none⟩ = some (.bool once) := hcw 13 _ rfl
      have e14 : wr.cell? ⟨B, k * 15 + 14, none⟩ = some (.int .i64 tag) := hcw 14 _ rfl
      clear hcw
      go_wp2_with fail
      refine HK.out.mono ?_
      rintro y w1 ⟨rfl, hb⟩
      have HB1 := Lib.hid (below_transG HB.out hb)
      clear hb e0 e1 e2 e3 e4 e5 e6 e7 e8 e9 e10 e11 e12 e13 e14
      cases v
      · go_wp2_with fail
        go_roundw
        case rel => exact ⟨k + 1, by simp, by omega, fun j h => by
          by_cases hjk : j < k
          · exact HNO.out j hjk
          · obtain rfl : j = k := by omega
            rw [← HBB.out]; exact HVV.out.symm, HB1.out⟩
        case measure => simp [intOf]; omega
      · have HE := Lib.hid (show V = (k : Int) by
          rw [HV.out]
          exact firstI_at hlt (by rw [← HBB.out]; exact HVV.out.symm) HNO.out)
        go_wp2_with fail
        go_ret
        exact ⟨by rw [HE.out]; rfl, HB1.out⟩
    · obtain rfl : k = m := by omega
      have HE := Lib.hid (show V = -1 by rw [HV.out]; exact firstI_none HNO.out)
      go_wp2_with fail
      go_ret
      exact ⟨by rw [HE.out]; rfl, HB.out⟩
set_option maxHeartbeats 4000000 in
theorem ixt_any (L : List BD) (B : Nat) (m : Nat) (hm : m ≤ L.length) (hm8 : m ≤ 8) (tg : Int) (T : Nat) (w : World) (hR : Rd w 15 (.slice (some ⟨B, 0, none⟩) m 8) ((L.take m).flatMap BD.C)) (c : w.cell? ⟨T, 0, none⟩ = some (.int .i64 tg)) :
    Calls Try.prog 22 #[.slice (some ⟨B, 0, none⟩) m 8, .func (.func 26) #[] #[.pointer (some ⟨T, 0, none⟩)]] w fun y w' => y = .returned (.int .i64 (firstI (fun j => (tagB tg) (bxAt L j)) m)) ∧ Below w.heap.size w w' := by
  have HC := Lib.hid (show ∀ b u, Below w.heap.size w u → Calls Try.prog 26 (#[BD.V b] ++ #[.pointer (some ⟨T, 0, none⟩)]) u fun y w' => y = .returned (.bool ((tagB tg) b)) ∧ Below u.heap.size u w' from fun b u hu => find1_any b tg T u ((hu.cell (p := ⟨T, 0, none⟩) (cell_ltG c)).trans c))
  have HR := Lib.hid (fun j (hj : j < m) => rd_bx hR hm hj)
  obtain ⟨V, hV⟩ : ∃ V, V = firstI (fun j => (tagB tg) (bxAt L j)) m := ⟨_, rfl⟩
  have HV := Lib.hid hV
  rw [← hV]
  have HM := Lib.hid hm
  clear hR hV hm c
  go_enter Try.func22, Try.ntmps22
  go_wp2_with fail
  go_loopw [8] (fun i wr => ∃ k : Nat, i = .int .i64 (k : Int) ∧ k ≤ m ∧ (∀ j, j < k → (tagB tg) (bxAt L j) = false) ∧ Below w.heap.size w wr) (fun i _ => m - (intOf i).toNat)
  case atStart => exact ⟨0, rfl, by omega, fun j h => by omega, Below.refl _ _⟩
  case round =>
    obtain ⟨k, rfl, hk, hno, hB⟩ := hrel
    have HB := Lib.hid hB; have HNO := Lib.hid hno
    clear hB hno
    by_cases hlt : k < m
    · have i1 : (k : Int) < (m : Int) := by omega
      have i2 : (0 : Int) ≤ (k : Int) := by omega
      obtain ⟨hBl, hcell⟩ := HR.out k hlt
      obtain ⟨b, hb⟩ : ∃ b, b = bxAt L k := ⟨_, rfl⟩
      rw [← hb] at hcell
      have HBB := Lib.hid hb
      have hcw : ∀ i u, b.C[i]? = some u → wr.cell? ⟨B, k * 15 + i, none⟩ = some u := fun i u h => (HB.out.cell (p := ⟨B, k * 15 + i, none⟩) hBl).trans (hcell i u h)
      have HK := Lib.hid (HC.out b wr HB.out)
      obtain ⟨v, hv⟩ : ∃ v, v = (tagB tg) b := ⟨_, rfl⟩
      rw [← hv] at HK
      have HVV := Lib.hid hv
      clear hb hv hcell
      obtain ⟨full, ⟨e, n, q, l, x0, x1, x2, x3, x4, x5, x6, x7, once, tag⟩⟩ := b
      unfold BD.V at HK
      simp only at HK
      have e0 : wr.cell? ⟨B, k * 15, none⟩ = some (.bool full) := hcw 0 _ rfl
      have e1 : wr.cell? ⟨B, k * 15 + 1, none⟩ = some (.bool e) := hcw 1 _ rfl
      have e2 : wr.cell? ⟨B, k * 15 + 2, none⟩ = some (.int .u32 (n : Int)) := hcw 2 _ rfl
      have e3 : wr.cell? ⟨B, k * 15 + 3, none⟩ = some (.bool q) := hcw 3 _ rfl
      have e4 : wr.cell? ⟨B, k * 15 + 4, none⟩ = some (.int .i64 l) := hcw 4 _ rfl
      have e5 : wr.cell? ⟨B, k * 15 + 5, none⟩ = some (.int .u8 (x0 : Int)) := hcw 5 _ rfl
      have e6 : wr.cell? ⟨B, k * 15 + 6, none⟩ = some (.int .u8 (x1 : Int)) := hcw 6 _ rfl
      have e7 : wr.cell? ⟨B, k * 15 + 7, none⟩ = some (.int .u8 (x2 : Int)) := hcw 7 _ rfl
      have e8 : wr.cell? ⟨B, k * 15 + 8, none⟩ = some (.int .u8 (x3 : Int)) := hcw 8 _ rfl
      have e9 : wr.cell? ⟨B, k * 15 + 9, none⟩ = some (.int .u8 (x4 : Int)) := hcw 9 _ rfl
      have e10 : wr.cell? ⟨B, k * 15 + 10, none⟩ = some (.int .u8 (x5 : Int)) := hcw 10 _ rfl
      have e11 : wr.cell? ⟨B, k * 15 + 11, none⟩ = some (.int .u8 (x6 : Int)) := hcw 11 _ rfl
      have e12 : wr.cell? ⟨B, k * 15 + 12, none⟩ = some (.int .u8 (x7 : Int)) := hcw 12 _ rfl
      have e13 : wr.cell? ⟨B, k * 15 + 13, none⟩ = some (.bool once) := hcw 13 _ rfl
      have e14 : wr.cell? ⟨B, k * 15 + 14, none⟩ = some (.int .i64 tag) := hcw 14 _ rfl
      clear hcw
      go_wp2_with fail
      refine HK.out.mono ?_
      rintro y w1 ⟨rfl, hb⟩
      have HB1 := Lib.hid (below_transG HB.out hb)
      clear hb e0 e1 e2 e3 e4 e5 e6 e7 e8 e9 e10 e11 e12 e13 e14
      cases v
      · go_wp2_with fail
        go_roundw
        case rel => exact ⟨k + 1, by simp, by omega, fun j h => by
          by_cases hjk : j < k
          · exact HNO.out j hjk
          · obtain rfl : j = k := by omega
            rw [← HBB.out]; exact HVV.out.symm, HB1.out⟩
        case measure => simp [intOf]; omega
      · have HE := Lib.hid (show V = (k : Int) by
          rw [HV.out]
          exact firstI_at hlt (by rw [← HBB.out]; exact HVV.out.symm) HNO.out)
        go_wp2_with fail
        go_ret
        exact ⟨by rw [HE.out]; rfl, HB1.out⟩
    · obtain rfl : k = m := by omega
      have HE := Lib.hid (show V = -1 by rw [HV.out]; exact firstI_none HNO.out)
      go_wp2_with fail
      go_ret
      exact ⟨by rw [HE.out]; rfl, HB.out⟩
/-- The place of a tag, or -1. -/
def findF (L : List BD) (room : Nat) (tg : Int) : Int := firstI (fun j => tagB tg (bxAt L j)) room
theorem find_any (B : Nat) (L : List BD) (room : Nat) (tg : Int) (w : World) (h : BxA w B L room) : Calls Try.prog 10 #[.pointer (some ⟨B, 0, none⟩), .int .i64 tg] w fun y w' => y = .returned (.int .i64 (findF L room tg)) ∧ Below w.heap.size w w' := by
  obtain ⟨W0, hW0⟩ : ∃ W0, W0 = w.alloc (.cells #[.int .i64 tg] 3) := ⟨_, rfl⟩
  have hb0 : Below w.heap.size w W0 := by rw [hW0]; exact (Below.refl _ w).alloc (Nat.le_refl _) _
  have k0 : W0.cell? ⟨w.heap.size, 0, none⟩ = some (.int .i64 tg) := by rw [hW0]; simp
  have h0 := h.on hb0
  obtain ⟨D, hD⟩ : ∃ D, D = w.heap.size := ⟨_, rfl⟩
  rw [← hD] at k0
  have HA := Lib.hid (all_any B L room W0 h0)
  have HI := Lib.hid (show ∀ u, Below W0.heap.size W0 u → Calls Try.prog 22 #[.slice (some ⟨B, 0, none⟩) room 8, .func (.func 26) #[] #[.pointer (some ⟨D, 0, none⟩)]] u fun y w' => y = .returned (.int .i64 (findF L room tg)) ∧ Below u.heap.size u w' from fun u hu => ixt_any L B room (by rw [h.eight]; exact h.r8) h.r8 tg D u (h0.on hu).rd ((hu.cell (p := ⟨D, 0, none⟩) (cell_ltG k0)).trans k0))
  have HB0 := Lib.hid hb0
  clear h h0 hb0 k0
  go_enter Try.func10, Try.ntmps10
  go_upto_region 1 with fail
  rw [← hW0, ← hD]
  clear hW0 hD
  go_wp2_with fail
  refine HA.out.mono ?_
  rintro y w1 ⟨rfl, hb⟩
  have HB1 := Lib.hid hb
  clear hb
  go_wp2_with fail
  refine (HI.out _ HB1.out).mono ?_
  rintro y w2 ⟨rfl, hb⟩
  have HB2 := Lib.hid (HB0.out.trans ((below_transG HB1.out hb).mono HB0.out.size))
  clear hb
  go_wp2_with fail
  go_ret
  exact ⟨rfl, HB2.out⟩
end Go.Proofs.Ytbdockeopbfliaa
