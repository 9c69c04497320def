/- The document's own boxes: posts in one block, and which of them are there in another; a new one, a place, how many. Conditions: there are at most eight. -/
import Derived.Test.YtbdockeopbfliaaBxd
namespace Go.Proofs.Ytbdockeopbfliaa
open Go.RowKit
theorem PD.len (p : PD) : p.C.length = 14 := rfl
def rpC (L : List BD) : List Value := L.flatMap fun b => b.p.C
def rhC (L : List BD) : List Value := L.map fun b => Value.bool b.full
theorem rpC_len (L : List BD) : (rpC L).length = L.length * 14 := flat_len 14 (fun b : BD => b.p.C) (fun b => PD.len b.p) L
theorem rhC_len (L : List BD) : (rhC L).length = L.length := by simp [rhC]
/-- The document's boxes in memory: the block itself, its posts, and which of them are there. -/
structure RB (W : World) (B P H : Nat) (L : List BD) (room : Nat) : Prop where
  blk : Blk W B 51 [.slice (some ⟨P, 0, none⟩) room room, .slice (some ⟨H, 0, none⟩) room room]
  posts : Blk W P 39 (rpC (L.take room))
  has : Blk W H 4 (rhC (L.take room))
  eight : L.length = 8
  r1 : 1 ≤ room
  r8 : room ≤ 8
  bp : B ≠ P
  bh : B ≠ H
  ph : P ≠ H
theorem RB.on {W X : World} {B P H : Nat} {L : List BD} {room : Nat} (h : RB W B P H L room) (hb : Below W.heap.size W X) : RB X B P H L room := ⟨h.blk.keep hb h.blk.lt, h.posts.keep hb h.posts.lt, h.has.keep hb h.has.lt, h.eight, h.r1, h.r8, h.bp, h.bh, h.ph⟩
theorem RB.c0 {W : World} {B P H : Nat} {L : List BD} {room : Nat} (h : RB W B P H L room) : W.cell? ⟨B, 0, none⟩ = some (.slice (some ⟨P, 0, none⟩) room room) := h.blk.cellAt (i := 0) (by simp)
theorem RB.c1 {W : World} {B P H : Nat} {L : List BD} {room : Nat} (h : RB W B P H L room) : W.cell? ⟨B, 1, none⟩ = some (.slice (some ⟨H, 0, none⟩) room room) := h.blk.cellAt (i := 1) (by simp)
theorem RB.tl {W : World} {B P H : Nat} {L : List BD} {room : Nat} (h : RB W B P H L room) : (L.take room).length = room := by rw [List.length_take, h.eight]; have := h.r8; omega
theorem RB.at {W : World} {B P H : Nat} {L : List BD} {room : Nat} (h : RB W B P H L room) {j : Nat} (hj : j < room) : bxAt L j = (L.take room)[j]'(by rw [h.tl]; exact hj) := by
  unfold bxAt
  rw [List.getElem_take, List.getElem?_eq_getElem (by rw [h.eight]; have := h.r8; omega)]
  rfl
theorem RB.full {W : World} {B P H : Nat} {L : List BD} {room : Nat} (h : RB W B P H L room) {j : Nat} (hj : j < room) : W.cell? ⟨H, j, none⟩ = some (.bool (bxAt L j).full) := by
  rw [h.has.cellAt (i := j) (by rw [rhC_len, h.tl]; exact hj), h.at hj]
  simp [rhC]
theorem RB.post {W : World} {B P H : Nat} {L : List BD} {room : Nat} (h : RB W B P H L room) {j : Nat} (hj : j < room) {i : Nat} {u : Value} (hi : (bxAt L j).p.C[i]? = some u) : W.cell? ⟨P, j * 14 + i, none⟩ = some u := by
  have hl : i < 14 := (List.getElem?_eq_some_iff.1 hi).1
  have hlt : j * 14 + i < (rpC (L.take room)).length := by rw [rpC_len, h.tl]; omega
  rw [h.posts.cellAt hlt]
  have e := flat_at 14 (fun b : BD => b.p.C) (fun b => PD.len b.p) (L.take room) j i (by rw [h.tl]; exact hj) hl
  rw [h.at hj] at hi
  have h3 : (rpC (L.take room))[j * 14 + i]? = some u := e.trans hi
  rw [List.getElem?_eq_getElem hlt] at h3
  exact h3
set_option maxHeartbeats 4000000 in
theorem rbfind_any (B P H : Nat) (L : List BD) (m : Nat) (tg : Int) (w : World) (h : RB w B P H L m) : Calls Try.prog 20 #[.pointer (some ⟨B, 0, none⟩), .int .i64 tg] w fun y w' => y = .returned (.int .i64 (findF L m tg)) ∧ Below w.heap.size w w' := by
  obtain ⟨V, hV⟩ : ∃ V, V = findF L m tg := ⟨_, rfl⟩
  have HV := Lib.hid hV
  rw [← hV]
  have HR := Lib.hid (fun u (hu : Below w.heap.size w u) => h.on hu)
  have hm8 := h.r8
  clear h hV
  go_enter Try.func20, Try.ntmps20
  go_wp2_with fail
  go_loopw [5] (fun i wr => ∃ k : Nat, i = .int .i64 (k : Int) ∧ k ≤ m ∧ (∀ j, j < k → tagB tg (bxAt L j) = false) ∧ Below w.heap.size w wr) (fun i _ => m - (intOf i).toNat)
  case atStart => exact ⟨0, rfl, by omega, fun j h => by omega, Below.refl _ _⟩
  case round =>
    obtain ⟨k, rfl, hk, hno, hB⟩ := hrel
    have HB := Lib.hid hB; have HNO := Lib.hid hno
    have g0 := (HR.out wr hB).c0
    have g1 := (HR.out wr hB).c1
    have HF := Lib.hid (fun (hk : k < m) => (HR.out wr hB).full (j := k) hk)
    have HT := Lib.hid (fun (hk : k < m) => (HR.out wr hB).post (j := k) hk (i := 13) rfl)
    clear hB hno
    by_cases hlt : k < m
    · have i1 : (k : Int) < (m : Int) := by omega
      have i2 : (0 : Int) ≤ (k : Int) := by omega
      have g2 := HF.out hlt
      have g3 := HT.out hlt
      obtain ⟨f, hf⟩ : ∃ f, f = (bxAt L k).full := ⟨_, rfl⟩
      obtain ⟨t, ht⟩ : ∃ t, t = (bxAt L k).p.tag := ⟨_, rfl⟩
      rw [← hf] at g2
      rw [← ht] at g3
      obtain ⟨z, hz⟩ : ∃ z, z = (t == tg) := ⟨_, rfl⟩
      have i3 : (t == tg) = z := hz.symm
      have HVV := Lib.hid (show tagB tg (bxAt L k) = (f && z) by rw [hz, hf, ht]; rfl)
      clear hz hf ht
      cases f <;> cases z
      · go_wp2_with fail
        all_goals (go_roundw)
        case rel => exact ⟨k + 1, by simp, by omega, fun j h => by
          by_cases hjk : j < k
          · exact HNO.out j hjk
          · obtain rfl : j = k := by omega
            exact HVV.out, HB.out⟩
        case measure => simp [intOf]; omega
      · go_wp2_with fail
        all_goals (go_roundw)
        case rel => exact ⟨k + 1, by simp, by omega, fun j h => by
          by_cases hjk : j < k
          · exact HNO.out j hjk
          · obtain rfl : j = k := by omega
            exact HVV.out, HB.out⟩
        case measure => simp [intOf]; omega
      · go_wp2_with fail
        all_goals (go_roundw)
        case rel => exact ⟨k + 1, by simp, by omega, fun j h => by
          by_cases hjk : j < k
          · exact HNO.out j hjk
          · obtain rfl : j = k := by omega
            exact HVV.out, HB.out⟩
        case measure => simp [intOf]; omega
      · have HE := Lib.hid (show V = (k : Int) by
          rw [HV.out]
          exact firstI_at hlt HVV.out HNO.out)
        go_wp2_with fail
        go_ret
        exact ⟨by rw [HE.out]; rfl, HB.out⟩
    · obtain rfl : k = m := by omega
      have HE := Lib.hid (show V = -1 by rw [HV.out]; exact firstI_none HNO.out)
      go_wp2_with fail
      go_ret
      exact ⟨by rw [HE.out]; rfl, HB.out⟩
set_option maxHeartbeats 4000000 in
theorem rblen_any (B P H : Nat) (L : List BD) (m : Nat) (w : World) (h : RB w B P H L m) : Calls Try.prog 19 #[.pointer (some ⟨B, 0, none⟩)] w fun y w' => y = .returned (.int .i64 (lenF L m : Int)) ∧ Below w.heap.size w w' := by
  have HR := Lib.hid (fun u (hu : Below w.heap.size w u) => h.on hu)
  have hm8 := h.r8
  clear h
  go_enter Try.func19, Try.ntmps19
  go_wp2_with fail
  go_loopw [3, 4] (fun s3 s4 wr => ∃ k : Nat, s4 = .int .i64 (k : Int) ∧ k ≤ m ∧ s3 = .int .i64 (lenF L k : Int) ∧ Below w.heap.size w wr) (fun _ s4 _ => m - (intOf s4).toNat)
  case atStart => exact ⟨0, rfl, by omega, rfl, Below.refl _ _⟩
  case round =>
    obtain ⟨k, rfl, hk, rfl, hB⟩ := hrel
    have HB := Lib.hid hB
    have g0 := (HR.out wr hB).c0
    have g1 := (HR.out wr hB).c1
    have HF := Lib.hid (fun (hk : k < m) => (HR.out wr hB).full (j := k) hk)
    clear hB
    by_cases hlt : k < m
    · have i1 : (k : Int) < (m : Int) := by omega
      have i2 : (0 : Int) ≤ (k : Int) := by omega
      have g2 := HF.out hlt
      have HLS := Lib.hid (show lenF L (k + 1) = lenF L k + if (bxAt L k).full = true then 1 else 0 from rfl)
      have hle := lenF_le L k
      obtain ⟨f, hf⟩ : ∃ f, f = (bxAt L k).full := ⟨_, rfl⟩
      rw [← hf] at g2 HLS
      obtain ⟨c, hc⟩ : ∃ c, c = lenF L k := ⟨_, rfl⟩
      rw [← hc] at HLS hle ⊢
      have q1 : IntKind.i64.wrap ((c : Int) + 1) = (c : Int) + 1 := by rw [IntKind.wrap_i64]; omega
      clear hf hc
      cases f
      · have HE := Lib.hid (show lenF L (k + 1) = c by rw [HLS.out]; simp)
        go_wp2_with fail
        go_roundw
        case rel => exact ⟨k + 1, by simp, by omega, by rw [HE.out], HB.out⟩
        case measure => simp [intOf]; omega
      · have HE := Lib.hid (show lenF L (k + 1) = c + 1 by rw [HLS.out]; simp)
        go_wp2_with fail
        go_roundw
        case rel => exact ⟨k + 1, by simp, by omega, by rw [HE.out]; simp, HB.out⟩
        case measure => simp [intOf]; omega
    · obtain rfl : k = m := by omega
      go_wp2_with fail
      go_ret
      exact ⟨rfl, HB.out⟩
def nearF (i n : Int) : Int := if i < 0 ∨ n < 1 ∨ i % 9 = 8 then i else i % n
theorem near_any (i n : Int) (hn : 1 ≤ n) (w : World) : Calls Try.prog 12 #[.int .i64 i, .int .i64 n] w fun y w' => y = .returned (.int .i64 (nearF i n)) ∧ w = w' := by
  have n1 : ¬ n < 1 := by omega
  have n0 : n ≠ 0 := by omega
  obtain ⟨V, hV⟩ : ∃ V, V = nearF i n := ⟨_, rfl⟩
  have HV := Lib.hid hV
  rw [← hV]
  clear hV
  by_cases i1 : i < 0
  · have HE := Lib.hid (show V = i by rw [HV.out]; exact if_pos (.inl i1))
    go_enter Try.func12, Try.ntmps12
    go_wp2_with fail
    go_ret
    exact ⟨by rw [HE.out]; rfl, rfl⟩
  · have i2 : 0 ≤ i := by omega
    by_cases i3 : i % 9 = 8
    · have HE := Lib.hid (show V = i by rw [HV.out]; exact if_pos (.inr (.inr i3)))
      go_enter Try.func12, Try.ntmps12
      go_wp2_with fail
      go_ret
      exact ⟨by rw [HE.out]; rfl, rfl⟩
    · have HE := Lib.hid (show V = i % n by rw [HV.out]; exact if_neg (by omega))
      go_enter Try.func12, Try.ntmps12
      go_wp2_with fail
      go_ret
      exact ⟨by rw [HE.out]; rfl, rfl⟩
theorem rbnew_no (room : Int) (h : ¬ (1 ≤ room ∧ room ≤ 8)) (w : World) : Calls Try.prog 5 #[.int .i64 room] w fun y w' => y = .returned (.tuple #[.pointer none, .int .i64 1]) ∧ w = w' := by
  by_cases i1 : room < 1
  · go_enter Try.func5, Try.ntmps5
    go_wp2_with fail
    exact bodyPost_ret (v := .tuple #[.pointer none, .int .i64 1]) (by simp [results, Try.results5, go_sem]) rfl ⟨rfl, rfl⟩
  · have i2 : (8 : Int) < room := by omega
    go_enter Try.func5, Try.ntmps5
    go_wp2_with fail
    exact bodyPost_ret (v := .tuple #[.pointer none, .int .i64 1]) (by simp [results, Try.results5, go_sem]) rfl ⟨rfl, rfl⟩
end Go.Proofs.Ytbdockeopbfliaa
