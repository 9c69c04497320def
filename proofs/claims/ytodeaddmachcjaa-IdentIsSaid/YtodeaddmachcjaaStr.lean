/- Strings of bits in memory; what bit and places of package strand do: places yields each bit with its place. Conditions: the bytes are bytes, and there are at most so many as memory holds. -/
import Derived.Test.YtodeaddmachcjaaRows
import Derived.RangeFuncNested
import Derived.RangeFuncBound
import Derived.RangeFuncCalls
import Derived.RangeFuncLeaves
import Derived.RangeFuncBox
import Derived.Shelf.Abstract
import Derived.WalkKit
import Derived.OwnWalkIn
import Derived.TacticsInMore
import Derived.LoopNIn
import Derived.LoopIn
import Derived.Deep.OwnRows
import Derived.Lib.Hide
namespace Go.Proofs.Ytodeaddmachcjaa
open Go.RowKit Go.Shelf
attribute [local go_sem] Oper.semAt_some

/-- 1, if it is not 0. -/
def bitN (x : Nat) : Nat := if x = 0 then 0 else 1
theorem bitN_le (x : Nat) : bitN x ≤ 1 := by unfold bitN; split <;> omega
theorem bitN_zero : bitN 0 = 0 := rfl
theorem bitN_pos {x : Nat} (h : x ≠ 0) : bitN x = 1 := if_neg h
theorem ret_u8 {a b : Int} (h : a = b) : Ending.returned (.int .u8 a) = Ending.returned (.int .u8 b) := by rw [h]
theorem bit_any (x : Nat) (w : World) : Calls Try.prog 38 #[.int .u8 x] w fun e w' => e = .returned (.int .u8 (bitN x : Nat)) ∧ w = w' := by
  by_cases h : x = 0
  · subst h
    rw [bitN_zero]
    go_enter Try.func38, Try.ntmps38
    go_wp2
    go_ret
    exact ⟨rfl, rfl⟩
  · rw [bitN_pos h]
    have hx : ((x : Int) == 0) = false := by simp; omega
    clear h
    go_enter Try.func38, Try.ntmps38
    go_wp2
    go_ret
    exact ⟨rfl, rfl⟩
/-- The slice value sv holds the bytes bs, in a block below n₀; or it is empty, wherever it leads, and there are none. -/
def Str (n₀ : Nat) (W : World) (sv : Value) (bs : List Nat) : Prop :=
  (∃ a cap, sv = .slice a 0 cap ∧ cap ≤ 9223372036854775807 ∧ bs = []) ∨ ∃ b off cap, sv = .slice (some ⟨b, off, none⟩) bs.length cap ∧ bs.length ≤ cap ∧ cap ≤ 9223372036854775807 ∧ b < n₀ ∧ ∀ j, j < bs.length → W.cell? ⟨b, off + j, none⟩ = some (.int .u8 ((bs[j]?.getD 0 : Nat) : Int))
theorem Str.below {n₀ : Nat} {A B : World} (h : Below n₀ A B) {sv : Value} {bs : List Nat} : Str n₀ A sv bs → Str n₀ B sv bs
  | .inl e => .inl e
  | .inr ⟨b, off, cap, e, h1, h2, hb, hc⟩ => .inr ⟨b, off, cap, e, h1, h2, hb, fun j hj => (h.cell (p := ⟨b, off + j, none⟩) hb).trans (hc j hj)⟩
theorem Str.mono {n₀ n₁ : Nat} (h : n₀ ≤ n₁) {A : World} {sv : Value} {bs : List Nat} : Str n₀ A sv bs → Str n₁ A sv bs
  | .inl e => .inl e
  | .inr ⟨b, off, cap, e, h1, h2, hb, hc⟩ => .inr ⟨b, off, cap, e, h1, h2, Nat.lt_of_lt_of_le hb h, hc⟩
theorem Str.len {n₀ len cap : Nat} {a : Option Addr} {W : World} {bs : List Nat} (h : Str n₀ W (.slice a len cap) bs) : len = bs.length := by
  rcases h with ⟨a', cap', e, _, rfl⟩ | ⟨b, off, cap', e, _⟩
  · injection e with _ e2 _
  · injection e with _ e2 _
theorem Str.capLe {n₀ len cap : Nat} {a : Option Addr} {W : World} {bs : List Nat} (h : Str n₀ W (.slice a len cap) bs) : cap ≤ 9223372036854775807 := by
  rcases h with ⟨a', cap', e, h1, rfl⟩ | ⟨b, off, cap', e, _, h1, _⟩
  · injection e with _ _ e3; omega
  · injection e with _ _ e3; omega
theorem Str.lenCap {n₀ len cap : Nat} {a : Option Addr} {W : World} {bs : List Nat} (h : Str n₀ W (.slice a len cap) bs) : bs.length ≤ cap := by
  rcases h with ⟨a', cap', e, h1, rfl⟩ | ⟨b, off, cap', e, h1, _⟩
  · exact Nat.zero_le _
  · injection e with _ _ e3; omega
theorem Str.take {n₀ len cap k : Nat} {a : Option Addr} {W : World} {bs : List Nat} (h : Str n₀ W (.slice a len cap) bs) (hk : k ≤ bs.length) : Str n₀ W (.slice a k cap) (bs.take k) := by
  have hl : (bs.take k).length = k := by rw [List.length_take, Nat.min_eq_left hk]
  rcases h with ⟨a', cap', e, h1, rfl⟩ | ⟨b, off, cap', e, h1, h2, hb, hc⟩
  · obtain rfl : k = 0 := by simpa using hk
    exact .inl ⟨a, cap, rfl, by injection e with _ _ e3; omega, rfl⟩
  · injection e with e1 e2 e3
    subst e1 e3
    refine .inr ⟨b, off, cap, by rw [hl], by omega, h2, hb, fun j hj => ?_⟩
    rw [hl] at hj
    rw [hc j (by omega), List.getElem?_take_of_lt hj]
theorem rowIs_kept {A B : World} {b n : Nat} {t : TypeId} {f : Nat → Value} {row : Option Nat} (h : A.rowIs b t n f) (hg : A.grownBy B row) (hr : ∀ r, row = some r → ∃ o : Obj, A.heap[r]? = some o ∧ o.isCells = false) : B.rowIs b t n f := by
  refine h.of_block (hg.block b h.lt (fun e => ?_))
  obtain ⟨c, hb, _⟩ := h
  obtain ⟨o, ho, hc⟩ := hr b e.symm
  rw [hb] at ho
  cases ho
  cases hc
/-- The bit at a place. -/
def bitAt (bs : List Nat) (j : Nat) : Nat := bitN (bs[j]?.getD 0)
theorem bitAt_le (bs : List Nat) (j : Nat) : bitAt bs j ≤ 1 := bitN_le _
/-- The places that have come when k rounds are over. -/
def Came {n : Nat} (pre : List (Fin n)) (k : Nat) : Prop := pre.map Fin.val = List.range k
theorem Came.snoc {n k : Nat} {pre : List (Fin n)} (h : Came pre k) (hk : k < n) : Came (pre ++ [⟨k, hk⟩]) (k + 1) := by
  unfold Came at *
  rw [List.map_append, h, List.range_succ]; rfl
theorem Came.length {n k : Nat} {pre : List (Fin n)} (h : Came pre k) : pre.length = k := by
  have := congrArg List.length h
  simpa using this
set_option maxRecDepth 100000 in
set_option maxHeartbeats 2000000 in
theorem places1_in (n : Nat) (hn : 1 ≤ n) (l Bs n₀ b off cap : Nat) (bs : List Nat) (hreach : bs.length ≤ 9223372036854775807) (hb : b < n₀) (J Jx : List (Fin bs.length) → World → Prop)
    (hY : ∀ pre x W, J pre W → pre.length < bs.length → YieldAt Fence.wide (n - 1) Try.prog l #[.int .i64 (x.1 : Nat), .int .u8 (bitAt bs x.1 : Nat)] W fun e W' =>
      (e = .returned (.bool true) ∧ J (pre ++ [x]) W' ∧ Below n₀ W W') ∨ (e = .returned (.bool false) ∧ Jx (pre ++ [x]) W'))
    (W : World) (hBs : W.cell? ⟨Bs, 0, none⟩ = some (.slice (some ⟨b, off, none⟩) bs.length cap)) (hc : ∀ j, j < bs.length → W.cell? ⟨b, off + j, none⟩ = some (.int .u8 ((bs[j]?.getD 0 : Nat) : Int))) (h0 : J [] W) :
    CallsIn Fence.wide n Try.prog 37 #[.func (.yield l) #[] #[], .pointer (some ⟨Bs, 0, none⟩)] W fun e W' => (∃ v, e = .returned v) ∧
      ((∃ ys, Came ys bs.length ∧ J ys W') ∨ (∃ pre, (∃ k, k ≤ bs.length ∧ Came pre k) ∧ Jx pre W')) := by
  refine callsIn_of_wp Try.func37 rfl trivial ?_ rfl
  simp only [Try.ntmps37, List.size_toArray, List.length_cons, List.length_nil, Nat.reduceAdd, Nat.reduceSub, Array.replicate_succ, Array.replicate_zero, List.push_toArray, List.append_toArray, List.nil_append, List.cons_append]
  gi_wp2
  gi_loopw [7] (fun i wr => ∃ (k : Nat) (pre : List (Fin bs.length)), k ≤ bs.length ∧ i = .int .i64 k ∧ Came pre k ∧ J pre wr ∧ Below n₀ W wr)
    (fun i _ => bs.length - (intOf i).toNat)
  case atStart => exact ⟨0, [], Nat.zero_le _, rfl, rfl, h0, Below.refl _ _⟩
  case round =>
    obtain ⟨k, pre, hk, rfl, hpre, hJs, hnx⟩ := hrel
    have HPRE := Lib.hid hpre; clear hpre
    by_cases hlt : k < bs.length
    · have hcx' : wr.cell? ⟨b, off + k, none⟩ = some (.int .u8 ((bs[k]?.getD 0 : Nat) : Int)) := (hnx.cell (p := ⟨b, off + k, none⟩) hb).trans (hc k hlt)
      obtain ⟨fn, tmps, assign, body, hy, hR⟩ := hY _ ⟨k, hlt⟩ wr hJs (by rw [HPRE.out.length]; exact hlt)
      unfold bitAt at hy
      dsimp only at hy
      obtain ⟨x, hx⟩ : ∃ x, x = bs[k]?.getD 0 := ⟨_, rfl⟩
      rw [← hx] at hcx' hy
      clear hx
      gi_wp2_with (refine ⟨trivial, ?_⟩; gi_at_call 38; refine (callsIn_wide.2 (bit_any x _)).mono ?_; rintro e w' ⟨rfl, rfl⟩)
      refine hR.mono ?_
      rintro e W3 (⟨rfl, hJ3, hk3⟩ | ⟨rfl, hJx3⟩)
      · gi_wp2
        go_roundw
        case rel => exact ⟨k + 1, _, by omega, by simp, HPRE.out.snoc hlt, hJ3, hnx.trans hk3⟩
        case measure => simp [intOf]; omega
      · gi_wp2
        refine bodyPost_ret (results_none rfl _ _ _) rfl ?_
        exact ⟨⟨_, rfl⟩, .inr ⟨_, ⟨k + 1, by omega, HPRE.out.snoc hlt⟩, hJx3⟩⟩
    · obtain rfl : k = bs.length := by omega
      gi_wp2
      go_end0
      exact ⟨⟨_, rfl⟩, .inl ⟨_, HPRE.out, hJs⟩⟩
set_option maxRecDepth 100000 in
set_option maxHeartbeats 1000000 in
theorem places1_nil_in (n l Bs : Nat) (a : Option Addr) (cap : Nat) {bs : List Nat} (J : List (Fin bs.length) → World → Prop) (W : World) (hBs : W.cell? ⟨Bs, 0, none⟩ = some (.slice a 0 cap)) (h0 : J [] W) :
    CallsIn Fence.wide n Try.prog 37 #[.func (.yield l) #[] #[], .pointer (some ⟨Bs, 0, none⟩)] W fun e W' => (∃ v, e = .returned v) ∧ J [] W' := by
  refine callsIn_of_wp Try.func37 rfl trivial ?_ rfl
  simp only [Try.ntmps37, List.size_toArray, List.length_cons, List.length_nil, Nat.reduceAdd, Nat.reduceSub, Array.replicate_succ, Array.replicate_zero, List.push_toArray, List.append_toArray, List.nil_append, List.cons_append]
  gi_wp2
  gi_loopw [7] (fun i wr => i = .int .i64 0 ∧ J [] wr) (fun _ _ => 0)
  case atStart => exact ⟨rfl, h0⟩
  case round =>
    obtain ⟨rfl, hJs⟩ := hrel
    gi_wp2
    go_end0
    exact ⟨⟨_, rfl⟩, hJs⟩
set_option maxHeartbeats 1000000 in
theorem places_in (n : Nat) (a : Option Addr) (len cap : Nat) (w : World) :
    CallsIn Fence.wide n Try.prog 35 #[.slice a len cap] w fun e w' => e = .returned (.func (.func 37) #[] #[.pointer (some ⟨w.heap.size, 0, none⟩)]) ∧ w.alloc (.cells #[.slice a len cap] 32) = w' := by
  refine callsIn_of_wp Try.func35 rfl trivial ?_ rfl
  simp only [Try.ntmps35, List.size_toArray, List.length_cons, List.length_nil, Nat.reduceAdd, Nat.reduceSub, Array.replicate_succ, Array.replicate_zero, List.push_toArray, List.append_toArray, List.nil_append, List.cons_append]
  gi_wp2
  go_ret
  exact ⟨rfl, rfl⟩
theorem places_stops (n : Nat) (hn : 1 ≤ n) (Bs n₀ : Nat) (sv : Value) (bs : List Nat) (hreach : bs.length ≤ 9223372036854775807) (w : World) (hBs : Bs < w.heap.size) (hn₀ : n₀ ≤ w.heap.size)
    (hc : w.cell? ⟨Bs, 0, none⟩ = some sv) (hI : Str n₀ w sv bs) :
    SeqStopsK Fence.wide n Try.prog 37 #[.pointer (some ⟨Bs, 0, none⟩)] (fun x : Fin bs.length => #[Value.int .i64 (x.1 : Nat), Value.int .u8 (bitAt bs x.1 : Nat)]) (Below n₀) (fun ys => Came ys bs.length)
      (fun pre => ∃ k, k ≤ bs.length ∧ Came pre k) bs.length w := fun l J Jx W hW _ _ hY h0 => by
  have hc' := (hW.cell (p := ⟨Bs, 0, none⟩) hBs).trans hc
  rcases hI.below (hW.mono hn₀) with ⟨a, cap, rfl, _, rfl⟩ | ⟨b, off, cap, rfl, _, _, hb, hcs⟩
  · exact (places1_nil_in n l Bs a cap J W hc' h0).mono fun e W' ⟨he, hj⟩ => ⟨he, .inl ⟨[], (rfl : Came [] 0), hj⟩⟩
  · exact places1_in n hn l Bs n₀ b off cap bs hreach hb J Jx hY W hc' hcs h0
end Go.Proofs.Ytodeaddmachcjaa
