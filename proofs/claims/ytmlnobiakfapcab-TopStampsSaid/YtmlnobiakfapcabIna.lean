/- The code of package inbox: which frames come through. Conditions: not more than a thousand filters. -/
import Derived.Test.YtmlnobiakfapcabRows
import Derived.Test.YtmlnobiakfapcabGna
import Derived.Laws.BitsAllLaws
import Derived.Lib.Hide
import Derived.Deep.RegionHeld3
namespace Go.Proofs.Ytmlnobiakfapcab
open Go.RowKit
/-- A filter. -/
structure Fl where
  x : Bool
  m : Int
  t : Int
def Fl.C (f : Fl) : List Value := [.bool f.x, .int .u32 f.m, .int .u32 f.t]
def Fl.V (f : Fl) : Value := .agg #[.bool f.x, .int .u32 f.m, .int .u32 f.t]
/-- All filters' cells. -/
def flC (L : List Fl) : List Value := L.flatMap Fl.C
/-- Does one let a frame through? -/
def letF (e : Bool) (n : Int) (f : Fl) : Bool := (f.x == e) && (bits .and .u32 f.m (bits .xor .u32 f.t n) == 0)
/-- Do all of them? -/
def letsB (L : List Fl) (e : Bool) (n : Int) : Bool := L.isEmpty || L.any (letF e n)
theorem flat_len {α : Type} (k : Nat) (c : α → List Value) (hc : ∀ x, (c x).length = k) (L : List α) : (L.flatMap c).length = L.length * k := by
  induction L with
  | nil => simp
  | cons x L ih => rw [List.flatMap_cons, List.length_append, hc, ih, List.length_cons, Nat.succ_mul, Nat.add_comm]
theorem flat_at {α : Type} (k : Nat) (c : α → List Value) (hc : ∀ x, (c x).length = k) (L : List α) (j i : Nat) (hj : j < L.length) (hi : i < k) : (L.flatMap c)[j * k + i]? = (c (L[j]'hj))[i]? := by
  induction L generalizing j with
  | nil => simp at hj
  | cons x L ih =>
    rw [List.flatMap_cons]
    match j, hj with
    | 0, _ =>
      rw [Nat.zero_mul, Nat.zero_add, List.getElem?_append_left (by rw [hc]; exact hi)]
      rfl
    | j + 1, hj =>
      rw [List.getElem?_append_right (by rw [hc, Nat.succ_mul]; omega), hc, show (j + 1) * k + i - k = j * k + i by rw [Nat.succ_mul]; omega]
      exact ih j (by simpa using hj)
theorem flC_len (L : List Fl) : (flC L).length = L.length * 3 := flat_len 3 Fl.C (fun _ => rfl) L
/-- What is read of the filters' row. -/
theorem Rd.fl {W : World} {a : Option Addr} {n cap : Nat} {L : List Fl} (h : Rd W 3 (.slice a n cap) (flC L)) {j : Nat} (hj : j < L.length) : n = L.length ∧ ∃ g off, a = some ⟨g, off, none⟩ ∧ g < W.heap.size ∧ W.cell? ⟨g, off + j * 3, none⟩ = some (.bool L[j].x) ∧ W.cell? ⟨g, off + j * 3 + 1, none⟩ = some (.int .u32 L[j].m) ∧ W.cell? ⟨g, off + j * 3 + 2, none⟩ = some (.int .u32 L[j].t) := by
  obtain ⟨n', cap', a', e, h1, h2, h3, h4⟩ := h
  injection e with e1 e2 e3
  subst e1 e2 e3
  rw [flC_len] at h1
  refine ⟨by omega, ?_⟩
  rcases h4 with h5 | ⟨g, off, rfl, hg, hc⟩
  · omega
  · refine ⟨g, off, rfl, hg, ?_, ?_, ?_⟩
    · exact hc (j * 3) _ ((flat_at 3 Fl.C (fun _ => rfl) L j 0 hj (by omega)).trans rfl)
    · rw [Nat.add_assoc]; exact hc (j * 3 + 1) _ ((flat_at 3 Fl.C (fun _ => rfl) L j 1 hj (by omega)).trans rfl)
    · rw [Nat.add_assoc]; exact hc (j * 3 + 2) _ ((flat_at 3 Fl.C (fun _ => rfl) L j 2 hj (by omega)).trans rfl)
theorem Rd.len3 {W : World} {a : Option Addr} {n cap : Nat} {L : List Fl} (h : Rd W 3 (.slice a n cap) (flC L)) : n = L.length := by
  obtain ⟨n', cap', a', e, h1, _⟩ := h
  injection e with e1 e2 e3
  subst e1 e2 e3
  rw [flC_len] at h1
  omega
theorem letC_any (f : Fl) (F : Nat) (e : Bool) (n : Int) (w : World) (c0 : w.cell? ⟨F, 0, none⟩ = some (.bool e)) (c1 : w.cell? ⟨F, 1, none⟩ = some (.int .u32 n)) :
    Calls Try.prog 99 #[f.V, .pointer (some ⟨F, 0, none⟩)] w fun y w' => y = .returned (.bool (letF e n f)) ∧ Below w.heap.size w w' := by
  obtain ⟨x, m, t⟩ := f
  have hlt := cell_ltG c0
  unfold Fl.V letF
  simp only
  obtain ⟨z, hz⟩ : ∃ z, z = (bits .and .u32 m (bits .xor .u32 t n) == 0) := ⟨_, rfl⟩
  rw [← hz]
  have i1 : (bits .and .u32 m (bits .xor .u32 t n) == 0) = z := hz.symm
  clear hz
  cases x <;> cases e <;> cases z
  all_goals
    go_enter Try.func99, Try.ntmps99
    go_wp2_with fail
    go_ret
    exact ⟨rfl, (Below.refl _ w).alloc (Nat.le_refl _) _⟩
set_option maxHeartbeats 4000000 in
theorem fidx_any (L : List Fl) (a : Option Addr) (len cap : Nat) (F : Nat) (e : Bool) (n : Int) (hl : L.length ≤ 1000) (w : World) (hR : Rd w 3 (.slice a len cap) (flC L)) (hlt : ∀ g, (Value.slice a len cap).ownBlock = some g → g < w.heap.size) (c0 : w.cell? ⟨F, 0, none⟩ = some (.bool e)) (c1 : w.cell? ⟨F, 1, none⟩ = some (.int .u32 n)) :
    Calls Try.prog 106 #[.slice a len cap, .func (.func 99) #[] #[.pointer (some ⟨F, 0, none⟩)]] w fun y w' => ∃ i : Int, y = .returned (.int .i64 i) ∧ decide (0 ≤ i) = L.any (letF e n) ∧ Below w.heap.size w w' := by
  obtain rfl := hR.len3
  have hFl := cell_ltG c0
  have HC := Lib.hid (show ∀ f u, Below w.heap.size w u → Calls Try.prog 99 #[f.V, .pointer (some ⟨F, 0, none⟩)] u fun y w' => y = .returned (.bool (letF e n f)) ∧ Below u.heap.size u w' from fun f u hu => letC_any f F e n u ((hu.cell (p := ⟨F, 0, none⟩) hFl).trans c0) ((hu.cell (p := ⟨F, 1, none⟩) hFl).trans c1))
  have HR := Lib.hid hR; have HLT := Lib.hid hlt
  clear hR hlt c0 c1 hFl
  go_enter Try.func106, Try.ntmps106
  go_wp2_with fail
  go_loopw [8] (fun i wr => ∃ k : Nat, i = .int .i64 (k : Int) ∧ k ≤ L.length ∧ (∀ j (hj : j < L.length), j < k → letF e n L[j] = false) ∧ Below w.heap.size w wr) (fun i _ => L.length - (intOf i).toNat)
  case atStart => exact ⟨0, rfl, by omega, fun j hj h => by omega, Below.refl _ _⟩
  case round =>
    obtain ⟨k, rfl, hk, hno, hB⟩ := hrel
    have HB := Lib.hid hB; have HNO := Lib.hid hno
    clear hB hno
    by_cases hlt : k < L.length
    · have i1 : (k : Int) < (L.length : Int) := by omega
      have i2 : (0 : Int) ≤ (k : Int) := by omega
      obtain ⟨_, g, off, rfl, hg, k0, k1, k2⟩ := HR.out.fl hlt
      obtain ⟨f, hf⟩ : ∃ f, f = L[k] := ⟨_, rfl⟩
      rw [← hf] at k0 k1 k2
      have HF := Lib.hid hf
      have q0 := (HB.out.cell (p := ⟨g, off + k * 3, none⟩) hg).trans k0
      have q1 := (HB.out.cell (p := ⟨g, off + k * 3 + 1, none⟩) hg).trans k1
      have q2 := (HB.out.cell (p := ⟨g, off + k * 3 + 2, none⟩) hg).trans k2
      have HK := Lib.hid (HC.out f wr HB.out)
      obtain ⟨v, hv⟩ : ∃ v, v = letF e n f := ⟨_, rfl⟩
      rw [← hv] at HK
      have HV := Lib.hid hv
      unfold Fl.V at HK
      clear hf hv k0 k1 k2
      go_wp2_with fail
      refine HK.out.mono ?_
      rintro y w1 ⟨rfl, hb⟩
      have HB1 := Lib.hid (below_transG HB.out (hb.mono (Nat.le_refl _)))
      clear hb q0 q1 q2
      cases v
      · go_wp2_with fail
        go_roundw
        case rel => exact ⟨k + 1, by simp, by omega, fun j hj h => by
          by_cases hjk : j < k
          · exact HNO.out j hj hjk
          · obtain rfl : j = k := by omega
            rw [← HF.out]; exact HV.out.symm, HB1.out⟩
        case measure => simp [intOf]; omega
      · go_wp2_with fail
        go_ret
        refine ⟨_, rfl, ?_, HB1.out⟩
        rw [decide_eq_true (by omega)]
        exact (List.any_eq_true.2 ⟨L[k], List.getElem_mem _, by rw [← HF.out]; exact HV.out.symm⟩).symm
    · obtain rfl : k = L.length := by omega
      go_wp2_with fail
      go_ret
      refine ⟨_, rfl, ?_, HB.out⟩
      rw [decide_eq_false (by omega)]
      refine Eq.symm (List.any_eq_false.2 fun f hf => ?_)
      obtain ⟨j, hj, rfl⟩ := List.getElem_of_mem hf
      rw [HNO.out j hj hj]
      exact Bool.false_ne_true
theorem fcon_any (L : List Fl) (a : Option Addr) (len cap : Nat) (F : Nat) (e : Bool) (n : Int) (hl : L.length ≤ 1000) (w : World) (hR : Rd w 3 (.slice a len cap) (flC L)) (hlt : ∀ g, (Value.slice a len cap).ownBlock = some g → g < w.heap.size) (c0 : w.cell? ⟨F, 0, none⟩ = some (.bool e)) (c1 : w.cell? ⟨F, 1, none⟩ = some (.int .u32 n)) :
    Calls Try.prog 100 #[.slice a len cap, .func (.func 99) #[] #[.pointer (some ⟨F, 0, none⟩)]] w fun y w' => y = .returned (.bool (L.any (letF e n))) ∧ Below w.heap.size w w' := by
  have HI := Lib.hid (fidx_any L a len cap F e n hl w hR hlt c0 c1)
  obtain ⟨V, hV⟩ : ∃ V, V = L.any (letF e n) := ⟨_, rfl⟩
  rw [← hV] at HI ⊢
  clear hR hlt c0 c1 hV
  go_enter Try.func100, Try.ntmps100
  go_wp2_with fail
  refine HI.out.mono ?_
  rintro y w1 ⟨i, rfl, hi, hb⟩
  have HB := Lib.hid hb
  have HV := Lib.hid hi
  clear hb hi
  go_wp2_with fail
  go_ret
  exact ⟨by rw [HV.out]; rfl, HB.out⟩
end Go.Proofs.Ytmlnobiakfapcab
