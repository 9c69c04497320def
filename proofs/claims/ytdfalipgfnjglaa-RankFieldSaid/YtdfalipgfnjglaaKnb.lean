/- Package rank: a node in the memory: who it leaves the place to, a tick. Conditions: each theorem says its own. -/
import Derived.Test.YtdfalipgfnjglaaKna
import Derived.Deep.RegionWith
namespace Go.Proofs.Ytdfalipgfnjglaa
open Go.RowKit
/-- What is read of a slice of numbers. -/
def Ints (W : World) (a : Option Addr) (h : List Int) : Prop := ∀ j (hj : j < h.length), ∃ g off, a = some ⟨g, off, none⟩ ∧ g < W.heap.size ∧ W.cell? ⟨g, off + j, none⟩ = some (.int .i64 h[j])
theorem Ints.on {W X : World} {a : Option Addr} {h : List Int} (hi : Ints W a h) (hb : Below W.heap.size W X) : Ints X a h := fun j hj => by
  obtain ⟨g, off, h1, h2, h3⟩ := hi j hj
  exact ⟨g, off, h1, Nat.lt_of_lt_of_le h2 hb.size, (hb.cell (p := ⟨g, off + j, none⟩) h2).trans h3⟩
theorem Ints.nil (W : World) (a : Option Addr) : Ints W a [] := fun _ hj => absurd hj (by simp)
def ndC (b s p k : Int) (d : Nd) : List Value := [.int .i64 b, .int .i64 s, .int .i64 p, .int .i64 k, .bool d.m, .int .i64 d.i, .int .i64 d.s]
theorem rk_yields (b s p k : Int) (hk : 0 ≤ k ∧ k ≤ 31) (d : Nd) (r : Int) (B : Nat) (w : World) (h : Blk w B 214 (ndC b s p k d)) : Calls Try.prog 133 #[.pointer (some ⟨B, 0, none⟩), .int .i64 r] w fun y w' => y = .returned (.bool (decide (0 ≤ r ∧ r < k))) ∧ w = w' := by
  have HW := Lib.hid (fun u => rk_within r 0 (k - 1) u)
  have e : inR r 0 (k - 1) = decide (0 ≤ r ∧ r < k) := by unfold inR; rw [decide_eq_decide]; omega
  rw [e] at HW
  obtain ⟨v, hv⟩ : ∃ v, v = decide (0 ≤ r ∧ r < k) := ⟨_, rfl⟩
  rw [← hv] at HW ⊢
  have c3 : w.cell? ⟨B, 3, none⟩ = some (.int .i64 k) := h.cellAt (i := 3) (by simp [ndC])
  obtain ⟨k1, hk1⟩ : ∃ v, v = k - 1 := ⟨_, rfl⟩
  rw [← hk1] at HW
  have hw : wrap64 (k - 1) = k1 := by rw [hk1]; exact w64_in _ (by omega)
  clear h e hv hk1 hk
  go_enter Try.func133, Try.ntmps133
  go_wp2_with fail
  refine (HW.out _).mono ?_
  rintro y w1 ⟨rfl, rfl⟩
  go_wp2_with fail
  go_ret
  exact ⟨rfl, rfl⟩
set_option maxHeartbeats 4000000 in
theorem rk_idx (b s p k : Int) (hk : 0 ≤ k ∧ k ≤ 31) (d : Nd) (B : Nat) (L : List Int) (a : Option Addr) (cap : Nat) (hl : L.length ≤ 1000) (w : World) (h : Blk w B 214 (ndC b s p k d)) (hR : Ints w a L) :
    Calls Try.prog 177 #[.slice a L.length cap, .func (.func 133) #[.pointer (some ⟨B, 0, none⟩)] #[]] w fun y w' => ∃ i : Int, y = .returned (.int .i64 i) ∧ decide (0 ≤ i) = yieldsB k L ∧ Below w.heap.size w w' := by
  have HC := Lib.hid (show ∀ r u, Below w.heap.size w u → Calls Try.prog 133 #[.pointer (some ⟨B, 0, none⟩), .int .i64 r] u fun y w' => y = .returned (.bool (decide (0 ≤ r ∧ r < k))) ∧ u = w' from fun r u hu => rk_yields b s p k hk d r B u (h.keep hu h.lt))
  have HR := Lib.hid hR
  clear hR h
  go_enter Try.func177, Try.ntmps177
  go_wp2_with fail
  go_loopw [8] (fun i wr => ∃ j : Nat, i = .int .i64 (j : Int) ∧ j ≤ L.length ∧ (∀ q (hq : q < L.length), q < j → decide (0 ≤ L[q] ∧ L[q] < k) = false) ∧ Below w.heap.size w wr) (fun i _ => L.length - (intOf i).toNat)
  case atStart => exact ⟨0, rfl, by omega, fun q hq h => by omega, Below.refl _ _⟩
  case round =>
    obtain ⟨j, rfl, hj, hno, hB⟩ := hrel
    have HB := Lib.hid hB; have HNO := Lib.hid hno
    clear hB hno
    by_cases hlt : j < L.length
    · have i1 : (j : Int) < (L.length : Int) := by omega
      have i2 : (0 : Int) ≤ (j : Int) := by omega
      obtain ⟨g, off, rfl, hg, k0⟩ := HR.out j hlt
      obtain ⟨f, hf⟩ : ∃ f, f = L[j] := ⟨_, rfl⟩
      rw [← hf] at k0
      have HF := Lib.hid hf
      have q0 := (HB.out.cell (p := ⟨g, off + j, none⟩) hg).trans k0
      have HK := Lib.hid (HC.out f wr HB.out)
      obtain ⟨v, hv⟩ : ∃ v, v = decide (0 ≤ f ∧ f < k) := ⟨_, rfl⟩
      rw [← hv] at HK
      have HV := Lib.hid hv
      clear hf hv k0
      go_wp2_with fail
      refine HK.out.mono ?_
      rintro y w1 ⟨rfl, rfl⟩
      clear q0
      cases v
      · go_wp2_with fail
        go_roundw
        case rel => exact ⟨j + 1, by simp, by omega, fun q hq h => by
          by_cases hqj : q < j
          · exact HNO.out q hq hqj
          · obtain rfl : q = j := by omega
            rw [← HF.out]; exact HV.out.symm, HB.out⟩
        case measure => simp [intOf]; omega
      · go_wp2_with fail
        go_ret
        refine ⟨_, rfl, ?_, HB.out⟩
        rw [decide_eq_true (by omega)]
        exact (List.any_eq_true.2 ⟨L[j], List.getElem_mem _, by rw [← HF.out]; exact HV.out.symm⟩).symm
    · obtain rfl : j = L.length := by omega
      go_wp2_with fail
      go_ret
      refine ⟨_, rfl, ?_, HB.out⟩
      rw [decide_eq_false (by omega)]
      refine Eq.symm (List.any_eq_false.2 fun f hf => ?_)
      obtain ⟨q, hq, rfl⟩ := List.getElem_of_mem hf
      rw [HNO.out q hq hq]
      exact Bool.false_ne_true
theorem rk_con (b s p k : Int) (hk : 0 ≤ k ∧ k ≤ 31) (d : Nd) (B : Nat) (L : List Int) (a : Option Addr) (cap : Nat) (hl : L.length ≤ 1000) (w : World) (h : Blk w B 214 (ndC b s p k d)) (hR : Ints w a L) :
    Calls Try.prog 132 #[.slice a L.length cap, .func (.func 133) #[.pointer (some ⟨B, 0, none⟩)] #[]] w fun y w' => y = .returned (.bool (yieldsB k L)) ∧ Below w.heap.size w w' := by
  have HI := Lib.hid (rk_idx b s p k hk d B L a cap hl w h hR)
  obtain ⟨V, hV⟩ : ∃ V, V = yieldsB k L := ⟨_, rfl⟩
  rw [← hV] at HI ⊢
  clear h hR hV
  go_enter Try.func132, Try.ntmps132
  go_wp2_with fail
  refine HI.out.mono ?_
  rintro y w1 ⟨i, rfl, hi, hb⟩
  have HB := Lib.hid hb
  have HV := Lib.hid hi
  clear hb hi
  go_wp2_with fail
  go_ret
  exact ⟨by rw [HV.out]; rfl, HB.out⟩
theorem rk_tells (b s p k : Int) (d : Nd) (due : Bool) (B : Nat) (w : World) (h : Blk w B 214 (ndC b s p k d)) : Calls Try.prog 134 #[.pointer (some ⟨B, 0, none⟩), .bool due] w fun y w' => y = .returned (.bool due) ∧ Blk w' B 214 (ndC b s p k (if due = true then ⟨true, 0, 0⟩ else d)) ∧ Kp B (.slice none 0 0) w w' := by
  obtain ⟨m, i, n⟩ := d
  cases due
  · have HB := Lib.hid h
    clear h
    go_enter Try.func134, Try.ntmps134
    go_wp2_with fail
    go_ret
    exact ⟨rfl, HB.out, Kp.refl _ _ _⟩
  · unfold ndC at h
    simp only at h
    have HB := Lib.hid (((h.put1 (i := 4) (by simp) (.bool true)).put1 (i := 5) (by simp) (.int .i64 0)).put1 (i := 6) (by simp) (.int .i64 0))
    have HK := Lib.hid ((((Kp.refl B (.slice none 0 0) w).set 4 (.bool true)).set 5 (.int .i64 0)).set 6 (.int .i64 0))
    have hcl := h.lt
    have c0 : w.cell? ⟨B, 0, none⟩ = some (.int .i64 b) := h.cellAt (i := 0) (by simp)
    have c1 : w.cell? ⟨B, 1, none⟩ = some (.int .i64 s) := h.cellAt (i := 1) (by simp)
    have c2 : w.cell? ⟨B, 2, none⟩ = some (.int .i64 p) := h.cellAt (i := 2) (by simp)
    have c3 : w.cell? ⟨B, 3, none⟩ = some (.int .i64 k) := h.cellAt (i := 3) (by simp)
    have c4 : w.cell? ⟨B, 4, none⟩ = some (.bool m) := h.cellAt (i := 4) (by simp)
    have c5 : w.cell? ⟨B, 5, none⟩ = some (.int .i64 i) := h.cellAt (i := 5) (by simp)
    have c6 : w.cell? ⟨B, 6, none⟩ = some (.int .i64 n) := h.cellAt (i := 6) (by simp)
    have f0 : w.frozen? ⟨B, 0, none⟩ = false := h.frozenAt 0
    have f1 : w.frozen? ⟨B, 1, none⟩ = false := h.frozenAt 1
    have f2 : w.frozen? ⟨B, 2, none⟩ = false := h.frozenAt 2
    have f3 : w.frozen? ⟨B, 3, none⟩ = false := h.frozenAt 3
    have f4 : w.frozen? ⟨B, 4, none⟩ = false := h.frozenAt 4
    have f5 : w.frozen? ⟨B, 5, none⟩ = false := h.frozenAt 5
    have f6 : w.frozen? ⟨B, 6, none⟩ = false := h.frozenAt 6
    clear h
    go_enter Try.func134, Try.ntmps134
    go_wp2_with fail
    go_ret
    exact ⟨rfl, HB.out, HK.out⟩
end Go.Proofs.Ytdfalipgfnjglaa
