/- count: within, Right, tidy, and the document's own Right and sure: what they return. -/
import Derived.Test.YtmfnkfiocnngeaaDoorBat
import Derived.Laws.BitsAllLaws
import Derived.WalkKit
import Derived.ProofKit
import Derived.Below
import Derived.Lib.Hide
import Derived.Deep.RegionHeld3
namespace Go.Proofs.YtmfnkfiocnngeaaDoor
open Go.RowKit
/-- A block of three cells that may be written. -/
def Tri (w : World) (B : Nat) (x y z : Value) : Prop := w.cell? ⟨B, 0, none⟩ = some x ∧ w.cell? ⟨B, 1, none⟩ = some y ∧ w.cell? ⟨B, 2, none⟩ = some z ∧ w.frozen? ⟨B, 0, none⟩ = false ∧ w.frozen? ⟨B, 1, none⟩ = false ∧ w.frozen? ⟨B, 2, none⟩ = false
theorem Tri.keep {w w1 : World} {B : Nat} {x y z : Value} (h : Tri w B x y z) (hb : Below w.heap.size w w1) (hB : B < w.heap.size) : Tri w1 B x y z := by
  obtain ⟨hc, hf⟩ := bcell2 hb
  obtain ⟨a, b, c, d, e, f⟩ := h
  exact ⟨(hc B 0 hB).trans a, (hc B 1 hB).trans b, (hc B 2 hB).trans c, (hf B 0 hB).trans d, (hf B 1 hB).trans e, (hf B 2 hB).trans f⟩
theorem Tri.new (w : World) (x y z : Value) (T : TypeId) {B : Nat} (h : B = w.heap.size) : Tri (w.alloc (.cells #[x, y, z] T)) B x y z := by subst h; exact ⟨by simp, by simp, by simp, by simp, by simp, by simp⟩
theorem Tri.more {w : World} {B : Nat} {x y z : Value} (h : Tri w B x y z) (hB : B < w.heap.size) (o : Obj) : Tri (w.alloc o) B x y z :=
  h.keep ((Below.refl _ _).alloc (Nat.le_refl _) _) hB
theorem Tri.set0 {w : World} {B : Nat} {x y z : Value} (h : Tri w B x y z) (v : Value) : Tri (w.setCell ⟨B, 0, none⟩ v) B v y z := by
  obtain ⟨a, b, c, d, e, f⟩ := h
  exact ⟨World.cell?_setCell_same _ _ _ a, (World.cell?_setCell_other _ _ _ _ (by simp)).trans b, (World.cell?_setCell_other _ _ _ _ (by simp)).trans c, by rw [World.frozen?_setCell]; exact d, by rw [World.frozen?_setCell]; exact e, by rw [World.frozen?_setCell]; exact f⟩
theorem Tri.set1 {w : World} {B : Nat} {x y z : Value} (h : Tri w B x y z) (v : Value) : Tri (w.setCell ⟨B, 1, none⟩ v) B x v z := by
  obtain ⟨a, b, c, d, e, f⟩ := h
  exact ⟨(World.cell?_setCell_other _ _ _ _ (by simp)).trans a, World.cell?_setCell_same _ _ _ b, (World.cell?_setCell_other _ _ _ _ (by simp)).trans c, by rw [World.frozen?_setCell]; exact d, by rw [World.frozen?_setCell]; exact e, by rw [World.frozen?_setCell]; exact f⟩
theorem Tri.set2 {w : World} {B : Nat} {x y z : Value} (h : Tri w B x y z) (v : Value) : Tri (w.setCell ⟨B, 2, none⟩ v) B x y v := by
  obtain ⟨a, b, c, d, e, f⟩ := h
  exact ⟨(World.cell?_setCell_other _ _ _ _ (by simp)).trans a, (World.cell?_setCell_other _ _ _ _ (by simp)).trans b, World.cell?_setCell_same _ _ _ c, by rw [World.frozen?_setCell]; exact d, by rw [World.frozen?_setCell]; exact e, by rw [World.frozen?_setCell]; exact f⟩
theorem Tri.other {w : World} {B C : Nat} {x y z : Value} (h : Tri w B x y z) (hne : B ≠ C) (o : Nat) (u : Value) : Tri (w.setCell ⟨C, o, none⟩ u) B x y z := by
  obtain ⟨a, b, c, d, e, f⟩ := h
  have n : ∀ o p, (⟨C, o, none⟩ : Addr) ≠ ⟨B, p, none⟩ := fun o p e => hne (by simpa using (congrArg Addr.block e).symm)
  exact ⟨(World.cell?_setCell_other _ _ _ _ (n _ _)).trans a, (World.cell?_setCell_other _ _ _ _ (n _ _)).trans b, (World.cell?_setCell_other _ _ _ _ (n _ _)).trans c, by rw [World.frozen?_setCell]; exact d, by rw [World.frozen?_setCell]; exact e, by rw [World.frozen?_setCell]; exact f⟩
theorem Tri.other3 {w : World} {B C : Nat} {x y z : Value} (h : Tri w B x y z) (hne : B ≠ C) (u v k : Value) : Tri (((w.setCell ⟨C, 0, none⟩ u).setCell ⟨C, 1, none⟩ v).setCell ⟨C, 2, none⟩ k) B x y z := ((h.other hne 0 u).other hne 1 v).other hne 2 k
def cV (tx rx : Int) (off : Bool) : Value := .agg #[.int .i64 tx, .int .i64 rx, .bool off]
def wi (n m : Int) : Int := if n < 0 then 0 else if m < n then m else n
theorem cwithin_any (n m : Int) (hm : 0 ≤ m) (w : World) : Calls Tryd.prog 131 #[.int .i64 n, .int .i64 m] w fun x w' => x = .returned (.int .i64 (wi n m)) ∧ Below w.heap.size w w' := by
  obtain ⟨r, hr⟩ : ∃ r, r = wi n m := ⟨_, rfl⟩
  unfold wi at hr
  rw [show wi n m = r from hr.symm]
  have HR := Lib.hid hr
  clear hr
  go_enter Tryd.func131, Tryd.ntmps131
  go_wp2
  all_goals go_ret
  all_goals refine ⟨congrArg (fun r => Ending.returned (.int .i64 r)) ?_, Below.refl _ _⟩
  all_goals (have hr := HR.out; (repeat' split at *) <;> omega)
/-- Counts that can be. -/
def rightC (tx rx : Int) (off : Bool) : Bool := decide (0 ≤ tx) && decide (tx ≤ 256) && decide (0 ≤ rx) && decide (rx ≤ 255) && (off == (tx == 256))
theorem rightC_within (tx rx : Int) (off : Bool) : ((tx == wi tx 256) && (rx == wi rx 255) && (off == (wi tx 256 == 256))) = rightC tx rx off := by
  unfold rightC wi
  by_cases a : tx < 0
  · rw [if_pos a]
    have h1 : (tx == 0) = false := by simp; omega
    have h2 : decide (0 ≤ tx) = false := by simp; omega
    rw [h1, h2]; rfl
  · rw [if_neg a]
    by_cases b : 256 < tx
    · rw [if_pos b]
      have h1 : (tx == 256) = false := by simp; omega
      have h2 : decide (tx ≤ 256) = false := by simp; omega
      rw [h1, h2]; simp
    · rw [if_neg b]
      have h2 : decide (tx ≤ 256) = true := by simp; omega
      have h3 : decide (0 ≤ tx) = true := by simp; omega
      rw [h2, h3]
      by_cases c : rx < 0
      · rw [if_pos c]
        have h1 : (rx == 0) = false := by simp; omega
        have h2 : decide (0 ≤ rx) = false := by simp; omega
        rw [h1, h2]; simp
      · rw [if_neg c]
        by_cases d : 255 < rx
        · rw [if_pos d]
          have h1 : (rx == 255) = false := by simp; omega
          have h2 : decide (rx ≤ 255) = false := by simp; omega
          rw [h1, h2]; simp
        · rw [if_neg d]
          have h2 : decide (rx ≤ 255) = true := by simp; omega
          have h3 : decide (0 ≤ rx) = true := by simp; omega
          rw [h2, h3]; simp
set_option maxHeartbeats 1000000 in
theorem cright_any (tx rx : Int) (off : Bool) (w : World) : Calls Tryd.prog 111 #[cV tx rx off] w fun x w' => x = .returned (.bool (rightC tx rx off)) ∧ Below w.heap.size w w' := by
  rw [← rightC_within]
  have HA := Lib.hid (fun u => cwithin_any tx 256 (by omega) u)
  have HB := Lib.hid (fun u => cwithin_any rx 255 (by omega) u)
  unfold cV
  obtain ⟨m, hm⟩ : ∃ m, m = wi tx 256 := ⟨_, rfl⟩
  obtain ⟨k, hk⟩ : ∃ k, k = wi rx 255 := ⟨_, rfl⟩
  rw [← hm] at HA ⊢
  rw [← hk] at HB ⊢
  clear hm hk
  obtain ⟨b1, h1⟩ : ∃ b, (tx == m) = b := ⟨_, rfl⟩
  obtain ⟨b2, h2⟩ : ∃ b, (rx == k) = b := ⟨_, rfl⟩
  obtain ⟨b4, h4⟩ : ∃ b, (m == 256) = b := ⟨_, rfl⟩
  obtain ⟨b3, h3⟩ : ∃ b, (off == b4) = b := ⟨_, rfl⟩
  rw [h1, h2, h4, h3]
  go_enter Tryd.func111, Tryd.ntmps111
  go_wp2_with (fail)
  refine (HA.out _).mono ?_
  rintro x w1 ⟨rfl, hb⟩
  go_wp2_with (fail)
  have T := (Tri.new w (.int .i64 tx) (.int .i64 rx) (.bool off) 64 rfl).keep hb (by simp)
  have HT := Lib.hid (below_trans' ((Below.refl _ w).alloc (Nat.le_refl _) (.cells #[.int .i64 tx, .int .i64 rx, .bool off] 64)) hb)
  obtain ⟨t0, t1, t2, _, _, _⟩ := T
  have hlt : w.heap.size < w1.heap.size := Nat.lt_of_lt_of_le (by simp) hb.size
  clear hb
  have HS := Lib.hid (show ∀ u, Below w1.heap.size w1 u → Below w1.heap.size w1 u ∧ u.cell? ⟨w.heap.size, 0, none⟩ = some (.int .i64 tx) ∧ u.cell? ⟨w.heap.size, 1, none⟩ = some (.int .i64 rx) ∧ u.cell? ⟨w.heap.size, 2, none⟩ = some (.bool off) from fun u hu => ⟨hu, ((bcell2 hu).1 _ _ hlt).trans t0, ((bcell2 hu).1 _ _ hlt).trans t1, ((bcell2 hu).1 _ _ hlt).trans t2⟩)
  have HC := Lib.hid (show ∀ u, Below w1.heap.size w1 u ∧ u.cell? ⟨w.heap.size, 0, none⟩ = some (.int .i64 tx) ∧ u.cell? ⟨w.heap.size, 1, none⟩ = some (.int .i64 rx) ∧ u.cell? ⟨w.heap.size, 2, none⟩ = some (.bool off) → Calls Tryd.prog 131 #[.int .i64 rx, .int .i64 255] u fun x w' => x = .returned (.int .i64 k) ∧ Below w1.heap.size w1 w' ∧ w'.cell? ⟨w.heap.size, 0, none⟩ = some (.int .i64 tx) ∧ w'.cell? ⟨w.heap.size, 1, none⟩ = some (.int .i64 rx) ∧ w'.cell? ⟨w.heap.size, 2, none⟩ = some (.bool off) from fun u hu => (HB.out u).mono fun _ _ h => ⟨h.1, HS.out _ (below_trans' hu.1 h.2)⟩)
  have k0 := HS.out _ (Below.refl _ w1).drew
  clear hlt t0 t1 t2
  have parts : (b1 = false) ∨ (b1 = true ∧ b2 = false) ∨ (b1 = true ∧ b2 = true ∧ off = false ∧ b4 = false) ∨ (b1 = true ∧ b2 = true ∧ off = false ∧ b4 = true) ∨ (b1 = true ∧ b2 = true ∧ off = true ∧ b4 = false) ∨ (b1 = true ∧ b2 = true ∧ off = true ∧ b4 = true) := by cases b1 <;> cases b2 <;> cases off <;> cases b4 <;> simp
  rcases parts with rfl | ⟨rfl, rfl⟩ | ⟨rfl, rfl, rfl, rfl⟩ | ⟨rfl, rfl, rfl, rfl⟩ | ⟨rfl, rfl, rfl, rfl⟩ | ⟨rfl, rfl, rfl, rfl⟩
  · go_region_held3 (fun w' => Below w1.heap.size w1 w' ∧ w'.cell? ⟨w.heap.size, 0, none⟩ = some (.int .i64 tx) ∧ w'.cell? ⟨w.heap.size, 1, none⟩ = some (.int .i64 rx) ∧ w'.cell? ⟨w.heap.size, 2, none⟩ = some (.bool off)) (assumption) (first | (go_at_call 131; refine (HC.out _ (by assumption)).mono ?_; rintro x w2 ⟨rfl, hx⟩))
    have HE := Lib.hid (below_trans' HT.out hx.1)
    clear hx k0
    go_wp2_with (fail)
    go_ret
    exact ⟨rfl, HE.out⟩
  · go_region_held3 (fun w' => Below w1.heap.size w1 w' ∧ w'.cell? ⟨w.heap.size, 0, none⟩ = some (.int .i64 tx) ∧ w'.cell? ⟨w.heap.size, 1, none⟩ = some (.int .i64 rx) ∧ w'.cell? ⟨w.heap.size, 2, none⟩ = some (.bool off)) (assumption) (first | (go_at_call 131; refine (HC.out _ (by assumption)).mono ?_; rintro x w2 ⟨rfl, hx⟩))
    have HE := Lib.hid (below_trans' HT.out hx.1)
    clear hx k0
    go_wp2_with (fail)
    go_ret
    exact ⟨rfl, HE.out⟩
  · subst h3
    go_region_held3 (fun w' => Below w1.heap.size w1 w' ∧ w'.cell? ⟨w.heap.size, 0, none⟩ = some (.int .i64 tx) ∧ w'.cell? ⟨w.heap.size, 1, none⟩ = some (.int .i64 rx) ∧ w'.cell? ⟨w.heap.size, 2, none⟩ = some (.bool false)) (assumption) (first | (go_at_call 131; refine (HC.out _ (by assumption)).mono ?_; rintro x w2 ⟨rfl, hx⟩))
    have HE := Lib.hid (below_trans' HT.out hx.1)
    clear hx k0
    go_wp2_with (fail)
    go_ret
    exact ⟨rfl, HE.out⟩
  · subst h3
    go_region_held3 (fun w' => Below w1.heap.size w1 w' ∧ w'.cell? ⟨w.heap.size, 0, none⟩ = some (.int .i64 tx) ∧ w'.cell? ⟨w.heap.size, 1, none⟩ = some (.int .i64 rx) ∧ w'.cell? ⟨w.heap.size, 2, none⟩ = some (.bool false)) (assumption) (first | (go_at_call 131; refine (HC.out _ (by assumption)).mono ?_; rintro x w2 ⟨rfl, hx⟩))
    have HE := Lib.hid (below_trans' HT.out hx.1)
    clear hx k0
    go_wp2_with (fail)
    go_ret
    exact ⟨rfl, HE.out⟩
  · subst h3
    go_region_held3 (fun w' => Below w1.heap.size w1 w' ∧ w'.cell? ⟨w.heap.size, 0, none⟩ = some (.int .i64 tx) ∧ w'.cell? ⟨w.heap.size, 1, none⟩ = some (.int .i64 rx) ∧ w'.cell? ⟨w.heap.size, 2, none⟩ = some (.bool true)) (assumption) (first | (go_at_call 131; refine (HC.out _ (by assumption)).mono ?_; rintro x w2 ⟨rfl, hx⟩))
    have HE := Lib.hid (below_trans' HT.out hx.1)
    clear hx k0
    go_wp2_with (fail)
    go_ret
    exact ⟨rfl, HE.out⟩
  · subst h3
    go_region_held3 (fun w' => Below w1.heap.size w1 w' ∧ w'.cell? ⟨w.heap.size, 0, none⟩ = some (.int .i64 tx) ∧ w'.cell? ⟨w.heap.size, 1, none⟩ = some (.int .i64 rx) ∧ w'.cell? ⟨w.heap.size, 2, none⟩ = some (.bool true)) (assumption) (first | (go_at_call 131; refine (HC.out _ (by assumption)).mono ?_; rintro x w2 ⟨rfl, hx⟩))
    have HE := Lib.hid (below_trans' HT.out hx.1)
    clear hx k0
    go_wp2_with (fail)
    go_ret
    exact ⟨rfl, HE.out⟩
end Go.Proofs.YtmfnkfiocnngeaaDoor
