/- Package stream, and the document's own answers of layer 25: what is wrong with several streams. Conditions: there are at most so many as memory holds. -/
import Derived.Test.YtolhckahphmffaaDoorSme
namespace Go.Proofs.YtolhckahphmffaaDoor
open Go.RowKit Go.Shelf
attribute [local go_sem] Oper.semAt_some
/-- Which error the q-th kind of fault tells of the j-th stream, 0 if none. -/
def flB (L : List Sm) (len : Int) (q j : Nat) : Int := match q with
  | 0 => (L.getD j sm0).right
  | 1 => if findI L (L.getD j sm0).i < (j : Int) then 13 else 0
  | _ => if (L.getD j sm0).c = 1 ∧ (L.getD j sm0).d < len then 9 else 0
def firstUp (f : Nat → Int) : Nat → Option Nat
  | 0 => none
  | n + 1 => match firstUp f n with
    | some j => some j
    | none => if f n = 0 then none else some n
theorem firstUp_none {f : Nat → Int} : ∀ {n : Nat}, (∀ j, j < n → f j = 0) → firstUp f n = none
  | 0, _ => rfl
  | n + 1, h => by
    unfold firstUp
    rw [firstUp_none (fun j hj => h j (by omega))]
    simp only
    rw [if_pos (h n (by omega))]
theorem firstUp_some {f : Nat → Int} {j : Nat} (hn : ∀ i, i < j → f i = 0) (hj : f j ≠ 0) : ∀ {n : Nat}, j < n → firstUp f n = some j
  | 0, h => by omega
  | n + 1, h => by
    unfold firstUp
    by_cases e : j = n
    · subst e
      rw [firstUp_none hn]
      simp only
      rw [if_neg hj]
    · rw [firstUp_some hn hj (n := n) (by omega)]
def chkV (L : List Sm) (len : Int) : List Nat → Int × Int
  | [] => ((L.length : Int), 0)
  | q :: qs => match firstUp (flB L len q) L.length with
    | some j => ((j : Int), flB L len q j)
    | none => chkV L len qs
theorem chkV_hit {L : List Sm} {len : Int} {q j : Nat} (hj : j < L.length) (h : flB L len q j ≠ 0) (hn : ∀ i, i < j → flB L len q i = 0) (qs : List Nat) : chkV L len (q :: qs) = ((j : Int), flB L len q j) := by
  unfold chkV
  rw [firstUp_some hn h hj]
theorem chkV_miss {L : List Sm} {len : Int} {q : Nat} (hn : ∀ i, i < L.length → flB L len q i = 0) (qs : List Nat) : chkV L len (q :: qs) = chkV L len qs := by
  conv => lhs; unfold chkV
  rw [firstUp_none hn]
theorem chk_at {L : List Sm} {len : Int} {q x : Nat} (hq : q < 3) (hx : x < L.length) (h : flB L len q x ≠ 0) (hn : ∀ i, i < x → flB L len q i = 0) (hp : ∀ p, p < q → ∀ i, i < L.length → flB L len p i = 0) : chkV L len [0, 1, 2] = ((x : Int), flB L len q x) := by
  obtain rfl | rfl | rfl : q = 0 ∨ q = 1 ∨ q = 2 := by omega
  · exact chkV_hit hx h hn _
  · rw [chkV_miss (hp 0 (by omega))]; exact chkV_hit hx h hn _
  · rw [chkV_miss (hp 0 (by omega)), chkV_miss (hp 1 (by omega))]; exact chkV_hit hx h hn _
theorem chk_all {L : List Sm} {len : Int} (hp : ∀ p, p < 3 → ∀ i, i < L.length → flB L len p i = 0) : chkV L len [0, 1, 2] = ((L.length : Int), 0) := by
  rw [chkV_miss (hp 0 (by omega)), chkV_miss (hp 1 (by omega)), chkV_miss (hp 2 (by omega))]; rfl
/-- What is wrong with several streams, and with which one. -/
def checkV (L : List Sm) (len : Int) : Int × Int := if 64 < L.length then (0, 11) else if inS len 1 1073741824 = false then (0, 1) else chkV L len [0, 1, 2]
theorem getD_at {L : List Sm} {j : Nat} (hj : j < L.length) : L.getD j sm0 = L[j] := by
  rw [List.getD_eq_getElem?_getD, List.getElem?_eq_getElem hj]; rfl
theorem fl1_any (k : Int) (x : Sm) (w : World) : Calls Tryd.prog 65 #[.int .i64 k, x.v] w fun y w' => y = .returned (.int .i64 x.right) ∧ Below w.heap.size w w' := by
  have HR := Lib.hid (fun u => sright_any x.i x.n x.c x.p x.d x.s x.b u)
  unfold Sm.v Sm.right
  go_enter Tryd.func65, Tryd.ntmps65
  go_upto_region 1 with fail
  obtain ⟨W1, hW1⟩ : ∃ W, W = (w.alloc (.cells #[.int .i64 x.i, .int .i64 x.n, .int .i64 x.c, .int .i64 x.p, .int .i64 x.d, .int .i64 x.s, .int .i64 x.b] 30)) := ⟨_, rfl⟩
  have hbel_ : Below w.heap.size w W1 := by rw [hW1]; exact ((Below.refl w.heap.size w).alloc (Nat.le_refl w.heap.size) _)
  have h_x : Blk W1 w.heap.size 30 [.int .i64 x.i, .int .i64 x.n, .int .i64 x.c, .int .i64 x.p, .int .i64 x.d, .int .i64 x.s, .int .i64 x.b] := by rw [hW1]; exact (blk_at (w) w.heap.size (by rfl) 30 [.int .i64 x.i, .int .i64 x.n, .int .i64 x.c, .int .i64 x.p, .int .i64 x.d, .int .i64 x.s, .int .i64 x.b]).keep (Below.refl (w.heap.size + 1) _) (by omega)
  rw [← hW1]
  have HB1 := Lib.hid hbel_
  have Hx1 := Lib.hid h_x
  clear hbel_ hW1  h_x
  have x_0 : W1.cell? ⟨w.heap.size, 0, none⟩ = some (.int .i64 x.i) := Hx1.out.cellAt (i := 0) (by simp)
  have x_1 : W1.cell? ⟨w.heap.size, 1, none⟩ = some (.int .i64 x.n) := Hx1.out.cellAt (i := 1) (by simp)
  have x_2 : W1.cell? ⟨w.heap.size, 2, none⟩ = some (.int .i64 x.c) := Hx1.out.cellAt (i := 2) (by simp)
  have x_3 : W1.cell? ⟨w.heap.size, 3, none⟩ = some (.int .i64 x.p) := Hx1.out.cellAt (i := 3) (by simp)
  have x_4 : W1.cell? ⟨w.heap.size, 4, none⟩ = some (.int .i64 x.d) := Hx1.out.cellAt (i := 4) (by simp)
  have x_5 : W1.cell? ⟨w.heap.size, 5, none⟩ = some (.int .i64 x.s) := Hx1.out.cellAt (i := 5) (by simp)
  have x_6 : W1.cell? ⟨w.heap.size, 6, none⟩ = some (.int .i64 x.b) := Hx1.out.cellAt (i := 6) (by simp)
  go_wp2_with fail
  clear x_0 x_1 x_2 x_3 x_4 x_5 x_6
  refine (HR.out _).mono ?_
  rintro y w2 ⟨rfl, hb⟩
  have HB2 := Lib.hid (below_transG HB1.out hb)
  have Hx2 := Lib.hid (Hx1.out.keep hb Hx1.out.lt)
  clear hb
  go_wp2_with fail
  go_ret
  exact ⟨rfl, HB2.out⟩
theorem fl2_any (k : Int) (x : Sm) (B : Nat) (a : Option Addr) (n cap : Nat) (L : List Sm) (hreach : L.length ≤ 4611686018427387904) (w : World) (hB : Boxed w B 22 (.slice a n cap)) (hI : Sts w.heap.size w (.slice a n cap) L) : Calls Tryd.prog 66 #[.int .i64 k, x.v, .pointer (some ⟨B, 0, none⟩)] w fun y w' => y = .returned (.int .i64 (if findI L x.i < k then 13 else 0)) ∧ Below w.heap.size w w' := by
  have HF := Lib.hid (fun u h => sfind_any a n cap L x.i hreach u h); have HW := Lib.hid (fun c u => when_any c 13 u)
  have HI := Lib.hid (fun u (h : Below w.heap.size w u) => (hI.below h).mono h.size)
  obtain ⟨f, hf⟩ : ∃ f, f = findI L x.i := ⟨_, rfl⟩
  rw [← hf] at HF ⊢
  have HBX := Lib.hid (show ∀ u, Below w.heap.size w u → u.cell? ⟨B, 0, none⟩ = some (.slice a n cap) from fun u h => (h.cell (p := ⟨B, 0, none⟩) hB.lt).trans hB.cell)
  unfold Sm.v
  clear hf hI hB
  by_cases h : f < k
  · rw [if_pos h]
    have e : decide (f < k) = true := decide_eq_true h
    go_enter Tryd.func66, Tryd.ntmps66
    go_upto_region 1 with fail
    obtain ⟨W1, hW1⟩ : ∃ W, W = (w.alloc (.cells #[.int .i64 x.i, .int .i64 x.n, .int .i64 x.c, .int .i64 x.p, .int .i64 x.d, .int .i64 x.s, .int .i64 x.b] 30)) := ⟨_, rfl⟩
    have hbel_ : Below w.heap.size w W1 := by rw [hW1]; exact ((Below.refl w.heap.size w).alloc (Nat.le_refl w.heap.size) _)
    have h_x : Blk W1 w.heap.size 30 [.int .i64 x.i, .int .i64 x.n, .int .i64 x.c, .int .i64 x.p, .int .i64 x.d, .int .i64 x.s, .int .i64 x.b] := by rw [hW1]; exact (blk_at (w) w.heap.size (by rfl) 30 [.int .i64 x.i, .int .i64 x.n, .int .i64 x.c, .int .i64 x.p, .int .i64 x.d, .int .i64 x.s, .int .i64 x.b]).keep (Below.refl (w.heap.size + 1) _) (by omega)
    rw [← hW1]
    have HB1 := Lib.hid hbel_
    have Hx1 := Lib.hid h_x
    clear hbel_ hW1  h_x
    have bb := HBX.out _ HB1.out
    have x_0 : W1.cell? ⟨w.heap.size, 0, none⟩ = some (.int .i64 x.i) := Hx1.out.cellAt (i := 0) (by simp)
    have x_1 : W1.cell? ⟨w.heap.size, 1, none⟩ = some (.int .i64 x.n) := Hx1.out.cellAt (i := 1) (by simp)
    have x_2 : W1.cell? ⟨w.heap.size, 2, none⟩ = some (.int .i64 x.c) := Hx1.out.cellAt (i := 2) (by simp)
    have x_3 : W1.cell? ⟨w.heap.size, 3, none⟩ = some (.int .i64 x.p) := Hx1.out.cellAt (i := 3) (by simp)
    have x_4 : W1.cell? ⟨w.heap.size, 4, none⟩ = some (.int .i64 x.d) := Hx1.out.cellAt (i := 4) (by simp)
    have x_5 : W1.cell? ⟨w.heap.size, 5, none⟩ = some (.int .i64 x.s) := Hx1.out.cellAt (i := 5) (by simp)
    have x_6 : W1.cell? ⟨w.heap.size, 6, none⟩ = some (.int .i64 x.b) := Hx1.out.cellAt (i := 6) (by simp)
    go_wp2_with fail
    clear bb
    clear x_0 x_1 x_2 x_3 x_4 x_5 x_6
    refine (HF.out _ (HI.out _ HB1.out)).mono ?_
    rintro y w2 ⟨rfl, hb⟩
    have HB2 := Lib.hid (below_transG HB1.out hb)
    have Hx2 := Lib.hid (Hx1.out.keep hb Hx1.out.lt)
    clear hb
    go_wp2_with fail
    refine (HW.out true _).mono ?_
    rintro y w3 ⟨rfl, hb⟩
    have HB3 := Lib.hid (below_transG HB2.out hb)
    have Hx3 := Lib.hid (Hx2.out.keep hb Hx2.out.lt)
    clear hb
    go_wp2_with fail
    go_ret
    exact ⟨rfl, HB3.out⟩
  · rw [if_neg h]
    have e : decide (f < k) = false := decide_eq_false h
    go_enter Tryd.func66, Tryd.ntmps66
    go_upto_region 1 with fail
    obtain ⟨W1, hW1⟩ : ∃ W, W = (w.alloc (.cells #[.int .i64 x.i, .int .i64 x.n, .int .i64 x.c, .int .i64 x.p, .int .i64 x.d, .int .i64 x.s, .int .i64 x.b] 30)) := ⟨_, rfl⟩
    have hbel_ : Below w.heap.size w W1 := by rw [hW1]; exact ((Below.refl w.heap.size w).alloc (Nat.le_refl w.heap.size) _)
    have h_x : Blk W1 w.heap.size 30 [.int .i64 x.i, .int .i64 x.n, .int .i64 x.c, .int .i64 x.p, .int .i64 x.d, .int .i64 x.s, .int .i64 x.b] := by rw [hW1]; exact (blk_at (w) w.heap.size (by rfl) 30 [.int .i64 x.i, .int .i64 x.n, .int .i64 x.c, .int .i64 x.p, .int .i64 x.d, .int .i64 x.s, .int .i64 x.b]).keep (Below.refl (w.heap.size + 1) _) (by omega)
    rw [← hW1]
    have HB1 := Lib.hid hbel_
    have Hx1 := Lib.hid h_x
    clear hbel_ hW1  h_x
    have bb := HBX.out _ HB1.out
    have x_0 : W1.cell? ⟨w.heap.size, 0, none⟩ = some (.int .i64 x.i) := Hx1.out.cellAt (i := 0) (by simp)
    have x_1 : W1.cell? ⟨w.heap.size, 1, none⟩ = some (.int .i64 x.n) := Hx1.out.cellAt (i := 1) (by simp)
    have x_2 : W1.cell? ⟨w.heap.size, 2, none⟩ = some (.int .i64 x.c) := Hx1.out.cellAt (i := 2) (by simp)
    have x_3 : W1.cell? ⟨w.heap.size, 3, none⟩ = some (.int .i64 x.p) := Hx1.out.cellAt (i := 3) (by simp)
    have x_4 : W1.cell? ⟨w.heap.size, 4, none⟩ = some (.int .i64 x.d) := Hx1.out.cellAt (i := 4) (by simp)
    have x_5 : W1.cell? ⟨w.heap.size, 5, none⟩ = some (.int .i64 x.s) := Hx1.out.cellAt (i := 5) (by simp)
    have x_6 : W1.cell? ⟨w.heap.size, 6, none⟩ = some (.int .i64 x.b) := Hx1.out.cellAt (i := 6) (by simp)
    go_wp2_with fail
    clear bb
    clear x_0 x_1 x_2 x_3 x_4 x_5 x_6
    refine (HF.out _ (HI.out _ HB1.out)).mono ?_
    rintro y w2 ⟨rfl, hb⟩
    have HB2 := Lib.hid (below_transG HB1.out hb)
    have Hx2 := Lib.hid (Hx1.out.keep hb Hx1.out.lt)
    clear hb
    go_wp2_with fail
    refine (HW.out false _).mono ?_
    rintro y w3 ⟨rfl, hb⟩
    have HB3 := Lib.hid (below_transG HB2.out hb)
    have Hx3 := Lib.hid (Hx2.out.keep hb Hx2.out.lt)
    clear hb
    go_wp2_with fail
    go_ret
    exact ⟨rfl, HB3.out⟩
theorem fl3_any (k : Int) (x : Sm) (B : Nat) (len : Int) (w : World) (hB : Boxed w B 2 (.int .i64 len)) : Calls Tryd.prog 68 #[.int .i64 k, x.v, .pointer (some ⟨B, 0, none⟩)] w fun y w' => y = .returned (.int .i64 (if x.c = 1 ∧ x.d < len then 9 else 0)) ∧ Below w.heap.size w w' := by
  have HW := Lib.hid (fun c u => when_any c 9 u)
  have HBX := Lib.hid (show ∀ u, Below w.heap.size w u → u.cell? ⟨B, 0, none⟩ = some (.int .i64 len) from fun u h => (h.cell (p := ⟨B, 0, none⟩) hB.lt).trans hB.cell)
  unfold Sm.v
  clear hB
  by_cases h : x.c = 1
  · have k0 : (x.c == 1) = true := by rw [h]; rfl
    by_cases h2 : x.d < len
    · rw [if_pos ⟨h, h2⟩]
      have e : decide (x.d < len) = true := decide_eq_true h2
      clear h
      go_enter Tryd.func68, Tryd.ntmps68
      go_upto_region 1 with fail
      obtain ⟨W1, hW1⟩ : ∃ W, W = (w.alloc (.cells #[.int .i64 x.i, .int .i64 x.n, .int .i64 x.c, .int .i64 x.p, .int .i64 x.d, .int .i64 x.s, .int .i64 x.b] 30)) := ⟨_, rfl⟩
      have hbel_ : Below w.heap.size w W1 := by rw [hW1]; exact ((Below.refl w.heap.size w).alloc (Nat.le_refl w.heap.size) _)
      have h_x : Blk W1 w.heap.size 30 [.int .i64 x.i, .int .i64 x.n, .int .i64 x.c, .int .i64 x.p, .int .i64 x.d, .int .i64 x.s, .int .i64 x.b] := by rw [hW1]; exact (blk_at (w) w.heap.size (by rfl) 30 [.int .i64 x.i, .int .i64 x.n, .int .i64 x.c, .int .i64 x.p, .int .i64 x.d, .int .i64 x.s, .int .i64 x.b]).keep (Below.refl (w.heap.size + 1) _) (by omega)
      rw [← hW1]
      have HB1 := Lib.hid hbel_
      have Hx1 := Lib.hid h_x
      clear hbel_ hW1  h_x
      have bb := HBX.out _ HB1.out
      have x_0 : W1.cell? ⟨w.heap.size, 0, none⟩ = some (.int .i64 x.i) := Hx1.out.cellAt (i := 0) (by simp)
      have x_1 : W1.cell? ⟨w.heap.size, 1, none⟩ = some (.int .i64 x.n) := Hx1.out.cellAt (i := 1) (by simp)
      have x_2 : W1.cell? ⟨w.heap.size, 2, none⟩ = some (.int .i64 x.c) := Hx1.out.cellAt (i := 2) (by simp)
      have x_3 : W1.cell? ⟨w.heap.size, 3, none⟩ = some (.int .i64 x.p) := Hx1.out.cellAt (i := 3) (by simp)
      have x_4 : W1.cell? ⟨w.heap.size, 4, none⟩ = some (.int .i64 x.d) := Hx1.out.cellAt (i := 4) (by simp)
      have x_5 : W1.cell? ⟨w.heap.size, 5, none⟩ = some (.int .i64 x.s) := Hx1.out.cellAt (i := 5) (by simp)
      have x_6 : W1.cell? ⟨w.heap.size, 6, none⟩ = some (.int .i64 x.b) := Hx1.out.cellAt (i := 6) (by simp)
      go_wp2_with fail
      clear bb
      clear x_0 x_1 x_2 x_3 x_4 x_5 x_6
      refine (HW.out true _).mono ?_
      rintro y w2 ⟨rfl, hb⟩
      have HB2 := Lib.hid (below_transG HB1.out hb)
      have Hx2 := Lib.hid (Hx1.out.keep hb Hx1.out.lt)
      clear hb
      go_wp2_with fail
      go_ret
      exact ⟨rfl, HB2.out⟩
    · rw [if_neg (fun z => h2 z.2)]
      have e : decide (x.d < len) = false := decide_eq_false h2
      clear h
      go_enter Tryd.func68, Tryd.ntmps68
      go_upto_region 1 with fail
      obtain ⟨W1, hW1⟩ : ∃ W, W = (w.alloc (.cells #[.int .i64 x.i, .int .i64 x.n, .int .i64 x.c, .int .i64 x.p, .int .i64 x.d, .int .i64 x.s, .int .i64 x.b] 30)) := ⟨_, rfl⟩
      have hbel_ : Below w.heap.size w W1 := by rw [hW1]; exact ((Below.refl w.heap.size w).alloc (Nat.le_refl w.heap.size) _)
      have h_x : Blk W1 w.heap.size 30 [.int .i64 x.i, .int .i64 x.n, .int .i64 x.c, .int .i64 x.p, .int .i64 x.d, .int .i64 x.s, .int .i64 x.b] := by rw [hW1]; exact (blk_at (w) w.heap.size (by rfl) 30 [.int .i64 x.i, .int .i64 x.n, .int .i64 x.c, .int .i64 x.p, .int .i64 x.d, .int .i64 x.s, .int .i64 x.b]).keep (Below.refl (w.heap.size + 1) _) (by omega)
      rw [← hW1]
      have HB1 := Lib.hid hbel_
      have Hx1 := Lib.hid h_x
      clear hbel_ hW1  h_x
      have bb := HBX.out _ HB1.out
      have x_0 : W1.cell? ⟨w.heap.size, 0, none⟩ = some (.int .i64 x.i) := Hx1.out.cellAt (i := 0) (by simp)
      have x_1 : W1.cell? ⟨w.heap.size, 1, none⟩ = some (.int .i64 x.n) := Hx1.out.cellAt (i := 1) (by simp)
      have x_2 : W1.cell? ⟨w.heap.size, 2, none⟩ = some (.int .i64 x.c) := Hx1.out.cellAt (i := 2) (by simp)
      have x_3 : W1.cell? ⟨w.heap.size, 3, none⟩ = some (.int .i64 x.p) := Hx1.out.cellAt (i := 3) (by simp)
      have x_4 : W1.cell? ⟨w.heap.size, 4, none⟩ = some (.int .i64 x.d) := Hx1.out.cellAt (i := 4) (by simp)
      have x_5 : W1.cell? ⟨w.heap.size, 5, none⟩ = some (.int .i64 x.s) := Hx1.out.cellAt (i := 5) (by simp)
      have x_6 : W1.cell? ⟨w.heap.size, 6, none⟩ = some (.int .i64 x.b) := Hx1.out.cellAt (i := 6) (by simp)
      go_wp2_with fail
      clear bb
      clear x_0 x_1 x_2 x_3 x_4 x_5 x_6
      refine (HW.out false _).mono ?_
      rintro y w2 ⟨rfl, hb⟩
      have HB2 := Lib.hid (below_transG HB1.out hb)
      have Hx2 := Lib.hid (Hx1.out.keep hb Hx1.out.lt)
      clear hb
      go_wp2_with fail
      go_ret
      exact ⟨rfl, HB2.out⟩
  · rw [if_neg (fun z => h z.1)]
    have k0 : (x.c == 1) = false := by rw [beq_eq_false_iff_ne]; exact h
    clear h
    go_enter Tryd.func68, Tryd.ntmps68
    go_upto_region 1 with fail
    obtain ⟨W1, hW1⟩ : ∃ W, W = (w.alloc (.cells #[.int .i64 x.i, .int .i64 x.n, .int .i64 x.c, .int .i64 x.p, .int .i64 x.d, .int .i64 x.s, .int .i64 x.b] 30)) := ⟨_, rfl⟩
    have hbel_ : Below w.heap.size w W1 := by rw [hW1]; exact ((Below.refl w.heap.size w).alloc (Nat.le_refl w.heap.size) _)
    have h_x : Blk W1 w.heap.size 30 [.int .i64 x.i, .int .i64 x.n, .int .i64 x.c, .int .i64 x.p, .int .i64 x.d, .int .i64 x.s, .int .i64 x.b] := by rw [hW1]; exact (blk_at (w) w.heap.size (by rfl) 30 [.int .i64 x.i, .int .i64 x.n, .int .i64 x.c, .int .i64 x.p, .int .i64 x.d, .int .i64 x.s, .int .i64 x.b]).keep (Below.refl (w.heap.size + 1) _) (by omega)
    rw [← hW1]
    have HB1 := Lib.hid hbel_
    have Hx1 := Lib.hid h_x
    clear hbel_ hW1  h_x
    have bb := HBX.out _ HB1.out
    have x_0 : W1.cell? ⟨w.heap.size, 0, none⟩ = some (.int .i64 x.i) := Hx1.out.cellAt (i := 0) (by simp)
    have x_1 : W1.cell? ⟨w.heap.size, 1, none⟩ = some (.int .i64 x.n) := Hx1.out.cellAt (i := 1) (by simp)
    have x_2 : W1.cell? ⟨w.heap.size, 2, none⟩ = some (.int .i64 x.c) := Hx1.out.cellAt (i := 2) (by simp)
    have x_3 : W1.cell? ⟨w.heap.size, 3, none⟩ = some (.int .i64 x.p) := Hx1.out.cellAt (i := 3) (by simp)
    have x_4 : W1.cell? ⟨w.heap.size, 4, none⟩ = some (.int .i64 x.d) := Hx1.out.cellAt (i := 4) (by simp)
    have x_5 : W1.cell? ⟨w.heap.size, 5, none⟩ = some (.int .i64 x.s) := Hx1.out.cellAt (i := 5) (by simp)
    have x_6 : W1.cell? ⟨w.heap.size, 6, none⟩ = some (.int .i64 x.b) := Hx1.out.cellAt (i := 6) (by simp)
    go_wp2_with fail
    clear bb
    clear x_0 x_1 x_2 x_3 x_4 x_5 x_6
    refine (HW.out false _).mono ?_
    rintro y w2 ⟨rfl, hb⟩
    have HB2 := Lib.hid (below_transG HB1.out hb)
    have Hx2 := Lib.hid (Hx1.out.keep hb Hx1.out.lt)
    clear hb
    go_wp2_with fail
    go_ret
    exact ⟨rfl, HB2.out⟩
theorem faults_any (a : Option Addr) (n cap : Nat) (len : Int) (w : World) : Calls Tryd.prog 40 #[.slice a n cap, .int .i64 len] w fun y w' => ∃ FB, w.heap.size ≤ FB ∧ y = .returned (.slice (some ⟨FB, 0, none⟩) 3 3) ∧ Blk w' FB 62 [.func (.func 65) #[] #[], .func (.func 66) #[] #[.pointer (some ⟨w.heap.size, 0, none⟩)], .func (.func 68) #[] #[.pointer (some ⟨w.heap.size + 1, 0, none⟩)]] ∧ Boxed w' w.heap.size 22 (.slice a n cap) ∧ Boxed w' (w.heap.size + 1) 2 (.int .i64 len) ∧ Below w.heap.size w w' := by
  go_enter Tryd.func40, Tryd.ntmps40
  go_upto_region 1 with fail
  obtain ⟨W1, hW1⟩ : ∃ W, W = ((w.alloc (.cells #[.slice a n cap] 22)).alloc (.cells #[.int .i64 len] 2)) := ⟨_, rfl⟩
  have hbel_ : Below w.heap.size w W1 := by rw [hW1]; exact (((Below.refl w.heap.size w).alloc (Nat.le_refl w.heap.size) _).alloc (by have := (Nat.le_refl w.heap.size); simp only [World.size_alloc]; omega) _)
  have h_l : Blk W1 w.heap.size 22 [.slice a n cap] := by rw [hW1]; exact (blk_at (w) w.heap.size (by rfl) 22 [.slice a n cap]).keep ((Below.refl (w.heap.size + 1) _).alloc (by simp only [World.size_alloc]; omega) _) (by omega)
  have h_n : Blk W1 (w.heap.size + 1) 2 [.int .i64 len] := by rw [hW1]; exact (blk_at ((w.alloc (.cells #[.slice a n cap] 22))) (w.heap.size + 1) (by simp only [World.size_alloc]) 2 [.int .i64 len]).keep (Below.refl ((w.heap.size + 1) + 1) _) (by omega)
  rw [← hW1]
  have HB1 := Lib.hid hbel_
  have Hl1 := Lib.hid h_l
  have Hn1 := Lib.hid h_n
  clear hbel_ hW1  h_l h_n
  go_wp2_with fail
  have hb2 : Below w.heap.size w (W1.alloc (.cells #[.func (.func 65) #[] #[], .func (.func 66) #[] #[.pointer (some ⟨w.heap.size, 0, none⟩)], .func (.func 68) #[] #[.pointer (some ⟨w.heap.size + 1, 0, none⟩)]] 62)) := HB1.out.alloc HB1.out.size _
  have hb3 := (Below.refl W1.heap.size W1).alloc (Nat.le_refl _) (.cells #[.func (.func 65) #[] #[], .func (.func 66) #[] #[.pointer (some ⟨w.heap.size, 0, none⟩)], .func (.func 68) #[] #[.pointer (some ⟨w.heap.size + 1, 0, none⟩)]] 62)
  have hl2 := Hl1.out.keep hb3 Hl1.out.lt
  have hn2 := Hn1.out.keep hb3 Hn1.out.lt
  have hnew := Blk.new W1 62 [.func (.func 65) #[] #[], .func (.func 66) #[] #[.pointer (some ⟨w.heap.size, 0, none⟩)], .func (.func 68) #[] #[.pointer (some ⟨w.heap.size + 1, 0, none⟩)]]
  have hsz := HB1.out.size
  clear hb3
  go_ret
  exact ⟨W1.heap.size, hsz, rfl, hnew, hl2, hn2, hb2⟩
end Go.Proofs.YtolhckahphmffaaDoor
