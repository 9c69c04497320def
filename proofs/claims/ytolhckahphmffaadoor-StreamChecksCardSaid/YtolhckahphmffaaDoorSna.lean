/- The library's deletion of those that are not of DmClass. Conditions: there are at most a million elements; the slice is the call's own. -/
import Derived.Test.YtolhckahphmffaaDoorSmy
namespace Go.Proofs.YtolhckahphmffaaDoor
open Go.RowKit Go.Shelf
set_option maxRecDepth 100000 in
set_option maxHeartbeats 4000000 in
theorem ix_some (g off cap : Nat) (L : List Sm) (hreach : L.length ≤ 1000000) (k0 : Nat) (hk0 : k0 < L.length) (hd : ∀ j (hj : j < L.length), j < k0 → L[j].c = 2) (hn : ¬ L[k0].c = 2) (w : World) (hg : g < w.heap.size) (hcell : ∀ j (hj : j < L.length) i u, (L[j].C)[i]? = some u → w.cell? ⟨g, off + j * 7 + i, none⟩ = some u) :
    Calls Tryd.prog 74 #[.slice (some ⟨g, off, none⟩) L.length cap, .func (.func 51) #[] #[]] w fun y w' => y = .returned (.int .i64 (k0 : Int)) ∧ Below w.heap.size w w' := by
  have HCELL := Lib.hid (show ∀ u, Below w.heap.size w u → ∀ k (hk : k < L.length), ∀ i v, (L[k].C)[i]? = some v → u.cell? ⟨g, off + k * 7 + i, none⟩ = some v from fun u hu k hk i v hv => (hu.cell (p := ⟨g, off + k * 7 + i, none⟩) hg).trans (hcell k hk i v hv))
  have HD := Lib.hid hd; have HN := Lib.hid hn
  clear hcell hd hn
  go_enter Tryd.func74, Tryd.ntmps74
  go_wp2_with fail
  go_loopw [8] (fun i wr => ∃ k : Nat, i = .int .i64 (k : Int) ∧ k ≤ k0 ∧ Below w.heap.size w wr) (fun i _ => L.length - (intOf i).toNat)
  case atStart => exact ⟨0, rfl, by omega, by first | exact Below.refl _ _ | exact (Below.refl _ _).drew⟩
  case round =>
    obtain ⟨k, rfl, hk, hB⟩ := hrel
    have HB := Lib.hid hB
    clear hB
    have hlt : k < L.length := by omega
    have i2 : (k : Int) < (L.length : Int) := by omega
    have i3 : (0 : Int) ≤ (k : Int) := by omega
    have hc := HCELL.out wr HB.out k hlt
    obtain ⟨x, hx⟩ : ∃ x, x = L[k] := ⟨_, rfl⟩
    rw [← hx] at hc
    have q0 : wr.cell? ⟨g, off + k * 7, none⟩ = some (.int .i64 x.i) := hc 0 _ rfl
    have q1 : wr.cell? ⟨g, off + k * 7 + 1, none⟩ = some (.int .i64 x.n) := hc 1 _ rfl
    have q2 : wr.cell? ⟨g, off + k * 7 + 2, none⟩ = some (.int .i64 x.c) := hc 2 _ rfl
    have q3 : wr.cell? ⟨g, off + k * 7 + 3, none⟩ = some (.int .i64 x.p) := hc 3 _ rfl
    have q4 : wr.cell? ⟨g, off + k * 7 + 4, none⟩ = some (.int .i64 x.d) := hc 4 _ rfl
    have q5 : wr.cell? ⟨g, off + k * 7 + 5, none⟩ = some (.int .i64 x.s) := hc 5 _ rfl
    have q6 : wr.cell? ⟨g, off + k * 7 + 6, none⟩ = some (.int .i64 x.b) := hc 6 _ rfl
    by_cases hke : k = k0
    · have HR := Lib.hid (show ∀ u, Calls Tryd.prog 51 #[.agg #[.int .i64 x.i, .int .i64 x.n, .int .i64 x.c, .int .i64 x.p, .int .i64 x.d, .int .i64 x.s, .int .i64 x.b]] u fun y w' => y = .returned (.bool true) ∧ Below u.heap.size u w' from fun u => by
        have := r1_any x u
        rw [show (x.c != 2) = true by rw [hx]; subst hke; simpa using HN.out] at this
        exact this)
      have HKE := Lib.hid hke
      clear hc hx hke
      go_wp2_with fail
      refine (HR.out _).mono ?_
      rintro y w1 ⟨rfl, hb⟩
      have HB1 := Lib.hid (below_transG HB.out hb)
      clear hb q0 q1 q2 q3 q4 q5 q6
      go_wp2_with fail
      go_ret
      exact ⟨by rw [HKE.out]; rfl, by first | exact HB1.out | exact HB1.out.drew⟩
    · have HR := Lib.hid (show ∀ u, Calls Tryd.prog 51 #[.agg #[.int .i64 x.i, .int .i64 x.n, .int .i64 x.c, .int .i64 x.p, .int .i64 x.d, .int .i64 x.s, .int .i64 x.b]] u fun y w' => y = .returned (.bool false) ∧ Below u.heap.size u w' from fun u => by
        have := r1_any x u
        rw [show (x.c != 2) = false by rw [hx, HD.out k hlt (by omega)]; rfl] at this
        exact this)
      clear hc hx
      go_wp2_with fail
      refine (HR.out _).mono ?_
      rintro y w1 ⟨rfl, hb⟩
      have HB1 := Lib.hid (below_transG HB.out hb)
      clear hb q0 q1 q2 q3 q4 q5 q6
      go_wp2_with fail
      go_roundw
      case rel => exact ⟨k + 1, by simp, by omega, by first | exact HB1.out | exact HB1.out.drew⟩
      case measure => simp [intOf]; omega
theorem clear7 (g o n c : Nat) (w : World) (hn : 0 < n) (hc : ∀ j, j < n * 7 → (w.cell? ⟨g, o + j, none⟩).isSome = true) (hf : ∀ j, j < n * 7 → w.frozen? ⟨g, o + j, none⟩ = false) : ∃ zs : List Value, zs.length = n * 7 ∧ ∀ ty, Sem.run Tryd.prog (Builtin.clear_ #[22] ty #[.slice (some ⟨g, o, none⟩) n c]) w = .ok (.tuple #[]) (w.setCells g o zs) := by
  obtain ⟨m, rfl⟩ : ∃ m, n = m + 1 := ⟨n - 1, by omega⟩
  refine ⟨(Builtin.zeroCells (.agg #[.int .i64 0, .int .i64 0, .int .i64 0, .int .i64 0, .int .i64 0, .int .i64 0, .int .i64 0] : Value).cells (m + 1)).toList, by simp [Builtin.zeroCells, Value.cells], fun ty => ?_⟩
  have hv : ∀ w, (zeroValue 30).run Tryd.prog w = .ok (.agg #[.int .i64 0, .int .i64 0, .int .i64 0, .int .i64 0, .int .i64 0, .int .i64 0, .int .i64 0]) w := fun w => by kernel_rfl
  have hst := run_storeCells_cells (P := Tryd.prog) g o (Builtin.zeroCells (.agg #[.int .i64 0, .int .i64 0, .int .i64 0, .int .i64 0, .int .i64 0, .int .i64 0, .int .i64 0] : Value).cells (m + 1)).toList 0 w (by simp [Builtin.zeroCells, Value.cells]; intro j hj; exact hc j (by omega)) (by simp [Builtin.zeroCells, Value.cells]; intro j hj; exact hf j (by omega)) (by
    intro v hv'
    simp [Builtin.zeroCells, Value.cells] at hv'
    obtain ⟨a, ha, rfl⟩ := hv'
    have h7 : a % 7 < 7 := Nat.mod_lt _ (by omega)
    obtain h | h | h | h | h | h | h : a % 7 = 0 ∨ a % 7 = 1 ∨ a % 7 = 2 ∨ a % 7 = 3 ∨ a % 7 = 4 ∨ a % 7 = 5 ∨ a % 7 = 6 := by omega
    all_goals rw [h]; rfl)
  simp only [Nat.add_zero] at hst
  simp [Builtin.clear_, run_underlying Tryd.underlying22, hv, hst]
set_option maxRecDepth 100000 in
set_option maxHeartbeats 8000000 in
theorem df_some (g cap : Nat) (L : List Sm) (l : List Value) (hreach : L.length ≤ 1000000) (hcap : L.length ≤ cap) (k0 : Nat) (hk0 : k0 < L.length) (hd : ∀ j (hj : j < L.length), j < k0 → L[j].c = 2) (hn : ¬ L[k0].c = 2) (w : World) (hB : Blk w g 30 l) (hl : L.length * 7 ≤ l.length) (ht : l.take (L.length * 7) = L.flatMap Sm.C) :
    Calls Tryd.prog 50 #[.slice (some ⟨g, 0, none⟩) L.length cap, .func (.func 51) #[] #[]] w fun y w' => y = .returned (.slice (some ⟨g, 0, none⟩) (dmL L).length cap) ∧ w.grownBy w' (some g) ∧ ∃ l', Blk w' g 30 l' ∧ l'.length = l.length ∧ l'.take ((dmL L).length * 7) = (dmL L).flatMap Sm.C := by
  have HIX := Lib.hid (ix_some g 0 cap L hreach k0 hk0 hd hn w hB.lt (fun j hj i u hu => by rw [Nat.zero_add]; exact blk_cells hB ht rfl j hj i u hu))
  have HS0 := Lib.hid (DelI.start hk0 ht hd hn)
  have HB0 := Lib.hid hB; have HL := Lib.hid hl; have HT := Lib.hid ht
  have hne : ((k0 : Int) == -1) = false := beq_eq_false_iff_ne.2 (by omega)
  clear hB hl ht hd hn
  go_enter Tryd.func50, Tryd.ntmps50
  go_wp2_with fail
  refine HIX.out.mono ?_
  rintro y w1 ⟨rfl, hb⟩
  have HB1 := Lib.hid (HB0.out.keep hb HB0.out.lt); have HG1 := Lib.hid (grow_below (grow_refl w g) hb)
  clear hb HIX HB0
  go_wp2_with fail
  go_loopw [5, 6] (fun s5 s6 wr => ∃ (i j : Nat) (l' : List Value), s5 = .int .i64 (i : Int) ∧ s6 = .int .i64 (j : Int) ∧ i < j ∧ j ≤ L.length ∧ DelI L l l' i j ∧ Blk wr g 30 l' ∧ w.grownBy wr (some g)) (fun _ s6 _ => L.length - (intOf s6).toNat)
  case atStart => exact ⟨k0, k0 + 1, l, rfl, by simp, by omega, by omega, HS0.out, by first | exact HB1.out | exact HB1.out.drew, by first | exact HG1.out | exact HG1.out.drew⟩
  case round =>
    obtain ⟨i, j, l', rfl, rfl, hij, hj, hI, hBk, hG⟩ := hrel
    have HI := Lib.hid hI; have HBK := Lib.hid hBk; have HG := Lib.hid hG
    clear hI hBk hG
    have hk : 0 ≤ (i : Int) := by omega
    by_cases hlt : j < L.length
    · have i2 : (j : Int) < (L.length : Int) := by omega
      have i3 : (0 : Int) ≤ (j : Int) := by omega
      have i4 : (i : Int) < (L.length : Int) := by omega
      have hc := fun q u (hu : (L[j].C)[q]? = some u) => HI.out.at hlt HT.out hu
      obtain ⟨x, hx⟩ : ∃ x, x = L[j] := ⟨_, rfl⟩
      rw [← hx] at hc
      have hat : ∀ q u, (x.C)[q]? = some u → wr.cell? ⟨g, j * 7 + q, none⟩ = some u := fun q u hu => by
        have h1 := hc q u hu
        have h2 := (List.getElem?_eq_some_iff.1 h1).1
        rw [HBK.out.cellAt h2, ← h1, List.getElem?_eq_getElem h2]
      have q0 : wr.cell? ⟨g, j * 7, none⟩ = some (.int .i64 x.i) := hat 0 _ rfl
      have q1 : wr.cell? ⟨g, j * 7 + 1, none⟩ = some (.int .i64 x.n) := hat 1 _ rfl
      have q2 : wr.cell? ⟨g, j * 7 + 2, none⟩ = some (.int .i64 x.c) := hat 2 _ rfl
      have q3 : wr.cell? ⟨g, j * 7 + 3, none⟩ = some (.int .i64 x.p) := hat 3 _ rfl
      have q4 : wr.cell? ⟨g, j * 7 + 4, none⟩ = some (.int .i64 x.d) := hat 4 _ rfl
      have q5 : wr.cell? ⟨g, j * 7 + 5, none⟩ = some (.int .i64 x.s) := hat 5 _ rfl
      have q6 : wr.cell? ⟨g, j * 7 + 6, none⟩ = some (.int .i64 x.b) := hat 6 _ rfl
      have HX := Lib.hid hx
      obtain ⟨BV, hBV⟩ : ∃ B, B = wr.heap.size := ⟨_, rfl⟩
      obtain ⟨W1, hW1⟩ : ∃ W, W = wr.alloc (.cells #[.int .i64 x.i, .int .i64 x.n, .int .i64 x.c, .int .i64 x.p, .int .i64 x.d, .int .i64 x.s, .int .i64 x.b] 30) := ⟨_, rfl⟩
      have hv : Blk W1 BV 30 x.C := by rw [hW1, hBV]; exact Blk.new wr 30 x.C
      have hw1 : Below wr.heap.size wr W1 := by rw [hW1]; exact (Below.refl _ wr).alloc (Nat.le_refl _) _
      have HV := Lib.hid hv
      have HBK1 := Lib.hid (HBK.out.keep hw1 HBK.out.lt); have HGW := Lib.hid (grow_below HG.out hw1)
      have HGV := Lib.hid (show g ≠ BV by have := HBK.out.lt; omega)
      clear hc hat hx hv hw1
      by_cases hcc : x.c = 2
      · have HR := Lib.hid (show ∀ u, Calls Tryd.prog 51 #[.agg #[.int .i64 x.i, .int .i64 x.n, .int .i64 x.c, .int .i64 x.p, .int .i64 x.d, .int .i64 x.s, .int .i64 x.b]] u fun y w' => y = .returned (.bool false) ∧ Below u.heap.size u w' from fun u => by
          have := r1_any x u
          rw [show (x.c != 2) = false by rw [hcc]; rfl] at this
          exact this)
        have HCC := Lib.hid hcc
        clear hcc
        go_upto_region 8 with fail
        rw [← hW1, ← hBV]
        clear hW1 hBV q0 q1 q2 q3 q4 q5 q6
        have d0 : W1.cell? ⟨BV, 0, none⟩ = some (.int .i64 x.i) := HV.out.cellAt (i := 0) (by simp [Sm.C])
        have d1 : W1.cell? ⟨BV, 1, none⟩ = some (.int .i64 x.n) := HV.out.cellAt (i := 1) (by simp [Sm.C])
        have d2 : W1.cell? ⟨BV, 2, none⟩ = some (.int .i64 x.c) := HV.out.cellAt (i := 2) (by simp [Sm.C])
        have d3 : W1.cell? ⟨BV, 3, none⟩ = some (.int .i64 x.p) := HV.out.cellAt (i := 3) (by simp [Sm.C])
        have d4 : W1.cell? ⟨BV, 4, none⟩ = some (.int .i64 x.d) := HV.out.cellAt (i := 4) (by simp [Sm.C])
        have d5 : W1.cell? ⟨BV, 5, none⟩ = some (.int .i64 x.s) := HV.out.cellAt (i := 5) (by simp [Sm.C])
        have d6 : W1.cell? ⟨BV, 6, none⟩ = some (.int .i64 x.b) := HV.out.cellAt (i := 6) (by simp [Sm.C])
        go_wp2_with fail
        refine (HR.out _).mono ?_
        rintro y w2 ⟨rfl, hb⟩
        have hv2 := HV.out.keep hb HV.out.lt
        have hk2 := HBK1.out.keep hb HBK1.out.lt
        have HG2 := Lib.hid (grow_below HGW.out hb)
        have HLI := Lib.hid (show i * 7 + 6 < l'.length by rw [HI.out.len]; have := HL.out; omega)
        clear hb d0 d1 d2 d3 d4 d5 d6
        have d0 : w2.cell? ⟨BV, 0, none⟩ = some (.int .i64 x.i) := hv2.cellAt (i := 0) (by simp [Sm.C])
        have d1 : w2.cell? ⟨BV, 1, none⟩ = some (.int .i64 x.n) := hv2.cellAt (i := 1) (by simp [Sm.C])
        have d2 : w2.cell? ⟨BV, 2, none⟩ = some (.int .i64 x.c) := hv2.cellAt (i := 2) (by simp [Sm.C])
        have d3 : w2.cell? ⟨BV, 3, none⟩ = some (.int .i64 x.p) := hv2.cellAt (i := 3) (by simp [Sm.C])
        have d4 : w2.cell? ⟨BV, 4, none⟩ = some (.int .i64 x.d) := hv2.cellAt (i := 4) (by simp [Sm.C])
        have d5 : w2.cell? ⟨BV, 5, none⟩ = some (.int .i64 x.s) := hv2.cellAt (i := 5) (by simp [Sm.C])
        have d6 : w2.cell? ⟨BV, 6, none⟩ = some (.int .i64 x.b) := hv2.cellAt (i := 6) (by simp [Sm.C])
        obtain ⟨z0, s0⟩ : ∃ z, w2.cell? ⟨g, i * 7, none⟩ = some z := ⟨_, hk2.cellAt (i := i * 7) (by have := HLI.out; omega)⟩
        have f0 : w2.frozen? ⟨g, i * 7, none⟩ = false := hk2.frozenAt _
        obtain ⟨z1, s1⟩ : ∃ z, w2.cell? ⟨g, i * 7 + 1, none⟩ = some z := ⟨_, hk2.cellAt (i := i * 7 + 1) (by have := HLI.out; omega)⟩
        have f1 : w2.frozen? ⟨g, i * 7 + 1, none⟩ = false := hk2.frozenAt _
        obtain ⟨z2, s2⟩ : ∃ z, w2.cell? ⟨g, i * 7 + 2, none⟩ = some z := ⟨_, hk2.cellAt (i := i * 7 + 2) (by have := HLI.out; omega)⟩
        have f2 : w2.frozen? ⟨g, i * 7 + 2, none⟩ = false := hk2.frozenAt _
        obtain ⟨z3, s3⟩ : ∃ z, w2.cell? ⟨g, i * 7 + 3, none⟩ = some z := ⟨_, hk2.cellAt (i := i * 7 + 3) (by have := HLI.out; omega)⟩
        have f3 : w2.frozen? ⟨g, i * 7 + 3, none⟩ = false := hk2.frozenAt _
        obtain ⟨z4, s4⟩ : ∃ z, w2.cell? ⟨g, i * 7 + 4, none⟩ = some z := ⟨_, hk2.cellAt (i := i * 7 + 4) (by have := HLI.out; omega)⟩
        have f4 : w2.frozen? ⟨g, i * 7 + 4, none⟩ = false := hk2.frozenAt _
        obtain ⟨z5, s5⟩ : ∃ z, w2.cell? ⟨g, i * 7 + 5, none⟩ = some z := ⟨_, hk2.cellAt (i := i * 7 + 5) (by have := HLI.out; omega)⟩
        have f5 : w2.frozen? ⟨g, i * 7 + 5, none⟩ = false := hk2.frozenAt _
        obtain ⟨z6, s6⟩ : ∃ z, w2.cell? ⟨g, i * 7 + 6, none⟩ = some z := ⟨_, hk2.cellAt (i := i * 7 + 6) (by have := HLI.out; omega)⟩
        have f6 : w2.frozen? ⟨g, i * 7 + 6, none⟩ = false := hk2.frozenAt _
        have HK2 := Lib.hid hk2
        clear hv2 hk2
        obtain ⟨X, hX⟩ : ∃ X, X = (((((((w2.setCell ⟨g, i * 7, none⟩ (.int .i64 x.i)).setCell ⟨g, i * 7 + 1, none⟩ (.int .i64 x.n)).setCell ⟨g, i * 7 + 2, none⟩ (.int .i64 x.c)).setCell ⟨g, i * 7 + 3, none⟩ (.int .i64 x.p)).setCell ⟨g, i * 7 + 4, none⟩ (.int .i64 x.d)).setCell ⟨g, i * 7 + 5, none⟩ (.int .i64 x.s)).setCell ⟨g, i * 7 + 6, none⟩ (.int .i64 x.b)) := ⟨_, rfl⟩
        have hXe : X = w2.setCells g (i * 7) x.C := by rw [hX]; rfl
        have HXB := Lib.hid (show Blk X g 30 (putL l' (i * 7) x.C) by rw [hXe]; exact Blk.sets _ _ _ _ HK2.out (by have := HLI.out; rw [Sm.C_len]; omega))
        have HXG := Lib.hid (show w.grownBy X (some g) by rw [hXe]; exact grow_sets _ _ _ HG2.out)
        have HII := Lib.hid (show DelI L l (putL l' (i * 7) x.C) (i + 1) (j + 1) by rw [HX.out]; exact HI.out.keep hij hlt HL.out (by rw [← HX.out]; exact HCC.out))
        clear hXe
        go_wp2_with fail
        rw [← hX]
        clear hX
        go_wp2_with fail
        go_roundw
        case rel => exact ⟨i + 1, j + 1, putL l' (i * 7) x.C, by simp, by simp, by omega, by omega, HII.out, HXB.out, HXG.out⟩
        case measure => simp [intOf]; omega
      · have HR := Lib.hid (show ∀ u, Calls Tryd.prog 51 #[.agg #[.int .i64 x.i, .int .i64 x.n, .int .i64 x.c, .int .i64 x.p, .int .i64 x.d, .int .i64 x.s, .int .i64 x.b]] u fun y w' => y = .returned (.bool true) ∧ Below u.heap.size u w' from fun u => by
          have := r1_any x u
          rw [show (x.c != 2) = true by simpa using hcc] at this
          exact this)
        have HII := Lib.hid (show DelI L l l' i (j + 1) from HI.out.skip hlt (by rw [← HX.out]; exact hcc))
        clear hcc
        go_upto_region 8 with fail
        rw [← hW1, ← hBV]
        clear hW1 hBV q0 q1 q2 q3 q4 q5 q6
        have d0 : W1.cell? ⟨BV, 0, none⟩ = some (.int .i64 x.i) := HV.out.cellAt (i := 0) (by simp [Sm.C])
        have d1 : W1.cell? ⟨BV, 1, none⟩ = some (.int .i64 x.n) := HV.out.cellAt (i := 1) (by simp [Sm.C])
        have d2 : W1.cell? ⟨BV, 2, none⟩ = some (.int .i64 x.c) := HV.out.cellAt (i := 2) (by simp [Sm.C])
        have d3 : W1.cell? ⟨BV, 3, none⟩ = some (.int .i64 x.p) := HV.out.cellAt (i := 3) (by simp [Sm.C])
        have d4 : W1.cell? ⟨BV, 4, none⟩ = some (.int .i64 x.d) := HV.out.cellAt (i := 4) (by simp [Sm.C])
        have d5 : W1.cell? ⟨BV, 5, none⟩ = some (.int .i64 x.s) := HV.out.cellAt (i := 5) (by simp [Sm.C])
        have d6 : W1.cell? ⟨BV, 6, none⟩ = some (.int .i64 x.b) := HV.out.cellAt (i := 6) (by simp [Sm.C])
        go_wp2_with fail
        refine (HR.out _).mono ?_
        rintro y w2 ⟨rfl, hb⟩
        have HK2 := Lib.hid (HBK1.out.keep hb HBK1.out.lt)
        have HG2 := Lib.hid (grow_below HGW.out hb)
        clear hb d0 d1 d2 d3 d4 d5 d6
        go_wp2_with fail
        go_roundw
        case rel => exact ⟨i, j + 1, l', rfl, by simp, by omega, by omega, HII.out, HK2.out, HG2.out⟩
        case measure => simp [intOf]; omega
    · have i2 : ¬ (j : Int) < (L.length : Int) := by omega
      obtain rfl : j = L.length := by omega
      have i4 : (i : Int) ≤ (L.length : Int) := by omega
      have i5 : (i : Int) ≤ (cap : Int) := by omega
      obtain ⟨zs, hzl, hcl⟩ := clear7 g (i * 7) (L.length - i) (cap - i) wr (by omega) (fun j hj => by
        have h1 := HI.out.len
        have h2 := HL.out
        have h : i * 7 + j < l'.length := by omega
        rw [HBK.out.cellAt h]
        rfl) (fun j hj => HBK.out.frozenAt _)
      have HD := Lib.hid HI.out.done
      have HXB := Lib.hid (show Blk (wr.setCells g (i * 7) zs) g 30 (putL l' (i * 7) zs) from Blk.sets _ _ _ _ HBK.out (by rw [hzl, HI.out.len]; have := HL.out; omega))
      have HXG := Lib.hid (show w.grownBy (wr.setCells g (i * 7) zs) (some g) from grow_sets _ _ _ HG.out)
      have HXL := Lib.hid (show (putL l' (i * 7) zs).length = l.length ∧ (putL l' (i * 7) zs).take ((dmL L).length * 7) = (dmL L).flatMap Sm.C by
        have h1 := HI.out.len; have h2 := HL.out
        refine ⟨(putL_len (by rw [hzl]; omega)).trans h1, ?_⟩
        rw [← HD.out.1, putL_front (by omega), HI.out.front, List.take_length])
      have HZL := Lib.hid hzl
      clear hzl
      go_wp2_with fail
      go_ret
      exact ⟨by rw [← HD.out.1]; rfl, HXG.out, _, HXB.out, HXL.out.1, HXL.out.2⟩
theorem df_any (g cap : Nat) (L : List Sm) (l : List Value) (hreach : L.length ≤ 1000000) (hcap : L.length ≤ cap) (w : World) (hB : Blk w g 30 l) (hl : L.length * 7 ≤ l.length) (ht : l.take (L.length * 7) = L.flatMap Sm.C) :
    Calls Tryd.prog 50 #[.slice (some ⟨g, 0, none⟩) L.length cap, .func (.func 51) #[] #[]] w fun y w' => y = .returned (.slice (some ⟨g, 0, none⟩) (dmL L).length cap) ∧ w.grownBy w' (some g) ∧ ∃ l', Blk w' g 30 l' ∧ l'.length = l.length ∧ l'.take ((dmL L).length * 7) = (dmL L).flatMap Sm.C := by
  by_cases hall : ∀ x ∈ L, x.c = 2
  · have e : dmL L = L := by
      unfold dmL
      rw [List.filter_eq_self]
      intro x hx
      simpa using hall x hx
    rw [e]
    refine (df_none (some ⟨g, 0, none⟩) L.length cap L hreach hall w (.inr ⟨g, 0, cap, rfl, hB.lt, fun j hj i u hu => by rw [Nat.zero_add]; exact blk_cells hB ht rfl j hj i u hu⟩)).mono ?_
    rintro y w' ⟨rfl, hb⟩
    exact ⟨rfl, grow_below (grow_refl w g) hb, l, hB.keep hb hB.lt, rfl, ht⟩
  · obtain ⟨k0, hk0, hn, hd⟩ : ∃ (k0 : Nat) (hk : k0 < L.length), ¬ L[k0].c = 2 ∧ ∀ j (hj : j < L.length), j < k0 → L[j].c = 2 := by
      have hex : ∃ x ∈ L, (x.c != 2) = true := by
        rcases Classical.not_forall.1 hall with ⟨x, hx⟩
        rcases Classical.not_imp.1 hx with ⟨h1, h2⟩
        exact ⟨x, h1, by simpa using h2⟩
      have h1 := List.findIdx_lt_length_of_exists hex
      refine ⟨L.findIdx (fun x => x.c != 2), h1, ?_, fun j hj hlt => ?_⟩
      · have := List.findIdx_getElem (w := h1)
        simpa using this
      · have := List.not_of_lt_findIdx hlt
        simpa using this
    exact df_some g cap L l hreach hcap k0 hk0 hd hn w hB hl ht
end Go.Proofs.YtolhckahphmffaaDoor
