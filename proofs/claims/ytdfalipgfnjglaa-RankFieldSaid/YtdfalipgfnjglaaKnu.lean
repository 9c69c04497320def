/- The document's own field of layer 21: who is master, a tick, a field that is opened. Conditions: each theorem says its own. -/
import Derived.Test.YtdfalipgfnjglaaKnt
namespace Go.Proofs.Ytdfalipgfnjglaa
open Go.RowKit
structure RFA (W : World) (A : Nat) (la : Option Addr) (lc : Nat) (b s p : Int) (n : Nat) (pk : Nat → Nat) (st : Fs) (ta : Option Addr) (tc : Nat) (told : List Int) : Prop where
  c : RC W A la lc b s p n pk st (.slice ta told.length tc)
  rd : Ints W ta told
  ta : ∀ g off, ta = some ⟨g, off, none⟩ → g < W.heap.size ∧ ¬ RC.S A la n pk st g
  fi : FI b s p n st told
  rc : rightR b s p = true
  tl : told.length ≤ 32
variable {W X : World} {A : Nat} {la : Option Addr} {lc : Nat} {b s p : Int} {n : Nat} {pk : Nat → Nat} {st : Fs} {tv : Value} {ta : Option Addr} {tc : Nat} {told : List Int}
theorem rtkS_alive {L : List Int} {k : Nat} : tkS b s p L st k ≠ none ↔ st k ≠ none := by
  unfold tkS
  cases st k <;> simp
theorem RS_tick {L : List Int} {j : Nat} : RC.S A la n pk (tkS b s p L st) j ↔ RC.S A la n pk st j := by
  unfold RC.S
  constructor
  · rintro (h | h | ⟨k, h1, h2, h3⟩)
    · exact .inl h
    · exact .inr (.inl h)
    · exact .inr (.inr ⟨k, h1, rtkS_alive.1 h2, h3⟩)
  · rintro (h | h | ⟨k, h1, h2, h3⟩)
    · exact .inl h
    · exact .inr (.inl h)
    · exact .inr (.inr ⟨k, h1, rtkS_alive.2 h2, h3⟩)
theorem RS_stI {L : List Int} {i j : Nat} : RC.S A la n pk (stI b s p L st i) j ↔ RC.S A la n pk st j := by
  unfold RC.S
  constructor
  · rintro (h | h | ⟨k, h1, h2, h3⟩)
    · exact .inl h
    · exact .inr (.inl h)
    · exact .inr (.inr ⟨k, h1, stI_alive.1 h2, h3⟩)
  · rintro (h | h | ⟨k, h1, h2, h3⟩)
    · exact .inl h
    · exact .inr (.inl h)
    · exact .inr (.inr ⟨k, h1, stI_alive.2 h2, h3⟩)
theorem RC.full {L : List Int} (h : RC W A la lc b s p n pk (stI b s p L st n) tv) : RC W A la lc b s p n pk (tkS b s p L st) tv := by
  refine ⟨h.blk, ?_, fun k hk d hd => h.node k hk d (by unfold stI; rw [if_pos hk]; exact hd), fun k hk hs => h.ap k hk (stI_alive.2 (rtkS_alive.1 hs)), fun i j hi hj his hjs => h.inj i j hi hj (stI_alive.2 (rtkS_alive.1 his)) (stI_alive.2 (rtkS_alive.1 hjs)), h.ne, h.n32⟩
  rw [row_eq (pk := pk) (st := stI b s p L st n) (fun j hj => ?_)]
  · exact h.row
  · unfold ptrV stI; rw [if_pos hj]
theorem RFA.on (h : RFA W A la lc b s p n pk st ta tc told) (hb : Below W.heap.size W X) : RFA X A la lc b s p n pk st ta tc told := ⟨h.c.on hb, h.rd.on hb, fun g off e => ⟨Nat.lt_of_lt_of_le (h.ta g off e).1 hb.size, (h.ta g off e).2⟩, h.fi, h.rc, h.tl⟩
theorem RFA.ints (h : RFA W A la lc b s p n pk st ta tc told) (hF : Fo (RC.S A la n pk st) W X) : Ints X ta told := fun j hj => by
  obtain ⟨g, off, h1, h2, h3⟩ := h.rd j hj
  exact ⟨g, off, h1, Nat.lt_of_lt_of_le h2 hF.size, (World.cell?_of_block (hF.block g h2 (h.ta g off h1).2)).trans h3⟩
theorem RFA.lts (h : RFA W A la lc b s p n pk st ta tc told) {j : Nat} (hj : RC.S A la n pk st j ∨ ∃ off, ta = some ⟨j, off, none⟩) : j < W.heap.size := by
  rcases hj with h1 | ⟨off, e⟩
  · exact h.c.lt h1
  · exact (h.ta j off e).1
theorem RFA.moved (h : RFA W A la lc b s p n pk st ta tc told) (hb : ∀ j, j < W.heap.size → (RC.S A la n pk st j ∨ ∃ off, ta = some ⟨j, off, none⟩) → X.heap[j]? = W.heap[j]?) (hs : W.heap.size ≤ X.heap.size) : RFA X A la lc b s p n pk st ta tc told :=
  ⟨h.c.moved hs (fun j hj => hb j (h.c.lt hj) (.inl hj)), fun j hj => by
    obtain ⟨g, off, h1, h2, h3⟩ := h.rd j hj
    exact ⟨g, off, h1, Nat.lt_of_lt_of_le h2 hs, (World.cell?_of_block (hb g h2 (.inr ⟨off, h1⟩))).trans h3⟩, fun g off e => ⟨Nat.lt_of_lt_of_le (h.ta g off e).1 hs, (h.ta g off e).2⟩, h.fi, h.rc, h.tl⟩
set_option maxRecDepth 100000 in
set_option maxHeartbeats 8000000 in
theorem rf_masters (h : RC W A la lc b s p n pk st tv) : Calls Try.prog 77 #[.pointer (some ⟨A, 0, none⟩)] W fun y w' => ∃ ya yc, y = .returned (.slice ya (pickI n (mastB st)).length yc) ∧ Ints w' ya (pickI n (mastB st)) ∧ (∀ g off, ya = some ⟨g, off, none⟩ → W.heap.size ≤ g) ∧ Below W.heap.size W w' := by
  have hn32 := h.n32
  obtain ⟨i0, z0, hi, hz, hzc, hsz, hby⟩ := info_zpartsN info_intN
  have HH := Lib.hid (show ∀ u, Below W.heap.size W u → RC u A la lc b s p n pk st tv from fun u hu => h.on hu)
  clear h
  go_enter Try.func77, Try.ntmps77
  go_wp2_with fail
  go_loopw [3, 4] (fun s3 s4 wr => ∃ (i : Nat) (yv : Value), yv = s3 ∧ s4 = .int .i64 (i : Int) ∧ i ≤ n ∧ Rw wr 1 yv (cN (pickI i (mastB st))) ∧ (∀ g, yv.ownBlock = some g → W.heap.size ≤ g) ∧ Below W.heap.size W wr) (fun _ s4 _ => n - (intOf s4).toNat)
  case atStart => exact ⟨0, _, rfl, rfl, by omega, Rw.nil _ _, (fun g e => by cases e), Below.refl _ _⟩
  case round =>
    obtain ⟨i, yv, rfl, rfl, hin, hY, hO, hB⟩ := hrel
    have HY := Lib.hid hY; have HO := Lib.hid hO; have HB := Lib.hid hB
    clear hY hO hB
    obtain ⟨_, _, _, c3, _⟩ := (HH.out wr HB.out).cell0
    by_cases hlt : i < n
    · have i1 : (i : Int) < (n : Int) := by omega
      have i2 : (0 : Int) ≤ (i : Int) := by omega
      obtain ⟨g, off, rfl, _, cR, _, _⟩ := (HH.out wr HB.out).cellR hlt
      have hps := pick_succ i (mastB st)
      cases hs : st i with
      | none =>
        rw [ptr_none hs] at cR
        have HPS := Lib.hid (show pickI (i + 1) (mastB st) = pickI i (mastB st) by rw [hps, show mastB st i = false by unfold mastB; rw [hs]]; simp)
        clear hps hs
        go_wp2_with fail
        go_roundw
        case rel => exact ⟨i + 1, _, rfl, by simp, by omega, by rw [HPS.out]; exact HY.out, HO.out, HB.out⟩
        case measure => simp [intOf]; omega
      | some d =>
        rw [ptr_some hs] at cR
        have hnd := (HH.out wr HB.out).node i hlt d hs
        have hq : mastB st i = d.m := by unfold mastB; rw [hs]
        obtain ⟨m0, di, ds⟩ := d
        have c4 : wr.cell? ⟨pk i, 4, none⟩ = some (.bool m0) := hnd.cellAt (i := 4) (by simp [ndC])
        simp only at hq
        clear hs hnd
        cases m0
        · have HPS := Lib.hid (show pickI (i + 1) (mastB st) = pickI i (mastB st) by rw [hps, hq]; simp)
          clear hps hq
          go_wp2_with fail
          go_roundw
          case rel => exact ⟨i + 1, _, rfl, by simp, by omega, by rw [HPS.out]; exact HY.out, HO.out, HB.out⟩
          case measure => simp [intOf]; omega
        · have HPS := Lib.hid (show pickI (i + 1) (mastB st) = pickI i (mastB st) ++ [(i : Int)] by rw [hps, hq]; rfl)
          have hle := pick_len i (mastB st)
          obtain ⟨PQL, hPQL⟩ : ∃ PQL, PQL = pickI i (mastB st) := ⟨_, rfl⟩
          rw [← hPQL] at HPS HY hle
          clear hps hq hPQL
          obtain ⟨m, yc, ya, rfl, hl2, hcap, hmx, _⟩ := HY.out
          have hl2 : PQL.length = m := by rw [cN_len, Nat.mul_one] at hl2; exact hl2
          subst hl2
          have HROW := Lib.hid (show ∀ u, Below wr.heap.size wr u → Rw u 1 (.slice ya PQL.length yc) (cN PQL) from fun u hu => HY.out.kept hu)
          have HLE := Lib.hid (show PQL.length ≤ 32 by omega)
          clear hle hcap hmx 
          go_wp2_with (at_builtin; refine wpList_append_rw _ rfl _ _ 79 79 rfl 3 i0 z0 1 8 Try.underlying79 hi hz hsz hby hzc ya PQL.length yc (cN PQL) rfl (HROW.out _ ((Below.refl _ _).alloc (Nat.le_refl _) _)) _ rfl 1 [.int .i64 (i : Int)] (Src.ofSlice _ Try.underlying79 ⟨wr.heap.size, 0, none⟩ 1 1 [.int .i64 (i : Int)] rfl (fun j u h => by first | exact newsG j u h | exact newsGd j u h) (fun u h => by rw [List.mem_singleton] at h; rw [h]; rfl)) (.inl (by decide)) (by have := HLE.out; omega) (by decide) ?_)
          intro g off cap' w5 h2 h3 h4 h5
          have h4b : ∀ j, j < (wr.alloc (.cells #[.int .i64 (i : Int)] 3)).heap.size → (Value.slice ya PQL.length yc).ownBlock ≠ some j → w5.heap[j]? = (wr.alloc (.cells #[.int .i64 (i : Int)] 3)).heap[j]? := fun j hj hn => h4 j (by first | exact hj | simpa using hj) hn
          have hbA := (Below.refl _ wr).alloc (Nat.le_refl _) (.cells #[.int .i64 (i : Int)] 3)
          have HY5 := Lib.hid (show Rw w5 1 (.slice (some ⟨g, off, none⟩) (PQL.length + 1) cap') (cN (PQL ++ [(i : Int)])) by rw [show cN (PQL ++ [(i : Int)]) = cN PQL ++ [.int .i64 (i : Int)] by simp [cN]]; exact h2)
          have HB5 := Lib.hid (show Below W.heap.size W w5 from ⟨(h3 0).os.trans (HB.out.trans (hbA.mono HB.out.size)).os, (h3 0).tape.trans (HB.out.trans (hbA.mono HB.out.size)).tape, (h3 0).output.trans (HB.out.trans (hbA.mono HB.out.size)).output, Nat.le_trans (HB.out.trans (hbA.mono HB.out.size)).size (h3 0).size, fun j hj => (h4b j (Nat.lt_of_lt_of_le hj (HB.out.trans (hbA.mono HB.out.size)).size) (fun e => by have := HO.out j e; omega)).trans ((HB.out.trans (hbA.mono HB.out.size)).block j hj)⟩)
          have HO5 := Lib.hid (show ∀ g', (Value.slice (some ⟨g, off, none⟩) (PQL.length + 1) cap').ownBlock = some g' → W.heap.size ≤ g' from fun g' e => by
            have e : g = g' := Option.some.inj e
            subst e
            rcases h5 with h | h
            · exact HO.out g h
            · have h9 := HB.out.size; have h10 := hbA.size; omega)
          clear h2 h3 h4 h4b h5 hbA HY HB HO HROW
          go_wp2_with fail
          go_roundw
          case rel => exact ⟨i + 1, _, rfl, by simp, by omega, by rw [HPS.out]; exact HY5.out, HO5.out, HB5.out⟩
          case measure => simp [intOf]; omega
    · obtain rfl : i = n := by omega
      obtain ⟨m, yc, ya, rfl, _⟩ := HY.out
      obtain ⟨e1, _, _, e4⟩ := rw_ints HY.out
      subst e1
      have HE := Lib.hid e4
      clear e4
      go_wp2_with fail
      go_ret
      exact ⟨ya, yc, rfl, HE.out, (fun g off e => HO.out g (by subst e; rfl)), HB.out⟩
set_option maxRecDepth 100000 in
set_option maxHeartbeats 8000000 in
theorem rf_tick (h : RFA W A la lc b s p n pk st ta tc told) (lost : Bool) : Calls Try.prog 74 #[.pointer (some ⟨A, 0, none⟩), .bool lost] W fun y w' => y = .returned (.tuple #[]) ∧ ∃ ya yc, RFA w' A la lc b s p n pk (tkS b s p (hearI lost told) st) ya yc (pickI n (tellB b s p (hearI lost told) st)) ∧ (∀ g off, ya = some ⟨g, off, none⟩ → W.heap.size ≤ g) ∧ Fo (RC.S A la n pk st) W w' := by
  obtain ⟨_, _, _, c3, c4⟩ := h.c.cell0
  have hn32 := h.c.n32
  have HTL := Lib.hid (pick_len n (tellB b s p (hearI lost told) st))
  obtain ⟨i0, z0, hi, hz, hzc, hsz, hby⟩ := info_zpartsN info_intN
  have HSZ := Lib.hid (fun j hj => h.c.lt (j := j) hj)
  have HRC := Lib.hid h.rc
  have HN32 := Lib.hid hn32
  have HHH := Lib.hid h
  cases lost
  · rw [show hearI false told = told from rfl] at HTL ⊢
    have HTK := Lib.hid (show ∀ (i : Nat) (hi : i < n) (d : Nd) (hd : st i = some d) (u : World) (h1 : Blk u (pk i) 128 (ndC b s p i d)) (h3 : Fo (RC.S A la n pk st) W u), Calls Try.prog 61 #[.pointer (some ⟨pk i, 0, none⟩), .slice ta told.length tc] u fun y w' => y = .returned (.bool (tkN b s p i told d).2) ∧ Blk w' (pk i) 128 (ndC b s p i (tkN b s p i told d).1) ∧ Kp (pk i) (.slice none 0 0) u w' from fun i hi d hd u h1 h3 => rrk_tick b s p i h.rc (by omega) d (h.fi.ok i hi d hd) (pk i) told ta tc (by have := h.tl; omega) u h1 (h.ints h3))
    have H0 := Lib.hid (h.c.cong (stI_zero b s p told st))
    have HFI := Lib.hid (h.fi.tick (rightR_rc h.rc) told)
    clear h
    go_enter Try.func74, Try.ntmps74
    go_wp2_with fail
    clear c4
    go_loopw [5, 6] (fun s5 s6 wr => ∃ (i : Nat) (yv : Value), yv = s5 ∧ s6 = .int .i64 (i : Int) ∧ i ≤ n ∧ RC wr A la lc b s p n pk (stI b s p told st i) (.slice ta told.length tc) ∧ Rw wr 1 yv (cN (pickI i (tellB b s p told st))) ∧ (∀ g, yv.ownBlock = some g → W.heap.size ≤ g) ∧ Fo (RC.S A la n pk st) W wr) (fun _ s6 _ => n - (intOf s6).toNat)
    case atStart => exact ⟨0, _, rfl, rfl, by omega, H0.out, Rw.nil _ _, (fun g e => by cases e), Fo.refl _ _⟩
    case round =>
      obtain ⟨i, yv, rfl, rfl, hin, hC, hY, hO, hF⟩ := hrel
      have HC := Lib.hid hC; have HY := Lib.hid hY; have HO := Lib.hid hO; have HF := Lib.hid hF
      clear hC hY hO hF c3
      obtain ⟨_, _, _, c3, _⟩ := HC.out.cell0
      by_cases hlt : i < n
      · have i1 : (i : Int) < (n : Int) := by omega
        have i2 : (0 : Int) ≤ (i : Int) := by omega
        obtain ⟨g, off, rfl, _, cR, _, _⟩ := HC.out.cellR hlt
        have hps := pick_succ i (tellB b s p told st)
        cases hs : st i with
        | none =>
          rw [ptr_none (show (stI b s p told st i) i = none by rw [stI_at]; exact hs)] at cR
          have HPS := Lib.hid (show pickI (i + 1) (tellB b s p told st) = pickI i (tellB b s p told st) by rw [hps, show (tellB b s p told st) i = false by unfold tellB; rw [hs]]; simp)
          have HS := Lib.hid hs
          clear hps hs
          go_wp2_with fail
          refine (rrk_tick_nil _ _).mono ?_
          rintro y w1 ⟨rfl, rfl⟩
          clear cR
          go_wp2_with fail
          go_roundw
          case rel => exact ⟨i + 1, _, rfl, by simp, by omega, HC.out.cong (stI_none HS.out), by rw [HPS.out]; exact HY.out, HO.out, HF.out⟩
          case measure => simp [intOf]; omega
        | some d =>
          have hsi : (stI b s p told st i) i = some d := by rw [stI_at]; exact hs
          rw [ptr_some hsi] at cR
          have HND := Lib.hid (HC.out.node i hlt d hsi)
          have HK := Lib.hid (HTK.out i hlt d hs wr HND.out HF.out)
          obtain ⟨d', hd'⟩ : ∃ d', d' = (tkN b s p i told d).1 := ⟨_, rfl⟩
          obtain ⟨v, hv⟩ : ∃ v, v = (tkN b s p i told d).2 := ⟨_, rfl⟩
          rw [← hd', ← hv] at HK
          have HCG := Lib.hid (show ∀ k, stI b s p told st (i + 1) k = setS (stI b s p told st i) i (some d') k by rw [hd']; exact stI_some hs)
          have hq : (tellB b s p told st) i = v := by unfold tellB; rw [hs]; exact hv.symm
          have HT2 := Lib.hid (show RC.S A (some ⟨g, off, none⟩) n pk st (pk i) from .inr (.inr ⟨i, hlt, (fun e => by rw [hs] at e; cases e), rfl⟩))
          have HSI := Lib.hid hsi
          clear hd' hv hsi hs
          go_wp2_with fail
          refine HK.out.mono ?_
          rintro y w4 ⟨rfl, hB4, hK4⟩
          have HC4 := Lib.hid (show RC w4 A (some ⟨g, off, none⟩) lc b s p n pk (stI b s p told st (i + 1)) (.slice ta told.length tc) from (HC.out.step hlt HSI.out hB4 hK4).cong HCG.out)
          have HF4 := Lib.hid (HF.out.trans (T := RC.S A (some ⟨g, off, none⟩) n pk st) (Fo.of_kp hK4 HT2.out) (fun _ h => .inl h))
          have hyk : ∀ g, yv.ownBlock = some g → w4.heap[g]? = wr.heap[g]? := fun g' e => hK4.block g' (HY.out.lt g' e) (fun e2 => by have h8 := HO.out g' e; have h9 := HSZ.out (pk i) HT2.out; omega) (fun e => by cases e)
          have HY4 := Lib.hid (show Rw w4 1 yv (cN (pickI i (tellB b s p told st))) from HY.out.on hK4.size hyk)
          clear hB4 hK4 hyk cR HK HND HC HF HY
          cases v
          · have HPS := Lib.hid (show pickI (i + 1) (tellB b s p told st) = pickI i (tellB b s p told st) by rw [hps, hq]; simp)
            clear hps hq
            go_wp2_with fail
            go_roundw
            case rel => exact ⟨i + 1, _, rfl, by simp, by omega, HC4.out, by rw [HPS.out]; exact HY4.out, HO.out, HF4.out⟩
            case measure => simp [intOf]; omega
          · have HPS := Lib.hid (show pickI (i + 1) (tellB b s p told st) = pickI i (tellB b s p told st) ++ [(i : Int)] by rw [hps, hq]; rfl)
            have hle := pick_len i (tellB b s p told st)
            obtain ⟨PQL, hPQL⟩ : ∃ PQL, PQL = pickI i (tellB b s p told st) := ⟨_, rfl⟩
            rw [← hPQL] at HPS HY4 hle
            clear hps hq hPQL
            obtain ⟨m, yc, ya, rfl, hl2, hcap, hmx, _⟩ := HY4.out
            have hl2 : PQL.length = m := by rw [cN_len, Nat.mul_one] at hl2; exact hl2
            subst hl2
            have HROW := Lib.hid (show ∀ u, Below w4.heap.size w4 u → Rw u 1 (.slice ya PQL.length yc) (cN PQL) from fun u hu => HY4.out.kept hu)
            have HLE := Lib.hid (show PQL.length ≤ 32 by omega)
            clear hle hcap hmx 
            go_wp2_with (at_builtin; refine wpList_append_rw _ rfl _ _ 79 79 rfl 3 i0 z0 1 8 Try.underlying79 hi hz hsz hby hzc ya PQL.length yc (cN PQL) rfl (HROW.out _ ((Below.refl _ _).alloc (Nat.le_refl _) _)) _ rfl 1 [.int .i64 (i : Int)] (Src.ofSlice _ Try.underlying79 ⟨w4.heap.size, 0, none⟩ 1 1 [.int .i64 (i : Int)] rfl (fun j u h => by first | exact newsG j u h | exact newsGd j u h) (fun u h => by rw [List.mem_singleton] at h; rw [h]; rfl)) (.inl (by decide)) (by have := HLE.out; omega) (by decide) ?_)
            intro g2 off2 cap' w5 h2 h3 h4 h5
            have h4b : ∀ j, j < (w4.alloc (.cells #[.int .i64 (i : Int)] 3)).heap.size → (Value.slice ya PQL.length yc).ownBlock ≠ some j → w5.heap[j]? = (w4.alloc (.cells #[.int .i64 (i : Int)] 3)).heap[j]? := fun j hj hn => h4 j (by first | exact hj | simpa using hj) hn
            have hbA := (Below.refl _ w4).alloc (Nat.le_refl _) (.cells #[.int .i64 (i : Int)] 3)
            have HY5 := Lib.hid (show Rw w5 1 (.slice (some ⟨g2, off2, none⟩) (PQL.length + 1) cap') (cN (PQL ++ [(i : Int)])) by rw [show cN (PQL ++ [(i : Int)]) = cN PQL ++ [.int .i64 (i : Int)] by simp [cN]]; exact h2)
            have HF5 := Lib.hid (show Fo (RC.S A (some ⟨g, off, none⟩) n pk st) W w5 from fo_grow (HF4.out.step hbA) (h3 0) h4b HO.out)
            have HC5 := Lib.hid (show RC w5 A (some ⟨g, off, none⟩) lc b s p n pk (stI b s p told st (i + 1)) (.slice ta told.length tc) from (HC4.out.on hbA).moved (h3 0).size (fun j hj => h4b j (Nat.lt_of_lt_of_le (HC4.out.lt hj) hbA.size) (fun e => by
              have h8 := HO.out j e
              have h9 := HSZ.out j (RS_stI.1 hj)
              omega)))
            have HO5 := Lib.hid (show ∀ g', (Value.slice (some ⟨g2, off2, none⟩) (PQL.length + 1) cap').ownBlock = some g' → W.heap.size ≤ g' from fun g' e => by
              have e : g2 = g' := Option.some.inj e
              subst e
              rcases h5 with h | h
              · exact HO.out g2 h
              · have h9 := HF4.out.size; have h10 := hbA.size; omega)
            clear h2 h3 h4 h4b h5 hbA HY4 HF4 HC4 HO HROW
            go_wp2_with fail
            go_roundw
            case rel => exact ⟨i + 1, _, rfl, by simp, by omega, HC5.out, by rw [HPS.out]; exact HY5.out, HO5.out, HF5.out⟩
            case measure => simp [intOf]; omega
      · obtain rfl : i = n := by omega
        obtain ⟨m, yc, ya, rfl, _⟩ := HY.out
        obtain ⟨e1, _, _, e4⟩ := rw_ints HY.out
        subst e1
        have HE := Lib.hid e4
        clear e4
        have fA := HC.out.blk.frozenAt 4
        obtain ⟨_, _, _, _, c4⟩ := HC.out.cell0
        have hcl := HC.out.blk.lt
        have HCF := Lib.hid (HC.out.full)
        go_wp2_with fail
        go_end0
        refine ⟨rfl, ya, yc, ⟨HCF.out.tell _, ?_, ?_, HFI.out, HRC.out, by have h1 := HTL.out; have h2 := HN32.out; omega⟩, (fun g off e => HO.out g (by subst e; rfl)), HF.out.trans (T := RC.S A la i pk st) (Fo.of_kp ((Kp.refl A (.slice none 0 0) wr).set 4 _) (.inl rfl)) (fun _ h => .inl h)⟩
        · intro j hj
          obtain ⟨g, off, h1, h2, h3⟩ := HE.out j hj
          have h4 := HO.out g (by subst h1; rfl)
          have h6 := HSZ.out A (.inl rfl)
          refine ⟨g, off, h1, by rw [setCell_sizeG]; exact h2, ?_⟩
          rw [World.cell?_of_block (Below.heap_setCell wr ⟨A, 4, none⟩ _ g (by show g ≠ A; omega))]
          exact h3
        · intro g off e
          have h4 := HO.out g (by subst e; rfl)
          refine ⟨by rw [setCell_sizeG]; exact HY.out.lt g (by subst e; rfl), fun hS => ?_⟩
          have h6 := HSZ.out g (RS_tick.1 hS)
          omega
  · rw [show hearI true told = ([] : List Int) from rfl] at HTL ⊢
    have HTK := Lib.hid (show ∀ (i : Nat) (hi : i < n) (d : Nd) (hd : st i = some d) (u : World) (h1 : Blk u (pk i) 128 (ndC b s p i d)) (h3 : Fo (RC.S A la n pk st) W u), Calls Try.prog 61 #[.pointer (some ⟨pk i, 0, none⟩), .slice none 0 0] u fun y w' => y = .returned (.bool (tkN b s p i ([] : List Int) d).2) ∧ Blk w' (pk i) 128 (ndC b s p i (tkN b s p i ([] : List Int) d).1) ∧ Kp (pk i) (.slice none 0 0) u w' from fun i hi d hd u h1 h3 => rrk_tick b s p i h.rc (by omega) d (h.fi.ok i hi d hd) (pk i) ([] : List Int) none 0 (by simp) u h1 (Ints.nil _ _))
    have H0 := Lib.hid (h.c.cong (stI_zero b s p ([] : List Int) st))
    have HFI := Lib.hid (h.fi.tick (rightR_rc h.rc) ([] : List Int))
    clear h
    go_enter Try.func74, Try.ntmps74
    go_wp2_with fail
    clear c4
    go_loopw [5, 6] (fun s5 s6 wr => ∃ (i : Nat) (yv : Value), yv = s5 ∧ s6 = .int .i64 (i : Int) ∧ i ≤ n ∧ RC wr A la lc b s p n pk (stI b s p ([] : List Int) st i) (.slice ta told.length tc) ∧ Rw wr 1 yv (cN (pickI i (tellB b s p ([] : List Int) st))) ∧ (∀ g, yv.ownBlock = some g → W.heap.size ≤ g) ∧ Fo (RC.S A la n pk st) W wr) (fun _ s6 _ => n - (intOf s6).toNat)
    case atStart => exact ⟨0, _, rfl, rfl, by omega, H0.out, Rw.nil _ _, (fun g e => by cases e), Fo.refl _ _⟩
    case round =>
      obtain ⟨i, yv, rfl, rfl, hin, hC, hY, hO, hF⟩ := hrel
      have HC := Lib.hid hC; have HY := Lib.hid hY; have HO := Lib.hid hO; have HF := Lib.hid hF
      clear hC hY hO hF c3
      obtain ⟨_, _, _, c3, _⟩ := HC.out.cell0
      by_cases hlt : i < n
      · have i1 : (i : Int) < (n : Int) := by omega
        have i2 : (0 : Int) ≤ (i : Int) := by omega
        obtain ⟨g, off, rfl, _, cR, _, _⟩ := HC.out.cellR hlt
        have hps := pick_succ i (tellB b s p ([] : List Int) st)
        cases hs : st i with
        | none =>
          rw [ptr_none (show (stI b s p ([] : List Int) st i) i = none by rw [stI_at]; exact hs)] at cR
          have HPS := Lib.hid (show pickI (i + 1) (tellB b s p ([] : List Int) st) = pickI i (tellB b s p ([] : List Int) st) by rw [hps, show (tellB b s p ([] : List Int) st) i = false by unfold tellB; rw [hs]]; simp)
          have HS := Lib.hid hs
          clear hps hs
          go_wp2_with fail
          refine (rrk_tick_nil _ _).mono ?_
          rintro y w1 ⟨rfl, rfl⟩
          clear cR
          go_wp2_with fail
          go_roundw
          case rel => exact ⟨i + 1, _, rfl, by simp, by omega, HC.out.cong (stI_none HS.out), by rw [HPS.out]; exact HY.out, HO.out, HF.out⟩
          case measure => simp [intOf]; omega
        | some d =>
          have hsi : (stI b s p ([] : List Int) st i) i = some d := by rw [stI_at]; exact hs
          rw [ptr_some hsi] at cR
          have HND := Lib.hid (HC.out.node i hlt d hsi)
          have HK := Lib.hid (HTK.out i hlt d hs wr HND.out HF.out)
          obtain ⟨d', hd'⟩ : ∃ d', d' = (tkN b s p i ([] : List Int) d).1 := ⟨_, rfl⟩
          obtain ⟨v, hv⟩ : ∃ v, v = (tkN b s p i ([] : List Int) d).2 := ⟨_, rfl⟩
          rw [← hd', ← hv] at HK
          have HCG := Lib.hid (show ∀ k, stI b s p ([] : List Int) st (i + 1) k = setS (stI b s p ([] : List Int) st i) i (some d') k by rw [hd']; exact stI_some hs)
          have hq : (tellB b s p ([] : List Int) st) i = v := by unfold tellB; rw [hs]; exact hv.symm
          have HT2 := Lib.hid (show RC.S A (some ⟨g, off, none⟩) n pk st (pk i) from .inr (.inr ⟨i, hlt, (fun e => by rw [hs] at e; cases e), rfl⟩))
          have HSI := Lib.hid hsi
          clear hd' hv hsi hs
          go_wp2_with fail
          refine HK.out.mono ?_
          rintro y w4 ⟨rfl, hB4, hK4⟩
          have HC4 := Lib.hid (show RC w4 A (some ⟨g, off, none⟩) lc b s p n pk (stI b s p ([] : List Int) st (i + 1)) (.slice ta told.length tc) from (HC.out.step hlt HSI.out hB4 hK4).cong HCG.out)
          have HF4 := Lib.hid (HF.out.trans (T := RC.S A (some ⟨g, off, none⟩) n pk st) (Fo.of_kp hK4 HT2.out) (fun _ h => .inl h))
          have hyk : ∀ g, yv.ownBlock = some g → w4.heap[g]? = wr.heap[g]? := fun g' e => hK4.block g' (HY.out.lt g' e) (fun e2 => by have h8 := HO.out g' e; have h9 := HSZ.out (pk i) HT2.out; omega) (fun e => by cases e)
          have HY4 := Lib.hid (show Rw w4 1 yv (cN (pickI i (tellB b s p ([] : List Int) st))) from HY.out.on hK4.size hyk)
          clear hB4 hK4 hyk cR HK HND HC HF HY
          cases v
          · have HPS := Lib.hid (show pickI (i + 1) (tellB b s p ([] : List Int) st) = pickI i (tellB b s p ([] : List Int) st) by rw [hps, hq]; simp)
            clear hps hq
            go_wp2_with fail
            go_roundw
            case rel => exact ⟨i + 1, _, rfl, by simp, by omega, HC4.out, by rw [HPS.out]; exact HY4.out, HO.out, HF4.out⟩
            case measure => simp [intOf]; omega
          · have HPS := Lib.hid (show pickI (i + 1) (tellB b s p ([] : List Int) st) = pickI i (tellB b s p ([] : List Int) st) ++ [(i : Int)] by rw [hps, hq]; rfl)
            have hle := pick_len i (tellB b s p ([] : List Int) st)
            obtain ⟨PQL, hPQL⟩ : ∃ PQL, PQL = pickI i (tellB b s p ([] : List Int) st) := ⟨_, rfl⟩
            rw [← hPQL] at HPS HY4 hle
            clear hps hq hPQL
            obtain ⟨m, yc, ya, rfl, hl2, hcap, hmx, _⟩ := HY4.out
            have hl2 : PQL.length = m := by rw [cN_len, Nat.mul_one] at hl2; exact hl2
            subst hl2
            have HROW := Lib.hid (show ∀ u, Below w4.heap.size w4 u → Rw u 1 (.slice ya PQL.length yc) (cN PQL) from fun u hu => HY4.out.kept hu)
            have HLE := Lib.hid (show PQL.length ≤ 32 by omega)
            clear hle hcap hmx 
            go_wp2_with (at_builtin; refine wpList_append_rw _ rfl _ _ 79 79 rfl 3 i0 z0 1 8 Try.underlying79 hi hz hsz hby hzc ya PQL.length yc (cN PQL) rfl (HROW.out _ ((Below.refl _ _).alloc (Nat.le_refl _) _)) _ rfl 1 [.int .i64 (i : Int)] (Src.ofSlice _ Try.underlying79 ⟨w4.heap.size, 0, none⟩ 1 1 [.int .i64 (i : Int)] rfl (fun j u h => by first | exact newsG j u h | exact newsGd j u h) (fun u h => by rw [List.mem_singleton] at h; rw [h]; rfl)) (.inl (by decide)) (by have := HLE.out; omega) (by decide) ?_)
            intro g2 off2 cap' w5 h2 h3 h4 h5
            have h4b : ∀ j, j < (w4.alloc (.cells #[.int .i64 (i : Int)] 3)).heap.size → (Value.slice ya PQL.length yc).ownBlock ≠ some j → w5.heap[j]? = (w4.alloc (.cells #[.int .i64 (i : Int)] 3)).heap[j]? := fun j hj hn => h4 j (by first | exact hj | simpa using hj) hn
            have hbA := (Below.refl _ w4).alloc (Nat.le_refl _) (.cells #[.int .i64 (i : Int)] 3)
            have HY5 := Lib.hid (show Rw w5 1 (.slice (some ⟨g2, off2, none⟩) (PQL.length + 1) cap') (cN (PQL ++ [(i : Int)])) by rw [show cN (PQL ++ [(i : Int)]) = cN PQL ++ [.int .i64 (i : Int)] by simp [cN]]; exact h2)
            have HF5 := Lib.hid (show Fo (RC.S A (some ⟨g, off, none⟩) n pk st) W w5 from fo_grow (HF4.out.step hbA) (h3 0) h4b HO.out)
            have HC5 := Lib.hid (show RC w5 A (some ⟨g, off, none⟩) lc b s p n pk (stI b s p ([] : List Int) st (i + 1)) (.slice ta told.length tc) from (HC4.out.on hbA).moved (h3 0).size (fun j hj => h4b j (Nat.lt_of_lt_of_le (HC4.out.lt hj) hbA.size) (fun e => by
              have h8 := HO.out j e
              have h9 := HSZ.out j (RS_stI.1 hj)
              omega)))
            have HO5 := Lib.hid (show ∀ g', (Value.slice (some ⟨g2, off2, none⟩) (PQL.length + 1) cap').ownBlock = some g' → W.heap.size ≤ g' from fun g' e => by
              have e : g2 = g' := Option.some.inj e
              subst e
              rcases h5 with h | h
              · exact HO.out g2 h
              · have h9 := HF4.out.size; have h10 := hbA.size; omega)
            clear h2 h3 h4 h4b h5 hbA HY4 HF4 HC4 HO HROW
            go_wp2_with fail
            go_roundw
            case rel => exact ⟨i + 1, _, rfl, by simp, by omega, HC5.out, by rw [HPS.out]; exact HY5.out, HO5.out, HF5.out⟩
            case measure => simp [intOf]; omega
      · obtain rfl : i = n := by omega
        obtain ⟨m, yc, ya, rfl, _⟩ := HY.out
        obtain ⟨e1, _, _, e4⟩ := rw_ints HY.out
        subst e1
        have HE := Lib.hid e4
        clear e4
        have fA := HC.out.blk.frozenAt 4
        obtain ⟨_, _, _, _, c4⟩ := HC.out.cell0
        have hcl := HC.out.blk.lt
        have HCF := Lib.hid (HC.out.full)
        go_wp2_with fail
        go_end0
        refine ⟨rfl, ya, yc, ⟨HCF.out.tell _, ?_, ?_, HFI.out, HRC.out, by have h1 := HTL.out; have h2 := HN32.out; omega⟩, (fun g off e => HO.out g (by subst e; rfl)), HF.out.trans (T := RC.S A la i pk st) (Fo.of_kp ((Kp.refl A (.slice none 0 0) wr).set 4 _) (.inl rfl)) (fun _ h => .inl h)⟩
        · intro j hj
          obtain ⟨g, off, h1, h2, h3⟩ := HE.out j hj
          have h4 := HO.out g (by subst h1; rfl)
          have h6 := HSZ.out A (.inl rfl)
          refine ⟨g, off, h1, by rw [setCell_sizeG]; exact h2, ?_⟩
          rw [World.cell?_of_block (Below.heap_setCell wr ⟨A, 4, none⟩ _ g (by show g ≠ A; omega))]
          exact h3
        · intro g off e
          have h4 := HO.out g (by subst e; rfl)
          refine ⟨by rw [setCell_sizeG]; exact HY.out.lt g (by subst e; rfl), fun hS => ?_⟩
          have h6 := HSZ.out g (RS_tick.1 hS)
          omega
end Go.Proofs.Ytdfalipgfnjglaa
