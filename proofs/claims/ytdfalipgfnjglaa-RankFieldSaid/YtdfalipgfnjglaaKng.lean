/- Package rank: those nodes of a field that say yes when they are asked: who tells its turn in a tick, who is master. Conditions: each theorem says its own. -/
import Derived.Test.YtdfalipgfnjglaaKnf
namespace Go.Proofs.Ytdfalipgfnjglaa
open Go.RowKit
variable {W : World} {A NB : Nat} {b s p : Int} {n : Nat} {pk : Nat → Nat} {st : Fs} {tv : Value}
def cN (L : List Int) : List Value := L.map (fun z => .int .i64 z)
theorem cN_len (L : List Int) : (cN L).length = L.length := by simp [cN]
theorem info_zpartsN {P : Program} {T : TypeId} {a b c : Nat} (h : (P.info? T).map (fun i => (i.zero.map (·.cells.size), i.size, i.bytes)) = some (some a, b, c)) : ∃ i z, P.info? T = some i ∧ i.zero = some z ∧ z.cells.size = a ∧ i.size = b ∧ i.bytes = c := by
  cases hi : P.info? T with
  | none => rw [hi] at h; cases h
  | some i =>
    rw [hi] at h
    simp only [Option.map_some, Option.some.injEq, Prod.mk.injEq] at h
    cases hz : i.zero with
    | none => rw [hz] at h; cases h.1
    | some z => rw [hz] at h; simp at h; exact ⟨i, z, rfl, hz, h.1, h.2.1, h.2.2⟩
theorem info_intN : (Try.prog.info? 3).map (fun i => (i.zero.map (·.cells.size), i.size, i.bytes)) = some (some 1, 1, 8) := by kernel_rfl
theorem rw_ints {W : World} {a : Option Addr} {m cap : Nat} {L : List Int} (h : Rw W 1 (.slice a m cap) (cN L)) : m = L.length ∧ cap ≤ maxLen ∧ m ≤ cap ∧ Ints W a L := by
  obtain ⟨m', cap', a', e, h1, h2, h3, h4⟩ := h
  injection e with e1 e2 e3
  subst e1 e2 e3
  rw [cN_len, Nat.mul_one] at h1
  refine ⟨h1.symm, h3, h2, fun j hj => ?_⟩
  rcases h4 with ⟨_, h5⟩ | ⟨g, off, rfl, hg, _, hc⟩
  · omega
  · exact ⟨g, off, rfl, hg, hc j _ (by simp [cN, hj])⟩
theorem fo_grow {S : Nat → Prop} {W u x : World} {v : Value} {B : Nat} (hF : Fo S W u) (hk : Kp B v u x) (h4 : ∀ j, j < u.heap.size → v.ownBlock ≠ some j → x.heap[j]? = u.heap[j]?) (hy : ∀ g, v.ownBlock = some g → W.heap.size ≤ g) : Fo S W x :=
  ⟨hk.os.trans hF.os, hk.tape.trans hF.tape, hk.output.trans hF.output, Nat.le_trans hF.size hk.size, fun k hk2 hS => (h4 k (Nat.lt_of_lt_of_le hk2 hF.size) (fun e => by have := hy k e; omega)).trans (hF.block k hk2 hS)⟩
/-- A field's nodes when the first i have had their tick. -/
def stI (b s p : Int) (L : List Int) (st : Fs) (i : Nat) : Fs := fun k => if k < i then tkS b s p L st k else st k
theorem stI_zero (b s p : Int) (L : List Int) (st : Fs) : ∀ k, stI b s p L st 0 k = st k := fun k => if_neg (by omega)
theorem stI_at (b s p : Int) (L : List Int) (st : Fs) (i : Nat) : stI b s p L st i i = st i := if_neg (by omega)
theorem stI_none {b s p : Int} {L : List Int} {st : Fs} {i : Nat} (h : st i = none) : ∀ k, stI b s p L st (i + 1) k = stI b s p L st i k := fun k => by
  unfold stI
  by_cases e : k = i
  · subst e; rw [if_pos (by omega), if_neg (by omega), tkS_none h, h]
  · by_cases e2 : k < i
    · rw [if_pos (by omega), if_pos e2]
    · rw [if_neg (by omega), if_neg e2]
theorem stI_some {b s p : Int} {L : List Int} {st : Fs} {i : Nat} {d : Nd} (h : st i = some d) : ∀ k, stI b s p L st (i + 1) k = setS (stI b s p L st i) i (some (tkN b s p i L d).1) k := fun k => by
  show (if k < i + 1 then tkS b s p L st k else st k) = if k = i then some (tkN b s p i L d).1 else (if k < i then tkS b s p L st k else st k)
  by_cases e : k = i
  · subst e; rw [if_pos (by omega), if_pos rfl, tkS_of h]
  · rw [if_neg e]
    by_cases e2 : k < i
    · rw [if_pos (by omega), if_pos e2]
    · rw [if_neg (by omega), if_neg e2]
theorem stI_alive {b s p : Int} {L : List Int} {st : Fs} {i k : Nat} : stI b s p L st i k ≠ none ↔ st k ≠ none := by
  unfold stI
  by_cases e : k < i
  · rw [if_pos e]
    cases h : st k with
    | none => rw [tkS_none h]
    | some d => rw [tkS_of h]; simp
  · rw [if_neg e]
theorem fd_those_nil (v : Value) (w : World) : Calls Try.prog 137 #[.pointer none, v] w fun y w' => y = .returned (.slice none 0 0) ∧ w = w' := by
  go_enter Try.func137, Try.ntmps137
  go_wp2_with fail
  go_ret
  exact ⟨rfl, rfl⟩
theorem FC.full {L : List Int} (h : FC W A NB b s p n pk (stI b s p L st n) tv) : FC W A NB b s p n pk (tkS b s p L st) tv := by
  have e : ∀ k, k < n → tkS b s p L st k = stI b s p L st n k := fun k hk => (if_pos hk).symm
  refine ⟨h.blk, ?_, fun k hk d hd => h.node k hk d (by rw [← e k hk]; exact hd), fun k hk hs => h.ap k hk (by rw [← e k hk]; exact hs), fun j k hj hk h1 h2 => h.inj j k hj hk (by rw [← e j hj]; exact h1) (by rw [← e k hk]; exact h2), h.ne, h.n32⟩
  rw [row_eq (pk := pk) (pk' := pk) (st := stI b s p L st n) (st' := tkS b s p L st) (fun k hk => by unfold ptrV; rw [e k hk])]
  exact h.row
set_option maxHeartbeats 4000000 in
theorem fd_those_tick (h : FC W A NB b s p n pk st tv) (hc : rightR b s p = true) (hok : ∀ k, k < n → ∀ d, st k = some d → Ok1 b s p k d) (H : Nat) (L : List Int) (a : Option Addr) (cap : Nat) (hl : L.length ≤ 1000) (hH : Blk W H 79 [.slice a L.length cap]) (hHn : ¬ FC.T n pk st H) (hR : Ints W a L) (hRn : ∀ g off, a = some ⟨g, off, none⟩ → ¬ FC.T n pk st g) : Calls Try.prog 137 #[.pointer (some ⟨A, 0, none⟩), .func (.func 138) #[] #[.pointer (some ⟨H, 0, none⟩)]] W fun y w' => ∃ ya yc, y = .returned (.slice ya (pickI n (tellB b s p L st)).length yc) ∧ FC w' A NB b s p n pk (tkS b s p L st) tv ∧ Ints w' ya (pickI n (tellB b s p L st)) ∧ (∀ g off, ya = some ⟨g, off, none⟩ → W.heap.size ≤ g ∧ g < w'.heap.size) ∧ Fo (FC.T n pk st) W w' := by
  obtain ⟨_, _, _, c3, _⟩ := h.cell0
  have hn32 := h.n32
  have HSZ := Lib.hid (fun j hj => h.lt (j := j) hj)
  obtain ⟨i0, z0, hi, hz, hzc, hsz, hby⟩ := info_zpartsN info_intN
  have HH := Lib.hid (show ∀ u, Fo (FC.T n pk st) W u → Blk u H 79 [.slice a L.length cap] from fun u hu => hH.on (hu.block H hH.lt hHn))
  have HR := Lib.hid (show ∀ u, Fo (FC.T n pk st) W u → Ints u a L from fun u hu j hj => by
    obtain ⟨g, off, h1, h2, h3⟩ := hR j hj
    exact ⟨g, off, h1, Nat.lt_of_lt_of_le h2 hu.size, (World.cell?_of_block (hu.block g h2 (hRn g off h1))).trans h3⟩)
  have HTK := Lib.hid (fun (i : Nat) (hi : i < n) (d : Nd) (hd : st i = some d) (u : World) (h1 : Blk u (pk i) 214 (ndC b s p i d)) (h2 : Blk u H 79 [.slice a L.length cap]) (h3 : Ints u a L) => fd_tick1 b s p i hc (by omega) d (hok i hi d hd) (pk i) H L a cap hl u h1 h2 h3)
  have HTN := Lib.hid (fun (u : World) (h2 : Blk u H 79 [.slice a L.length cap]) => fd_tick1_nil H _ u h2)
  have H0 := Lib.hid (h.cong (stI_zero b s p L st))
  clear hH hHn hR hRn hok hc
  clear h
  go_enter Try.func137, Try.ntmps137
  go_wp2_with fail
  go_loopw [5, 15] (fun s5 s15 wr => ∃ (i : Nat) (yv : Value), yv = s5 ∧ s15 = .int .i64 (i : Int) ∧ i ≤ n ∧ FC wr A NB b s p n pk (stI b s p L st i) tv ∧ Rw wr 1 yv (cN (pickI i (tellB b s p L st))) ∧ (∀ g, yv.ownBlock = some g → W.heap.size ≤ g) ∧ Fo (FC.T n pk st) W wr) (fun _ s15 _ => n - (intOf s15).toNat)
  case atStart => exact ⟨0, _, rfl, rfl, by omega, H0.out, Rw.nil _ _, (fun g e => by cases e), Fo.refl _ _⟩
  case round =>
    obtain ⟨i, yv, rfl, rfl, hin, hC, hY, hO, hF⟩ := hrel
    have HC := Lib.hid hC; have HY := Lib.hid hY; have HO := Lib.hid hO; have HF := Lib.hid hF
    clear hC hY hO hF c3
    by_cases hlt : i < n
    · have i1 : (i : Int) < (n : Int) := by omega
      have i2 : (0 : Int) ≤ (i : Int) := by omega
      have cR := HC.out.cellR hlt
      have hps := pick_succ i (tellB b s p L st)
      cases hs : st i with
      | none =>
        rw [ptr_none (show (stI b s p L st i) i = none by rw [stI_at]; exact hs)] at cR
        have HPS := Lib.hid (show pickI (i + 1) (tellB b s p L st) = pickI i (tellB b s p L st) by rw [hps, show (tellB b s p L st) i = false by unfold tellB; rw [hs]]; simp)
        have HS := Lib.hid hs
        clear hps hs
        go_wp2_with fail
        refine (HTN.out _ (HH.out _ HF.out)).mono ?_
        rintro y w1 ⟨rfl, rfl⟩
        clear cR
        go_wp2_with fail
        go_roundw
        case rel => exact ⟨i + 1, _, rfl, by simp, by omega, HC.out.cong (stI_none HS.out), by rw [HPS.out]; exact HY.out, HO.out, HF.out⟩
        case measure => simp [intOf]; omega
      | some d =>
        have hsi : (stI b s p L st i) i = some d := by rw [stI_at]; exact hs
        rw [ptr_some hsi] at cR
        have HND := Lib.hid (HC.out.node i hlt d hsi)
        have HK := Lib.hid (HTK.out i hlt d hs wr HND.out (HH.out _ HF.out) (HR.out _ HF.out))
        obtain ⟨d', hd'⟩ : ∃ d', d' = (tkN b s p i L d).1 := ⟨_, rfl⟩
        obtain ⟨v, hv⟩ : ∃ v, v = (tkN b s p i L d).2 := ⟨_, rfl⟩
        rw [← hd', ← hv] at HK
        have HCG := Lib.hid (show ∀ k, stI b s p L st (i + 1) k = setS (stI b s p L st i) i (some d') k by rw [hd']; exact stI_some hs)
        have hq : (tellB b s p L st) i = v := by unfold tellB; rw [hs]; exact hv.symm
        have HT2 := Lib.hid (show FC.T n pk st (pk i) from ⟨i, hlt, (fun e => by rw [hs] at e; cases e), rfl⟩)
        have HSI := Lib.hid hsi
        clear hd' hv hsi hs
        go_wp2_with fail
        refine HK.out.mono ?_
        rintro y w4 ⟨rfl, hB4, hK4⟩
        have HC4 := Lib.hid (show FC w4 A NB b s p n pk (stI b s p L st (i + 1)) tv from (HC.out.step hlt HSI.out hB4 hK4).cong HCG.out)
        have HF4 := Lib.hid (HF.out.trans (T := FC.T n pk st) (Fo.of_kp hK4 HT2.out) (fun _ h => .inl h))
        have hyk : ∀ g, yv.ownBlock = some g → w4.heap[g]? = wr.heap[g]? := fun g e => hK4.block g (HY.out.lt g e) (fun e2 => by have h8 := HO.out g e; have h9 := HSZ.out (pk i) (.inr (.inr HT2.out)); omega) (fun e => by cases e)
        have HY4 := Lib.hid (show Rw w4 1 yv (cN (pickI i (tellB b s p L st))) from HY.out.on hK4.size hyk)
        clear hB4 hK4 hyk cR HK HND HC HF HY
        cases v
        · have HPS := Lib.hid (show pickI (i + 1) (tellB b s p L st) = pickI i (tellB b s p L st) by rw [hps, hq]; simp)
          clear hps hq
          go_wp2_with fail
          go_roundw
          case rel => exact ⟨i + 1, _, rfl, by simp, by omega, HC4.out, by rw [HPS.out]; exact HY4.out, HO.out, HF4.out⟩
          case measure => simp [intOf]; omega
        · have HPS := Lib.hid (show pickI (i + 1) (tellB b s p L st) = pickI i (tellB b s p L st) ++ [(i : Int)] by rw [hps, hq]; rfl)
          have hle := pick_len i (tellB b s p L st)
          obtain ⟨PQL, hPQL⟩ : ∃ PQL, PQL = pickI i (tellB b s p L st) := ⟨_, rfl⟩
          rw [← hPQL] at HPS HY4 hle
          clear hps hq hPQL
          obtain ⟨m, yc, ya, rfl, hl2, hcap, hmx, _⟩ := HY4.out
          have hl2 : PQL.length = m := by rw [cN_len, Nat.mul_one] at hl2; exact hl2
          subst hl2
          have HROW := Lib.hid (show ∀ u, Below w4.heap.size w4 u → Rw u 1 (.slice ya PQL.length yc) (cN PQL) from fun u hu => HY4.out.kept hu)
          have HLE := Lib.hid (show PQL.length ≤ 32 by omega)
          clear hle hcap hmx
          go_wp2_with (at_builtin; refine wpList_append_rw _ rfl _ _ 79 79 rfl 3 i0 z0 1 8 Try.underlying79 hi hz hsz hby hzc ya PQL.length yc (cN PQL) rfl (HROW.out _ ((Below.refl _ _).alloc (Nat.le_refl _) _)) _ rfl 1 [.int .i64 (i : Int)] (Src.ofSlice _ Try.underlying79 ⟨w4.heap.size, 0, none⟩ 1 1 [.int .i64 (i : Int)] rfl (fun j u h => by first | exact newsG j u h | exact newsGd j u h) (fun u h => by rw [List.mem_singleton] at h; rw [h]; rfl)) (.inl (by decide)) (by have := HLE.out; omega) (by decide) ?_)
          intro g off cap' w5 h2 h3 h4 h5
          have h4b : ∀ j, j < (w4.alloc (.cells #[.int .i64 (i : Int)] 3)).heap.size → (Value.slice ya PQL.length yc).ownBlock ≠ some j → w5.heap[j]? = (w4.alloc (.cells #[.int .i64 (i : Int)] 3)).heap[j]? := fun j hj hn => h4 j (by first | exact hj | simpa using hj) hn
          have hbA := (Below.refl _ w4).alloc (Nat.le_refl _) (.cells #[.int .i64 (i : Int)] 3)
          have HY5 := Lib.hid (show Rw w5 1 (.slice (some ⟨g, off, none⟩) (PQL.length + 1) cap') (cN (PQL ++ [(i : Int)])) by rw [show cN (PQL ++ [(i : Int)]) = cN PQL ++ [.int .i64 (i : Int)] by simp [cN]]; exact h2)
          have HF5 := Lib.hid (show Fo (FC.T n pk st) W w5 from fo_grow (HF4.out.step hbA) (h3 0) h4b HO.out)
          have HC5 := Lib.hid (show FC w5 A NB b s p n pk (stI b s p L st (i + 1)) tv from (HC4.out.on hbA).moved (fun j hj => h4b j (Nat.lt_of_lt_of_le (HC4.out.lt hj) hbA.size) (fun e => by
            have h8 := HO.out j e
            have h9 := HSZ.out j (by rcases hj with h | h | ⟨k, h1, h2, h3⟩; exact .inl h; exact .inr (.inl h); exact .inr (.inr ⟨k, h1, stI_alive.1 h2, h3⟩))
            omega)))
          have HO5 := Lib.hid (show ∀ g', (Value.slice (some ⟨g, off, none⟩) (PQL.length + 1) cap').ownBlock = some g' → W.heap.size ≤ g' from fun g' e => by
            have e : g = g' := Option.some.inj e
            subst e
            rcases h5 with h | h
            · exact HO.out g h
            · have h9 := HF4.out.size; have h10 := hbA.size; omega)
          clear h2 h3 h4 h4b h5 hbA HY4 HF4 HC4 HO HROW
          go_wp2_with fail
          go_roundw
          case rel => exact ⟨i + 1, _, rfl, by simp, by omega, HC5.out, by rw [HPS.out]; exact HY5.out, HO5.out, HF5.out⟩
          case measure => simp [intOf]; omega
    · obtain rfl : i = n := by omega
      obtain ⟨m, yc, ya, rfl, _⟩ := HY.out
      obtain ⟨e1, _, _, e4⟩ := rw_ints HY.out
      subst e1
      have HE := Lib.hid e4
      clear e4
      go_wp2_with fail
      go_ret
      exact ⟨ya, yc, rfl, (HC.out.full), HE.out, (fun g off e => ⟨HO.out g (by subst e; rfl), HY.out.lt g (by subst e; rfl)⟩), HF.out⟩
set_option maxHeartbeats 4000000 in
theorem fd_those_mast (h : FC W A NB b s p n pk st tv) : Calls Try.prog 137 #[.pointer (some ⟨A, 0, none⟩), .func (.func 62) #[] #[]] W fun y w' => ∃ ya yc, y = .returned (.slice ya (pickI n (mastB st)).length yc) ∧ FC w' A NB b s p n pk st tv ∧ Ints w' ya (pickI n (mastB st)) ∧ (∀ g off, ya = some ⟨g, off, none⟩ → W.heap.size ≤ g ∧ g < w'.heap.size) ∧ Fo (fun _ => False) W w' := by
  obtain ⟨_, _, _, c3, _⟩ := h.cell0
  have hn32 := h.n32
  have HSZ := Lib.hid (fun j hj => h.lt (j := j) hj)
  obtain ⟨i0, z0, hi, hz, hzc, hsz, hby⟩ := info_zpartsN info_intN
  have H0 := Lib.hid h
  clear h
  go_enter Try.func137, Try.ntmps137
  go_wp2_with fail
  go_loopw [5, 15] (fun s5 s15 wr => ∃ (i : Nat) (yv : Value), yv = s5 ∧ s15 = .int .i64 (i : Int) ∧ i ≤ n ∧ FC wr A NB b s p n pk st tv ∧ Rw wr 1 yv (cN (pickI i (mastB st))) ∧ (∀ g, yv.ownBlock = some g → W.heap.size ≤ g) ∧ Fo (fun _ => False) W wr) (fun _ s15 _ => n - (intOf s15).toNat)
  case atStart => exact ⟨0, _, rfl, rfl, by omega, H0.out, Rw.nil _ _, (fun g e => by cases e), Fo.refl _ _⟩
  case round =>
    obtain ⟨i, yv, rfl, rfl, hin, hC, hY, hO, hF⟩ := hrel
    have HC := Lib.hid hC; have HY := Lib.hid hY; have HO := Lib.hid hO; have HF := Lib.hid hF
    clear hC hY hO hF c3
    by_cases hlt : i < n
    · have i1 : (i : Int) < (n : Int) := by omega
      have i2 : (0 : Int) ≤ (i : Int) := by omega
      have cR := HC.out.cellR hlt
      have hps := pick_succ i (mastB st)
      cases hs : st i with
      | none =>
        rw [ptr_none (show st i = none by exact hs)] at cR
        have HPS := Lib.hid (show pickI (i + 1) (mastB st) = pickI i (mastB st) by rw [hps, show (mastB st) i = false by unfold mastB; rw [hs]]; simp)
        have HS := Lib.hid hs
        clear hps hs
        go_wp2_with fail
        refine (rk_Master_nil _).mono ?_
        rintro y w1 ⟨rfl, rfl⟩
        clear cR
        go_wp2_with fail
        go_roundw
        case rel => exact ⟨i + 1, _, rfl, by simp, by omega, HC.out, by rw [HPS.out]; exact HY.out, HO.out, HF.out⟩
        case measure => simp [intOf]; omega
      | some d =>
        have hsi : st i = some d := by exact hs
        rw [ptr_some hsi] at cR
        have HND := Lib.hid (HC.out.node i hlt d hsi)
        obtain ⟨v, hv⟩ : ∃ v, v = d.m := ⟨_, rfl⟩
        have HK := Lib.hid (rk_Master b s p i d (pk i) wr HND.out)
        rw [← hv] at HK
        have hq : (mastB st) i = v := by unfold mastB; rw [hs]; exact hv.symm
        have HC4 := Lib.hid HC.out; have HF4 := Lib.hid HF.out; have HY4 := Lib.hid HY.out
        clear hv hsi hs
        go_wp2_with fail
        refine HK.out.mono ?_
        rintro y w4 ⟨rfl, rfl⟩
        clear cR HK HND HC HF HY
        cases v
        · have HPS := Lib.hid (show pickI (i + 1) (mastB st) = pickI i (mastB st) by rw [hps, hq]; simp)
          clear hps hq
          go_wp2_with fail
          go_roundw
          case rel => exact ⟨i + 1, _, rfl, by simp, by omega, HC4.out, by rw [HPS.out]; exact HY4.out, HO.out, HF4.out⟩
          case measure => simp [intOf]; omega
        · have HPS := Lib.hid (show pickI (i + 1) (mastB st) = pickI i (mastB st) ++ [(i : Int)] by rw [hps, hq]; rfl)
          have hle := pick_len i (mastB st)
          obtain ⟨PQL, hPQL⟩ : ∃ PQL, PQL = pickI i (mastB st) := ⟨_, rfl⟩
          rw [← hPQL] at HPS HY4 hle
          clear hps hq hPQL
          obtain ⟨m, yc, ya, rfl, hl2, hcap, hmx, _⟩ := HY4.out
          have hl2 : PQL.length = m := by rw [cN_len, Nat.mul_one] at hl2; exact hl2
          subst hl2
          have HROW := Lib.hid (show ∀ u, Below wr.heap.size wr u → Rw u 1 (.slice ya PQL.length yc) (cN PQL) from fun u hu => HY4.out.kept hu)
          have HLE := Lib.hid (show PQL.length ≤ 32 by omega)
          clear hle hcap hmx
          go_wp2_with (at_builtin; refine wpList_append_rw _ rfl _ _ 79 79 rfl 3 i0 z0 1 8 Try.underlying79 hi hz hsz hby hzc ya PQL.length yc (cN PQL) rfl (HROW.out _ ((Below.refl _ _).alloc (Nat.le_refl _) _)) _ rfl 1 [.int .i64 (i : Int)] (Src.ofSlice _ Try.underlying79 ⟨wr.heap.size, 0, none⟩ 1 1 [.int .i64 (i : Int)] rfl (fun j u h => by first | exact newsG j u h | exact newsGd j u h) (fun u h => by rw [List.mem_singleton] at h; rw [h]; rfl)) (.inl (by decide)) (by have := HLE.out; omega) (by decide) ?_)
          intro g off cap' w5 h2 h3 h4 h5
          have h4b : ∀ j, j < (wr.alloc (.cells #[.int .i64 (i : Int)] 3)).heap.size → (Value.slice ya PQL.length yc).ownBlock ≠ some j → w5.heap[j]? = (wr.alloc (.cells #[.int .i64 (i : Int)] 3)).heap[j]? := fun j hj hn => h4 j (by first | exact hj | simpa using hj) hn
          have hbA := (Below.refl _ wr).alloc (Nat.le_refl _) (.cells #[.int .i64 (i : Int)] 3)
          have HY5 := Lib.hid (show Rw w5 1 (.slice (some ⟨g, off, none⟩) (PQL.length + 1) cap') (cN (PQL ++ [(i : Int)])) by rw [show cN (PQL ++ [(i : Int)]) = cN PQL ++ [.int .i64 (i : Int)] by simp [cN]]; exact h2)
          have HF5 := Lib.hid (show Fo (fun _ => False) W w5 from fo_grow (HF4.out.step hbA) (h3 0) h4b HO.out)
          have HC5 := Lib.hid (show FC w5 A NB b s p n pk st tv from (HC4.out.on hbA).moved (fun j hj => h4b j (Nat.lt_of_lt_of_le (HC4.out.lt hj) hbA.size) (fun e => by
            have h8 := HO.out j e
            have h9 := HSZ.out j (hj)
            omega)))
          have HO5 := Lib.hid (show ∀ g', (Value.slice (some ⟨g, off, none⟩) (PQL.length + 1) cap').ownBlock = some g' → W.heap.size ≤ g' from fun g' e => by
            have e : g = g' := Option.some.inj e
            subst e
            rcases h5 with h | h
            · exact HO.out g h
            · have h9 := HF4.out.size; have h10 := hbA.size; omega)
          clear h2 h3 h4 h4b h5 hbA HY4 HF4 HC4 HO HROW
          go_wp2_with fail
          go_roundw
          case rel => exact ⟨i + 1, _, rfl, by simp, by omega, HC5.out, by rw [HPS.out]; exact HY5.out, HO5.out, HF5.out⟩
          case measure => simp [intOf]; omega
    · obtain rfl : i = n := by omega
      obtain ⟨m, yc, ya, rfl, _⟩ := HY.out
      obtain ⟨e1, _, _, e4⟩ := rw_ints HY.out
      subst e1
      have HE := Lib.hid e4
      clear e4
      go_wp2_with fail
      go_ret
      exact ⟨ya, yc, rfl, HC.out, HE.out, (fun g off e => ⟨HO.out g (by subst e; rfl), HY.out.lt g (by subst e; rfl)⟩), HF.out⟩
end Go.Proofs.Ytdfalipgfnjglaa
