/- The document's own Run of layer 27. Conditions: none. -/
import Derived.Test.YtbcccffjlkphpaaEdy
import Derived.Test.YtbcccffjlkphpaaEdd
namespace Go.Proofs.Ytbcccffjlkphpaa
open Go.RowKit Go.Shelf
set_option linter.unusedSimpArgs false
set_option linter.unusedVariables false
attribute [local go_sem] Oper.semAt_some
theorem ahead_klt {L : List Jb} {len : Int} (hl : 1 ≤ len ∧ len ≤ 1073741824) {i m : Nat} (hx : rightJ (L.getD i jb0) = true) (hy : rightJ (L.getD m jb0) = true) (h : aheadJ (L.getD i jb0) (L.getD m jb0) len = true) : klt len (plc L i) (plc L m) := by
  unfold aheadJ at h
  simp only [Bool.and_eq_true, decide_eq_true_eq] at h
  rw [← ord_k]
  unfold orI plc
  simp only
  rw [if_neg (by omega)]
  exact h.2
theorem nahead_klt {L : List Jb} {len : Int} (hl : 1 ≤ len ∧ len ≤ 1073741824) {i m : Nat} (hx : rightJ (L.getD i jb0) = true) (hy : rightJ (L.getD m jb0) = true) (h : aheadJ (L.getD i jb0) (L.getD m jb0) len = false) (him : m < i) : klt len (plc L m) (plc L i) := by
  refine klt_tot (by unfold plc; simp only; omega) (fun hk => ?_)
  have hin : inB len 1 1073741824 = true := by
    rcases inB_cases len 1 1073741824 with ⟨h, _⟩ | ⟨_, h, _⟩ | ⟨_, _, h⟩
    · omega
    · omega
    · exact h
  unfold aheadJ at h
  rw [hin, hx, hy] at h
  simp only [Bool.and_self, Bool.true_and, decide_eq_false_iff_not] at h
  rw [← ord_k] at hk
  unfold orI plc at hk
  simp only at hk
  rcases cmpI_cases (i : Int) (m : Int) with ⟨h1, h2⟩ | ⟨h1, h2⟩ | ⟨h1, h2⟩
  · omega
  · rw [h2] at hk
    split at hk
    · omega
    · omega
  · omega
/-- The best one of the first k that came and were not sent. -/
def BestI (L : List Jb) (len : Int) (Ds : List Nat) (now : Int) (k : Nat) (b : Int) : Prop := (b = -1 ∧ ∀ i, i < k → i ∉ Ds → now < (L.getD i jb0).r) ∨ (∃ m : Nat, b = (m : Int) ∧ m < k ∧ m ∉ Ds ∧ (L.getD m jb0).r ≤ now ∧ ∀ i, i < k → i ∉ Ds → (L.getD i jb0).r ≤ now → i ≠ m → klt len (plc L m) (plc L i))
/-- The least time at which one of the first k comes that was not sent. -/
def SoonI (L : List Jb) (Ds : List Nat) (k : Nat) (s : Int) : Prop := (∀ i, i < k → i ∉ Ds → s ≤ (L.getD i jb0).r) ∧ (s = 1152921504606846976 ∨ ∃ i, i < k ∧ i ∉ Ds ∧ (L.getD i jb0).r = s) ∧ s ≤ 1152921504606846976
theorem BestI.skip {L : List Jb} {len : Int} {Ds : List Nat} {now : Int} {k : Nat} {b : Int} (h : BestI L len Ds now k b) (hk : k ∉ Ds → now < (L.getD k jb0).r) : BestI L len Ds now (k + 1) b := by
  rcases h with ⟨h1, h2⟩ | ⟨m, h1, h2, h3, h4, h5⟩
  · refine .inl ⟨h1, fun i hi hd => ?_⟩
    by_cases e : i = k
    · subst e; exact hk hd
    · exact h2 i (by omega) hd
  · refine .inr ⟨m, h1, by omega, h3, h4, fun i hi hd hr hne => ?_⟩
    by_cases e : i = k
    · subst e; have := hk hd; omega
    · exact h5 i (by omega) hd hr hne
theorem BestI.first {L : List Jb} {len : Int} {Ds : List Nat} {now : Int} {k : Nat} (h : BestI L len Ds now k (-1)) (hd : k ∉ Ds) (hr : (L.getD k jb0).r ≤ now) : BestI L len Ds now (k + 1) (k : Int) := by
  rcases h with ⟨h1, h2⟩ | ⟨m, h1, h2, h3, h4, h5⟩
  · refine .inr ⟨k, rfl, by omega, hd, hr, fun i hi hdi hri hne => ?_⟩
    have := h2 i (by omega) hdi
    omega
  · omega
theorem BestI.better {L : List Jb} {len : Int} {Ds : List Nat} {now : Int} {k m : Nat} (h : BestI L len Ds now k (m : Int)) (hd : k ∉ Ds) (hr : (L.getD k jb0).r ≤ now) (hk : klt len (plc L k) (plc L m)) : BestI L len Ds now (k + 1) (k : Int) := by
  rcases h with ⟨h1, h2⟩ | ⟨m', h1, h2, h3, h4, h5⟩
  · omega
  · obtain rfl : m = m' := by omega
    refine .inr ⟨k, rfl, by omega, hd, hr, fun i hi hdi hri hne => ?_⟩
    by_cases e : i = m
    · subst e; exact hk
    · exact klt_trans hk (h5 i (by omega) hdi hri e)
theorem BestI.worse {L : List Jb} {len : Int} {Ds : List Nat} {now : Int} {k m : Nat} (h : BestI L len Ds now k (m : Int)) (hk : klt len (plc L m) (plc L k)) : BestI L len Ds now (k + 1) (m : Int) := by
  rcases h with ⟨h1, h2⟩ | ⟨m', h1, h2, h3, h4, h5⟩
  · omega
  · obtain rfl : m = m' := by omega
    refine .inr ⟨m, rfl, by omega, h3, h4, fun i hi hdi hri hne => ?_⟩
    by_cases e : i = k
    · subst e; exact hk
    · exact h5 i (by omega) hdi hri hne
theorem SoonI.skip {L : List Jb} {Ds : List Nat} {k : Nat} {s : Int} (h : SoonI L Ds k s) (hk : k ∉ Ds → s ≤ (L.getD k jb0).r) : SoonI L Ds (k + 1) s := by
  refine ⟨fun i hi hd => ?_, ?_, h.2.2⟩
  · by_cases e : i = k
    · subst e; exact hk hd
    · exact h.1 i (by omega) hd
  · rcases h.2.1 with h1 | ⟨i, h1, h2, h3⟩
    · exact .inl h1
    · exact .inr ⟨i, by omega, h2, h3⟩
theorem SoonI.take {L : List Jb} {Ds : List Nat} {k : Nat} {s : Int} (h : SoonI L Ds k s) (hd : k ∉ Ds) (hk : (L.getD k jb0).r < s) : SoonI L Ds (k + 1) (L.getD k jb0).r := by
  refine ⟨fun i hi hdi => ?_, .inr ⟨k, by omega, hd, rfl⟩, by have := h.2.2; omega⟩
  by_cases e : i = k
  · subst e; omega
  · have := h.1 i (by omega) hdi
    omega
theorem nodup_le : ∀ (l m : List Nat), l.Nodup → (∀ x ∈ l, x ∈ m) → l.length ≤ m.length
  | [], m, _, _ => by simp
  | x :: l, m, hn, hs => by
    have hx : x ∈ m := hs x (by simp)
    have hn2 := List.nodup_cons.1 hn
    have h := nodup_le l (m.erase x) hn2.2 (fun y hy => (List.mem_erase_of_ne (fun e => hn2.1 (by rw [← e]; exact hy))).2 (hs y (List.mem_cons_of_mem _ hy)))
    rw [List.length_erase_of_mem hx] at h
    have : 0 < m.length := List.length_pos_of_mem hx
    simp only [List.length_cons]
    omega
theorem one_left {n : Nat} {Ds : List Nat} (h : Ds.length < n) : ∃ i, i < n ∧ i ∉ Ds := by
  apply Classical.byContradiction
  intro hc
  have h1 := nodup_le (List.range n) Ds List.nodup_range (fun x hx => Classical.byContradiction fun hx2 => hc ⟨x, List.mem_range.1 hx, hx2⟩)
  rw [List.length_range] at h1
  omega
/-- How many jobs come behind some time. -/
def leftN (L : List Jb) (t : Int) : Nat := (L.filter (fun x => decide (t < x.r))).length
theorem leftN_le (L : List Jb) {a b : Int} (h : a ≤ b) : leftN L b ≤ leftN L a := by
  unfold leftN
  induction L with
  | nil => simp
  | cons x L ih =>
    rw [List.filter_cons, List.filter_cons]
    by_cases e : b < x.r
    · rw [if_pos (by simpa using e), if_pos (by simp; omega)]
      simpa using ih
    · rw [if_neg (by simpa using e)]
      split
      · simp only [List.length_cons]; omega
      · exact ih
theorem leftN_lt (L : List Jb) {a b : Int} (h : a ≤ b) {i : Nat} (hi : i < L.length) (h1 : a < (L.getD i jb0).r) (h2 : (L.getD i jb0).r ≤ b) : leftN L b < leftN L a := by
  induction L generalizing i with
  | nil => simp at hi
  | cons x L ih =>
    have hle := leftN_le L h
    unfold leftN at ih hle ⊢
    rw [List.filter_cons, List.filter_cons]
    cases i with
    | zero =>
      have e1 : (x :: L).getD 0 jb0 = x := rfl
      rw [e1] at h1 h2
      rw [if_neg (by simp; omega), if_pos (by simp; omega)]
      simp only [List.length_cons]
      omega
    | succ i =>
      have e1 : (x :: L).getD (i + 1) jb0 = L.getD i jb0 := rfl
      rw [e1] at h1 h2
      have := ih (by simpa using hi) h1 h2
      by_cases e : b < x.r
      · rw [if_pos (by simpa using e), if_pos (by simp; omega)]
        simpa using this
      · rw [if_neg (by simpa using e)]
        split
        · simp only [List.length_cons]; omega
        · exact this
/-- What the document's Run answers. -/
def RRunP (L : List Jb) (len : Int) (W : World) (e : Ending) (w' : World) : Prop := ((mayJ len L ≠ 0 ∧ e = .returned (.tuple #[.slice none 0 0, .int .i64 (mayJ len L)])) ∨ (mayJ len L = 0 ∧ ∃ S v, e = .returned (.tuple #[v, .int .i64 0]) ∧ Tr L len S ∧ S.length = L.length ∧ w'.ownsRow W.heap.size 39 3 v S.length (S.flatMap Sn.C))) ∧ Below W.heap.size W w'
theorem info_rsent : (Try.prog.info? 39).map (fun i => (i.zero, i.size, i.bytes)) = some (some (.agg #[.int .i64 0, .int .i64 0, .int .i64 0]), 3, 24) := by kernel_rfl
theorem own_keep2 {X Y : World} {b1 n size : Nat} {e : TypeId} {v : Value} {xs : List Value} (h : X.ownsRow b1 e size v n xs) (hb : Below X.heap.size X Y) : Y.ownsRow b1 e size v n xs := by
  refine ⟨h.1, ?_⟩
  rcases h.2 with h0 | ⟨g, cap, cur, e1, e2, hg, r⟩
  · exact .inl h0
  · exact .inr ⟨g, cap, cur, e1, e2, (hb.block g (Array.getElem?_eq_some_iff.1 hg).1).trans hg, r⟩
theorem own_put {X : World} {b1 n size G o : Nat} {e T : TypeId} {v : Value} {xs l : List Value} (h : X.ownsRow b1 e size v n xs) (hG : Blk X G T l) (hT : T ≠ e) (u : Value) : (X.setCell ⟨G, o, none⟩ u).ownsRow b1 e size v n xs := by
  refine ⟨h.1, ?_⟩
  rcases h.2 with h0 | ⟨g, cap, cur, e1, e2, hg, r⟩
  · exact .inl h0
  · have hb : Blk X g e cur.toList := hg
    have hne : G ≠ g := blk_ne hG hb hT
    exact .inr ⟨g, cap, cur, e1, e2, hb.puts hne o u, r⟩
theorem blk_grown {X Y : World} {b1 n size G : Nat} {e T : TypeId} {v : Value} {xs l : List Value} (h : X.ownsRow b1 e size v n xs) (hG : Blk X G T l) (hT : T ≠ e) (hg : X.grownBy Y v.ownBlock) : Blk Y G T l := by
  refine (hg.block G hG.lt (fun q => ?_)).trans hG
  rcases h.2 with ⟨e1, _⟩ | ⟨g', cap, cur, e1, hb, hgc, _⟩
  · rw [e1] at q; cases q
  · rw [e1] at q
    have e2 : G = g' := by simpa [Value.ownBlock] using q
    subst e2
    have hgB : Blk X G e cur.toList := hgc
    exact blk_ne hG hgB hT rfl
/-- What holds in a round of the document's Run. -/
structure RR (L : List Jb) (len : Int) (W : World) (G : Nat) (S : List Sn) (now : Int) (v : Value) (wr : World) : Prop where
  tr : Tr L len S
  own : wr.ownsRow W.heap.size 39 3 v S.length (S.flatMap Sn.C)
  blk : Blk wr G 4 (bitD L.length (S.map Sn.j))
  now0 : nowS S ≤ now
  now1 : nowS S < now → ∀ i, i < L.length → i ∉ S.map Sn.j → now ≤ (L.getD i jb0).r
  pos : 0 ≤ now ∧ now ≤ 1125899906842624 + S.length * 1073741824
  bel : Below W.heap.size W wr
  len : S.length ≤ L.length
theorem RR.sl {L : List Jb} {len : Int} {W : World} {G : Nat} {S : List Sn} {now : Int} {v : Value} {wr : World} (h : RR L len W G S now v wr) : ∃ a c, v = .slice a S.length c := by
  rcases h.own.2 with ⟨h1, _⟩ | ⟨g, cap, cur, h1, _⟩
  · have e := h.own.1
    rw [h1]
    have : S.length = 0 := by
      rcases h.own.2 with ⟨_, h3⟩ | ⟨g, cap, cur, h3, _⟩
      · omega
      · rw [h1] at h3; cases h3
    rw [this]; exact ⟨_, _, rfl⟩
  · exact ⟨_, _, h1⟩
theorem mayJ_1 {len : Int} (L : List Jb) (h : len < 1 ∨ 1073741824 < len) : mayJ len L = 1 := by
  unfold mayJ inB
  rw [if_pos (by simp; omega)]
theorem inB_len {len : Int} (h : 1 ≤ len) (h2 : len ≤ 1073741824) : inB len 1 1073741824 = true := by
  unfold inB
  simp; omega
theorem mayJ_11 {len : Int} {L : List Jb} (h : 1 ≤ len) (h2 : len ≤ 1073741824) (h3 : 256 < L.length) : mayJ len L = 11 := by
  unfold mayJ
  rw [if_neg (by rw [inB_len h h2]; decide), if_pos h3]
theorem mayJ_10 {len : Int} {L : List Jb} (h : 1 ≤ len) (h2 : len ≤ 1073741824) (h3 : L.length ≤ 256) {k : Nat} (hk : k < L.length) (hr : rightJ (L.getD k jb0) = false) : mayJ len L = 10 := by
  unfold mayJ
  rw [if_neg (by rw [inB_len h h2]; decide), if_neg (by omega), if_neg]
  intro ha
  have := List.all_eq_true.1 ha _ (List.getElem_mem hk)
  rw [List.getD_eq_getElem?_getD, List.getElem?_eq_getElem hk, Option.getD_some] at hr
  rw [hr] at this
  cases this
theorem mayJ_0 {len : Int} {L : List Jb} (h : 1 ≤ len) (h2 : len ≤ 1073741824) (h3 : L.length ≤ 256) (hr : ∀ k, k < L.length → rightJ (L.getD k jb0) = true) : mayJ len L = 0 := by
  unfold mayJ
  rw [if_neg (by rw [inB_len h h2]; decide), if_neg (by omega), if_pos]
  rw [List.all_eq_true]
  intro x hx
  obtain ⟨i, hi, e⟩ := List.getElem_of_mem hx
  have := hr i hi
  rw [List.getD_eq_getElem?_getD, List.getElem?_eq_getElem hi, Option.getD_some, e] at this
  exact this
set_option maxRecDepth 2000000 in
set_option maxHeartbeats 16000000 in
theorem rrun_any (a : Option Addr) (ln cap : Nat) (L : List Jb) (len : Int) (W : World) (hI : Jbs W.heap.size W (.slice a ln cap) L) : Calls Try.prog 10 #[.slice a ln cap, .int .i64 len] W (RRunP L len W) := by
  obtain rfl := hI.len
  have HI := Lib.hid (show ∀ u, Below W.heap.size W u → Jbs u.heap.size u (.slice a L.length cap) L from fun u hu => hI.on hu)
  obtain ⟨i0, hi, hz0, hz1, hz2⟩ := info_parts info_rsent
  by_cases h1 : len < 1
  · have HM := Lib.hid (mayJ_1 L (.inl h1))
    clear hI hi hz0 hz1 hz2
    go_enter Try.func10, Try.ntmps10
    go_wp2_with fail
    go_ret2
    exact ⟨.inl ⟨by rw [HM.out]; decide, by rw [HM.out]; rfl⟩, by first | exact Below.refl _ _ | exact (Below.refl _ _).drew⟩
  by_cases h2 : 1073741824 < len
  · have HM := Lib.hid (mayJ_1 L (.inr h2))
    clear hI hi hz0 hz1 hz2
    go_enter Try.func10, Try.ntmps10
    go_wp2_with fail
    go_ret2
    exact ⟨.inl ⟨by rw [HM.out]; decide, by rw [HM.out]; rfl⟩, by first | exact Below.refl _ _ | exact (Below.refl _ _).drew⟩
  obtain ⟨N, hN⟩ : ∃ N, N = L.length := ⟨_, rfl⟩
  by_cases h3 : 256 < L.length
  · have HM := Lib.hid (mayJ_11 (len := len) (by omega) (by omega) h3)
    rw [← hN]
    have i3 : (256 : Int) < (N : Int) := by omega
    clear hI hi hz0 hz1 hz2 hN h3
    go_enter Try.func10, Try.ntmps10
    go_wp2_with fail
    go_ret2
    exact ⟨.inl ⟨by rw [HM.out]; decide, by rw [HM.out]; rfl⟩, by first | exact Below.refl _ _ | exact (Below.refl _ _).drew⟩
  have HCC := Lib.hid (show 0 < L.length → ∃ g off, a = some ⟨g, off, none⟩ ∧ ∀ u, Below W.heap.size W u → ∀ m (hm : m < L.length) i v, (L[m].C)[i]? = some v → u.cell? ⟨g, off + m * 4 + i, none⟩ = some v from fun h0 => by
    obtain ⟨g, off, e, hg, hc⟩ := hI.spot h0
    exact ⟨g, off, e, fun u hb m hm i v hv => (hb.cell (p := ⟨g, off + m * 4 + i, none⟩) hg).trans (hc m hm i v hv)⟩)
  have HNN := Lib.hid (show 1 ≤ len ∧ len ≤ 1073741824 ∧ L.length ≤ 256 by omega)
  have hN1 : N ≤ 256 := by omega
  have i3 : ¬ (256 : Int) < (N : Int) := by omega
  have HN := Lib.hid hN
  rw [← hN]
  clear hI hN h3
  go_enter Try.func10, Try.ntmps10
  go_wp2_with fail
  go_loopw [6] (fun i wr => ∃ k : Nat, i = .int .i64 (k : Int) ∧ k ≤ N ∧ (∀ j, j < k → rightJ (L.getD j jb0) = true) ∧ Below W.heap.size W wr) (fun i _ => N - (intOf i).toNat)
  case atStart => exact ⟨0, rfl, by omega, fun j h => absurd h (by omega), by first | exact Below.refl _ _ | exact (Below.refl _ _).drew⟩
  case round =>
    obtain ⟨k, rfl, hk, hal, hb⟩ := hrel
    have HB := Lib.hid hb; have HAK := Lib.hid hal
    clear hb hal
    have i3 : (0 : Int) ≤ (k : Int) := by omega
    by_cases hlt : k < N
    · have i4 : (k : Int) < (N : Int) := by omega
      have x4 : wrap64 ((k : Int) + 1) = (k : Int) + 1 := by unfold wrap64; omega
      have hkL : k < L.length := by have := HN.out; omega
      obtain ⟨g, off, rfl, hc⟩ := HCC.out (by omega)
      obtain ⟨y, hy⟩ : ∃ y, y = L[k] := ⟨_, rfl⟩
      have hyD : L.getD k jb0 = y := by rw [List.getD_eq_getElem?_getD, List.getElem?_eq_getElem hkL, Option.getD_some, hy]
      have HYE := Lib.hid hyD
      have hc2 := hc _ HB.out k hkL
      rw [← hy] at hc2
      have p0 : wr.cell? ⟨g, off + k * 4, none⟩ = some (.int .i64 y.s) := hc2 0 _ rfl
      have p1 : wr.cell? ⟨g, off + k * 4 + 1, none⟩ = some (.int .i64 y.r) := hc2 1 _ rfl
      have p2 : wr.cell? ⟨g, off + k * 4 + 2, none⟩ = some (.int .i64 y.d) := hc2 2 _ rfl
      have p3 : wr.cell? ⟨g, off + k * 4 + 3, none⟩ = some (.int .i64 y.c) := hc2 3 _ rfl
      have HRR := Lib.hid (rright_any y)
      unfold Jb.v at HRR
      clear hc hc2 hy hyD
      by_cases hr : rightJ y = true
      · rw [hr] at HRR
        have HR1 := Lib.hid hr
        clear hr
        go_wp2_with fail
        refine (HRR.out _).mono ?_
        rintro z w2 ⟨rfl, hb⟩
        have HB2 := Lib.hid (below_transE HB.out hb HB.out.size)
        clear hb
        go_wp2_with fail
        go_roundw
        case rel => exact ⟨k + 1, by simp, by omega, fun j hj => by
          by_cases e : j = k
          · subst e; rw [HYE.out]; exact HR1.out
          · exact HAK.out j (by omega), HB2.out⟩
        case measure => simp [intOf]; omega
      · have hr : rightJ y = false := by simpa using hr
        rw [hr] at HRR
        have HM := Lib.hid (mayJ_10 HNN.out.1 HNN.out.2.1 HNN.out.2.2 hkL (by rw [HYE.out]; exact hr))
        clear hr hkL
        go_wp2_with fail
        refine (HRR.out _).mono ?_
        rintro z w2 ⟨rfl, hb⟩
        have HB2 := Lib.hid (below_transE HB.out hb HB.out.size)
        clear hb
        go_wp2_with fail
        go_ret2
        exact ⟨.inl ⟨by rw [HM.out]; decide, by rw [HM.out]; rfl⟩, HB2.out⟩
    · have i4 : ¬ (k : Int) < (N : Int) := by omega
      have hkN : k = N := by omega
      have HAL := Lib.hid (show ∀ i, i < L.length → rightJ (L.getD i jb0) = true from fun i hi => HAK.out i (by have := HN.out; omega))
      have HM0 := Lib.hid (mayJ_0 HNN.out.1 HNN.out.2.1 HNN.out.2.2 HAL.out)
      have hmk := make_bools N (by omega)
      go_wp2_with fail
      obtain ⟨w3, hw3⟩ : ∃ u, u = wr.alloc (.cells (bitD N []).toArray 4) := ⟨_, rfl⟩
      have HK3 := Lib.hid (show Below W.heap.size W w3 by rw [hw3]; exact HB.out.alloc HB.out.size _)
      have HG3 := Lib.hid (show Blk w3 wr.heap.size 4 (bitD N []) by rw [hw3]; exact Blk.new _ _ _)
      rw [← hw3]
      clear hw3 hmk
      obtain ⟨G, hG⟩ : ∃ G, G = wr.heap.size := ⟨_, rfl⟩
      have HGE := Lib.hid (show W.heap.size ≤ G by rw [hG]; exact HB.out.size)
      rw [← hG]
      rw [← hG] at HG3
      clear hG hkN hlt hk i4
      go_loopw [8, 9] (fun s8 s9 wr => ∃ (S : List Sn) (now : Int), s9 = .int .i64 now ∧ RR L len W G S now s8 wr) (fun s8 s9 _ => (N - sliceLen s8) + leftN L (intOf s9))
      case atStart => exact ⟨[], 0, rfl, ⟨Tr.nil L len, ⟨rfl, .inl ⟨rfl, rfl⟩⟩, by rw [← HN.out]; exact HG3.out, by decide, fun h => absurd h (by decide), by decide, HK3.out, by simp⟩⟩
      case round =>
        obtain ⟨S, now, rfl, hR⟩ := hrel
        obtain ⟨av, cv, hv⟩ := hR.sl
        subst hv
        have HRI := Lib.hid hR
        have hlen := hR.len
        obtain ⟨M, hM⟩ : ∃ M, M = S.length := ⟨_, rfl⟩
        have HMM := Lib.hid hM
        rw [← hM]
        by_cases hlt : M < N
        · have i1 : (M : Int) < (N : Int) := by omega
          obtain ⟨Ds, hDs⟩ : ∃ D, D = S.map Sn.j := ⟨_, rfl⟩
          have HDS := Lib.hid hDs
          obtain ⟨i5, hi5⟩ := one_left (n := N) (Ds := Ds) (by rw [hDs, List.length_map]; omega)
          have HLEFT := Lib.hid (show i5 < N ∧ i5 ∉ Ds from hi5)
          obtain ⟨g, off, rfl, hc⟩ := HCC.out (by have := HN.out; omega)
          have HCC := Lib.hid hc
          have HLB := Lib.hid (show 1 ≤ len ∧ len ≤ 1073741824 by have := HNN.out; omega)
          have HPOS := Lib.hid hR.pos
          clear hR hM hlen hDs hi5 hc
          go_wp2_with fail
          go_loopw [10, 11, 12] (fun s10 s11 s12 wx => ∃ (m : Nat) (bst soon : Int), s10 = .int .i64 bst ∧ s11 = .int .i64 soon ∧ s12 = .int .i64 (m : Int) ∧ m ≤ N ∧ BestI L len Ds now m bst ∧ SoonI L Ds m soon ∧ Below wr.heap.size wr wx) (fun _ _ i _ => N - (intOf i).toNat)
          case atStart => exact ⟨0, -1, 1152921504606846976, rfl, rfl, rfl, by omega, .inl ⟨rfl, fun i h => absurd h (by omega)⟩, ⟨fun i h => absurd h (by omega), .inl rfl, by omega⟩, by first | exact Below.refl _ _ | exact (Below.refl _ _).drew⟩
          case round =>
            obtain ⟨m, bst, soon, rfl, rfl, rfl, hmM, hbe, hso, hbr2⟩ := hrel
            have HBX0 := Lib.hid hbr2; have HBE := Lib.hid hbe; have HSO := Lib.hid hso
            have HBX := Lib.hid (HRI.out.bel.trans (hbr2.mono HRI.out.bel.size))
            clear hbr2 hbe hso
            have i10 : (0 : Int) ≤ (m : Int) := by omega
            have x4 : wrap64 ((m : Int) + 1) = (m : Int) + 1 := by unfold wrap64; omega
            by_cases hlt2 : m < N
            · have i11 : (m : Int) < (N : Int) := by omega
              have hmN : m < L.length := by have := HN.out; omega
              obtain ⟨y, hy⟩ : ∃ y, y = L[m] := ⟨_, rfl⟩
              have HYE := Lib.hid (show L.getD m jb0 = y by rw [List.getD_eq_getElem?_getD, List.getElem?_eq_getElem hmN, Option.getD_some, hy])
              have hy0 : (L[m].C)[0]? = some (.int .i64 y.s) := by rw [← hy]; rfl
              have hy1 : (L[m].C)[1]? = some (.int .i64 y.r) := by rw [← hy]; rfl
              have hy2 : (L[m].C)[2]? = some (.int .i64 y.d) := by rw [← hy]; rfl
              have hy3 : (L[m].C)[3]? = some (.int .i64 y.c) := by rw [← hy]; rfl
              have hdb := (HRI.out.blk.keep HBX0.out HRI.out.blk.lt).cellAt (i := m) (by rw [bitD_len]; exact hmN)
              rw [bitD_get, ← HDS.out] at hdb
              by_cases hin : m ∈ Ds
              · rw [decide_eq_true hin] at hdb
                have HBI := Lib.hid (HBE.out.skip (fun h => absurd hin h))
                have HSI := Lib.hid (HSO.out.skip (fun h => absurd hin h))
                clear hy hin hy0 hy1 hy2 hy3
                go_wp2_with fail
                go_roundw
                case rel => exact ⟨m + 1, _, _, rfl, rfl, by simp, by omega, HBI.out, HSI.out, by first | exact HBX0.out | exact HBX0.out.drew⟩
                case measure => simp [intOf]; omega
              · rw [decide_eq_false hin] at hdb
                have p1 := HCC.out _ HBX.out m hmN 1 _ hy1
                have hbst : bst = -1 ∨ ∃ bm : Nat, bst = (bm : Int) ∧ bm < m := by
                  rcases HBE.out with ⟨h1, _⟩ | ⟨bm, h1, h2, _⟩
                  · exact .inl h1
                  · exact .inr ⟨bm, h1, h2⟩
                clear hy
                by_cases hsl : y.r < soon
                · have i6 : y.r < soon := hsl
                  by_cases hnow : y.r ≤ now
                  · have hnow_ := hnow
                    rcases hbst with hbm | ⟨bm, rfl, hbmlt⟩
                    · subst hbm
                      have i7 : (-1 : Int) < 0 := by omega
                      have HZ := Lib.hid (show ∀ u, Below wr.heap.size wr u → Below wr.heap.size wr u ∧ u.cell? ⟨g, off + m * 4, none⟩ = some (.int .i64 y.s) ∧ u.cell? ⟨g, off + m * 4 + 1, none⟩ = some (.int .i64 y.r) ∧ u.cell? ⟨g, off + m * 4 + 2, none⟩ = some (.int .i64 y.d) ∧ u.cell? ⟨g, off + m * 4 + 3, none⟩ = some (.int .i64 y.c) from fun u hx => ⟨hx, (HCC.out _ (HBX.out.trans (hx.mono HBX.out.size)) m hmN 0 _ hy0), (HCC.out _ (HBX.out.trans (hx.mono HBX.out.size)) m hmN 1 _ hy1), (HCC.out _ (HBX.out.trans (hx.mono HBX.out.size)) m hmN 2 _ hy2), (HCC.out _ (HBX.out.trans (hx.mono HBX.out.size)) m hmN 3 _ hy3)⟩)
                      have HBI := Lib.hid (show BestI L len Ds now (m + 1) (m : Int) from HBE.out.first hin (by rw [HYE.out]; exact hnow))
                      have HSI := Lib.hid (show SoonI L Ds (m + 1) y.r from by have hh := HSO.out.take hin (by rw [HYE.out]; exact hsl); rw [HYE.out] at hh; exact hh)
                      clear hnow hsl hin
                      go_upto_region 21 with fail
                      refine wp_region_class (C := fun x_ => Below wr.heap.size wr x_ ∧ x_.cell? ⟨g, off + m * 4, none⟩ = some (.int .i64 y.s) ∧ x_.cell? ⟨g, off + m * 4 + 1, none⟩ = some (.int .i64 y.r) ∧ x_.cell? ⟨g, off + m * 4 + 2, none⟩ = some (.int .i64 y.d) ∧ x_.cell? ⟨g, off + m * 4 + 3, none⟩ = some (.int .i64 y.c)) (by kernel_rfl) (by kernel_rfl) (HZ.out _ (Below.refl _ _).drew) ?_
                      repeat
                        with_reducible refine wpQuiet_step (fun K hK => ?_)
                        first
                          | (refine quiet_skip (by rfl) ?_; (with_reducible refine hK _ ?_); clear hK K)
                          | (refine quiet_want (by rfl) ?_
                             apply Exists.intro
                             refine ⟨fun xw hx => ?_, hK _ ?_⟩
                             (obtain ⟨_, hx1, hx2, hx3, hx4⟩ := id hx; go_simp; first | done | rfl | (fail))
                             clear hK K)
                        try simp only [Act.put, List.setIfInBounds_toArray, List.set_cons_zero, List.set_cons_succ]
                      with_reducible refine wpQuiet_nil ?_
                      intro wq hq
                      have HB5 := Lib.hid (HBX0.out.trans (hq.1.mono HBX0.out.size))
                      clear hq
                      go_wp2_with fail
                      go_roundw
                      case rel => exact ⟨m + 1, _, _, rfl, rfl, by simp, by omega, HBI.out, HSI.out, by first | exact HB5.out | exact HB5.out.drew⟩
                      case measure => simp [intOf]; omega
                    · have i7 : ¬ (bm : Int) < 0 := by omega
                      have i8 : (0 : Int) ≤ (bm : Int) := by omega
                      have i9 : (bm : Int) < (N : Int) := by omega
                      have hbN : bm < L.length := by have := HN.out; omega
                      obtain ⟨z, hz⟩ : ∃ z, z = L[bm] := ⟨_, rfl⟩
                      have hzD : L.getD bm jb0 = z := by rw [List.getD_eq_getElem?_getD, List.getElem?_eq_getElem hbN, Option.getD_some, hz]
                      have hz0 : (L[bm].C)[0]? = some (.int .i64 z.s) := by rw [← hz]; rfl
                      have hz1 : (L[bm].C)[1]? = some (.int .i64 z.r) := by rw [← hz]; rfl
                      have hz2 : (L[bm].C)[2]? = some (.int .i64 z.d) := by rw [← hz]; rfl
                      have hz3 : (L[bm].C)[3]? = some (.int .i64 z.c) := by rw [← hz]; rfl
                      have HRA := Lib.hid (rahead_any y z len)
                      unfold Jb.v at HRA
                      by_cases hah : aheadJ y z len = true
                      · rw [hah] at HRA
                        have HKL := Lib.hid (show klt len (plc L m) (plc L bm) from ahead_klt HLB.out (HAL.out m hmN) (HAL.out bm hbN) (by rw [HYE.out, hzD]; exact hah))
                        clear hzD hz hah
                        have HZ := Lib.hid (show ∀ u, Below wr.heap.size wr u → Below wr.heap.size wr u ∧ u.cell? ⟨g, off + m * 4, none⟩ = some (.int .i64 y.s) ∧ u.cell? ⟨g, off + m * 4 + 1, none⟩ = some (.int .i64 y.r) ∧ u.cell? ⟨g, off + m * 4 + 2, none⟩ = some (.int .i64 y.d) ∧ u.cell? ⟨g, off + m * 4 + 3, none⟩ = some (.int .i64 y.c) ∧ u.cell? ⟨g, off + bm * 4, none⟩ = some (.int .i64 z.s) ∧ u.cell? ⟨g, off + bm * 4 + 1, none⟩ = some (.int .i64 z.r) ∧ u.cell? ⟨g, off + bm * 4 + 2, none⟩ = some (.int .i64 z.d) ∧ u.cell? ⟨g, off + bm * 4 + 3, none⟩ = some (.int .i64 z.c) from fun u hx => ⟨hx, (HCC.out _ (HBX.out.trans (hx.mono HBX.out.size)) m hmN 0 _ hy0), (HCC.out _ (HBX.out.trans (hx.mono HBX.out.size)) m hmN 1 _ hy1), (HCC.out _ (HBX.out.trans (hx.mono HBX.out.size)) m hmN 2 _ hy2), (HCC.out _ (HBX.out.trans (hx.mono HBX.out.size)) m hmN 3 _ hy3), (HCC.out _ (HBX.out.trans (hx.mono HBX.out.size)) bm hbN 0 _ hz0), (HCC.out _ (HBX.out.trans (hx.mono HBX.out.size)) bm hbN 1 _ hz1), (HCC.out _ (HBX.out.trans (hx.mono HBX.out.size)) bm hbN 2 _ hz2), (HCC.out _ (HBX.out.trans (hx.mono HBX.out.size)) bm hbN 3 _ hz3)⟩)
                        have HBI := Lib.hid (show BestI L len Ds now (m + 1) (m : Int) from HBE.out.better hin (by rw [HYE.out]; exact hnow) HKL.out)
                        have HSI := Lib.hid (show SoonI L Ds (m + 1) y.r from by have hh := HSO.out.take hin (by rw [HYE.out]; exact hsl); rw [HYE.out] at hh; exact hh)
                        clear hnow hsl hin
                        go_upto_region 21 with fail
                        refine wp_region_class (C := fun x_ => Below wr.heap.size wr x_ ∧ x_.cell? ⟨g, off + m * 4, none⟩ = some (.int .i64 y.s) ∧ x_.cell? ⟨g, off + m * 4 + 1, none⟩ = some (.int .i64 y.r) ∧ x_.cell? ⟨g, off + m * 4 + 2, none⟩ = some (.int .i64 y.d) ∧ x_.cell? ⟨g, off + m * 4 + 3, none⟩ = some (.int .i64 y.c) ∧ x_.cell? ⟨g, off + bm * 4, none⟩ = some (.int .i64 z.s) ∧ x_.cell? ⟨g, off + bm * 4 + 1, none⟩ = some (.int .i64 z.r) ∧ x_.cell? ⟨g, off + bm * 4 + 2, none⟩ = some (.int .i64 z.d) ∧ x_.cell? ⟨g, off + bm * 4 + 3, none⟩ = some (.int .i64 z.c)) (by kernel_rfl) (by kernel_rfl) (HZ.out _ (Below.refl _ _).drew) ?_
                        repeat
                          with_reducible refine wpQuiet_step (fun K hK => ?_)
                          first
                            | (refine quiet_skip (by rfl) ?_; (with_reducible refine hK _ ?_); clear hK K)
                            | (refine quiet_want (by rfl) ?_
                               apply Exists.intro
                               refine ⟨fun xw hx => ?_, hK _ ?_⟩
                               (obtain ⟨_, hx1, hx2, hx3, hx4, hx5, hx6, hx7, hx8⟩ := id hx; go_simp; first | done | rfl | ((go_at_call 19; with_reducible exact Calls.mono (HRA.out xw) (fun y w' hh => ⟨hh.1, HZ.out _ (below_transG hx.1 hh.2)⟩))))
                               clear hK K)
                          try simp only [Act.put, List.setIfInBounds_toArray, List.set_cons_zero, List.set_cons_succ]
                        with_reducible refine wpQuiet_nil ?_
                        intro wq hq
                        have HB5 := Lib.hid (HBX0.out.trans (hq.1.mono HBX0.out.size))
                        clear hq
                        go_wp2_with fail
                        go_roundw
                        case rel => exact ⟨m + 1, _, _, rfl, rfl, by simp, by omega, HBI.out, HSI.out, by first | exact HB5.out | exact HB5.out.drew⟩
                        case measure => simp [intOf]; omega
                      · have hah : aheadJ y z len = false := by simpa using hah
                        rw [hah] at HRA
                        have HKL := Lib.hid (show klt len (plc L bm) (plc L m) from nahead_klt HLB.out (HAL.out m hmN) (HAL.out bm hbN) (by rw [HYE.out, hzD]; exact hah) hbmlt)
                        clear hzD hz hah
                        have HZ := Lib.hid (show ∀ u, Below wr.heap.size wr u → Below wr.heap.size wr u ∧ u.cell? ⟨g, off + m * 4, none⟩ = some (.int .i64 y.s) ∧ u.cell? ⟨g, off + m * 4 + 1, none⟩ = some (.int .i64 y.r) ∧ u.cell? ⟨g, off + m * 4 + 2, none⟩ = some (.int .i64 y.d) ∧ u.cell? ⟨g, off + m * 4 + 3, none⟩ = some (.int .i64 y.c) ∧ u.cell? ⟨g, off + bm * 4, none⟩ = some (.int .i64 z.s) ∧ u.cell? ⟨g, off + bm * 4 + 1, none⟩ = some (.int .i64 z.r) ∧ u.cell? ⟨g, off + bm * 4 + 2, none⟩ = some (.int .i64 z.d) ∧ u.cell? ⟨g, off + bm * 4 + 3, none⟩ = some (.int .i64 z.c) from fun u hx => ⟨hx, (HCC.out _ (HBX.out.trans (hx.mono HBX.out.size)) m hmN 0 _ hy0), (HCC.out _ (HBX.out.trans (hx.mono HBX.out.size)) m hmN 1 _ hy1), (HCC.out _ (HBX.out.trans (hx.mono HBX.out.size)) m hmN 2 _ hy2), (HCC.out _ (HBX.out.trans (hx.mono HBX.out.size)) m hmN 3 _ hy3), (HCC.out _ (HBX.out.trans (hx.mono HBX.out.size)) bm hbN 0 _ hz0), (HCC.out _ (HBX.out.trans (hx.mono HBX.out.size)) bm hbN 1 _ hz1), (HCC.out _ (HBX.out.trans (hx.mono HBX.out.size)) bm hbN 2 _ hz2), (HCC.out _ (HBX.out.trans (hx.mono HBX.out.size)) bm hbN 3 _ hz3)⟩)
                        have HBI := Lib.hid (show BestI L len Ds now (m + 1) (bm : Int) from HBE.out.worse HKL.out)
                        have HSI := Lib.hid (show SoonI L Ds (m + 1) y.r from by have hh := HSO.out.take hin (by rw [HYE.out]; exact hsl); rw [HYE.out] at hh; exact hh)
                        clear hnow hsl hin
                        go_upto_region 21 with fail
                        refine wp_region_class (C := fun x_ => Below wr.heap.size wr x_ ∧ x_.cell? ⟨g, off + m * 4, none⟩ = some (.int .i64 y.s) ∧ x_.cell? ⟨g, off + m * 4 + 1, none⟩ = some (.int .i64 y.r) ∧ x_.cell? ⟨g, off + m * 4 + 2, none⟩ = some (.int .i64 y.d) ∧ x_.cell? ⟨g, off + m * 4 + 3, none⟩ = some (.int .i64 y.c) ∧ x_.cell? ⟨g, off + bm * 4, none⟩ = some (.int .i64 z.s) ∧ x_.cell? ⟨g, off + bm * 4 + 1, none⟩ = some (.int .i64 z.r) ∧ x_.cell? ⟨g, off + bm * 4 + 2, none⟩ = some (.int .i64 z.d) ∧ x_.cell? ⟨g, off + bm * 4 + 3, none⟩ = some (.int .i64 z.c)) (by kernel_rfl) (by kernel_rfl) (HZ.out _ (Below.refl _ _).drew) ?_
                        repeat
                          with_reducible refine wpQuiet_step (fun K hK => ?_)
                          first
                            | (refine quiet_skip (by rfl) ?_; (with_reducible refine hK _ ?_); clear hK K)
                            | (refine quiet_want (by rfl) ?_
                               apply Exists.intro
                               refine ⟨fun xw hx => ?_, hK _ ?_⟩
                               (obtain ⟨_, hx1, hx2, hx3, hx4, hx5, hx6, hx7, hx8⟩ := id hx; go_simp; first | done | rfl | ((go_at_call 19; with_reducible exact Calls.mono (HRA.out xw) (fun y w' hh => ⟨hh.1, HZ.out _ (below_transG hx.1 hh.2)⟩))))
                               clear hK K)
                          try simp only [Act.put, List.setIfInBounds_toArray, List.set_cons_zero, List.set_cons_succ]
                        with_reducible refine wpQuiet_nil ?_
                        intro wq hq
                        have HB5 := Lib.hid (HBX0.out.trans (hq.1.mono HBX0.out.size))
                        clear hq
                        go_wp2_with fail
                        go_roundw
                        case rel => exact ⟨m + 1, _, _, rfl, rfl, by simp, by omega, HBI.out, HSI.out, by first | exact HB5.out | exact HB5.out.drew⟩
                        case measure => simp [intOf]; omega
                  · have i7 : ¬ y.r ≤ now := hnow
                    have hnow : now < y.r := by omega
                    have HZ := Lib.hid (show ∀ u, Below wr.heap.size wr u → Below wr.heap.size wr u ∧ u.cell? ⟨g, off + m * 4, none⟩ = some (.int .i64 y.s) ∧ u.cell? ⟨g, off + m * 4 + 1, none⟩ = some (.int .i64 y.r) ∧ u.cell? ⟨g, off + m * 4 + 2, none⟩ = some (.int .i64 y.d) ∧ u.cell? ⟨g, off + m * 4 + 3, none⟩ = some (.int .i64 y.c) from fun u hx => ⟨hx, (HCC.out _ (HBX.out.trans (hx.mono HBX.out.size)) m hmN 0 _ hy0), (HCC.out _ (HBX.out.trans (hx.mono HBX.out.size)) m hmN 1 _ hy1), (HCC.out _ (HBX.out.trans (hx.mono HBX.out.size)) m hmN 2 _ hy2), (HCC.out _ (HBX.out.trans (hx.mono HBX.out.size)) m hmN 3 _ hy3)⟩)
                    have HBI := Lib.hid (show BestI L len Ds now (m + 1) bst from HBE.out.skip (fun _ => by rw [HYE.out]; exact hnow))
                    have HSI := Lib.hid (show SoonI L Ds (m + 1) y.r from by have hh := HSO.out.take hin (by rw [HYE.out]; exact hsl); rw [HYE.out] at hh; exact hh)
                    clear hnow hsl hin
                    go_upto_region 21 with fail
                    refine wp_region_class (C := fun x_ => Below wr.heap.size wr x_ ∧ x_.cell? ⟨g, off + m * 4, none⟩ = some (.int .i64 y.s) ∧ x_.cell? ⟨g, off + m * 4 + 1, none⟩ = some (.int .i64 y.r) ∧ x_.cell? ⟨g, off + m * 4 + 2, none⟩ = some (.int .i64 y.d) ∧ x_.cell? ⟨g, off + m * 4 + 3, none⟩ = some (.int .i64 y.c)) (by kernel_rfl) (by kernel_rfl) (HZ.out _ (Below.refl _ _).drew) ?_
                    repeat
                      with_reducible refine wpQuiet_step (fun K hK => ?_)
                      first
                        | (refine quiet_skip (by rfl) ?_; (with_reducible refine hK _ ?_); clear hK K)
                        | (refine quiet_want (by rfl) ?_
                           apply Exists.intro
                           refine ⟨fun xw hx => ?_, hK _ ?_⟩
                           (obtain ⟨_, hx1, hx2, hx3, hx4⟩ := id hx; go_simp; first | done | rfl | (fail))
                           clear hK K)
                      try simp only [Act.put, List.setIfInBounds_toArray, List.set_cons_zero, List.set_cons_succ]
                    with_reducible refine wpQuiet_nil ?_
                    intro wq hq
                    have HB5 := Lib.hid (HBX0.out.trans (hq.1.mono HBX0.out.size))
                    clear hq
                    go_wp2_with fail
                    go_roundw
                    case rel => exact ⟨m + 1, _, _, rfl, rfl, by simp, by omega, HBI.out, HSI.out, by first | exact HB5.out | exact HB5.out.drew⟩
                    case measure => simp [intOf]; omega
                · have i6 : ¬ y.r < soon := hsl
                  by_cases hnow : y.r ≤ now
                  · have hnow_ := hnow
                    rcases hbst with hbm | ⟨bm, rfl, hbmlt⟩
                    · subst hbm
                      have i7 : (-1 : Int) < 0 := by omega
                      have HZ := Lib.hid (show ∀ u, Below wr.heap.size wr u → Below wr.heap.size wr u ∧ u.cell? ⟨g, off + m * 4, none⟩ = some (.int .i64 y.s) ∧ u.cell? ⟨g, off + m * 4 + 1, none⟩ = some (.int .i64 y.r) ∧ u.cell? ⟨g, off + m * 4 + 2, none⟩ = some (.int .i64 y.d) ∧ u.cell? ⟨g, off + m * 4 + 3, none⟩ = some (.int .i64 y.c) from fun u hx => ⟨hx, (HCC.out _ (HBX.out.trans (hx.mono HBX.out.size)) m hmN 0 _ hy0), (HCC.out _ (HBX.out.trans (hx.mono HBX.out.size)) m hmN 1 _ hy1), (HCC.out _ (HBX.out.trans (hx.mono HBX.out.size)) m hmN 2 _ hy2), (HCC.out _ (HBX.out.trans (hx.mono HBX.out.size)) m hmN 3 _ hy3)⟩)
                      have HBI := Lib.hid (show BestI L len Ds now (m + 1) (m : Int) from HBE.out.first hin (by rw [HYE.out]; exact hnow))
                      have HSI := Lib.hid (show SoonI L Ds (m + 1) soon from HSO.out.skip (fun _ => by rw [HYE.out]; omega))
                      clear hnow hsl hin
                      go_upto_region 21 with fail
                      refine wp_region_class (C := fun x_ => Below wr.heap.size wr x_ ∧ x_.cell? ⟨g, off + m * 4, none⟩ = some (.int .i64 y.s) ∧ x_.cell? ⟨g, off + m * 4 + 1, none⟩ = some (.int .i64 y.r) ∧ x_.cell? ⟨g, off + m * 4 + 2, none⟩ = some (.int .i64 y.d) ∧ x_.cell? ⟨g, off + m * 4 + 3, none⟩ = some (.int .i64 y.c)) (by kernel_rfl) (by kernel_rfl) (HZ.out _ (Below.refl _ _).drew) ?_
                      repeat
                        with_reducible refine wpQuiet_step (fun K hK => ?_)
                        first
                          | (refine quiet_skip (by rfl) ?_; (with_reducible refine hK _ ?_); clear hK K)
                          | (refine quiet_want (by rfl) ?_
                             apply Exists.intro
                             refine ⟨fun xw hx => ?_, hK _ ?_⟩
                             (obtain ⟨_, hx1, hx2, hx3, hx4⟩ := id hx; go_simp; first | done | rfl | (fail))
                             clear hK K)
                        try simp only [Act.put, List.setIfInBounds_toArray, List.set_cons_zero, List.set_cons_succ]
                      with_reducible refine wpQuiet_nil ?_
                      intro wq hq
                      have HB5 := Lib.hid (HBX0.out.trans (hq.1.mono HBX0.out.size))
                      clear hq
                      go_wp2_with fail
                      go_roundw
                      case rel => exact ⟨m + 1, _, _, rfl, rfl, by simp, by omega, HBI.out, HSI.out, by first | exact HB5.out | exact HB5.out.drew⟩
                      case measure => simp [intOf]; omega
                    · have i7 : ¬ (bm : Int) < 0 := by omega
                      have i8 : (0 : Int) ≤ (bm : Int) := by omega
                      have i9 : (bm : Int) < (N : Int) := by omega
                      have hbN : bm < L.length := by have := HN.out; omega
                      obtain ⟨z, hz⟩ : ∃ z, z = L[bm] := ⟨_, rfl⟩
                      have hzD : L.getD bm jb0 = z := by rw [List.getD_eq_getElem?_getD, List.getElem?_eq_getElem hbN, Option.getD_some, hz]
                      have hz0 : (L[bm].C)[0]? = some (.int .i64 z.s) := by rw [← hz]; rfl
                      have hz1 : (L[bm].C)[1]? = some (.int .i64 z.r) := by rw [← hz]; rfl
                      have hz2 : (L[bm].C)[2]? = some (.int .i64 z.d) := by rw [← hz]; rfl
                      have hz3 : (L[bm].C)[3]? = some (.int .i64 z.c) := by rw [← hz]; rfl
                      have HRA := Lib.hid (rahead_any y z len)
                      unfold Jb.v at HRA
                      by_cases hah : aheadJ y z len = true
                      · rw [hah] at HRA
                        have HKL := Lib.hid (show klt len (plc L m) (plc L bm) from ahead_klt HLB.out (HAL.out m hmN) (HAL.out bm hbN) (by rw [HYE.out, hzD]; exact hah))
                        clear hzD hz hah
                        have HZ := Lib.hid (show ∀ u, Below wr.heap.size wr u → Below wr.heap.size wr u ∧ u.cell? ⟨g, off + m * 4, none⟩ = some (.int .i64 y.s) ∧ u.cell? ⟨g, off + m * 4 + 1, none⟩ = some (.int .i64 y.r) ∧ u.cell? ⟨g, off + m * 4 + 2, none⟩ = some (.int .i64 y.d) ∧ u.cell? ⟨g, off + m * 4 + 3, none⟩ = some (.int .i64 y.c) ∧ u.cell? ⟨g, off + bm * 4, none⟩ = some (.int .i64 z.s) ∧ u.cell? ⟨g, off + bm * 4 + 1, none⟩ = some (.int .i64 z.r) ∧ u.cell? ⟨g, off + bm * 4 + 2, none⟩ = some (.int .i64 z.d) ∧ u.cell? ⟨g, off + bm * 4 + 3, none⟩ = some (.int .i64 z.c) from fun u hx => ⟨hx, (HCC.out _ (HBX.out.trans (hx.mono HBX.out.size)) m hmN 0 _ hy0), (HCC.out _ (HBX.out.trans (hx.mono HBX.out.size)) m hmN 1 _ hy1), (HCC.out _ (HBX.out.trans (hx.mono HBX.out.size)) m hmN 2 _ hy2), (HCC.out _ (HBX.out.trans (hx.mono HBX.out.size)) m hmN 3 _ hy3), (HCC.out _ (HBX.out.trans (hx.mono HBX.out.size)) bm hbN 0 _ hz0), (HCC.out _ (HBX.out.trans (hx.mono HBX.out.size)) bm hbN 1 _ hz1), (HCC.out _ (HBX.out.trans (hx.mono HBX.out.size)) bm hbN 2 _ hz2), (HCC.out _ (HBX.out.trans (hx.mono HBX.out.size)) bm hbN 3 _ hz3)⟩)
                        have HBI := Lib.hid (show BestI L len Ds now (m + 1) (m : Int) from HBE.out.better hin (by rw [HYE.out]; exact hnow) HKL.out)
                        have HSI := Lib.hid (show SoonI L Ds (m + 1) soon from HSO.out.skip (fun _ => by rw [HYE.out]; omega))
                        clear hnow hsl hin
                        go_upto_region 21 with fail
                        refine wp_region_class (C := fun x_ => Below wr.heap.size wr x_ ∧ x_.cell? ⟨g, off + m * 4, none⟩ = some (.int .i64 y.s) ∧ x_.cell? ⟨g, off + m * 4 + 1, none⟩ = some (.int .i64 y.r) ∧ x_.cell? ⟨g, off + m * 4 + 2, none⟩ = some (.int .i64 y.d) ∧ x_.cell? ⟨g, off + m * 4 + 3, none⟩ = some (.int .i64 y.c) ∧ x_.cell? ⟨g, off + bm * 4, none⟩ = some (.int .i64 z.s) ∧ x_.cell? ⟨g, off + bm * 4 + 1, none⟩ = some (.int .i64 z.r) ∧ x_.cell? ⟨g, off + bm * 4 + 2, none⟩ = some (.int .i64 z.d) ∧ x_.cell? ⟨g, off + bm * 4 + 3, none⟩ = some (.int .i64 z.c)) (by kernel_rfl) (by kernel_rfl) (HZ.out _ (Below.refl _ _).drew) ?_
                        repeat
                          with_reducible refine wpQuiet_step (fun K hK => ?_)
                          first
                            | (refine quiet_skip (by rfl) ?_; (with_reducible refine hK _ ?_); clear hK K)
                            | (refine quiet_want (by rfl) ?_
                               apply Exists.intro
                               refine ⟨fun xw hx => ?_, hK _ ?_⟩
                               (obtain ⟨_, hx1, hx2, hx3, hx4, hx5, hx6, hx7, hx8⟩ := id hx; go_simp; first | done | rfl | ((go_at_call 19; with_reducible exact Calls.mono (HRA.out xw) (fun y w' hh => ⟨hh.1, HZ.out _ (below_transG hx.1 hh.2)⟩))))
                               clear hK K)
                          try simp only [Act.put, List.setIfInBounds_toArray, List.set_cons_zero, List.set_cons_succ]
                        with_reducible refine wpQuiet_nil ?_
                        intro wq hq
                        have HB5 := Lib.hid (HBX0.out.trans (hq.1.mono HBX0.out.size))
                        clear hq
                        go_wp2_with fail
                        go_roundw
                        case rel => exact ⟨m + 1, _, _, rfl, rfl, by simp, by omega, HBI.out, HSI.out, by first | exact HB5.out | exact HB5.out.drew⟩
                        case measure => simp [intOf]; omega
                      · have hah : aheadJ y z len = false := by simpa using hah
                        rw [hah] at HRA
                        have HKL := Lib.hid (show klt len (plc L bm) (plc L m) from nahead_klt HLB.out (HAL.out m hmN) (HAL.out bm hbN) (by rw [HYE.out, hzD]; exact hah) hbmlt)
                        clear hzD hz hah
                        have HZ := Lib.hid (show ∀ u, Below wr.heap.size wr u → Below wr.heap.size wr u ∧ u.cell? ⟨g, off + m * 4, none⟩ = some (.int .i64 y.s) ∧ u.cell? ⟨g, off + m * 4 + 1, none⟩ = some (.int .i64 y.r) ∧ u.cell? ⟨g, off + m * 4 + 2, none⟩ = some (.int .i64 y.d) ∧ u.cell? ⟨g, off + m * 4 + 3, none⟩ = some (.int .i64 y.c) ∧ u.cell? ⟨g, off + bm * 4, none⟩ = some (.int .i64 z.s) ∧ u.cell? ⟨g, off + bm * 4 + 1, none⟩ = some (.int .i64 z.r) ∧ u.cell? ⟨g, off + bm * 4 + 2, none⟩ = some (.int .i64 z.d) ∧ u.cell? ⟨g, off + bm * 4 + 3, none⟩ = some (.int .i64 z.c) from fun u hx => ⟨hx, (HCC.out _ (HBX.out.trans (hx.mono HBX.out.size)) m hmN 0 _ hy0), (HCC.out _ (HBX.out.trans (hx.mono HBX.out.size)) m hmN 1 _ hy1), (HCC.out _ (HBX.out.trans (hx.mono HBX.out.size)) m hmN 2 _ hy2), (HCC.out _ (HBX.out.trans (hx.mono HBX.out.size)) m hmN 3 _ hy3), (HCC.out _ (HBX.out.trans (hx.mono HBX.out.size)) bm hbN 0 _ hz0), (HCC.out _ (HBX.out.trans (hx.mono HBX.out.size)) bm hbN 1 _ hz1), (HCC.out _ (HBX.out.trans (hx.mono HBX.out.size)) bm hbN 2 _ hz2), (HCC.out _ (HBX.out.trans (hx.mono HBX.out.size)) bm hbN 3 _ hz3)⟩)
                        have HBI := Lib.hid (show BestI L len Ds now (m + 1) (bm : Int) from HBE.out.worse HKL.out)
                        have HSI := Lib.hid (show SoonI L Ds (m + 1) soon from HSO.out.skip (fun _ => by rw [HYE.out]; omega))
                        clear hnow hsl hin
                        go_upto_region 21 with fail
                        refine wp_region_class (C := fun x_ => Below wr.heap.size wr x_ ∧ x_.cell? ⟨g, off + m * 4, none⟩ = some (.int .i64 y.s) ∧ x_.cell? ⟨g, off + m * 4 + 1, none⟩ = some (.int .i64 y.r) ∧ x_.cell? ⟨g, off + m * 4 + 2, none⟩ = some (.int .i64 y.d) ∧ x_.cell? ⟨g, off + m * 4 + 3, none⟩ = some (.int .i64 y.c) ∧ x_.cell? ⟨g, off + bm * 4, none⟩ = some (.int .i64 z.s) ∧ x_.cell? ⟨g, off + bm * 4 + 1, none⟩ = some (.int .i64 z.r) ∧ x_.cell? ⟨g, off + bm * 4 + 2, none⟩ = some (.int .i64 z.d) ∧ x_.cell? ⟨g, off + bm * 4 + 3, none⟩ = some (.int .i64 z.c)) (by kernel_rfl) (by kernel_rfl) (HZ.out _ (Below.refl _ _).drew) ?_
                        repeat
                          with_reducible refine wpQuiet_step (fun K hK => ?_)
                          first
                            | (refine quiet_skip (by rfl) ?_; (with_reducible refine hK _ ?_); clear hK K)
                            | (refine quiet_want (by rfl) ?_
                               apply Exists.intro
                               refine ⟨fun xw hx => ?_, hK _ ?_⟩
                               (obtain ⟨_, hx1, hx2, hx3, hx4, hx5, hx6, hx7, hx8⟩ := id hx; go_simp; first | done | rfl | ((go_at_call 19; with_reducible exact Calls.mono (HRA.out xw) (fun y w' hh => ⟨hh.1, HZ.out _ (below_transG hx.1 hh.2)⟩))))
                               clear hK K)
                          try simp only [Act.put, List.setIfInBounds_toArray, List.set_cons_zero, List.set_cons_succ]
                        with_reducible refine wpQuiet_nil ?_
                        intro wq hq
                        have HB5 := Lib.hid (HBX0.out.trans (hq.1.mono HBX0.out.size))
                        clear hq
                        go_wp2_with fail
                        go_roundw
                        case rel => exact ⟨m + 1, _, _, rfl, rfl, by simp, by omega, HBI.out, HSI.out, by first | exact HB5.out | exact HB5.out.drew⟩
                        case measure => simp [intOf]; omega
                  · have i7 : ¬ y.r ≤ now := hnow
                    have hnow : now < y.r := by omega
                    have HZ := Lib.hid (show ∀ u, Below wr.heap.size wr u → Below wr.heap.size wr u ∧ u.cell? ⟨g, off + m * 4, none⟩ = some (.int .i64 y.s) ∧ u.cell? ⟨g, off + m * 4 + 1, none⟩ = some (.int .i64 y.r) ∧ u.cell? ⟨g, off + m * 4 + 2, none⟩ = some (.int .i64 y.d) ∧ u.cell? ⟨g, off + m * 4 + 3, none⟩ = some (.int .i64 y.c) from fun u hx => ⟨hx, (HCC.out _ (HBX.out.trans (hx.mono HBX.out.size)) m hmN 0 _ hy0), (HCC.out _ (HBX.out.trans (hx.mono HBX.out.size)) m hmN 1 _ hy1), (HCC.out _ (HBX.out.trans (hx.mono HBX.out.size)) m hmN 2 _ hy2), (HCC.out _ (HBX.out.trans (hx.mono HBX.out.size)) m hmN 3 _ hy3)⟩)
                    have HBI := Lib.hid (show BestI L len Ds now (m + 1) bst from HBE.out.skip (fun _ => by rw [HYE.out]; exact hnow))
                    have HSI := Lib.hid (show SoonI L Ds (m + 1) soon from HSO.out.skip (fun _ => by rw [HYE.out]; omega))
                    clear hnow hsl hin
                    go_upto_region 21 with fail
                    refine wp_region_class (C := fun x_ => Below wr.heap.size wr x_ ∧ x_.cell? ⟨g, off + m * 4, none⟩ = some (.int .i64 y.s) ∧ x_.cell? ⟨g, off + m * 4 + 1, none⟩ = some (.int .i64 y.r) ∧ x_.cell? ⟨g, off + m * 4 + 2, none⟩ = some (.int .i64 y.d) ∧ x_.cell? ⟨g, off + m * 4 + 3, none⟩ = some (.int .i64 y.c)) (by kernel_rfl) (by kernel_rfl) (HZ.out _ (Below.refl _ _).drew) ?_
                    repeat
                      with_reducible refine wpQuiet_step (fun K hK => ?_)
                      first
                        | (refine quiet_skip (by rfl) ?_; (with_reducible refine hK _ ?_); clear hK K)
                        | (refine quiet_want (by rfl) ?_
                           apply Exists.intro
                           refine ⟨fun xw hx => ?_, hK _ ?_⟩
                           (obtain ⟨_, hx1, hx2, hx3, hx4⟩ := id hx; go_simp; first | done | rfl | (fail))
                           clear hK K)
                      try simp only [Act.put, List.setIfInBounds_toArray, List.set_cons_zero, List.set_cons_succ]
                    with_reducible refine wpQuiet_nil ?_
                    intro wq hq
                    have HB5 := Lib.hid (HBX0.out.trans (hq.1.mono HBX0.out.size))
                    clear hq
                    go_wp2_with fail
                    go_roundw
                    case rel => exact ⟨m + 1, _, _, rfl, rfl, by simp, by omega, HBI.out, HSI.out, by first | exact HB5.out | exact HB5.out.drew⟩
                    case measure => simp [intOf]; omega
            · have i11 : ¬ (m : Int) < (N : Int) := by omega
              have hmN : m = N := by omega
              have HBN := Lib.hid (show BestI L len Ds now N bst by rw [← hmN]; exact HBE.out)
              have HSN := Lib.hid (show SoonI L Ds N soon by rw [← hmN]; exact HSO.out)
              rcases HBN.out with ⟨hb1, hb2⟩ | ⟨bm, hb1, hb2, hb3, hb4, hb5⟩
              · subst hb1
                have i7 : (-1 : Int) < 0 := by omega
                obtain ⟨i6, j1, j2, j3⟩ : ∃ i, i < N ∧ i ∉ Ds ∧ (L.getD i jb0).r = soon := by
                  rcases HSN.out.2.1 with h | h
                  · have h1 := HSN.out.1 i5 HLEFT.out.1 HLEFT.out.2
                    have h2 := (rightJ_in (HAL.out i5 (by have := HLEFT.out; have := HN.out; omega))).2.1
                    omega
                  · exact h
                have j4 := hb2 i6 j1 j2
                have j5 := (rightJ_in (HAL.out i6 (by have := HN.out; omega))).2.1
                have HLT := Lib.hid (leftN_lt L (a := now) (b := soon) (i := i6) (by omega) (by have := HN.out; omega) j4 (by omega))
                have HR2 := Lib.hid (show RR L len W G S soon (.slice av M cv) wr from by
                  refine ⟨HRI.out.tr, ?_, HRI.out.blk.keep HBX0.out HRI.out.blk.lt, by have := HRI.out.now0; omega, fun _ i hi hd => HSN.out.1 i (by have := HN.out; omega) (by rw [HDS.out]; exact hd), by have := HPOS.out; rw [j3] at j5; constructor <;> omega, HBX.out, HRI.out.len⟩
                  rw [HMM.out]
                  exact own_keep2 HRI.out.own HBX0.out)
                clear hb2 j1 j2 j3 j4 j5 hmN
                go_wp2_with fail
                go_roundw
                case rel => exact ⟨S, soon, rfl, HR2.out⟩
                case measure =>
                  have h1 : intOf (.int .i64 soon) = soon := rfl
                  have h2 : intOf (.int .i64 now) = now := rfl
                  have h3 : sliceLen (.slice av M cv) = M := rfl
                  have := HLT.out
                  rw [h1, h2, h3]
                  omega
              · subst hb1
                have i7 : ¬ (bm : Int) < 0 := by omega
                have i8 : (0 : Int) ≤ (bm : Int) := by omega
                have i9 : (bm : Int) < (N : Int) := by omega
                have hbN : bm < L.length := by have := HN.out; omega
                obtain ⟨z, hz⟩ : ∃ z, z = L[bm] := ⟨_, rfl⟩
                have HZD := Lib.hid (show L.getD bm jb0 = z by rw [List.getD_eq_getElem?_getD, List.getElem?_eq_getElem hbN, Option.getD_some, hz])
                have hz3 : (L[bm].C)[3]? = some (.int .i64 z.c) := by rw [← hz]; rfl
                have HNX := Lib.hid (show Nxt L len (S.map Sn.j) (nowS S) bm now from ⟨hbN, by rw [← HDS.out]; exact hb3, hb4, HRI.out.now0, HRI.out.now1, fun i hi hd hr hne => hb5 i (by have := HN.out; omega) (by rw [HDS.out]; exact hd) hr hne⟩)
                have HZR := Lib.hid (show rightJ z = true by rw [← HZD.out]; exact HAL.out bm hbN)
                have HCZ := Lib.hid (show ∀ u, Below W.heap.size W u → u.cell? ⟨g, off + bm * 4 + 3, none⟩ = some (.int .i64 z.c) from fun u hu => HCC.out u hu bm hbN 3 _ hz3)
                obtain ⟨tc, htc⟩ : ∃ c, c = now + z.c := ⟨_, rfl⟩
                have hw64 : wrap64 (now + z.c) = tc := by have h1 := HPOS.out; have h2 := rightJ_in HZR.out; have h3 := HRI.out.len; have h4 := HN.out; rw [htc]; unfold wrap64; omega
                have HTC := Lib.hid htc
                have HBK := Lib.hid (HRI.out.blk.keep HBX0.out HRI.out.blk.lt)
                have HOW := Lib.hid (own_keep2 HRI.out.own HBX0.out)
                have qf : wr.frozen? ⟨G, bm, none⟩ = false := HBK.out.frozenAt bm
                have qc : ∃ b, wr.cell? ⟨G, bm, none⟩ = some (.bool b) := ⟨_, by have hq_ := HBK.out.cellAt (i := bm) (by rw [bitD_len]; exact hbN); rw [bitD_get] at hq_; exact hq_⟩
                obtain ⟨b0, qc⟩ := qc
                clear hz hz3 hb2 hb3 hb4 hb5 htc hmN
                go_upto_region 26 with fail
                obtain ⟨w4, hw4⟩ : ∃ u, u = wr.setCell ⟨G, bm, none⟩ (.bool true) := ⟨_, rfl⟩
                have HBK4 := Lib.hid (show Blk w4 G 4 (bitD L.length (S.map Sn.j ++ [bm])) by rw [hw4, ← bitD_set]; exact HBK.out.put1 (i := bm) (by rw [bitD_len]; exact hbN) _)
                have HB4 := Lib.hid (show Below W.heap.size W w4 by rw [hw4]; exact HBX.out.setCell (p := ⟨G, bm, none⟩) HGE.out _)
                have HOW4 := Lib.hid (show w4.ownsRow W.heap.size 39 3 (.slice av M cv) S.length (S.flatMap Sn.C) by rw [hw4, HMM.out]; exact own_put HOW.out HBK.out (by decide) _)
                rw [← hw4]
                clear hw4 qf qc
                obtain ⟨w5, hw5⟩ : ∃ u, u = w4.alloc (.cells #[.int .i64 (bm : Int), .int .i64 now, .int .i64 tc] 39) := ⟨_, rfl⟩
                have HB5 := Lib.hid (show Below W.heap.size W w5 by rw [hw5]; exact HB4.out.alloc HB4.out.size _)
                have HOW5 := Lib.hid (show w5.ownsRow W.heap.size 39 3 (.slice av M cv) M (S.flatMap Sn.C) by rw [hw5]; have := HOW4.out.alloc (.cells #[.int .i64 (bm : Int), .int .i64 now, .int .i64 tc] 39); rw [← HMM.out] at this; exact this)
                have HBK5 := Lib.hid (show Blk w5 G 4 (bitD L.length (S.map Sn.j ++ [bm])) by rw [hw5]; exact HBK4.out.keep ((Below.refl _ _).alloc (Nat.le_refl _) _) HBK4.out.lt)
                have HNC := Lib.hid (show ∀ (j : Nat) (u : Value), (Sn.C ⟨bm, now, tc⟩)[j]? = some u → w5.cell? ((⟨w4.heap.size, 0, none⟩ : Addr).add j) = some u from fun j u hj => by
                  have hlt := (List.getElem?_eq_some_iff.1 hj).1
                  have h1 := (Blk.new w4 39 (Sn.C ⟨bm, now, tc⟩)).cellAt (i := j) hlt
                  have h2 := (List.getElem?_eq_some_iff.1 hj).2
                  rw [h2] at h1
                  have e : ((⟨w4.heap.size, 0, none⟩ : Addr).add j) = ⟨w4.heap.size, j, none⟩ := by cases j <;> simp [Addr.add]
                  rw [e, hw5]
                  exact h1)
                have HOC := Lib.hid (show ∀ u ∈ Sn.C ⟨bm, now, tc⟩, u.oneCell' = true by simp [Sn.C, Value.oneCell'])
                have HMX := Lib.hid (show M + 1 ≤ maxLen ∧ (M + 1) * 24 ≤ 140737488355328 by unfold maxLen; omega)
                have z1 := HCZ.out _ HB4.out
                go_wp2_with (rw [← hw5]; at_builtin; refine wpList_append_own _ rfl _ _ 28 rfl W.heap.size 39 i0 (.agg #[.int .i64 0, .int .i64 0, .int .i64 0]) 3 24 Try.underlying28 hi hz0 hz1 hz2 rfl (by decide) _ M (S.flatMap Sn.C) rfl HOW5.out ⟨w4.heap.size, 0, none⟩ 1 1 (Sn.C ⟨bm, now, tc⟩) rfl rfl HNC.out HOC.out HMX.out.1 HMX.out.2 HB5.out.size ?_)
                intro v' w7 hown7 hgrow7 _
                rw [← hw5] at hgrow7
                have HBK7 := Lib.hid (blk_grown HOW5.out HBK5.out (by decide) hgrow7)
                have HO7 := Lib.hid hown7
                have HB7 := Lib.hid (HB5.out.grown hgrow7 HB5.out.size (fun g e => by
                  rcases HOW5.out.2 with ⟨e1, _⟩ | ⟨g', cap', cur', e1, hb', _, _⟩
                  · rw [e1] at e; cases e
                  · rw [e1] at e
                    have e2 : g' = g := by simpa [Value.ownBlock] using e
                    omega))
                obtain ⟨av', cv', hv'⟩ : ∃ a c, v' = .slice a (M + 1) c := by
                  rcases hown7.2 with ⟨e, e2⟩ | ⟨g, cap, cur, e, _⟩
                  · omega
                  · exact ⟨_, _, e⟩
                subst hv'
                clear hown7 hgrow7 hw5 z1
                have HRN := Lib.hid (show RR L len W G (S ++ [⟨bm, now, tc⟩]) tc (.slice av' (M + 1) cv') w7 from by
                  have hl1 : (S ++ [(⟨bm, now, tc⟩ : Sn)]).length = M + 1 := by rw [List.length_append, HMM.out]; rfl
                  have hzc := (rightJ_in HZR.out).2.2.2
                  refine ⟨?_, ?_, ?_, ?_, ?_, ?_, HB7.out, ?_⟩
                  · have := HRI.out.tr.snoc HNX.out
                    rw [HZD.out, ← HTC.out] at this
                    exact this
                  · rw [hl1, List.flatMap_append, List.flatMap_singleton]
                    exact HO7.out
                  · rw [List.map_append]; exact HBK7.out
                  · rw [nowS_snoc]; exact Int.le_refl _
                  · rw [nowS_snoc]; exact fun h => absurd h (Int.lt_irrefl _)
                  · rw [hl1]
                    have := HPOS.out; have h8 := HTC.out; have := HMM.out
                    constructor <;> omega
                  · rw [hl1]; have := HN.out; omega)
                have z1 := HCZ.out _ HB7.out
                have HLE := Lib.hid (show leftN L tc ≤ leftN L now from leftN_le L (by have h8 := HTC.out; have hzc := (rightJ_in HZR.out).2.2.2; omega))
                go_wp2_with fail
                go_roundw
                case rel => exact ⟨_, tc, by rw [hw64], HRN.out⟩
                case measure =>
                  have h1 : intOf (.int .i64 tc) = tc := rfl
                  have h2 : intOf (.int .i64 now) = now := rfl
                  have h3 : sliceLen (.slice av M cv) = M := rfl
                  have h4 : sliceLen (.slice av' (M + 1) cv') = M + 1 := rfl
                  have := HLE.out
                  rw [hw64, h1, h2, h3, h4]
                  omega
        · have i1 : ¬ (M : Int) < (N : Int) := by omega
          have HFIN := Lib.hid (show S.length = L.length by have := HN.out; omega)
          clear hR hlen hM
          go_wp2_with fail
          go_ret2
          refine ⟨.inr ⟨HM0.out, S, _, rfl, HRI.out.tr, HFIN.out, ?_⟩, HRI.out.bel⟩
          have ho := HRI.out.own
          rw [HMM.out]
          exact ho

end Go.Proofs.Ytbcccffjlkphpaa
