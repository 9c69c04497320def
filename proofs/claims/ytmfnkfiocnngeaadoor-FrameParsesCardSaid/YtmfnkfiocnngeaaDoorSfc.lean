/- The code of package stuff (Stuff): what it returns. Conditions: a string is a string, not longer than a thousand. -/
import Derived.Test.YtmfnkfiocnngeaaDoorSfb
import Derived.Test.YtmfnkfiocnngeaaDoorBas
import Derived.Laws.OwnMore
namespace Go.Proofs.YtmfnkfiocnngeaaDoor
open Go.RowKit Go.Shelf
theorem wpList_append_fits {P : Program} (w : World) {ops : Array Oper} {rest : List Oper} {o : Oper} {a : Act} {Q : Exit → Act → World → Prop} (hgd : o.guard = none) (s x : Operand) (t : TypeId)
    (ho : o.op = .call { callee := .builtin .append, args := #[s, x], argTypes := #[t, t] })
    (base : Nat) (e : TypeId) (i : TypeInfo) (size : Nat) (ht : P.underlying t = some (.slice e)) (hi : P.info? e = some i) (hsize : i.size = size)
    (g n cap : Nat) (xs : List Value) (hs : a.eval s = .slice (some ⟨g, 0, none⟩) n cap) (hown : w.ownsRow base e size (.slice (some ⟨g, 0, none⟩) n cap) n xs)
    (ad : Addr) (m c : Nat) (news : List Value) (hx : a.eval x = .slice (some ad) m c) (hl : news.length = m * size) (hnews : ∀ j u, news[j]? = some u → w.cell? (ad.add j) = some u) (h1 : ∀ u ∈ news, u.oneCell' = true)
    (hroom : n + m ≤ cap)
    (h : ∀ w', w'.ownsRow base e size (.slice (some ⟨g, 0, none⟩) (n + m) cap) (n + m) (xs ++ news) → w.grownBy w' (some g) → wpList P ops Q rest (a.put o.dst (.slice (some ⟨g, 0, none⟩) (n + m) cap)) w') : wpList P ops Q (o :: rest) a w := by
  refine wpList_plain hgd fun K hK => ?_
  obtain ⟨w', hr, h2, h3⟩ := run_append_fits (P := P) w base t o.type e i size ht hi hsize g n cap xs hown ad m c news hl hnews h1 hroom
  unfold Oper.wp execOp
  simp only [ho, resolve, invoke, builtin, Sem.run_bind, Sem.run_pure, Result.andThen_ok, List.map_toArray, List.map_cons, List.map_nil, hs, hx, hr]
  exact hK _ _ (h w' h2 h3)
/-- A block's first cells hold such bytes. -/
def Cs (W : World) (g L : Nat) (f : Nat → Nat) : Prop := g < W.heap.size ∧ ∀ j, j < L → W.cell? ⟨g, j, none⟩ = some (.int .u8 ((f j : Nat) : Int))
theorem Cs.keep {W X : World} {g L : Nat} {f : Nat → Nat} (h : Cs W g L f) (hb : Below W.heap.size W X) : Cs X g L f :=
  ⟨Nat.lt_of_lt_of_le h.1 hb.size, fun j hj => (hb.cell (p := ⟨g, j, none⟩) h.1).trans (h.2 j hj)⟩
theorem Cs.put {W : World} {g L B : Nat} {f : Nat → Nat} (h : Cs W g L f) (hne : g ≠ B) (x y : Value) : Cs ((W.setCell ⟨B, 0, none⟩ x).setCell ⟨B, 1, none⟩ y) g L f :=
  have n : ∀ o p, (⟨B, o, none⟩ : Addr) ≠ ⟨g, p, none⟩ := fun o p e => hne (by simpa using (congrArg Addr.block e).symm)
  ⟨by rw [setCell_size2, setCell_size2]; exact h.1, fun j hj => (World.cell?_setCell_other _ _ _ _ (n _ _)).trans ((World.cell?_setCell_other _ _ _ _ (n _ _)).trans (h.2 j hj))⟩
theorem Cs.grown {W X : World} {g L M : Nat} {f : Nat → Nat} (h : Cs W g L f) (hg : W.grownBy X (some M)) (hne : g ≠ M) : Cs X g L f :=
  ⟨Nat.lt_of_lt_of_le h.1 hg.size, fun j hj => hg.cell (h.2 j hj) (by simpa using hne)⟩
theorem Two.grown {W X : World} {B M : Nat} {x y : Value} (h : Two W B x y) (hg : W.grownBy X (some M)) (hB : B < W.heap.size) (hne : B ≠ M) : Two X B x y := by
  have hb := hg.block B hB (by simpa using hne)
  obtain ⟨a, b, c, d⟩ := h
  exact ⟨(World.cell?_of_block hb).trans a, (World.cell?_of_block hb).trans b, (World.frozen?_of_block hb).trans c, (World.frozen?_of_block hb).trans d⟩
theorem Made.cs {W : World} {g L : Nat} {bs : List Nat} (hl : bs.length = L) (hg : W.rowIs g 5 bs.length (fun j => .int .u8 ((bs[j]?.getD 0 : Nat) : Int))) : Cs W g L (fun j => bs[j]?.getD 0) := by
  subst hl
  obtain ⟨c, hb, _, _⟩ := hg
  exact ⟨(Array.getElem?_eq_some_iff.1 hb).1, fun j hj => World.rowIs.cell ⟨c, hb, ‹_›, ‹_›⟩ hj⟩
/-- How long a string of so many bits is at most. -/
def mostN (L : Nat) : Nat := L + (L - 1) / 4
theorem mostW_nat (L : Nat) (h : L ≤ 1000) : mostW (L : Int) = (mostN L : Int) := by
  unfold mostW mostN
  by_cases h0 : L = 0
  · subst h0; rfl
  · rw [if_neg (by omega)]
    omega
theorem make_room (c : Nat) (h : c ≤ 100000) (u : World) : (Instr.makeSlice 34 (.int .i64 0) (.int .i64 (c : Int))).run Tryd.prog u = .ok (.slice (some ⟨u.heap.size, 0, none⟩) 0 c) (u.alloc (.cells (madeCells #[.int .u8 0] c) 5)) := by
  obtain ⟨i0, hi, hz0, hz1, hz2⟩ := info_parts info_u8
  have := run_make (P := Tryd.prog) u 34 5 i0 (.int .u8 0) Tryd.underlying34 hi hz0 .i64 .i64 0 c (by omega) (by omega) (by rw [hz2]; omega) (by omega)
  rw [hz1, Nat.mul_one] at this
  exact this
theorem room_own {B : Nat} (w : World) (c : Nat) (hB : B ≤ w.heap.size) (h : c ≤ 100000) : Ow B (w.alloc (.cells (madeCells #[.int .u8 0] c) 5)) (.slice (some ⟨w.heap.size, 0, none⟩) 0 c) [] :=
  World.ownsRow_made w _ c hB (by unfold maxLen; omega) (by rw [size_madeCells, Nat.mul_one])
theorem stuff_room (bs : List Nat) (k : Nat) (hk : k ≤ bs.length) : (stuffB (bitsTo bs k)).length ≤ mostN bs.length := by
  have h := (stuff_most (bitsTo bs k)).2
  rw [bitsTo_length] at h
  unfold mostN
  omega
set_option maxHeartbeats 1000000 in
theorem stuff_any (a : Option Addr) (len cap : Nat) (bs : List Nat) (hs : bs.length ≤ 1000) (w : World) (hI : Str w.heap.size w (.slice a len cap) bs) :
    Calls Tryd.prog 104 #[.slice a len cap] w fun e w' => ∃ v, e = .returned v ∧ Ow w.heap.size w' v (stuffB (bitsOf bs)) ∧ Below w.heap.size w w' := by
  obtain rfl := hI.len
  have HI := Lib.hid hI
  clear hI
  obtain ⟨i0, hi, hz0, hz1, hz2⟩ := info_parts info_u8
  obtain ⟨c, hc⟩ : ∃ c, c = mostN bs.length := ⟨_, rfl⟩
  have hcl : c ≤ 100000 := by rw [hc]; unfold mostN; omega
  have HM := Lib.hid (fun u => most_any (bs.length : Int) u)
  rw [mostW_nat _ hs, ← hc] at HM
  have hmk := fun u => make_room c hcl u
  have HC := Lib.hid hc
  clear hc
  go_enter Tryd.func104, Tryd.ntmps104
  go_wp2_with (fail)
  refine (HM.out _).mono ?_
  rintro e w' ⟨rfl, rfl⟩
  clear HM
  go_wp2_with (fail)
  obtain ⟨wr, hwr⟩ : ∃ wr, wr = ((w.alloc (.cells (madeCells #[.int .u8 0] c) 5)).alloc (.cells #[.int .u8 0, .int .i64 0] 134)) := ⟨_, rfl⟩
  have hO : Ow w.heap.size wr (.slice (some ⟨w.heap.size, 0, none⟩) 0 c) [] := by rw [hwr]; exact (room_own w c (Nat.le_refl _) hcl).alloc _
  have hT : Two wr (w.heap.size + 1) (.int .u8 0) (.int .i64 0) := by rw [hwr]; exact Two.new _ _ _ _ (by simp)
  have hz : wr.heap.size = w.heap.size + 2 := by rw [hwr]; simp
  have hB : Below w.heap.size w wr := by rw [hwr]; exact ((Below.refl _ w).alloc (Nat.le_refl _) _).alloc (by simp) _
  rw [← hwr]
  clear hwr hmk
  refine (clean_any _ _ _ bs (by omega) wr (HI.out.below hB |>.mono hB.size)).mono ?_
  rintro e w3 ⟨vC, rfl, ⟨gC, rfl, hgC, _, hrow⟩, hb⟩
  have hCs : Cs w3 gC bs.length (fun j => bitAt bs j) := by
    have h := Made.cs (bitsOf_length bs) hrow
    exact ⟨h.1, fun j hj => (h.2 j hj).trans (congrArg (fun q : Nat => some (Value.int .u8 (q : Int))) (bitsOf_get bs j hj))⟩
  have hO3 := hO.on hb
  have hT3 := hT.keep hb (by omega)
  have hB3 := below_trans' hB hb
  have hz3 : w.heap.size + 2 ≤ w3.heap.size := by have := hb.size; omega
  have hgM : gC ≠ w.heap.size := by omega
  have hgR : gC ≠ w.heap.size + 1 := by omega
  rw [bitsOf_length]
  clear hO hT hz hB hb hrow hgC HI
  have H0 := Lib.hid (show Ow w.heap.size w3 (.slice (some ⟨w.heap.size, 0, none⟩) 0 c) [] ∧ Two w3 (w.heap.size + 1) (.int .u8 0) (.int .i64 0) ∧ Cs w3 gC bs.length (fun j => bitAt bs j) ∧ Below w.heap.size w w3 ∧ w.heap.size + 2 ≤ w3.heap.size from ⟨hO3, hT3, hCs, hB3, hz3⟩)
  clear hO3 hT3 hCs hB3 hz3
  go_wp2_with (fail)
  go_loopw [3, 17] (fun v i wr => ∃ (k : Nat), k ≤ bs.length ∧ i = .int .i64 k ∧ v = .slice (some ⟨w.heap.size, 0, none⟩) (sFold (bitsTo bs k)).2.length c ∧ Ow w.heap.size wr v (sFold (bitsTo bs k)).2 ∧ Two wr (w.heap.size + 1) (.int .u8 ((sFold (bitsTo bs k)).1.1 : Nat)) (.int .i64 ((sFold (bitsTo bs k)).1.2 : Nat)) ∧ Cs wr gC bs.length (fun j => bitAt bs j) ∧ w.heap.size + 2 ≤ wr.heap.size ∧ Below w.heap.size w wr) (fun _ i _ => bs.length - (intOf i).toNat)
  case atStart => exact ⟨0, Nat.zero_le _, rfl, rfl, H0.out.1, H0.out.2.1, H0.out.2.2.1, H0.out.2.2.2.2, H0.out.2.2.2.1⟩
  case round =>
    clear H0
    obtain ⟨k, hk, rfl, rfl, hown, htwo, hcs, hsz, hnx⟩ := hrel
    obtain ⟨r, hr⟩ : ∃ r, r = (sFold (bitsTo bs k)).1 := ⟨_, rfl⟩
    obtain ⟨out, hout⟩ : ∃ out, out = (sFold (bitsTo bs k)).2 := ⟨_, rfl⟩
    have hlt4 : r.2 ≤ 4 := by rw [hr]; exact sFold_lt _
    have hr1 : r.1 ≤ 1 := by rw [hr]; exact sFold_fst _ (bitsTo_le _ _)
    rw [← hr] at htwo
    rw [← hout] at hown ⊢
    have HR := Lib.hid hr; have HOUT := Lib.hid hout
    clear hr hout
    by_cases hlt : k < bs.length
    · obtain ⟨v, hv⟩ : ∃ v, v = bitAt bs k := ⟨_, rfl⟩
      have hv1 : v ≤ 1 := by rw [hv]; exact bitAt_le _ _
      have hck : wr.cell? ⟨gC, k, none⟩ = some (.int .u8 (v : Int)) := by rw [hv]; exact hcs.2 k hlt
      obtain ⟨m, hm⟩ : ∃ m, m = (nx r v).2 := ⟨_, rfl⟩
      have hst : sFold (bitsTo bs (k + 1)) = sStep (r, out) v := by rw [bitsTo_succ, sFold_snoc, ← hv, HR.out, HOUT.out]
      have hnxv : nx r v = (v, m) := Prod.ext (nx_fst r v) hm.symm
      have hroom : out.length + 1 ≤ c ∧ (5 ≤ m → out.length + 2 ≤ c) := by
        have h := stuff_room bs (k + 1) hlt
        rw [← HC.out] at h
        unfold stuffB at h
        rw [hst] at h
        unfold sStep at h
        rw [hnxv] at h
        split at h
        · simp at h
          exact ⟨by omega, fun _ => by omega⟩
        · rename_i h5
          simp at h
          exact ⟨by omega, fun e => absurd e h5⟩
      obtain ⟨hroom1, hroom2⟩ := hroom
      have HN := Lib.hid (show ∀ u, Calls Tryd.prog 106 #[.agg #[.int .u8 (r.1 : Nat), .int .i64 (r.2 : Nat)], .int .u8 v] u fun e w' => e = .returned (.tuple #[.agg #[.int .u8 (v : Nat), .int .i64 (m : Nat)], .int .i64 0]) ∧ Below u.heap.size u w' from fun u => by
        have h := next_any r.1 (r.2 : Int) v u
        have e : nextW r.1 (r.2 : Int) (bitN v) = ((v, (m : Int)), 0) := by
          rw [bitN_self hv1, show nextW r.1 (r.2 : Int) v = nextB r.1 (r.2 : Int) v from rfl, nextB_nx r v hlt4 hr1, hnxv]
        rw [e] at h
        exact h)
      have HD := Lib.hid (show ∀ u, Calls Tryd.prog 127 #[.agg #[.int .u8 (v : Nat), .int .i64 (m : Nat)]] u fun e w' => e = .returned (.tuple #[.int .u8 ((dueW v m).1 : Nat), .bool (dueW v m).2]) ∧ Below u.heap.size u w' from fun u => due_any v (m : Int) u)
      have HST := Lib.hid hst; have HNX := Lib.hid hnxv
      clear hst hnxv hm hv
      obtain ⟨p0, p1, p2, p3⟩ := htwo
      have HTWO := Lib.hid (show Two wr (w.heap.size + 1) (.int .u8 (r.1 : Nat)) (.int .i64 (r.2 : Nat)) from ⟨p0, p1, p2, p3⟩)
      have HCS := Lib.hid hcs; have HOWN := Lib.hid hown; have HNB := Lib.hid hnx
      clear hcs hown hnx
      go_wp2_with (fail)
      refine (HN.out _).mono ?_
      rintro e w2 ⟨rfl, hb⟩
      have HT2 := Lib.hid (HTWO.out.keep hb (by omega))
      have HC2 := Lib.hid (HCS.out.keep hb)
      have hO2 := HOWN.out.on hb
      have HB2 := Lib.hid (below_trans' HNB.out hb)
      have hsz2 : w.heap.size + 2 ≤ w2.heap.size := Nat.le_trans hsz hb.size
      have hne : ∀ q : Nat, (Value.slice (some ⟨w.heap.size, 0, none⟩) q c).ownBlock ≠ some (w.heap.size + 1) := fun q e => by
        have := Option.some.inj e
        change w.heap.size = w.heap.size + 1 at this
        omega
      have HOX := Lib.hid ((hO2.otherNe (hne _) (o := 0) (x := .int .u8 (v : Int))).otherNe (hne _) (o := 1) (x := .int .i64 (m : Int))).own
      obtain ⟨q0, q1, q2, q3⟩ := HT2.out
      clear hb hO2 HN HTWO HCS HOWN HNB hck p0 p1 p2 p3 hsz
      go_wp2_with (at_builtin; refine wpList_append_fits _ rfl _ _ 34 rfl w.heap.size 5 i0 1 Tryd.underlying34 hi hz1 w.heap.size out.length c _ rfl (HOX.out.alloc _) ⟨_, 0, none⟩ 1 1 [.int .u8 (v : Int)] rfl rfl (by exact one_cell_at (by rw [setCell_size2, setCell_size2])) one_flat ?room ?_)
      case room => exact hroom1
      intro w4 hown4 hgrow
      have HO4 := Lib.hid (show Ow w.heap.size w4 (.slice (some ⟨w.heap.size, 0, none⟩) (out.length + 1) c) (out ++ [v]) from Ow.snoc hown4)
      have T4 := ((HT2.out.put (.int .u8 (v : Int)) (.int .i64 (m : Int))).more (by rw [setCell_size2, setCell_size2]; omega) (.cells #[.int .u8 (v : Int)] 5)).grown hgrow (by simp; omega) (by omega)
      have HC4 := Lib.hid (((HC2.out.put hgR (.int .u8 (v : Int)) (.int .i64 (m : Int))).keep ((Below.refl _ _).alloc (Nat.le_refl _) (.cells #[.int .u8 (v : Int)] 5))).grown hgrow hgM)
      have hB4 : Below w.heap.size w w4 := ((below_two2 HB2.out (Nat.le_succ _) (.int .u8 (v : Int)) (.int .i64 (m : Int))).alloc (by rw [setCell_size2, setCell_size2]; omega) (.cells #[.int .u8 (v : Int)] 5)).grown hgrow (by simp; omega) (fun k e => by have := Option.some.inj e; omega)
      have HB4 := Lib.hid hB4
      have hsz4 : w.heap.size + 2 ≤ w4.heap.size := Nat.le_trans (by simp; omega) hgrow.size
      have HT4 := Lib.hid T4
      clear q0 q1 q2 q3
      obtain ⟨q0, q1, q2, q3⟩ := T4
      clear hown4 hgrow hB4 HOX HT2 HC2 HB2 hsz2
      go_wp2_with (fail)
      refine (HD.out _).mono ?_
      rintro e w5 ⟨rfl, hb⟩
      have T5 := HT4.out.keep hb (by omega)
      have HT5 := Lib.hid T5
      have HO5 := Lib.hid (HO4.out.on hb)
      have HC5 := Lib.hid (HC4.out.keep hb)
      have HB5 := Lib.hid (below_trans' HB4.out hb)
      have hsz5 : w.heap.size + 2 ≤ w5.heap.size := Nat.le_trans hsz4 hb.size
      clear q0 q1 q2 q3
      obtain ⟨q0, q1, q2, q3⟩ := T5
      clear hb HD HT4 HO4 HC4 HB4 hsz4
      by_cases h5 : 5 ≤ m
      · have hd : dueW v (m : Int) = (1 - v, true) := by unfold dueW; rw [if_neg (by omega), bitN_self hv1]
        rw [hd]
        clear hd
        have HN := Lib.hid (show ∀ u, Calls Tryd.prog 106 #[.agg #[.int .u8 (v : Nat), .int .i64 (m : Nat)], .int .u8 ((1 - v : Nat) : Int)] u fun e w' => e = .returned (.tuple #[.agg #[.int .u8 ((1 - v : Nat) : Int), .int .i64 1], .int .i64 1]) ∧ Below u.heap.size u w' from fun u => by
          have h := next_any v (m : Int) (1 - v) u
          have e : nextW v (m : Int) (bitN (1 - v)) = ((1 - v, 1), 1) := by
            rw [bitN_self (by omega)]
            unfold nextW
            rw [if_pos (by omega), bitN_self hv1, if_pos rfl]
          rw [e] at h
          exact h)
        go_wp2_with (fail)
        refine (HN.out _).mono ?_
        rintro e w6 ⟨rfl, hb⟩
        have HT6 := Lib.hid (HT5.out.keep hb (by omega))
        have HC6 := Lib.hid (HC5.out.keep hb)
        have hO6 := HO5.out.on hb
        have HB6 := Lib.hid (below_trans' HB5.out hb)
        have hsz6 : w.heap.size + 2 ≤ w6.heap.size := Nat.le_trans hsz5 hb.size
        have hox := ((hO6.otherNe (hne _) (o := 0) (x := .int .u8 ((1 - v : Nat) : Int))).otherNe (hne _) (o := 1) (x := .int .i64 1)).own
        rw [List.length_append] at hox
        have HOX := Lib.hid hox
        clear hox
        clear q0 q1 q2 q3
        obtain ⟨q0, q1, q2, q3⟩ := HT6.out
        clear hb hO6 HN HT5 HC5 HO5 HB5 hsz5
        go_wp2_with (at_builtin; refine wpList_append_fits _ rfl _ _ 34 rfl w.heap.size 5 i0 1 Tryd.underlying34 hi hz1 w.heap.size (out.length + 1) c _ rfl (HOX.out.alloc _) ⟨_, 0, none⟩ 1 1 [.int .u8 ((1 - v : Nat) : Int)] rfl rfl (by exact one_cell_at (by rw [setCell_size2, setCell_size2])) one_flat ?room ?_)
        case room => exact hroom2 h5
        intro w7 hown7 hgrow
        have HO7 := Lib.hid (show Ow w.heap.size w7 (.slice (some ⟨w.heap.size, 0, none⟩) (out.length + 1 + 1) c) (out ++ [v] ++ [1 - v]) from Ow.snoc (bs := out ++ [v]) (by rw [List.length_append, List.map_append, List.append_assoc]; exact hown7))
        have HT7 := Lib.hid (((HT6.out.put (.int .u8 ((1 - v : Nat) : Int)) (.int .i64 1)).more (by rw [setCell_size2, setCell_size2]; omega) (.cells #[.int .u8 ((1 - v : Nat) : Int)] 5)).grown hgrow (by simp; omega) (by omega))
        have HC7 := Lib.hid (((HC6.out.put hgR (.int .u8 ((1 - v : Nat) : Int)) (.int .i64 1)).keep ((Below.refl _ _).alloc (Nat.le_refl _) (.cells #[.int .u8 ((1 - v : Nat) : Int)] 5))).grown hgrow hgM)
        have hB7 : Below w.heap.size w w7 := ((below_two2 HB6.out (Nat.le_succ _) (.int .u8 ((1 - v : Nat) : Int)) (.int .i64 1)).alloc (by rw [setCell_size2, setCell_size2]; omega) (.cells #[.int .u8 ((1 - v : Nat) : Int)] 5)).grown hgrow (by simp; omega) (fun k e => by have := Option.some.inj e; omega)
        have HB7 := Lib.hid hB7
        have hsz7 : w.heap.size + 2 ≤ w7.heap.size := Nat.le_trans (by simp; omega) hgrow.size
        clear q0 q1 q2 q3
        clear hown7 hgrow hB7 HOX HT6 HC6 HB6 hsz6
        go_wp2_with (fail)
        go_roundw
        case rel =>
          have hst2 : sFold (bitsTo bs (k + 1)) = ((1 - v, 1), out ++ [v] ++ [1 - v]) := by
            rw [HST.out]
            unfold sStep
            rw [HNX.out, if_pos h5]
          refine ⟨k + 1, by omega, by simp, ?_, ?_, ?_, HC7.out, hsz7, HB7.out⟩
          · rw [hst2]; simp
          · rw [hst2]; exact HO7.out
          · rw [hst2]; exact HT7.out
        case measure => simp [intOf]; omega
      · have hd : dueW v (m : Int) = (0, false) := if_pos (by omega)
        rw [hd]
        clear hd
        go_wp2_with (fail)
        go_roundw
        case rel =>
          have hst2 : sFold (bitsTo bs (k + 1)) = ((v, m), out ++ [v]) := by
            rw [HST.out]
            unfold sStep
            rw [HNX.out, if_neg h5]
          refine ⟨k + 1, by omega, by simp, ?_, ?_, ?_, HC5.out, hsz5, HB5.out⟩
          · rw [hst2]; simp
          · rw [hst2]; exact HO5.out
          · rw [hst2]; exact HT5.out
        case measure => simp [intOf]; omega
    · obtain rfl : k = bs.length := by omega
      have HO := Lib.hid (show Ow w.heap.size wr (.slice (some ⟨w.heap.size, 0, none⟩) out.length c) (stuffB (bitsOf bs)) by
        unfold stuffB
        rw [← bitsTo_all, ← HOUT.out]; exact hown)
      clear hown htwo hcs
      go_wp2
      go_ret
      exact ⟨_, rfl, HO.out, hnx⟩
end Go.Proofs.YtmfnkfiocnngeaaDoor
