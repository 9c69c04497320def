/- The document's own listener: how many of the bits heard are the body's. Conditions: not more than a thousand bits. -/
import Derived.Test.YtmfnkfiocnngeaaDoorLih
namespace Go.Proofs.YtmfnkfiocnngeaaDoor
open Go.RowKit Go.Shelf
/-- The bits of a body, how far they go, and whether they are all: a bit that can't be is passed over. -/
def splB : (Nat × Nat) → List Nat → Nat → List Nat → List Nat × Nat × Bool
  | r, out, i, [] => (out, i, fullB r out)
  | r, out, i, x :: l => if fullB r out = true then (out, i, true) else match uStep (some (r, out)) x with
    | none => splB r out (i + 1) l
    | some s => splB s.1 s.2 (i + 1) l
theorem splB_full {r : Nat × Nat} {out : List Nat} (h : fullB r out = true) (i : Nat) (l : List Nat) : splB r out i l = (out, i, true) := by
  cases l with
  | nil => rw [splB, h]
  | cons x l => rw [splB, if_pos h]
/-- Where no bit but the last one is refused, it is as the body is told. -/
theorem spl_opn : ∀ (l : List Nat) (r : Nat × Nat) (out : List Nat) (i : Nat), (i = 0 → r = (0, 0) ∧ out = []) → (∀ y ∈ l, y ≤ 1) →
    (∀ n b, opnB r out i l = (0, n, b) → splB r out i l = (b, n, true)) ∧ (∀ n b, opnB r out i l = (2, n, b) → splB r out i l = (b, n, false)) ∧
    (∀ n b, opnB r out i l = (4, n, b) → n + 1 = i + l.length → (splB r out i l).2.2 = false) ∧ (∀ n b, opnB r out i l = (3, n, b) → l.length = 1 → (splB r out i l).2.2 = false) := by
  intro l
  induction l with
  | nil =>
    intro r out i _ _
    rw [opnB_nil, splB]
    cases h : fullB r out
    · refine ⟨fun n b e => ?_, fun n b e => ?_, fun n b e => ?_, fun n b e => ?_⟩ <;> simp at e ⊢
      exact ⟨e.2, e.1⟩
    · refine ⟨fun n b e => ?_, fun n b e => ?_, fun n b e => ?_, fun n b e => ?_⟩ <;> simp at e ⊢
      exact ⟨e.2, e.1⟩
  | cons x l ih =>
    intro r out i h0 hle
    cases h : fullB r out
    case true =>
      rw [opnB_full h, splB_full h]
      refine ⟨fun n b e => ?_, fun n b e => ?_, fun n b e => ?_, fun n b e => ?_⟩ <;> simp at e ⊢
      exact ⟨e.2, e.1⟩
    case false =>
      have hs : splB r out i (x :: l) = match uStep (some (r, out)) x with
          | none => splB r out (i + 1) l
          | some s => splB s.1 s.2 (i + 1) l := by
        show (if fullB r out = true then _ else _) = _
        rw [h, if_neg (by decide)]
      by_cases hz : i = 0 ∧ x ≠ 0
      · have ho : opnB r out i (x :: l) = (3, 0, out) := by rw [opnB_cons, h, if_neg (by decide), if_pos hz]
        rw [ho]
        refine ⟨fun n b e => ?_, fun n b e => ?_, fun n b e => ?_, fun n b e he => ?_⟩
        · simp at e
        · simp at e
        · simp at e
        · obtain ⟨rfl, rfl⟩ := h0 hz.1
          have hl : l = [] := by cases l with
            | nil => rfl
            | cons y l => simp at he
          have hx : x = 1 := by have := hle x (by simp); have := hz.2; omega
          rw [hs, hl, hx]
          rfl
      · have ho : opnB r out i (x :: l) = match uStep (some (r, out)) x with
            | none => (4, i, out)
            | some s => opnB s.1 s.2 (i + 1) l := by
          rw [opnB_cons, h, if_neg (by decide), if_neg hz]
          rfl
        rw [ho, hs]
        cases hu : uStep (some (r, out)) x with
        | none =>
          refine ⟨fun n b e => ?_, fun n b e => ?_, fun n b e he => ?_, fun n b e => ?_⟩
          · simp at e
          · simp at e
          · simp at e
            have hl : l = [] := by cases l with
              | nil => rfl
              | cons y l => simp at he; omega
            show (splB r out (i + 1) l).2.2 = false
            rw [hl, splB, h]
          · simp at e
        | some s =>
          have g := ih s.1 s.2 (i + 1) (fun h => absurd h (by omega)) (fun y hy => hle y (by simp [hy]))
          simp only
          refine ⟨g.1, g.2.1, fun n b e he => g.2.2.1 n b e (by simp at he; omega), fun n b e he => ?_⟩
          have hl : l = [] := by cases l with
            | nil => rfl
            | cons y l => simp at he
          rw [hl, opnB_nil] at e
          split at e <;> simp at e
/-- What split has laid: its run's box, and the body. -/
structure SpS (w W : World) (r : Nat × Nat) (raw : List Nat) (v : Value) : Prop where
  own : Ow (w.heap.size + 1) W v raw
  two : Two W w.heap.size (.int .u8 (r.1 : Nat)) (.int .i64 (r.2 : Nat))
  bit : r.1 ≤ 1
  size : w.heap.size + 1 ≤ W.heap.size
  below : Below w.heap.size w W
theorem SpS.on {w W X : World} {r : Nat × Nat} {raw : List Nat} {v : Value} (h : SpS w W r raw v) (hb : Below W.heap.size W X) : SpS w X r raw v :=
  ⟨h.own.on hb, h.two.keep hb (by have := h.size; omega), h.bit, by have := h.size; have := hb.size; omega, h.below.trans (hb.mono h.below.size)⟩
set_option maxRecDepth 100000 in
set_option maxHeartbeats 8000000 in
theorem split_any (a : Option Addr) (len cap : Nat) (bs : List Nat) (hl : bs.length ≤ 1000) (w : World) (hI : Str w.heap.size w (.slice a len cap) bs) : Calls Tryd.prog 78 #[.slice a len cap] w fun x w' => ∃ v' raw, x = .returned (.tuple #[v', .int .i64 ((splB (0, 0) [] 0 (bitsOf bs)).2.1 : Nat), .bool (splB (0, 0) [] 0 (bitsOf bs)).2.2]) ∧ bitsOf raw = (splB (0, 0) [] 0 (bitsOf bs)).1 ∧ raw.length ≤ bs.length ∧ Ow (w.heap.size + 1) w' v' raw ∧ Below w.heap.size w w' := by
  have hlen := hI.len
  obtain ⟨SPL, hO⟩ : ∃ SPL, SPL = splB (0, 0) [] 0 (bitsOf bs) := ⟨_, rfl⟩
  rw [← hO]
  have HO := Lib.hid hO; have HI := Lib.hid hI; have HL := Lib.hid hl; have HLEN := Lib.hid hlen
  have hlm : len ≤ 1000 := by omega
  obtain ⟨i0, hi, hz0, hz1', hz2⟩ := info_parts info_u8
  clear hO hl hI hlen
  go_enter Tryd.func78, Tryd.ntmps78
  go_wp2_with fail
  go_loopw [2, 6] (fun v i wr => ∃ (k : Nat) (r : Nat × Nat) (raw : List Nat), k ≤ len ∧ i = .int .i64 k ∧ SPL = splB r (bitsOf raw) k ((bitsOf bs).drop k) ∧ SpS w wr r raw v ∧ raw.length ≤ k) (fun _ i _ => len + 1 - (intOf i).toNat)
  case atStart =>
    refine ⟨0, (0, 0), [], Nat.zero_le _, rfl, HO.out, ⟨Ow.nil _ _, ?_, Nat.zero_le _, by simp, (Below.refl _ w).alloc (Nat.le_refl _) _⟩, Nat.le_refl _⟩
    exact Two.new w _ _ _ rfl
  case round =>
    obtain ⟨k, r, raw, hk, rfl, hopn, hS, hraw⟩ := hrel
    have HOPN := Lib.hid hopn; have HS := Lib.hid hS
    obtain ⟨va, vcap, rfl⟩ := hS.own.shape
    have HSZ := Lib.hid (fun u (hu : Below wr.heap.size wr u) => ref6Size_any va raw.length vcap raw u ((hS.own.str.below hu).mono hu.size))
    have HDU := Lib.hid (fun u => refDue_any r.1 (r.2 : Int) u)
    unfold runV at HDU
    obtain ⟨q0, q1, q2, q3⟩ := hS.two
    obtain ⟨sz, hsz⟩ : ∃ sz, sz = (sizeB (bitsOf raw)).getD 0 := ⟨_, rfl⟩
    obtain ⟨ok, hok⟩ : ∃ ok, ok = (sizeB (bitsOf raw)).isSome := ⟨_, rfl⟩
    rw [← hsz, ← hok] at HSZ
    obtain ⟨dv, hdv⟩ : ∃ dv, dv = (dueB r.1 (r.2 : Int)).1 := ⟨_, rfl⟩
    obtain ⟨du, hdu⟩ : ∃ du, du = (dueB r.1 (r.2 : Int)).2 := ⟨_, rfl⟩
    rw [← hdv, ← hdu] at HDU
    have hdu2 : du = decide (5 ≤ r.2) := by
      rw [hdu]
      unfold dueB
      by_cases h : (r.2 : Int) < 5
      · rw [if_pos h]; symm; rw [decide_eq_false_iff_not]; omega
      · rw [if_neg h]; symm; rw [decide_eq_true_iff]; omega
    obtain ⟨lt, hlt⟩ : ∃ b, ((raw.length : Int) == (sz : Int)) = b := ⟨_, rfl⟩
    have HF := Lib.hid (show fullB r (bitsOf raw) = (ok && lt && !du) by
      unfold fullB
      rw [bitsOf_length, hdu2, hok, ← hlt, hsz]
      cases hb : sizeB (bitsOf raw) with
      | none => simp
      | some n =>
        have e : ((raw.length : Int) == ((some n).getD 0 : Nat)) = decide (some n = some raw.length) := by
          rw [Bool.eq_iff_iff, beq_iff_eq, decide_eq_true_iff]
          simp only [Option.getD_some, Option.some.injEq]
          omega
        rw [e]
        by_cases h : r.2 < 5
        · rw [decide_eq_true h, decide_eq_false (show ¬ 5 ≤ r.2 by omega)]; simp
        · rw [decide_eq_false h, decide_eq_true (show 5 ≤ r.2 by omega)]; simp)
    have hkl : (k : Int) ≤ (len : Int) := by omega
    clear hopn hS hsz hok hdv hdu hdu2
    go_wp2_with fail
    refine (HDU.out _).mono ?_
    rintro e1 w1 ⟨rfl, hb1⟩
    have HS1 := Lib.hid (HS.out.on hb1)
    have HB01 := Lib.hid hb1
    clear hb1 q0 q1 q2 q3 HDU hkl
    go_wp2_with fail
    refine (HSZ.out _ HB01.out).mono ?_
    rintro e1 w2 ⟨rfl, hb1⟩
    have HS2 := Lib.hid (HS1.out.on hb1)
    clear hb1 HS1 HSZ
    have parts : (ok = false) ∨ (ok = true ∧ lt = false) ∨ (ok = true ∧ lt = true ∧ du = true) ∨ (ok = true ∧ lt = true ∧ du = false) := by cases ok <;> cases lt <;> cases du <;> simp
    go_upto_region 7 with fail
    go_cut [39] (fun s48 wx => s48 = .bool (ok && lt && !du) ∧ wx = w2)
    case first =>
      rcases parts with rfl | ⟨rfl, rfl⟩ | ⟨rfl, rfl, rfl⟩ | ⟨rfl, rfl, rfl⟩
      all_goals go_wp2_with fail
      all_goals go_meet
      all_goals exact ⟨rfl, rfl⟩
    case rest =>
    obtain ⟨rfl, hwc⟩ := hcut
    obtain rfl : w2 = wc := hwc.symm
    obtain ⟨FF, hFF⟩ : ∃ FF, FF = (ok && lt && !du) := ⟨_, rfl⟩
    rw [← hFF] at HF ⊢
    clear hlt hFF parts
    have HRL := Lib.hid (show raw.length ≤ bs.length by have := HLEN.out; omega)
    cases FF
    case true =>
      have HE := Lib.hid (show SPL = (bitsOf raw, k, true) by rw [HOPN.out, splB_full HF.out])
      go_wp2_with fail
      refine bodyPost_ret (v := .tuple #[.slice va raw.length vcap, .int .i64 (k : Nat), .bool true]) (by simp [results, Tryd.results78, go_sem]) rfl ?_
      refine ⟨.slice va raw.length vcap, ?_, raw, ?_, HRL.out, HS2.out.own, HS2.out.below⟩
      · rw [HE.out]
      · rw [HE.out]
    case false =>
    have HNF := Lib.hid HF.out
    by_cases hend : k = len
    · have HE := Lib.hid (show SPL = (bitsOf raw, k, false) by
        rw [HOPN.out, hend, HLEN.out, List.drop_of_length_le (by rw [bitsOf_length]; exact Nat.le_refl _), splB, HNF.out])
      have HKL := Lib.hid hend
      have i1 : ((k : Int) == (len : Int)) = true := by rw [hend]; simp
      clear hend
      go_wp2_with fail
      refine bodyPost_ret (v := .tuple #[.slice va raw.length vcap, .int .i64 (len : Nat), .bool false]) (by simp [results, Tryd.results78, go_sem]) rfl ?_
      refine ⟨.slice va raw.length vcap, ?_, raw, ?_, HRL.out, HS2.out.own, HS2.out.below⟩
      · rw [HE.out, HKL.out]
      · rw [HE.out]
    · have hlt : k < len := by omega
      have i1 : ((k : Int) == (len : Int)) = false := by rw [beq_eq_false_iff_ne]; omega
      have i2 : (0 : Int) ≤ (k : Int) := by omega
      have i3 : (k : Int) < (len : Int) := by omega
      obtain ⟨bk, off, rfl, hbk, hc⟩ := HI.out.at hlt
      obtain ⟨x, hx⟩ : ∃ x, x = bs[k]?.getD 0 := ⟨_, rfl⟩
      rw [← hx] at hc
      have HC := Lib.hid hc
      have HST := Lib.hid (show SPL = match uStep (some (r, bitsOf raw)) (bitN x) with
          | none => splB r (bitsOf raw) (k + 1) ((bitsOf bs).drop (k + 1))
          | some s => splB s.1 s.2 (k + 1) ((bitsOf bs).drop (k + 1)) by
        rw [HOPN.out, drop_bits bs k (by have := HLEN.out; omega), ← hx]
        show (if fullB r (bitsOf raw) = true then _ else _) = _
        rw [HNF.out, if_neg (by decide)])
      obtain ⟨p1, p2, K, hpk, hnx⟩ : ∃ (p1 : Nat) (p2 : Int) (K : Nat), nextB r.1 (r.2 : Int) (bitN x) = ((p1, p2), K) ∧ ∀ u, Calls Tryd.prog 107 #[.agg #[.int .u8 (r.1 : Nat), .int .i64 (r.2 : Nat)], .int .u8 (x : Nat)] u fun y w' => y = .returned (.tuple #[.agg #[.int .u8 (p1 : Nat), .int .i64 p2], .int .i64 (K : Nat)]) ∧ Below u.heap.size u w' :=
        ⟨(nextB r.1 (r.2 : Int) (bitN x)).1.1, (nextB r.1 (r.2 : Int) (bitN x)).1.2, (nextB r.1 (r.2 : Int) (bitN x)).2, rfl, fun u => refNext_any r.1 (r.2 : Int) x u⟩
      have HPK := Lib.hid hpk
      have HT8 := Lib.hid (show ∀ u, Below w2.heap.size w2 u → (Below w2.heap.size w2 u ∧ u.cell? ⟨w.heap.size, 0, none⟩ = some (.int .u8 (r.1 : Nat)) ∧ u.cell? ⟨w.heap.size, 1, none⟩ = some (.int .i64 (r.2 : Nat)) ∧ u.cell? ⟨bk, off + k, none⟩ = some (.int .u8 (x : Nat))) from fun u hu => by
        have h := (HS2.out.on hu)
        exact ⟨hu, h.two.1, h.two.2.1, HC.out _ h.below⟩)
      have HTA := Lib.hid (show ∀ u o, (Below w2.heap.size w2 u ∧ u.cell? ⟨w.heap.size, 0, none⟩ = some (.int .u8 (r.1 : Nat)) ∧ u.cell? ⟨w.heap.size, 1, none⟩ = some (.int .i64 (r.2 : Nat)) ∧ u.cell? ⟨bk, off + k, none⟩ = some (.int .u8 (x : Nat))) → (Below w2.heap.size w2 (u.alloc o) ∧ (u.alloc o).cell? ⟨w.heap.size, 0, none⟩ = some (.int .u8 (r.1 : Nat)) ∧ (u.alloc o).cell? ⟨w.heap.size, 1, none⟩ = some (.int .i64 (r.2 : Nat)) ∧ (u.alloc o).cell? ⟨bk, off + k, none⟩ = some (.int .u8 (x : Nat))) from fun u o h => HT8.out _ (h.1.alloc h.1.size o))
      have HTD := Lib.hid (fun o => HT8.out _ ((Below.refl w2.heap.size w2).alloc (Nat.le_refl _) o).drew)
      have HN8 := Lib.hid (show ∀ u, (Below w2.heap.size w2 u ∧ u.cell? ⟨w.heap.size, 0, none⟩ = some (.int .u8 (r.1 : Nat)) ∧ u.cell? ⟨w.heap.size, 1, none⟩ = some (.int .i64 (r.2 : Nat)) ∧ u.cell? ⟨bk, off + k, none⟩ = some (.int .u8 (x : Nat))) → Calls Tryd.prog 107 #[.agg #[.int .u8 (r.1 : Nat), .int .i64 (r.2 : Nat)], .int .u8 (x : Nat)] u fun y w' => y = .returned (.tuple #[.agg #[.int .u8 (p1 : Nat), .int .i64 p2], .int .i64 (K : Nat)]) ∧ Below u.heap.size u w' ∧ (Below w2.heap.size w2 w' ∧ w'.cell? ⟨w.heap.size, 0, none⟩ = some (.int .u8 (r.1 : Nat)) ∧ w'.cell? ⟨w.heap.size, 1, none⟩ = some (.int .i64 (r.2 : Nat)) ∧ w'.cell? ⟨bk, off + k, none⟩ = some (.int .u8 (x : Nat))) from fun u hu => (hnx u).mono fun _ _ h => ⟨h.1, h.2, HT8.out _ (hu.1.trans (h.2.mono hu.1.size))⟩)
      have k8 := HT8.out _ (Below.refl w2.heap.size w2).drew
      clear hx hc hend hpk hnx
      go_wp2_with fail
      go_cut [11, 12] (fun s12 s13 wx => ∃ bb, s12 = .pointer (some ⟨bb, 0, none⟩) ∧ s13 = .int .i64 (K : Nat) ∧ w2.heap.size ≤ bb ∧ bb < wx.heap.size ∧ Two wx bb (.int .u8 (p1 : Nat)) (.int .i64 p2) ∧ Below w2.heap.size w2 wx)
      case first =>
        go_region_held3 (fun u => (Below w2.heap.size w2 u ∧ u.cell? ⟨w.heap.size, 0, none⟩ = some (.int .u8 (r.1 : Nat)) ∧ u.cell? ⟨w.heap.size, 1, none⟩ = some (.int .i64 (r.2 : Nat)) ∧ u.cell? ⟨bk, off + k, none⟩ = some (.int .u8 (x : Nat)))) (first | (with_reducible assumption) | (with_reducible exact HTA.out _ _ (by assumption)) | (with_reducible exact HT8.out _ (below_two2 h3.1 hge _ _)) | (exact HTD.out _)) (first | (go_at_call 107; refine (HN8.out _ (by assumption)).mono ?_; rintro y w3 ⟨rfl, hb3, h3⟩; (first | (have FZ := two_new8rd w2 (Below.refl _ _) hb3) | (have FZ := two_new8r w2 (Below.refl _ _) hb3) | skip); (first | (obtain ⟨hge, hlt3, q0, q1, q2, q3⟩ := FZ) | skip)))
        all_goals (go_wp2_with fail; go_meet; first | exact ⟨_, rfl, rfl, Nat.le_refl _, by rw [setCell_size2, setCell_size2]; exact hlt3, Two.put ⟨q0, q1, q2, q3⟩ _ _, below_two2 h3.1 hge _ _⟩ | exact ⟨_, rfl, rfl, h3.1.size, by simp, Two.new w3 _ _ _ rfl, h3.1.alloc h3.1.size _⟩)
      case rest =>
      obtain ⟨W3, hW3⟩ : ∃ W3, W3 = wc := ⟨_, rfl⟩
      rw [← hW3] at hcut ⊢
      clear hW3
      obtain ⟨bb, rfl, rfl, hb1, hb2, T8, hB3⟩ := hcut
      have HS3 := Lib.hid (HS2.out.on hB3)
      have HB3 := Lib.hid hB3
      have HT9 := Lib.hid T8
      have hc3 := HC.out _ HS3.out.below
      obtain ⟨t0, t1, t2, t3⟩ := T8
      obtain ⟨q0, q1, q2, q3⟩ := HS3.out.two
      obtain ⟨vb, hvb⟩ : ∃ vb, vb = bitN x := ⟨_, rfl⟩
      have hv1 : vb ≤ 1 := by rw [hvb]; exact bitN_le _
      have HVB := Lib.hid hvb
      have HR1 := Lib.hid HS3.out.bit
      have hsz3 := HS2.out.size
      have hs3 := HS3.out.size
      have hpk := HPK.out
      rw [← HVB.out] at hpk
      have hwk : IntKind.i64.wrap ((k : Int) + 1) = (k : Int) + 1 := by rw [IntKind.wrap_i64]; omega
      clear hB3 HN8 k8 hvb
      by_cases h5 : 5 ≤ r.2
      · by_cases hvd : vb = 1 - r.1
        · have hn : nextB r.1 (r.2 : Int) vb = ((vb, 1), 1) := by unfold nextB; rw [if_pos (by omega), bitN_self HR1.out, if_pos hvd]
          rw [hn] at hpk
          obtain ⟨⟨e1, e2⟩, e3⟩ : ((vb = p1) ∧ (1 : Int) = p2) ∧ 1 = K := by simpa using hpk
          subst e1 e2 e3
          have HO1 := Lib.hid (show SPL = splB (vb, 1) (bitsOf raw) (k + 1) ((bitsOf bs).drop (k + 1)) by
            rw [HST.out, ← HVB.out]
            have : uStep (some (r, bitsOf raw)) vb = some ((vb, 1), bitsOf raw) := by
              show (if 5 ≤ r.2 then (if vb = 1 - r.1 then some ((vb, 1), bitsOf raw) else none) else _) = _
              rw [if_pos h5, if_pos hvd]
            rw [this])
          have HHK := Lib.hid (show k + 1 ≤ len ∧ raw.length ≤ k + 1 by omega)
          clear hpk hn h5 hvd HST hsz3 hs3
          go_wp2_with fail
          go_roundw
          case rel => exact ⟨k + 1, (vb, 1), raw, HHK.out.1, by simp, HO1.out, ⟨(HS3.out.own.other (by omega)).other (by omega), HS3.out.two.put _ _, hv1, by rw [setCell_size2, setCell_size2]; exact HS3.out.size, below_two2 HS3.out.below (by omega) _ _⟩, HHK.out.2⟩
          case measure => have := HHK.out; simp [intOf]; omega
        · have hn : nextB r.1 (r.2 : Int) vb = ((r.1, (r.2 : Int)), 2) := by unfold nextB; rw [if_pos (by omega), bitN_self HR1.out, if_neg hvd]
          rw [hn] at hpk
          obtain ⟨⟨e1, e2⟩, e3⟩ : ((r.1 = p1) ∧ (r.2 : Int) = p2) ∧ 2 = K := by simpa using hpk
          subst e1 e2 e3
          have HO1 := Lib.hid (show SPL = splB r (bitsOf raw) (k + 1) ((bitsOf bs).drop (k + 1)) by
            rw [HST.out, ← HVB.out]
            have : uStep (some (r, bitsOf raw)) vb = none := by
              show (if 5 ≤ r.2 then (if vb = 1 - r.1 then some ((vb, 1), bitsOf raw) else none) else _) = _
              rw [if_pos h5, if_neg hvd]
            rw [this])
          have HHK := Lib.hid (show k + 1 ≤ len ∧ raw.length ≤ k + 1 by omega)
          clear hpk hn h5 hvd HST hsz3 hs3
          go_wp2_with fail
          go_roundw
          case rel => exact ⟨k + 1, r, raw, HHK.out.1, by simp, HO1.out, ⟨(HS3.out.own.other (by omega)).other (by omega), HS3.out.two.put _ _, HR1.out, by rw [setCell_size2, setCell_size2]; exact HS3.out.size, below_two2 HS3.out.below (by omega) _ _⟩, HHK.out.2⟩
          case measure => have := HHK.out; simp [intOf]; omega
      · obtain ⟨m, hm⟩ : ∃ m, m = (nx r vb).2 := ⟨_, rfl⟩
        have hn : nextB r.1 (r.2 : Int) vb = ((vb, (m : Int)), 0) := by rw [nextB_nx r vb (by omega) HR1.out, nx_fst, hm]
        rw [hn] at hpk
        obtain ⟨⟨e1, e2⟩, e3⟩ : ((vb = p1) ∧ (m : Int) = p2) ∧ 0 = K := by simpa using hpk
        subst e1 e2 e3
        have HO1 := Lib.hid (show SPL = splB (vb, m) (bitsOf (raw ++ [x])) (k + 1) ((bitsOf bs).drop (k + 1)) by
          rw [HST.out, ← HVB.out]
          have : uStep (some (r, bitsOf raw)) vb = some ((vb, m), bitsOf raw ++ [vb]) := by
            show (if 5 ≤ r.2 then (if vb = 1 - r.1 then some ((vb, 1), bitsOf raw) else none) else some (nx r vb, bitsOf raw ++ [vb])) = _
            rw [if_neg h5]
            exact congrArg (fun z => some (z, bitsOf raw ++ [vb])) (Prod.ext (nx_fst r vb) hm.symm)
          rw [this]
          have e : bitsOf (raw ++ [x]) = bitsOf raw ++ [vb] := by rw [HVB.out]; simp [bitsOf]
          rw [e])
        have HHK := Lib.hid (show k + 1 ≤ len ∧ raw.length + 1 ≤ k + 1 by omega)
        have HOW := Lib.hid HS3.out.own.own
        have HNE := Lib.hid (show some bb ≠ (Value.slice va raw.length vcap).ownBlock from fun e => by have := (World.ownsRow.lt HS2.out.own.own bb e.symm).2; omega)
        clear hpk hn h5 hm HST HTA HTD hsz3
        go_wp2_with (at_builtin; refine wpList_append_own _ rfl _ _ 34 rfl (w.heap.size + 1) 5 i0 (.int .u8 0) 1 1 Tryd.underlying34 hi hz0 hz1' hz2 rfl (by decide) _ _ _ rfl (HOW.out.alloc _) ⟨_, 0, none⟩ 1 1 [.int .u8 (x : Int)] rfl rfl one_cell one_flat ?c3 ?c4 ?c5 ?_)
        case c3 => unfold maxLen; omega
        case c4 => omega
        case c5 => simp; omega
        intro v' w4 hown4 hgrow _
        have h34 : Below (w.heap.size + 1) W3 w4 := ((Below.refl _ W3).alloc hs3 _).grown hgrow (by simp; omega) HS3.out.own.ge
        have hblk : w4.heap[bb]? = W3.heap[bb]? := (hgrow.block bb (by simp; omega) HNE.out).trans (((Below.refl _ W3).alloc (Nat.le_refl _) _).block bb hb2)
        have T4 : Two w4 bb (.int .u8 (vb : Nat)) (.int .i64 (m : Int)) := ⟨(World.cell?_of_block hblk).trans HT9.out.1, (World.cell?_of_block hblk).trans HT9.out.2.1, (World.frozen?_of_block hblk).trans HT9.out.2.2.1, (World.frozen?_of_block hblk).trans HT9.out.2.2.2⟩
        have HO4 := Lib.hid (show Ow (w.heap.size + 1) w4 v' (raw ++ [x]) from Ow.snoc hown4)
        have HQ4 := Lib.hid (HS3.out.two.keepAt h34 (by omega))
        have HB4 := Lib.hid (HS3.out.below.trans (h34.mono (by omega)))
        have HZ4 := Lib.hid (Nat.le_trans hs3 h34.size)
        clear t0 t1 t2 t3 q0 q1 q2 q3 hc3 hown4 hgrow h34 hblk hs3
        obtain ⟨t0, t1, t2, t3⟩ := T4
        obtain ⟨q0, q1, q2, q3⟩ := HQ4.out
        go_wp2_with fail
        go_roundw
        case rel => exact ⟨k + 1, (vb, m), raw ++ [x], HHK.out.1, by simp, HO1.out, ⟨(HO4.out.other (by omega)).other (by omega), HQ4.out.put _ _, hv1, by rw [setCell_size2, setCell_size2]; exact HZ4.out, below_two2 HB4.out (by omega) _ _⟩, by rw [List.length_append]; exact HHK.out.2⟩
        case measure => have := HHK.out; simp [intOf]; omega
end Go.Proofs.YtmfnkfiocnngeaaDoor
