/- Package edf: Busy. Conditions: the numbers are of 64 bits. -/
import Derived.Test.YtbcccffjlkphpaaEds
namespace Go.Proofs.Ytbcccffjlkphpaa
open Go.RowKit Go.Shelf Go.Sort
set_option linter.unusedSimpArgs false
set_option linter.unusedVariables false
attribute [local go_sem] Oper.semAt_some
theorem flatS_at (S : List Sn) (j i : Nat) (hj : j < S.length) (hi : i < 3) : (S.flatMap Sn.C)[j * 3 + i]? = (S[j].C)[i]? := by
  induction S generalizing j with
  | nil => simp at hj
  | cons x H ih =>
    rw [List.flatMap_cons]
    match j, hj with
    | 0, _ =>
      rw [Nat.zero_mul, Nat.zero_add, List.getElem?_append_left (by rw [Sn.C_len]; exact hi)]
      rfl
    | j + 1, hj =>
      rw [List.getElem?_append_right (by rw [Sn.C_len]; omega), Sn.C_len, show (j + 1) * 3 + i - 3 = j * 3 + i by omega]
      exact ih j (by simpa using hj)
/-- A row of what is sent, its cells. -/
theorem sent_at {W : World} {b : Nat} {v : Value} {S : List Sn} (h : W.ownsRow b 38 3 v S.length (S.flatMap Sn.C)) : ∃ a c, v = .slice a S.length c ∧ ∀ k (hk : k < S.length), ∃ g, a = some ⟨g, 0, none⟩ ∧ g < W.heap.size ∧ ∀ i u, (S[k].C)[i]? = some u → W.cell? ⟨g, k * 3 + i, none⟩ = some u := by
  rcases h.2 with ⟨e, e2⟩ | ⟨g, cap, cur, e, h2, h3, h4, h5, h6, h7⟩
  · exact ⟨none, 0, by rw [e2]; exact e, fun k hk => by omega⟩
  · have hb : Blk W g 38 cur.toList := h3
    refine ⟨_, _, e, fun k hk => ⟨g, rfl, hb.lt, fun i u hu => ?_⟩⟩
    have hi : i < 3 := by have := (List.getElem?_eq_some_iff.1 hu).1; rwa [Sn.C_len] at this
    have h1 := flatS_at S k i hk hi
    rw [← h7, hu, List.getElem?_take_of_lt (by omega)] at h1
    have h9 := (List.getElem?_eq_some_iff.1 h1).1
    rw [hb.cellAt (i := k * 3 + i) h9]
    rw [← h1, List.getElem?_eq_getElem h9]
/-- The first bit, from some on, at which nothing is sent. -/
def busyF (S : List Sn) (from_ : Int) : Int := S.foldl (fun i s => if s.a ≤ i ∧ i ≤ s.e then s.e else i) (max 0 (min from_ 4503599627370496))
theorem busyF_take {S : List Sn} {k : Nat} (hk : k < S.length) (f : Int) : busyF (S.take (k + 1)) f = if S[k].a ≤ busyF (S.take k) f ∧ busyF (S.take k) f ≤ S[k].e then S[k].e else busyF (S.take k) f := by
  unfold busyF
  rw [List.take_succ_eq_append_getElem hk, List.foldl_append]
  rfl
/-- What Busy answers. -/
def BusyP (L : List Jb) (len from_ : Int) (W : World) (e : Ending) (w' : World) : Prop := ((mayJ len L ≠ 0 ∧ e = .returned (.tuple #[.int .i64 0, .int .i64 (mayJ len L)])) ∨ (mayJ len L = 0 ∧ ∃ S, e = .returned (.tuple #[.int .i64 (busyF S from_), .int .i64 0]) ∧ Tr L len S ∧ S.length = L.length)) ∧ Below W.heap.size W w'
set_option maxRecDepth 100000 in
set_option maxHeartbeats 8000000 in
theorem jbusy_any (a : Option Addr) (ln cap : Nat) (L : List Jb) (len from_ : Int) (W : World) (hI : Jbs W.heap.size W (.slice a ln cap) L) : Calls Try.prog 13 #[.slice a ln cap, .int .i64 len, .int .i64 from_] W (BusyP L len from_ W) := by
  have HR := Lib.hid (jrun_any a ln cap L len W hI)
  obtain ⟨i1, hi1⟩ : ∃ i : Int, i = min from_ 4503599627370496 := ⟨_, rfl⟩
  obtain ⟨i0, hi0⟩ : ∃ i : Int, i = max 0 i1 := ⟨_, rfl⟩
  have HI0 := Lib.hid (show busyF [] from_ = i0 by rw [hi0, hi1]; rfl)
  clear hI
  go_enter Try.func13, Try.ntmps13
  go_wp2_with fail
  refine HR.out.mono ?_
  rintro y w1 ⟨⟨hm, rfl⟩ | ⟨hm, S, v, rfl, htr, hsl, hown⟩, hb⟩
  · have hk2 : (mayJ len L != 0) = true := bne_iff_ne.2 hm
    obtain ⟨m, hmm⟩ : ∃ m, m = mayJ len L := ⟨_, rfl⟩
    have HMM := Lib.hid hmm; have HNE := Lib.hid hm; have HB1 := Lib.hid hb
    rw [← hmm] at hk2 ⊢
    clear hm hmm hb hi0 hi1
    go_wp2_with fail
    go_ret2
    exact ⟨.inl ⟨HNE.out, by rw [← HMM.out]; rfl⟩, HB1.out⟩
  · obtain ⟨av, cv, rfl, hcell⟩ := sent_at hown
    have HTR := Lib.hid htr; have HSL := Lib.hid hsl; have HMZ := Lib.hid hm; have HB1 := Lib.hid hb; have HCL := Lib.hid hcell
    obtain ⟨N, hN⟩ : ∃ N, N = S.length := ⟨_, rfl⟩
    rw [← hN]
    have HN := Lib.hid hN
    have hNb : N ≤ 256 := by have := (may_0 hm).2.1; omega
    clear htr hsl hm hb hcell hown hN
    dsimp only
    go_upto_region 5 with fail
    rw [← hi1, ← hi0]
    clear hi0 hi1
    go_wp2_with fail
    go_loopw [10, 27] (fun s10 s27 wr => ∃ k : Nat, s27 = .int .i64 (k : Int) ∧ k ≤ N ∧ s10 = .int .i64 (busyF (S.take k) from_) ∧ Below W.heap.size W wr ∧ Below w1.heap.size w1 wr) (fun _ s27 _ => N - (intOf s27).toNat)
    case atStart => exact ⟨0, rfl, by omega, by rw [List.take_zero, HI0.out], by first | exact HB1.out | exact HB1.out.drew, by first | exact Below.refl _ _ | exact (Below.refl _ _).drew⟩
    case round =>
      obtain ⟨k, rfl, hk, rfl, hB, hB2⟩ := hrel
      have HB := Lib.hid hB; have HB2 := Lib.hid hB2
      have i3 : (0 : Int) ≤ (k : Int) := by omega
      clear hB hB2
      obtain ⟨z, hz⟩ : ∃ z, z = busyF (S.take k) from_ := ⟨_, rfl⟩
      have HZ := Lib.hid hz
      rw [← hz]
      clear hz
      by_cases hlt : k < N
      · have j1 : (k : Int) < (N : Int) := by omega
        have hkS : k < S.length := by have := HN.out; omega
        obtain ⟨g, rfl, hg, hc⟩ := HCL.out k hkS
        obtain ⟨x, hx⟩ : ∃ x, x = S[k] := ⟨_, rfl⟩
        rw [← hx] at hc
        have HBS := Lib.hid (busyF_take hkS from_)
        rw [← hx, ← HZ.out] at HBS
        have hcw := fun i u (hu : (x.C)[i]? = some u) => (HB2.out.cell (p := ⟨g, k * 3 + i, none⟩) hg).trans (hc i u hu)
        have q0 : wr.cell? ⟨g, k * 3, none⟩ = some (.int .i64 (x.j : Int)) := hcw 0 _ rfl
        have q1 : wr.cell? ⟨g, k * 3 + 1, none⟩ = some (.int .i64 x.a) := hcw 1 _ rfl
        have q2 : wr.cell? ⟨g, k * 3 + 2, none⟩ = some (.int .i64 x.e) := hcw 2 _ rfl
        have HW := Lib.hid (fun u => within_any z x.a x.e u)
        clear hc hcw hx hg hkS
        by_cases hin : x.a ≤ z ∧ z ≤ x.e
        · rw [show inB z x.a x.e = true from decide_eq_true hin] at HW
          rw [if_pos hin] at HBS
          clear hin
          have HBA := Lib.hid ((HB.out.alloc HB.out.size (.cells #[.int .i64 (x.j : Int), .int .i64 x.a, .int .i64 x.e] 38))); have HBA2 := Lib.hid (HB2.out.alloc HB2.out.size (.cells #[.int .i64 (x.j : Int), .int .i64 x.a, .int .i64 x.e] 38))
          go_wp2_with fail
          refine (HW.out _).mono ?_
          rintro y w2 ⟨rfl, rfl⟩
          go_wp2_with fail
          go_roundw
          case rel => exact ⟨k + 1, by simp, by omega, by rw [HBS.out], HBA.out, HBA2.out⟩
          case measure => simp [intOf]; omega
        · rw [show inB z x.a x.e = false from decide_eq_false hin] at HW
          rw [if_neg hin] at HBS
          clear hin
          have HBA := Lib.hid ((HB.out.alloc HB.out.size (.cells #[.int .i64 (x.j : Int), .int .i64 x.a, .int .i64 x.e] 38))); have HBA2 := Lib.hid (HB2.out.alloc HB2.out.size (.cells #[.int .i64 (x.j : Int), .int .i64 x.a, .int .i64 x.e] 38))
          go_wp2_with fail
          refine (HW.out _).mono ?_
          rintro y w2 ⟨rfl, rfl⟩
          go_wp2_with fail
          go_roundw
          case rel => exact ⟨k + 1, by simp, by omega, by rw [HBS.out], HBA.out, HBA2.out⟩
          case measure => simp [intOf]; omega
      · have j1 : ¬ (k : Int) < (N : Int) := by omega
        have hall : S.take k = S := List.take_of_length_le (by have := HN.out; omega)
        rw [hall] at HZ
        go_wp2_with fail
        go_ret2
        exact ⟨.inr ⟨HMZ.out, S, by rw [← HZ.out]; rfl, HTR.out, HSL.out⟩, HB.out⟩
end Go.Proofs.Ytbcccffjlkphpaa
