/- The document's own Busy of layer 27. Conditions: none. -/
import Derived.Test.YtbcccffjlkphpaaEfa
namespace Go.Proofs.Ytbcccffjlkphpaa
open Go.RowKit Go.Shelf
set_option linter.unusedSimpArgs false
set_option linter.unusedVariables false
attribute [local go_sem] Oper.semAt_some
theorem rsent_at {W : World} {b : Nat} {v : Value} {S : List Sn} (h : W.ownsRow b 39 3 v S.length (S.flatMap Sn.C)) : ∃ a c, v = .slice a S.length c ∧ ∀ k (hk : k < S.length), ∃ g, a = some ⟨g, 0, none⟩ ∧ g < W.heap.size ∧ ∀ i u, (S[k].C)[i]? = some u → W.cell? ⟨g, k * 3 + i, none⟩ = some u := by
  rcases h.2 with ⟨e, e2⟩ | ⟨g, cap, cur, e, h2, h3, h4, h5, h6, h7⟩
  · exact ⟨none, 0, by rw [e2]; exact e, fun k hk => by omega⟩
  · have hb : Blk W g 39 cur.toList := h3
    refine ⟨_, _, e, fun k hk => ⟨g, rfl, hb.lt, fun i u hu => ?_⟩⟩
    have hi : i < 3 := by have := (List.getElem?_eq_some_iff.1 hu).1; rwa [Sn.C_len] at this
    have h1 := flatS_at S k i hk hi
    rw [← h7, hu, List.getElem?_take_of_lt (by omega)] at h1
    have h9 := (List.getElem?_eq_some_iff.1 h1).1
    rw [hb.cellAt (i := k * 3 + i) h9]
    rw [← h1, List.getElem?_eq_getElem h9]
theorem rclamp_any (n : Int) (w : World) : Calls Try.prog 30 #[.int .i64 n, .int .i64 0, .int .i64 4503599627370496] w fun e w' => e = .returned (.int .i64 (max 0 (min n 4503599627370496))) ∧ Below w.heap.size w w' := by
  by_cases h1 : n < 0
  · have e : max 0 (min n 4503599627370496) = 0 := by omega
    rw [e]
    clear e
    go_enter Try.func30, Try.ntmps30
    go_wp2_with fail
    go_ret
    exact ⟨rfl, by first | exact Below.refl _ _ | exact (Below.refl _ _).drew⟩
  by_cases h2 : 4503599627370496 < n
  · have e : max 0 (min n 4503599627370496) = 4503599627370496 := by omega
    rw [e]
    clear e
    go_enter Try.func30, Try.ntmps30
    go_wp2_with fail
    go_ret
    exact ⟨rfl, by first | exact Below.refl _ _ | exact (Below.refl _ _).drew⟩
  · have e : max 0 (min n 4503599627370496) = n := by omega
    rw [e]
    clear e
    go_enter Try.func30, Try.ntmps30
    go_wp2_with fail
    go_ret
    exact ⟨rfl, by first | exact Below.refl _ _ | exact (Below.refl _ _).drew⟩
set_option maxRecDepth 100000 in
set_option maxHeartbeats 8000000 in
theorem rbusy_any (a : Option Addr) (ln cap : Nat) (L : List Jb) (len from_ : Int) (W : World) (hI : Jbs W.heap.size W (.slice a ln cap) L) : Calls Try.prog 14 #[.slice a ln cap, .int .i64 len, .int .i64 from_] W (BusyP L len from_ W) := by
  have HR := Lib.hid (rrun_any a ln cap L len W hI)
  obtain ⟨i0, hi0⟩ : ∃ i : Int, i = max 0 (min from_ 4503599627370496) := ⟨_, rfl⟩
  have HI0 := Lib.hid (show busyF [] from_ = i0 by rw [hi0]; rfl)
  have HCL := Lib.hid (fun u => rclamp_any from_ u)
  rw [← hi0] at HCL
  clear hI hi0
  go_enter Try.func14, Try.ntmps14
  go_wp2_with fail
  refine HR.out.mono ?_
  rintro y w1 ⟨⟨hm, rfl⟩ | ⟨hm, S, v, rfl, htr, hsl, hown⟩, hb⟩
  · have hk2 : (mayJ len L != 0) = true := bne_iff_ne.2 hm
    obtain ⟨m, hmm⟩ : ∃ m, m = mayJ len L := ⟨_, rfl⟩
    have HMM := Lib.hid hmm; have HNE := Lib.hid hm; have HB1 := Lib.hid hb
    rw [← hmm] at hk2 ⊢
    clear hm hmm hb
    go_wp2_with fail
    go_ret2
    exact ⟨.inl ⟨HNE.out, by rw [← HMM.out]; rfl⟩, HB1.out⟩
  · obtain ⟨av, cv, rfl, hcell⟩ := rsent_at hown
    have HTR := Lib.hid htr; have HSL := Lib.hid hsl; have HMZ := Lib.hid hm; have HB1 := Lib.hid hb; have HCE := Lib.hid hcell
    obtain ⟨N, hN⟩ : ∃ N, N = S.length := ⟨_, rfl⟩
    rw [← hN]
    have HN := Lib.hid hN
    have hNb : N ≤ 256 := by have := (may_0 hm).2.1; omega
    clear htr hsl hm hb hcell hown hN
    dsimp only
    go_wp2_with fail
    refine (HCL.out _).mono ?_
    rintro y w2 ⟨rfl, hb⟩
    have HBA := Lib.hid (below_transE HB1.out hb HB1.out.size); have HBB := Lib.hid hb
    clear hb
    go_wp2_with fail
    go_loopw [10, 11] (fun s10 s27 wr => ∃ k : Nat, s27 = .int .i64 (k : Int) ∧ k ≤ N ∧ s10 = .int .i64 (busyF (S.take k) from_) ∧ Below W.heap.size W wr ∧ Below w1.heap.size w1 wr) (fun _ s27 _ => N - (intOf s27).toNat)
    case atStart => exact ⟨0, rfl, by omega, by rw [List.take_zero, HI0.out], by first | exact HBA.out | exact HBA.out.drew, by first | exact HBB.out | exact HBB.out.drew⟩
    case round =>
      obtain ⟨k, rfl, hk, rfl, hB, hB2⟩ := hrel
      have HB := Lib.hid hB; have HB2 := Lib.hid hB2
      have i3 : (0 : Int) ≤ (k : Int) := by omega
      have x4 : wrap64 ((k : Int) + 1) = (k : Int) + 1 := by unfold wrap64; omega
      clear hB hB2
      obtain ⟨z, hz⟩ : ∃ z, z = busyF (S.take k) from_ := ⟨_, rfl⟩
      have HZ := Lib.hid hz
      rw [← hz]
      clear hz
      by_cases hlt : k < N
      · have j1 : (k : Int) < (N : Int) := by omega
        have hkS : k < S.length := by have := HN.out; omega
        obtain ⟨g, rfl, hg, hc⟩ := HCE.out k hkS
        obtain ⟨x, hx⟩ : ∃ x, x = S[k] := ⟨_, rfl⟩
        rw [← hx] at hc
        have HBS := Lib.hid (busyF_take hkS from_)
        rw [← hx, ← HZ.out] at HBS
        have hcw := fun i u (hu : (x.C)[i]? = some u) => (HB2.out.cell (p := ⟨g, k * 3 + i, none⟩) hg).trans (hc i u hu)
        have q1 : wr.cell? ⟨g, k * 3 + 1, none⟩ = some (.int .i64 x.a) := hcw 1 _ rfl
        have q2 : wr.cell? ⟨g, k * 3 + 2, none⟩ = some (.int .i64 x.e) := hcw 2 _ rfl
        by_cases h1 : x.a ≤ z
        · by_cases h2 : z < x.e
          · have HBS2 := Lib.hid (show busyF (S.take (k + 1)) from_ = x.e by rw [HBS.out, if_pos ⟨h1, by omega⟩])
            clear hc hcw hx hg hkS
            go_wp2_with fail
            go_roundw
            case rel => exact ⟨k + 1, by simp, by omega, by rw [HBS2.out], by first | exact HB.out | exact HB.out.drew, by first | exact HB2.out | exact HB2.out.drew⟩
            case measure => simp [intOf]; omega

          · have HBS2 := Lib.hid (show busyF (S.take (k + 1)) from_ = z from by rw [HBS.out]; split <;> omega)
            clear hc hcw hx hg hkS
            go_wp2_with fail
            go_roundw
            case rel => exact ⟨k + 1, by simp, by omega, by rw [HBS2.out], by first | exact HB.out | exact HB.out.drew, by first | exact HB2.out | exact HB2.out.drew⟩
            case measure => simp [intOf]; omega

        · have HBS2 := Lib.hid (show busyF (S.take (k + 1)) from_ = z from by rw [HBS.out, if_neg (fun h => h1 h.1)])
          clear hc hcw hx hg hkS
          go_wp2_with fail
          go_roundw
          case rel => exact ⟨k + 1, by simp, by omega, by rw [HBS2.out], by first | exact HB.out | exact HB.out.drew, by first | exact HB2.out | exact HB2.out.drew⟩
          case measure => simp [intOf]; omega

      · have j1 : ¬ (k : Int) < (N : Int) := by omega
        have hall : S.take k = S := List.take_of_length_le (by have := HN.out; omega)
        rw [hall] at HZ
        go_wp2_with fail
        go_ret2
        exact ⟨.inr ⟨HMZ.out, S, by rw [← HZ.out]; rfl, HTR.out, HSL.out⟩, by first | exact HB.out | exact HB.out.drew⟩
end Go.Proofs.Ytbcccffjlkphpaa
