/- The library's down, at the heap of jobs. Conditions: there are at most a million. -/
import Derived.Test.YtbcccffjlkphpaaEdl
namespace Go.Proofs.Ytbcccffjlkphpaa
open Go.RowKit Go.Shelf Go.Sort
set_option linter.unusedSimpArgs false
set_option linter.unusedVariables false
attribute [local go_sem] Oper.semAt_some
set_option maxRecDepth 100000 in
set_option maxHeartbeats 8000000 in
theorem down_any {W : World} {b1 B : Nat} {len : Int} {H C : List PJ} {vH vC : Value} (h : PW W b1 B len H C vH vC) (n : Nat) (hn : n < H.length) (hbig : H.length < 1000000) (hD : DnI len H 0 n) : Calls Try.prog 45 #[.iface 60 (.pointer (some ⟨B, 0, none⟩)), .int .i64 0, .int .i64 (n : Int)] W fun e w' => (∃ b, e = .returned (.bool b)) ∧ ∃ H', H'.Perm H ∧ (∀ m, n ≤ m → m < H.length → H'[m]! = H[m]!) ∧ HP len H' n ∧ PW w' b1 B len H' C vH vC ∧ Ch b1 B W w' := by
  have HW := Lib.hid h; have HD := Lib.hid hD
  have n0 : (0 : Int) ≤ (n : Int) := by omega
  clear h hD
  go_enter Try.func45, Try.ntmps45
  go_wp2_with fail
  go_loopw [7] (fun s7 wr => ∃ (q : Nat) (G : List PJ), s7 = .int .i64 (q : Int) ∧ q ≤ n ∧ G.Perm H ∧ (∀ m, n ≤ m → m < H.length → G[m]! = H[m]!) ∧ DnI len G q n ∧ PW wr b1 B len G C vH vC ∧ Ch b1 B W wr) (fun s7 _ => n - (intOf s7).toNat)
  case atStart => exact ⟨0, H, rfl, by omega, List.Perm.refl _, fun _ _ _ => rfl, HD.out, by first | exact HW.out | exact HW.out.on (Below.refl _ _).drew, by first | exact Ch.refl _ _ _ | exact Ch.of_below (Below.refl _ _).drew⟩
  case round =>
    obtain ⟨q, G, rfl, hq, hp, htl, hDn, hP, hC⟩ := hrel
    have HPE := Lib.hid hp; have HDN := Lib.hid hDn; have HPW := Lib.hid hP; have HCH := Lib.hid hC; have HTL := Lib.hid htl
    have HGL := Lib.hid (show n < G.length by have := hp.length_eq; omega)
    have q0 : (0 : Int) ≤ (q : Int) := by omega
    have q1 : (q : Int) < 1000000 := by omega
    clear hp hDn hP hC htl
    by_cases h1 : n ≤ 2 * q + 1
    · have i1 : (n : Int) ≤ 2 * (q : Int) + 1 := by omega
      have HFIN := Lib.hid (show HP len G n from HDN.out.done (fun m hm hmm => by omega))
      go_wp2_with fail
      go_ret
      exact ⟨⟨_, rfl⟩, G, HPE.out, HTL.out, HFIN.out, HPW.out, HCH.out⟩
    · have i1 : ¬ (n : Int) ≤ 2 * (q : Int) + 1 := by omega
      have i2 : ¬ 2 * (q : Int) + 1 < 0 := by omega
      obtain ⟨c, hc⟩ : ∃ c, c = 2 * q + 1 := ⟨_, rfl⟩
      have HC1 := Lib.hid (show 2 * (q : Int) + 1 = (c : Int) by omega)
      have hcn : c < n := by omega
      have hcq : c = 2 * q + 1 ∨ c = 2 * q + 2 := .inl hc
      go_upto_region 4 with fail
      rw [HC1.out]
      by_cases h2 : c + 1 < n
      · obtain ⟨d, hd⟩ : ∃ d, d = c + 1 := ⟨_, rfl⟩
        have HC2 := Lib.hid (show (c : Int) + 1 = (d : Int) by omega)
        have hdn : d < n := by omega
        have hdq : d = 2 * q + 1 ∨ d = 2 * q + 2 := .inr (by omega)
        have i3 : (d : Int) < (n : Int) := by omega
        have hm1 := fun n' => meth_less n' B wr
        have HL2 := Lib.hid (pless_any HPW.out d c (by have := HGL.out; omega) (by have := HGL.out; omega))
        have HEQ := Lib.hid (show d = c + 1 ∧ c = 2 * q + 1 from ⟨hd, hc⟩)
        clear hc hd
        go_upto_region 6 with fail
        rw [HC2.out]
        by_cases hk2 : klt len G[d]! G[c]!
        · rw [decide_eq_true hk2] at HL2
          have HK2 := Lib.hid hk2
          clear hk2
          go_wp2_with fail
          refine HL2.out.mono ?_
          rintro y_ u2 ⟨rfl, hb⟩
          have HPWa := Lib.hid (HPW.out.on hb); have HCHa := Lib.hid (HCH.out.trans (Ch.of_below hb))
          clear hb
          have HOT := Lib.hid (show ∀ o, o < n → (o = 2 * q + 1 ∨ o = 2 * q + 2) → o ≠ d → ¬ klt len G[o]! G[d]! from fun o ho1 ho2 ho3 => by obtain rfl : o = c := (by have := HEQ.out; omega); exact klt_asymm HK2.out)
          have hm9 := fun n' => meth_less n' B u2
          have HL9 := Lib.hid (pless_any HPWa.out d q (by have := HGL.out; omega) (by have := HGL.out; omega))
          by_cases hk : klt len G[d]! G[q]!
          · rw [decide_eq_true hk] at HL9
            have HST := Lib.hid (show DnI len (swp G q d) d n from HDN.out.step (by have := HGL.out; omega) (by omega) (by omega) hk HOT.out)
            clear hk
            go_wp2_with fail
            refine HL9.out.mono ?_
            rintro y_ a8 ⟨rfl, hb⟩
            have HPa8 := Lib.hid (HPWa.out.on hb); have HCa8 := Lib.hid (HCHa.out.trans (Ch.of_below hb))
            clear hb
            have hm8 := fun n' => meth_swap n' B a8
            have HS8 := Lib.hid (pswap_any HPa8.out q d (by have := HGL.out; omega) (by have := HGL.out; omega))
            go_wp2_with fail
            refine HS8.out.mono ?_
            rintro y_ a9 ⟨rfl, hP9, hC9⟩
            have HPW9 := Lib.hid hP9; have HCH9 := Lib.hid (HCa8.out.trans hC9)
            have HPS := Lib.hid ((swp_perm (show q < G.length by have := HGL.out; omega) (show d < G.length by have := HGL.out; omega)).trans HPE.out)
            have HTS := Lib.hid (show ∀ m, n ≤ m → m < H.length → (swp G q d)[m]! = H[m]! from fun m h1 h2 => by
              rw [swp_get (by have := HGL.out; omega) (by have := HGL.out; omega) (by have := HPE.out.length_eq; omega), if_neg (by omega), if_neg (by omega)]
              exact HTL.out m h1 h2)
            clear hP9 hC9
            go_wp2_with fail
            go_roundw
            case rel => exact ⟨d, swp G q d, by first | rfl | (congr 1; omega), by omega, HPS.out, HTS.out, HST.out, HPW9.out, HCH9.out⟩
            case measure =>
              have hms : n - d < n - q := by omega
              first | exact hms | (simp [intOf]; omega)
          · rw [decide_eq_false hk] at HL9
            have HFIN := Lib.hid (show HP len G n from HDN.out.done (fun m hm hmm => by
                rcases Nat.lt_or_ge m n with _ | _
                · by_cases e : m = d
                  · subst e; exact hk
                  · exact nlt_trans (HOT.out m hm hmm e) hk
                · omega))
            clear hk
            go_wp2_with fail
            refine HL9.out.mono ?_
            rintro y_ a7 ⟨rfl, hb⟩
            have HPa7 := Lib.hid (HPWa.out.on hb); have HCa7 := Lib.hid (HCHa.out.trans (Ch.of_below hb))
            clear hb
            go_wp2_with fail
            go_ret
            exact ⟨⟨_, rfl⟩, G, HPE.out, HTL.out, HFIN.out, HPa7.out, HCa7.out⟩
        · rw [decide_eq_false hk2] at HL2
          have HK2 := Lib.hid hk2
          clear hk2
          go_wp2_with fail
          refine HL2.out.mono ?_
          rintro y_ u2 ⟨rfl, hb⟩
          have HPWa := Lib.hid (HPW.out.on hb); have HCHa := Lib.hid (HCH.out.trans (Ch.of_below hb))
          clear hb
          have HOT := Lib.hid (show ∀ o, o < n → (o = 2 * q + 1 ∨ o = 2 * q + 2) → o ≠ c → ¬ klt len G[o]! G[c]! from fun o ho1 ho2 ho3 => by obtain rfl : o = d := (by have := HEQ.out; omega); exact HK2.out)
          have hm9 := fun n' => meth_less n' B u2
          have HL9 := Lib.hid (pless_any HPWa.out c q (by have := HGL.out; omega) (by have := HGL.out; omega))
          by_cases hk : klt len G[c]! G[q]!
          · rw [decide_eq_true hk] at HL9
            have HST := Lib.hid (show DnI len (swp G q c) c n from HDN.out.step (by have := HGL.out; omega) (by omega) (by omega) hk HOT.out)
            clear hk
            go_wp2_with fail
            refine HL9.out.mono ?_
            rintro y_ b8 ⟨rfl, hb⟩
            have HPb8 := Lib.hid (HPWa.out.on hb); have HCb8 := Lib.hid (HCHa.out.trans (Ch.of_below hb))
            clear hb
            have hm8 := fun n' => meth_swap n' B b8
            have HS8 := Lib.hid (pswap_any HPb8.out q c (by have := HGL.out; omega) (by have := HGL.out; omega))
            go_wp2_with fail
            refine HS8.out.mono ?_
            rintro y_ b9 ⟨rfl, hP9, hC9⟩
            have HPW9 := Lib.hid hP9; have HCH9 := Lib.hid (HCb8.out.trans hC9)
            have HPS := Lib.hid ((swp_perm (show q < G.length by have := HGL.out; omega) (show c < G.length by have := HGL.out; omega)).trans HPE.out)
            have HTS := Lib.hid (show ∀ m, n ≤ m → m < H.length → (swp G q c)[m]! = H[m]! from fun m h1 h2 => by
              rw [swp_get (by have := HGL.out; omega) (by have := HGL.out; omega) (by have := HPE.out.length_eq; omega), if_neg (by omega), if_neg (by omega)]
              exact HTL.out m h1 h2)
            clear hP9 hC9
            go_wp2_with fail
            go_roundw
            case rel => exact ⟨c, swp G q c, by first | rfl | (congr 1; omega), by omega, HPS.out, HTS.out, HST.out, HPW9.out, HCH9.out⟩
            case measure =>
              have hms : n - c < n - q := by omega
              first | exact hms | (simp [intOf]; omega)
          · rw [decide_eq_false hk] at HL9
            have HFIN := Lib.hid (show HP len G n from HDN.out.done (fun m hm hmm => by
                rcases Nat.lt_or_ge m n with _ | _
                · by_cases e : m = c
                  · subst e; exact hk
                  · exact nlt_trans (HOT.out m hm hmm e) hk
                · omega))
            clear hk
            go_wp2_with fail
            refine HL9.out.mono ?_
            rintro y_ b7 ⟨rfl, hb⟩
            have HPb7 := Lib.hid (HPWa.out.on hb); have HCb7 := Lib.hid (HCHa.out.trans (Ch.of_below hb))
            clear hb
            go_wp2_with fail
            go_ret
            exact ⟨⟨_, rfl⟩, G, HPE.out, HTL.out, HFIN.out, HPb7.out, HCb7.out⟩
      · have i3 : ¬ (c : Int) + 1 < (n : Int) := by omega
        have HEQ := Lib.hid (show n ≤ c + 1 ∧ c = 2 * q + 1 from ⟨by omega, hc⟩)
        clear hc
        have HOT := Lib.hid (show ∀ o, o < n → (o = 2 * q + 1 ∨ o = 2 * q + 2) → o ≠ c → ¬ klt len G[o]! G[c]! from fun o ho1 ho2 ho3 => by have := HEQ.out; omega)
        have hm9 := fun n' => meth_less n' B wr
        have HL9 := Lib.hid (pless_any HPW.out c q (by have := HGL.out; omega) (by have := HGL.out; omega))
        by_cases hk : klt len G[c]! G[q]!
        · rw [decide_eq_true hk] at HL9
          have HST := Lib.hid (show DnI len (swp G q c) c n from HDN.out.step (by have := HGL.out; omega) (by omega) (by omega) hk HOT.out)
          clear hk
          go_wp2_with fail
          refine HL9.out.mono ?_
          rintro y_ c8 ⟨rfl, hb⟩
          have HPc8 := Lib.hid (HPW.out.on hb); have HCc8 := Lib.hid (HCH.out.trans (Ch.of_below hb))
          clear hb
          have hm8 := fun n' => meth_swap n' B c8
          have HS8 := Lib.hid (pswap_any HPc8.out q c (by have := HGL.out; omega) (by have := HGL.out; omega))
          go_wp2_with fail
          refine HS8.out.mono ?_
          rintro y_ c9 ⟨rfl, hP9, hC9⟩
          have HPW9 := Lib.hid hP9; have HCH9 := Lib.hid (HCc8.out.trans hC9)
          have HPS := Lib.hid ((swp_perm (show q < G.length by have := HGL.out; omega) (show c < G.length by have := HGL.out; omega)).trans HPE.out)
          have HTS := Lib.hid (show ∀ m, n ≤ m → m < H.length → (swp G q c)[m]! = H[m]! from fun m h1 h2 => by
            rw [swp_get (by have := HGL.out; omega) (by have := HGL.out; omega) (by have := HPE.out.length_eq; omega), if_neg (by omega), if_neg (by omega)]
            exact HTL.out m h1 h2)
          clear hP9 hC9
          go_wp2_with fail
          go_roundw
          case rel => exact ⟨c, swp G q c, by first | rfl | (congr 1; omega), by omega, HPS.out, HTS.out, HST.out, HPW9.out, HCH9.out⟩
          case measure =>
            have hms : n - c < n - q := by omega
            first | exact hms | (simp [intOf]; omega)
        · rw [decide_eq_false hk] at HL9
          have HFIN := Lib.hid (show HP len G n from HDN.out.done (fun m hm hmm => by
              rcases Nat.lt_or_ge m n with _ | _
              · by_cases e : m = c
                · subst e; exact hk
                · exact nlt_trans (HOT.out m hm hmm e) hk
              · omega))
          clear hk
          go_wp2_with fail
          refine HL9.out.mono ?_
          rintro y_ c7 ⟨rfl, hb⟩
          have HPc7 := Lib.hid (HPW.out.on hb); have HCc7 := Lib.hid (HCH.out.trans (Ch.of_below hb))
          clear hb
          go_wp2_with fail
          go_ret
          exact ⟨⟨_, rfl⟩, G, HPE.out, HTL.out, HFIN.out, HPc7.out, HCc7.out⟩
end Go.Proofs.Ytbcccffjlkphpaa
