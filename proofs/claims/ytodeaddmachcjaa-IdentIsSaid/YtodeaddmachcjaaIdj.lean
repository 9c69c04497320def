/- The code of package ident (taking, Parse): what it returns. No conditions. -/
import Derived.Test.YtodeaddmachcjaaIdi
namespace Go.Proofs.Ytodeaddmachcjaa
open Go.RowKit Go.Shelf
theorem taking_any (s : ByteArray) (w : World) : Calls Try.prog 27 #[.string s] w fun x w' => ∃ Bs Ba, x = .returned (.func (.func 34) #[] #[.pointer (some ⟨Bs, 0, none⟩), .pointer (some ⟨Ba, 0, none⟩)]) ∧ w.heap.size ≤ Bs ∧ Bs < Ba ∧ Ba < w'.heap.size ∧ w'.cell? ⟨Bs, 0, none⟩ = some (.string s) ∧ w'.cell? ⟨Ba, 0, none⟩ = some (.int .i64 ((0 : Nat) : Int)) ∧ w'.frozen? ⟨Ba, 0, none⟩ = false ∧ Below w.heap.size w w' := by
  go_enter Try.func27, Try.ntmps27
  go_wp2_with (fail)
  go_ret
  refine ⟨w.heap.size, w.heap.size + 1, rfl, Nat.le_refl _, by omega, by simp, ?_, ?_, ?_, ((Below.refl _ w).alloc (Nat.le_refl _) _).alloc (by simp) _⟩
  · have hx : Below (w.heap.size + 1) (w.alloc (.cells #[.string s] 9)) ((w.alloc (.cells #[.string s] 9)).alloc (.cells #[.int .i64 0] 3)) := (Below.refl _ _).alloc (by simp) _
    exact (hx.cell (p := ⟨w.heap.size, 0, none⟩) (Nat.lt_succ_self _)).trans (by simp)
  · have h := (Boxed.new (w.alloc (.cells #[.string s] 9)) 3 (.int .i64 0)).cell
    rw [World.size_alloc] at h
    exact h
  · have h := (Boxed.new (w.alloc (.cells #[.string s] 9)) 3 (.int .i64 0)).frozen
    rw [World.size_alloc] at h
    exact h
set_option maxHeartbeats 2000000 in
theorem idparse_len (s : ByteArray) (e : Bool) (k : Nat) (hk : s.size = k) (hke : k = if e then 8 else 3) (w : World) : Calls Try.prog 11 #[.string s] w fun x w' => x = .returned (.tuple #[identV ((idParse (tx s)).getD (false, 0)).1 ((idParse (tx s)).getD (false, 0)).2, .bool (idParse (tx s)).isSome]) ∧ Below w.heap.size w w' := by
  have e3 : (((k : Nat) : Int) == 8) = e := by subst hke; cases e <;> rfl
  have hne : (((k : Nat) : Int) != (k : Int)) = false := by simp
  have HK := Lib.hid hke
  have HS := Lib.hid hk
  have HW := Lib.hid (fun u => width_any e u)
  rw [← hke] at HW
  clear hke
  go_enter Try.func11, Try.ntmps11
  rw [← hk] at e3 hne HW
  clear hk
  cases e
  · go_wp2_with (fail)
    refine (HW.out _).mono ?_
    rintro x w' ⟨rfl, rfl⟩
    go_wp2_with (fail)
    refine (taking_any s _).mono ?_
    rintro x w1 ⟨Bs, Ba, rfl, hBs, hlt, hAs, F2, F3, F4, hb⟩
    have F0 : Two w1 w.heap.size (.bool false) (.int .u32 0) := ((Two.new w (.bool false) (.int .u32 0) 24 rfl).more (by simp) _).keep hb (by simp; omega)
    have F1 : Two w1 (w.heap.size + 1) (.bool false) (.int .u32 0) := (Two.new (w.alloc (.cells #[.bool false, .int .u32 0] 24)) (.bool false) (.int .u32 0) 24 (by simp)).keep hb (by simp)
    have F5 : Below w.heap.size w w1 := below_trans' (((Below.refl _ w).alloc (Nat.le_refl _) (.cells #[.bool false, .int .u32 0] 24)).alloc (by simp) (.cells #[.bool false, .int .u32 0] 24)) hb
    have hBs' : w.heap.size + 2 ≤ Bs := by simp at hBs; omega
    clear hb hBs
    go_wp2_with (fail)
    go_loopw [23] (fun i wr => ∃ (j n : Nat), j ≤ k ∧ i = .int .i64 j ∧ unhexT ((tx s).take j) = some n ∧ Two wr w.heap.size (.bool false) (.int .u32 0) ∧ Two wr (w.heap.size + 1) (.bool false) (.int .u32 n) ∧ wr.cell? ⟨Bs, 0, none⟩ = some (.string s) ∧ wr.cell? ⟨Ba, 0, none⟩ = some (.int .i64 j) ∧ wr.frozen? ⟨Ba, 0, none⟩ = false ∧ Below w.heap.size w wr ∧ Ba < wr.heap.size) (fun i _ => k - (intOf i).toNat)
    case atStart => exact ⟨0, 0, Nat.zero_le _, rfl, rfl, F0, F1, F2, F3, F4, F5, hAs⟩
    case round =>
      clear F0 F1 F2 F3 F4 F5 hAs
      obtain ⟨j, n, hj, rfl, hun, hT0, hT1, hC2, hC3, hC4, hB, hz⟩ := hrel
      have HU := Lib.hid hun; have HT0 := Lib.hid hT0; have HT1 := Lib.hid hT1; have HB := Lib.hid hB
      have HC2 := Lib.hid hC2; have HC3 := Lib.hid hC3; have HC4 := Lib.hid hC4
      clear hun hB hC2 hC3 hC4
      obtain ⟨p0, p1, p2, p3⟩ := hT0
      obtain ⟨q0, q1, q2, q3⟩ := hT1
      by_cases hjk : j < k
      · have hjs : j < s.size := by rw [HS.out]; exact hjk
        have hl : (tx s).length = k := by rw [tx_length]; exact HS.out
        obtain ⟨c, hc⟩ : ∃ c, c = (tx s)[j]'(by rw [hl]; exact hjk) := ⟨_, rfl⟩
        have htk : (tx s).take (j + 1) = (tx s).take j ++ [c] := by rw [hc]; exact List.take_succ_eq_append_getElem _
        have i2 : (j : Int) < (s.size : Int) := by omega
        have hst := unhexT_snoc ((tx s).take j) c
        rw [← htk, HU.out] at hst
        have hsc : (s[j]'hjs).toNat = c := by rw [hc]; exact tx_at s j hjs
        have hj7 : j ≤ 7 := by have := HK.out; simp at this; omega
        have HD := Lib.hid (taking1_any s j hjs (by omega) c hsc Bs Ba wr hz HC2.out HC3.out HC4.out)
        obtain ⟨d, hd⟩ : ∃ d, d = unhex c := ⟨_, rfl⟩
        rw [← hd] at hst HD
        have hn := (hexT_unhexT j ((tx s).take j) n (by rw [List.length_take, hl]; omega) HU.out).2
        have hn7 : n < 268435456 := Nat.lt_of_lt_of_le hn (Nat.le_trans (Nat.pow_le_pow_right (by decide) hj7) (by decide))
        have HDU := Lib.hid hd
        have HL := Lib.hid hl
        have HTK := Lib.hid htk
        clear hc htk hl hd hsc hn
        by_cases h16 : d = 16
        · have hst : unhexT ((tx s).take (j + 1)) = none := by rw [hst, h16]; rfl
          have HNO := Lib.hid (idParse_none (l := tx s) (j := j + 1) hst)
          rw [h16] at HD
          rw [if_pos rfl, decide_eq_false (by simp)] at HD
          clear hst h16
          go_wp2_with fail
          refine HD.out.mono ?_
          rintro x w2 ⟨rfl, g1, g2, hb⟩
          obtain ⟨p0, p1, p2, p3⟩ := HT0.out.keepAt hb (by omega)
          obtain ⟨q0, q1, q2, q3⟩ := HT1.out.keepAt hb (by omega)
          have HB2 := Lib.hid (HB.out.trans (hb.mono (by omega)))
          clear hb g1 g2
          go_wp2_with fail
          rw [HNO.out]
          obtain ⟨r0, r1, _, _⟩ := Two.put ⟨p0, p1, p2, p3⟩ (.bool false) (.int .u32 0)
          exact bodyPost_ret (v := .tuple #[.agg #[(.bool false), (.int .u32 0)], .bool false]) (by simp [results, Try.results11, go_sem, r0, r1]) rfl ⟨rfl, below_two2 HB2.out (Nat.le_refl _) _ _⟩
        · have hst : unhexT ((tx s).take (j + 1)) = some (n * 16 + d) := by rw [hst, Option.bind_some, if_neg h16]
          have hd16 : d < 16 := by rw [HDU.out] at h16 ⊢; exact (hexD_unhex c h16).2
          rw [if_neg h16, decide_eq_true h16] at HD
          have v1 : IntKind.u32.wrap ((n : Int) * 16) = ((n * 16 : Nat) : Int) := by rw [IntKind.wrap_u32]; omega
          have v2 : bits .or .u32 ((n * 16 : Nat) : Int) (d : Int) = ((n * 16 + d : Nat) : Int) := by
            rw [u32_or_nat _ _ (by omega) (by omega), Nat.mul_comm, show (16 : Nat) = 2 ^ 4 from rfl, ← Nat.two_pow_add_eq_or_of_lt hd16]
          obtain ⟨n16, hn16⟩ : ∃ n16, n16 = n * 16 := ⟨_, rfl⟩
          rw [← hn16] at v1 v2 hst
          obtain ⟨m, hm⟩ : ∃ m, m = n16 + d := ⟨_, rfl⟩
          rw [← hm] at v2 hst
          have HST := Lib.hid (show unhexT ((tx s).take (j + 1)) = some m from hst)
          clear hst h16 hn16 hm
          go_wp2_with fail
          refine HD.out.mono ?_
          rintro x w2 ⟨rfl, g1, g2, hb⟩
          have HG1 := Lib.hid g1; have HG2 := Lib.hid g2
          have HG0 := Lib.hid ((hb.cell (p := ⟨Bs, 0, none⟩) hlt).trans HC2.out)
          have HT0' := Lib.hid (HT0.out.keepAt hb (by omega))
          have HT1' := Lib.hid (HT1.out.keepAt hb (by omega))
          obtain ⟨p0, p1, p2, p3⟩ := HT0'.out
          obtain ⟨q0, q1, q2, q3⟩ := HT1'.out
          have HZ2 := Lib.hid (Nat.lt_of_lt_of_le hz hb.size)
          have HB2 := Lib.hid (HB.out.trans (hb.mono (by omega)))
          clear hb g1 g2
          go_wp2_with fail
          go_roundw
          case rel =>
            have hsz : ∀ b o, b ≠ w.heap.size + 1 → (w2.setCell ⟨w.heap.size + 1, 1, none⟩ (.int .u32 (m : Int))).cell? ⟨b, o, none⟩ = w2.cell? ⟨b, o, none⟩ := fun b o hne => World.cell?_setCell_other _ _ _ _ (by intro h; injection h with h1; omega)
            refine ⟨j + 1, m, by omega, by simp, HST.out, HT0'.out.lowOther (by omega) _, HT1'.out.low _, (hsz _ _ (by omega)).trans HG0.out, (hsz _ _ (by omega)).trans HG1.out, by rw [World.frozen?_setCell]; exact HG2.out, HB2.out.setCell (p := ⟨w.heap.size + 1, 1, none⟩) (Nat.le_succ _) _, by rw [setCell_size2]; exact HZ2.out⟩
          case measure => simp [intOf]; omega
      · have hjk : j = k := by omega
        subst hjk
        have i3 : ¬ ((j : Int) < (s.size : Int)) := by rw [HS.out]; omega
        have hl : (tx s).length = j := by rw [tx_length]; exact HS.out
        have hun : unhexT (tx s) = some n := by have := HU.out; rwa [List.take_of_length_le (by omega)] at this
        have hp := idParse_len (l := tx s) (n := n) false (hl.trans HK.out) hun
        have HP := Lib.hid hp
        have HR := Lib.hid (fun u => right5_any false n u)
        clear hun hp hl
        obtain ⟨b, hb⟩ : ∃ b, b = rightI false n := ⟨_, rfl⟩
        rw [← hb] at HR HP
        clear hb
        unfold identV at HR
        cases b
        · go_wp2_with fail
          refine (HR.out _).mono ?_
          rintro x w2 ⟨rfl, hb⟩
          obtain ⟨p0, p1, p2, p3⟩ := HT0.out.keep hb (by omega)
          obtain ⟨q0, q1, q2, q3⟩ := HT1.out.keep hb (by omega)
          have HB2 := Lib.hid (HB.out.trans (hb.mono (by omega)))
          clear hb
          go_wp2_with fail
          rw [HP.out]
          obtain ⟨r0, r1, _, _⟩ := Two.put ⟨p0, p1, p2, p3⟩ (.bool false) (.int .u32 0)
          exact bodyPost_ret (v := .tuple #[.agg #[(.bool false), (.int .u32 0)], .bool false]) (by simp [results, Try.results11, go_sem, r0, r1]) rfl ⟨rfl, below_two2 HB2.out (Nat.le_refl _) _ _⟩
        · go_wp2_with fail
          refine (HR.out _).mono ?_
          rintro x w2 ⟨rfl, hb⟩
          obtain ⟨p0, p1, p2, p3⟩ := HT0.out.keep hb (by omega)
          obtain ⟨q0, q1, q2, q3⟩ := HT1.out.keep hb (by omega)
          have HB2 := Lib.hid (HB.out.trans (hb.mono (by omega)))
          clear hb
          go_wp2_with fail
          rw [HP.out]
          obtain ⟨r0, r1, _, _⟩ := Two.put ⟨p0, p1, p2, p3⟩ (.bool false) (.int .u32 (n : Int))
          exact bodyPost_ret (v := .tuple #[.agg #[(.bool false), (.int .u32 (n : Int))], .bool true]) (by simp [results, Try.results11, go_sem, r0, r1]) rfl ⟨rfl, below_two2 HB2.out (Nat.le_refl _) _ _⟩
  · go_wp2_with (fail)
    refine (HW.out _).mono ?_
    rintro x w' ⟨rfl, rfl⟩
    go_wp2_with (fail)
    refine (taking_any s _).mono ?_
    rintro x w1 ⟨Bs, Ba, rfl, hBs, hlt, hAs, F2, F3, F4, hb⟩
    have F0 : Two w1 w.heap.size (.bool false) (.int .u32 0) := ((Two.new w (.bool false) (.int .u32 0) 24 rfl).more (by simp) _).keep hb (by simp; omega)
    have F1 : Two w1 (w.heap.size + 1) (.bool true) (.int .u32 0) := (Two.new (w.alloc (.cells #[.bool false, .int .u32 0] 24)) (.bool true) (.int .u32 0) 24 (by simp)).keep hb (by simp)
    have F5 : Below w.heap.size w w1 := below_trans' (((Below.refl _ w).alloc (Nat.le_refl _) (.cells #[.bool false, .int .u32 0] 24)).alloc (by simp) (.cells #[.bool true, .int .u32 0] 24)) hb
    have hBs' : w.heap.size + 2 ≤ Bs := by simp at hBs; omega
    clear hb hBs
    go_wp2_with (fail)
    go_loopw [23] (fun i wr => ∃ (j n : Nat), j ≤ k ∧ i = .int .i64 j ∧ unhexT ((tx s).take j) = some n ∧ Two wr w.heap.size (.bool false) (.int .u32 0) ∧ Two wr (w.heap.size + 1) (.bool true) (.int .u32 n) ∧ wr.cell? ⟨Bs, 0, none⟩ = some (.string s) ∧ wr.cell? ⟨Ba, 0, none⟩ = some (.int .i64 j) ∧ wr.frozen? ⟨Ba, 0, none⟩ = false ∧ Below w.heap.size w wr ∧ Ba < wr.heap.size) (fun i _ => k - (intOf i).toNat)
    case atStart => exact ⟨0, 0, Nat.zero_le _, rfl, rfl, F0, F1, F2, F3, F4, F5, hAs⟩
    case round =>
      clear F0 F1 F2 F3 F4 F5 hAs
      obtain ⟨j, n, hj, rfl, hun, hT0, hT1, hC2, hC3, hC4, hB, hz⟩ := hrel
      have HU := Lib.hid hun; have HT0 := Lib.hid hT0; have HT1 := Lib.hid hT1; have HB := Lib.hid hB
      have HC2 := Lib.hid hC2; have HC3 := Lib.hid hC3; have HC4 := Lib.hid hC4
      clear hun hB hC2 hC3 hC4
      obtain ⟨p0, p1, p2, p3⟩ := hT0
      obtain ⟨q0, q1, q2, q3⟩ := hT1
      by_cases hjk : j < k
      · have hjs : j < s.size := by rw [HS.out]; exact hjk
        have hl : (tx s).length = k := by rw [tx_length]; exact HS.out
        obtain ⟨c, hc⟩ : ∃ c, c = (tx s)[j]'(by rw [hl]; exact hjk) := ⟨_, rfl⟩
        have htk : (tx s).take (j + 1) = (tx s).take j ++ [c] := by rw [hc]; exact List.take_succ_eq_append_getElem _
        have i2 : (j : Int) < (s.size : Int) := by omega
        have hst := unhexT_snoc ((tx s).take j) c
        rw [← htk, HU.out] at hst
        have hsc : (s[j]'hjs).toNat = c := by rw [hc]; exact tx_at s j hjs
        have hj7 : j ≤ 7 := by have := HK.out; simp at this; omega
        have HD := Lib.hid (taking1_any s j hjs (by omega) c hsc Bs Ba wr hz HC2.out HC3.out HC4.out)
        obtain ⟨d, hd⟩ : ∃ d, d = unhex c := ⟨_, rfl⟩
        rw [← hd] at hst HD
        have hn := (hexT_unhexT j ((tx s).take j) n (by rw [List.length_take, hl]; omega) HU.out).2
        have hn7 : n < 268435456 := Nat.lt_of_lt_of_le hn (Nat.le_trans (Nat.pow_le_pow_right (by decide) hj7) (by decide))
        have HDU := Lib.hid hd
        have HL := Lib.hid hl
        have HTK := Lib.hid htk
        clear hc htk hl hd hsc hn
        by_cases h16 : d = 16
        · have hst : unhexT ((tx s).take (j + 1)) = none := by rw [hst, h16]; rfl
          have HNO := Lib.hid (idParse_none (l := tx s) (j := j + 1) hst)
          rw [h16] at HD
          rw [if_pos rfl, decide_eq_false (by simp)] at HD
          clear hst h16
          go_wp2_with fail
          refine HD.out.mono ?_
          rintro x w2 ⟨rfl, g1, g2, hb⟩
          obtain ⟨p0, p1, p2, p3⟩ := HT0.out.keepAt hb (by omega)
          obtain ⟨q0, q1, q2, q3⟩ := HT1.out.keepAt hb (by omega)
          have HB2 := Lib.hid (HB.out.trans (hb.mono (by omega)))
          clear hb g1 g2
          go_wp2_with fail
          rw [HNO.out]
          obtain ⟨r0, r1, _, _⟩ := Two.put ⟨p0, p1, p2, p3⟩ (.bool false) (.int .u32 0)
          exact bodyPost_ret (v := .tuple #[.agg #[(.bool false), (.int .u32 0)], .bool false]) (by simp [results, Try.results11, go_sem, r0, r1]) rfl ⟨rfl, below_two2 HB2.out (Nat.le_refl _) _ _⟩
        · have hst : unhexT ((tx s).take (j + 1)) = some (n * 16 + d) := by rw [hst, Option.bind_some, if_neg h16]
          have hd16 : d < 16 := by rw [HDU.out] at h16 ⊢; exact (hexD_unhex c h16).2
          rw [if_neg h16, decide_eq_true h16] at HD
          have v1 : IntKind.u32.wrap ((n : Int) * 16) = ((n * 16 : Nat) : Int) := by rw [IntKind.wrap_u32]; omega
          have v2 : bits .or .u32 ((n * 16 : Nat) : Int) (d : Int) = ((n * 16 + d : Nat) : Int) := by
            rw [u32_or_nat _ _ (by omega) (by omega), Nat.mul_comm, show (16 : Nat) = 2 ^ 4 from rfl, ← Nat.two_pow_add_eq_or_of_lt hd16]
          obtain ⟨n16, hn16⟩ : ∃ n16, n16 = n * 16 := ⟨_, rfl⟩
          rw [← hn16] at v1 v2 hst
          obtain ⟨m, hm⟩ : ∃ m, m = n16 + d := ⟨_, rfl⟩
          rw [← hm] at v2 hst
          have HST := Lib.hid (show unhexT ((tx s).take (j + 1)) = some m from hst)
          clear hst h16 hn16 hm
          go_wp2_with fail
          refine HD.out.mono ?_
          rintro x w2 ⟨rfl, g1, g2, hb⟩
          have HG1 := Lib.hid g1; have HG2 := Lib.hid g2
          have HG0 := Lib.hid ((hb.cell (p := ⟨Bs, 0, none⟩) hlt).trans HC2.out)
          have HT0' := Lib.hid (HT0.out.keepAt hb (by omega))
          have HT1' := Lib.hid (HT1.out.keepAt hb (by omega))
          obtain ⟨p0, p1, p2, p3⟩ := HT0'.out
          obtain ⟨q0, q1, q2, q3⟩ := HT1'.out
          have HZ2 := Lib.hid (Nat.lt_of_lt_of_le hz hb.size)
          have HB2 := Lib.hid (HB.out.trans (hb.mono (by omega)))
          clear hb g1 g2
          go_wp2_with fail
          go_roundw
          case rel =>
            have hsz : ∀ b o, b ≠ w.heap.size + 1 → (w2.setCell ⟨w.heap.size + 1, 1, none⟩ (.int .u32 (m : Int))).cell? ⟨b, o, none⟩ = w2.cell? ⟨b, o, none⟩ := fun b o hne => World.cell?_setCell_other _ _ _ _ (by intro h; injection h with h1; omega)
            refine ⟨j + 1, m, by omega, by simp, HST.out, HT0'.out.lowOther (by omega) _, HT1'.out.low _, (hsz _ _ (by omega)).trans HG0.out, (hsz _ _ (by omega)).trans HG1.out, by rw [World.frozen?_setCell]; exact HG2.out, HB2.out.setCell (p := ⟨w.heap.size + 1, 1, none⟩) (Nat.le_succ _) _, by rw [setCell_size2]; exact HZ2.out⟩
          case measure => simp [intOf]; omega
      · have hjk : j = k := by omega
        subst hjk
        have i3 : ¬ ((j : Int) < (s.size : Int)) := by rw [HS.out]; omega
        have hl : (tx s).length = j := by rw [tx_length]; exact HS.out
        have hun : unhexT (tx s) = some n := by have := HU.out; rwa [List.take_of_length_le (by omega)] at this
        have hp := idParse_len (l := tx s) (n := n) true (hl.trans HK.out) hun
        have HP := Lib.hid hp
        have HR := Lib.hid (fun u => right5_any true n u)
        clear hun hp hl
        obtain ⟨b, hb⟩ : ∃ b, b = rightI true n := ⟨_, rfl⟩
        rw [← hb] at HR HP
        clear hb
        unfold identV at HR
        cases b
        · go_wp2_with fail
          refine (HR.out _).mono ?_
          rintro x w2 ⟨rfl, hb⟩
          obtain ⟨p0, p1, p2, p3⟩ := HT0.out.keep hb (by omega)
          obtain ⟨q0, q1, q2, q3⟩ := HT1.out.keep hb (by omega)
          have HB2 := Lib.hid (HB.out.trans (hb.mono (by omega)))
          clear hb
          go_wp2_with fail
          rw [HP.out]
          obtain ⟨r0, r1, _, _⟩ := Two.put ⟨p0, p1, p2, p3⟩ (.bool false) (.int .u32 0)
          exact bodyPost_ret (v := .tuple #[.agg #[(.bool false), (.int .u32 0)], .bool false]) (by simp [results, Try.results11, go_sem, r0, r1]) rfl ⟨rfl, below_two2 HB2.out (Nat.le_refl _) _ _⟩
        · go_wp2_with fail
          refine (HR.out _).mono ?_
          rintro x w2 ⟨rfl, hb⟩
          obtain ⟨p0, p1, p2, p3⟩ := HT0.out.keep hb (by omega)
          obtain ⟨q0, q1, q2, q3⟩ := HT1.out.keep hb (by omega)
          have HB2 := Lib.hid (HB.out.trans (hb.mono (by omega)))
          clear hb
          go_wp2_with fail
          rw [HP.out]
          obtain ⟨r0, r1, _, _⟩ := Two.put ⟨p0, p1, p2, p3⟩ (.bool true) (.int .u32 (n : Int))
          exact bodyPost_ret (v := .tuple #[.agg #[(.bool true), (.int .u32 (n : Int))], .bool true]) (by simp [results, Try.results11, go_sem, r0, r1]) rfl ⟨rfl, below_two2 HB2.out (Nat.le_refl _) _ _⟩
set_option maxHeartbeats 400000 in
theorem idparse_any (s : ByteArray) (w : World) : Calls Try.prog 11 #[.string s] w fun x w' => x = .returned (.tuple #[identV ((idParse (tx s)).getD (false, 0)).1 ((idParse (tx s)).getD (false, 0)).2, .bool (idParse (tx s)).isSome]) ∧ Below w.heap.size w w' := by
  by_cases h3 : s.size = 3
  · exact idparse_len s false 3 h3 rfl w
  · by_cases h8 : s.size = 8
    · exact idparse_len s true 8 h8 rfl w
    · rw [idParse_short (by rw [tx_length]; exact h3) (by rw [tx_length]; exact h8)]
      have e3 : ((s.size : Int) == 8) = false := by rw [beq_eq_false_iff_ne]; omega
      have e4 : ((s.size : Int) != 3) = true := by rw [bne_iff_ne]; omega
      have HW := Lib.hid (show ∀ u, Calls Try.prog 26 #[.bool false] u fun x w' => x = .returned (.int .i64 3) ∧ u = w' from fun u => width_any false u)
      go_enter Try.func11, Try.ntmps11
      go_wp2_with (fail)
      refine (HW.out _).mono ?_
      rintro x w' ⟨rfl, rfl⟩
      go_wp2_with (fail)
      exact bodyPost_ret (v := .tuple #[.agg #[.bool false, .int .u32 0], .bool false]) (by simp [results, Try.results11, go_sem]) rfl ⟨rfl, ((Below.refl _ w).alloc (Nat.le_refl _) _).alloc (by simp) _⟩
end Go.Proofs.Ytodeaddmachcjaa
