/- The statement of P3.6 (CrcOdd): if an odd number of bits are other ones, it is told. Conditions: the divisor's cells hold what the program's own text lays in them (tied). -/
import Derived.Test.YtdnonahpoklbfaaDoorRows
import Derived.Test.YtdnonahpoklbfaaDoorCrx
import Derived.Test.YtdnonahpoklbfaaDoorCrt
import Derived.WalkKit
import Derived.ProofKit
import Derived.OpenShut
import Derived.ShutString
import Derived.ChangeOld
import Derived.Below
namespace Go.Proofs.YtdnonahpoklbfaaDoor.crcOdd
open Go.ChangeShapes Go.WideShapes Go.ChangeAt Go.RowKit
theorem own : ownKnob Tryd.prog.godebug = none := by kernel_rfl
theorem laidOut : laidOutB Tryd.prog = true := by kernel_rfl
/-- What a slice of numbers of 16 bits holds. -/
def Row16 (w : World) (a : Option Addr) (len cap : Nat) (zs : List Int) : Prop :=
  (a = none ∧ len = 0 ∧ cap = 0 ∧ zs = []) ∨
  ∃ x, a = some x ∧ len ≤ cap ∧ cap ≤ maxLen ∧ zs.length = cap ∧ (∀ i, i < zs.length → w.cell? (x.add i) = some (.int .u16 (zs.getD i 0))) ∧ ∀ n ∈ zs, (Lit.int .u16 n).wf = true
theorem wfu16 {a : Int} (h : (Lit.int .u16 a).wf = true) : 0 ≤ a ∧ a ≤ 65535 := by
  simp [Lit.wf, IntKind.min, IntKind.max, IntKind.bits, IntKind.signed] at h
  omega
theorem row16_at {w : World} {a : Option Addr} {len cap : Nat} {zs : List Int} (h : Row16 w a len cap zs) : (len = 0 ∨ ∃ b off, a = some ⟨b, off, none⟩ ∧ ∀ i, i < len → ∃ n : Nat, n < 65536 ∧ ∀ X, Below w.heap.size w X → X.cell? ⟨b, off + i, none⟩ = some (.int .u16 (n : Int))) ∧ len ≤ cap ∧ cap ≤ maxLen := by
  rcases h with ⟨_, rfl, rfl, _⟩ | ⟨x, rfl, hl, hm, hz, hc, hwf⟩
  · exact ⟨.inl rfl, Nat.le_refl _, by unfold maxLen; omega⟩
  · refine ⟨?_, hl, hm⟩
    by_cases h0 : len = 0
    · exact .inl h0
    · obtain ⟨b, off, spot⟩ := x
      have hc0 := hc 0 (by omega)
      have hspot : spot = none := by simpa [Addr.add] using World.cell?_spot hc0
      subst hspot
      have hbl : b < w.heap.size := by have := cell_lt hc0; simpa [Addr.add] using this
      refine .inr ⟨b, off, rfl, fun i hi => ?_⟩
      have hci := hc i (by omega)
      have hmem : zs.getD i 0 ∈ zs := by
        rw [List.getD_eq_getElem?_getD, List.getElem?_eq_getElem (by omega), Option.getD_some]
        exact List.getElem_mem _
      have hw := wfu16 (hwf _ hmem)
      refine ⟨(zs.getD i 0).toNat, by omega, fun X hX => ?_⟩
      rw [Int.toNat_of_nonneg hw.1]
      rw [add_off] at hci
      exact (hX.cell (p := ⟨b, off + i, none⟩) hbl).trans hci
theorem diffN_le (T S : List Nat) (k : Nat) : diffN T S k ≤ k := by
  unfold diffN
  exact Nat.le_trans (List.length_filter_le _ _) (by simp)
set_option maxHeartbeats 2000000 in
theorem walk (a0 : Option Addr) (len0 cap0 : Nat) (z0 : List Int) (a1 : Option Addr) (len1 cap1 : Nat) (z1 : List Int) (w : World) (w0 : IsRow w a0 len0 cap0 z0) (w1 : Row16 w a1 len1 cap1 z1) (h0 : 0 < w.heap.size) (hT : Tab w) :
    Calls Tryd.prog 7 #[.slice a0 len0 cap0, .slice a1 len1 cap1] w fun e w' => e = .returned (.bool true) ∧ Below w.heap.size w w' := by
  obtain ⟨bs0, _, hI⟩ := isRow_str w0
  obtain ⟨hrow, hl1, hl2⟩ := row16_at w1
  have hl3 : len1 ≤ 9223372036854775807 := by unfold maxLen at hl2; omega
  have HROW := Lib.hid hrow
  clear w0 w1 hrow hl2
  have HT := Lib.hid hT
  have CF := Lib.hid (few3_any a0 len0 cap0 bs0 w hI)
  obtain ⟨xs, hxs⟩ : ∃ xs, xs = bs0.take 200 := ⟨_, rfl⟩
  rw [← hxs] at CF
  have hxl : xs.length ≤ 200 := by rw [hxs, List.length_take]; omega
  clear hxs hI hT
  obtain ⟨S, hS⟩ : ∃ S, S = bitsOf xs ++ ofB (crcOf (bitsOf xs) 0) 15 := ⟨_, rfl⟩
  have hSl : S.length = xs.length + 15 := by rw [hS, List.length_append, bitsOf_length, ofB_length]
  have hS1 : ∀ x ∈ S, x ≤ 1 := by rw [hS]; exact sealB_le _ _ (bitsOf_le xs)
  have hS0 : crcOf S 0 = 0 := by rw [hS]; exact sealB_zero _
  have hSm : S.length ≤ 300 := by omega
  have hS15 : 15 ≤ S.length := by omega
  have hpos : (S.length : Int) ≠ 0 := by omega
  have HS := Lib.hid hS; have HS1 := Lib.hid hS1; have HS0 := Lib.hid hS0
  clear hS hS1 hS0 hSl
  go_enter Tryd.func7, Tryd.ntmps7
  go_wp2_with (fail)
  refine CF.out.mono ?_
  rintro e w1 ⟨⟨a', len', cap', rfl, hI⟩, rfl⟩
  obtain rfl := hI.len
  have I0 := Lib.hid hI
  clear hI CF
  go_wp2_with (fail)
  refine (refSeal_any _ _ _ xs (by omega) _ I0.out).mono ?_
  rintro e w2 ⟨v, rfl, ho, hb⟩
  rw [← HS.out] at ho
  obtain ⟨a2, c2, rfl⟩ := ho.shape
  obtain ⟨g, cg, hv, hgB, _, _, hgl, _⟩ := ho.write (k := 0) (by omega)
  obtain ⟨rfl, _, rfl⟩ := Value.slice.inj hv
  have O2 := Lib.hid ho
  have B2 := Lib.hid hb
  clear ho hb I0 HS hv
  go_wp2_with (fail)
  refine (refClean_any _ _ _ S (by omega) _ O2.out.str).mono ?_
  rintro e w3 ⟨v, rfl, ho, hb⟩
  rw [bits_self _ HS1.out] at ho
  obtain ⟨a3, c3, rfl⟩ := ho.shape
  obtain ⟨gw, cw, hv, _, _, _, _, _⟩ := ho.write (k := 0) (by omega)
  obtain ⟨rfl, _, rfl⟩ := Value.slice.inj hv
  have Q3 := Lib.hid ho
  have O3 := Lib.hid (O2.out.on hb)
  have B3 := Lib.hid (below_trans' B2.out hb)
  clear ho hb O2 B2 hv
  go_wp2_with (fail)
  go_loopw [7] (fun i wr => ∃ (j : Nat) (T : List Nat), i = .int .i64 j ∧ j ≤ 100 ∧ T.length = S.length ∧ (∀ x ∈ T, x ≤ 1) ∧ Ow w.heap.size wr (.slice (some ⟨g, 0, none⟩) S.length c2) T ∧ Ow w2.heap.size wr (.slice (some ⟨gw, 0, none⟩) S.length c3) S ∧ Below w.heap.size w wr) (fun i _ => 100 - (intOf i).toNat)
  case atStart => exact ⟨0, S, rfl, Nat.zero_le _, rfl, HS1.out, O3.out, Q3.out, B3.out⟩
  case round =>
    clear O3 Q3 B3
    obtain ⟨j, T, rfl, hj, htl, ht1, hown, hwas, hnx⟩ := hrel
    have HTL := Lib.hid htl; have HT1 := Lib.hid ht1
    clear htl ht1
    by_cases hl : j < len1
    · by_cases hj100 : j < 100
      · obtain h00 | ⟨b, off, rfl, hcells⟩ := HROW.out
        · omega
        · obtain ⟨n, hn, hcn⟩ := hcells j hl
          have hcell := hcn wr hnx
          obtain ⟨kk, hkk⟩ : ∃ kk, kk = n % S.length := ⟨_, rfl⟩
          have hkl : kk < S.length := by rw [hkk]; exact Nat.mod_lt _ (by omega)
          have hrem : (n : Int) % (S.length : Int) = (kk : Int) := by rw [hkk]; omega
          obtain ⟨g', cg', hv, _, _, _, hgl', hc, hf, hset⟩ := hown.write (k := kk) (by rw [HTL.out]; exact hkl)
          have hg1 := (Value.slice.inj hv).1
          have hg2 : g = g' := by simpa using hg1
          subst hg2
          obtain ⟨t, ht⟩ : ∃ t, t = T[kk]?.getD 0 := ⟨_, rfl⟩
          rw [← ht] at hc
          have ht1 : t ≤ 1 := by rw [ht]; exact getD_bit HT1.out _
          have ew : IntKind.u8.wrap (1 - (t : Int)) = ((1 - t : Nat) : Int) := by rw [IntKind.wrap_u8]; omega
          have HSET := Lib.hid (hset (1 - t)); have HWAS := Lib.hid hwas; have HN := Lib.hid hnx
          clear hset hwas hnx hv hg1 ht hkk hcells hcn hown
          go_wp2_with (fail)
          go_roundw
          case rel => exact ⟨j + 1, T.set kk (1 - t), by simp, by omega, by rw [List.length_set]; exact HTL.out, fun x hx => by
            rcases List.mem_or_eq_of_mem_set hx with h | h
            · exact HT1.out x h
            · omega, HSET.out, HWAS.out.other hgl, HN.out.setCell (p := ⟨g, kk, none⟩) hgB _⟩
          case measure => simp [intOf]; omega
      · obtain rfl : j = 100 := by omega
        have HW := Lib.hid hnx
        have HO := Lib.hid hown
        have HQ := Lib.hid hwas
        clear hnx hown hwas
        go_wp2_with (fail)
        go_loopw [9, 10] (fun n i wy => ∃ p : Nat, p ≤ S.length ∧ i = .int .i64 p ∧ n = .int .i64 (diffN T S p : Nat) ∧ Below wr.heap.size wr wy) (fun _ i _ => S.length - (intOf i).toNat)
        case atStart => exact ⟨0, Nat.zero_le _, rfl, rfl, Below.refl _ _⟩
        case round =>
          obtain ⟨p, hp, rfl, rfl, hny⟩ := hrel
          have HN := Lib.hid hny
          clear hny
          by_cases hlt : p < S.length
          · obtain ⟨g', cg', hv, _, _, _, _, hc, _⟩ := (HO.out.on HN.out).write (k := p) (by rw [HTL.out]; exact hlt)
            have hg1 := (Value.slice.inj hv).1
            have hg2 : g = g' := by simpa using hg1
            subst hg2
            obtain ⟨g'', cg'', hv2, _, _, _, _, hc2, _⟩ := (HQ.out.on HN.out).write (k := p) hlt
            have hg3 := (Value.slice.inj hv2).1
            have hg4 : gw = g'' := by simpa using hg3
            subst hg4
            obtain ⟨t, ht⟩ : ∃ t, t = T[p]?.getD 0 := ⟨_, rfl⟩
            obtain ⟨s, hs⟩ : ∃ s, s = S[p]?.getD 0 := ⟨_, rfl⟩
            rw [← ht] at hc
            rw [← hs] at hc2
            have hd := diffN_succ T S p
            rw [← ht, ← hs] at hd
            obtain ⟨d, hdd⟩ : ∃ d, d = diffN T S p := ⟨_, rfl⟩
            rw [← hdd] at hd ⊢
            have hdl : d ≤ S.length := by rw [hdd]; exact Nat.le_trans (diffN_le T S p) hp
            have HD := Lib.hid hd
            clear hv hv2 hg1 hg3 ht hs hd hdd
            by_cases hts : t = s
            · have heq : ((t : Int) != (s : Int)) = false := by rw [hts]; simp
              have HTS := Lib.hid hts
              clear hts
              go_wp2_with (fail)
              go_quiet (fail)
              go_wp2_with (fail)
              go_roundw
              case rel => exact ⟨p + 1, by omega, by simp, by rw [HD.out, if_pos HTS.out, Nat.add_zero], below_drewN' HN.out _⟩
              case measure => simp [intOf]; omega
            · have heq : ((t : Int) != (s : Int)) = true := by simp; omega
              have HTS := Lib.hid hts
              clear hts
              go_wp2_with (fail)
              go_quiet (fail)
              go_wp2_with (fail)
              go_roundw
              case rel => exact ⟨p + 1, by omega, by simp, by rw [HD.out, if_neg HTS.out]; simp, below_drewN' HN.out _⟩
              case measure => simp [intOf]; omega
          · obtain rfl : p = S.length := by omega
            have T0 := Lib.hid (HO.out.on HN.out).str
            have B0 := Lib.hid (below_trans' HW.out HN.out)
            obtain ⟨d, hdd⟩ : ∃ d, d = diffN T S S.length := ⟨_, rfl⟩
            rw [← hdd]
            have HDD := Lib.hid hdd
            clear hdd HO HQ HN HW
            go_wp2_with (fail)
            refine (live3 _ (Nat.lt_of_lt_of_le h0 B0.out.size) (HT.out.onB B0.out h0)).mono ?_
            rintro e w5 ⟨rfl, hb⟩
            have T5 := Lib.hid (T0.out.on hb)
            have B5 := Lib.hid (below_trans' B0.out hb)
            clear hb T0 B0
            by_cases hd2 : d % 2 = 0
            · have hq : ((d : Int) % 2 == 0) = true := by simp; omega
              go_wp2_with (fail)
              go_ret
              exact ⟨rfl, B5.out⟩
            · have hq : ((d : Int) % 2 == 0) = false := by simp; omega
              have hodd : diffN T S S.length % 2 = 1 := by rw [← HDD.out]; omega
              have hno := odd_told HT1.out HS1.out HTL.out HS0.out hodd
              have hwh : wholeB T = false := by rw [wholeB_eq T (by rw [HTL.out]; omega), bits_self _ HT1.out]; exact decide_eq_false hno
              have HWH := Lib.hid hwh
              clear hodd hno hwh
              go_wp2_with (fail)
              refine (whole_any _ _ _ T (by rw [HTL.out]; omega) _ (Nat.lt_of_lt_of_le h0 B5.out.size) (HT.out.onB B5.out h0) T5.out).mono ?_
              rintro e w6 ⟨he, hb⟩
              rw [HWH.out] at he
              subst he
              have B6 := Lib.hid (below_trans' B5.out hb)
              clear hb T5 B5
              go_wp2_with (fail)
              go_ret
              exact ⟨rfl, B6.out⟩
    · by_cases hj100 : j < 100
      · clear hj100
        have HW := Lib.hid hnx
        have HO := Lib.hid hown
        have HQ := Lib.hid hwas
        clear hnx hown hwas
        go_wp2_with (fail)
        go_loopw [9, 10] (fun n i wy => ∃ p : Nat, p ≤ S.length ∧ i = .int .i64 p ∧ n = .int .i64 (diffN T S p : Nat) ∧ Below wr.heap.size wr wy) (fun _ i _ => S.length - (intOf i).toNat)
        case atStart => exact ⟨0, Nat.zero_le _, rfl, rfl, Below.refl _ _⟩
        case round =>
          obtain ⟨p, hp, rfl, rfl, hny⟩ := hrel
          have HN := Lib.hid hny
          clear hny
          by_cases hlt : p < S.length
          · obtain ⟨g', cg', hv, _, _, _, _, hc, _⟩ := (HO.out.on HN.out).write (k := p) (by rw [HTL.out]; exact hlt)
            have hg1 := (Value.slice.inj hv).1
            have hg2 : g = g' := by simpa using hg1
            subst hg2
            obtain ⟨g'', cg'', hv2, _, _, _, _, hc2, _⟩ := (HQ.out.on HN.out).write (k := p) hlt
            have hg3 := (Value.slice.inj hv2).1
            have hg4 : gw = g'' := by simpa using hg3
            subst hg4
            obtain ⟨t, ht⟩ : ∃ t, t = T[p]?.getD 0 := ⟨_, rfl⟩
            obtain ⟨s, hs⟩ : ∃ s, s = S[p]?.getD 0 := ⟨_, rfl⟩
            rw [← ht] at hc
            rw [← hs] at hc2
            have hd := diffN_succ T S p
            rw [← ht, ← hs] at hd
            obtain ⟨d, hdd⟩ : ∃ d, d = diffN T S p := ⟨_, rfl⟩
            rw [← hdd] at hd ⊢
            have hdl : d ≤ S.length := by rw [hdd]; exact Nat.le_trans (diffN_le T S p) hp
            have HD := Lib.hid hd
            clear hv hv2 hg1 hg3 ht hs hd hdd
            by_cases hts : t = s
            · have heq : ((t : Int) != (s : Int)) = false := by rw [hts]; simp
              have HTS := Lib.hid hts
              clear hts
              go_wp2_with (fail)
              go_quiet (fail)
              go_wp2_with (fail)
              go_roundw
              case rel => exact ⟨p + 1, by omega, by simp, by rw [HD.out, if_pos HTS.out, Nat.add_zero], below_drewN' HN.out _⟩
              case measure => simp [intOf]; omega
            · have heq : ((t : Int) != (s : Int)) = true := by simp; omega
              have HTS := Lib.hid hts
              clear hts
              go_wp2_with (fail)
              go_quiet (fail)
              go_wp2_with (fail)
              go_roundw
              case rel => exact ⟨p + 1, by omega, by simp, by rw [HD.out, if_neg HTS.out]; simp, below_drewN' HN.out _⟩
              case measure => simp [intOf]; omega
          · obtain rfl : p = S.length := by omega
            have T0 := Lib.hid (HO.out.on HN.out).str
            have B0 := Lib.hid (below_trans' HW.out HN.out)
            obtain ⟨d, hdd⟩ : ∃ d, d = diffN T S S.length := ⟨_, rfl⟩
            rw [← hdd]
            have HDD := Lib.hid hdd
            clear hdd HO HQ HN HW
            go_wp2_with (fail)
            refine (live3 _ (Nat.lt_of_lt_of_le h0 B0.out.size) (HT.out.onB B0.out h0)).mono ?_
            rintro e w5 ⟨rfl, hb⟩
            have T5 := Lib.hid (T0.out.on hb)
            have B5 := Lib.hid (below_trans' B0.out hb)
            clear hb T0 B0
            by_cases hd2 : d % 2 = 0
            · have hq : ((d : Int) % 2 == 0) = true := by simp; omega
              go_wp2_with (fail)
              go_ret
              exact ⟨rfl, B5.out⟩
            · have hq : ((d : Int) % 2 == 0) = false := by simp; omega
              have hodd : diffN T S S.length % 2 = 1 := by rw [← HDD.out]; omega
              have hno := odd_told HT1.out HS1.out HTL.out HS0.out hodd
              have hwh : wholeB T = false := by rw [wholeB_eq T (by rw [HTL.out]; omega), bits_self _ HT1.out]; exact decide_eq_false hno
              have HWH := Lib.hid hwh
              clear hodd hno hwh
              go_wp2_with (fail)
              refine (whole_any _ _ _ T (by rw [HTL.out]; omega) _ (Nat.lt_of_lt_of_le h0 B5.out.size) (HT.out.onB B5.out h0) T5.out).mono ?_
              rintro e w6 ⟨he, hb⟩
              rw [HWH.out] at he
              subst he
              have B6 := Lib.hid (below_trans' B5.out hb)
              clear hb T5 B5
              go_wp2_with (fail)
              go_ret
              exact ⟨rfl, B6.out⟩
      · clear hj100
        have HW := Lib.hid hnx
        have HO := Lib.hid hown
        have HQ := Lib.hid hwas
        clear hnx hown hwas
        go_wp2_with (fail)
        go_loopw [9, 10] (fun n i wy => ∃ p : Nat, p ≤ S.length ∧ i = .int .i64 p ∧ n = .int .i64 (diffN T S p : Nat) ∧ Below wr.heap.size wr wy) (fun _ i _ => S.length - (intOf i).toNat)
        case atStart => exact ⟨0, Nat.zero_le _, rfl, rfl, Below.refl _ _⟩
        case round =>
          obtain ⟨p, hp, rfl, rfl, hny⟩ := hrel
          have HN := Lib.hid hny
          clear hny
          by_cases hlt : p < S.length
          · obtain ⟨g', cg', hv, _, _, _, _, hc, _⟩ := (HO.out.on HN.out).write (k := p) (by rw [HTL.out]; exact hlt)
            have hg1 := (Value.slice.inj hv).1
            have hg2 : g = g' := by simpa using hg1
            subst hg2
            obtain ⟨g'', cg'', hv2, _, _, _, _, hc2, _⟩ := (HQ.out.on HN.out).write (k := p) hlt
            have hg3 := (Value.slice.inj hv2).1
            have hg4 : gw = g'' := by simpa using hg3
            subst hg4
            obtain ⟨t, ht⟩ : ∃ t, t = T[p]?.getD 0 := ⟨_, rfl⟩
            obtain ⟨s, hs⟩ : ∃ s, s = S[p]?.getD 0 := ⟨_, rfl⟩
            rw [← ht] at hc
            rw [← hs] at hc2
            have hd := diffN_succ T S p
            rw [← ht, ← hs] at hd
            obtain ⟨d, hdd⟩ : ∃ d, d = diffN T S p := ⟨_, rfl⟩
            rw [← hdd] at hd ⊢
            have hdl : d ≤ S.length := by rw [hdd]; exact Nat.le_trans (diffN_le T S p) hp
            have HD := Lib.hid hd
            clear hv hv2 hg1 hg3 ht hs hd hdd
            by_cases hts : t = s
            · have heq : ((t : Int) != (s : Int)) = false := by rw [hts]; simp
              have HTS := Lib.hid hts
              clear hts
              go_wp2_with (fail)
              go_quiet (fail)
              go_wp2_with (fail)
              go_roundw
              case rel => exact ⟨p + 1, by omega, by simp, by rw [HD.out, if_pos HTS.out, Nat.add_zero], below_drewN' HN.out _⟩
              case measure => simp [intOf]; omega
            · have heq : ((t : Int) != (s : Int)) = true := by simp; omega
              have HTS := Lib.hid hts
              clear hts
              go_wp2_with (fail)
              go_quiet (fail)
              go_wp2_with (fail)
              go_roundw
              case rel => exact ⟨p + 1, by omega, by simp, by rw [HD.out, if_neg HTS.out]; simp, below_drewN' HN.out _⟩
              case measure => simp [intOf]; omega
          · obtain rfl : p = S.length := by omega
            have T0 := Lib.hid (HO.out.on HN.out).str
            have B0 := Lib.hid (below_trans' HW.out HN.out)
            obtain ⟨d, hdd⟩ : ∃ d, d = diffN T S S.length := ⟨_, rfl⟩
            rw [← hdd]
            have HDD := Lib.hid hdd
            clear hdd HO HQ HN HW
            go_wp2_with (fail)
            refine (live3 _ (Nat.lt_of_lt_of_le h0 B0.out.size) (HT.out.onB B0.out h0)).mono ?_
            rintro e w5 ⟨rfl, hb⟩
            have T5 := Lib.hid (T0.out.on hb)
            have B5 := Lib.hid (below_trans' B0.out hb)
            clear hb T0 B0
            by_cases hd2 : d % 2 = 0
            · have hq : ((d : Int) % 2 == 0) = true := by simp; omega
              go_wp2_with (fail)
              go_ret
              exact ⟨rfl, B5.out⟩
            · have hq : ((d : Int) % 2 == 0) = false := by simp; omega
              have hodd : diffN T S S.length % 2 = 1 := by rw [← HDD.out]; omega
              have hno := odd_told HT1.out HS1.out HTL.out HS0.out hodd
              have hwh : wholeB T = false := by rw [wholeB_eq T (by rw [HTL.out]; omega), bits_self _ HT1.out]; exact decide_eq_false hno
              have HWH := Lib.hid hwh
              clear hodd hno hwh
              go_wp2_with (fail)
              refine (whole_any _ _ _ T (by rw [HTL.out]; omega) _ (Nat.lt_of_lt_of_le h0 B5.out.size) (HT.out.onB B5.out h0) T5.out).mono ?_
              rintro e w6 ⟨he, hb⟩
              rw [HWH.out] at he
              subst he
              have B6 := Lib.hid (below_trans' B5.out hb)
              clear hb T5 B5
              go_wp2_with (fail)
              go_ret
              exact ⟨rfl, B6.out⟩
theorem door_met (os : Os) (args : Array Value) : laidMetH Tryd.prog laidD ((World.doorLaid Tryd.prog 400 os).forCall (fun _ _ => 0) ⟨#[], args, []⟩).memory :=
  laidMetH_of_parts3 (fuel := 8) (laidMet_of_run' 8 (by kernel_rfl) (by kernel_rfl)) (by kernel_rfl) (by kernel_rfl)
set_option maxRecDepth 100000 in
theorem lifted (os : Os) (started : os.Started) (H : Type) (enc : TypeId × Value → H) :
    ReturnsInHanded {} Tryd.checked os 7 .any (fun w args => (Rows.crcOddSpec.pre enc Tryd.prog Tryd.f7 [] false w args ∧ laidMetH Tryd.prog laidD w) ∧ sizedMet enc Tryd.prog Tryd.f7 (OpenSpec.ofChange Rows.crcOddSpec) false w args)
      (Rows.crcOddSpec.post enc Tryd.prog Tryd.f7 false true false false) := by
  refine returnsInHanded_of_change_and (C := Tryd.checked) (X := fun w _ => laidMetH Tryd.prog laidD w) (fun _ _ _ hh h => h.of_heap hh) own started (by kernel_rfl) Tryd.func7
    (ChangeSpec.witness_shaped (enc := enc) (C := Tryd.checked) (os := os) (X := fun w _ => laidMetH Tryd.prog laidD w) false (World.doorLaid Tryd.prog 400 os) #[.slice none 0 0, .slice none 0 0] 8 rfl (World.shaped_of_RefB (by kernel_rfl) (by kernel_rfl)) (by kernel_rfl) (by kernel_rfl) (by kernel_rfl) (door_met os _)) ?_
  intro W base args ds gs before hval0 hW _ _ hL _
  have hval : ∀ (j : Nat) t v, Tryd.f7.params[j]? = some t → args[j]? = some v → Value.okWide Tryd.prog W .any base t v := hval0
  have hW' := hW
  obtain ⟨p, q, hA0, hV, rfl, hfz, hnd⟩ := hW
  have hA : DataW.TrodAll enc Tryd.prog W 0 (fun _ => true) true Tryd.f7.params.toList args.toList ds p := hA0
  rw [Tryd.params7] at hA hval
  obtain ⟨v0, vs0, d0, ds0, p0, q0, hargs, rfl, rfl, h0, r0⟩ := trodAll_cons hA
  obtain ⟨v1, vs1, d1, ds1, p1, q1, rfl, rfl, rfl, h1, r1⟩ := trodAll_cons r0
  obtain ⟨rfl, rfl, rfl⟩ := trodAll_nil r1
  obtain rfl : args = #[v0, v1] := by cases args; simp_all
  obtain ⟨rfl, rfl⟩ := trodVars_none hV
  obtain ⟨a0, len0, cap0, rfl⟩ := okWide_slice Tryd.underlying23 (hval 0 23 v0 rfl rfl)
  have k0 := h0
  have lt0 : ∀ x ∈ p0, x.block < W.heap.size := by obtain ⟨m, hm⟩ := k0; exact DataW.trod_lt m _ _ _ hm
  obtain ⟨z0, w0⟩ : ∃ zs, IsRow W a0 len0 cap0 zs := by
    obtain ⟨fuel, hf⟩ := h0
    rcases open_ints Tryd.underlying23 Tryd.underlying5 (by kernel_rfl) hf with ⟨hcs, _⟩ | ⟨x, l, c, zs, hcs, _, hl, hm, hz, _, hcell, hwz⟩
    · simp [Value.cells] at hcs
      obtain ⟨rfl, rfl, rfl⟩ := hcs
      exact ⟨[], .inl ⟨rfl, rfl, rfl, rfl⟩⟩
    · simp [Value.cells] at hcs
      obtain ⟨rfl, rfl, rfl⟩ := hcs
      exact ⟨zs, .inr ⟨_, rfl, hl, hm, by simpa using hz, hcell, hwz⟩⟩
  obtain ⟨a1, len1, cap1, rfl⟩ := okWide_slice Tryd.underlying36 (hval 1 36 v1 rfl rfl)
  have k1 := h1
  have lt1 : ∀ x ∈ p1, x.block < W.heap.size := by obtain ⟨m, hm⟩ := k1; exact DataW.trod_lt m _ _ _ hm
  obtain ⟨z1, w1⟩ : ∃ zs, Row16 W a1 len1 cap1 zs := by
    obtain ⟨fuel, hf⟩ := h1
    rcases open_ints Tryd.underlying36 Tryd.underlying22 (by kernel_rfl) hf with ⟨hcs, _⟩ | ⟨x, l, c, zs, hcs, _, hl, hm, hz, _, hcell, hwz⟩
    · simp [Value.cells] at hcs
      obtain ⟨rfl, rfl, rfl⟩ := hcs
      exact ⟨[], .inl ⟨rfl, rfl, rfl, rfl⟩⟩
    · simp [Value.cells] at hcs
      obtain ⟨rfl, rfl, rfl⟩ := hcs
      exact ⟨zs, .inr ⟨_, rfl, hl, hm, by simpa using hz, hcell, hwz⟩⟩
  clear hA0 hval0
  obtain ⟨hTab, hsz0⟩ := tab_of_laid hL
  refine (walk a0 len0 cap0 z0 a1 len1 cap1 z1 W w0 w1 hsz0 hTab).mono fun e W' ⟨he, bel⟩ => ?_
  subst he
  exact ⟨_, rfl, _, _, _, [], _, [], hW', trodAll_mk1 (shut_bool Tryd.underlying4 _), (trodAll_cons_mk (Below.trod laidOut (by kernel_rfl) (of_decide_eq_true (by kernel_rfl)) k0 bel lt0) (trodAll_cons_mk (Below.trod laidOut (by kernel_rfl) (of_decide_eq_true (by kernel_rfl)) k1 bel lt1) trodAll_mk0)), rfl, bel.frame _, fun h => by cases h⟩
theorem over : Rows.crcOddRow.holds Tryd.pinned (OpenSpec.ofChange Rows.crcOddSpec) :=
  OpenClaim.holds_of_wide 7 Tryd.f7 rfl rfl rfl rfl rfl rfl rfl ⟨rfl, rfl, rfl, rfl, rfl⟩ rfl rfl rfl rfl rfl (by kernel_rfl) Tryd.func7 (by kernel_rfl)
    (of_decide_eq_true (by kernel_rfl)) (by unfold Func.isWrapper; first | (rw [if_pos (by decide +kernel)]; kernel_rfl) | (rw [if_neg (by decide +kernel)]; exact ⟨rfl, rfl⟩))
    (fun os started H enc _ => lifted os started H enc)
/-- The statement: the row, and what it lists tied to the program's text. -/
theorem proved : Rows.CrcOddCardSaid :=
  Claim7.holds_tied_plain_at .later [] [.data] true _ false
    over (fun _ h => by cases h) (by kernel_rfl) (fun _ h => by cases h) crcOdd_row_tie rfl ⟨rfl, rfl⟩ (by kernel_rfl) rfl
    (fun f fn hf hfn => by
      obtain rfl : f = 7 := Option.some.inj ((show Tryd.prog.funcNamed "bellbuoy/bellbuoylaw03.CrcOdd" = some 7 by kernel_rfl).symm.trans hf) |>.symm
      obtain rfl : fn = Tryd.f7 := (Option.some.inj (Tryd.func7.symm.trans hfn)).symm
      exact ⟨by kernel_rfl, fun j t ht => by
        rw [Tryd.params7] at ht
        have hm : t ∈ [23, 36] := by simpa using Array.mem_of_getElem? ht
        have hall : ([23, 36].all fun u => !Tryd.prog.wantsStandIn u) = true := by kernel_rfl
        exact (show Tryd.prog.wantsStandIn t = false by simpa using List.all_eq_true.1 hall t hm)⟩)
    (by kernel_rfl)
end Go.Proofs.YtdnonahpoklbfaaDoor.crcOdd
