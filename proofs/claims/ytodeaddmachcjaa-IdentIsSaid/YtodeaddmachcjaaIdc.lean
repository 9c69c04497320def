/- The document's own answers of layer 5 in plain words (texts): what they return. -/
import Derived.Test.YtodeaddmachcjaaIda
import Derived.Test.YtodeaddmachcjaaIdt
import Derived.Deep.DeepCutAuto
import Derived.Deep.RegionWith
namespace Go.Proofs.Ytodeaddmachcjaa
open Go.RowKit Go.Shelf
theorem refDigit_any (c : Nat) (hc : c < 256) (w : World) : Calls Try.prog 28 #[.int .u8 (c : Int)] w fun x w' => x = .returned (.int .u32 (unhex c : Int)) ∧ Below w.heap.size w w' := by
  go_enter Try.func28, Try.ntmps28
  go_wp2_with (fail)
  all_goals
    go_ret
    refine ⟨congrArg Ending.returned (congrArg (Value.int IntKind.u32) ?_), Below.refl _ _⟩
    unfold unhex
    repeat' split
    all_goals omega
/-- The bytes of a text. -/
def tx (s : ByteArray) : List Nat := s.data.toList.map UInt8.toNat
theorem tx_length (s : ByteArray) : (tx s).length = s.size := by
  show (s.data.toList.map UInt8.toNat).length = s.data.size
  rw [List.length_map, Array.length_toList]
theorem tx_le (s : ByteArray) : ∀ x ∈ tx s, x < 256 := by
  intro x hx
  obtain ⟨y, _, rfl⟩ := List.mem_map.1 hx
  exact y.toNat_lt
theorem tx_at (s : ByteArray) (i : Nat) (h : i < s.size) : (s[i]'h).toNat = (tx s)[i]'(by rw [tx_length]; exact h) := by
  simp [tx]
  rfl
theorem tx_int (s : ByteArray) (i : Nat) (h : i < s.size) (hj : ((i : Int)).toNat < s.size) : ((s[((i : Int)).toNat]'hj).toNat : Int) = ((tx s)[i]'(by rw [tx_length]; exact h) : Nat) := by
  rw [← tx_at s i h]
  rfl
theorem unhexT_none {l : List Nat} (h : unhexT l = none) : ∀ r : List Nat, unhexT (l ++ r) = none := by
  intro r
  have hr : ∀ r : List Nat, r.foldl (fun (a : Option Nat) c => a.bind fun n => if unhex c = 16 then none else some (n * 16 + unhex c)) none = none := by
    intro r
    induction r with
    | nil => rfl
    | cons c r ih => exact ih
  unfold unhexT at h ⊢
  rw [List.foldl_append, h, hr r]
theorem idParse_none {l : List Nat} {j : Nat} (h : unhexT (l.take j) = none) : idParse l = none := by
  have e : unhexT l = none := by
    have := unhexT_none h (l.drop j)
    rwa [List.take_append_drop] at this
  unfold idParse
  rw [e]
  split
  · rfl
  · split <;> rfl
theorem idParse_len {l : List Nat} {n : Nat} (e : Bool) (hl : l.length = if e then 8 else 3) (h : unhexT l = some n) : idParse l = if rightI e n then some (e, n) else none := by
  unfold idParse
  rw [h]
  cases e
  · rw [if_pos (show l.length = 3 from hl)]; rfl
  · have hl' : l.length = 8 := hl
    rw [if_neg (by rw [hl']; decide), if_pos hl']; rfl
set_option maxHeartbeats 2000000 in
theorem refParse_len (s : ByteArray) (e : Bool) (k : Nat) (hk : s.size = k) (hke : k = if e then 8 else 3) (w : World) : Calls Try.prog 12 #[.string s] w fun x w' => x = .returned (.tuple #[identV ((idParse (tx s)).getD (false, 0)).1 ((idParse (tx s)).getD (false, 0)).2, .bool (idParse (tx s)).isSome]) ∧ Below w.heap.size w w' := by
  have e1 : (((k : Nat) : Int) != 3) = e := by subst hke; cases e <;> rfl
  have e2 : (((k : Nat) : Int) != 8) = !e := by subst hke; cases e <;> rfl
  have e3 : (((k : Nat) : Int) == 8) = e := by subst hke; cases e <;> rfl
  have e4 : (e && !e) = false := by cases e <;> rfl
  have HK := Lib.hid hke
  have HS := Lib.hid hk
  clear hke
  go_enter Try.func12, Try.ntmps12
  rw [← hk] at e1 e2 e3
  clear hk
  obtain ⟨ez, hez⟩ : ∃ ez : Bool, ez = e := ⟨_, rfl⟩
  have HE := Lib.hid hez
  clear hez
  have HSS := Lib.hid HS
  cases e
  · go_wp2_with (fail)
    go_loopw [5] (fun i wr => ∃ (j n : Nat), j ≤ k ∧ i = .int .i64 j ∧ unhexT ((tx s).take j) = some n ∧ Two wr w.heap.size (.bool false) (.int .u32 0) ∧ Two wr (w.heap.size + 1) (.bool false) (.int .u32 n) ∧ Below w.heap.size w wr ∧ w.heap.size + 2 ≤ wr.heap.size) (fun i _ => k - (intOf i).toNat)
    case atStart => exact ⟨0, 0, Nat.zero_le _, rfl, rfl, (Two.new w _ _ _ rfl).more (by simp) _, Two.new _ _ _ _ (by simp), ((Below.refl _ w).alloc (Nat.le_refl _) _).alloc (by simp) _, by simp⟩
    case round =>
      obtain ⟨j, n, hj, rfl, hun, hT0, hT1, hB, hz⟩ := hrel
      have HU := Lib.hid hun; have HT0 := Lib.hid hT0; have HT1 := Lib.hid hT1; have HB := Lib.hid hB
      clear hun hB
      obtain ⟨p0, p1, p2, p3⟩ := hT0
      obtain ⟨q0, q1, q2, q3⟩ := hT1
      by_cases hlt : j < k
      · have hjs : j < s.size := by rw [HS.out]; exact hlt
        have hl : (tx s).length = k := by rw [tx_length]; exact HS.out
        obtain ⟨c, hc⟩ : ∃ c, c = (tx s)[j]'(by rw [hl]; exact hlt) := ⟨_, rfl⟩
        have hc256 : c < 256 := by rw [hc]; exact tx_le s _ (List.getElem_mem _)
        have htk : (tx s).take (j + 1) = (tx s).take j ++ [c] := by rw [hc]; exact List.take_succ_eq_append_getElem _
        have hst := unhexT_snoc ((tx s).take j) c
        rw [← htk, HU.out] at hst
        have i1 : (0 : Int) ≤ (j : Int) := by omega
        have i2 : (j : Int) < (s.size : Int) := by omega
        have hsc : (s[j]'hjs).toNat = c := by rw [hc]; exact tx_at s j hjs
        obtain ⟨d, hd⟩ : ∃ d, d = unhex c := ⟨_, rfl⟩
        rw [← hd] at hst
        have hn := (hexT_unhexT j ((tx s).take j) n (by rw [List.length_take, hl]; omega) HU.out).2
        have hj7 : j ≤ 7 := by have := HK.out; simp at this; omega
        have hn7 : n < 268435456 := Nat.lt_of_lt_of_le hn (Nat.le_trans (Nat.pow_le_pow_right (by decide) hj7) (by decide))
        have HD := Lib.hid (show ∀ u, Calls Try.prog 28 #[.int .u8 ((s[j]'hjs).toNat : Int)] u fun x w' => x = .returned (.int .u32 (d : Int)) ∧ Below u.heap.size u w' from fun u => by rw [hsc, hd]; exact refDigit_any c hc256 u)
        have HDU := Lib.hid hd
        have HL := Lib.hid hl
        have HTK := Lib.hid htk
        clear hc htk hl hd hsc hn
        by_cases h16 : d = 16
        · have hb16 : ((d : Int) == 16) = true := by rw [h16]; rfl
          have hst : unhexT ((tx s).take (j + 1)) = none := by rw [hst, h16]; rfl
          have HNO := Lib.hid (idParse_none (l := tx s) (j := j + 1) hst)
          clear hst h16
          go_wp2_with fail
          refine (HD.out _).mono ?_
          rintro x w2 ⟨rfl, hb⟩
          obtain ⟨p0, p1, p2, p3⟩ := HT0.out.keep hb (by omega)
          obtain ⟨q0, q1, q2, q3⟩ := HT1.out.keep hb (by omega)
          have HB2 := Lib.hid (HB.out.trans (hb.mono (by omega)))
          clear hb
          go_wp2_with fail
          rw [HNO.out]
          obtain ⟨r0, r1, _, _⟩ := Two.put ⟨p0, p1, p2, p3⟩ (.bool false) (.int .u32 0)
          exact bodyPost_ret (v := .tuple #[.agg #[(.bool false), (.int .u32 0)], .bool false]) (by simp [results, Try.results12, go_sem, r0, r1]) rfl ⟨rfl, below_two2 HB2.out (Nat.le_refl _) _ _⟩
        · have hb16 : ((d : Int) == 16) = false := by rw [beq_eq_false_iff_ne]; omega
          have hst : unhexT ((tx s).take (j + 1)) = some (n * 16 + d) := by rw [hst, Option.bind_some, if_neg h16]
          have hd16 : d < 16 := by rw [HDU.out] at h16 ⊢; exact (hexD_unhex c h16).2
          have w1 : IntKind.u32.wrap ((n : Int) * 16) = (n : Int) * 16 := by rw [IntKind.wrap_u32]; omega
          have w2 : IntKind.u32.wrap ((n : Int) * 16 + (d : Int)) = ((n * 16 + d : Nat) : Int) := by rw [IntKind.wrap_u32]; omega
          have HST := Lib.hid (show unhexT ((tx s).take (j + 1)) = some (n * 16 + d) from hst)
          clear hst h16
          go_wp2_with fail
          refine (HD.out _).mono ?_
          rintro x w2 ⟨rfl, hb⟩
          obtain ⟨p0, p1, p2, p3⟩ := HT0.out.keep hb (by omega)
          have HT0' := Lib.hid (HT0.out.keep hb (by omega))
          have HT1' := Lib.hid (HT1.out.keep hb (by omega))
          have HZ2 := Lib.hid (Nat.le_trans hz hb.size)
          obtain ⟨q0, q1, q2, q3⟩ := HT1.out.keep hb (by omega)
          have HB2 := Lib.hid (HB.out.trans (hb.mono (by omega)))
          clear hb
          go_wp2_with fail
          go_roundw
          case rel => exact ⟨j + 1, n * 16 + d, by omega, by simp, HST.out, HT0'.out.lowOther (by omega) _, HT1'.out.low _, HB2.out.setCell (p := ⟨w.heap.size + 1, 1, none⟩) (Nat.le_succ _) _, by rw [setCell_size2]; exact HZ2.out⟩
          case measure => simp [intOf]; omega
      · have hjk : j = k := by omega
        subst hjk
        have hl : (tx s).length = j := by rw [tx_length]; exact HS.out
        have hun : unhexT (tx s) = some n := by have := HU.out; rwa [List.take_of_length_le (by omega)] at this
        have hp := idParse_len (l := tx s) (n := n) false (hl.trans HK.out) hun
        have HP := Lib.hid hp
        have i3 : ¬ ((j : Int) < (s.size : Int)) := by rw [HS.out]; omega
        have HR := Lib.hid (fun u => refRight5_any false n u)
        clear hun hp hl
        obtain ⟨b, hb⟩ : ∃ b, b = rightI false n := ⟨_, rfl⟩
        rw [← hb] at HR HP
        clear hb
        unfold identV at HR
        cases b
        · go_wp2_with fail
          refine (HR.out _).mono ?_
          rintro x w2 ⟨rfl, hb⟩
          obtain ⟨p0, p1, p2, p3⟩ := HT0.out.keep hb (by omega)
          obtain ⟨q0, q1, q2, q3⟩ := HT1.out.keep hb (by omega)
          have HB2 := Lib.hid (HB.out.trans (hb.mono (by omega)))
          clear hb
          go_wp2_with fail
          rw [HP.out, if_neg (by decide)]
          obtain ⟨r0, r1, _, _⟩ := Two.put ⟨p0, p1, p2, p3⟩ (.bool false) (.int .u32 0)
          exact bodyPost_ret (v := .tuple #[.agg #[(.bool false), (.int .u32 0)], .bool false]) (by simp [results, Try.results12, go_sem, r0, r1]) rfl ⟨rfl, below_two2 HB2.out (Nat.le_refl _) _ _⟩
        · go_wp2_with fail
          refine (HR.out _).mono ?_
          rintro x w2 ⟨rfl, hb⟩
          obtain ⟨p0, p1, p2, p3⟩ := HT0.out.keep hb (by omega)
          obtain ⟨q0, q1, q2, q3⟩ := HT1.out.keep hb (by omega)
          have HB2 := Lib.hid (HB.out.trans (hb.mono (by omega)))
          clear hb
          go_wp2_with fail
          rw [HP.out, if_pos trivial]
          obtain ⟨r0, r1, _, _⟩ := Two.put ⟨p0, p1, p2, p3⟩ (.bool false) (.int .u32 (n : Int))
          exact bodyPost_ret (v := .tuple #[.agg #[(.bool false), (.int .u32 (n : Int))], .bool true]) (by simp [results, Try.results12, go_sem, r0, r1]) rfl ⟨rfl, below_two2 HB2.out (Nat.le_refl _) _ _⟩
  · go_wp2_with (fail)
    go_loopw [5] (fun i wr => ∃ (j n : Nat), j ≤ k ∧ i = .int .i64 j ∧ unhexT ((tx s).take j) = some n ∧ Two wr w.heap.size (.bool false) (.int .u32 0) ∧ Two wr (w.heap.size + 1) (.bool true) (.int .u32 n) ∧ Below w.heap.size w wr ∧ w.heap.size + 2 ≤ wr.heap.size) (fun i _ => k - (intOf i).toNat)
    case atStart => exact ⟨0, 0, Nat.zero_le _, rfl, rfl, (Two.new w _ _ _ rfl).more (by simp) _, Two.new _ _ _ _ (by simp), ((Below.refl _ w).alloc (Nat.le_refl _) _).alloc (by simp) _, by simp⟩
    case round =>
      obtain ⟨j, n, hj, rfl, hun, hT0, hT1, hB, hz⟩ := hrel
      have HU := Lib.hid hun; have HT0 := Lib.hid hT0; have HT1 := Lib.hid hT1; have HB := Lib.hid hB
      clear hun hB
      obtain ⟨p0, p1, p2, p3⟩ := hT0
      obtain ⟨q0, q1, q2, q3⟩ := hT1
      by_cases hlt : j < k
      · have hjs : j < s.size := by rw [HS.out]; exact hlt
        have hl : (tx s).length = k := by rw [tx_length]; exact HS.out
        obtain ⟨c, hc⟩ : ∃ c, c = (tx s)[j]'(by rw [hl]; exact hlt) := ⟨_, rfl⟩
        have hc256 : c < 256 := by rw [hc]; exact tx_le s _ (List.getElem_mem _)
        have htk : (tx s).take (j + 1) = (tx s).take j ++ [c] := by rw [hc]; exact List.take_succ_eq_append_getElem _
        have hst := unhexT_snoc ((tx s).take j) c
        rw [← htk, HU.out] at hst
        have i1 : (0 : Int) ≤ (j : Int) := by omega
        have i2 : (j : Int) < (s.size : Int) := by omega
        have hsc : (s[j]'hjs).toNat = c := by rw [hc]; exact tx_at s j hjs
        obtain ⟨d, hd⟩ : ∃ d, d = unhex c := ⟨_, rfl⟩
        rw [← hd] at hst
        have hn := (hexT_unhexT j ((tx s).take j) n (by rw [List.length_take, hl]; omega) HU.out).2
        have hj7 : j ≤ 7 := by have := HK.out; simp at this; omega
        have hn7 : n < 268435456 := Nat.lt_of_lt_of_le hn (Nat.le_trans (Nat.pow_le_pow_right (by decide) hj7) (by decide))
        have HD := Lib.hid (show ∀ u, Calls Try.prog 28 #[.int .u8 ((s[j]'hjs).toNat : Int)] u fun x w' => x = .returned (.int .u32 (d : Int)) ∧ Below u.heap.size u w' from fun u => by rw [hsc, hd]; exact refDigit_any c hc256 u)
        have HDU := Lib.hid hd
        have HL := Lib.hid hl
        have HTK := Lib.hid htk
        clear hc htk hl hd hsc hn
        by_cases h16 : d = 16
        · have hb16 : ((d : Int) == 16) = true := by rw [h16]; rfl
          have hst : unhexT ((tx s).take (j + 1)) = none := by rw [hst, h16]; rfl
          have HNO := Lib.hid (idParse_none (l := tx s) (j := j + 1) hst)
          clear hst h16
          go_wp2_with fail
          refine (HD.out _).mono ?_
          rintro x w2 ⟨rfl, hb⟩
          obtain ⟨p0, p1, p2, p3⟩ := HT0.out.keep hb (by omega)
          obtain ⟨q0, q1, q2, q3⟩ := HT1.out.keep hb (by omega)
          have HB2 := Lib.hid (HB.out.trans (hb.mono (by omega)))
          clear hb
          go_wp2_with fail
          rw [HNO.out]
          obtain ⟨r0, r1, _, _⟩ := Two.put ⟨p0, p1, p2, p3⟩ (.bool false) (.int .u32 0)
          exact bodyPost_ret (v := .tuple #[.agg #[(.bool false), (.int .u32 0)], .bool false]) (by simp [results, Try.results12, go_sem, r0, r1]) rfl ⟨rfl, below_two2 HB2.out (Nat.le_refl _) _ _⟩
        · have hb16 : ((d : Int) == 16) = false := by rw [beq_eq_false_iff_ne]; omega
          have hst : unhexT ((tx s).take (j + 1)) = some (n * 16 + d) := by rw [hst, Option.bind_some, if_neg h16]
          have hd16 : d < 16 := by rw [HDU.out] at h16 ⊢; exact (hexD_unhex c h16).2
          have w1 : IntKind.u32.wrap ((n : Int) * 16) = (n : Int) * 16 := by rw [IntKind.wrap_u32]; omega
          have w2 : IntKind.u32.wrap ((n : Int) * 16 + (d : Int)) = ((n * 16 + d : Nat) : Int) := by rw [IntKind.wrap_u32]; omega
          have HST := Lib.hid (show unhexT ((tx s).take (j + 1)) = some (n * 16 + d) from hst)
          clear hst h16
          go_wp2_with fail
          refine (HD.out _).mono ?_
          rintro x w2 ⟨rfl, hb⟩
          obtain ⟨p0, p1, p2, p3⟩ := HT0.out.keep hb (by omega)
          have HT0' := Lib.hid (HT0.out.keep hb (by omega))
          have HT1' := Lib.hid (HT1.out.keep hb (by omega))
          have HZ2 := Lib.hid (Nat.le_trans hz hb.size)
          obtain ⟨q0, q1, q2, q3⟩ := HT1.out.keep hb (by omega)
          have HB2 := Lib.hid (HB.out.trans (hb.mono (by omega)))
          clear hb
          go_wp2_with fail
          go_roundw
          case rel => exact ⟨j + 1, n * 16 + d, by omega, by simp, HST.out, HT0'.out.lowOther (by omega) _, HT1'.out.low _, HB2.out.setCell (p := ⟨w.heap.size + 1, 1, none⟩) (Nat.le_succ _) _, by rw [setCell_size2]; exact HZ2.out⟩
          case measure => simp [intOf]; omega
      · have hjk : j = k := by omega
        subst hjk
        have hl : (tx s).length = j := by rw [tx_length]; exact HS.out
        have hun : unhexT (tx s) = some n := by have := HU.out; rwa [List.take_of_length_le (by omega)] at this
        have hp := idParse_len (l := tx s) (n := n) true (hl.trans HK.out) hun
        have HP := Lib.hid hp
        have i3 : ¬ ((j : Int) < (s.size : Int)) := by rw [HS.out]; omega
        have HR := Lib.hid (fun u => refRight5_any true n u)
        clear hun hp hl
        obtain ⟨b, hb⟩ : ∃ b, b = rightI true n := ⟨_, rfl⟩
        rw [← hb] at HR HP
        clear hb
        unfold identV at HR
        cases b
        · go_wp2_with fail
          refine (HR.out _).mono ?_
          rintro x w2 ⟨rfl, hb⟩
          obtain ⟨p0, p1, p2, p3⟩ := HT0.out.keep hb (by omega)
          obtain ⟨q0, q1, q2, q3⟩ := HT1.out.keep hb (by omega)
          have HB2 := Lib.hid (HB.out.trans (hb.mono (by omega)))
          clear hb
          go_wp2_with fail
          rw [HP.out, if_neg (by decide)]
          obtain ⟨r0, r1, _, _⟩ := Two.put ⟨p0, p1, p2, p3⟩ (.bool false) (.int .u32 0)
          exact bodyPost_ret (v := .tuple #[.agg #[(.bool false), (.int .u32 0)], .bool false]) (by simp [results, Try.results12, go_sem, r0, r1]) rfl ⟨rfl, below_two2 HB2.out (Nat.le_refl _) _ _⟩
        · go_wp2_with fail
          refine (HR.out _).mono ?_
          rintro x w2 ⟨rfl, hb⟩
          obtain ⟨p0, p1, p2, p3⟩ := HT0.out.keep hb (by omega)
          obtain ⟨q0, q1, q2, q3⟩ := HT1.out.keep hb (by omega)
          have HB2 := Lib.hid (HB.out.trans (hb.mono (by omega)))
          clear hb
          go_wp2_with fail
          rw [HP.out, if_pos trivial]
          obtain ⟨r0, r1, _, _⟩ := Two.put ⟨p0, p1, p2, p3⟩ (.bool true) (.int .u32 (n : Int))
          exact bodyPost_ret (v := .tuple #[.agg #[(.bool true), (.int .u32 (n : Int))], .bool true]) (by simp [results, Try.results12, go_sem, r0, r1]) rfl ⟨rfl, below_two2 HB2.out (Nat.le_refl _) _ _⟩
theorem idParse_short {l : List Nat} (h3 : l.length ≠ 3) (h8 : l.length ≠ 8) : idParse l = none := by
  unfold idParse
  rw [if_neg h3, if_neg h8]
theorem refParse_any (s : ByteArray) (w : World) : Calls Try.prog 12 #[.string s] w fun x w' => x = .returned (.tuple #[identV ((idParse (tx s)).getD (false, 0)).1 ((idParse (tx s)).getD (false, 0)).2, .bool (idParse (tx s)).isSome]) ∧ Below w.heap.size w w' := by
  by_cases h3 : s.size = 3
  · exact refParse_len s false 3 h3 rfl w
  by_cases h8 : s.size = 8
  · exact refParse_len s true 8 h8 rfl w
  rw [idParse_short (by rw [tx_length]; exact h3) (by rw [tx_length]; exact h8)]
  have e1 : ((s.size : Int) != 3) = true := by simp; omega
  have e2 : ((s.size : Int) != 8) = true := by simp; omega
  clear h3 h8
  go_enter Try.func12, Try.ntmps12
  go_wp2_with (fail)
  obtain ⟨r0, r1, _, _⟩ := Two.new w (.bool false) (.int .u32 0) 24 rfl
  exact bodyPost_ret (v := .tuple #[.agg #[.bool false, .int .u32 0], .bool false]) (by simp [results, Try.results12, go_sem, r0, r1]) rfl ⟨rfl, (Below.refl _ w).alloc (Nat.le_refl _) _⟩
end Go.Proofs.Ytodeaddmachcjaa
