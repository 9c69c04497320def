/- Package slave, and the document's own answers of layer 20: which words can be, a number's bytes, and the number of bytes. Conditions: at most six bytes. -/
import Derived.Test.YtpamkmpaldepnaaSla
import Derived.Test.YtpamkmpaldepnaaGna
namespace Go.Proofs.Ytpamkmpaldepnaa
open Go.RowKit
theorem blk_two (w : World) (o : Obj) (T : TypeId) (l : List Value) : Blk ((w.alloc o).alloc (.cells l.toArray T)) (w.heap.size + 1) T l := by
  have h := Blk.new (w.alloc o) T l
  rw [World.size_alloc] at h
  exact h
theorem slright_any (f : Bool) (r n t : Int) (w : World) : Calls Try.prog 61 #[.agg #[.bool f, .int .i64 r, .int .i64 n, .int .i64 t]] w fun y w' => y = .returned (.bool (rightW f r n t)) ∧ Below w.heap.size w w' := by
  have HB := Lib.hid ((Below.refl w.heap.size w).alloc (Nat.le_refl _) (.cells #[.bool f, .int .i64 r, .int .i64 n, .int .i64 t] 75))
  have cs : r < 0 ∨ (0 ≤ r ∧ 32 ≤ r) ∨ (0 ≤ r ∧ r < 32 ∧ n < 0) ∨ (0 ≤ r ∧ r < 32 ∧ 0 ≤ n ∧ 65536 ≤ n) ∨ (0 ≤ r ∧ r < 32 ∧ 0 ≤ n ∧ n < 65536) := by omega
  rcases cs with h | ⟨h, h2⟩ | ⟨h, h2, h3⟩ | ⟨h, h2, h3, h4⟩ | ⟨h, h2, h3, h4⟩
  · rw [rightW_no (by omega)]
    have g1 : ¬ 0 ≤ r := by omega
    go_enter Try.func61, Try.ntmps61
    go_wp2_with fail
    go_ret
    exact ⟨rfl, by first | exact HB.out | exact HB.out.drew | exact Below.refl _ _⟩
  · rw [rightW_no (by omega)]
    have g1 : ¬ r < 32 := by omega
    go_enter Try.func61, Try.ntmps61
    go_wp2_with fail
    go_ret
    exact ⟨rfl, by first | exact HB.out | exact HB.out.drew | exact Below.refl _ _⟩
  · rw [rightW_no (by omega)]
    have g1 : ¬ 0 ≤ n := by omega
    have g2 : ¬ 32 ≤ r := by omega
    go_enter Try.func61, Try.ntmps61
    go_wp2_with fail
    go_ret
    exact ⟨rfl, by first | exact HB.out | exact HB.out.drew | exact Below.refl _ _⟩
  · rw [rightW_no (by omega)]
    have g1 : ¬ n < 65536 := by omega
    have g2 : ¬ 32 ≤ r := by omega
    have g3 : 65535 < n := by omega
    go_enter Try.func61, Try.ntmps61
    go_wp2_with fail
    go_ret
    exact ⟨rfl, by first | exact HB.out | exact HB.out.drew | exact Below.refl _ _⟩
  · have g1 : ¬ 32 ≤ r := by omega
    have g2 : ¬ n < 0 := by omega
    have g3 : ¬ 65535 < n := by omega
    have g4 : ¬ r < 0 := by omega
    have cs : t < 0 ∨ (0 ≤ t ∧ 281474976710656 ≤ t) ∨ t = 0 ∨ (0 < t ∧ t < 281474976710656) := by omega
    cases f
    · rcases cs with h5 | ⟨h5, h6⟩ | rfl | ⟨h5, h6⟩
      · rw [rightW_no (by simp; omega)]
        have g5 : ¬ 0 ≤ t := by omega
        have g6 : (t == 0) = false := by rw [beq_eq_false_iff_ne]; omega
        go_enter Try.func61, Try.ntmps61
        go_wp2_with fail
        go_ret
        exact ⟨rfl, by first | exact HB.out | exact HB.out.drew | exact Below.refl _ _⟩
      · rw [rightW_no (by simp; omega)]
        have g5 : ¬ t < 281474976710656 := by omega
        have g6 : (t == 0) = false := by rw [beq_eq_false_iff_ne]; omega
        go_enter Try.func61, Try.ntmps61
        go_wp2_with fail
        go_ret
        exact ⟨rfl, by first | exact HB.out | exact HB.out.drew | exact Below.refl _ _⟩
      · rw [rightW_yes (by simp; omega)]
        go_enter Try.func61, Try.ntmps61
        go_wp2_with fail
        go_ret
        exact ⟨rfl, by first | exact HB.out | exact HB.out.drew | exact Below.refl _ _⟩
      · rw [rightW_no (by simp; omega)]
        have g5 : 0 ≤ t := by omega
        have g6 : (t == 0) = false := by rw [beq_eq_false_iff_ne]; omega
        go_enter Try.func61, Try.ntmps61
        go_wp2_with fail
        go_ret
        exact ⟨rfl, by first | exact HB.out | exact HB.out.drew | exact Below.refl _ _⟩
    · rcases cs with h5 | ⟨h5, h6⟩ | rfl | ⟨h5, h6⟩
      · rw [rightW_no (by simp; omega)]
        have g5 : ¬ 0 ≤ t := by omega
        have g6 : (t == 0) = false := by rw [beq_eq_false_iff_ne]; omega
        go_enter Try.func61, Try.ntmps61
        go_wp2_with fail
        go_ret
        exact ⟨rfl, by first | exact HB.out | exact HB.out.drew | exact Below.refl _ _⟩
      · rw [rightW_no (by simp; omega)]
        have g5 : ¬ t < 281474976710656 := by omega
        have g6 : (t == 0) = false := by rw [beq_eq_false_iff_ne]; omega
        go_enter Try.func61, Try.ntmps61
        go_wp2_with fail
        go_ret
        exact ⟨rfl, by first | exact HB.out | exact HB.out.drew | exact Below.refl _ _⟩
      · rw [rightW_yes (by simp; omega)]
        go_enter Try.func61, Try.ntmps61
        go_wp2_with fail
        go_ret
        exact ⟨rfl, by first | exact HB.out | exact HB.out.drew | exact Below.refl _ _⟩
      · rw [rightW_yes (by simp; omega)]
        have g5 : 0 ≤ t := by omega
        have g6 : (t == 0) = false := by rw [beq_eq_false_iff_ne]; omega
        go_enter Try.func61, Try.ntmps61
        go_wp2_with fail
        go_ret
        exact ⟨rfl, by first | exact HB.out | exact HB.out.drew | exact Below.refl _ _⟩
theorem ahead_any (f : Bool) (r n t : Int) (w : World) : Calls Try.prog 65 #[.agg #[.bool f, .int .i64 r, .int .i64 n, .int .i64 t]] w fun y w' => y = .returned (.agg #[.bool false, .int .i64 r, .int .i64 n, .int .i64 0]) ∧ Below w.heap.size w w' := by
  have HB := Lib.hid ((Below.refl w.heap.size w).alloc (Nat.le_refl _) (.cells #[.bool f, .int .i64 r, .int .i64 n, .int .i64 t] 75))
  go_enter Try.func65, Try.ntmps65
  go_wp2_with fail
  obtain ⟨W, hW⟩ : ∃ W, W = (w.alloc (.cells #[.bool f, .int .i64 r, .int .i64 n, .int .i64 t] 75)).alloc (.cells #[.bool false, .int .i64 r, .int .i64 n, .int .i64 0] 75) := ⟨_, rfl⟩
  rw [← hW]
  have hS : Blk W (w.heap.size + 1) 75 [.bool false, .int .i64 r, .int .i64 n, .int .i64 0] := by rw [hW]; exact blk_two w _ 75 [.bool false, .int .i64 r, .int .i64 n, .int .i64 0]
  have hb : Below w.heap.size w W := by rw [hW]; exact HB.out.alloc (by simp) _
  clear hW
  have z0 := hS.cellAt (i := 0) (by simp)
  have z1 := hS.cellAt (i := 1) (by simp)
  have z2 := hS.cellAt (i := 2) (by simp)
  have z3 := hS.cellAt (i := 3) (by simp)
  simp only [List.getElem_cons_zero, List.getElem_cons_succ] at z0 z1 z2 z3
  exact bodyPost_ret (v := .agg #[.bool false, .int .i64 r, .int .i64 n, .int .i64 0]) (by simp [results, Try.results65, go_sem, z0, z1, z2, z3]) rfl ⟨rfl, hb⟩
theorem Made.older {B C : Nat} {W : World} {v : Value} {bs : List Nat} (h : Made B W v bs) (hC : C ≤ B) : Made C W v bs := by
  obtain ⟨b, e, h1, h2, h3⟩ := h
  exact ⟨b, e, Nat.le_trans hC h1, h2, h3⟩
theorem beB_byte (k n j : Nat) : (beB k n)[j]?.getD 0 < 256 := by
  unfold beB
  rw [List.getElem?_map]
  cases (List.range k)[j]? with
  | none => exact Nat.succ_pos _
  | some x => exact Nat.mod_lt _ (by decide)
theorem bytes_int (n k : Nat) (hn : n < 9223372036854775808) (h1 : 1 ≤ k) (hk : k ≤ 8) (w : World) : Calls Try.prog 62 #[.int .i64 (n : Int), .int .i64 (k : Int)] w fun y w' => ∃ v, y = .returned v ∧ Made w.heap.size w' v (beB k n) ∧ Below w.heap.size w w' := by
  have HO := Lib.hid (fun u => of_yes n (8 * k) (by omega) (by omega) (by omega) u)
  have HP := Lib.hid (fun a len cap u (hI : Str u.heap.size u (.slice a len cap) (ofB n (8 * k))) => pack_any a len cap (ofB n (8 * k)) (by rw [ofB_length]; omega) u hI)
  rw [pack_be] at HP
  obtain ⟨m, hm⟩ : ∃ m : Nat, m = 8 * k := ⟨_, rfl⟩
  rw [← hm] at HO HP
  have e1 : IntKind.i64.wrap (8 * (k : Int)) = (m : Int) := by rw [hm, IntKind.wrap_i64]; omega
  have e2 : wrap64 (8 * (k : Int)) = (m : Int) := by rw [hm]; exact w64_in _ (by omega)
  have e3 : IntKind.u64.wrap (n : Int) = (n : Int) := wraps_u64' _ (by omega) (by omega)
  clear hm
  go_enter Try.func62, Try.ntmps62
  go_wp2_with fail
  refine (HO.out _).mono ?_
  rintro y w1 ⟨v, rfl, hm, hb⟩
  obtain ⟨b, rfl, _⟩ := id hm
  have HS := Lib.hid hm.str
  have HB := Lib.hid hb
  clear hm hb
  go_wp2_with fail
  refine (HP.out _ _ _ _ HS.out).mono ?_
  rintro y w2 ⟨v, rfl, hm, hb⟩
  have HM := Lib.hid hm
  have HB2 := Lib.hid (below_transG HB.out hb)
  clear hm hb
  go_wp2_with fail
  go_ret
  exact ⟨_, rfl, HM.out.older HB.out.size, HB2.out⟩
theorem bytes_i64 (n k : Nat) (hn : n < 9223372036854775808) (h1 : 1 ≤ k) (hk : k ≤ 8) (w : World) : Calls Try.prog 63 #[.int .i64 (n : Int), .int .i64 (k : Int)] w fun y w' => ∃ v, y = .returned v ∧ Made w.heap.size w' v (beB k n) ∧ Below w.heap.size w w' := by
  have HO := Lib.hid (fun u => of_yes n (8 * k) (by omega) (by omega) (by omega) u)
  have HP := Lib.hid (fun a len cap u (hI : Str u.heap.size u (.slice a len cap) (ofB n (8 * k))) => pack_any a len cap (ofB n (8 * k)) (by rw [ofB_length]; omega) u hI)
  rw [pack_be] at HP
  obtain ⟨m, hm⟩ : ∃ m : Nat, m = 8 * k := ⟨_, rfl⟩
  rw [← hm] at HO HP
  have e1 : IntKind.i64.wrap (8 * (k : Int)) = (m : Int) := by rw [hm, IntKind.wrap_i64]; omega
  have e2 : wrap64 (8 * (k : Int)) = (m : Int) := by rw [hm]; exact w64_in _ (by omega)
  have e3 : IntKind.u64.wrap (n : Int) = (n : Int) := wraps_u64' _ (by omega) (by omega)
  clear hm
  go_enter Try.func63, Try.ntmps63
  go_wp2_with fail
  refine (HO.out _).mono ?_
  rintro y w1 ⟨v, rfl, hm, hb⟩
  obtain ⟨b, rfl, _⟩ := id hm
  have HS := Lib.hid hm.str
  have HB := Lib.hid hb
  clear hm hb
  go_wp2_with fail
  refine (HP.out _ _ _ _ HS.out).mono ?_
  rintro y w2 ⟨v, rfl, hm, hb⟩
  have HM := Lib.hid hm
  have HB2 := Lib.hid (below_transG HB.out hb)
  clear hm hb
  go_wp2_with fail
  go_ret
  exact ⟨_, rfl, HM.out.older HB.out.size, HB2.out⟩
theorem number_int (n k : Nat) (h1 : 1 ≤ k) (hk : k ≤ 6) (hn : n < 2 ^ (8 * k)) (a : Option Addr) (cap : Nat) (w : World) (hI : Str w.heap.size w (.slice a k cap) (beB k n)) : Calls Try.prog 87 #[.slice a k cap] w fun y w' => y = .returned (.int .i64 (n : Int)) ∧ Below w.heap.size w w' := by
  have HU := Lib.hid (unpack_yes a k cap (beB k n) (8 * k) (by omega) (by omega) (beB_byte k n) w hI)
  have HN := Lib.hid (fun a len cap u (hI : Str u.heap.size u (.slice a len cap) (unpB (beB k n) (8 * k))) => number_any a len cap (unpB (beB k n) (8 * k)) (by rw [unpB_length]; omega) u hI)
  rw [numB_be k n (by omega) hn] at HN
  have hn2 : n < 281474976710656 := Nat.lt_of_lt_of_le hn (Nat.pow_le_pow_right (by decide) (by omega : 8 * k ≤ 48))
  obtain ⟨m, hm⟩ : ∃ m : Nat, m = 8 * k := ⟨_, rfl⟩
  rw [← hm] at HU HN
  have e1 : IntKind.i64.wrap (8 * (k : Int)) = (m : Int) := by rw [hm, IntKind.wrap_i64]; omega
  have e2 : wrap64 (8 * (k : Int)) = (m : Int) := by rw [hm]; exact w64_in _ (by omega)
  have e3 : IntKind.i64.wrap (n : Int) = (n : Int) := by rw [IntKind.wrap_i64]; omega
  have e4 : wrap64 (n : Int) = (n : Int) := w64_in _ (by omega)
  clear hm hn hn2 hI
  go_enter Try.func87, Try.ntmps87
  go_wp2_with fail
  refine (HU.out).mono ?_
  rintro y w1 ⟨v, rfl, hm, hb⟩
  obtain ⟨b, rfl, _⟩ := id hm
  have HS := Lib.hid hm.str
  have HB := Lib.hid hb
  clear hm hb
  go_wp2_with fail
  refine (HN.out _ _ _ _ HS.out).mono ?_
  rintro y w2 ⟨rfl, hb⟩
  have HB2 := Lib.hid (below_transG HB.out hb)
  clear hb
  go_wp2_with fail
  go_ret
  exact ⟨rfl, HB2.out⟩
theorem number_i64 (n k : Nat) (h1 : 1 ≤ k) (hk : k ≤ 6) (hn : n < 2 ^ (8 * k)) (a : Option Addr) (cap : Nat) (w : World) (hI : Str w.heap.size w (.slice a k cap) (beB k n)) : Calls Try.prog 88 #[.slice a k cap] w fun y w' => y = .returned (.int .i64 (n : Int)) ∧ Below w.heap.size w w' := by
  have HU := Lib.hid (unpack_yes a k cap (beB k n) (8 * k) (by omega) (by omega) (beB_byte k n) w hI)
  have HN := Lib.hid (fun a len cap u (hI : Str u.heap.size u (.slice a len cap) (unpB (beB k n) (8 * k))) => number_any a len cap (unpB (beB k n) (8 * k)) (by rw [unpB_length]; omega) u hI)
  rw [numB_be k n (by omega) hn] at HN
  have hn2 : n < 281474976710656 := Nat.lt_of_lt_of_le hn (Nat.pow_le_pow_right (by decide) (by omega : 8 * k ≤ 48))
  obtain ⟨m, hm⟩ : ∃ m : Nat, m = 8 * k := ⟨_, rfl⟩
  rw [← hm] at HU HN
  have e1 : IntKind.i64.wrap (8 * (k : Int)) = (m : Int) := by rw [hm, IntKind.wrap_i64]; omega
  have e2 : wrap64 (8 * (k : Int)) = (m : Int) := by rw [hm]; exact w64_in _ (by omega)
  have e3 : IntKind.i64.wrap (n : Int) = (n : Int) := by rw [IntKind.wrap_i64]; omega
  have e4 : wrap64 (n : Int) = (n : Int) := w64_in _ (by omega)
  clear hm hn hn2 hI
  go_enter Try.func88, Try.ntmps88
  go_wp2_with fail
  refine (HU.out).mono ?_
  rintro y w1 ⟨v, rfl, hm, hb⟩
  obtain ⟨b, rfl, _⟩ := id hm
  have HS := Lib.hid hm.str
  have HB := Lib.hid hb
  clear hm hb
  go_wp2_with fail
  refine (HN.out _ _ _ _ HS.out).mono ?_
  rintro y w2 ⟨rfl, hb⟩
  have HB2 := Lib.hid (below_transG HB.out hb)
  clear hb
  go_wp2_with fail
  go_ret
  exact ⟨rfl, HB2.out⟩
end Go.Proofs.Ytpamkmpaldepnaa
