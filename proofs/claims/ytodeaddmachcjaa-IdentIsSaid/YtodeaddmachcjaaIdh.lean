/- The code of package ident (Text): what it returns. Conditions: an identifier's number is below 2^32. -/
import Derived.Test.YtodeaddmachcjaaIde
import Derived.Test.YtodeaddmachcjaaIdd
import Derived.Laws.IdiomStrings
namespace Go.Proofs.Ytodeaddmachcjaa
open Go.RowKit Go.Shelf
def hexF (n w j : Nat) : Nat := hexD (n / 16 ^ (w - 1 - j) % 16)
theorem hexT_get (n : Nat) : ∀ (k j : Nat), j < k → (hexT n k)[j]?.getD 0 = hexF n k j := by
  intro k
  induction k with
  | zero => intro j h; omega
  | succ k ih =>
    intro j h
    rw [hexT_more]
    cases j with
    | zero => simp [hexF]
    | succ j =>
      rw [List.getElem?_cons_succ, ih j (by omega)]
      unfold hexF
      rw [show k + 1 - 1 - (j + 1) = k - 1 - j by omega]
theorem hexD_lt (d : Nat) (h : d < 16) : hexD d < 256 := by unfold hexD; split <;> omega
theorem idx_hex (d : Nat) (hd : d < 16) (w : World) : Sem.run Try.prog (Instr.index 9 (.string ⟨#[48, 49, 50, 51, 52, 53, 54, 55, 56, 57, 97, 98, 99, 100, 101, 102]⟩) (.int .u32 (d : Int))) w = .ok (.int .u8 (hexD d : Nat)) w := by
  have h : d = 0 ∨ d = 1 ∨ d = 2 ∨ d = 3 ∨ d = 4 ∨ d = 5 ∨ d = 6 ∨ d = 7 ∨ d = 8 ∨ d = 9 ∨ d = 10 ∨ d = 11 ∨ d = 12 ∨ d = 13 ∨ d = 14 ∨ d = 15 := by omega
  rcases h with rfl | rfl | rfl | rfl | rfl | rfl | rfl | rfl | rfl | rfl | rfl | rfl | rfl | rfl | rfl | rfl <;> rfl
theorem hexT_lt (n : Nat) : ∀ k, ∀ x ∈ hexT n k, x < 256 := by
  intro k
  induction k with
  | zero => intro x hx; simp [hexT] at hx
  | succ k ih =>
    intro x hx
    rw [hexT_more] at hx
    rcases List.mem_cons.1 hx with h | h
    · rw [h]; exact hexD_lt _ (Nat.mod_lt _ (by decide))
    · exact ih x h
theorem tx_of (L : List Nat) (hL : ∀ x ∈ L, x < 256) : tx ⟨(L.map UInt8.ofNat).toArray⟩ = L := by
  unfold tx
  simp only [List.map_map]
  conv => rhs; rw [← List.map_id L]
  refine List.map_congr_left fun x hx => ?_
  have := hL x hx
  simp [Nat.mod_eq_of_lt this]
theorem to_text (w : World) (B cap : Nat) (L : List Nat) (hL : ∀ x ∈ L, x < 256) (hc : ∀ j, j < L.length → w.cell? ⟨B, j, none⟩ = some (.int .u8 ((L[j]?.getD 0 : Nat) : Int))) :
    Sem.run Try.prog (convert 32 9 (.slice (some ⟨B, 0, none⟩) L.length cap)) w = .ok (.string ⟨(L.map UInt8.ofNat).toArray⟩) w := by
  have h := run_convert_bytes_back (P := Try.prog) w 32 9 5 ⟨B, 0, none⟩ cap (L.map UInt8.ofNat) Try.underlying32 Try.underlying5 Try.underlying9 (fun j hj => by
    have hj' : j < L.length := by simpa using hj
    rw [show (⟨B, 0, none⟩ : Addr).add j = ⟨B, 0 + j, none⟩ from add_off _ _ _, Nat.zero_add, hc j hj']
    have hx := hL L[j] (List.getElem_mem hj')
    simp [hj', Nat.mod_eq_of_lt hx])
  rw [List.length_map] at h
  exact h
def textRel (n m B : Nat) (W : World) (i : Value) (wr : World) : Prop :=
  ∃ k : Nat, k ≤ m ∧ i = .int .i64 k ∧ wr.rowIs B 5 m (fun j => .int .u8 ((if j < k then hexF n m j else 0 : Nat) : Int)) ∧ Below B W wr
theorem idtext_len (e : Bool) (n m : Nat) (hr : rightI e n = true) (hm : m = if e then 8 else 3) (w : World) : Calls Try.prog 20 #[identV e n] w fun x w' => ∃ t, x = .returned (.string t) ∧ tx t = hexT n m ∧ Below w.heap.size w w' := by
  have HR := Lib.hid (fun u => right5_any e n u)
  have HW := Lib.hid (fun u => width_any e u)
  have hm8 : m ≤ 8 := by rw [hm]; split <;> omega
  rw [← hm] at HW
  rw [hr] at HR
  unfold identV at HR ⊢
  have hmk := make_bytes m (by omega)
  clear hr hm
  go_enter Try.func20, Try.ntmps20
  go_wp2_with (fail)
  refine (HR.out _).mono ?_
  rintro x w1 ⟨rfl, hb⟩
  have P1 := (Two.new w (.bool e) (.int .u32 (n : Int)) 24 rfl).keep hb (by simp)
  have HP1 := Lib.hid P1
  obtain ⟨p0, p1, _, _⟩ := P1
  have hz1 : w.heap.size + 1 ≤ w1.heap.size := by have := hb.size; simp at this; omega
  have HB := Lib.hid (below_trans' ((Below.refl _ w).alloc (Nat.le_refl _) (.cells #[.bool e, .int .u32 (n : Int)] 24)) hb)
  clear hb
  go_wp2_with (fail)
  refine (HW.out _).mono ?_
  rintro x w2 ⟨rfl, rfl⟩
  go_wp2_with (fail)
  clear hmk
  go_loopw [15] (textRel n m w1.heap.size w1) (fun i _ => m - (intOf i).toNat)
  case atStart => exact ⟨0, Nat.zero_le _, rfl, World.rowIs_made _ _ _ _, (Below.refl _ _).alloc (Nat.le_refl _) _⟩
  case round =>
    clear p0 p1
    obtain ⟨k, hk, rfl, hrow, hbel⟩ := hrel
    have HROW := Lib.hid hrow
    have HN := Lib.hid hbel
    obtain ⟨p0, p1, p2, p3⟩ := HP1.out.keep hbel (by omega)
    clear hbel
    by_cases hlt : k < m
    · have hc := hrow.cell hlt
      rw [if_neg (Nat.lt_irrefl k)] at hc
      have hf := hrow.frozen k
      clear hrow
      obtain ⟨s, hs⟩ : ∃ s : Nat, s = m - 1 - k := ⟨_, rfl⟩
      have es : (m : Int) - 1 - k = (s : Int) := by omega
      have es2 := shr_hex n s
      obtain ⟨s4, hs4⟩ : ∃ s4, s4 = 4 * s := ⟨_, rfl⟩
      have es4 : (4 : Int) * s = (s4 : Int) := by omega
      rw [← hs4] at es2
      have h64 : s4 ≤ 28 := by omega
      obtain ⟨q, hq⟩ : ∃ q, q = n / 16 ^ s := ⟨_, rfl⟩
      rw [← hq] at es2
      obtain ⟨d, hd⟩ : ∃ d, d = q % 16 := ⟨_, rfl⟩
      have ed : (q : Int) % 16 = (d : Int) := by omega
      have ed' : Int.tmod (q : Int) 16 = (d : Int) := by rw [Int.tmod_eq_emod_of_nonneg (by omega)]; exact ed
      have hd16 : d < 16 := by omega
      have hix := idx_hex d hd16
      have HV := Lib.hid (show hexD d = hexF n m k by rw [hd, hq, hs]; rfl)
      clear hq hd hs hs4
      go_wp2_with (fail)
      go_roundw
      case rel => exact ⟨k + 1, by omega, by simp, fill_step HROW.out HV.out, HN.out.setCell (p := ⟨w1.heap.size, k, none⟩) (Nat.le_refl _) _⟩
      case measure => simp [intOf]; omega
    · have hkm : k = m := by omega
      have hcv := to_text wr w1.heap.size m (hexT n m) (hexT_lt n m) (fun j hj => by
        rw [hexT_length] at hj
        have hcj := hrow.cell hj
        rw [if_pos (by omega)] at hcj
        rw [hcj, hexT_get _ _ _ hj])
      rw [hexT_length] at hcv
      clear hrow
      have HTX := Lib.hid (tx_of (hexT n m) (hexT_lt n m))
      obtain ⟨tt, htt⟩ : ∃ tt : ByteArray, tt = ⟨((hexT n m).map UInt8.ofNat).toArray⟩ := ⟨_, rfl⟩
      rw [← htt] at hcv HTX
      clear htt
      subst hkm
      go_wp2_with (fail)
      go_ret
      exact ⟨tt, rfl, HTX.out, below_trans' HB.out HN.out⟩
set_option maxHeartbeats 400000 in
theorem idtext_any (e : Bool) (n : Nat) (w : World) : Calls Try.prog 20 #[identV e n] w fun x w' => ∃ t, x = .returned (.string t) ∧ tx t = idText e n ∧ Below w.heap.size w w' := by
  cases hr : rightI e n with
  | true =>
    have h := idtext_len e n _ hr rfl w
    have he : idText e n = hexT n (if e then 8 else 3) := by
      unfold idText
      rw [if_pos hr]
      cases e <;> rfl
    rw [he]
    exact h
  | false =>
    have HR := Lib.hid (fun u => right5_any e n u)
    have he : idText e n = [] := by unfold idText; rw [hr]; rfl
    rw [he]
    rw [hr] at HR
    unfold identV at HR ⊢
    clear hr he
    go_enter Try.func20, Try.ntmps20
    go_wp2_with (fail)
    refine (HR.out _).mono ?_
    rintro x w1 ⟨rfl, hb⟩
    have HB := Lib.hid (below_trans' ((Below.refl _ w).alloc (Nat.le_refl _) (.cells #[.bool e, .int .u32 (n : Int)] 24)) hb)
    clear hb
    go_wp2_with (fail)
    go_ret
    exact ⟨_, rfl, rfl, HB.out⟩
end Go.Proofs.Ytodeaddmachcjaa
