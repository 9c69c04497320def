/- The statement of P5.1 to P5.3 (IdentIs): whether an identifier can be, its bits, key, and text, and what any key and text are, as the document says. No conditions. -/
import Derived.Test.YtodeaddmachcjaaRows
import Derived.Test.YtodeaddmachcjaaOpn
import Derived.Test.YtodeaddmachcjaaIdl
import Derived.Test.YtodeaddmachcjaaIdb
import Derived.Test.YtodeaddmachcjaaIdd
import Derived.Deep.RegionHeld3
import Derived.WalkKit
import Derived.ProofKit
import Derived.OpenShut
import Derived.ShutString
import Derived.ChangeOld
import Derived.Below
namespace Go.Proofs.Ytodeaddmachcjaa.identIs
open Go.ChangeShapes Go.WideShapes Go.ChangeAt Go.RowKit
theorem own : ownKnob Try.prog.godebug = none := by kernel_rfl
theorem laidOut : laidOutB Try.prog = true := by kernel_rfl
theorem key_back (key : Nat) (hk : key < 4294967296) : ∃ E N R ok, ofKeyV key = .tuple #[identV E N, .bool R, .bool ok] ∧ N < 4294967296 ∧ (ok = true → idKey E N R = key) := by
  unfold ofKeyV
  cases h : ofKey key with
  | none => exact ⟨false, 0, false, false, rfl, by omega, fun h => by cases h⟩
  | some v =>
    obtain ⟨e, n, r⟩ := v
    have hr := key_ofKey hk h
    refine ⟨e, n, r, true, rfl, ?_, fun _ => hr.2⟩
    have := hr.1
    unfold rightI at this
    split at this <;> simp at this <;> omega
theorem text_back (s : ByteArray) : ∃ X M iz, (.tuple #[identV ((idParse (tx s)).getD (false, 0)).1 ((idParse (tx s)).getD (false, 0)).2, .bool (idParse (tx s)).isSome] : Value) = .tuple #[identV X M, .bool iz] ∧ (iz = true → idText X M = tx s) := by
  cases h : idParse (tx s) with
  | none => exact ⟨false, 0, false, rfl, fun h => by cases h⟩
  | some v =>
    obtain ⟨e, n⟩ := v
    exact ⟨e, n, true, rfl, fun _ => (text_parse h).2⟩
set_option maxHeartbeats 4000000 in
theorem walk (e0 : Bool) (n0 : Nat) (k1 : Int) (s : ByteArray) (h0 : n0 < 4294967296) (h1 : (Lit.int .u32 k1).wf = true) (_h2 : s.size ≤ maxLen) (w : World) :
    Calls Try.prog 3 #[identV e0 n0, .int .u32 k1, .string s] w fun e w' => e = .returned (.bool true) ∧ Below w.heap.size w w' := by
  have hk1 := wfu32 h1
  obtain ⟨key, rfl⟩ : ∃ key : Nat, k1 = key := ⟨k1.toNat, by omega⟩
  have hkey : key < 4294967296 := by omega
  clear h1 hk1
  obtain ⟨E, N, R, ok, hof, _, _⟩ := key_back key hkey
  have HOF := Lib.hid (fun u => of5_any key hkey u)
  have HOG := Lib.hid (fun u => refOfKey_any key hkey u)
  rw [hof] at HOF HOG
  obtain ⟨X, M, iz, hpa, _⟩ := text_back s
  have HPA := Lib.hid (fun u => idparse_any s u)
  have HPB := Lib.hid (fun u => refParse_any s u)
  rw [hpa] at HPA HPB
  have ea : bits .and .u32 (key : Int) 1 = ((key % 2 : Nat) : Int) := by
    have h := u32_and_nat key 1 hkey (by omega)
    rw [Nat.and_one_is_mod] at h
    exact h
  obtain ⟨t, ht⟩ : ∃ t, t = key % 2 := ⟨_, rfl⟩
  rw [← ht] at ea
  obtain ⟨q, hq⟩ : ∃ q, q = decide (t = 1) := ⟨_, rfl⟩
  have eb : ((t : Int) == 1) = q := by rw [hq, Bool.eq_iff_iff]; simp; omega
  obtain ⟨T, hT⟩ : ∃ T, tx T = idText e0 n0 := ⟨⟨((idText e0 n0).map UInt8.ofNat).toArray⟩, tx_of _ (by
    intro x hx
    unfold idText at hx
    split at hx
    · split at hx
      · exact hexT_lt _ _ x hx
      · exact hexT_lt _ _ x hx
    · cases hx)⟩
  have HRA := Lib.hid (fun u => right5_any e0 n0 u)
  have HRB := Lib.hid (fun u => refRight5_any e0 n0 u)
  have HBA := Lib.hid (fun u => idbits_any e0 n0 q h0 u)
  have HBB := Lib.hid (fun u => refBits_any e0 n0 q h0 u)
  have HKA := Lib.hid (fun u => idkey_any e0 n0 q h0 u)
  have HKB := Lib.hid (fun u => refKey_any e0 n0 q h0 u)
  have HTA := Lib.hid (show ∀ u, Calls Try.prog 20 #[identV e0 n0] u fun x w' => x = .returned (.string T) ∧ Below u.heap.size u w' from fun u => (idtext_any e0 n0 u).mono (by
    rintro x w' ⟨t, rfl, ht, hb⟩
    exact ⟨by rw [tx_inj (ht.trans hT.symm)], hb⟩))
  have HTB := Lib.hid (show ∀ u, Calls Try.prog 21 #[identV e0 n0] u fun x w' => x = .returned (.string T) ∧ Below u.heap.size u w' from fun u => (refText_any e0 n0 u).mono (by
    rintro x w' ⟨t, rfl, ht, hb⟩
    exact ⟨by rw [tx_inj (ht.trans hT.symm)], hb⟩))
  obtain ⟨ra, rad⟩ : ∃ b, b = rightI e0 n0 := ⟨_, rfl⟩
  obtain ⟨k0, hk0⟩ : ∃ k0, k0 = idKey e0 n0 q := ⟨_, rfl⟩
  obtain ⟨L, hL⟩ : ∃ L, L = idBits e0 n0 q := ⟨_, rfl⟩
  rw [← rad] at HRA HRB
  rw [← hk0] at HKA HKB
  rw [← hL] at HBA HBB
  have hraa : (ra == ra) = true := by simp
  have hkk : ((k0 : Int) == (k0 : Int)) = true := by simp
  have hrr : (R == R) = true := by simp
  have hoo : (ok == ok) = true := by simp
  have hii : (iz == iz) = true := by simp
  clear hof hpa ht hq hT rad hk0 hL h0 hkey
  unfold identV at HOF HOG HPA HPB HRA HRB HBA HBB HKA HKB HTA HTB ⊢
  have B0 := Lib.hid ((Below.refl _ w).alloc (Nat.le_refl _) (.cells #[.bool e0, .int .u32 (n0 : Int)] 24))
  have P0 := Lib.hid (Two.new w (.bool e0) (.int .u32 (n0 : Int)) 24 rfl)
  by_cases hlen : 100 < s.size
  · have i1 : (100 : Int) < (s.size : Int) := by omega
    go_enter Try.func3, Try.ntmps3
    go_wp2_with (fail)
    refine (live5 _).mono ?_
    rintro x w1 ⟨rfl, hb⟩
    have BE := Lib.hid (below_trans' B0.out hb)
    clear hb
    go_wp2_with (fail)
    go_ret
    exact ⟨rfl, BE.out⟩
  have i1 : ¬ (100 : Int) < (s.size : Int) := by omega
  go_enter Try.func3, Try.ntmps3
  go_wp2_with (fail)
  refine (HOF.out _).mono ?_
  rintro x wa ⟨rfl, hb⟩
  have BA := Lib.hid ((below_trans' B0.out hb).alloc (below_trans' B0.out hb).size (.cells #[.bool E, .int .u32 (N : Int)] 24))
  have za : w.heap.size < wa.heap.size := by have := hb.size; simp at this; omega
  have P1 := Lib.hid ((P0.out.keep hb (by simp)).more za (.cells #[.bool E, .int .u32 (N : Int)] 24))
  have Q1 := Lib.hid (Two.new wa (.bool E) (.int .u32 (N : Int)) 24 rfl)
  clear hb
  go_wp2_with (fail)
  refine (HOG.out _).mono ?_
  rintro x wb ⟨rfl, hb⟩
  have BB := Lib.hid ((below_trans' BA.out hb).alloc (below_trans' BA.out hb).size (.cells #[.bool E, .int .u32 (N : Int)] 24))
  have zb : wa.heap.size < wb.heap.size := by have := hb.size; simp at this; omega
  have P2 := Lib.hid ((P1.out.keep hb (by simp; omega)).more (by omega) (.cells #[.bool E, .int .u32 (N : Int)] 24))
  have Q2 := Lib.hid ((Q1.out.keep hb (by simp)).more zb (.cells #[.bool E, .int .u32 (N : Int)] 24))
  have R2 := Lib.hid (Two.new wb (.bool E) (.int .u32 (N : Int)) 24 rfl)
  clear hb
  go_wp2_with (fail)
  refine (HPA.out _).mono ?_
  rintro x wc ⟨rfl, hb⟩
  have BC := Lib.hid ((below_trans' BB.out hb).alloc (below_trans' BB.out hb).size (.cells #[.bool X, .int .u32 (M : Int)] 24))
  have zc : wb.heap.size < wc.heap.size := by have := hb.size; simp at this; omega
  have P3 := Lib.hid ((P2.out.keep hb (by simp; omega)).more (by omega) (.cells #[.bool X, .int .u32 (M : Int)] 24))
  have Q3 := Lib.hid ((Q2.out.keep hb (by simp; omega)).more (by omega) (.cells #[.bool X, .int .u32 (M : Int)] 24))
  have R3 := Lib.hid ((R2.out.keep hb (by simp)).more zc (.cells #[.bool X, .int .u32 (M : Int)] 24))
  have S3 := Lib.hid (Two.new wc (.bool X) (.int .u32 (M : Int)) 24 rfl)
  clear hb
  go_wp2_with (fail)
  refine (HPB.out _).mono ?_
  rintro x wd ⟨rfl, hb⟩
  have BD := Lib.hid ((below_trans' BC.out hb).alloc (below_trans' BC.out hb).size (.cells #[.bool X, .int .u32 (M : Int)] 24))
  have zd : wc.heap.size < wd.heap.size := by have := hb.size; simp at this; omega
  have P4 := Lib.hid ((P3.out.keep hb (by simp; omega)).more (by omega) (.cells #[.bool X, .int .u32 (M : Int)] 24))
  have Q4 := Lib.hid ((Q3.out.keep hb (by simp; omega)).more (by omega) (.cells #[.bool X, .int .u32 (M : Int)] 24))
  have R4 := Lib.hid ((R3.out.keep hb (by simp; omega)).more (by omega) (.cells #[.bool X, .int .u32 (M : Int)] 24))
  have S4 := Lib.hid ((S3.out.keep hb (by simp)).more zd (.cells #[.bool X, .int .u32 (M : Int)] 24))
  have T4 := Lib.hid (Two.new wd (.bool X) (.int .u32 (M : Int)) 24 rfl)
  clear hb
  go_wp2_with (fail)
  obtain ⟨wr, hwr⟩ : ∃ wr, wr = wd.alloc (.cells #[.bool X, .int .u32 (M : Int)] 24) := ⟨_, rfl⟩
  have zr : wr.heap.size = wd.heap.size + 1 := by rw [hwr]; simp
  rw [← hwr] at BD P4 Q4 R4 S4 T4 ⊢
  have tw : ∀ {B : Nat} {x y : Value}, Two wr B x y → B < wr.heap.size → ∀ u, Below wr.heap.size wr u → u.cell? ⟨B, 0, none⟩ = some x ∧ u.cell? ⟨B, 1, none⟩ = some y := fun h hB u hu => ⟨(h.keep hu hB).1, (h.keep hu hB).2.1⟩
  have HS := Lib.hid (show ∀ u, Below wr.heap.size wr u → Below wr.heap.size wr u ∧ u.cell? ⟨w.heap.size, 0, none⟩ = some (.bool e0) ∧ u.cell? ⟨w.heap.size, 1, none⟩ = some (.int .u32 (n0 : Int)) ∧ u.cell? ⟨wa.heap.size, 0, none⟩ = some (.bool E) ∧ u.cell? ⟨wa.heap.size, 1, none⟩ = some (.int .u32 (N : Int)) ∧ u.cell? ⟨wb.heap.size, 0, none⟩ = some (.bool E) ∧ u.cell? ⟨wb.heap.size, 1, none⟩ = some (.int .u32 (N : Int)) ∧ u.cell? ⟨wc.heap.size, 0, none⟩ = some (.bool X) ∧ u.cell? ⟨wc.heap.size, 1, none⟩ = some (.int .u32 (M : Int)) ∧ u.cell? ⟨wd.heap.size, 0, none⟩ = some (.bool X) ∧ u.cell? ⟨wd.heap.size, 1, none⟩ = some (.int .u32 (M : Int)) from fun u hu => by
    have p := tw P4.out (by omega) u hu
    have q := tw Q4.out (by omega) u hu
    have r := tw R4.out (by omega) u hu
    have s := tw S4.out (by omega) u hu
    have t := tw T4.out (by omega) u hu
    exact ⟨hu, p.1, p.2, q.1, q.2, r.1, r.2, s.1, s.2, t.1, t.2⟩)
  clear hwr tw zr P0 P1 P2 P3 P4 Q1 Q2 Q3 Q4 R2 R3 R4 S3 S4 T4 za zb zc zd BA BB BC HOF HOG HPA HPB B0
  have CL := Lib.hid (show ∀ u, Below wr.heap.size wr u ∧ u.cell? ⟨w.heap.size, 0, none⟩ = some (.bool e0) ∧ u.cell? ⟨w.heap.size, 1, none⟩ = some (.int .u32 (n0 : Int)) ∧ u.cell? ⟨wa.heap.size, 0, none⟩ = some (.bool E) ∧ u.cell? ⟨wa.heap.size, 1, none⟩ = some (.int .u32 (N : Int)) ∧ u.cell? ⟨wb.heap.size, 0, none⟩ = some (.bool E) ∧ u.cell? ⟨wb.heap.size, 1, none⟩ = some (.int .u32 (N : Int)) ∧ u.cell? ⟨wc.heap.size, 0, none⟩ = some (.bool X) ∧ u.cell? ⟨wc.heap.size, 1, none⟩ = some (.int .u32 (M : Int)) ∧ u.cell? ⟨wd.heap.size, 0, none⟩ = some (.bool X) ∧ u.cell? ⟨wd.heap.size, 1, none⟩ = some (.int .u32 (M : Int)) → Calls Try.prog 8 #[] u fun x w' => x = .returned (.bool true) ∧ Below wr.heap.size wr w' ∧ w'.cell? ⟨w.heap.size, 0, none⟩ = some (.bool e0) ∧ w'.cell? ⟨w.heap.size, 1, none⟩ = some (.int .u32 (n0 : Int)) ∧ w'.cell? ⟨wa.heap.size, 0, none⟩ = some (.bool E) ∧ w'.cell? ⟨wa.heap.size, 1, none⟩ = some (.int .u32 (N : Int)) ∧ w'.cell? ⟨wb.heap.size, 0, none⟩ = some (.bool E) ∧ w'.cell? ⟨wb.heap.size, 1, none⟩ = some (.int .u32 (N : Int)) ∧ w'.cell? ⟨wc.heap.size, 0, none⟩ = some (.bool X) ∧ w'.cell? ⟨wc.heap.size, 1, none⟩ = some (.int .u32 (M : Int)) ∧ w'.cell? ⟨wd.heap.size, 0, none⟩ = some (.bool X) ∧ w'.cell? ⟨wd.heap.size, 1, none⟩ = some (.int .u32 (M : Int)) from fun u hu => (live5 u).mono fun _ _ h => ⟨h.1, HS.out _ (below_trans' hu.1 h.2)⟩)
  have CRA := Lib.hid (show ∀ u, Below wr.heap.size wr u ∧ u.cell? ⟨w.heap.size, 0, none⟩ = some (.bool e0) ∧ u.cell? ⟨w.heap.size, 1, none⟩ = some (.int .u32 (n0 : Int)) ∧ u.cell? ⟨wa.heap.size, 0, none⟩ = some (.bool E) ∧ u.cell? ⟨wa.heap.size, 1, none⟩ = some (.int .u32 (N : Int)) ∧ u.cell? ⟨wb.heap.size, 0, none⟩ = some (.bool E) ∧ u.cell? ⟨wb.heap.size, 1, none⟩ = some (.int .u32 (N : Int)) ∧ u.cell? ⟨wc.heap.size, 0, none⟩ = some (.bool X) ∧ u.cell? ⟨wc.heap.size, 1, none⟩ = some (.int .u32 (M : Int)) ∧ u.cell? ⟨wd.heap.size, 0, none⟩ = some (.bool X) ∧ u.cell? ⟨wd.heap.size, 1, none⟩ = some (.int .u32 (M : Int)) → Calls Try.prog 13 #[.agg #[.bool e0, .int .u32 (n0 : Int)]] u fun x w' => x = .returned (.bool ra) ∧ Below wr.heap.size wr w' ∧ w'.cell? ⟨w.heap.size, 0, none⟩ = some (.bool e0) ∧ w'.cell? ⟨w.heap.size, 1, none⟩ = some (.int .u32 (n0 : Int)) ∧ w'.cell? ⟨wa.heap.size, 0, none⟩ = some (.bool E) ∧ w'.cell? ⟨wa.heap.size, 1, none⟩ = some (.int .u32 (N : Int)) ∧ w'.cell? ⟨wb.heap.size, 0, none⟩ = some (.bool E) ∧ w'.cell? ⟨wb.heap.size, 1, none⟩ = some (.int .u32 (N : Int)) ∧ w'.cell? ⟨wc.heap.size, 0, none⟩ = some (.bool X) ∧ w'.cell? ⟨wc.heap.size, 1, none⟩ = some (.int .u32 (M : Int)) ∧ w'.cell? ⟨wd.heap.size, 0, none⟩ = some (.bool X) ∧ w'.cell? ⟨wd.heap.size, 1, none⟩ = some (.int .u32 (M : Int)) from fun u hu => (HRA.out u).mono fun _ _ h => ⟨h.1, HS.out _ (below_trans' hu.1 h.2)⟩)
  have CRB := Lib.hid (show ∀ u, Below wr.heap.size wr u ∧ u.cell? ⟨w.heap.size, 0, none⟩ = some (.bool e0) ∧ u.cell? ⟨w.heap.size, 1, none⟩ = some (.int .u32 (n0 : Int)) ∧ u.cell? ⟨wa.heap.size, 0, none⟩ = some (.bool E) ∧ u.cell? ⟨wa.heap.size, 1, none⟩ = some (.int .u32 (N : Int)) ∧ u.cell? ⟨wb.heap.size, 0, none⟩ = some (.bool E) ∧ u.cell? ⟨wb.heap.size, 1, none⟩ = some (.int .u32 (N : Int)) ∧ u.cell? ⟨wc.heap.size, 0, none⟩ = some (.bool X) ∧ u.cell? ⟨wc.heap.size, 1, none⟩ = some (.int .u32 (M : Int)) ∧ u.cell? ⟨wd.heap.size, 0, none⟩ = some (.bool X) ∧ u.cell? ⟨wd.heap.size, 1, none⟩ = some (.int .u32 (M : Int)) → Calls Try.prog 14 #[.agg #[.bool e0, .int .u32 (n0 : Int)]] u fun x w' => x = .returned (.bool ra) ∧ Below wr.heap.size wr w' ∧ w'.cell? ⟨w.heap.size, 0, none⟩ = some (.bool e0) ∧ w'.cell? ⟨w.heap.size, 1, none⟩ = some (.int .u32 (n0 : Int)) ∧ w'.cell? ⟨wa.heap.size, 0, none⟩ = some (.bool E) ∧ w'.cell? ⟨wa.heap.size, 1, none⟩ = some (.int .u32 (N : Int)) ∧ w'.cell? ⟨wb.heap.size, 0, none⟩ = some (.bool E) ∧ w'.cell? ⟨wb.heap.size, 1, none⟩ = some (.int .u32 (N : Int)) ∧ w'.cell? ⟨wc.heap.size, 0, none⟩ = some (.bool X) ∧ w'.cell? ⟨wc.heap.size, 1, none⟩ = some (.int .u32 (M : Int)) ∧ w'.cell? ⟨wd.heap.size, 0, none⟩ = some (.bool X) ∧ w'.cell? ⟨wd.heap.size, 1, none⟩ = some (.int .u32 (M : Int)) from fun u hu => (HRB.out u).mono fun _ _ h => ⟨h.1, HS.out _ (below_trans' hu.1 h.2)⟩)
  have CKA := Lib.hid (show ∀ u, Below wr.heap.size wr u ∧ u.cell? ⟨w.heap.size, 0, none⟩ = some (.bool e0) ∧ u.cell? ⟨w.heap.size, 1, none⟩ = some (.int .u32 (n0 : Int)) ∧ u.cell? ⟨wa.heap.size, 0, none⟩ = some (.bool E) ∧ u.cell? ⟨wa.heap.size, 1, none⟩ = some (.int .u32 (N : Int)) ∧ u.cell? ⟨wb.heap.size, 0, none⟩ = some (.bool E) ∧ u.cell? ⟨wb.heap.size, 1, none⟩ = some (.int .u32 (N : Int)) ∧ u.cell? ⟨wc.heap.size, 0, none⟩ = some (.bool X) ∧ u.cell? ⟨wc.heap.size, 1, none⟩ = some (.int .u32 (M : Int)) ∧ u.cell? ⟨wd.heap.size, 0, none⟩ = some (.bool X) ∧ u.cell? ⟨wd.heap.size, 1, none⟩ = some (.int .u32 (M : Int)) → Calls Try.prog 18 #[.agg #[.bool e0, .int .u32 (n0 : Int)], .bool q] u fun x w' => x = .returned (.int .u32 (k0 : Int)) ∧ Below wr.heap.size wr w' ∧ w'.cell? ⟨w.heap.size, 0, none⟩ = some (.bool e0) ∧ w'.cell? ⟨w.heap.size, 1, none⟩ = some (.int .u32 (n0 : Int)) ∧ w'.cell? ⟨wa.heap.size, 0, none⟩ = some (.bool E) ∧ w'.cell? ⟨wa.heap.size, 1, none⟩ = some (.int .u32 (N : Int)) ∧ w'.cell? ⟨wb.heap.size, 0, none⟩ = some (.bool E) ∧ w'.cell? ⟨wb.heap.size, 1, none⟩ = some (.int .u32 (N : Int)) ∧ w'.cell? ⟨wc.heap.size, 0, none⟩ = some (.bool X) ∧ w'.cell? ⟨wc.heap.size, 1, none⟩ = some (.int .u32 (M : Int)) ∧ w'.cell? ⟨wd.heap.size, 0, none⟩ = some (.bool X) ∧ w'.cell? ⟨wd.heap.size, 1, none⟩ = some (.int .u32 (M : Int)) from fun u hu => (HKA.out u).mono fun _ _ h => ⟨h.1, HS.out _ (below_trans' hu.1 h.2)⟩)
  have CKB := Lib.hid (show ∀ u, Below wr.heap.size wr u ∧ u.cell? ⟨w.heap.size, 0, none⟩ = some (.bool e0) ∧ u.cell? ⟨w.heap.size, 1, none⟩ = some (.int .u32 (n0 : Int)) ∧ u.cell? ⟨wa.heap.size, 0, none⟩ = some (.bool E) ∧ u.cell? ⟨wa.heap.size, 1, none⟩ = some (.int .u32 (N : Int)) ∧ u.cell? ⟨wb.heap.size, 0, none⟩ = some (.bool E) ∧ u.cell? ⟨wb.heap.size, 1, none⟩ = some (.int .u32 (N : Int)) ∧ u.cell? ⟨wc.heap.size, 0, none⟩ = some (.bool X) ∧ u.cell? ⟨wc.heap.size, 1, none⟩ = some (.int .u32 (M : Int)) ∧ u.cell? ⟨wd.heap.size, 0, none⟩ = some (.bool X) ∧ u.cell? ⟨wd.heap.size, 1, none⟩ = some (.int .u32 (M : Int)) → Calls Try.prog 19 #[.agg #[.bool e0, .int .u32 (n0 : Int)], .bool q] u fun x w' => x = .returned (.int .u32 (k0 : Int)) ∧ Below wr.heap.size wr w' ∧ w'.cell? ⟨w.heap.size, 0, none⟩ = some (.bool e0) ∧ w'.cell? ⟨w.heap.size, 1, none⟩ = some (.int .u32 (n0 : Int)) ∧ w'.cell? ⟨wa.heap.size, 0, none⟩ = some (.bool E) ∧ w'.cell? ⟨wa.heap.size, 1, none⟩ = some (.int .u32 (N : Int)) ∧ w'.cell? ⟨wb.heap.size, 0, none⟩ = some (.bool E) ∧ w'.cell? ⟨wb.heap.size, 1, none⟩ = some (.int .u32 (N : Int)) ∧ w'.cell? ⟨wc.heap.size, 0, none⟩ = some (.bool X) ∧ w'.cell? ⟨wc.heap.size, 1, none⟩ = some (.int .u32 (M : Int)) ∧ w'.cell? ⟨wd.heap.size, 0, none⟩ = some (.bool X) ∧ w'.cell? ⟨wd.heap.size, 1, none⟩ = some (.int .u32 (M : Int)) from fun u hu => (HKB.out u).mono fun _ _ h => ⟨h.1, HS.out _ (below_trans' hu.1 h.2)⟩)
  have CTA := Lib.hid (show ∀ u, Below wr.heap.size wr u ∧ u.cell? ⟨w.heap.size, 0, none⟩ = some (.bool e0) ∧ u.cell? ⟨w.heap.size, 1, none⟩ = some (.int .u32 (n0 : Int)) ∧ u.cell? ⟨wa.heap.size, 0, none⟩ = some (.bool E) ∧ u.cell? ⟨wa.heap.size, 1, none⟩ = some (.int .u32 (N : Int)) ∧ u.cell? ⟨wb.heap.size, 0, none⟩ = some (.bool E) ∧ u.cell? ⟨wb.heap.size, 1, none⟩ = some (.int .u32 (N : Int)) ∧ u.cell? ⟨wc.heap.size, 0, none⟩ = some (.bool X) ∧ u.cell? ⟨wc.heap.size, 1, none⟩ = some (.int .u32 (M : Int)) ∧ u.cell? ⟨wd.heap.size, 0, none⟩ = some (.bool X) ∧ u.cell? ⟨wd.heap.size, 1, none⟩ = some (.int .u32 (M : Int)) → Calls Try.prog 20 #[.agg #[.bool e0, .int .u32 (n0 : Int)]] u fun x w' => x = .returned (.string T) ∧ Below wr.heap.size wr w' ∧ w'.cell? ⟨w.heap.size, 0, none⟩ = some (.bool e0) ∧ w'.cell? ⟨w.heap.size, 1, none⟩ = some (.int .u32 (n0 : Int)) ∧ w'.cell? ⟨wa.heap.size, 0, none⟩ = some (.bool E) ∧ w'.cell? ⟨wa.heap.size, 1, none⟩ = some (.int .u32 (N : Int)) ∧ w'.cell? ⟨wb.heap.size, 0, none⟩ = some (.bool E) ∧ w'.cell? ⟨wb.heap.size, 1, none⟩ = some (.int .u32 (N : Int)) ∧ w'.cell? ⟨wc.heap.size, 0, none⟩ = some (.bool X) ∧ w'.cell? ⟨wc.heap.size, 1, none⟩ = some (.int .u32 (M : Int)) ∧ w'.cell? ⟨wd.heap.size, 0, none⟩ = some (.bool X) ∧ w'.cell? ⟨wd.heap.size, 1, none⟩ = some (.int .u32 (M : Int)) from fun u hu => (HTA.out u).mono fun _ _ h => ⟨h.1, HS.out _ (below_trans' hu.1 h.2)⟩)
  have CTB := Lib.hid (show ∀ u, Below wr.heap.size wr u ∧ u.cell? ⟨w.heap.size, 0, none⟩ = some (.bool e0) ∧ u.cell? ⟨w.heap.size, 1, none⟩ = some (.int .u32 (n0 : Int)) ∧ u.cell? ⟨wa.heap.size, 0, none⟩ = some (.bool E) ∧ u.cell? ⟨wa.heap.size, 1, none⟩ = some (.int .u32 (N : Int)) ∧ u.cell? ⟨wb.heap.size, 0, none⟩ = some (.bool E) ∧ u.cell? ⟨wb.heap.size, 1, none⟩ = some (.int .u32 (N : Int)) ∧ u.cell? ⟨wc.heap.size, 0, none⟩ = some (.bool X) ∧ u.cell? ⟨wc.heap.size, 1, none⟩ = some (.int .u32 (M : Int)) ∧ u.cell? ⟨wd.heap.size, 0, none⟩ = some (.bool X) ∧ u.cell? ⟨wd.heap.size, 1, none⟩ = some (.int .u32 (M : Int)) → Calls Try.prog 21 #[.agg #[.bool e0, .int .u32 (n0 : Int)]] u fun x w' => x = .returned (.string T) ∧ Below wr.heap.size wr w' ∧ w'.cell? ⟨w.heap.size, 0, none⟩ = some (.bool e0) ∧ w'.cell? ⟨w.heap.size, 1, none⟩ = some (.int .u32 (n0 : Int)) ∧ w'.cell? ⟨wa.heap.size, 0, none⟩ = some (.bool E) ∧ w'.cell? ⟨wa.heap.size, 1, none⟩ = some (.int .u32 (N : Int)) ∧ w'.cell? ⟨wb.heap.size, 0, none⟩ = some (.bool E) ∧ w'.cell? ⟨wb.heap.size, 1, none⟩ = some (.int .u32 (N : Int)) ∧ w'.cell? ⟨wc.heap.size, 0, none⟩ = some (.bool X) ∧ w'.cell? ⟨wc.heap.size, 1, none⟩ = some (.int .u32 (M : Int)) ∧ w'.cell? ⟨wd.heap.size, 0, none⟩ = some (.bool X) ∧ w'.cell? ⟨wd.heap.size, 1, none⟩ = some (.int .u32 (M : Int)) from fun u hu => (HTB.out u).mono fun _ _ h => ⟨h.1, HS.out _ (below_trans' hu.1 h.2)⟩)
  have CBA := Lib.hid (show ∀ u, Below wr.heap.size wr u ∧ u.cell? ⟨w.heap.size, 0, none⟩ = some (.bool e0) ∧ u.cell? ⟨w.heap.size, 1, none⟩ = some (.int .u32 (n0 : Int)) ∧ u.cell? ⟨wa.heap.size, 0, none⟩ = some (.bool E) ∧ u.cell? ⟨wa.heap.size, 1, none⟩ = some (.int .u32 (N : Int)) ∧ u.cell? ⟨wb.heap.size, 0, none⟩ = some (.bool E) ∧ u.cell? ⟨wb.heap.size, 1, none⟩ = some (.int .u32 (N : Int)) ∧ u.cell? ⟨wc.heap.size, 0, none⟩ = some (.bool X) ∧ u.cell? ⟨wc.heap.size, 1, none⟩ = some (.int .u32 (M : Int)) ∧ u.cell? ⟨wd.heap.size, 0, none⟩ = some (.bool X) ∧ u.cell? ⟨wd.heap.size, 1, none⟩ = some (.int .u32 (M : Int)) → Calls Try.prog 16 #[.agg #[.bool e0, .int .u32 (n0 : Int)], .bool q] u fun x w' => ∃ a c, x = .returned (.slice a L.length c) ∧ Str w'.heap.size w' (.slice a L.length c) L ∧ Below u.heap.size u w' ∧ Below wr.heap.size wr w' ∧ w'.cell? ⟨w.heap.size, 0, none⟩ = some (.bool e0) ∧ w'.cell? ⟨w.heap.size, 1, none⟩ = some (.int .u32 (n0 : Int)) ∧ w'.cell? ⟨wa.heap.size, 0, none⟩ = some (.bool E) ∧ w'.cell? ⟨wa.heap.size, 1, none⟩ = some (.int .u32 (N : Int)) ∧ w'.cell? ⟨wb.heap.size, 0, none⟩ = some (.bool E) ∧ w'.cell? ⟨wb.heap.size, 1, none⟩ = some (.int .u32 (N : Int)) ∧ w'.cell? ⟨wc.heap.size, 0, none⟩ = some (.bool X) ∧ w'.cell? ⟨wc.heap.size, 1, none⟩ = some (.int .u32 (M : Int)) ∧ w'.cell? ⟨wd.heap.size, 0, none⟩ = some (.bool X) ∧ w'.cell? ⟨wd.heap.size, 1, none⟩ = some (.int .u32 (M : Int)) from fun u hu => (HBA.out u).mono (by
    rintro x w' ⟨v, rfl, ho, hb⟩
    obtain ⟨a, c, rfl⟩ := ho.shape
    exact ⟨a, c, rfl, ho.str, hb, HS.out _ (below_trans' hu.1 hb)⟩))
  have CBB := Lib.hid (show ∀ u, Below wr.heap.size wr u ∧ u.cell? ⟨w.heap.size, 0, none⟩ = some (.bool e0) ∧ u.cell? ⟨w.heap.size, 1, none⟩ = some (.int .u32 (n0 : Int)) ∧ u.cell? ⟨wa.heap.size, 0, none⟩ = some (.bool E) ∧ u.cell? ⟨wa.heap.size, 1, none⟩ = some (.int .u32 (N : Int)) ∧ u.cell? ⟨wb.heap.size, 0, none⟩ = some (.bool E) ∧ u.cell? ⟨wb.heap.size, 1, none⟩ = some (.int .u32 (N : Int)) ∧ u.cell? ⟨wc.heap.size, 0, none⟩ = some (.bool X) ∧ u.cell? ⟨wc.heap.size, 1, none⟩ = some (.int .u32 (M : Int)) ∧ u.cell? ⟨wd.heap.size, 0, none⟩ = some (.bool X) ∧ u.cell? ⟨wd.heap.size, 1, none⟩ = some (.int .u32 (M : Int)) → Calls Try.prog 17 #[.agg #[.bool e0, .int .u32 (n0 : Int)], .bool q] u fun x w' => ∃ a c, x = .returned (.slice a L.length c) ∧ Str w'.heap.size w' (.slice a L.length c) L ∧ Below u.heap.size u w' ∧ Below wr.heap.size wr w' ∧ w'.cell? ⟨w.heap.size, 0, none⟩ = some (.bool e0) ∧ w'.cell? ⟨w.heap.size, 1, none⟩ = some (.int .u32 (n0 : Int)) ∧ w'.cell? ⟨wa.heap.size, 0, none⟩ = some (.bool E) ∧ w'.cell? ⟨wa.heap.size, 1, none⟩ = some (.int .u32 (N : Int)) ∧ w'.cell? ⟨wb.heap.size, 0, none⟩ = some (.bool E) ∧ w'.cell? ⟨wb.heap.size, 1, none⟩ = some (.int .u32 (N : Int)) ∧ w'.cell? ⟨wc.heap.size, 0, none⟩ = some (.bool X) ∧ w'.cell? ⟨wc.heap.size, 1, none⟩ = some (.int .u32 (M : Int)) ∧ w'.cell? ⟨wd.heap.size, 0, none⟩ = some (.bool X) ∧ w'.cell? ⟨wd.heap.size, 1, none⟩ = some (.int .u32 (M : Int)) from fun u hu => (HBB.out u).mono (by
    rintro x w' ⟨v, rfl, ho, hb⟩
    obtain ⟨a, c, rfl⟩ := ho.shape
    exact ⟨a, c, rfl, ho.str, hb, HS.out _ (below_trans' hu.1 hb)⟩))
  have CBY := Lib.hid (show ∀ u ax cx ay cy, Str u.heap.size u (.slice ax L.length cx) L → Str u.heap.size u (.slice ay L.length cy) L → Below wr.heap.size wr u ∧ u.cell? ⟨w.heap.size, 0, none⟩ = some (.bool e0) ∧ u.cell? ⟨w.heap.size, 1, none⟩ = some (.int .u32 (n0 : Int)) ∧ u.cell? ⟨wa.heap.size, 0, none⟩ = some (.bool E) ∧ u.cell? ⟨wa.heap.size, 1, none⟩ = some (.int .u32 (N : Int)) ∧ u.cell? ⟨wb.heap.size, 0, none⟩ = some (.bool E) ∧ u.cell? ⟨wb.heap.size, 1, none⟩ = some (.int .u32 (N : Int)) ∧ u.cell? ⟨wc.heap.size, 0, none⟩ = some (.bool X) ∧ u.cell? ⟨wc.heap.size, 1, none⟩ = some (.int .u32 (M : Int)) ∧ u.cell? ⟨wd.heap.size, 0, none⟩ = some (.bool X) ∧ u.cell? ⟨wd.heap.size, 1, none⟩ = some (.int .u32 (M : Int)) → Calls Try.prog 15 #[.slice ax L.length cx, .slice ay L.length cy] u fun x w' => x = .returned (.bool true) ∧ Below wr.heap.size wr w' ∧ w'.cell? ⟨w.heap.size, 0, none⟩ = some (.bool e0) ∧ w'.cell? ⟨w.heap.size, 1, none⟩ = some (.int .u32 (n0 : Int)) ∧ w'.cell? ⟨wa.heap.size, 0, none⟩ = some (.bool E) ∧ w'.cell? ⟨wa.heap.size, 1, none⟩ = some (.int .u32 (N : Int)) ∧ w'.cell? ⟨wb.heap.size, 0, none⟩ = some (.bool E) ∧ w'.cell? ⟨wb.heap.size, 1, none⟩ = some (.int .u32 (N : Int)) ∧ w'.cell? ⟨wc.heap.size, 0, none⟩ = some (.bool X) ∧ w'.cell? ⟨wc.heap.size, 1, none⟩ = some (.int .u32 (M : Int)) ∧ w'.cell? ⟨wd.heap.size, 0, none⟩ = some (.bool X) ∧ w'.cell? ⟨wd.heap.size, 1, none⟩ = some (.int .u32 (M : Int)) from fun u ax cx ay cy h1 h2 hu => (bytes_any _ _ _ L _ _ _ L u h1 h2).mono fun _ _ h => ⟨h.1.trans (by rw [decide_eq_true rfl]), HS.out _ (below_trans' hu.1 h.2)⟩)
  clear HRA HRB HBA HBB HKA HKB HTA HTB
  have k0' := HS.out _ (Below.refl wr.heap.size wr).drew
  simp only [List.append]
  go_region_held3 (fun w' => Below wr.heap.size wr w' ∧ w'.cell? ⟨w.heap.size, 0, none⟩ = some (.bool e0) ∧ w'.cell? ⟨w.heap.size, 1, none⟩ = some (.int .u32 (n0 : Int)) ∧ w'.cell? ⟨wa.heap.size, 0, none⟩ = some (.bool E) ∧ w'.cell? ⟨wa.heap.size, 1, none⟩ = some (.int .u32 (N : Int)) ∧ w'.cell? ⟨wb.heap.size, 0, none⟩ = some (.bool E) ∧ w'.cell? ⟨wb.heap.size, 1, none⟩ = some (.int .u32 (N : Int)) ∧ w'.cell? ⟨wc.heap.size, 0, none⟩ = some (.bool X) ∧ w'.cell? ⟨wc.heap.size, 1, none⟩ = some (.int .u32 (M : Int)) ∧ w'.cell? ⟨wd.heap.size, 0, none⟩ = some (.bool X) ∧ w'.cell? ⟨wd.heap.size, 1, none⟩ = some (.int .u32 (M : Int))) (assumption) (first | (go_at_call 8; refine (CL.out _ (by assumption)).mono ?_; rintro x w1 ⟨rfl, h1⟩) | (go_at_call 13; refine (CRA.out _ (by assumption)).mono ?_; rintro x w2 ⟨rfl, h2⟩) | (go_at_call 14; refine (CRB.out _ (by assumption)).mono ?_; rintro x w3 ⟨rfl, h3⟩) | (go_at_call 16; refine (CBA.out _ (by assumption)).mono ?_; rintro x w4 ⟨ax, cx, rfl, sx, hb4, h4⟩) | (go_at_call 17; refine (CBB.out _ (by assumption)).mono ?_; rintro x w5 ⟨ay, cy, rfl, sy, hb5, h5⟩; have sx5 := sx.on hb5) | (go_at_call 15; refine (CBY.out _ _ _ _ _ sx5 sy (by assumption)).mono ?_; rintro x w6 ⟨rfl, h6⟩) | (go_at_call 18; refine (CKA.out _ (by assumption)).mono ?_; rintro x w7 ⟨rfl, h7⟩) | (go_at_call 19; refine (CKB.out _ (by assumption)).mono ?_; rintro x w8 ⟨rfl, h8⟩) | (go_at_call 20; refine (CTA.out _ (by assumption)).mono ?_; rintro x w9 ⟨rfl, h9⟩) | (go_at_call 21; refine (CTB.out _ (by assumption)).mono ?_; rintro x w10 ⟨rfl, h10⟩))
  have HE := Lib.hid (BD.out.trans (h10.1.mono BD.out.size))
  clear h1 h2 h3 h4 h5 h6 h7 h8 h9 h10 k0' sx sx5 sy hb4 hb5
  go_wp2_with (fail)
  go_ret
  exact ⟨rfl, HE.out⟩
set_option maxRecDepth 100000 in
theorem lifted (os : Os) (started : os.Started) (H : Type) (enc : TypeId × Value → H) :
    ReturnsInHanded {} Try.checked os 3 .any (Rows.identIsSpec.pre6 enc Try.prog Try.f3 Rows.identIsRow.domain false) (Rows.identIsSpec.post enc Try.prog Try.f3 false true false false) := by
  refine returnsInHanded_of_change (C := Try.checked) own started (by kernel_rfl) Try.func3
    (ChangeSpec.witness6 (enc := enc) (C := Try.checked) false ⟨#[], #[.agg #[.bool false, .int .u32 0], .int .u32 0, .string ⟨#[]⟩], []⟩ 8 (by kernel_rfl) (by kernel_rfl) (by kernel_rfl) (by kernel_rfl)) ?_
  intro W base args ds gs before hval0 hW _ _
  have hval : ∀ (j : Nat) t v, Try.f3.params[j]? = some t → args[j]? = some v → Value.okWide Try.prog W .any base t v := hval0
  have hW' := hW
  obtain ⟨p, q, hA0, hV, rfl, hfz, hnd⟩ := hW
  have hA : DataW.TrodAll enc Try.prog W 0 (fun _ => true) true Try.f3.params.toList args.toList ds p := hA0
  rw [Try.params3] at hA hval
  obtain ⟨v0, vs0, d0, ds0, p0, q0, hargs, rfl, rfl, h0, r0⟩ := trodAll_cons hA
  obtain ⟨v1, vs1, d1, ds1, p1, q1, rfl, rfl, rfl, h1, r1⟩ := trodAll_cons r0
  obtain ⟨v2, vs2, d2, ds2, p2, q2, rfl, rfl, rfl, h2, r2⟩ := trodAll_cons r1
  obtain ⟨rfl, rfl, rfl⟩ := trodAll_nil r2
  obtain rfl : args = #[v0, v1, v2] := by cases args; simp_all
  obtain ⟨rfl, rfl⟩ := trodVars_none hV
  have k0 := h0
  have lt0 : ∀ x ∈ p0, x.block < W.heap.size := by obtain ⟨m, hm⟩ := k0; exact DataW.trod_lt m _ _ _ hm
  obtain ⟨e0, n0, rfl, w0⟩ := open_ident (hval 0 24 v0 rfl rfl) h0
  obtain ⟨a1, rfl, rfl, rfl, w1⟩ := open_int Try.underlying22 (hval 1 22 v1 rfl rfl) h1
  obtain ⟨s2, rfl, rfl, rfl, w2⟩ := Go.ChangeMaps.open_string Try.underlying9 (hval 2 9 v2 rfl rfl) h2
  clear hA0 hval0
  refine (walk e0 n0 a1 s2 w0 w1 w2 W).mono fun e W' ⟨he, bel⟩ => ?_
  subst he
  exact ⟨_, rfl, _, _, _, [], _, [], hW', trodAll_mk1 (shut_bool Try.underlying4 _), (trodAll_cons_mk (Below.trod laidOut (by kernel_rfl) (of_decide_eq_true (by kernel_rfl)) k0 bel lt0) (trodAll_cons_mk (shut_int Try.underlying22 w1) (trodAll_cons_mk (Go.ChangeMaps.shut_string Try.underlying9 w2) trodAll_mk0))), rfl, bel.frame _, fun h => by cases h⟩
theorem over : Rows.identIsRow.holds Try.pinned (OpenSpec.ofChange Rows.identIsSpec) :=
  OpenClaim.holds_of_wide 3 Try.f3 rfl rfl rfl rfl rfl rfl rfl ⟨rfl, rfl, rfl, rfl, rfl⟩ rfl rfl rfl rfl rfl (by kernel_rfl) Try.func3 (by kernel_rfl)
    (of_decide_eq_true (by kernel_rfl)) (by unfold Func.isWrapper; first | (rw [if_pos (by decide +kernel)]; kernel_rfl) | (rw [if_neg (by decide +kernel)]; exact ⟨rfl, rfl⟩))
    (fun os started H enc _ => lifted os started H enc)
/-- The statement. -/
theorem proved : Rows.IdentIsSaid := over
end Go.Proofs.Ytodeaddmachcjaa.identIs
