/- The code of package ident (Wins): what it returns. Conditions: an identifier's number is below 2^32. -/
import Derived.Test.YtodeaddmachcjaaDoorBat
import Derived.Deep.DeepCutAuto
import Derived.Deep.RegionWith
namespace Go.Proofs.YtodeaddmachcjaaDoor
open Go.RowKit Go.Shelf
set_option maxHeartbeats 16000000 in
theorem wins_any (e : Bool) (n : Nat) (r : Bool) (f : Bool) (m : Nat) (s : Bool) (hn : n < 4294967296) (hm : m < 4294967296) (w : World) : Calls Tryd.prog 27 #[identV e n, .bool r, identV f m, .bool s] w fun x w' => x = .returned (.bool (winsI e n r f m s)) ∧ Below w.heap.size w w' := by
  have HA := Lib.hid (fun u => right5_any e n u)
  have HC := Lib.hid (fun u => right5_any f m u)
  have HK := Lib.hid (fun u => idkey_any e n r hn u)
  have HL := Lib.hid (fun u => idkey_any f m s hm u)
  obtain ⟨k, hk⟩ : ∃ k, k = idKey e n r := ⟨_, rfl⟩
  obtain ⟨l, hl⟩ : ∃ l, l = idKey f m s := ⟨_, rfl⟩
  have hwi : winsI e n r f m s = (rightI e n && rightI f m && decide (k < l)) := by rw [hk, hl]; rfl
  rw [hwi]
  rw [← hk] at HK
  rw [← hl] at HL
  unfold identV at HA HC HK HL ⊢
  clear hwi hk hl
  obtain ⟨ra, hra⟩ : ∃ ra, ra = rightI e n := ⟨_, rfl⟩
  obtain ⟨rb, hrb⟩ : ∃ rb, rb = rightI f m := ⟨_, rfl⟩
  rw [← hra] at HA ⊢
  rw [← hrb] at HC ⊢
  clear hra hrb
  obtain ⟨ba, bb, hab⟩ : ∃ ba bb, ba = ra ∧ bb = rb := ⟨ra, rb, rfl, rfl⟩
  clear hab
  go_enter Tryd.func27, Tryd.ntmps27
  go_wp2_with (fail)
  obtain ⟨wr, hwr⟩ : ∃ wr, wr = ((w.alloc (.cells #[.bool e, .int .u32 (n : Int)] 24)).alloc (.cells #[.bool f, .int .u32 (m : Int)] 24)) := ⟨_, rfl⟩
  have T0 : Two wr w.heap.size (.bool e) (.int .u32 (n : Int)) := by rw [hwr]; exact (Two.new w (.bool e) (.int .u32 (n : Int)) 24 rfl).more (by simp) _
  have T1 : Two wr (w.heap.size + 1) (.bool f) (.int .u32 (m : Int)) := by rw [hwr]; exact Two.new _ _ _ _ (by simp)
  have hz : w.heap.size + 2 ≤ wr.heap.size := by rw [hwr]; simp
  have hB : Below w.heap.size w wr := by rw [hwr]; exact ((Below.refl _ w).alloc (Nat.le_refl _) _).alloc (by simp) _
  rw [← hwr]
  have HA := Lib.hid (show ∀ u, Below wr.heap.size wr u → Calls Tryd.prog 34 #[.agg #[.bool e, .int .u32 (n : Int)]] u fun x w' => x = .returned (.bool ra) ∧ Below wr.heap.size wr w' from fun u hu => (HA.out u).mono fun _ _ h => ⟨h.1, below_trans' hu h.2⟩)
  have HC := Lib.hid (show ∀ u, Below wr.heap.size wr u → Calls Tryd.prog 34 #[.agg #[.bool f, .int .u32 (m : Int)]] u fun x w' => x = .returned (.bool rb) ∧ Below wr.heap.size wr w' from fun u hu => (HC.out u).mono fun _ _ h => ⟨h.1, below_trans' hu h.2⟩)
  have HK := Lib.hid (show ∀ u, Below wr.heap.size wr u → Calls Tryd.prog 58 #[.agg #[.bool e, .int .u32 (n : Int)], .bool r] u fun x w' => x = .returned (.int .u32 (k : Int)) ∧ Below wr.heap.size wr w' from fun u hu => (HK.out u).mono fun _ _ h => ⟨h.1, below_trans' hu h.2⟩)
  have HL := Lib.hid (show ∀ u, Below wr.heap.size wr u → Calls Tryd.prog 58 #[.agg #[.bool f, .int .u32 (m : Int)], .bool s] u fun x w' => x = .returned (.int .u32 (l : Int)) ∧ Below wr.heap.size wr w' from fun u hu => (HL.out u).mono fun _ _ h => ⟨h.1, below_trans' hu h.2⟩)
  have HT0 := Lib.hid T0; have HT1 := Lib.hid T1; have HB := Lib.hid hB; have HR := Lib.hid (Below.refl wr.heap.size wr)
  obtain ⟨p0, p1, p2, p3⟩ := T0
  obtain ⟨q0, q1, q2, q3⟩ := T1
  clear hwr hB
  go_cut [8] (fun s8 wx => s8 = .bool (ra && rb && decide (k < l)) ∧ Below w.heap.size w wx)
  case first =>
    cases ra <;> cases rb
    all_goals first | (go_region_with (first | (go_at_call 58; have gg := hb3; clear gg; refine (HL.out _ (by first | exact hb3 | exact hb3.drew | exact hb3.drew.drew | exact hb3.drew.drew.drew | exact hb3.drew.drew.drew.drew | exact hb3.drew.drew.drew.drew.drew)).mono ?_; rintro x w5 ⟨rfl, hb4⟩; obtain ⟨p0, p1, p2, p3⟩ := HT0.out.keep hb4 (by omega); obtain ⟨q0, q1, q2, q3⟩ := HT1.out.keep hb4 (by omega)) | (go_at_call 58; refine (HK.out _ (by first | exact hb2 | exact hb2.drew | exact hb2.drew.drew | exact hb2.drew.drew.drew | exact hb2.drew.drew.drew.drew | exact hb2.drew.drew.drew.drew.drew)).mono ?_; rintro x w4 ⟨rfl, hb3⟩; obtain ⟨p0, p1, p2, p3⟩ := HT0.out.keep hb3 (by omega); obtain ⟨q0, q1, q2, q3⟩ := HT1.out.keep hb3 (by omega)) | (go_at_call 34; have gg := hb1; clear gg; refine (HC.out _ (by first | exact hb1 | exact hb1.drew | exact hb1.drew.drew | exact hb1.drew.drew.drew | exact hb1.drew.drew.drew.drew | exact hb1.drew.drew.drew.drew.drew)).mono ?_; rintro x w3 ⟨rfl, hb2⟩; obtain ⟨p0, p1, p2, p3⟩ := HT0.out.keep hb2 (by omega); obtain ⟨q0, q1, q2, q3⟩ := HT1.out.keep hb2 (by omega)) | (go_at_call 34; refine (HA.out _ (by first | exact HR.out | exact HR.out.drew | exact HR.out.drew.drew | exact HR.out.drew.drew.drew | exact HR.out.drew.drew.drew.drew | exact HR.out.drew.drew.drew.drew.drew)).mono ?_; rintro x w2 ⟨rfl, hb1⟩; obtain ⟨p0, p1, p2, p3⟩ := HT0.out.keep hb1 (by omega); obtain ⟨q0, q1, q2, q3⟩ := HT1.out.keep hb1 (by omega)))) | fail
    all_goals (go_wp2_with fail; go_meet; first | exact ⟨by simp, HB.out.trans (hb4.mono (by omega))⟩ | exact ⟨rfl, HB.out.trans (hb2.mono (by omega))⟩ | exact ⟨rfl, HB.out.trans (hb1.mono (by omega))⟩)
  case rest =>
  obtain ⟨rfl, hb⟩ := hcut
  have HX := Lib.hid hb
  clear hb p0 p1 p2 p3 q0 q1 q2 q3
  go_wp2_with fail
  go_ret
  exact ⟨rfl, HX.out⟩
end Go.Proofs.YtodeaddmachcjaaDoor
