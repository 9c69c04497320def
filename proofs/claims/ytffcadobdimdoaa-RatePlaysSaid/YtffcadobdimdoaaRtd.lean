/- slices.Sort at []int64, of at most nine numbers of an array, whole. Conditions: there are not more. -/
import Derived.Test.YtffcadobdimdoaaRtc
namespace Go.Proofs.Ytffcadobdimdoaa
open Go.RowKit
set_option maxHeartbeats 2000000 in
theorem pdq_any (D k : Nat) (T : TypeId) (R : List Int) (z : Int) (hR : R.length = 9) (hk : k ≤ 9) (hk1 : 1 ≤ k) (w : World) (hB : Blk w D T (cI R)) : Calls Try.prog 117 #[.slice (some ⟨D, 0, none⟩) k 9, .int .i64 0, .int .i64 (k : Int), .int .i64 z] w fun y w' => y = .returned (.tuple #[]) ∧ ∃ R', SrI R k k R' ∧ Blk w' D T (cI R') ∧ Kp D (.slice none 0 0) w w' := by
  have HI := Lib.hid (isort_any D k T R hR hk hk1 w hB)
  have k1 : (k : Int) ≤ 12 := by omega
  have k2 : wrap64 ((k : Int) - 0) = (k : Int) := (w64_in _ (by omega)).trans (by omega)
  have k3 : IntKind.i64.wrap ((k : Int) - 0) = (k : Int) := by rw [IntKind.wrap_i64]; omega
  have k4 : wrap64 (k : Int) = (k : Int) := w64_in _ (by omega)
  have k5 : k ≤ 12 := by omega
  clear hB hR hk hk1
  go_enter Try.func117, Try.ntmps117
  go_wp2_with fail
  go_loopw [1, 2] (fun s1 s2 wr => s1 = .int .i64 0 ∧ s2 = .int .i64 (k : Int) ∧ wr = w) (fun _ _ _ => 0)
  case atStart => exact ⟨rfl, rfl, rfl⟩
  case round =>
    obtain ⟨rfl, rfl, rfl⟩ := hrel
    go_wp2_with fail
    refine HI.out.mono ?_
    rintro y w1 ⟨rfl, hq⟩
    have HQ := Lib.hid hq
    clear hq
    go_wp2_with fail
    first
      | (go_end0; exact ⟨rfl, HQ.out⟩)
      | exact bodyPost_ret (v := .tuple #[]) (by simp [results, Try.results117, go_sem]) rfl ⟨rfl, HQ.out⟩
set_option maxHeartbeats 2000000 in
theorem sort_any (D k : Nat) (T : TypeId) (R : List Int) (hR : R.length = 9) (hk : k ≤ 9) (hk1 : 1 ≤ k) (w : World) (hB : Blk w D T (cI R)) : Calls Try.prog 71 #[.slice (some ⟨D, 0, none⟩) k 9] w fun y w' => y = .returned (.tuple #[]) ∧ ∃ R', SrI R k k R' ∧ Blk w' D T (cI R') ∧ Kp D (.slice none 0 0) w w' := by
  have HL := Lib.hid (fun u => Try.bits_Len (k : Int) u (by omega) (by omega))
  have HI := Lib.hid (fun z => pdq_any D k T R z hR hk hk1 w hB)
  have k4 : wrap64 (k : Int) = (k : Int) := w64_in _ (by omega)
  have k5 : IntKind.u64.wrap (k : Int) = (k : Int) := by simp [IntKind.wrap, IntKind.signed, IntKind.bits]; omega
  clear hB hR hk hk1
  go_enter Try.func71, Try.ntmps71
  go_wp2_with fail
  refine (HL.out _).mono ?_
  rintro y w1 ⟨rfl, rfl⟩
  go_wp2_with fail
  refine (HI.out _).mono ?_
  rintro y w1 ⟨rfl, hq⟩
  have HQ := Lib.hid hq
  clear hq
  go_wp2_with fail
  go_end0
  exact ⟨rfl, HQ.out⟩
end Go.Proofs.Ytffcadobdimdoaa
