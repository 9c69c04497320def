/- What the text 0a is worth as a number of base 16. No conditions. -/
import Derived.Test.YtmfnkfiocnngeaaDoorBat
import Derived.Laws.IdiomStrings
namespace Go.Proofs.YtmfnkfiocnngeaaDoor
open Go.RowKit Go.Shelf
def t0a : ByteArray := ⟨#[48, 97]⟩
theorem lower97 (w : World) : Calls Tryd.prog 133 #[.int .u8 97] w fun y w' => y = .returned (.int .u8 97) ∧ w = w' := by
  go_enter Tryd.func133, Tryd.ntmps133
  go_wp2_with fail
  go_ret
  exact ⟨rfl, rfl⟩
set_option maxRecDepth 100000 in
set_option maxHeartbeats 4000000 in
theorem pu0a (w : World) : Calls Tryd.prog 117 #[.string ⟨#[48, 97]⟩, .int .i64 16, .int .i64 8] w fun y w' => y = .returned (.tuple #[.int .u64 10, .nilIface]) ∧ Below w.heap.size w w' := by
  have hcv : ∀ u : World, Sem.run Tryd.prog (convert 9 34 (.string ⟨#[48, 97]⟩)) u = _ := fun u => run_bytes_of_string (P := Tryd.prog) u 9 34 5 ⟨#[48, 97]⟩ (by kernel_rfl) (by kernel_rfl) (by kernel_rfl)
  go_enter Tryd.func117, Tryd.ntmps117
  go_wp2_with fail
  obtain ⟨cp, hcp⟩ : ∃ cp, cp = grownCap w 2 0 5 := ⟨_, rfl⟩
  rw [← hcp]
  obtain ⟨X, hX⟩ : ∃ X, X = (w.alloc (.cells (bytesRow ⟨#[48, 97]⟩ cp) 5 ((bytesRow ⟨#[48, 97]⟩ cp).size, (bytesRow ⟨#[48, 97]⟩ cp).size + 1))).drew := ⟨_, rfl⟩
  have HX := Lib.hid (show Below w.heap.size w X by rw [hX]; exact ((Below.refl _ w).alloc (Nat.le_refl _) _).drew)
  have HSX := Lib.hid (show w.heap.size < X.heap.size by
    rw [hX]
    show w.heap.size < (w.heap.push _).size
    rw [Array.size_push]
    omega)
  have hblk : X.heap[w.heap.size]? = some (.cells (bytesRow ⟨#[48, 97]⟩ cp) 5 ((bytesRow ⟨#[48, 97]⟩ cp).size, (bytesRow ⟨#[48, 97]⟩ cp).size + 1)) := by
    rw [hX]
    show (w.heap.push _)[w.heap.size]? = _
    rw [Array.getElem?_push_size]
  have b0 := bytesRow_at ⟨#[48, 97]⟩ cp 0 (by decide)
  have b1 := bytesRow_at ⟨#[48, 97]⟩ cp 1 (by decide)
  have HC0 := Lib.hid (show X.cell? ⟨w.heap.size, 0, none⟩ = some (.int .u8 48) by unfold World.cell?; simp only [hblk]; exact b0)
  have HC1 := Lib.hid (show X.cell? ⟨w.heap.size, 1, none⟩ = some (.int .u8 97) by unfold World.cell?; simp only [hblk]; exact b1)
  rw [← hX]
  clear hX hcp b0 b1 hcv hblk
  go_loopw [101, 12, 13] (fun i us n wr => ∃ j : Nat, j ≤ 2 ∧ i = .int .i64 (j : Int) ∧ us = .bool false ∧ n = .int .u64 ((if j = 2 then 10 else 0 : Nat) : Int) ∧ Below X.heap.size X wr) (fun i _ _ _ => 2 - (intOf i).toNat)
  case atStart => exact ⟨0, by omega, rfl, rfl, rfl, Below.refl _ _⟩
  case round =>
    obtain ⟨j, hj, rfl, rfl, rfl, hb⟩ := hrel
    have hlt : w.heap.size < X.heap.size := HSX.out
    have c0 := (hb.cell (p := ⟨w.heap.size, 0, none⟩) hlt).trans HC0.out
    have c1 := (hb.cell (p := ⟨w.heap.size, 1, none⟩) hlt).trans HC1.out
    have HB := Lib.hid hb
    clear hb hlt
    obtain rfl | rfl | rfl : j = 0 ∨ j = 1 ∨ j = 2 := by omega
    · go_wp2_with fail
      go_roundw
      case rel => exact ⟨1, by omega, rfl, rfl, rfl, HB.out⟩
      case measure => simp [intOf]
    · go_wp2_with fail
      refine (lower97 _).mono ?_
      rintro y w2 ⟨rfl, rfl⟩
      go_wp2_with fail
      refine (lower97 _).mono ?_
      rintro y w2 ⟨rfl, rfl⟩
      go_wp2_with fail
      refine (lower97 _).mono ?_
      rintro y w2 ⟨rfl, rfl⟩
      go_wp2_with fail
      go_roundw
      case rel => exact ⟨2, by omega, rfl, rfl, rfl, HB.out⟩
      case measure => simp [intOf]
    · go_wp2_with fail
      exact bodyPost_ret (v := .tuple #[.int .u64 10, .nilIface]) (by simp [results, Tryd.results117, go_sem]) rfl ⟨rfl, HX.out.trans (HB.out.mono HX.out.size)⟩
theorem pub0a (w : World) : Calls Tryd.prog 88 #[.string ⟨#[48, 97]⟩, .int .i64 16, .int .i64 8] w fun y w' => y = .returned (.tuple #[.int .u64 10, .nilIface]) ∧ Below w.heap.size w w' := by
  go_enter Tryd.func88, Tryd.ntmps88
  go_wp2_with fail
  refine (pu0a _).mono ?_
  rintro y w2 ⟨rfl, hb⟩
  have HB := Lib.hid hb
  clear hb
  go_wp2_with fail
  exact bodyPost_ret (v := .tuple #[.int .u64 10, .nilIface]) (by simp [results, Tryd.results88, go_sem]) rfl ⟨rfl, HB.out⟩
theorem worth0a (w : World) : Calls Tryd.prog 43 #[.string ⟨#[48, 97]⟩, .int .i64 16] w fun y w' => y = .returned (.int .i64 10) ∧ Below w.heap.size w w' := by
  go_enter Tryd.func43, Tryd.ntmps43
  go_wp2_with fail
  refine (pub0a _).mono ?_
  rintro y w2 ⟨rfl, hb⟩
  have HB := Lib.hid hb
  clear hb
  go_wp2_with fail
  go_ret
  exact ⟨rfl, HB.out⟩
end Go.Proofs.YtmfnkfiocnngeaaDoor
