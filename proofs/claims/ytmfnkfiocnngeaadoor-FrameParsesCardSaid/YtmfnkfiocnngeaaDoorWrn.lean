/- So many bits as are gone through (Few); and the form of what Decode answers. Conditions: a string is a string. -/
import Derived.Test.YtmfnkfiocnngeaaDoorWrm
import Derived.Test.YtmfnkfiocnngeaaDoorOpe
namespace Go.Proofs.YtmfnkfiocnngeaaDoor
open Go.RowKit Go.Shelf
theorem few3_any (a : Option Addr) (len cap : Nat) (bs : List Nat) (w : World) (hI : Str w.heap.size w (.slice a len cap) bs) :
    Calls Tryd.prog 21 #[.slice a len cap] w fun e w' => (∃ a' len' cap', e = .returned (.slice a' len' cap') ∧ Str w.heap.size w (.slice a' len' cap') (bs.take 200)) ∧ w = w' := by
  have hl := hI.len
  have hc := hI.lenCap
  have hcm := hI.capLe
  by_cases h : 200 < len
  · have ht := hI.take (k := 200) (by omega)
    have HT := Lib.hid ht
    clear ht hI
    rw [← hl] at hc
    clear hl
    go_enter Tryd.func21, Tryd.ntmps21
    go_wp2
    go_ret
    exact ⟨⟨_, _, _, rfl, HT.out⟩, rfl⟩
  · have ht : bs.take 200 = bs := List.take_of_length_le (by omega)
    have HI := Lib.hid hI
    clear hI hl hc
    go_enter Tryd.func21, Tryd.ntmps21
    go_wp2
    go_ret
    exact ⟨⟨_, _, _, rfl, by rw [ht]; exact HI.out⟩, rfl⟩
theorem parse_len {l : List Nat} {e : Bool} {n : Nat} {r : Bool} {len : Nat} {data : List Nat} {k : Nat} (h : parseB l = .ok (e, n, r, len, data, k)) : data.length = 8 := by
  unfold parseB at h
  split at h
  · cases h
  · split at h
    · cases h
    · split at h
      · cases h
      · split at h
        · split at h
          · injection h with h; injection h with _ h; injection h with _ h; injection h with _ h; injection h with _ h; injection h with h _; rw [← h]; simp [dataOf]
          · injection h with h; injection h with _ h; injection h with _ h; injection h with _ h; injection h with _ h; injection h with h _; rw [← h]; simp [dataOf]
        · cases h
theorem frOf_form (p : Except Nat (Bool × Nat × Bool × Nat × List Nat × Nat)) (hp : ∀ e n r len data k, p = .ok (e, n, r, len, data, k) → data.length = 8) : ∃ (e : Bool) (n : Nat) (r : Bool) (m : Nat) (data : List Nat), frOf p = frameV e n r (m : Int) data ∧ data.length = 8 := by
  cases p with
  | error c => exact ⟨false, 0, false, 0, [0, 0, 0, 0, 0, 0, 0, 0], rfl, rfl⟩
  | ok t =>
    obtain ⟨e, n, r, len, data, k⟩ := t
    exact ⟨e, n, r, len, data, rfl, hp _ _ _ _ _ _ rfl⟩
theorem dc_form (l : List Nat) : ∃ (e : Bool) (n : Nat) (r : Bool) (m : Nat) (data : List Nat), dcV l = .tuple #[frameV e n r (m : Int) data, .int .i64 ((decB l).2.1 : Nat), .int .i64 ((decB l).1 : Nat)] ∧ data.length = 8 ∧ frOf (if (decB l).1 = 0 then parseB (decB l).2.2 else .error 0) = frameV e n r (m : Int) data := by
  obtain ⟨e, n, r, m, data, h1, h2⟩ := frOf_form (if (decB l).1 = 0 then parseB (decB l).2.2 else .error 0) (fun e n r len data k h => by
    split at h
    · exact parse_len h
    · cases h)
  exact ⟨e, n, r, m, data, by unfold dcV; rw [h1], h2, h1⟩
end Go.Proofs.YtmfnkfiocnngeaaDoor
