/- Who sends: what a bit brings that is there instead of the one that was sent, or as it. No conditions. -/
import Derived.Test.YtmfnkfiocnngeaaDoorLie
namespace Go.Proofs.YtmfnkfiocnngeaaDoor
open Go.RowKit Go.Shelf
theorem STN {u : World} {x : Nat} {T : TypeId} {N : Nat} (h : N = u.heap.size) : Str (u.alloc (.cells #[.int .u8 (x : Int)] T)).heap.size (u.alloc (.cells #[.int .u8 (x : Int)] T)) (.slice (some ⟨N, 0, none⟩) 1 1) [x] := by rw [h]; exact str_one u x T
theorem STA {u : World} {v : Value} {l : List Nat} (o : Obj) (h : Str u.heap.size u v l) : Str (u.alloc o).heap.size (u.alloc o) v l := h.on ((Below.refl _ _).alloc (Nat.le_refl _) _)
theorem STD {u : World} {v : Value} {l : List Nat} (h : Str u.heap.size u v l) : Str u.drew.heap.size u.drew v l := h.on (Below.refl _ _).drew
/-- What a bit brings: fine 0, lost 1, another bit 2, another one put between 3, no answer 4, done 5. -/
def verd (b : Nat) (a e s l : Bool) (x : Nat) : Nat :=
  if s = true ∧ bitN x = 1 then 4 else if bitN x = bitN b ∧ l = true then 5 else if bitN x = bitN b ∨ s = true then 0 else if bitN x = 1 ∨ a = false then 2 else if e = true then 3 else 1
set_option maxRecDepth 100000 in
set_option maxHeartbeats 8000000 in
theorem pheard_any (b : Nat) (a e s l : Bool) (x : Nat) (w : World) : Calls Tryd.prog 77 #[.agg #[.int .u8 (b : Int), .bool a, .bool e, .bool s, .bool l], .int .u8 (x : Int)] w fun y w' => y = .returned (.int .i64 (verd b a e s l x : Nat)) ∧ Below w.heap.size w w' := by
  obtain ⟨one, hone⟩ : ∃ one, one = decide (bitN x = 1) := ⟨_, rfl⟩
  obtain ⟨al, hal⟩ : ∃ al, al = decide (bitN x = bitN b) := ⟨_, rfl⟩
  obtain ⟨V, hV⟩ : ∃ V, V = verd b a e s l x := ⟨_, rfl⟩
  rw [← hV]
  obtain ⟨nx, hnx⟩ : ∃ nx, nx = numB (bitsOf [x]) := ⟨_, rfl⟩
  have HN := Lib.hid (show ∀ u A, Str u.heap.size u (.slice A 1 1) [x] → Calls Tryd.prog 110 #[.slice A 1 1] u fun y w' => y = .returned (.int .u64 (nx : Nat)) ∧ Below u.heap.size u w' from fun u A hs => by
    have h := number_any A 1 1 [x] (by simp) u hs
    rw [← hnx] at h
    exact h)
  have HM := Lib.hid (show ∀ u A A2, Str u.heap.size u (.slice A 1 1) [x] → Str u.heap.size u (.slice A2 1 1) [b] → Calls Tryd.prog 98 #[.slice A 1 1, .slice A2 1 1] u fun y w' => y = .returned (.bool al) ∧ Below u.heap.size u w' from fun u A A2 hs hs2 => by
    have h := same_any A 1 1 [x] A2 1 1 [b] (by simp) u hs hs2
    rw [show sameV [x] [b] = al by rw [hal]; unfold sameV; simp [bitsOf]] at h
    exact h)
  have j1 : ((nx : Int) == 1) = one := by
    have e0 : numB (bitsOf [x]) = bitN x := by
      have h := bitN_le x
      show (2 * 0 + bitN x) % 18446744073709551616 = _
      omega
    rw [hone, Bool.eq_iff_iff, beq_iff_eq, decide_eq_true_iff, hnx, e0]; omega
  have HV := Lib.hid (show V = if s = true ∧ one = true then 4 else if al = true ∧ l = true then 5 else if al = true ∨ s = true then 0 else if one = true ∨ a = false then 2 else if e = true then 3 else 1 by
    rw [hV, hone, hal]; unfold verd; simp only [decide_eq_true_iff])
  clear hone hal hV hnx
  obtain ⟨W0, hW0⟩ : ∃ W0, W0 = w.alloc (.cells #[.int .u8 (b : Int), .bool a, .bool e, .bool s, .bool l] 104) := ⟨_, rfl⟩
  have HS0 := Lib.hid (show ∀ u, Below W0.heap.size W0 u → (Below w.heap.size w u ∧ u.cell? ⟨w.heap.size, 0, none⟩ = some (.int .u8 (b : Int)) ∧ u.cell? ⟨w.heap.size, 1, none⟩ = some (.bool a) ∧ u.cell? ⟨w.heap.size, 2, none⟩ = some (.bool e) ∧ u.cell? ⟨w.heap.size, 3, none⟩ = some (.bool s) ∧ u.cell? ⟨w.heap.size, 4, none⟩ = some (.bool l)) from fun u hu => by
    have hb : Below (w.heap.size + 1) W0 u := hu.mono (by rw [hW0]; simp)
    have hbw : Below w.heap.size w u := by
      have h0 : Below w.heap.size w W0 := by rw [hW0]; exact (Below.refl _ w).alloc (Nat.le_refl _) _
      exact h0.trans (hu.mono h0.size)
    refine ⟨hbw, ?_, ?_, ?_, ?_, ?_⟩
    all_goals
      rw [World.cell?_of_block (hu.block w.heap.size (by rw [hW0]; simp)), hW0]
      simp)
  have c8 := HS0.out _ (Below.refl _ _)
  have c9 := HS0.out _ (Below.refl _ _).drew
  go_enter Tryd.func77, Tryd.ntmps77
  go_upto_region 1 with fail
  rw [← hW0]
  clear hW0
  go_cut [5, 6] (fun s5 s6 wx => s5 = .bool one ∧ s6 = .bool al ∧ (Below w.heap.size w wx ∧ wx.cell? ⟨w.heap.size, 0, none⟩ = some (.int .u8 (b : Int)) ∧ wx.cell? ⟨w.heap.size, 1, none⟩ = some (.bool a) ∧ wx.cell? ⟨w.heap.size, 2, none⟩ = some (.bool e) ∧ wx.cell? ⟨w.heap.size, 3, none⟩ = some (.bool s) ∧ wx.cell? ⟨w.heap.size, 4, none⟩ = some (.bool l)))
  case first =>
    have HZ := Lib.hid (show ∀ u, Below W0.heap.size W0 u → (Below W0.heap.size W0 u ∧ u.cell? ⟨w.heap.size, 0, none⟩ = some (.int .u8 (b : Int))) from fun u hu => ⟨hu, (HS0.out u hu).2.1⟩)
    have HZA := Lib.hid (show ∀ u o, (Below W0.heap.size W0 u ∧ u.cell? ⟨w.heap.size, 0, none⟩ = some (.int .u8 (b : Int))) → (Below W0.heap.size W0 (u.alloc o) ∧ (u.alloc o).cell? ⟨w.heap.size, 0, none⟩ = some (.int .u8 (b : Int))) from fun u o h => HZ.out _ (h.1.alloc h.1.size o))
    have HZD := Lib.hid (show ∀ u, (Below W0.heap.size W0 u ∧ u.cell? ⟨w.heap.size, 0, none⟩ = some (.int .u8 (b : Int))) → (Below W0.heap.size W0 u.drew ∧ u.drew.cell? ⟨w.heap.size, 0, none⟩ = some (.int .u8 (b : Int))) from fun u h => HZ.out _ h.1.drew)
    have HZC := Lib.hid (show ∀ u u', (Below W0.heap.size W0 u ∧ u.cell? ⟨w.heap.size, 0, none⟩ = some (.int .u8 (b : Int))) → Below u.heap.size u u' → (Below W0.heap.size W0 u' ∧ u'.cell? ⟨w.heap.size, 0, none⟩ = some (.int .u8 (b : Int))) from fun u u' h hb => HZ.out _ (h.1.trans (hb.mono h.1.size)))
    have z0 := HZ.out _ (Below.refl _ _)
    have z1 := HZ.out _ (Below.refl _ _).drew
    clear c8 c9
    go_region_held3 (fun u => (Below W0.heap.size W0 u ∧ u.cell? ⟨w.heap.size, 0, none⟩ = some (.int .u8 (b : Int)))) (repeat (first | (with_reducible assumption) | (with_reducible refine HZA.out _ _ ?_) | (with_reducible refine HZD.out _ ?_))) (first | (go_at_call 110; refine (HN.out _ _ (by repeat (first | ((with_reducible refine STN ?_); (first | rfl | (simp; done))) | (with_reducible refine STA _ ?_) | (with_reducible refine STD ?_) | (with_reducible refine Str.on ?_ hb3)))).mono ?_; rintro y3 w3 ⟨rfl, hb3⟩; have h3S := HZC.out _ _ (by repeat (first | (with_reducible assumption) | (with_reducible refine HZA.out _ _ ?_) | (with_reducible refine HZD.out _ ?_))) hb3) | (go_at_call 98; refine (HM.out _ _ _ (by repeat (first | ((with_reducible refine STN ?_); (first | rfl | (simp; done))) | (with_reducible refine STA _ ?_) | (with_reducible refine STD ?_) | (with_reducible refine Str.on ?_ hb3))) (by repeat (first | ((with_reducible refine STN ?_); (first | rfl | (simp; done))) | (with_reducible refine STA _ ?_) | (with_reducible refine STD ?_) | (with_reducible refine Str.on ?_ hb3)))).mono ?_; rintro y4 w4 ⟨rfl, hb4⟩; have h4S := HZC.out _ _ (by repeat (first | (with_reducible assumption) | (with_reducible refine HZA.out _ _ ?_) | (with_reducible refine HZD.out _ ?_))) hb4))
    all_goals (go_wp2_with fail; go_meet; exact ⟨rfl, rfl, HS0.out _ h4S.1⟩)
  case rest =>
  obtain ⟨rfl, rfl, hB, c0, c1, c2, c3, c4⟩ := hcut
  have HB := Lib.hid hB
  clear hB c8 c9
  cases s <;> cases one <;> cases al <;> cases l <;> cases a <;> cases e
  all_goals
    go_wp2_with fail
    go_ret
    exact ⟨by rw [HV.out]; rfl, HB.out⟩
end Go.Proofs.YtmfnkfiocnngeaaDoor
