/- The code of package inbox: a new one, what is laid in, what is taken out. Conditions: not more than a thousand frames wait. -/
import Derived.Test.YtmlnobiakfapcabInb
namespace Go.Proofs.Ytmlnobiakfapcab
open Go.RowKit
theorem info_filter : (Try.prog.info? 153).map (fun i => (i.zero.map (·.cells.size), i.size, i.bytes)) = some (some 3, 3, 12) := by kernel_rfl
theorem info_stamped : (Try.prog.info? 48).map (fun i => (i.zero.map (·.cells.size), i.size, i.bytes)) = some (some 14, 14, 48) := by kernel_rfl
theorem info_zparts {P : Program} {T : TypeId} {a b c : Nat} (h : (P.info? T).map (fun i => (i.zero.map (·.cells.size), i.size, i.bytes)) = some (some a, b, c)) : ∃ i z, P.info? T = some i ∧ i.zero = some z ∧ z.cells.size = a ∧ i.size = b ∧ i.bytes = c := by
  cases hi : P.info? T with
  | none => rw [hi] at h; cases h
  | some i =>
    rw [hi] at h
    simp only [Option.map_some, Option.some.injEq, Prod.mk.injEq] at h
    obtain ⟨h1, h2, h3⟩ := h
    cases hz : i.zero with
    | none => rw [hz] at h1; cases h1
    | some z =>
      rw [hz] at h1
      exact ⟨i, z, rfl, hz, by simpa using h1, h2, h3⟩
theorem fl_flat {L : List Fl} : ∀ u ∈ flC L, u.oneCell' = true := by
  intro u hu
  obtain ⟨f, _, hf⟩ := List.mem_flatMap.1 hu
  simp only [Fl.C, List.mem_cons, List.not_mem_nil, or_false] at hf
  rcases hf with rfl | rfl | rfl <;> rfl
theorem sd_flat (s : SD) : ∀ u ∈ s.C, u.oneCell' = true := by
  intro u hu
  simp only [SD.C, List.mem_cons, List.not_mem_nil, or_false] at hu
  rcases hu with rfl | rfl | rfl | rfl | rfl | rfl | rfl | rfl | rfl | rfl | rfl | rfl | rfl | rfl <;> rfl
theorem Blk.set14 {W : World} {B : Nat} {T : TypeId} {l : List Value} (h : Blk W B T l) (hl : l.length = 14) (v0 v1 v2 v3 v4 v5 v6 v7 v8 v9 v10 v11 v12 v13 : Value) : Blk ((((((((((((((W.setCell ⟨B, 0, none⟩ (v0)).setCell ⟨B, 1, none⟩ (v1)).setCell ⟨B, 2, none⟩ (v2)).setCell ⟨B, 3, none⟩ (v3)).setCell ⟨B, 4, none⟩ (v4)).setCell ⟨B, 5, none⟩ (v5)).setCell ⟨B, 6, none⟩ (v6)).setCell ⟨B, 7, none⟩ (v7)).setCell ⟨B, 8, none⟩ (v8)).setCell ⟨B, 9, none⟩ (v9)).setCell ⟨B, 10, none⟩ (v10)).setCell ⟨B, 11, none⟩ (v11)).setCell ⟨B, 12, none⟩ (v12)).setCell ⟨B, 13, none⟩ (v13)) B T [v0, v1, v2, v3, v4, v5, v6, v7, v8, v9, v10, v11, v12, v13] :=
  h.set [v0, v1, v2, v3, v4, v5, v6, v7, v8, v9, v10, v11, v12, v13] (by rw [hl]; rfl)
theorem below14 {n B : Nat} {base W : World} (hB : n ≤ B) (h : Below n base W) (v0 v1 v2 v3 v4 v5 v6 v7 v8 v9 v10 v11 v12 v13 : Value) : Below n base ((((((((((((((W.setCell ⟨B, 0, none⟩ (v0)).setCell ⟨B, 1, none⟩ (v1)).setCell ⟨B, 2, none⟩ (v2)).setCell ⟨B, 3, none⟩ (v3)).setCell ⟨B, 4, none⟩ (v4)).setCell ⟨B, 5, none⟩ (v5)).setCell ⟨B, 6, none⟩ (v6)).setCell ⟨B, 7, none⟩ (v7)).setCell ⟨B, 8, none⟩ (v8)).setCell ⟨B, 9, none⟩ (v9)).setCell ⟨B, 10, none⟩ (v10)).setCell ⟨B, 11, none⟩ (v11)).setCell ⟨B, 12, none⟩ (v12)).setCell ⟨B, 13, none⟩ (v13)) :=
  Go.below_setCells hB [v0, v1, v2, v3, v4, v5, v6, v7, v8, v9, v10, v11, v12, v13] 0 W h
set_option maxHeartbeats 1000000 in
theorem fclone_any (L : List Fl) (a : Option Addr) (len cap : Nat) (hl : L.length ≤ 1000) (w : World) (hR : Rd w 3 (.slice a len cap) (flC L)) :
    Calls Try.prog 80 #[.slice a len cap] w fun y w' => ∃ fv, y = .returned fv ∧ Rd w' 3 fv (flC L) ∧ (∀ g, fv.ownBlock = some g → w.heap.size ≤ g ∧ g < w'.heap.size) ∧ Below w.heap.size w w' := by
  obtain rfl := hR.len3
  cases a with
  | none =>
    have h0 : L = [] := by
      obtain ⟨n', cap', a', e, h1, h2, h3, h4⟩ := hR
      injection e with e1 e2 e3
      subst e1 e2 e3
      rcases h4 with h5 | ⟨g, off, h5, _⟩
      · exact List.eq_nil_of_length_eq_zero h5
      · cases h5
    subst h0
    clear hR
    have hq : ∀ u : World, (binOp .eql 78 (.slice none 0 cap) (.slice none 0 0)).run Try.prog u = .ok (.bool true) u := fun u => Go.run_eql_slice_nil u 78 153 none 0 cap Try.underlying78
    go_enter Try.func80, Try.ntmps80
    go_wp2_with fail
    go_ret
    exact ⟨.slice none 0 0, rfl, (Rw.nil _ 3).rd, fun g hg => (by cases hg), Below.refl _ _⟩
  | some ad =>
    have hq : ∀ u : World, (binOp .eql 78 (.slice (some ad) L.length cap) (.slice none 0 0)).run Try.prog u = .ok (.bool false) u := fun u => Go.run_eql_slice_nil u 78 153 (some ad) L.length cap Try.underlying78
    obtain ⟨i0, z0, hi, hz, hzc, hsz, hby⟩ := info_zparts info_filter
    have hnews : ∀ j u, (flC L)[j]? = some u → ∀ X, Below w.heap.size w X → X.cell? (ad.add j) = some u := by
      intro j u hj X hX
      obtain ⟨n', cap', a', e, h1, h2, h3, h4⟩ := hR
      obtain ⟨e1, e2, e3⟩ := Value.slice.inj e
      rw [← e2] at h1 h4
      rw [← e1] at h4
      rcases h4 with h5 | ⟨g, off, h5, hg, hc⟩
      · have := (List.getElem?_eq_some_iff.1 hj).1
        rw [h1, h5] at this
        omega
      · obtain rfl : ad = ⟨g, off, none⟩ := Option.some.inj h5
        rw [Addr.add_lit]
        exact (hX.cell (p := ⟨g, off + j, none⟩) hg).trans (hc j u hj)
    have HN := Lib.hid hnews
    clear hnews hR
    have hnew : ∀ T, Rw (w.alloc (.cells #[] T)) 3 (.slice (some ⟨w.heap.size, 0, none⟩) 0 0) [] := fun T =>
      ⟨0, 0, _, rfl, by simp, Nat.le_refl _, Nat.zero_le _, .inr ⟨w.heap.size, 0, rfl, by simp, fun j hj => by omega, fun j u hj => by simp at hj⟩⟩
    go_enter Try.func80, Try.ntmps80
    go_wp2_with (at_builtin; refine wpList_append_rw _ rfl _ _ 78 78 rfl 153 i0 z0 3 12 Try.underlying78 hi hz hsz hby hzc _ 0 0 [] rfl (hnew _) _ rfl L.length (flC L) (Src.ofSlice _ Try.underlying78 ad L.length cap (flC L) (flC_len L) (fun j u hj => HN.out j u hj _ ((Below.refl _ w).alloc (Nat.le_refl _) _)) fl_flat) (.inr (by simp)) (by omega) (by decide) ?_)
    intro g off cap' w3 hrow hkp _ hlies
    have HB := Lib.hid (show Below w.heap.size w w3 from ((Below.refl _ w).alloc (Nat.le_refl _) (.cells #[] 153)).trans ((hkp w.heap.size).below (by simp) (fun k hk => by have e : w.heap.size = k := Option.some.inj hk; omega)))
    have HG := Lib.hid (show w.heap.size ≤ g ∧ g < w3.heap.size from ⟨by
      rcases hlies with h | h
      · have e : w.heap.size = g := Option.some.inj h
        omega
      · rw [h]; simp, hrow.lt g rfl⟩)
    have HR := Lib.hid hrow.rd
    clear hrow hkp hlies hnew
    go_wp2_with fail
    go_ret
    refine ⟨_, rfl, HR.out, fun g' hg' => ?_, HB.out⟩
    · have e : g = g' := by simpa [Value.ownBlock] using hg'
      subst e
      exact HG.out
set_option maxHeartbeats 1000000 in
theorem inew_any (room : Nat) (h1 : 1 ≤ room) (h2 : room ≤ 16) (F : List Fl) (a : Option Addr) (len cap : Nat) (hl : F.length ≤ 8) (w : World) (hR : Rd w 3 (.slice a len cap) (flC F)) :
    Calls Try.prog 45 #[.int .i64 (room : Int), .slice a len cap] w fun y w' => ∃ B fv, y = .returned (.tuple #[.pointer (some ⟨B, 0, none⟩), .int .i64 0]) ∧ w.heap.size ≤ B ∧ IA w' 155 B room F fv [] (.slice none 0 0) false ∧ (∀ g, fv.ownBlock = some g → w.heap.size ≤ g) ∧ Below w.heap.size w w' := by
  have HC := Lib.hid (fclone_any F a len cap (by omega) w hR)
  obtain rfl := hR.len3
  have i1 : ¬ (room : Int) < 1 := by omega
  have i2 : ¬ (16 : Int) < (room : Int) := by omega
  have i3 : ¬ (8 : Int) < (F.length : Int) := by omega
  clear hR
  go_enter Try.func45, Try.ntmps45
  go_wp2_with fail
  refine HC.out.mono ?_
  rintro y w1 ⟨fv, rfl, hrd, hg, hb⟩
  obtain ⟨fa, fn, fcap, rfl⟩ : ∃ fa fn fcap, fv = .slice fa fn fcap := by
    obtain ⟨n', cap', a', e, _⟩ := hrd
    exact ⟨a', n', cap', e⟩
  have HR := Lib.hid hrd; have HG := Lib.hid hg; have HB := Lib.hid hb
  clear hrd hg hb
  go_wp2_with fail
  refine bodyPost_ret (v := .tuple #[.pointer (some ⟨w1.heap.size, 0, none⟩), .int .i64 0]) (by simp [results, Try.results45, go_sem]) rfl ?_
  refine ⟨w1.heap.size, _, rfl, HB.out.size, ⟨Blk.new w1 _ [_, _, _, _], HR.out.kept ((Below.refl _ w1).alloc (Nat.le_refl _) _) (fun g hg => (HG.out g hg).2), fun g hg => ⟨by have := (HG.out g hg).2; simp; omega, by have := (HG.out g hg).2; omega, by simp [Value.ownBlock]⟩, Rw.nil _ 14, by simp [Value.ownBlock]⟩, fun g hg => (HG.out g hg).1, HB.out.alloc HB.out.size _⟩
theorem inew_no (room : Int) (h : ¬ (1 ≤ room ∧ room ≤ 16)) (a : Option Addr) (len cap : Nat) (w : World) :
    Calls Try.prog 45 #[.int .i64 room, .slice a len cap] w fun y w' => y = .returned (.tuple #[.pointer none, .int .i64 1]) ∧ w = w' := by
  by_cases i1 : room < 1
  · go_enter Try.func45, Try.ntmps45
    go_wp2_with fail
    exact bodyPost_ret (v := .tuple #[.pointer none, .int .i64 1]) (by simp [results, Try.results45, go_sem]) rfl ⟨rfl, rfl⟩
  · have i2 : (16 : Int) < room := by omega
    go_enter Try.func45, Try.ntmps45
    go_wp2_with fail
    exact bodyPost_ret (v := .tuple #[.pointer none, .int .i64 1]) (by simp [results, Try.results45, go_sem]) rfl ⟨rfl, rfl⟩
theorem inew_long (room : Int) (h1 : 1 ≤ room) (h2 : room ≤ 16) (a : Option Addr) (len cap : Nat) (hl : 8 < len) (w : World) :
    Calls Try.prog 45 #[.int .i64 room, .slice a len cap] w fun y w' => y = .returned (.tuple #[.pointer none, .int .i64 11]) ∧ w = w' := by
  have i1 : ¬ room < 1 := by omega
  have i2 : ¬ (16 : Int) < room := by omega
  have i3 : (8 : Int) < (len : Int) := by omega
  go_enter Try.func45, Try.ntmps45
  go_wp2_with fail
  exact bodyPost_ret (v := .tuple #[.pointer none, .int .i64 11]) (by simp [results, Try.results45, go_sem]) rfl ⟨rfl, rfl⟩
end Go.Proofs.Ytmlnobiakfapcab
