/- Package edf: Run: what is sent of jobs. Conditions: the numbers are of 64 bits. -/
import Derived.Test.YtbcccffjlkphpaaEdq
namespace Go.Proofs.Ytbcccffjlkphpaa
open Go.RowKit Go.Shelf Go.Sort
set_option linter.unusedSimpArgs false
set_option linter.unusedVariables false
attribute [local go_sem] Oper.semAt_some
theorem info_sent : (Try.prog.info? 38).map (fun i => (i.zero, i.size, i.bytes)) = some (some (.agg #[.int .i64 0, .int .i64 0, .int .i64 0]), 3, 24) := by kernel_rfl
/-- What holds of a run behind so many jobs. -/
structure RunI (L : List Jb) (len : Int) (b1 B : Nat) (W : World) (S : List Sn) (H C : List PJ) (vH vC v : Value) (wr : World) : Prop where
  tr : Tr L len S
  hp : HP len H H.length
  pw : PW wr b1 B len H C vH vC
  perm : (H ++ C ++ S.map (fun e => plc L e.j)).Perm (allP L)
  sort : ∀ i j (hi : i < C.length) (hj : j < C.length), i < j → C[i].j.r ≤ C[j].j.r
  came : ∀ y ∈ H, y.j.r ≤ nowS S
  now0 : 0 ≤ nowS S
  now1 : nowS S ≤ 1125899906842624 + S.length * 1073741824
  own : wr.ownsRow b1 38 3 v S.length (S.flatMap Sn.C)
  bel : Below W.heap.size W wr
theorem RunI.len {L : List Jb} {len : Int} {b1 B : Nat} {W : World} {S : List Sn} {H C : List PJ} {vH vC v : Value} {wr : World} (h : RunI L len b1 B W S H C vH vC v wr) : H.length + C.length + S.length = L.length := by
  have := h.perm.length_eq
  rw [allP_len] at this
  simp at this
  omega
theorem allP_mem {L : List Jb} {x : PJ} (h : x ∈ allP L) : x.k < L.length ∧ x = plc L x.k := by
  unfold allP at h
  obtain ⟨i, hi, rfl⟩ := List.mem_map.1 h
  exact ⟨by simpa [plc] using hi, rfl⟩
theorem allP_has {L : List Jb} {i : Nat} (h : i < L.length) : plc L i ∈ allP L := by
  unfold allP
  exact List.mem_map.2 ⟨i, by simpa using h, rfl⟩
theorem allP_nodup (L : List Jb) : ((allP L).map PJ.k).Nodup := by
  have : (allP L).map PJ.k = List.range L.length := by
    unfold allP
    rw [List.map_map]
    show List.map (fun i => i) _ = _
    simp
  rw [this]
  exact List.nodup_range
/-- The next one. -/
theorem RunI.next {L : List Jb} {len : Int} {b1 B : Nat} {W : World} {S : List Sn} {H C : List PJ} {vH vC v : Value} {wr : World} (h : RunI L len b1 B W S H C vH vC v wr) {k : Nat} {H' : List PJ} {t : Int} (ht : t = comeT H C (nowS S)) (hp : H'.Perm (H ++ C.take k)) (hr : ∀ x ∈ C.take k, x.j.r ≤ t) (hk : ∀ h0 : k < C.length, t < C[k].j.r) {x : PJ} {H2 : List PJ} (hx : (x :: H2).Perm H') (hm : ∀ y ∈ H2, ¬ klt len y x) :
    Nxt L len (S.map Sn.j) (nowS S) x.k t ∧ x = plc L x.k ∧ (H2 ++ C.drop k ++ (x :: S.map (fun e => plc L e.j))).Perm (allP L) := by
  have hnt : nowS S ≤ t := by
    rw [ht]; unfold comeT
    split
    · split <;> omega
    · omega
  have hperm2 : (H2 ++ C.drop k ++ (x :: S.map (fun e => plc L e.j))).Perm (allP L) := by
    refine List.Perm.trans ?_ h.perm
    have e1 : (H ++ C).Perm (x :: H2 ++ C.drop k) := by
      have : (H ++ C).Perm (H' ++ C.drop k) := by
        conv => lhs; rw [← List.take_append_drop k C, ← List.append_assoc]
        exact hp.symm.append_right _
      exact this.trans (hx.symm.append_right _)
    have e2 : (H2 ++ C.drop k ++ (x :: S.map (fun e => plc L e.j))).Perm (x :: H2 ++ C.drop k ++ S.map (fun e => plc L e.j)) := by
      simpa using List.perm_middle (a := x) (l₁ := H2 ++ C.drop k) (l₂ := S.map (fun e => plc L e.j))
    exact e2.trans (e1.symm.append_right _)
  have hxA : x ∈ allP L := hperm2.mem_iff.1 (by simp)
  obtain ⟨hxk, hxp⟩ := allP_mem hxA
  have hnd := (hperm2.map PJ.k).nodup_iff.2 (allP_nodup L)
  have hSk : (S.map (fun e => plc L e.j)).map PJ.k = S.map Sn.j := by rw [List.map_map]; rfl
  have hxd : x.k ∉ S.map Sn.j := by
    rw [List.map_append, List.map_cons, hSk] at hnd
    have := (List.nodup_append.1 hnd).2.1
    exact (List.nodup_cons.1 this).1
  have hxr : x.j.r ≤ t := by
    have : x ∈ H ++ C.take k := hp.mem_iff.1 (hx.mem_iff.1 (by simp))
    rcases List.mem_append.1 this with h1 | h1
    · have := h.came x h1; omega
    · exact hr x h1
  have hrem : ∀ i, i < L.length → i ∉ S.map Sn.j → plc L i ∈ H ++ C := fun i hi hd => by
    have : plc L i ∈ H ++ C ++ S.map (fun e => plc L e.j) := h.perm.mem_iff.2 (allP_has hi)
    rcases List.mem_append.1 this with h1 | h1
    · exact h1
    · obtain ⟨e, he, h2⟩ := List.mem_map.1 h1
      have h3 : e.j = i := congrArg PJ.k h2
      exact absurd (List.mem_map.2 ⟨e, he, h3⟩) hd
  have hxj : L.getD x.k jb0 = x.j := by
    have := congrArg PJ.j hxp
    exact this.symm
  refine ⟨⟨hxk, hxd, by rw [hxj]; exact hxr, hnt, fun hlt i hi hd => ?_, fun i hi hd hir hne => ?_⟩, hxp, hperm2⟩
  · have hmem := hrem i hi hd
    by_cases hH : H = []
    · have hcs : C = [] ∨ ∃ y C', C = y :: C' := by
        cases C with
        | nil => exact .inl rfl
        | cons y C' => exact .inr ⟨y, C', rfl⟩
      rcases hcs with hC | ⟨y, C', hC⟩
      · rw [ht] at hlt
        unfold comeT at hlt
        rw [if_pos hH, hC] at hlt
        simp at hlt
      · have e : t = max (nowS S) y.j.r := by rw [ht]; unfold comeT; rw [if_pos hH, hC]
        have h0 : 0 < C.length := by rw [hC]; simp
        have hy : C[0] = y := by simp [hC]
        rw [hH, List.nil_append] at hmem
        obtain ⟨m, hm', he⟩ := List.getElem_of_mem hmem
        have hge : C[0].j.r ≤ C[m].j.r := by
          by_cases hm0 : m = 0
          · subst hm0; exact Int.le_refl _
          · exact h.sort 0 m h0 hm' (by omega)
        rw [he, hy] at hge
        show t ≤ (plc L i).j.r
        omega
    · rw [ht] at hlt
      unfold comeT at hlt
      rw [if_neg hH] at hlt
      omega
  · have hmem := hrem i hi hd
    have hin : plc L i ∈ H' := by
      rw [hp.mem_iff]
      rcases List.mem_append.1 hmem with h1 | h1
      · exact List.mem_append.2 (.inl h1)
      · rw [← List.take_append_drop k C] at h1
        rcases List.mem_append.1 h1 with h2 | h2
        · exact List.mem_append.2 (.inr h2)
        · exfalso
          obtain ⟨m, hm', he⟩ := List.getElem_of_mem h2
          have hkl : k < C.length := by rw [List.length_drop] at hm'; omega
          have h3 := hk hkl
          have h4 : C[k].j.r ≤ (plc L i).j.r := by
            rw [← he, List.getElem_drop]
            by_cases hm0 : m = 0
            · subst hm0; exact Int.le_refl _
            · exact h.sort k (k + m) hkl (by rw [List.length_drop] at hm'; omega) (by omega)
          have h5 : (plc L i).j.r ≤ t := hir
          omega
    have hin2 : plc L i ∈ H2 := by
      have := hx.mem_iff.2 hin
      rcases List.mem_cons.1 this with h1 | h1
      · exact absurd (congrArg PJ.k h1) hne
      · exact h1
    have hnk := hm _ hin2
    rw [← hxp]
    exact klt_tot (fun e => hne e.symm) hnk
end Go.Proofs.Ytbcccffjlkphpaa
