/- Which jobs were sent, as a row of bools; the law that each is sent just once. Conditions: none. -/
import Derived.Test.YtbcccffjlkphpaaEdx
namespace Go.Proofs.Ytbcccffjlkphpaa
open Go.RowKit Go.Shelf
set_option linter.unusedSimpArgs false
set_option linter.unusedVariables false
theorem rightJ_in {x : Jb} (h : rightJ x = true) : (0 ≤ x.s ∧ x.s ≤ 2047) ∧ (0 ≤ x.r ∧ x.r ≤ 1125899906842624) ∧ (x.r ≤ x.d ∧ x.d ≤ 2251799813685248) ∧ (1 ≤ x.c ∧ x.c ≤ 1073741824) := by
  unfold rightJ inB at h
  simp only [Bool.and_eq_true, decide_eq_true_eq] at h
  omega
theorem Nxt.bound {L : List Jb} {len : Int} {Ds : List Nat} {now : Int} {b : Nat} {t : Int} (h : Nxt L len Ds now b t) (hr : ∀ i, i < L.length → rightJ (L.getD i jb0) = true) : t ≤ max now 1125899906842624 := by
  have h1 := (rightJ_in (hr b h.hb)).2.1
  by_cases e : now < t
  · have := h.hm e b h.hb h.nd
    omega
  · omega
theorem Tr.now {L : List Jb} {len : Int} {S : List Sn} (h : Tr L len S) (hr : ∀ i, i < L.length → rightJ (L.getD i jb0) = true) : ∀ k, k ≤ S.length → 0 ≤ nowS (S.take k) ∧ nowS (S.take k) ≤ 1125899906842624 + k * 1073741824
  | 0, _ => by constructor <;> simp [nowS]
  | k + 1, hk => by
    obtain ⟨i1, i2⟩ := h.now hr k (by omega)
    obtain ⟨hn, he⟩ := h k (by omega)
    have hb := hn.bound hr
    have hc := (rightJ_in (hr _ hn.hb)).2.2.2
    have hl := hn.hn
    rw [List.take_succ_eq_append_getElem (by omega), nowS_snoc, he]
    push_cast
    constructor <;> omega
theorem Tr.bound {L : List Jb} {len : Int} {S : List Sn} (h : Tr L len S) (hr : ∀ i, i < L.length → rightJ (L.getD i jb0) = true) {k : Nat} (hk : k < S.length) : 0 ≤ S[k].a ∧ S[k].a ≤ 1125899906842624 + k * 1073741824 := by
  obtain ⟨i1, i2⟩ := h.now hr k (by omega)
  obtain ⟨hn, he⟩ := h k hk
  have hb := hn.bound hr
  have hl := hn.hn
  constructor <;> omega
theorem info_bool : (Try.prog.info? 4).map (fun i => (i.zero, i.size, i.bytes)) = some (some (.bool false), 1, 1) := by kernel_rfl
/-- Which of so many are among some. -/
def bitD (n : Nat) (Ds : List Nat) : List Value := (List.range n).map fun m => .bool (decide (m ∈ Ds))
theorem bitD_len (n : Nat) (Ds : List Nat) : (bitD n Ds).length = n := by unfold bitD; simp
theorem bitD_get {n : Nat} {Ds : List Nat} {m : Nat} (h : m < (bitD n Ds).length) : (bitD n Ds)[m] = .bool (decide (m ∈ Ds)) := by
  have h2 : m < n := by rw [bitD_len] at h; exact h
  have e : (bitD n Ds)[m]? = some (.bool (decide (m ∈ Ds))) := by
    unfold bitD
    rw [List.getElem?_map, List.getElem?_range h2]
    rfl
  rw [List.getElem?_eq_getElem h] at e
  exact Option.some.inj e
theorem bitD_set {n : Nat} {Ds : List Nat} {b : Nat} : (bitD n Ds).set b (.bool true) = bitD n (Ds ++ [b]) := by
  apply List.ext_getElem
  · simp [bitD_len]
  intro i h1 h2
  rw [List.getElem_set, bitD_get, bitD_get]
  by_cases e : b = i
  · subst e
    rw [if_pos rfl]
    simp
  · rw [if_neg e]
    congr 1
    have : ¬ i = b := fun q => e q.symm
    simp [this]
theorem bit_zero (n : Nat) : madeCells #[Value.bool false] (n * 1) = (bitD n []).toArray := by
  apply Array.ext
  · rw [size_madeCells]; simp [bitD_len]
  · intro i h1 h2
    rw [size_madeCells] at h1
    have em : (madeCells #[Value.bool false] (n * 1))[i]'(by rw [size_madeCells]; exact h1) = #[Value.bool false][i % 1]! := by
      simp [madeCells]
    rw [em, List.getElem_toArray, bitD_get]
    rw [Nat.mod_one]
    rfl
theorem make_bools (n : Nat) (h : n ≤ 100000) (u : World) : (Instr.makeSlice 47 (.int .i64 (n : Int)) (.int .i64 (n : Int))).run Try.prog u = .ok (.slice (some ⟨u.heap.size, 0, none⟩) n n) (u.alloc (.cells (bitD n []).toArray 4)) := by
  obtain ⟨i0, hi, hz0, hz1, hz2⟩ := info_parts info_bool
  have := run_make (P := Try.prog) u 47 4 i0 _ Try.underlying47 hi hz0 .i64 .i64 n n (by omega) (by omega) (by rw [hz2]; omega) (by omega)
  rw [hz1] at this
  rw [← bit_zero]
  exact this

end Go.Proofs.Ytbcccffjlkphpaa
