/- The code of package wire (Encode, Long, Most), and ten bits of 1 by slices.Repeat: what they return. Conditions: a frame has eight bytes of data. -/
import Derived.Test.YtmfnkfiocnngeaaDoorFcj
import Derived.Test.YtmfnkfiocnngeaaDoorSfc
import Derived.Test.YtmfnkfiocnngeaaDoorWim
import Derived.Laws.CopyOwn
namespace Go.Proofs.YtmfnkfiocnngeaaDoor
open Go.RowKit Go.Shelf
theorem mul64_ten (w : World) : Calls Tryd.prog 154 #[.int .u64 1, .int .u64 10] w fun x w' => x = .returned (.tuple #[.int .u64 0, .int .u64 10]) ∧ w = w' := by
  go_enter Tryd.func154, Tryd.ntmps154
  go_wp2
  exact bodyPost_ret (v := .tuple #[.int .u64 0, .int .u64 10]) (by simp [results, Tryd.results154, go_sem]; kernel_rfl) rfl ⟨rfl, rfl⟩
theorem mul_ten (w : World) : Calls Tryd.prog 144 #[.int .u64 1, .int .u64 10] w fun x w' => x = .returned (.tuple #[.int .u64 0, .int .u64 10]) ∧ w = w' := by
  go_enter Tryd.func144, Tryd.ntmps144
  go_wp2_with fail
  refine (mul64_ten _).mono ?_
  rintro x w1 ⟨rfl, rfl⟩
  go_wp2_with fail
  exact bodyPost_ret (v := .tuple #[.int .u64 0, .int .u64 10]) (by simp [results, Tryd.results144, go_sem]) rfl ⟨rfl, rfl⟩
/-- So many ones, and zeros behind. -/
def onesV (n m : Nat) : List Value := List.replicate n (Value.int .u8 1) ++ List.replicate (m - n) (Value.int .u8 0)
theorem onesV_length {n m : Nat} (h : n ≤ m) : (onesV n m).length = m := by simp [onesV]; omega
theorem onesV_more {n k m : Nat} (h : n + k ≤ m) : splice (onesV n m) n (List.replicate k (Value.int .u8 1)) = onesV (n + k) m := by
  unfold splice onesV
  apply List.ext_getElem
  · simp; omega
  · intro i h1 h2
    simp only [List.getElem_append, List.length_take, List.length_append, List.length_replicate, List.getElem_take, List.getElem_drop, List.getElem_replicate]
    repeat' split
    all_goals first | rfl | omega
theorem ones_cell {W : World} {g n m : Nat} (h : Blk W g 5 (onesV n m)) (hn : n ≤ m) (k : Nat) (hk : k ≤ n) : ∀ (j : Nat) (v : Value), (List.replicate k (Value.int .u8 1))[j]? = some v → W.cell? (Addr.add ⟨g, 0, none⟩ j) = some v := fun j v hj => by
  rw [List.getElem?_replicate] at hj
  split at hj
  · rename_i hjk
    obtain rfl := Option.some.inj hj
    have hl := onesV_length hn
    have := h.row.cell (i := j) (by omega)
    rw [add_off, Nat.zero_add, this]
    unfold onesV
    rw [List.getElem?_append_left (by simp; omega), List.getElem?_replicate, if_pos (by omega)]
    rfl
  · exact absurd hj (by simp)
theorem ones_flat (k : Nat) : ∀ v ∈ List.replicate k (Value.int .u8 1), v.oneCell' = true := fun v hv => by
  rw [List.eq_of_mem_replicate hv]; rfl
set_option maxRecDepth 100000 in
set_option maxHeartbeats 2000000 in
theorem repeat_ten (a : Addr) (w : World) (hb : a.block < w.heap.size) (hc : w.cell? a = some (.int .u8 1)) : Calls Tryd.prog 125 #[.slice (some a) 1 1, .int .i64 10] w fun x w' => ∃ g, x = .returned (.slice (some ⟨g, 0, none⟩) 10 10) ∧ w.heap.size ≤ g ∧ Blk w' g 5 (onesV 10 10) ∧ Below w.heap.size w w' := by
  have hmk : ∀ u : World, Sem.run Tryd.prog (Instr.makeSlice 34 (.int .i64 10) (.int .i64 10)) u = .ok (.slice (some ⟨u.heap.size, 0, none⟩) 10 10) (u.alloc (.cells (madeCells #[.int .u8 0] 10) 5)) := make_bytes 10 (by omega)
  go_enter Tryd.func125, Tryd.ntmps125
  go_wp2_with fail
  refine (mul_ten _).mono ?_
  rintro x w1 ⟨rfl, rfl⟩
  have hmk2 := hmk w
  obtain ⟨wb, hwb⟩ : ∃ wb, wb = w.alloc (.cells (madeCells #[.int .u8 0] 10) 5) := ⟨_, rfl⟩
  have hrow : Blk wb w.heap.size 5 (onesV 0 10) := by
    unfold Blk
    rw [hwb, show (onesV 0 10).toArray = madeCells #[Value.int .u8 0] 10 by kernel_rfl]
    exact World.alloc_heap_new w _
  have hbb : Below w.heap.size w wb := by rw [hwb]; exact (Below.refl _ _).alloc (Nat.le_refl _) _
  have hca : ∀ (j : Nat) (v : Value), (List.replicate 1 (Value.int .u8 1))[j]? = some v → wb.cell? (Addr.add a j) = some v := fun j v hj => by
    cases j with
    | zero =>
      obtain rfl : v = .int .u8 1 := by simpa using hj.symm
      have : Addr.add a 0 = a := by cases a; rfl
      rw [this]
      exact (hbb.cell hb).trans hc
    | succ j => simp at hj
  rw [← hwb] at hmk2
  clear hmk hwb
  go_wp2_with (refine wpList_copy_splice rfl (.tmp 31) (.tmp 32) 34 34 rfl 5 Tryd.underlying34 (by kernel_rfl) _ _ _ _ _ _ rfl rfl w.heap.size 0 (onesV 0 10) 5 hrow (List.replicate 1 (Value.int .u8 1)) rfl (fun _ => ⟨rfl, _, rfl, hca⟩) (by decide) (ones_flat 1) w.heap.size w hbb (Nat.le_refl _) ?_)
  intro w2 hg2 hb2
  have hg2' : Blk w2 w.heap.size 5 (onesV 1 10) := hg2.out
  have HG2 := Lib.hid hg2'; have HB2 := Lib.hid hb2
  clear hg2 hg2' hb2 hrow hbb hca
  go_wp2_with fail
  go_loopw [8] (fun i wr => ∃ n : Nat, i = .int .i64 n ∧ 1 ≤ n ∧ n ≤ 10 ∧ Blk wr w.heap.size 5 (onesV n 10) ∧ Below w.heap.size w wr) (fun i _ => 10 - (intOf i).toNat)
  case atStart => exact ⟨1, rfl, by omega, by omega, HG2.out, HB2.out⟩
  case round =>
    obtain ⟨n, rfl, hn1, hn2, hg, hbw⟩ := hrel
    have HG := Lib.hid hg; have HB := Lib.hid hbw
    clear hg hbw
    by_cases hlt : n < 10
    · have i1 : (n : Int) < 10 := by omega
      have i2 : (0 : Int) ≤ (n : Int) := by omega
      have i3 : (n : Int) ≤ 10 := by omega
      have i4 : (10 : Nat) ≠ n := by omega
      obtain ⟨k, hk⟩ : ∃ k, k = Nat.min n (10 - n) := ⟨_, rfl⟩
      have hk1 : 1 ≤ k := by rw [hk]; show 1 ≤ min n (10 - n); omega
      have hk2 : n + k ≤ 10 := by rw [hk]; show n + min n (10 - n) ≤ 10; omega
      have hk3 : k ≤ n := by rw [hk]; exact Nat.min_le_left _ _
      have HK := Lib.hid hk
      obtain ⟨s, hs⟩ : ∃ s, s = n + k := ⟨_, rfl⟩
      have e1 : (n : Int) + (k : Int) = (s : Int) := by omega
      have e2 : IntKind.i64.wrap (s : Int) = (s : Int) := by rw [IntKind.wrap_i64]; omega
      have HS := Lib.hid hs
      obtain ⟨cs, hcs⟩ : ∃ cs, cs = List.replicate k (Value.int .u8 1) := ⟨_, rfl⟩
      have hcl : cs.length = k := by rw [hcs, List.length_replicate]
      have hcf := ones_flat k
      rw [← hcs] at hcf
      have hca := ones_cell HG.out hn2 k hk3
      rw [← hcs] at hca
      have HCA := Lib.hid hca; have HCS := Lib.hid hcs; have HCF := Lib.hid hcf; have HL := Lib.hid hcl
      clear hk hca hcs hcf hs
      go_wp2_with fail
      have kB : Below w.heap.size w wr.drew := HB.out.drew
      go_region_held3 (fun u => Below w.heap.size w u) (first | (with_reducible assumption)) (first | (refine step_copy_splice rfl (.tmp 41) (.tmp 44) 34 34 rfl 5 Tryd.underlying34 (by kernel_rfl) _ _ _ _ _ _ rfl rfl w.heap.size n (onesV n 10) 5 HG.out cs (by rw [HL.out, HK.out]) (fun _ => ⟨rfl, _, rfl, HCA.out⟩) (by rw [HL.out, onesV_length hn2]; exact hk2) HCF.out w.heap.size w kB (Nat.le_refl _) ?_; intro w3 hg3 hb3))
      have HG3 := Lib.hid (show Blk w3 w.heap.size 5 (onesV (n + k) 10) by
        rw [← onesV_more hk2, ← HCS.out]
        exact hg3.out)
      have HB3 := Lib.hid hb3
      clear hg3 hb3
      go_wp2_with fail
      go_roundw
      case rel => exact ⟨s, rfl, by have := HS.out; omega, by have := HS.out; omega, by rw [HS.out]; exact HG3.out, HB3.out⟩
      case measure => have := HS.out; simp [intOf]; omega
    · obtain rfl : n = 10 := by omega
      go_wp2_with fail
      go_ret
      exact ⟨w.heap.size, rfl, Nat.le_refl _, HG.out, HB.out⟩
theorem ones_str {W : World} {g : Nat} (h : Blk W g 5 (onesV 10 10)) : ∀ (j : Nat) (v : Value), ((List.replicate 10 1).map (fun n : Nat => Value.int .u8 ((n : Nat) : Int)))[j]? = some v → W.cell? (Addr.add ⟨g, 0, none⟩ j) = some v := fun j v hj => ones_cell h (Nat.le_refl _) 10 (Nat.le_refl _) j v (by rw [List.map_replicate] at hj; exact hj)
set_option maxHeartbeats 2000000 in
theorem encode_no (e : Bool) (n : Nat) (r : Bool) (len : Int) (data : List Nat) (hd : data.length = 8) (hok : rightF e n r len data ≠ 0) (w : World) : Calls Tryd.prog 103 #[frameV e n r len data] w fun x w' => x = .returned (.slice none 0 0) ∧ Below w.heap.size w w' := by
  have HBO := Lib.hid (fun u => frameBody_no e n r len data hd hok u)
  obtain ⟨d0, d1, d2, d3, d4, d5, d6, d7, rfl⟩ := eight hd
  simp only [frameV, frameC, List.map] at HBO ⊢
  clear hd hok
  go_enter Tryd.func103, Tryd.ntmps103
  go_wp2_with fail
  refine (HBO.out _).mono ?_
  rintro x w1 ⟨rfl, hb⟩
  have HB := Lib.hid (below_trans' ((Below.refl _ w).alloc (Nat.le_refl _) _) hb)
  clear hb
  go_wp2_with fail
  go_ret
  exact ⟨rfl, HB.out⟩
set_option maxHeartbeats 2000000 in
theorem encode_yes (e : Bool) (n : Nat) (hn : n < 4294967296) (r : Bool) (m : Nat) (data : List Nat) (hd : data.length = 8) (hdb : ∀ x ∈ data, x < 256) (hok : rightF e n r (m : Int) data = 0) (w : World) (h0 : 1 < w.heap.size) (hT : Tab w) : Calls Tryd.prog 103 #[frameV e n r (m : Int) data] w fun x w' => ∃ v, x = .returned v ∧ Ow w.heap.size w' v (encB e n r m data) ∧ Below w.heap.size w w' := by
  obtain ⟨hri, hm8, _⟩ := rightF_data hok
  have hbl := bodyB_length (r := r) (len := m) (data := data) hri
  have hbl2 : sizeN e r m ≤ 118 := by unfold sizeN; split <;> split <;> omega
  have hbl3 : 34 ≤ sizeN e r m := by unfold sizeN; split <;> omega
  have hble := bodyB_le e n r m data
  have HBO := Lib.hid (show ∀ u, Below w.heap.size w u → Calls Tryd.prog 17 #[frameV e n r (m : Int) data] u fun x w' => ∃ v, x = .returned v ∧ Ow u.heap.size w' v (bodyB e n r m data) ∧ Below u.heap.size u w' from fun u hu => frameBody_yes e n hn r m data hd hdb hok u (by have := hu.size; omega) (hT.onB hu h0))
  obtain ⟨B, hB⟩ : ∃ B, B = bodyB e n r m data := ⟨_, rfl⟩
  have HE := Lib.hid (show encB e n r m data = stuffB B ++ List.replicate 10 1 by rw [hB]; rfl)
  rw [HE.out]
  rw [← hB] at HBO hbl hble
  obtain ⟨d0, d1, d2, d3, d4, d5, d6, d7, rfl⟩ := eight hd
  simp only [frameV, frameC, List.map] at HBO ⊢
  clear hd hok hdb hT h0 hri hm8 hB HE
  go_enter Tryd.func103, Tryd.ntmps103
  go_wp2_with fail
  refine (HBO.out _ ((Below.refl _ w).alloc (Nat.le_refl _) _)).mono ?_
  rintro x w1 ⟨v, rfl, ho, hb⟩
  have HB1 := Lib.hid (below_trans' ((Below.refl _ w).alloc (Nat.le_refl _) _) hb)
  obtain ⟨g, cap, rfl, _⟩ := ho.cells (by omega)
  have HS1 := Lib.hid ho.str
  obtain ⟨l, hl⟩ : ∃ l, l = B.length := ⟨_, rfl⟩
  have HL := Lib.hid hl
  rw [← hl] at HS1 hbl ⊢
  have hl34 : 34 ≤ l := by omega
  have hl118 : l ≤ 118 := by omega
  have hl0 : ((l : Int) == 0) = false := by rw [beq_eq_false_iff_ne]; omega
  have hst := (stuff_most B).2
  have hst1 := (stuff_most B).1
  rw [← hl] at hst hst1
  have HBL := Lib.hid hble
  obtain ⟨i0, hi, hz0, hz1, hz2⟩ := info_parts info_u8
  clear ho hb hl hbl hble hbl2 hbl3
  go_wp2_with fail
  refine (stuff_any _ l cap B (by have := HL.out; omega) w1 HS1.out).mono ?_
  rintro x w2 ⟨v2, rfl, ho2, hb2⟩
  rw [bitsOf_self HBL.out] at ho2
  have HO2 := Lib.hid (Ow.low ho2 HB1.out.size)
  have HB2 := Lib.hid (below_trans' HB1.out hb2)
  clear ho2 hb2
  go_wp2_with fail
  refine (repeat_ten _ _ ?hp ?hq).mono ?_
  case hp => simp
  case hq => simp
  rintro x w3 ⟨g3, rfl, hg3, hblk, hb3⟩
  have HO3 := Lib.hid ((HO2.out.on ((Below.refl _ w2).alloc (Nat.le_refl _) _)).on hb3)
  have HB3 := Lib.hid (below_trans' (HB2.out.alloc HB2.out.size _) hb3)
  have HCE := Lib.hid (ones_str hblk)
  clear hg3 hblk hb3
  go_wp2_with (at_builtin; refine wpList_append_own _ rfl _ _ 34 rfl w.heap.size 5 i0 (.int .u8 0) 1 1 Tryd.underlying34 hi hz0 hz1 hz2 rfl (by decide) _ _ _ rfl HO3.out.own ⟨g3, 0, none⟩ 10 10 ((List.replicate 10 1).map (fun n : Nat => Value.int .u8 ((n : Nat) : Int))) rfl rfl HCE.out (flat_bytes _) ?c3 ?c4 ?c5 ?_)
  case c3 => unfold maxLen; omega
  case c4 => omega
  case c5 => exact HB3.out.size
  intro v' w4 hown2 hgrow _
  have HO := Lib.hid (show Ow w.heap.size w4 v' (stuffB B ++ List.replicate 10 1) by
    unfold Ow
    rw [List.length_append, List.map_append]
    exact hown2)
  have HB := Lib.hid (HB3.out.grown hgrow HB3.out.size HO3.out.ge)
  clear hown2 hgrow HO3 HB3 HCE
  go_wp2
  go_ret
  exact ⟨_, rfl, HO.out, HB.out⟩
/-- How many bits a frame has on the wire at most. -/
def mostF (e : Bool) (len : Int) : Int := if len < 0 ∨ 8 < len then 0 else mostW ((if e then 54 else 34) + 8 * len) + 10
theorem zero_right (e : Bool) (len : Int) (h : 0 ≤ len) (h8 : len ≤ 8) : rightF e 0 false len [0, 0, 0, 0, 0, 0, 0, 0] = 0 := by
  unfold rightF
  rw [if_neg (by cases e <;> decide), if_neg (by omega), if_neg]
  simp
  intro i hi
  obtain rfl | rfl | rfl | rfl | rfl | rfl | rfl | rfl : i = 0 ∨ i = 1 ∨ i = 2 ∨ i = 3 ∨ i = 4 ∨ i = 5 ∨ i = 6 ∨ i = 7 := by omega
  all_goals simp
theorem zero_wrong (e : Bool) (len : Int) (h : len < 0 ∨ 8 < len) : rightF e 0 false len [0, 0, 0, 0, 0, 0, 0, 0] = 2 := by
  unfold rightF
  rw [if_neg (by cases e <;> decide), if_pos h]
end Go.Proofs.YtmfnkfiocnngeaaDoor
