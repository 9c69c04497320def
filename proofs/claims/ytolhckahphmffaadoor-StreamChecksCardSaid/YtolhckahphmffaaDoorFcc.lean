/- The code of package frame (Body): what it returns. Conditions: a frame has eight bytes of data, its identifier's number is below 2^32; the divisor's fifteen cells hold what the program lays in them. -/
import Derived.Test.YtolhckahphmffaaDoorFcb
import Derived.Test.YtolhckahphmffaaDoorCrt
import Derived.Laws.CopyOwn
import Derived.Deep.RegionHeld3
import Derived.Deep.RegionLaw
namespace Go.Proofs.YtolhckahphmffaaDoor
open Go.RowKit Go.Shelf
theorem all8 (B : Nat) (w : World) : Sem.run Tryd.prog (Instr.sliceAt 97 (.pointer (some ⟨B, 4, none⟩)) none none none) w = .ok (.slice (some ⟨B, 4, none⟩) 8 8) w := by
  have ha : Tryd.prog.arrayLen 97 = 8 := by kernel_rfl
  have hs : (sizeOf (Tryd.prog.elem 97)).run Tryd.prog w = .ok 1 w := by kernel_rfl
  have h := run_sliceAt_array_all (P := Tryd.prog) w 97 ⟨B, 4, none⟩ (by kernel_rfl)
  rw [ha, hs] at h
  exact h
theorem ow_block {B L g : Nat} {W : World} {bs : List Nat} (hl : bs.length = L) (hL : L ≤ 1000) (hB : B ≤ g) (hg : W.heap[g]? = some (.cells (bs.map (fun n : Nat => Value.int .u8 ((n : Nat) : Int))).toArray 5 (0, 0))) : Ow B W (.slice (some ⟨g, 0, none⟩) L L) bs := by
  subst hl
  refine ⟨by simp, .inr ⟨g, bs.length, _, rfl, hB, hg, Nat.le_refl _, by unfold maxLen; omega, by simp, ?_⟩⟩
  simp
  exact List.take_of_length_le (by simp)
theorem made_cells {B : Nat} {W : World} {v : Value} {bs : List Nat} (h : Made B W v bs) : ∃ g, v = .slice (some ⟨g, 0, none⟩) bs.length bs.length ∧ ∀ (j : Nat) (u : Value), (bs.map (fun n : Nat => Value.int .u8 ((n : Nat) : Int)))[j]? = some u → W.cell? (Addr.add ⟨g, 0, none⟩ j) = some u := by
  obtain ⟨b, rfl, _, _, hr⟩ := h
  refine ⟨b, rfl, fun j u hj => ?_⟩
  have hjl : j < bs.length := by simpa using (List.getElem?_eq_some_iff.1 hj).1
  rw [show (⟨b, 0, none⟩ : Addr).add j = ⟨b, 0 + j, none⟩ from add_off _ _ _, Nat.zero_add, hr.cell hjl]
  simp [hjl] at hj
  rw [← hj]
  simp [hjl]
theorem step_append_own6 {P : Program} (w : World) {ops : Array Oper} {o : Oper} {a : Act} {K : Act → World → Prop} {Q : Exit → Act → World → Prop} {E : Prop} (hgd : o.guard = none) (s x : Operand) (t : TypeId)
    (ho : o.op = .call { callee := .builtin .append, args := #[s, x], argTypes := #[t, t] })
    (base : Nat) (e : TypeId) (i : TypeInfo) (z : Value) (size bytes : Nat) (ht : P.underlying t = some (.slice e)) (hi : P.info? e = some i) (hz : i.zero = some z)
    (hsize : i.size = size) (hby : i.bytes = bytes) (hzs : z.cells.size = size) (hsz : 0 < size)
    (v : Value) (n : Nat) (xs : List Value) (hs : a.eval s = v) (hown : w.ownsRow base e size v n xs)
    (ad : Addr) (m c : Nat) (news : List Value) (hx : a.eval x = .slice (some ad) m c) (hl : news.length = m * size) (hnews : ∀ j u, news[j]? = some u → w.cell? (ad.add j) = some u) (h1 : ∀ u ∈ news, u.oneCell' = true)
    (h63 : n + m ≤ maxLen) (hbytes : (n + m) * bytes ≤ 140737488355328) (hbase : base ≤ w.heap.size)
    (h : ∀ v' w', w'.ownsRow base e size v' (n + m) (xs ++ news) → w.grownBy w' v.ownBlock → (v' = .slice none 0 0 ↔ v = .slice none 0 0 ∧ m = 0) → K (a.put o.dst v') w') :
    if Region.wanted o (yielded ops a.tmps) = true then Oper.wp P o a w K Q else E := by
  have hw : Region.wanted o (yielded ops a.tmps) = true := by simp [Region.wanted, hgd]
  rw [if_pos hw]
  exact wp_append_own w s x t ho base e i z size bytes ht hi hz hsize hby hzs hsz v n xs hs hown ad m c news hx hl hnews h1 h63 hbytes hbase h
theorem unp_data (data : List Nat) : ∀ k, unpB data (8 * k) = dataBits data k := by
  intro k
  induction k with
  | zero => rfl
  | succ k ih =>
    show unpB data (8 * (k + 1)) = dataBits data k ++ ofB (data[k]?.getD 0) 8
    rw [← ih, show 8 * (k + 1) = 8 * k + 8 by omega]
    unfold unpB ofB
    rw [List.range_add, List.map_append, List.map_map]
    congr 1
    refine List.map_congr_left fun j hj => ?_
    have hj8 : j < 8 := by simpa using hj
    show bitOfB data (8 * k + j) = bitFrom _ 8 j
    unfold bitOfB bitFrom
    rw [show (8 * k + j) / 8 = k by omega, show (8 * k + j) % 8 = j by omega]
set_option maxRecDepth 100000 in
set_option maxHeartbeats 4000000 in
theorem frameBody_std (n : Nat) (hn : n < 4294967296) (r : Bool) (m : Nat) (data : List Nat) (hd : data.length = 8) (hdb : ∀ x ∈ data, x < 256) (hok : rightF false n r (m : Int) data = 0) (w : World) (h0 : 0 < w.heap.size) (hT : Tab w) : Calls Tryd.prog 71 #[frameV false n r (m : Int) data] w fun x w' => ∃ v, x = .returned v ∧ Ow w.heap.size w' v (bodyB false n r m data) ∧ Below w.heap.size w w' := by
  have hC := FrameAt.new w 99 false n r (m : Int) data hd
  have HR := Lib.hid (fun u => frameRight_any false n r (m : Int) data hd u)
  rw [hok] at HR
  obtain ⟨hri, hm8, _⟩ := rightF_data hok
  have HLY := Lib.hid (fun u => layoutOf_any false u)
  have HBI := Lib.hid (fun u => idbits_any false n r hn u)
  have hil : (idBits false n r).length = 13 := by rw [idBits_length false n r hri]; rfl
  obtain ⟨X, hX⟩ : ∃ X, X = idBits false n r := ⟨_, rfl⟩
  obtain ⟨Hd, hH⟩ : ∃ Hd, Hd = headB false n r m data := ⟨_, rfl⟩
  have HHE := Lib.hid (show Hd = 0 :: X ++ [0] ++ ofB m 4 ++ (if r then [] else dataBits data m) by rw [hH, hX]; unfold headB; simp)
  have HHL := Lib.hid (show ∀ x ∈ Hd, x ≤ 1 by rw [hH]; exact headB_le _ _ _ _ _)
  have HBO := Lib.hid (show bodyB false n r m data = Hd ++ ofB (crcOf Hd 0) 15 by rw [hH]; rfl)
  have HHN := Lib.hid (show Hd.length ≤ 1000 by have := headB_length (r := r) (len := m) (data := data) hri; rw [← hH] at this; unfold sizeN at this; have h2 : (if r = true then 0 else 8 * m) ≤ 64 := (by split <;> omega); (try simp at this); omega)
  rw [← hX] at HBI hil
  have HXL := Lib.hid hil
  have hmk : ∀ u : World, (Instr.makeSlice 92 (.int .i64 15) (.int .i64 15)).run Tryd.prog u = .ok (.slice (some ⟨u.heap.size, 0, none⟩) 15 15) (u.alloc (.cells (madeCells #[.int .u8 0] 15) 5)) := make_bytes 15 (by omega)
  have hfl : ∀ u : World, Sem.run Tryd.prog (Instr.field 121 (.agg #[.bool false, .int .i64 12, .int .i64 15]) 2) u = .ok (.int .i64 15) u := fun u => by kernel_rfl
  have hslA : ∀ u : World, Sem.run Tryd.prog (Instr.sliceAt 97 (.pointer (some ⟨w.heap.size, 4, none⟩)) none none none) u = .ok (.slice (some ⟨w.heap.size, 4, none⟩) 8 8) u := fun u => all8 w.heap.size u
  have hm64 : IntKind.u64.wrap (m : Int) = (m : Int) := by rw [IntKind.wrap_u64]; omega
  obtain ⟨k, hk⟩ : ∃ k, k = if r then 0 else m := ⟨_, rfl⟩
  have hk8 : k ≤ 8 := by rw [hk]; split <;> omega
  have hki : (if r = true then (0 : Int) else (m : Int)) = (k : Int) := by rw [hk]; cases r <;> rfl
  have HH := Lib.hid (fun u => held_any r (m : Int) u)
  rw [hki] at HH
  have HDK := Lib.hid (show unpB data (8 * k) = if r then [] else dataBits data m by
    rw [unp_data, hk]
    cases r <;> rfl)
  have h8k : (8 : Int) * (k : Int) = ((8 * k : Nat) : Int) := by omega
  obtain ⟨q, hq⟩ : ∃ q, q = 8 * k := ⟨_, rfl⟩
  rw [← hq] at HDK h8k
  have hq64 : q ≤ 64 := by omega
  have h8w : IntKind.i64.wrap ((8 : Int) * (k : Int)) = (q : Int) := by rw [h8k]; simp [IntKind.wrap, IntKind.signed, IntKind.bits]; omega
  have hqw : IntKind.i64.wrap (q : Int) = (q : Int) := by simp [IntKind.wrap, IntKind.signed, IntKind.bits]; omega
  have h8v : wrap64 ((8 : Int) * (k : Int)) = (q : Int) := by rw [h8k]; exact w64_in _ (by omega)
  have HDB := Lib.hid hdb
  have HT := Lib.hid hT
  obtain ⟨i0, hi, hz0, hz1', hz2⟩ := info_parts info_u8
  obtain ⟨d0, d1, d2, d3, d4, d5, d6, d7, rfl⟩ := eight hd
  unfold identV at HBI
  simp only [frameV, frameC, List.map] at HR ⊢
  simp only [frameC, List.map] at hC
  have HC := Lib.hid hC
  rw [HBO.out]
  clear hC hok hri hX hH hk hki hdb hT hil hd hq
  go_enter Tryd.func71, Tryd.ntmps71
  have c := HC.out.cells
  go_wp2_with fail
  refine (HR.out _).mono ?_
  rintro x w1 ⟨rfl, hb⟩
  have B1 := Lib.hid (below_trans' ((Below.refl _ w).alloc (Nat.le_refl _) _) hb)
  have HC1 := Lib.hid (HC.out.keep hb (by simp))
  have hz1 : w.heap.size < w1.heap.size := by have := hb.size; simp at this; omega
  obtain ⟨c0, c1, c2, c3, _⟩ := HC1.out.cells
  clear hb c
  go_wp2_with fail
  refine (HLY.out _).mono ?_
  rintro x w3 ⟨rfl, hb⟩
  have B3 := Lib.hid (below_trans' B1.out hb)
  have HC3 := Lib.hid (HC1.out.keep hb hz1)
  have hz3 : w.heap.size < w3.heap.size := Nat.lt_of_lt_of_le hz1 hb.size
  clear hb B1 HC1 c0 c1 c2 c3
  unfold layV
  go_wp2_with fail
  clear hmk
  obtain ⟨wb, hwb⟩ : ∃ wb, wb = w3.alloc (.cells (madeCells #[.int .u8 0] 15) 5) := ⟨_, rfl⟩
  have hrow : wb.heap[w3.heap.size]? = some (.cells (List.replicate 15 (Value.int .u8 0)).toArray 5 (0, 0)) := by
    rw [hwb]
    rw [show (List.replicate 15 (Value.int .u8 0)).toArray = (madeCells #[Value.int .u8 0] 15) by kernel_rfl]
    exact World.alloc_heap_new w3 _
  have hzb : wb.heap.size = w3.heap.size + 1 := by rw [hwb]; simp
  have HCB := Lib.hid (show FrameAt wb w.heap.size false n r (m : Int) [d0, d1, d2, d3, d4, d5, d6, d7] by rw [hwb]; exact HC3.out.more hz3 _)
  have BB := Lib.hid (show Below w.heap.size w wb by rw [hwb]; exact B3.out.alloc B3.out.size _)
  rw [← hwb]
  clear hwb HC3 B3
  have HS4 := Lib.hid (show ∀ u, Below w3.heap.size wb u → Below w3.heap.size wb u ∧ u.cell? ⟨w.heap.size, 0, none⟩ = some (.bool false) ∧ u.cell? ⟨w.heap.size, 1, none⟩ = some (.int .u32 (n : Int)) ∧ u.cell? ⟨w.heap.size, 2, none⟩ = some (.bool r) ∧ u.cell? ⟨w.heap.size, 3, none⟩ = some (.int .i64 (m : Int)) from fun u hu => by
    have h := HCB.out.keepAt hu hz3
    exact ⟨hu, h.c0, h.c1, h.c2, h.c3⟩)
  have HB4 := Lib.hid (show ∀ u, (Below w3.heap.size wb u ∧ u.cell? ⟨w.heap.size, 0, none⟩ = some (.bool false) ∧ u.cell? ⟨w.heap.size, 1, none⟩ = some (.int .u32 (n : Int)) ∧ u.cell? ⟨w.heap.size, 2, none⟩ = some (.bool r) ∧ u.cell? ⟨w.heap.size, 3, none⟩ = some (.int .i64 (m : Int))) → Calls Tryd.prog 90 #[.agg #[.bool false, .int .u32 (n : Int)], .bool r] u fun x w' => ∃ g cg, x = .returned (.slice (some ⟨g, 0, none⟩) 13 cg) ∧ (∀ (j : Nat) (v : Value), (X.map (fun n : Nat => Value.int .u8 ((n : Nat) : Int)))[j]? = some v → w'.cell? (Addr.add ⟨g, 0, none⟩ j) = some v) ∧ w'.heap[w3.heap.size]? = u.heap[w3.heap.size]? ∧ Below w3.heap.size wb w' ∧ w'.cell? ⟨w.heap.size, 0, none⟩ = some (.bool false) ∧ w'.cell? ⟨w.heap.size, 1, none⟩ = some (.int .u32 (n : Int)) ∧ w'.cell? ⟨w.heap.size, 2, none⟩ = some (.bool r) ∧ w'.cell? ⟨w.heap.size, 3, none⟩ = some (.int .i64 (m : Int)) from fun u hu => (HBI.out u).mono (by
    rintro x w' ⟨v, rfl, ho, hb⟩
    obtain ⟨g, cg, rfl, hcells⟩ := ho.cells (by rw [HXL.out]; omega)
    rw [HXL.out]
    have hz := hu.1.size
    exact ⟨g, cg, rfl, hcells, hb.block _ (by omega), HS4.out _ (hu.1.trans (hb.mono (by omega)))⟩))
  have k4 := HS4.out _ (Below.refl w3.heap.size wb).drew
  have hrowd : wb.drew.heap[w3.heap.size]? = some (.cells (List.replicate 15 (Value.int .u8 0)).toArray 5 (0, 0)) := hrow
  go_region_held3 (fun w' => Below w3.heap.size wb w' ∧ w'.cell? ⟨w.heap.size, 0, none⟩ = some (.bool false) ∧ w'.cell? ⟨w.heap.size, 1, none⟩ = some (.int .u32 (n : Int)) ∧ w'.cell? ⟨w.heap.size, 2, none⟩ = some (.bool r) ∧ w'.cell? ⟨w.heap.size, 3, none⟩ = some (.int .i64 (m : Int))) (assumption) (first | (refine step_copy_splice rfl (.tmp 14) (.tmp 19) 92 92 rfl 5 Tryd.underlying92 (by kernel_rfl) _ _ _ _ _ _ rfl rfl w3.heap.size 1 (List.replicate 15 (Value.int .u8 0)) 5 hrow5 (X.map (fun n : Nat => Value.int .u8 ((n : Nat) : Int))) (by rw [List.length_map, HXL.out]; rfl) (fun _ => ⟨rfl, _, rfl, hcells5⟩) (by rw [List.length_map, HXL.out, List.length_replicate]; omega) (flat_bytes _) w3.heap.size wb h5.1 (Nat.le_refl _) ?_; intro w6 hg6 hb6; have h6 := HS4.out _ hb6) | (go_at_call 90; refine (HB4.out _ (by assumption)).mono ?_; rintro x w5 ⟨g5, cg5, rfl, hcells5, hr5, h5⟩; have hrow5 := hr5.trans hrowd))
  have HC6 := Lib.hid (HCB.out.keepAt hb6 hz3)
  have B6 := Lib.hid (BB.out.trans (hb6.mono (by omega)))
  have hz6 : w.heap.size < w6.heap.size := by have := hb6.size; omega
  have hP1 : (0 :: X ++ [0]).length = 15 := by simp [HXL.out]
  have HO6 := Lib.hid (show Ow (w.heap.size + 1) w6 (.slice (some ⟨w3.heap.size, 0, none⟩) 15 15) (0 :: X ++ [0]) from ow_block hP1 (by omega) (by omega) (by
    refine hg6.out.trans ?_
    congr 3
    unfold splice
    rw [List.length_map, HXL.out]
    show [Value.int .u8 0] ++ (X.map (fun n : Nat => Value.int .u8 ((n : Nat) : Int)) ++ [Value.int .u8 0]) = _
    simp))
  have c3 := HC6.out.c3
  clear h5 hr5 hcells5 hrow5 hrowd hg6 hb6 h6 k4 HB4 HS4 BB HCB hrow hzb
  obtain ⟨P1, hP⟩ : ∃ P1, P1 = 0 :: X ++ [0] := ⟨_, rfl⟩
  rw [← hP] at HO6 HHE hP1
  have HPL := Lib.hid hP1
  clear hP hP1
  go_wp2_with fail
  refine (of_yes m 4 (by omega) (by omega) (by omega) _).mono ?_
  rintro x w7 ⟨v4, rfl, hmm, hb⟩
  obtain ⟨g4, cg4, rfl, hcells4⟩ := (made_ow hmm).cells (by rw [ofB_length]; omega)
  rw [ofB_length]
  have HCE := Lib.hid hcells4
  have HO7 := Lib.hid (HO6.out.on hb)
  have B7 := Lib.hid (below_trans' B6.out hb)
  have HC7 := Lib.hid (HC6.out.keep hb hz6)
  have hz7 : w.heap.size + 1 ≤ w7.heap.size := Nat.le_trans hz6 hb.size
  clear hmm hb HO6 B6 HC6 hcells4 c3 hz6
  go_wp2_with (at_builtin; refine wpList_append_own _ rfl _ _ 92 rfl (w.heap.size + 1) 5 i0 (.int .u8 0) 1 1 Tryd.underlying92 hi hz0 hz1' hz2 rfl (by decide) _ _ _ rfl HO7.out.own ⟨g4, 0, none⟩ 4 cg4 ((ofB m 4).map (fun n : Nat => Value.int .u8 ((n : Nat) : Int))) rfl ?c0 HCE.out (flat_bytes _) ?c3 ?c4 ?c5 ?_)
  case c0 => rw [List.length_map, ofB_length]
  case c3 => rw [HPL.out]; unfold maxLen; omega
  case c4 => rw [HPL.out]; omega
  case c5 => exact hz7
  intro v8 w8 hown8 hgrow _
  have HO8 := Lib.hid (show Ow (w.heap.size + 1) w8 v8 (P1 ++ ofB m 4) by
    unfold Ow
    rw [List.length_append, List.map_append, ofB_length]
    exact hown8)
  have h78 : Below (w.heap.size + 1) w7 w8 := (Below.refl _ w7).grown hgrow hz7 HO7.out.ge
  have HC8 := Lib.hid (HC7.out.keepAt h78 (Nat.lt_succ_self _))
  have B8 := Lib.hid (B7.out.trans (h78.mono (Nat.le_succ _)))
  have hz8 : w.heap.size + 1 ≤ w8.heap.size := Nat.le_trans hz7 h78.size
  obtain ⟨P2, hP⟩ : ∃ P2, P2 = P1 ++ ofB m 4 := ⟨_, rfl⟩
  have HP2L := Lib.hid (show P2.length = 19 by rw [hP, List.length_append, HPL.out, ofB_length])
  rw [← hP] at HO8 HHE
  clear hown8 hgrow h78 HO7 B7 HC7 HCE hz7 hP HPL
  have HS6 := Lib.hid (show ∀ u, Below (w.heap.size + 1) w8 u → Below (w.heap.size + 1) w8 u ∧ u.cell? ⟨w.heap.size, 0, none⟩ = some (.bool false) ∧ u.cell? ⟨w.heap.size, 1, none⟩ = some (.int .u32 (n : Int)) ∧ u.cell? ⟨w.heap.size, 2, none⟩ = some (.bool r) ∧ u.cell? ⟨w.heap.size, 3, none⟩ = some (.int .i64 (m : Int)) from fun u hu => by
    have h := HC8.out.keepAt hu (Nat.lt_succ_self _)
    exact ⟨hu, h.c0, h.c1, h.c2, h.c3⟩)
  have HH6 := Lib.hid (show ∀ u, (Below (w.heap.size + 1) w8 u ∧ u.cell? ⟨w.heap.size, 0, none⟩ = some (.bool false) ∧ u.cell? ⟨w.heap.size, 1, none⟩ = some (.int .u32 (n : Int)) ∧ u.cell? ⟨w.heap.size, 2, none⟩ = some (.bool r) ∧ u.cell? ⟨w.heap.size, 3, none⟩ = some (.int .i64 (m : Int))) → Calls Tryd.prog 93 #[.bool r, .int .i64 (m : Int)] u fun x w' => x = .returned (.int .i64 (k : Int)) ∧ u = w' from fun u _ => HH.out u)
  have HU6 := Lib.hid (show ∀ u, (Below (w.heap.size + 1) w8 u ∧ u.cell? ⟨w.heap.size, 0, none⟩ = some (.bool false) ∧ u.cell? ⟨w.heap.size, 1, none⟩ = some (.int .u32 (n : Int)) ∧ u.cell? ⟨w.heap.size, 2, none⟩ = some (.bool r) ∧ u.cell? ⟨w.heap.size, 3, none⟩ = some (.int .i64 (m : Int))) → Ow (w.heap.size + 1) u v8 P2 → Calls Tryd.prog 92 #[.slice (some ⟨w.heap.size, 4, none⟩) 8 8, .int .i64 (q : Int)] u fun x w' => ∃ g, x = .returned (.slice (some ⟨g, 0, none⟩) q q) ∧ (∀ (j : Nat) (v : Value), ((unpB [d0, d1, d2, d3, d4, d5, d6, d7] q).map (fun n : Nat => Value.int .u8 ((n : Nat) : Int)))[j]? = some v → w'.cell? (Addr.add ⟨g, 0, none⟩ j) = some v) ∧ Ow (w.heap.size + 1) w' v8 P2 ∧ Below (w.heap.size + 1) w8 w' ∧ w'.cell? ⟨w.heap.size, 0, none⟩ = some (.bool false) ∧ w'.cell? ⟨w.heap.size, 1, none⟩ = some (.int .u32 (n : Int)) ∧ w'.cell? ⟨w.heap.size, 2, none⟩ = some (.bool r) ∧ w'.cell? ⟨w.heap.size, 3, none⟩ = some (.int .i64 (m : Int)) from fun u hu ho => by
    have hf := HC8.out.keepAt hu.1 (Nat.lt_succ_self _)
    have hsz := hu.1.size
    have hI : Str u.heap.size u (.slice (some ⟨w.heap.size, 4, none⟩) 8 8) [d0, d1, d2, d3, d4, d5, d6, d7] := .inr ⟨w.heap.size, 4, 8, rfl, Nat.le_refl _, by omega, by omega, fun j hj => hf.cd j hj⟩
    refine (unpack_yes _ 8 8 [d0, d1, d2, d3, d4, d5, d6, d7] q (by omega) (by omega) (fun j => ?_) u hI).mono ?_
    · by_cases hj : j < 8
      · have hm : ([d0, d1, d2, d3, d4, d5, d6, d7] : List Nat)[j]?.getD 0 ∈ ([d0, d1, d2, d3, d4, d5, d6, d7] : List Nat) := by
          rw [List.getElem?_eq_getElem (by simpa using hj)]
          exact List.getElem_mem _
        exact HDB.out _ hm
      · rw [List.getElem?_eq_none (by simpa using hj)]; exact Nat.zero_lt_succ _
    · rintro x w' ⟨v, rfl, hmd, hb⟩
      obtain ⟨g, rfl, hcl⟩ := made_cells hmd
      have hql : (unpB [d0, d1, d2, d3, d4, d5, d6, d7] q).length = q := by simp [unpB]
      rw [hql]
      exact ⟨g, rfl, hcl, ho.on hb, HS6.out _ (hu.1.trans (hb.mono (by omega)))⟩)
  go_wp2_with fail
  have k6 := HS6.out _ (Below.refl (w.heap.size + 1) w8).drew
  have ho6 : Ow (w.heap.size + 1) w8.drew v8 P2 := HO8.out.on ((Below.refl _ w8).drew)
  go_region_held3 (fun w' => Below (w.heap.size + 1) w8 w' ∧ w'.cell? ⟨w.heap.size, 0, none⟩ = some (.bool false) ∧ w'.cell? ⟨w.heap.size, 1, none⟩ = some (.int .u32 (n : Int)) ∧ w'.cell? ⟨w.heap.size, 2, none⟩ = some (.bool r) ∧ w'.cell? ⟨w.heap.size, 3, none⟩ = some (.int .i64 (m : Int))) (assumption) (first | (refine step_append_own6 _ rfl (.tmp 27) (.tmp 36) 92 rfl (w.heap.size + 1) 5 i0 (.int .u8 0) 1 1 Tryd.underlying92 hi hz0 hz1' hz2 rfl (by decide) _ _ _ rfl ho9.own ⟨g9, 0, none⟩ q q ((unpB [d0, d1, d2, d3, d4, d5, d6, d7] q).map (fun n : Nat => Value.int .u8 ((n : Nat) : Int))) rfl (by rw [List.length_map]; simp [unpB]) hcells9 (flat_bytes _) (by rw [HP2L.out]; unfold maxLen; omega) (by rw [HP2L.out]; omega) (Nat.le_trans hz8 h9.1.size) ?_; intro v10 w10 hown10 hgrow10 _; have h10 := HS6.out _ (h9.1.grown hgrow10 (Nat.le_trans hz8 h9.1.size) ho9.ge)) | (go_at_call 93; refine (HH6.out _ (by assumption)).mono ?_; rintro x w9' ⟨rfl, rfl⟩) | (go_at_call 92; refine (HU6.out _ (by assumption) (by assumption)).mono ?_; rintro x w9 ⟨g9, rfl, hcells9, ho9, h9⟩))
  have HO10 := Lib.hid (show Ow (w.heap.size + 1) w10 v10 Hd by
    have e : Hd = P2 ++ unpB [d0, d1, d2, d3, d4, d5, d6, d7] q := by rw [HHE.out, HDK.out]
    rw [e]
    unfold Ow
    rw [List.length_append, List.map_append, show (unpB [d0, d1, d2, d3, d4, d5, d6, d7] q).length = q by simp [unpB]]
    exact hown10)
  have B10 := Lib.hid (B8.out.trans (h10.1.mono (Nat.le_succ _)))
  obtain ⟨a10, c10, rfl⟩ := HO10.out.shape
  have S10 := Lib.hid HO10.out.str
  clear k6 ho6 h9 h10 ho9 hcells9 hown10 hgrow10 HS6 HH6 HU6 HO8 HC8 HHE HDK B8 hz8
  go_wp2_with fail
  refine (seal_any _ _ _ Hd HHN.out _ (Nat.lt_of_lt_of_le h0 B10.out.size) (HT.out.onB B10.out h0) S10.out).mono ?_
  rintro x w11 ⟨v11, rfl, ho, hb⟩
  rw [bitsOf_self HHL.out] at ho
  have HO11 := Lib.hid (Ow.low ho B10.out.size)
  have B11 := Lib.hid (below_trans' B10.out hb)
  clear ho hb
  go_wp2_with fail
  go_ret
  exact ⟨_, rfl, HO11.out, B11.out⟩
set_option maxRecDepth 100000 in
set_option maxHeartbeats 4000000 in
theorem frameBody_ext (n : Nat) (hn : n < 4294967296) (r : Bool) (m : Nat) (data : List Nat) (hd : data.length = 8) (hdb : ∀ x ∈ data, x < 256) (hok : rightF true n r (m : Int) data = 0) (w : World) (h0 : 0 < w.heap.size) (hT : Tab w) : Calls Tryd.prog 71 #[frameV true n r (m : Int) data] w fun x w' => ∃ v, x = .returned v ∧ Ow w.heap.size w' v (bodyB true n r m data) ∧ Below w.heap.size w w' := by
  have hC := FrameAt.new w 99 true n r (m : Int) data hd
  have HR := Lib.hid (fun u => frameRight_any true n r (m : Int) data hd u)
  rw [hok] at HR
  obtain ⟨hri, hm8, _⟩ := rightF_data hok
  have HLY := Lib.hid (fun u => layoutOf_any true u)
  have HBI := Lib.hid (fun u => idbits_any true n r hn u)
  have hil : (idBits true n r).length = 32 := by rw [idBits_length true n r hri]; rfl
  obtain ⟨X, hX⟩ : ∃ X, X = idBits true n r := ⟨_, rfl⟩
  obtain ⟨Hd, hH⟩ : ∃ Hd, Hd = headB true n r m data := ⟨_, rfl⟩
  have HHE := Lib.hid (show Hd = 0 :: X ++ [0, 0] ++ ofB m 4 ++ (if r then [] else dataBits data m) by rw [hH, hX]; unfold headB; simp)
  have HHL := Lib.hid (show ∀ x ∈ Hd, x ≤ 1 by rw [hH]; exact headB_le _ _ _ _ _)
  have HBO := Lib.hid (show bodyB true n r m data = Hd ++ ofB (crcOf Hd 0) 15 by rw [hH]; rfl)
  have HHN := Lib.hid (show Hd.length ≤ 1000 by have := headB_length (r := r) (len := m) (data := data) hri; rw [← hH] at this; unfold sizeN at this; have h2 : (if r = true then 0 else 8 * m) ≤ 64 := (by split <;> omega); (try simp at this); omega)
  rw [← hX] at HBI hil
  have HXL := Lib.hid hil
  have hmk : ∀ u : World, (Instr.makeSlice 92 (.int .i64 35) (.int .i64 35)).run Tryd.prog u = .ok (.slice (some ⟨u.heap.size, 0, none⟩) 35 35) (u.alloc (.cells (madeCells #[.int .u8 0] 35) 5)) := make_bytes 35 (by omega)
  have hfl : ∀ u : World, Sem.run Tryd.prog (Instr.field 121 (.agg #[.bool true, .int .i64 32, .int .i64 35]) 2) u = .ok (.int .i64 35) u := fun u => by kernel_rfl
  have hslA : ∀ u : World, Sem.run Tryd.prog (Instr.sliceAt 97 (.pointer (some ⟨w.heap.size, 4, none⟩)) none none none) u = .ok (.slice (some ⟨w.heap.size, 4, none⟩) 8 8) u := fun u => all8 w.heap.size u
  have hm64 : IntKind.u64.wrap (m : Int) = (m : Int) := by rw [IntKind.wrap_u64]; omega
  obtain ⟨k, hk⟩ : ∃ k, k = if r then 0 else m := ⟨_, rfl⟩
  have hk8 : k ≤ 8 := by rw [hk]; split <;> omega
  have hki : (if r = true then (0 : Int) else (m : Int)) = (k : Int) := by rw [hk]; cases r <;> rfl
  have HH := Lib.hid (fun u => held_any r (m : Int) u)
  rw [hki] at HH
  have HDK := Lib.hid (show unpB data (8 * k) = if r then [] else dataBits data m by
    rw [unp_data, hk]
    cases r <;> rfl)
  have h8k : (8 : Int) * (k : Int) = ((8 * k : Nat) : Int) := by omega
  obtain ⟨q, hq⟩ : ∃ q, q = 8 * k := ⟨_, rfl⟩
  rw [← hq] at HDK h8k
  have hq64 : q ≤ 64 := by omega
  have h8w : IntKind.i64.wrap ((8 : Int) * (k : Int)) = (q : Int) := by rw [h8k]; simp [IntKind.wrap, IntKind.signed, IntKind.bits]; omega
  have hqw : IntKind.i64.wrap (q : Int) = (q : Int) := by simp [IntKind.wrap, IntKind.signed, IntKind.bits]; omega
  have h8v : wrap64 ((8 : Int) * (k : Int)) = (q : Int) := by rw [h8k]; exact w64_in _ (by omega)
  have HDB := Lib.hid hdb
  have HT := Lib.hid hT
  obtain ⟨i0, hi, hz0, hz1', hz2⟩ := info_parts info_u8
  obtain ⟨d0, d1, d2, d3, d4, d5, d6, d7, rfl⟩ := eight hd
  unfold identV at HBI
  simp only [frameV, frameC, List.map] at HR ⊢
  simp only [frameC, List.map] at hC
  have HC := Lib.hid hC
  rw [HBO.out]
  clear hC hok hri hX hH hk hki hdb hT hil hd hq
  go_enter Tryd.func71, Tryd.ntmps71
  have c := HC.out.cells
  go_wp2_with fail
  refine (HR.out _).mono ?_
  rintro x w1 ⟨rfl, hb⟩
  have B1 := Lib.hid (below_trans' ((Below.refl _ w).alloc (Nat.le_refl _) _) hb)
  have HC1 := Lib.hid (HC.out.keep hb (by simp))
  have hz1 : w.heap.size < w1.heap.size := by have := hb.size; simp at this; omega
  obtain ⟨c0, c1, c2, c3, _⟩ := HC1.out.cells
  clear hb c
  go_wp2_with fail
  refine (HLY.out _).mono ?_
  rintro x w3 ⟨rfl, hb⟩
  have B3 := Lib.hid (below_trans' B1.out hb)
  have HC3 := Lib.hid (HC1.out.keep hb hz1)
  have hz3 : w.heap.size < w3.heap.size := Nat.lt_of_lt_of_le hz1 hb.size
  clear hb B1 HC1 c0 c1 c2 c3
  unfold layV
  go_wp2_with fail
  clear hmk
  obtain ⟨wb, hwb⟩ : ∃ wb, wb = w3.alloc (.cells (madeCells #[.int .u8 0] 35) 5) := ⟨_, rfl⟩
  have hrow : wb.heap[w3.heap.size]? = some (.cells (List.replicate 35 (Value.int .u8 0)).toArray 5 (0, 0)) := by
    rw [hwb]
    rw [show (List.replicate 35 (Value.int .u8 0)).toArray = (madeCells #[Value.int .u8 0] 35) by kernel_rfl]
    exact World.alloc_heap_new w3 _
  have hzb : wb.heap.size = w3.heap.size + 1 := by rw [hwb]; simp
  have HCB := Lib.hid (show FrameAt wb w.heap.size true n r (m : Int) [d0, d1, d2, d3, d4, d5, d6, d7] by rw [hwb]; exact HC3.out.more hz3 _)
  have BB := Lib.hid (show Below w.heap.size w wb by rw [hwb]; exact B3.out.alloc B3.out.size _)
  rw [← hwb]
  clear hwb HC3 B3
  have HS4 := Lib.hid (show ∀ u, Below w3.heap.size wb u → Below w3.heap.size wb u ∧ u.cell? ⟨w.heap.size, 0, none⟩ = some (.bool true) ∧ u.cell? ⟨w.heap.size, 1, none⟩ = some (.int .u32 (n : Int)) ∧ u.cell? ⟨w.heap.size, 2, none⟩ = some (.bool r) ∧ u.cell? ⟨w.heap.size, 3, none⟩ = some (.int .i64 (m : Int)) from fun u hu => by
    have h := HCB.out.keepAt hu hz3
    exact ⟨hu, h.c0, h.c1, h.c2, h.c3⟩)
  have HB4 := Lib.hid (show ∀ u, (Below w3.heap.size wb u ∧ u.cell? ⟨w.heap.size, 0, none⟩ = some (.bool true) ∧ u.cell? ⟨w.heap.size, 1, none⟩ = some (.int .u32 (n : Int)) ∧ u.cell? ⟨w.heap.size, 2, none⟩ = some (.bool r) ∧ u.cell? ⟨w.heap.size, 3, none⟩ = some (.int .i64 (m : Int))) → Calls Tryd.prog 90 #[.agg #[.bool true, .int .u32 (n : Int)], .bool r] u fun x w' => ∃ g cg, x = .returned (.slice (some ⟨g, 0, none⟩) 32 cg) ∧ (∀ (j : Nat) (v : Value), (X.map (fun n : Nat => Value.int .u8 ((n : Nat) : Int)))[j]? = some v → w'.cell? (Addr.add ⟨g, 0, none⟩ j) = some v) ∧ w'.heap[w3.heap.size]? = u.heap[w3.heap.size]? ∧ Below w3.heap.size wb w' ∧ w'.cell? ⟨w.heap.size, 0, none⟩ = some (.bool true) ∧ w'.cell? ⟨w.heap.size, 1, none⟩ = some (.int .u32 (n : Int)) ∧ w'.cell? ⟨w.heap.size, 2, none⟩ = some (.bool r) ∧ w'.cell? ⟨w.heap.size, 3, none⟩ = some (.int .i64 (m : Int)) from fun u hu => (HBI.out u).mono (by
    rintro x w' ⟨v, rfl, ho, hb⟩
    obtain ⟨g, cg, rfl, hcells⟩ := ho.cells (by rw [HXL.out]; omega)
    rw [HXL.out]
    have hz := hu.1.size
    exact ⟨g, cg, rfl, hcells, hb.block _ (by omega), HS4.out _ (hu.1.trans (hb.mono (by omega)))⟩))
  have k4 := HS4.out _ (Below.refl w3.heap.size wb).drew
  have hrowd : wb.drew.heap[w3.heap.size]? = some (.cells (List.replicate 35 (Value.int .u8 0)).toArray 5 (0, 0)) := hrow
  go_region_held3 (fun w' => Below w3.heap.size wb w' ∧ w'.cell? ⟨w.heap.size, 0, none⟩ = some (.bool true) ∧ w'.cell? ⟨w.heap.size, 1, none⟩ = some (.int .u32 (n : Int)) ∧ w'.cell? ⟨w.heap.size, 2, none⟩ = some (.bool r) ∧ w'.cell? ⟨w.heap.size, 3, none⟩ = some (.int .i64 (m : Int))) (assumption) (first | (refine step_copy_splice rfl (.tmp 14) (.tmp 19) 92 92 rfl 5 Tryd.underlying92 (by kernel_rfl) _ _ _ _ _ _ rfl rfl w3.heap.size 1 (List.replicate 35 (Value.int .u8 0)) 5 hrow5 (X.map (fun n : Nat => Value.int .u8 ((n : Nat) : Int))) (by rw [List.length_map, HXL.out]; rfl) (fun _ => ⟨rfl, _, rfl, hcells5⟩) (by rw [List.length_map, HXL.out, List.length_replicate]; omega) (flat_bytes _) w3.heap.size wb h5.1 (Nat.le_refl _) ?_; intro w6 hg6 hb6; have h6 := HS4.out _ hb6) | (go_at_call 90; refine (HB4.out _ (by assumption)).mono ?_; rintro x w5 ⟨g5, cg5, rfl, hcells5, hr5, h5⟩; have hrow5 := hr5.trans hrowd))
  have HC6 := Lib.hid (HCB.out.keepAt hb6 hz3)
  have B6 := Lib.hid (BB.out.trans (hb6.mono (by omega)))
  have hz6 : w.heap.size < w6.heap.size := by have := hb6.size; omega
  have hP1 : (0 :: X ++ [0, 0]).length = 35 := by simp [HXL.out]
  have HO6 := Lib.hid (show Ow (w.heap.size + 1) w6 (.slice (some ⟨w3.heap.size, 0, none⟩) 35 35) (0 :: X ++ [0, 0]) from ow_block hP1 (by omega) (by omega) (by
    refine hg6.out.trans ?_
    congr 3
    unfold splice
    rw [List.length_map, HXL.out]
    show [Value.int .u8 0] ++ (X.map (fun n : Nat => Value.int .u8 ((n : Nat) : Int)) ++ [Value.int .u8 0, Value.int .u8 0]) = _
    simp))
  have c3 := HC6.out.c3
  clear h5 hr5 hcells5 hrow5 hrowd hg6 hb6 h6 k4 HB4 HS4 BB HCB hrow hzb
  obtain ⟨P1, hP⟩ : ∃ P1, P1 = 0 :: X ++ [0, 0] := ⟨_, rfl⟩
  rw [← hP] at HO6 HHE hP1
  have HPL := Lib.hid hP1
  clear hP hP1
  go_wp2_with fail
  refine (of_yes m 4 (by omega) (by omega) (by omega) _).mono ?_
  rintro x w7 ⟨v4, rfl, hmm, hb⟩
  obtain ⟨g4, cg4, rfl, hcells4⟩ := (made_ow hmm).cells (by rw [ofB_length]; omega)
  rw [ofB_length]
  have HCE := Lib.hid hcells4
  have HO7 := Lib.hid (HO6.out.on hb)
  have B7 := Lib.hid (below_trans' B6.out hb)
  have HC7 := Lib.hid (HC6.out.keep hb hz6)
  have hz7 : w.heap.size + 1 ≤ w7.heap.size := Nat.le_trans hz6 hb.size
  clear hmm hb HO6 B6 HC6 hcells4 c3 hz6
  go_wp2_with (at_builtin; refine wpList_append_own _ rfl _ _ 92 rfl (w.heap.size + 1) 5 i0 (.int .u8 0) 1 1 Tryd.underlying92 hi hz0 hz1' hz2 rfl (by decide) _ _ _ rfl HO7.out.own ⟨g4, 0, none⟩ 4 cg4 ((ofB m 4).map (fun n : Nat => Value.int .u8 ((n : Nat) : Int))) rfl ?c0 HCE.out (flat_bytes _) ?c3 ?c4 ?c5 ?_)
  case c0 => rw [List.length_map, ofB_length]
  case c3 => rw [HPL.out]; unfold maxLen; omega
  case c4 => rw [HPL.out]; omega
  case c5 => exact hz7
  intro v8 w8 hown8 hgrow _
  have HO8 := Lib.hid (show Ow (w.heap.size + 1) w8 v8 (P1 ++ ofB m 4) by
    unfold Ow
    rw [List.length_append, List.map_append, ofB_length]
    exact hown8)
  have h78 : Below (w.heap.size + 1) w7 w8 := (Below.refl _ w7).grown hgrow hz7 HO7.out.ge
  have HC8 := Lib.hid (HC7.out.keepAt h78 (Nat.lt_succ_self _))
  have B8 := Lib.hid (B7.out.trans (h78.mono (Nat.le_succ _)))
  have hz8 : w.heap.size + 1 ≤ w8.heap.size := Nat.le_trans hz7 h78.size
  obtain ⟨P2, hP⟩ : ∃ P2, P2 = P1 ++ ofB m 4 := ⟨_, rfl⟩
  have HP2L := Lib.hid (show P2.length = 39 by rw [hP, List.length_append, HPL.out, ofB_length])
  rw [← hP] at HO8 HHE
  clear hown8 hgrow h78 HO7 B7 HC7 HCE hz7 hP HPL
  have HS6 := Lib.hid (show ∀ u, Below (w.heap.size + 1) w8 u → Below (w.heap.size + 1) w8 u ∧ u.cell? ⟨w.heap.size, 0, none⟩ = some (.bool true) ∧ u.cell? ⟨w.heap.size, 1, none⟩ = some (.int .u32 (n : Int)) ∧ u.cell? ⟨w.heap.size, 2, none⟩ = some (.bool r) ∧ u.cell? ⟨w.heap.size, 3, none⟩ = some (.int .i64 (m : Int)) from fun u hu => by
    have h := HC8.out.keepAt hu (Nat.lt_succ_self _)
    exact ⟨hu, h.c0, h.c1, h.c2, h.c3⟩)
  have HH6 := Lib.hid (show ∀ u, (Below (w.heap.size + 1) w8 u ∧ u.cell? ⟨w.heap.size, 0, none⟩ = some (.bool true) ∧ u.cell? ⟨w.heap.size, 1, none⟩ = some (.int .u32 (n : Int)) ∧ u.cell? ⟨w.heap.size, 2, none⟩ = some (.bool r) ∧ u.cell? ⟨w.heap.size, 3, none⟩ = some (.int .i64 (m : Int))) → Calls Tryd.prog 93 #[.bool r, .int .i64 (m : Int)] u fun x w' => x = .returned (.int .i64 (k : Int)) ∧ u = w' from fun u _ => HH.out u)
  have HU6 := Lib.hid (show ∀ u, (Below (w.heap.size + 1) w8 u ∧ u.cell? ⟨w.heap.size, 0, none⟩ = some (.bool true) ∧ u.cell? ⟨w.heap.size, 1, none⟩ = some (.int .u32 (n : Int)) ∧ u.cell? ⟨w.heap.size, 2, none⟩ = some (.bool r) ∧ u.cell? ⟨w.heap.size, 3, none⟩ = some (.int .i64 (m : Int))) → Ow (w.heap.size + 1) u v8 P2 → Calls Tryd.prog 92 #[.slice (some ⟨w.heap.size, 4, none⟩) 8 8, .int .i64 (q : Int)] u fun x w' => ∃ g, x = .returned (.slice (some ⟨g, 0, none⟩) q q) ∧ (∀ (j : Nat) (v : Value), ((unpB [d0, d1, d2, d3, d4, d5, d6, d7] q).map (fun n : Nat => Value.int .u8 ((n : Nat) : Int)))[j]? = some v → w'.cell? (Addr.add ⟨g, 0, none⟩ j) = some v) ∧ Ow (w.heap.size + 1) w' v8 P2 ∧ Below (w.heap.size + 1) w8 w' ∧ w'.cell? ⟨w.heap.size, 0, none⟩ = some (.bool true) ∧ w'.cell? ⟨w.heap.size, 1, none⟩ = some (.int .u32 (n : Int)) ∧ w'.cell? ⟨w.heap.size, 2, none⟩ = some (.bool r) ∧ w'.cell? ⟨w.heap.size, 3, none⟩ = some (.int .i64 (m : Int)) from fun u hu ho => by
    have hf := HC8.out.keepAt hu.1 (Nat.lt_succ_self _)
    have hsz := hu.1.size
    have hI : Str u.heap.size u (.slice (some ⟨w.heap.size, 4, none⟩) 8 8) [d0, d1, d2, d3, d4, d5, d6, d7] := .inr ⟨w.heap.size, 4, 8, rfl, Nat.le_refl _, by omega, by omega, fun j hj => hf.cd j hj⟩
    refine (unpack_yes _ 8 8 [d0, d1, d2, d3, d4, d5, d6, d7] q (by omega) (by omega) (fun j => ?_) u hI).mono ?_
    · by_cases hj : j < 8
      · have hm : ([d0, d1, d2, d3, d4, d5, d6, d7] : List Nat)[j]?.getD 0 ∈ ([d0, d1, d2, d3, d4, d5, d6, d7] : List Nat) := by
          rw [List.getElem?_eq_getElem (by simpa using hj)]
          exact List.getElem_mem _
        exact HDB.out _ hm
      · rw [List.getElem?_eq_none (by simpa using hj)]; exact Nat.zero_lt_succ _
    · rintro x w' ⟨v, rfl, hmd, hb⟩
      obtain ⟨g, rfl, hcl⟩ := made_cells hmd
      have hql : (unpB [d0, d1, d2, d3, d4, d5, d6, d7] q).length = q := by simp [unpB]
      rw [hql]
      exact ⟨g, rfl, hcl, ho.on hb, HS6.out _ (hu.1.trans (hb.mono (by omega)))⟩)
  go_wp2_with fail
  have k6 := HS6.out _ (Below.refl (w.heap.size + 1) w8).drew
  have ho6 : Ow (w.heap.size + 1) w8.drew v8 P2 := HO8.out.on ((Below.refl _ w8).drew)
  go_region_held3 (fun w' => Below (w.heap.size + 1) w8 w' ∧ w'.cell? ⟨w.heap.size, 0, none⟩ = some (.bool true) ∧ w'.cell? ⟨w.heap.size, 1, none⟩ = some (.int .u32 (n : Int)) ∧ w'.cell? ⟨w.heap.size, 2, none⟩ = some (.bool r) ∧ w'.cell? ⟨w.heap.size, 3, none⟩ = some (.int .i64 (m : Int))) (assumption) (first | (refine step_append_own6 _ rfl (.tmp 27) (.tmp 36) 92 rfl (w.heap.size + 1) 5 i0 (.int .u8 0) 1 1 Tryd.underlying92 hi hz0 hz1' hz2 rfl (by decide) _ _ _ rfl ho9.own ⟨g9, 0, none⟩ q q ((unpB [d0, d1, d2, d3, d4, d5, d6, d7] q).map (fun n : Nat => Value.int .u8 ((n : Nat) : Int))) rfl (by rw [List.length_map]; simp [unpB]) hcells9 (flat_bytes _) (by rw [HP2L.out]; unfold maxLen; omega) (by rw [HP2L.out]; omega) (Nat.le_trans hz8 h9.1.size) ?_; intro v10 w10 hown10 hgrow10 _; have h10 := HS6.out _ (h9.1.grown hgrow10 (Nat.le_trans hz8 h9.1.size) ho9.ge)) | (go_at_call 93; refine (HH6.out _ (by assumption)).mono ?_; rintro x w9' ⟨rfl, rfl⟩) | (go_at_call 92; refine (HU6.out _ (by assumption) (by assumption)).mono ?_; rintro x w9 ⟨g9, rfl, hcells9, ho9, h9⟩))
  have HO10 := Lib.hid (show Ow (w.heap.size + 1) w10 v10 Hd by
    have e : Hd = P2 ++ unpB [d0, d1, d2, d3, d4, d5, d6, d7] q := by rw [HHE.out, HDK.out]
    rw [e]
    unfold Ow
    rw [List.length_append, List.map_append, show (unpB [d0, d1, d2, d3, d4, d5, d6, d7] q).length = q by simp [unpB]]
    exact hown10)
  have B10 := Lib.hid (B8.out.trans (h10.1.mono (Nat.le_succ _)))
  obtain ⟨a10, c10, rfl⟩ := HO10.out.shape
  have S10 := Lib.hid HO10.out.str
  clear k6 ho6 h9 h10 ho9 hcells9 hown10 hgrow10 HS6 HH6 HU6 HO8 HC8 HHE HDK B8 hz8
  go_wp2_with fail
  refine (seal_any _ _ _ Hd HHN.out _ (Nat.lt_of_lt_of_le h0 B10.out.size) (HT.out.onB B10.out h0) S10.out).mono ?_
  rintro x w11 ⟨v11, rfl, ho, hb⟩
  rw [bitsOf_self HHL.out] at ho
  have HO11 := Lib.hid (Ow.low ho B10.out.size)
  have B11 := Lib.hid (below_trans' B10.out hb)
  clear ho hb
  go_wp2_with fail
  go_ret
  exact ⟨_, rfl, HO11.out, B11.out⟩
theorem frameBody_no (e : Bool) (n : Nat) (r : Bool) (len : Int) (data : List Nat) (hd : data.length = 8) (hok : rightF e n r len data ≠ 0) (w : World) : Calls Tryd.prog 71 #[frameV e n r len data] w fun x w' => x = .returned (.slice none 0 0) ∧ Below w.heap.size w w' := by
  have hC := FrameAt.new w 99 e n r len data hd
  have HR := Lib.hid (fun u => frameRight_any e n r len data hd u)
  obtain ⟨v, hv⟩ : ∃ v, v = rightF e n r len data := ⟨_, rfl⟩
  rw [← hv] at HR hok
  have hne : ((v : Int) != 0) = true := by rw [bne_iff_ne]; omega
  obtain ⟨d0, d1, d2, d3, d4, d5, d6, d7, rfl⟩ := eight hd
  simp only [frameV, frameC, List.map] at HR ⊢
  clear hv hd hok hC
  go_enter Tryd.func71, Tryd.ntmps71
  go_wp2_with fail
  refine (HR.out _).mono ?_
  rintro x w1 ⟨rfl, hb⟩
  have B1 := Lib.hid (below_trans' ((Below.refl _ w).alloc (Nat.le_refl _) _) hb)
  clear hb
  go_wp2_with fail
  go_ret
  exact ⟨rfl, B1.out⟩
theorem frameBody_yes (e : Bool) (n : Nat) (hn : n < 4294967296) (r : Bool) (m : Nat) (data : List Nat) (hd : data.length = 8) (hdb : ∀ x ∈ data, x < 256) (hok : rightF e n r (m : Int) data = 0) (w : World) (h0 : 0 < w.heap.size) (hT : Tab w) : Calls Tryd.prog 71 #[frameV e n r (m : Int) data] w fun x w' => ∃ v, x = .returned v ∧ Ow w.heap.size w' v (bodyB e n r m data) ∧ Below w.heap.size w w' := by
  cases e
  · exact frameBody_std n hn r m data hd hdb hok w h0 hT
  · exact frameBody_ext n hn r m data hd hdb hok w h0 hT
end Go.Proofs.YtolhckahphmffaaDoor
