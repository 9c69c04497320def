/- The code of package frame: the frame of a body. Conditions: not more than a thousand bits, and as many as the body has. -/
import Derived.Test.YtmfnkfiocnngeaaDoorFcc
import Derived.Test.YtmfnkfiocnngeaaDoorFcg
import Derived.Lib.LazyBuf
namespace Go.Proofs.YtmfnkfiocnngeaaDoor
open Go.RowKit Go.Shelf
/-- A block's cells, all of them. -/
def Blk (W : World) (B : Nat) (T : TypeId) (l : List Value) : Prop := W.heap[B]? = some (.cells l.toArray T (0, 0))
theorem Blk.row {W : World} {B : Nat} {T : TypeId} {l : List Value} (h : Blk W B T l) : W.rowIs B T l.length (fun i => (l[i]?).getD (.bool false)) :=
  ⟨l.toArray, h, by simp, fun i hi => by simp [hi]⟩
theorem Blk.of_row {W : World} {B : Nat} {T : TypeId} {f : Nat → Value} {n : Nat} (h : W.rowIs B T n f) (l : List Value) (hl : l.length = n) (hf : ∀ i (hi : i < l.length), f i = l[i]) : Blk W B T l := by
  obtain ⟨c, h1, h2, h3⟩ := h
  unfold Blk
  rw [h1]
  congr 2
  apply Array.ext
  · simp [h2, hl]
  · intro i h4 h5
    have h6 := h3 i (by omega)
    rw [Array.getElem?_eq_getElem h4] at h6
    rw [Option.some.inj h6, hf i (by simpa using h5)]
    simp
theorem Blk.keep {W X : World} {B n : Nat} {T : TypeId} {l : List Value} (h : Blk W B T l) (hb : Below n W X) (hB : B < n) : Blk X B T l := (hb.block B hB).trans h
theorem Blk.lt {W : World} {B : Nat} {T : TypeId} {l : List Value} (h : Blk W B T l) : B < W.heap.size := (Blk.row h).lt
theorem Blk.new (W : World) (T : TypeId) (l : List Value) : Blk (W.alloc (.cells l.toArray T)) W.heap.size T l := World.alloc_heap_new W _
theorem Blk.set {W : World} {B : Nat} {T : TypeId} {l : List Value} (h : Blk W B T l) (l' : List Value) (hl : l'.length = l.length) : Blk (W.setCells B 0 l') B T l' :=
  Blk.of_row (Go.rowIs_setCells l' 0 W _ h.row) l' hl (fun i hi => by
    rw [if_pos (by omega)]
    simp [hi])
theorem Blk.at {W : World} {B : Nat} {e : Bool} {n : Nat} {r : Bool} {len : Int} {data : List Nat} (h : Blk W B 27 (frameC e n r len data)) (hd : data.length = 8) : FrameAt W B e n r len data := by
  have hr := h.row
  have hl : (frameC e n r len data).length = 12 := by simp [frameC, hd]
  rw [hl] at hr
  refine ⟨(hr.cell (by omega)).trans rfl, (hr.cell (by omega)).trans rfl, (hr.cell (by omega)).trans rfl, (hr.cell (by omega)).trans rfl, fun i hi => (hr.cell (by omega)).trans ?_, fun i hi => hr.frozen i⟩
  have : (frameC e n r len data)[4 + i]? = some (.int .u8 ((data[i]?.getD 0 : Nat) : Int)) := by
    rw [Nat.add_comm]
    simp [frameC, show i < data.length by omega]
  rw [this]
  rfl
theorem pack_get (X : List Nat) (k i : Nat) (hX : X.length = 8 * k) (hi : i < k) : (packB X)[i]?.getD 0 = numP (subL (bitsOf X) (8 * i) 8) := by
  have h1 := unp_pack X
  rw [hX, unp_data] at h1
  rw [← h1, dataBits_sub _ _ _ hi, numP_ofB _ _ (by omega), Nat.mod_eq_of_lt (packB_byte X i)]
theorem pack_data (bs : List Nat) (d k : Nat) (hk : k ≤ 8) (h : d + 8 * k ≤ bs.length) : packB (subL bs d (8 * k)) ++ List.replicate (8 - k) 0 = dataOf (bitsOf bs) d k := by
  have hX : (subL bs d (8 * k)).length = 8 * k := subL_length bs d (8 * k) h
  have hp : (packB (subL bs d (8 * k))).length = k := by rw [packB_length, hX]; omega
  apply List.ext_getElem
  · simp [dataOf, hp]; omega
  · intro i h1 h2
    have hi : i < 8 := by simpa [dataOf] using h2
    simp only [dataOf, List.getElem_map, List.getElem_range]
    by_cases c : i < k
    · rw [if_pos c, List.getElem_append_left (by omega), ← subL_subL (bitsOf bs) d (8 * k) (8 * i) 8 (by omega), subL_bits, ← pack_get _ k i hX c, List.getElem?_eq_getElem (by omega)]
      rfl
    · rw [if_neg c, List.getElem_append_right (by omega)]
      simp
theorem splice_frame (e : Bool) (n : Nat) (r : Bool) (len : Int) (P : List Nat) : splice (frameC e n r len [0, 0, 0, 0, 0, 0, 0, 0]) 4 (P.map (fun n : Nat => Value.int .u8 ((n : Nat) : Int))) = frameC e n r len (P ++ List.replicate (8 - P.length) 0) := by
  unfold splice frameC
  rw [show [0, 0, 0, 0, 0, 0, 0, 0] = List.replicate 8 0 from rfl, List.length_map, Nat.add_comm 4]
  simp
  show List.drop P.length (List.replicate 8 (Value.int .u8 0)) = _
  rw [List.drop_replicate]
theorem all8d (B : Nat) (w : World) : Sem.run Tryd.prog (Instr.sliceAt 25 (.pointer (some ⟨B, 4, none⟩)) none none none) w = .ok (.slice (some ⟨B, 4, none⟩) 8 8) w := all8 B w
/-- What a body's first bits say of its identifier. -/
def idN (e : Bool) (bs : List Nat) : Nat := if e then numP (bitsOf (subL bs 1 11)) * 262144 + numP (bitsOf (subL bs 14 18)) else numP (bitsOf (subL bs 1 11))
theorem rdId_any (e : Bool) (R L : Nat) (a : Option Addr) (len cap : Nat) (bs : List Nat) (hn : 14 < bs.length) (he : e = true → 32 ≤ bs.length) (hl : bs.length ≤ 1000) (w : World) (hI : Str w.heap.size w (.slice a len cap) bs) : Calls Tryd.prog 99 #[rdV e R L (.slice a len cap)] w fun x w' => x = .returned (.agg #[.bool e, .int .u32 ((idN e bs : Nat) : Int)]) ∧ Below w.heap.size w w' := by
  cases e
  · exact rdId_std R L a len cap bs hn hl w hI
  · exact rdId_ext R L a len cap bs (he rfl) hl w hI
theorem below_mid {n m : Nat} {a b c : World} (h : Below n a b) (h2 : Below m b c) (hm : n ≤ m) : Below n a c := h.trans (h2.mono hm)
theorem below12 {n B : Nat} {base W : World} (hB : n ≤ B) (h : Below n base W) (v0 v1 v2 v3 v4 v5 v6 v7 v8 v9 v10 v11 : Value) : Below n base ((((((((((((W.setCell ⟨B, 0, none⟩ v0).setCell ⟨B, 1, none⟩ v1).setCell ⟨B, 2, none⟩ v2).setCell ⟨B, 3, none⟩ v3).setCell ⟨B, 4, none⟩ v4).setCell ⟨B, 5, none⟩ v5).setCell ⟨B, 6, none⟩ v6).setCell ⟨B, 7, none⟩ v7).setCell ⟨B, 8, none⟩ v8).setCell ⟨B, 9, none⟩ v9).setCell ⟨B, 10, none⟩ v10).setCell ⟨B, 11, none⟩ v11) :=
  Go.below_setCells hB [v0, v1, v2, v3, v4, v5, v6, v7, v8, v9, v10, v11] 0 W h
theorem Blk.set12 {W : World} {B : Nat} {T : TypeId} {l : List Value} (h : Blk W B T l) (hl : l.length = 12) (v0 v1 v2 v3 v4 v5 v6 v7 v8 v9 v10 v11 : Value) : Blk ((((((((((((W.setCell ⟨B, 0, none⟩ v0).setCell ⟨B, 1, none⟩ v1).setCell ⟨B, 2, none⟩ v2).setCell ⟨B, 3, none⟩ v3).setCell ⟨B, 4, none⟩ v4).setCell ⟨B, 5, none⟩ v5).setCell ⟨B, 6, none⟩ v6).setCell ⟨B, 7, none⟩ v7).setCell ⟨B, 8, none⟩ v8).setCell ⟨B, 9, none⟩ v9).setCell ⟨B, 10, none⟩ v10).setCell ⟨B, 11, none⟩ v11) B T [v0, v1, v2, v3, v4, v5, v6, v7, v8, v9, v10, v11] :=
  h.set [v0, v1, v2, v3, v4, v5, v6, v7, v8, v9, v10, v11] (by rw [hl]; rfl)
/-- A zero frame's block, made just ahead of a call. -/
theorem fz_new {base X : World} (u : World) (h : Below base.heap.size base u) (hb : Below (u.alloc (.cells #[.bool false, .int .u32 0, .bool false, .int .i64 0, .int .u8 0, .int .u8 0, .int .u8 0, .int .u8 0, .int .u8 0, .int .u8 0, .int .u8 0, .int .u8 0] 27)).heap.size (u.alloc (.cells #[.bool false, .int .u32 0, .bool false, .int .i64 0, .int .u8 0, .int .u8 0, .int .u8 0, .int .u8 0, .int .u8 0, .int .u8 0, .int .u8 0, .int .u8 0] 27)) X) : base.heap.size ≤ u.heap.size ∧ Blk X u.heap.size 27 (frameC false 0 false 0 [0, 0, 0, 0, 0, 0, 0, 0]) :=
  ⟨h.size, Blk.keep (Blk.new u 27 (frameC false 0 false 0 [0, 0, 0, 0, 0, 0, 0, 0])) hb (by simp)⟩
theorem fz_newd {base X : World} (u : World) (h : Below base.heap.size base u) (hb : Below (u.alloc (.cells #[.bool false, .int .u32 0, .bool false, .int .i64 0, .int .u8 0, .int .u8 0, .int .u8 0, .int .u8 0, .int .u8 0, .int .u8 0, .int .u8 0, .int .u8 0] 27)).drew.heap.size (u.alloc (.cells #[.bool false, .int .u32 0, .bool false, .int .i64 0, .int .u8 0, .int .u8 0, .int .u8 0, .int .u8 0, .int .u8 0, .int .u8 0, .int .u8 0, .int .u8 0] 27)).drew X) : base.heap.size ≤ u.heap.size ∧ Blk X u.heap.size 27 (frameC false 0 false 0 [0, 0, 0, 0, 0, 0, 0, 0]) :=
  fz_new u h ((Below.refl _ _).drew.trans hb)
theorem fz_keep {n B : Nat} {u X : World} {T : TypeId} {l : List Value} (h : n ≤ B ∧ Blk u B T l) (hb : Below u.heap.size u X) : n ≤ B ∧ Blk X B T l := ⟨h.1, h.2.keep hb h.2.lt⟩
set_option maxRecDepth 100000 in
set_option maxHeartbeats 4000000 in
theorem rdFrame_any (e : Bool) (R L : Nat) (a : Option Addr) (len cap : Nat) (bs : List Nat) (hn : 14 < bs.length) (he : e = true → 32 ≤ bs.length) (hR : R < bs.length) (hL : L + 4 ≤ bs.length) (hs : sumN bs R L + 15 ≤ bs.length) (hl : bs.length ≤ 1000) (w : World) (hI : Str w.heap.size w (.slice a len cap) bs) : Calls Tryd.prog 65 #[rdV e R L (.slice a len cap)] w fun x w' => x = .returned (frameV e (idN e bs) (decide (bs[R]?.getD 0 ≠ 0)) ((min 8 (numP (bitsOf (subL bs L 4))) : Nat) : Int) (dataOf (bitsOf bs) (L + 4) (if bs[R]?.getD 0 ≠ 0 then 0 else min 8 (numP (bitsOf (subL bs L 4)))))) ∧ Below w.heap.size w w' := by
  obtain ⟨v, hv⟩ : ∃ v, v = idN e bs := ⟨_, rfl⟩
  obtain ⟨r, hr⟩ : ∃ r, r = decide (bs[R]?.getD 0 ≠ 0) := ⟨_, rfl⟩
  obtain ⟨m, hm⟩ : ∃ m, m = min 8 (numP (bitsOf (subL bs L 4))) := ⟨_, rfl⟩
  obtain ⟨V, hV⟩ : ∃ V, V = frameV e (idN e bs) (decide (bs[R]?.getD 0 ≠ 0)) ((min 8 (numP (bitsOf (subL bs L 4))) : Nat) : Int) (dataOf (bitsOf bs) (L + 4) (if bs[R]?.getD 0 ≠ 0 then 0 else min 8 (numP (bitsOf (subL bs L 4))))) := ⟨_, rfl⟩
  rw [← hV]
  have HVV := Lib.hid hV
  clear hV
  have HDa := Lib.hid (show ∀ u, Calls Tryd.prog 96 #[.agg #[.bool e, .int .i64 (R : Int), .int .i64 (L : Int)]] u fun x w' => x = .returned (.int .i64 ((L + 4 : Nat) : Int)) ∧ Below u.heap.size u w' from fun u => layData_any e R L (by omega) u)
  have HSu := Lib.hid (show ∀ u, Below w.heap.size w u → Calls Tryd.prog 97 #[rdV e R L (.slice a len cap)] u fun x w' => x = .returned (.int .i64 ((sumN bs R L : Nat) : Int)) ∧ Below u.heap.size u w' from fun u hu => rdSum_any e R L a len cap bs hR hL hl u ((hI.below hu).mono hu.size))
  have HV := Lib.hid hv; have HRR := Lib.hid hr; have HM := Lib.hid hm; have HI := Lib.hid hI; have HLL := Lib.hid hl; have HS2 := Lib.hid hs
  clear hv hr hm hI hl hs
  unfold rdV at *
  go_enter Tryd.func65, Tryd.ntmps65
  go_wp2_with fail
  obtain ⟨wr, hwr⟩ : ∃ wr, wr = (w.alloc (.cells #[.bool e, .int .i64 (R : Int), .int .i64 (L : Int), .slice a len cap] 88)).alloc (.cells #[.bool false, .int .u32 0, .bool false, .int .i64 0, .int .u8 0, .int .u8 0, .int .u8 0, .int .u8 0, .int .u8 0, .int .u8 0, .int .u8 0, .int .u8 0] 27) := ⟨_, rfl⟩
  have HB0 := Lib.hid (show Below w.heap.size w wr by rw [hwr]; exact ((Below.refl _ w).alloc (Nat.le_refl _) _).alloc (by simp) _)
  have hz0 : w.heap.size + 2 ≤ wr.heap.size := by rw [hwr]; simp
  have HR0 := Lib.hid (show Blk wr w.heap.size 88 [.bool e, .int .i64 (R : Int), .int .i64 (L : Int), .slice a len cap] by rw [hwr]; exact (Blk.new w _ _).keep ((Below.refl _ (w.alloc _)).alloc (Nat.le_refl _) _) (by simp))
  have HQ0 := Lib.hid (show Blk wr (w.heap.size + 1) 27 (frameC false 0 false 0 [0, 0, 0, 0, 0, 0, 0, 0]) by rw [hwr]; have h := Blk.new (w.alloc (.cells #[.bool e, .int .i64 (R : Int), .int .i64 (L : Int), .slice a len cap] 88)) 27 (frameC false 0 false 0 [0, 0, 0, 0, 0, 0, 0, 0]); rw [World.size_alloc] at h; exact h)
  have rcell : ∀ u, Below wr.heap.size wr u → u.cell? ⟨w.heap.size, 0, none⟩ = some (.bool e) ∧ u.cell? ⟨w.heap.size, 1, none⟩ = some (.int .i64 (R : Int)) ∧ u.cell? ⟨w.heap.size, 2, none⟩ = some (.int .i64 (L : Int)) ∧ u.cell? ⟨w.heap.size, 3, none⟩ = some (.slice a len cap) := fun u hu => by
    have h := (HR0.out.keep hu (by omega)).row
    exact ⟨h.cell (by simp), h.cell (by simp), h.cell (by simp), h.cell (by simp)⟩
  have HS := Lib.hid (show ∀ u, Below wr.heap.size wr u → (Below wr.heap.size wr u ∧ u.cell? ⟨w.heap.size, 0, none⟩ = some (.bool e) ∧ u.cell? ⟨w.heap.size, 1, none⟩ = some (.int .i64 (R : Int)) ∧ u.cell? ⟨w.heap.size, 2, none⟩ = some (.int .i64 (L : Int)) ∧ u.cell? ⟨w.heap.size, 3, none⟩ = some (.slice a len cap)) from fun u hu => ⟨hu, rcell u hu⟩)
  have HSA := Lib.hid (show ∀ u o, (Below wr.heap.size wr u ∧ u.cell? ⟨w.heap.size, 0, none⟩ = some (.bool e) ∧ u.cell? ⟨w.heap.size, 1, none⟩ = some (.int .i64 (R : Int)) ∧ u.cell? ⟨w.heap.size, 2, none⟩ = some (.int .i64 (L : Int)) ∧ u.cell? ⟨w.heap.size, 3, none⟩ = some (.slice a len cap)) → (Below wr.heap.size wr (u.alloc o) ∧ (u.alloc o).cell? ⟨w.heap.size, 0, none⟩ = some (.bool e) ∧ (u.alloc o).cell? ⟨w.heap.size, 1, none⟩ = some (.int .i64 (R : Int)) ∧ (u.alloc o).cell? ⟨w.heap.size, 2, none⟩ = some (.int .i64 (L : Int)) ∧ (u.alloc o).cell? ⟨w.heap.size, 3, none⟩ = some (.slice a len cap)) from fun u o hu => HS.out _ (hu.1.alloc hu.1.size _))
  have hstr : ∀ u, Below wr.heap.size wr u → Str u.heap.size u (.slice a len cap) bs := fun u hu => by
    have h := HB0.out.trans (hu.mono HB0.out.size)
    exact (HI.out.below h).mono h.size
  have HId := Lib.hid (show ∀ u, (Below wr.heap.size wr u ∧ u.cell? ⟨w.heap.size, 0, none⟩ = some (.bool e) ∧ u.cell? ⟨w.heap.size, 1, none⟩ = some (.int .i64 (R : Int)) ∧ u.cell? ⟨w.heap.size, 2, none⟩ = some (.int .i64 (L : Int)) ∧ u.cell? ⟨w.heap.size, 3, none⟩ = some (.slice a len cap)) → Calls Tryd.prog 99 #[.agg #[.bool e, .int .i64 (R : Int), .int .i64 (L : Int), .slice a len cap]] u fun x w' => x = .returned (.agg #[.bool e, .int .u32 (v : Int)]) ∧ Below u.heap.size u w' ∧ (Below wr.heap.size wr w' ∧ w'.cell? ⟨w.heap.size, 0, none⟩ = some (.bool e) ∧ w'.cell? ⟨w.heap.size, 1, none⟩ = some (.int .i64 (R : Int)) ∧ w'.cell? ⟨w.heap.size, 2, none⟩ = some (.int .i64 (L : Int)) ∧ w'.cell? ⟨w.heap.size, 3, none⟩ = some (.slice a len cap)) from fun u hu => by rw [HV.out]; exact (rdId_any e R L a len cap bs hn he HLL.out u (hstr u hu.1)).mono fun _ _ h => ⟨h.1, h.2, HS.out _ (below_mid hu.1 h.2 hu.1.size)⟩)
  have HAs := Lib.hid (show ∀ u, (Below wr.heap.size wr u ∧ u.cell? ⟨w.heap.size, 0, none⟩ = some (.bool e) ∧ u.cell? ⟨w.heap.size, 1, none⟩ = some (.int .i64 (R : Int)) ∧ u.cell? ⟨w.heap.size, 2, none⟩ = some (.int .i64 (L : Int)) ∧ u.cell? ⟨w.heap.size, 3, none⟩ = some (.slice a len cap)) → Calls Tryd.prog 100 #[.agg #[.bool e, .int .i64 (R : Int), .int .i64 (L : Int), .slice a len cap]] u fun x w' => x = .returned (.bool r) ∧ Below u.heap.size u w' ∧ (Below wr.heap.size wr w' ∧ w'.cell? ⟨w.heap.size, 0, none⟩ = some (.bool e) ∧ w'.cell? ⟨w.heap.size, 1, none⟩ = some (.int .i64 (R : Int)) ∧ w'.cell? ⟨w.heap.size, 2, none⟩ = some (.int .i64 (L : Int)) ∧ w'.cell? ⟨w.heap.size, 3, none⟩ = some (.slice a len cap)) from fun u hu => by rw [HRR.out]; exact (rdAsks_any e R L a len cap bs hR u (hstr u hu.1)).mono fun _ _ h => ⟨h.1, h.2, HS.out _ (below_mid hu.1 h.2 hu.1.size)⟩)
  have HLo := Lib.hid (show ∀ u, (Below wr.heap.size wr u ∧ u.cell? ⟨w.heap.size, 0, none⟩ = some (.bool e) ∧ u.cell? ⟨w.heap.size, 1, none⟩ = some (.int .i64 (R : Int)) ∧ u.cell? ⟨w.heap.size, 2, none⟩ = some (.int .i64 (L : Int)) ∧ u.cell? ⟨w.heap.size, 3, none⟩ = some (.slice a len cap)) → Calls Tryd.prog 101 #[.agg #[.bool e, .int .i64 (R : Int), .int .i64 (L : Int), .slice a len cap]] u fun x w' => x = .returned (.int .i64 (m : Int)) ∧ Below u.heap.size u w' ∧ (Below wr.heap.size wr w' ∧ w'.cell? ⟨w.heap.size, 0, none⟩ = some (.bool e) ∧ w'.cell? ⟨w.heap.size, 1, none⟩ = some (.int .i64 (R : Int)) ∧ w'.cell? ⟨w.heap.size, 2, none⟩ = some (.int .i64 (L : Int)) ∧ w'.cell? ⟨w.heap.size, 3, none⟩ = some (.slice a len cap)) from fun u hu => by rw [HM.out]; exact (rdLong_any e R L a len cap bs hL HLL.out u (hstr u hu.1)).mono fun _ _ h => ⟨h.1, h.2, HS.out _ (below_mid hu.1 h.2 hu.1.size)⟩)
  have k0 := HS.out _ (Below.refl wr.heap.size wr).drew
  have HD1 := Lib.hid (fun o => HS.out _ ((Below.refl wr.heap.size wr).alloc (Nat.le_refl _) o).drew)
  rw [← hwr]
  clear hwr rcell hstr hn he hR hL
  go_cut [3] (fun s3 wx => ∃ bb, s3 = .pointer (some ⟨bb, 0, none⟩) ∧ wr.heap.size ≤ bb ∧ Blk wx bb 27 (frameC e v r (m : Int) [0, 0, 0, 0, 0, 0, 0, 0]) ∧ Below wr.heap.size wr wx)
  case first =>
    go_region_held3 (fun u => (Below wr.heap.size wr u ∧ u.cell? ⟨w.heap.size, 0, none⟩ = some (.bool e) ∧ u.cell? ⟨w.heap.size, 1, none⟩ = some (.int .i64 (R : Int)) ∧ u.cell? ⟨w.heap.size, 2, none⟩ = some (.int .i64 (L : Int)) ∧ u.cell? ⟨w.heap.size, 3, none⟩ = some (.slice a len cap))) (first | (with_reducible assumption) | (with_reducible exact HSA.out _ _ (by assumption)) | (with_reducible exact HS.out _ (below12 hge h3.1 _ _ _ _ _ _ _ _ _ _ _ _)) | (exact HD1.out _)) (first | (go_at_call 99; refine (HId.out _ (by assumption)).mono ?_; rintro x w1 ⟨rfl, hb1, h1⟩; (first | (have FZ := Lib.hid (by with_reducible exact fz_newd wr (Below.refl _ _) hb1)) | (have FZ := Lib.hid (by with_reducible exact fz_new wr (Below.refl _ _) hb1)) | skip)) | (go_at_call 100; refine (HAs.out _ (by assumption)).mono ?_; rintro x w2 ⟨rfl, hb2, h2⟩; (first | (have FZ := Lib.hid (fz_keep FZ.out hb2)) | (have FZ := Lib.hid (by with_reducible exact fz_new w1 h1.1 hb2)) | skip)) | (go_at_call 101; refine (HLo.out _ (by assumption)).mono ?_; rintro x w3 ⟨rfl, hb3, h3⟩; (first | (have FZ := Lib.hid (fz_keep FZ.out hb3)) | (have FZ := Lib.hid (by with_reducible exact fz_new w2 h2.1 hb3)) | skip); (first | (have FX := FZ.out; obtain ⟨z0, z1, z2, z3, z4, z5, z6, z7, z8, z9, z10, z11⟩ := (FX.2.at rfl).cells; obtain ⟨g0, g1, g2, g3, g4, g5, g6, g7, g8, g9, g10, g11⟩ := (FX.2.at rfl).frz; have hge := FX.1; clear FX) | skip)))
    all_goals (go_wp2_with fail; go_meet; first | exact ⟨_, rfl, hge, FZ.out.2.set12 rfl _ _ _ _ _ _ _ _ _ _ _ _, below12 hge h3.1 _ _ _ _ _ _ _ _ _ _ _ _⟩ | exact ⟨_, rfl, h3.1.size, Blk.new w3 27 (frameC e v r (m : Int) [0, 0, 0, 0, 0, 0, 0, 0]), h3.1.alloc h3.1.size _⟩)
  case rest =>
  obtain ⟨bb, rfl, hge, hblk, hbx⟩ := hcut
  obtain ⟨wx, hwx⟩ : ∃ wx, wx = wc := ⟨_, rfl⟩
  rw [← hwx] at hblk hbx ⊢
  clear hwx
  have HBX := Lib.hid hbx; have HBLK := Lib.hid hblk
  obtain rfl := HI.out.len
  have hcl := HI.out.lenCap
  obtain ⟨d, hd⟩ : ∃ d, d = L + 4 := ⟨_, rfl⟩
  obtain ⟨k, hk⟩ : ∃ k, k = (if bs[R]?.getD 0 ≠ 0 then 0 else min 8 (numP (bitsOf (subL bs L 4)))) := ⟨_, rfl⟩
  obtain ⟨s, hs⟩ : ∃ s, s = sumN bs R L := ⟨_, rfl⟩
  have hsd : s = d + 8 * k := by rw [hs, hd, hk]; rfl
  have hk8 : k ≤ 8 := by rw [hk]; split <;> omega
  have hs15 := HS2.out
  rw [← hs] at hs15
  obtain ⟨bk, off, rfl, hbk, _⟩ := HI.out.at (k := 0) (by omega)
  have hstr : ∀ u, Below wr.heap.size wr u → Str u.heap.size u (.slice (some ⟨bk, off, none⟩) bs.length cap) bs := fun u hu => by
    have h := HB0.out.trans (hu.mono HB0.out.size)
    exact (HI.out.below h).mono h.size
  have HT := Lib.hid (show ∀ u, Below wr.heap.size wr u → bb < u.heap.size → (Below wr.heap.size wr u ∧ bb < u.heap.size ∧ u.cell? ⟨w.heap.size, 0, none⟩ = some (.bool e) ∧ u.cell? ⟨w.heap.size, 1, none⟩ = some (.int .i64 (R : Int)) ∧ u.cell? ⟨w.heap.size, 2, none⟩ = some (.int .i64 (L : Int)) ∧ u.cell? ⟨w.heap.size, 3, none⟩ = some (.slice (some ⟨bk, off, none⟩) bs.length cap)) from fun u hu h => by obtain ⟨a1, a2, a3, a4, a5⟩ := HS.out u hu; exact ⟨a1, h, a2, a3, a4, a5⟩)
  have HPA := Lib.hid (show ∀ u, (Below wr.heap.size wr u ∧ bb < u.heap.size ∧ u.cell? ⟨w.heap.size, 0, none⟩ = some (.bool e) ∧ u.cell? ⟨w.heap.size, 1, none⟩ = some (.int .i64 (R : Int)) ∧ u.cell? ⟨w.heap.size, 2, none⟩ = some (.int .i64 (L : Int)) ∧ u.cell? ⟨w.heap.size, 3, none⟩ = some (.slice (some ⟨bk, off, none⟩) bs.length cap)) → Calls Tryd.prog 102 #[.slice (some ⟨bk, off + d, none⟩) (s - d) (cap - d)] u fun x w' => ∃ g, x = .returned (.slice (some ⟨g, 0, none⟩) k k) ∧ (∀ (j : Nat) (y : Value), ((packB (subL bs d (8 * k))).map (fun n : Nat => Value.int .u8 ((n : Nat) : Int)))[j]? = some y → w'.cell? (Addr.add ⟨g, 0, none⟩ j) = some y) ∧ w'.heap[bb]? = u.heap[bb]? ∧ (Below wr.heap.size wr w' ∧ bb < w'.heap.size ∧ w'.cell? ⟨w.heap.size, 0, none⟩ = some (.bool e) ∧ w'.cell? ⟨w.heap.size, 1, none⟩ = some (.int .i64 (R : Int)) ∧ w'.cell? ⟨w.heap.size, 2, none⟩ = some (.int .i64 (L : Int)) ∧ w'.cell? ⟨w.heap.size, 3, none⟩ = some (.slice (some ⟨bk, off, none⟩) bs.length cap)) from fun u hu => by
    have h1 : Str u.heap.size u (.slice (some ⟨bk, off, none⟩) (d + 8 * k) cap) (bs.take (d + 8 * k)) := (hstr u hu.1).take (by omega)
    have h2 := h1.drop
    rw [List.drop_take, show d + 8 * k - d = 8 * k by omega, Option.map_some, add_off] at h2
    rw [show s - d = 8 * k by omega]
    refine (pack_any _ _ _ _ (by have := subL_length bs d (8 * k) (by omega); unfold subL at this; rw [this]; omega) u h2).mono ?_
    rintro x w' ⟨v', rfl, hm', hb'⟩
    obtain ⟨g, rfl, hc'⟩ := made_cells hm'
    have hpl : (packB (subL bs d (8 * k))).length = k := by rw [packB_length, subL_length bs d (8 * k) (by omega)]; omega
    refine ⟨g, ?_, hc', hb'.block bb hu.2.1, HT.out _ (below_mid hu.1 hb' hu.1.size) (by have := hb'.size; have := hu.2.1; omega)⟩
    have e : (packB ((bs.drop d).take (8 * k))).length = k := hpl
    rw [e])
  have HDB := Lib.hid (show ∀ u, (Below wr.heap.size wr u ∧ bb < u.heap.size ∧ u.cell? ⟨w.heap.size, 0, none⟩ = some (.bool e) ∧ u.cell? ⟨w.heap.size, 1, none⟩ = some (.int .i64 (R : Int)) ∧ u.cell? ⟨w.heap.size, 2, none⟩ = some (.int .i64 (L : Int)) ∧ u.cell? ⟨w.heap.size, 3, none⟩ = some (.slice (some ⟨bk, off, none⟩) bs.length cap)) → Calls Tryd.prog 96 #[.agg #[.bool e, .int .i64 (R : Int), .int .i64 (L : Int)]] u fun x w' => x = .returned (.int .i64 (d : Int)) ∧ w'.heap[bb]? = u.heap[bb]? ∧ (Below wr.heap.size wr w' ∧ bb < w'.heap.size ∧ w'.cell? ⟨w.heap.size, 0, none⟩ = some (.bool e) ∧ w'.cell? ⟨w.heap.size, 1, none⟩ = some (.int .i64 (R : Int)) ∧ w'.cell? ⟨w.heap.size, 2, none⟩ = some (.int .i64 (L : Int)) ∧ w'.cell? ⟨w.heap.size, 3, none⟩ = some (.slice (some ⟨bk, off, none⟩) bs.length cap)) from fun u hu => by
    rw [hd]; exact (HDa.out u).mono fun _ _ h => ⟨h.1, h.2.block bb hu.2.1, HT.out _ (below_mid hu.1 h.2 hu.1.size) (by have := h.2.size; have := hu.2.1; omega)⟩)
  have HSB := Lib.hid (show ∀ u, (Below wr.heap.size wr u ∧ bb < u.heap.size ∧ u.cell? ⟨w.heap.size, 0, none⟩ = some (.bool e) ∧ u.cell? ⟨w.heap.size, 1, none⟩ = some (.int .i64 (R : Int)) ∧ u.cell? ⟨w.heap.size, 2, none⟩ = some (.int .i64 (L : Int)) ∧ u.cell? ⟨w.heap.size, 3, none⟩ = some (.slice (some ⟨bk, off, none⟩) bs.length cap)) → Calls Tryd.prog 97 #[.agg #[.bool e, .int .i64 (R : Int), .int .i64 (L : Int), .slice (some ⟨bk, off, none⟩) bs.length cap]] u fun x w' => x = .returned (.int .i64 (s : Int)) ∧ w'.heap[bb]? = u.heap[bb]? ∧ (Below wr.heap.size wr w' ∧ bb < w'.heap.size ∧ w'.cell? ⟨w.heap.size, 0, none⟩ = some (.bool e) ∧ w'.cell? ⟨w.heap.size, 1, none⟩ = some (.int .i64 (R : Int)) ∧ w'.cell? ⟨w.heap.size, 2, none⟩ = some (.int .i64 (L : Int)) ∧ w'.cell? ⟨w.heap.size, 3, none⟩ = some (.slice (some ⟨bk, off, none⟩) bs.length cap)) from fun u hu => by
    rw [hs]; exact (HSu.out u (below_mid HB0.out hu.1 HB0.out.size)).mono fun _ _ h => ⟨h.1, h.2.block bb hu.2.1, HT.out _ (below_mid hu.1 h.2 hu.1.size) (by have := h.2.size; have := hu.2.1; omega)⟩)
  have k1 := HT.out _ hbx.drew hblk.lt
  have hall := fun u => all8d bb u
  have i1 : (0 : Int) ≤ (d : Int) := by omega
  have i2 : (d : Int) ≤ (s : Int) := by omega
  have i3 : (s : Int) ≤ (cap : Int) := by omega
  have i4 : cap ≠ d := by omega
  have HSD := Lib.hid hsd; have HK := Lib.hid hk; have HD := Lib.hid hd; have HSS := Lib.hid hs; have H15 := Lib.hid hs15; have HK8 := Lib.hid hk8
  have HPL := Lib.hid (show (packB (subL bs d (8 * k))).length = k by rw [packB_length, subL_length bs d (8 * k) (by omega)]; omega)
  obtain ⟨P, hP⟩ : ∃ P, P = packB (subL bs d (8 * k)) := ⟨_, rfl⟩
  rw [← hP] at HPA HPL
  have HP := Lib.hid hP
  clear hP hbx hblk hstr hsd hk hd hs hs15 hk8 hcl k0
  go_wp2_with fail
  go_region_held3 (fun u => (Below wr.heap.size wr u ∧ bb < u.heap.size ∧ u.cell? ⟨w.heap.size, 0, none⟩ = some (.bool e) ∧ u.cell? ⟨w.heap.size, 1, none⟩ = some (.int .i64 (R : Int)) ∧ u.cell? ⟨w.heap.size, 2, none⟩ = some (.int .i64 (L : Int)) ∧ u.cell? ⟨w.heap.size, 3, none⟩ = some (.slice (some ⟨bk, off, none⟩) bs.length cap))) (first | (with_reducible assumption)) (first | (go_at_call 96; refine (HDB.out _ (by assumption)).mono ?_; rintro x w1 ⟨rfl, r1, h1⟩; have B1 := Lib.hid (show Blk w1 bb 27 (frameC e v r (m : Int) [0, 0, 0, 0, 0, 0, 0, 0]) from r1.trans HBLK.out); clear r1) | (go_at_call 97; refine (HSB.out _ (by assumption)).mono ?_; rintro x w2 ⟨rfl, r2, h2⟩; have B2 := Lib.hid (show Blk w2 bb 27 (frameC e v r (m : Int) [0, 0, 0, 0, 0, 0, 0, 0]) from r2.trans B1.out); clear r2) | (go_at_call 102; refine (HPA.out _ (by assumption)).mono ?_; rintro x w3 ⟨g3, rfl, hc3, r3, h3⟩; have B3 := Lib.hid (show Blk w3 bb 27 (frameC e v r (m : Int) [0, 0, 0, 0, 0, 0, 0, 0]) from r3.trans B2.out); clear r3) | (refine step_copy_splice rfl (.tmp 12) (.tmp 21) 34 34 rfl 5 Tryd.underlying34 (by kernel_rfl) _ _ _ _ _ _ rfl rfl bb 4 (frameC e v r (m : Int) [0, 0, 0, 0, 0, 0, 0, 0]) 27 B3.out (P.map (fun n : Nat => Value.int .u8 ((n : Nat) : Int))) (by rw [List.length_map, HPL.out]; exact (Nat.min_eq_left HK8.out).symm) (fun _ => ⟨rfl, _, rfl, hc3⟩) (by rw [List.length_map, HPL.out]; show 4 + k ≤ 12; have := HK8.out; omega) (flat_bytes _) wr.heap.size wr h3.1 hge ?_; intro w4 hg4 hb4; have hz4 : bb < w4.heap.size := (show Blk w4 bb _ _ from hg4.out).lt; have h4 := HT.out _ hb4 hz4))
  have HB4 := Lib.hid (below_mid HB0.out hb4 HB0.out.size)
  have hd8 : (P ++ List.replicate (8 - P.length) 0).length = 8 := by have := HPL.out; have := HK8.out; simp; omega
  have HF4 := Lib.hid (show Blk w4 bb 27 (frameC e v r (m : Int) (P ++ List.replicate (8 - P.length) 0)) by
    rw [← splice_frame e v r (m : Int) P]
    exact hg4.out)
  have HDD := Lib.hid (show P ++ List.replicate (8 - P.length) 0 = dataOf (bitsOf bs) d k by
    rw [HPL.out, HP.out]
    exact pack_data bs d k HK8.out (by have := HSD.out; have := H15.out; omega))
  obtain ⟨x0, x1, x2, x3, x4, x5, x6, x7, hx⟩ := eight hd8
  have HF5 := Lib.hid (show Blk w4 bb 27 (frameC e v r (m : Int) [x0, x1, x2, x3, x4, x5, x6, x7]) by rw [← hx]; exact HF4.out)
  have HX := Lib.hid hx
  obtain ⟨c0, c1, c2, c3, c4, c5, c6, c7, c8, c9, c10, c11⟩ := (HF5.out.at rfl).cells
  obtain ⟨z0, z1, z2, z3, z4, z5, z6, z7, z8, z9, z10, z11⟩ := ((HQ0.out.keep hb4 (by omega)).at rfl).cells
  obtain ⟨f0, f1, f2, f3, f4, f5, f6, f7, f8, f9, f10, f11⟩ := ((HQ0.out.keep hb4 (by omega)).at rfl).frz
  clear hx hd8 hb4 hg4 h4 h3 h2 h1 hc3 k1
  go_wp2_with fail
  refine bodyPost_ret (v := .agg #[.bool e, .int .u32 (v : Int), .bool r, .int .i64 (m : Int), .int .u8 (x0 : Int), .int .u8 (x1 : Int), .int .u8 (x2 : Int), .int .u8 (x3 : Int), .int .u8 (x4 : Int), .int .u8 (x5 : Int), .int .u8 (x6 : Int), .int .u8 (x7 : Int)]) (by simp [results, Tryd.results65, go_sem, World.cell?_setCell_same', z0, z1, z2, z3, z4, z5, z6, z7, z8, z9, z10, z11]) rfl ⟨?_, below12 (by omega) HB4.out _ _ _ _ _ _ _ _ _ _ _ _⟩
  rw [HVV.out, ← HV.out, ← HRR.out, ← HM.out, ← HD.out]
  have hk' := HK.out
  rw [← HM.out] at hk'
  rw [← hk', ← HDD.out, HX.out]
  rfl
end Go.Proofs.YtmfnkfiocnngeaaDoor
