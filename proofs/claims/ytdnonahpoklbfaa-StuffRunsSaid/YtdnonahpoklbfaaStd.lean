/- What And of package strand returns: as long as the shortest one, 1 where all are 1. Conditions: none but that the strings are strings. -/
import Derived.Test.YtdnonahpoklbfaaSth
namespace Go.Proofs.Ytdnonahpoklbfaa
open Go.RowKit Go.Shelf
attribute [local go_sem] Oper.semAt_some
def markOf (D : Nat) : Deferred := { target := .collected D, args := #[] }
/-- The blocks for the rounds' deferred calls, each empty. -/
def Marks (B : Nat) (W : World) (Ds : List Nat) : Prop := Ds.Nodup ∧ ∀ D ∈ Ds, B ≤ D ∧ W.heap[D]? = some (.deferred (some []))
/-- 1, where all are 1. -/
def andAt (L : List (List Nat)) (j : Nat) : Nat := if L.all (fun b => bitAt b j == 1) then 1 else 0
theorem andAt_le (L : List (List Nat)) (j : Nat) : andAt L j ≤ 1 := by unfold andAt; split <;> omega
theorem andAt_succ {L : List (List Nat)} {j : Nat} {b : List Nat} (h : L[j]? = some b) (i : Nat) : andAt (L.take (j + 1)) i = if andAt (L.take j) i = 1 ∧ bitAt b i = 1 then 1 else 0 := by
  unfold andAt
  rw [List.take_add_one, h]
  simp only [Option.toList_some, List.all_append, List.all_cons, List.all_nil, Bool.and_true, Bool.and_eq_true, beq_iff_eq]
  by_cases c : ((L.take j).all fun b => bitAt b i == 1) = true <;> by_cases d : bitAt b i = 1 <;> simp [c, d]
theorem and_u8 (c v : Nat) (hc : c ≤ 1) (hv : v ≤ 1) : bits .and .u8 (c : Int) (v : Int) = ((if c = 1 ∧ v = 1 then 1 else 0 : Nat) : Int) := by
  obtain rfl | rfl : c = 0 ∨ c = 1 := by omega
  · obtain rfl | rfl : v = 0 ∨ v = 1 := by omega
    · decide
    · decide
  · obtain rfl | rfl : v = 0 ∨ v = 1 := by omega
    · decide
    · decide
theorem bitAt_take (bs : List Nat) (m i : Nat) (h : i < m) : bitAt (bs.take m) i = bitAt bs i := by unfold bitAt; rw [List.getElem?_take_of_lt h]
def andTo (L : List (Value × List Nat)) (j : Nat) : Nat → Nat := andAt ((L.map (·.2)).take j)
theorem Strs.len {n₀ len cap : Nat} {a : Option Addr} {W : World} {L : List (Value × List Nat)} (h : Strs n₀ W (.slice a len cap) L) : len = L.length := by
  rcases h with ⟨a', cap', e, _, rfl⟩ | ⟨b, off, cap', e, _⟩
  · injection e with _ e2 _
  · injection e with _ e2 _
theorem leaves_marks {F : Fence} {n : Nat} {P : Program} {fn : Func} {tmps : Array Value} {R : Ending → World → Prop} (B : Nat) (Q : World → Prop)
    (hQ : ∀ W D, Q W → B ≤ D → W.heap[D]? = some (.deferred (some [])) → Q (W.putObj D (.deferred none))) (hend : ∀ W, Q W → LeavesIn F n P fn tmps R [] .returning W) :
    ∀ (Ds : List Nat) (W : World), Q W → Marks B W Ds → LeavesInM F n P fn tmps R (Ds.map markOf) .returning W
  | [], W, hq, _ => hend W hq
  | D :: Ds, W, hq, ⟨hn, hm⟩ => by
    obtain ⟨hD, hK⟩ := hm D (List.mem_cons_self ..)
    refine ⟨by simp, .inl ⟨D, W.putObj D (.deferred none), rfl, run_takeDeferred hK, leaves_marks B Q hQ hend Ds _ (hQ W D hq hD hK) ⟨(List.nodup_cons.1 hn).2, fun D' hD' => ?_⟩⟩⟩
    obtain ⟨h1, h2⟩ := hm D' (List.mem_cons_of_mem _ hD')
    have hne : D' ≠ D := fun e => (List.nodup_cons.1 hn).1 (e ▸ hD')
    exact ⟨h1, ((grownBy_putObj' W D (.deferred none)).block D' (Array.getElem?_eq_some_iff.1 h2).1 (fun e => hne (by simpa using e))).trans h2⟩
def andB (L : List (List Nat)) : List Nat := (List.range (leastN L)).map (andAt L)
theorem andB_length (L : List (List Nat)) : (andB L).length = leastN L := by simp [andB]
theorem andB_get (L : List (List Nat)) (j : Nat) (h : j < leastN L) : (andB L)[j]?.getD 0 = andAt L j := by simp [andB, h]
theorem box_lt {W : World} {b : Nat} {v : Value} (h : W.cell? ⟨b, 0, none⟩ = some v) : b + 1 ≤ W.heap.size := by
  by_cases c : b < W.heap.size
  · exact c
  · exfalso
    have e : W.heap[b]? = none := Array.getElem?_eq_none (by omega)
    simp [World.cell?, e] at h
set_option maxRecDepth 100000 in
set_option maxHeartbeats 2000000 in
theorem and_in (n : Nat) (hn : 3 ≤ n) (a : Option Addr) (len cap : Nat) (L : List (Value × List Nat)) (hsm : ∀ p ∈ L, p.2.length ≤ 281474976710656) (w : World) (hI : Strs w.heap.size w (.slice a len cap) L) :
    CallsIn Fence.wide n Try.prog 41 #[.slice a len cap] w fun e W' => ∃ v, e = .returned v ∧ Made w.heap.size W' v (andB (L.map (·.2))) ∧ Below w.heap.size w W' := by
  have h1 : 1 ≤ n := by omega
  have csh := shortest_any a len cap L w hI hsm
  obtain ⟨m, hm⟩ : ∃ m, m = leastN (L.map (·.2)) := ⟨_, rfl⟩
  have hmb : m ≤ 281474976710656 := by
    rw [hm]
    cases L with
    | nil => exact Nat.zero_le _
    | cons x r => exact Nat.le_trans (leastN_le (List.mem_cons_self ..)) (hsm x (List.mem_cons_self ..))
  rw [← hm] at csh
  have CSH := Lib.hid csh; have HM := Lib.hid hm; have HI := Lib.hid hI; have HSM := Lib.hid hsm
  clear csh hm hI hsm
  have hmk := make_bytes m hmb
  refine callsIn_of_wp_marks Try.func41 rfl trivial ?_ rfl
  simp only [Try.ntmps41, List.size_toArray, List.length_cons, List.length_nil, Nat.reduceAdd, Nat.reduceSub, Array.replicate_succ, Array.replicate_zero, List.push_toArray, List.append_toArray, List.nil_append, List.cons_append]
  gi_wp2_with (refine ⟨trivial, ?_⟩; gi_at_call 49; refine (callsIn_wide.2 CSH.out).mono ?_; rintro e w' ⟨rfl, rfl⟩)
  clear hmk
  have hr1 := World.rowIs_made w (.int .u8 0) m 5
  have hb1 : Below w.heap.size w (w.alloc (.cells (madeCells #[.int .u8 0] m) 5)) := (Below.refl _ w).alloc (Nat.le_refl _) _
  have bS := Boxed.new (w.alloc (.cells (madeCells #[.int .u8 0] m) 5)) 36 (.slice (some ⟨w.heap.size, 0, none⟩) m m)
  rw [World.size_alloc] at bS
  gi_loopw [14] (fun i wr => ∃ k : Nat, k ≤ m ∧ i = .int .i64 k ∧ wr.rowIs w.heap.size 5 m (fun j => .int .u8 ((if j < k then 1 else 0 : Nat) : Int)) ∧ wr.cell? ⟨w.heap.size + 1, 0, none⟩ = some (.slice (some ⟨w.heap.size, 0, none⟩) m m) ∧ Below w.heap.size w wr) (fun i _ => m - (intOf i).toNat)
  case atStart => exact ⟨0, Nat.zero_le _, rfl, (hr1.alloc _).congr (fun i hi => by simp), bS.cell, hb1.alloc (by simp) _⟩
  case round =>
    obtain ⟨k, hk, rfl, hrow, hbox, hbel⟩ := hrel
    have HROW := Lib.hid hrow
    have HB := Lib.hid hbel; clear hbel bS hr1 hb1
    by_cases hlt : k < m
    · have hc := hrow.cell hlt
      rw [if_neg (Nat.lt_irrefl k)] at hc
      have hf := hrow.frozen k
      clear hrow
      gi_wp2
      go_roundw
      case rel => exact ⟨k + 1, by omega, by simp, fill_step (f := fun _ => 1) HROW.out rfl, (World.cell?_setCell_other _ _ _ _ (by simp)).trans hbox, HB.out.setCell (p := ⟨w.heap.size, k, none⟩) (Nat.le_refl _) _⟩
      case measure => simp [intOf]; omega
    · obtain rfl : m = k := by omega
      clear hlt hk
      have hrow0 : wr.rowIs w.heap.size 5 m (fun i => .int .u8 ((andTo L 0 i : Nat) : Int)) := hrow.congr (fun i hi => by rw [if_pos hi]; rfl)
      have HROW0 := Lib.hid hrow0
      clear hrow hrow0 HROW
      gi_wp2
      refine wpIn_loop (fun a' wr => ∃ (j : Nat) (Ds : List Nat) (u6 u7 u8 u24 u25 u26 u27 u28 u29 u30 u31 u32 u33 u34 u35 u36 u37 u38 u39 u40 u41 : Value), a' = { tmps := (.slice a len cap :: undef :: .slice none 0 0 :: .pointer (some ⟨w.heap.size + 1, 0, none⟩) :: u4 :: undef :: u6 :: u7 :: u8 :: .slice a len cap :: .int .i64 (m : Nat) :: .slice (some ⟨w.heap.size, 0, none⟩) m m :: .slice (some ⟨w.heap.size, 0, none⟩) m m :: .int .i64 (m : Nat) :: .int .i64 (m : Nat) :: .bool false :: u16 :: u17 :: u18 :: u19 :: u20 :: .slice a len cap :: .int .i64 (len : Nat) :: .int .i64 (j : Nat) :: u24 :: u25 :: u26 :: u27 :: u28 :: u29 :: u30 :: u31 :: u32 :: u33 :: u34 :: u35 :: u36 :: u37 :: u38 :: u39 :: u40 :: u41 :: undef :: []).toArray, defers := Ds.map markOf } ∧ j ≤ len ∧ wr.rowIs w.heap.size 5 m (fun i => .int .u8 ((andTo L j i : Nat) : Int)) ∧ wr.cell? ⟨w.heap.size + 1, 0, none⟩ = some (.slice (some ⟨w.heap.size, 0, none⟩) m m) ∧ Marks w.heap.size wr Ds ∧ Below w.heap.size w wr) (fun a' _ => len - (intOf (a'.tmps.getD 23 undef)).toNat) ?start ?round
      case start => exact ⟨0, [], _, _, _, _, _, _, _, _, _, _, _, _, _, _, _, _, _, _, _, _, _, rfl, Nat.zero_le _, HROW0.out, hbox, ⟨List.nodup_nil, fun D hD => by cases hD⟩, HB.out⟩
      case round =>
        clear hbox HB HROW0
        rintro a' wr2 ⟨j, Ds, u6, u7, u8, u24, u25, u26, u27, u28, u29, u30, u31, u32, u33, u34, u35, u36, u37, u38, u39, u40, u41, rfl, hj, hrow, hbox, hmks, hbel⟩
        have HROW := Lib.hid hrow; have HMK := Lib.hid hmks; have HB := Lib.hid hbel
        clear hrow hmks hbel
        by_cases hlt : j < len
        · rcases HI.out.below HB.out with ⟨_, _, e, _, _⟩ | ⟨b, off, cap', e, hlc, hcap, hb, hc, hs⟩
          · injection e with _ e2 _; omega
          · injection e with e1 e2 e3
            subst e1 e3
            have HLEN := Lib.hid e2; clear e2
            obtain ⟨p, hp⟩ : ∃ p, L[j]? = some p := ⟨_, List.getElem?_eq_getElem (by rw [← HLEN.out]; exact hlt)⟩
            have hck := hc j p hp
            have hmem : p ∈ L := List.mem_of_getElem? hp
            obtain ⟨hps, pa, pc, hpv⟩ := hs p hmem
            rw [hpv] at hck hps
            have hml : m ≤ p.2.length := by rw [HM.out]; exact leastN_le (List.mem_map_of_mem hmem)
            have hpc := hps.lenCap
            have hpc2 := hps.capLe
            have HP := Lib.hid hp; have HPS := Lib.hid hps; have HSM2 := Lib.hid (HSM.out p hmem)
            clear hp hps hpv hc hs hmem
            obtain ⟨pl, hpl⟩ : ∃ pl, pl = p.2.length := ⟨_, rfl⟩
            rw [← hpl] at hck hml hpc
            have HPL := Lib.hid hpl; clear hpl
            have HPL2 := Lib.hid hpc2; clear hpc2
            obtain ⟨bs, hbs⟩ : ∃ bs, bs = p.2.take m := ⟨_, rfl⟩
            have hbl : bs.length = m := by rw [hbs, List.length_take, Nat.min_eq_left (by rw [← HPL.out]; exact hml)]
            have HSTR := Lib.hid (show Str w.heap.size wr2 (.slice pa m pc) bs by rw [hbs]; exact HPS.out.take (by rw [← HPL.out]; exact hml))
            have hlenb : len ≤ 9223372036854775807 := by rw [HLEN.out]; omega
            have hpc3 : pc ≤ 9223372036854775807 := HPL2.out
            have hand : ∀ i, i < m → andTo L (j + 1) i = if andTo L j i = 1 ∧ bitAt bs i = 1 then 1 else 0 := fun i hi => by
              rw [hbs, bitAt_take _ _ _ hi]
              exact andAt_succ (by rw [List.getElem?_map, HP.out]; rfl) i
            have HAND := Lib.hid hand
            have HBL := Lib.hid hbl
            clear hbs hand
            gi_wp2_with (fail)
            refine ⟨trivial, ?_⟩
            refine (places_in (n - 1) _ _ _ _).mono ?_
            rintro e w' ⟨rfl, rfl⟩
            gi_wp2_with (fail)
            have hz : w.heap.size ≤ wr2.heap.size := HB.out.size
            have bN := Boxed.new wr2 36 (.slice pa m pc)
            have hB0 : Below w.heap.size w (wr2.alloc (.cells #[.slice pa m pc] 36)) := HB.out.alloc hz _
            have hDl : ∀ D ∈ Ds, D < wr2.heap.size := fun D hD => (Array.getElem?_eq_some_iff.1 (HMK.out.2 D hD).2).1
            refine wpIn_rangeFunc_ownG rfl h1 (gf := 50) (lb := #[.pointer (some ⟨wr2.heap.size, 0, none⟩)]) rfl trivial (enters_of Try.func50 (by kernel_rfl) rfl)
              (places_stops (n - 1) (by omega) (wr2.heap.size) w.heap.size _ bs (by omega) _ (by simp) (by simp; omega) bN.cell (HSTR.out.below (n₀ := w.heap.size) ((Below.refl _ wr2).alloc hz _))) belowK_t (belowK_b (by simp; omega)) (Below.refl _ _) (fun _ => rfl)
              (fun pre W => (W.cell? ⟨w.heap.size + 1, 0, none⟩ = some (.slice (some ⟨w.heap.size, 0, none⟩) m m) ∧ RowOn W w.heap.size m (pre.map Fin.val) (andTo L (j + 1)) (andTo L j) ∧ ∀ D ∈ Ds, W.heap[D]? = some (.deferred (some []))) ∧ Below w.heap.size w W)
              (fun _ _ _ => False)
              (OwnFrom.and (fun s A B row hs hg hr => ⟨cell_kept hs.1 hg (fun r e => (hr r e).2), hs.2.1.kept hg (fun r e => (hr r e).2), fun D hD => (hg.block D (Array.getElem?_eq_some_iff.1 (hs.2.2 D hD)).1 (fun e => by have h1 := (hr D e.symm).1; have h2 := hDl D hD; simp at h1; omega)).trans (hs.2.2 D hD)⟩) (ownFrom_below (Nat.le_refl _) (by simp; omega)))
              (fun _ _ _ _ _ hs _ _ => hs)
              ⟨⟨(Below.cell ((Below.refl (w.heap.size + 2) wr2).alloc (by have := World.rowIs.lt HROW.out; exact box_lt hbox) _) (p := ⟨w.heap.size + 1, 0, none⟩) (by show w.heap.size + 1 < w.heap.size + 2; omega)).trans hbox, RowOn.nil (HROW.out.alloc _), fun D hD => (Below.heap_alloc _ _ _ (hDl D hD)).trans (HMK.out.2 D hD).2⟩, hB0⟩
              (fun x => { tmps := (.slice (some ⟨b, off, none⟩) len cap :: undef :: .slice none 0 0 :: .pointer (some ⟨w.heap.size + 1, 0, none⟩) :: u4 :: undef :: .slice pa pl pc :: .int .i64 (x.1 : Nat) :: .int .u8 (bitAt bs x.1 : Nat) :: .slice (some ⟨b, off, none⟩) len cap :: .int .i64 (m : Nat) :: .slice (some ⟨w.heap.size, 0, none⟩) m m :: .slice (some ⟨w.heap.size, 0, none⟩) m m :: .int .i64 (m : Nat) :: .int .i64 (m : Nat) :: .bool false :: u16 :: u17 :: u18 :: u19 :: u20 :: .slice (some ⟨b, off, none⟩) len cap :: .int .i64 (len : Nat) :: .int .i64 (j : Nat) :: .bool true :: .pointer (some ⟨b, off + j, none⟩) :: .slice pa pl pc :: .slice pa pl pc :: .slice (some ⟨w.heap.size, 0, none⟩) m m :: .int .i64 (m : Nat) :: .slice pa m pc :: .func (.func 50) #[] #[.pointer (some ⟨wr2.heap.size, 0, none⟩)] :: .int .i64 (x.1 : Nat) :: .int .u8 (bitAt bs x.1 : Nat) :: u34 :: u35 :: u36 :: u37 :: u38 :: u39 :: u40 :: u41 :: undef :: []).toArray, defers := [] }) ?assign ?body ?done ?stop
            case assign =>
              intro l x W K hK
              gi_wp2
              exact hK
            case body =>
              rintro l pre ⟨i, hi⟩ W ⟨⟨hc, hrow, hD⟩, hBB⟩ _
              dsimp only
              have him : i < m := by omega
              obtain ⟨v, hv⟩ : ∃ v, v = bitAt bs i := ⟨_, rfl⟩
              have hle : v ≤ 1 := by rw [hv]; exact bitAt_le _ _
              rw [← hv]
              have hcell := World.rowIs.cell hrow him
              have hfree := World.rowIs.frozen hrow i
              obtain ⟨c, hcv⟩ : ∃ c, c = (if i ∈ pre.map Fin.val then andTo L (j + 1) i else andTo L j i) := ⟨_, rfl⟩
              rw [← hcv] at hcell
              have hcl : c ≤ 1 := by rw [hcv]; split <;> exact andAt_le _ _
              obtain ⟨r, hr⟩ : ∃ r, r = andTo L (j + 1) i := ⟨_, rfl⟩
              have ee : bits .and .u8 (c : Int) (v : Int) = (r : Int) := by
                rw [and_u8 c v hcl hle, hr, HAND.out i him, hcv, hv]
                split <;> (try rw [HAND.out i him]) <;> congr 1 <;> split <;> simp_all
              have HR := Lib.hid hr; have HROW3 := Lib.hid hrow; have HB3 := Lib.hid hBB; have HD3 := Lib.hid hD
              clear hv hcv hr hrow hBB hD
              gi_wp2
              exact ⟨(KeepsOthers.setCell _ _ _).from _, (Below.refl w.heap.size W).setCell (p := ⟨w.heap.size, i, none⟩) (Nat.le_refl _) _, ⟨(World.cell?_setCell_other _ _ _ _ (by simp)).trans hc, by rw [List.map_append]; exact HROW3.out.snoc HR.out, fun D hD => (KeepsOthers.setCell W _ _).same D _ (HD3.out D hD) rfl⟩, HB3.out.setCell (p := ⟨w.heap.size, i, none⟩) (Nat.le_refl _) _⟩
            case done =>
              rintro D ys W hDz hys ⟨⟨hc, hrow, hDD⟩, hBB⟩ hK
              have hrow2 : W.rowIs w.heap.size 5 m (fun i => .int .u8 ((andTo L (j + 1) i : Nat) : Int)) := World.rowIs.congr hrow (fun i hi => by rw [if_pos ((mem_came hys i).2 (by rw [HBL.out]; exact hi))])
              have HROW4 := Lib.hid hrow2; have HD4 := Lib.hid hDD; have HB4 := Lib.hid hBB; have HK := Lib.hid hK; have HDZ := Lib.hid hDz
              clear hrow hrow2 hDD hBB hK hDz hys
              gi_wp2
              refine ⟨⟨j + 1, D :: Ds, _, _, _, _, _, _, _, _, _, _, _, _, _, _, _, _, _, _, _, _, _, rfl, by omega, HROW4.out, hc, ⟨List.nodup_cons.2 ⟨fun hm => by have h1 := hDl D hm; have h2 := HDZ.out; simp at h2; omega, HMK.out.1⟩, fun D' hD' => ?_⟩, HB4.out⟩, ?_⟩
              · rcases List.mem_cons.1 hD' with rfl | hD'
                · exact ⟨by have h2 := HDZ.out; simp at h2; omega, HK.out⟩
                · exact ⟨(HMK.out.2 D' hD').1, HD4.out D' hD'⟩
              · simp [intOf]; omega
            case stop =>
              rintro D c pre W _ _ h _
              exact h.elim
        · obtain rfl : len = j := by omega
          clear hlt hj
          gi_wp2
          refine leaves_marks w.heap.size (fun W => W.rowIs w.heap.size 5 m (fun i => .int .u8 ((andTo L len i : Nat) : Int)) ∧ Below w.heap.size w W) (fun W D hq hD hK => ⟨rowIs_kept hq.1 (grownBy_putObj' _ D (.deferred none)) (fun r e => by cases e; exact ⟨_, hK, rfl⟩), hq.2.trans (belowK_b (w := w) (Nat.le_refl _) W D _ _ hD hK rfl rfl)⟩) (fun W hq => ?_) Ds wr2 ⟨HROW.out, HB.out⟩ HMK.out
          have hlen : len = L.length := HI.out.len
          refine ⟨_, results_tmp rfl _ _ _, _, rfl, ⟨w.heap.size, ?_, Nat.le_refl _, ?_, ?_⟩, hq.2⟩
          · rw [andB_length, ← HM.out]; rfl
          · rw [andB_length, ← HM.out]; exact hmb
          · rw [andB_length, ← HM.out]
            exact hq.1.congr (fun i hi => by rw [andB_get _ _ (by rw [← HM.out]; exact hi)]; unfold andTo; rw [List.take_of_length_le (by simp [hlen])])
theorem and_any (a : Option Addr) (len cap : Nat) (L : List (Value × List Nat)) (hsm : ∀ p ∈ L, p.2.length ≤ 281474976710656) (w : World) (hI : Strs w.heap.size w (.slice a len cap) L) :
    Calls Try.prog 41 #[.slice a len cap] w fun e W' => ∃ v, e = .returned v ∧ Made w.heap.size W' v (andB (L.map (·.2))) ∧ Below w.heap.size w W' :=
  callsIn_wide.1 (and_in 3 (by omega) a len cap L hsm w hI)
end Go.Proofs.Ytdnonahpoklbfaa
