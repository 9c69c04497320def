/- What Pack of package strand returns: eight bits in each byte. Conditions: as for places. -/
import Derived.Test.YtdnonahpoklbfaaStc
import Derived.Test.YtdnonahpoklbfaaRnd
import Derived.StillTactics
import Derived.Laws.BitsAllLaws
namespace Go.Proofs.Ytdnonahpoklbfaa
open Go.RowKit Go.Shelf
attribute [local go_sem] Oper.semAt_some
/-- A byte, of the bits that came. -/
def packOn (bs : List Nat) (pre : List Nat) (j : Nat) : Nat := pre.foldl (fun c i => if i / 8 = j then c ||| (bitAt bs i * 2 ^ (7 - i % 8)) else c) 0
theorem packOn_snoc (bs pre : List Nat) (i j : Nat) : packOn bs (pre ++ [i]) j = if i / 8 = j then packOn bs pre j ||| (bitAt bs i * 2 ^ (7 - i % 8)) else packOn bs pre j := by
  unfold packOn
  rw [List.foldl_append]; rfl
theorem packOn_lt (bs pre : List Nat) (j : Nat) : packOn bs pre j < 256 := by
  unfold packOn
  have key : ∀ (l : List Nat) (c : Nat), c < 256 → l.foldl (fun c i => if i / 8 = j then c ||| (bitAt bs i * 2 ^ (7 - i % 8)) else c) c < 256 := by
    intro l
    induction l with
    | nil => intro c hc; exact hc
    | cons i l ih =>
      intro c hc
      simp only [List.foldl_cons]
      apply ih
      split
      · have h2 : 2 ^ (7 - i % 8) ≤ 2 ^ 7 := Nat.pow_le_pow_right (by omega) (by omega)
        have h3 : bitAt bs i * 2 ^ (7 - i % 8) ≤ 1 * 2 ^ 7 := Nat.mul_le_mul (bitAt_le _ _) h2
        exact Nat.or_lt_two_pow (n := 8) hc (by omega)
      · exact hc
  exact key pre 0 (by omega)
def packB (bs : List Nat) : List Nat := (List.range ((bs.length + 7) / 8)).map (packOn bs (List.range bs.length))
theorem packB_length (bs : List Nat) : (packB bs).length = (bs.length + 7) / 8 := by simp [packB]
theorem packB_get (bs : List Nat) (j : Nat) (h : j < (bs.length + 7) / 8) : (packB bs)[j]?.getD 0 = packOn bs (List.range bs.length) j := by simp [packB, h]
set_option maxRecDepth 100000 in
set_option maxHeartbeats 2000000 in
theorem pack_in (n : Nat) (hn : 3 ≤ n) (a : Option Addr) (len cap : Nat) (bs : List Nat) (hreach : bs.length ≤ 281474976710656) (w : World) (hI : Str w.heap.size w (.slice a len cap) bs) :
    CallsIn Fence.wide n Try.prog 37 #[.slice a len cap] w fun e W' => ∃ v, e = .returned v ∧ Made w.heap.size W' v (packB bs) ∧ Below w.heap.size w W' := by
  have h1 : 1 ≤ n := by omega
  obtain rfl := hI.len
  obtain ⟨m, hm⟩ : ∃ m, m = (bs.length + 7) / 8 := ⟨_, rfl⟩
  have em : ((bs.length : Int) + 7) / 8 = (m : Int) := by omega
  have hmk := make_bytes m (by omega)
  have HI := Lib.hid hI; have HM := Lib.hid hm; clear hI hm
  refine callsIn_of_wp_marks Try.func37 rfl trivial ?_ rfl
  simp only [Try.ntmps37, List.size_toArray, List.length_cons, List.length_nil, Nat.reduceAdd, Nat.reduceSub, Array.replicate_succ, Array.replicate_zero, List.push_toArray, List.append_toArray, List.nil_append, List.cons_append]
  gi_wp2_with (refine ⟨trivial, ?_⟩; gi_at_call 47; refine (places_in (n - 1) _ _ _ _).mono ?_; rintro e w' ⟨rfl, rfl⟩)
  clear hmk
  obtain ⟨W1, hW1⟩ : ∃ W1, w.alloc (.cells (madeCells #[.int .u8 0] m) 5) = W1 := ⟨_, rfl⟩
  have hz1 : W1.heap.size = w.heap.size + 1 := by rw [← hW1]; simp
  have hr1 : W1.rowIs w.heap.size 5 m (fun _ => .int .u8 ((0 : Nat) : Int)) := by rw [← hW1]; exact World.rowIs_made _ _ _ _
  have hb1 : Below w.heap.size w W1 := by rw [← hW1]; exact (Below.refl _ w).alloc (Nat.le_refl _) _
  rw [hW1]
  have bS := Boxed.new W1 36 (.slice (some ⟨w.heap.size, 0, none⟩) m m)
  have bN := Boxed.new (W1.alloc (.cells #[(.slice (some ⟨w.heap.size, 0, none⟩) m m)] 36)) 36 (.slice a bs.length cap)
  rw [World.size_alloc] at bN
  rw [hz1] at bS bN
  have hB0 : Below w.heap.size w ((W1.alloc (.cells #[(.slice (some ⟨w.heap.size, 0, none⟩) m m)] 36)).alloc (.cells #[.slice a bs.length cap] 36)) := (hb1.alloc (by omega) _).alloc (by simp; omega) _
  refine wpIn_rangeFunc_ownG rfl h1 (gf := 50) (lb := #[.pointer (some ⟨w.heap.size + 1 + 1, 0, none⟩)]) rfl trivial (enters_of Try.func50 (by kernel_rfl) rfl)
    (places_stops (n - 1) (by omega) (w.heap.size + 1 + 1) w.heap.size _ bs (by omega) _ (by simp; omega) (by simp; omega) bN.cell (HI.out.below hB0)) belowK_t (belowK_b (by simp; omega)) (Below.refl _ _) (fun _ => rfl)
    (fun pre W => (W.cell? ⟨w.heap.size + 1, 0, none⟩ = some (.slice (some ⟨w.heap.size, 0, none⟩) m m) ∧ W.rowIs w.heap.size 5 m (fun j => .int .u8 ((packOn bs (pre.map Fin.val) j : Nat) : Int))) ∧ Below w.heap.size w W)
    (fun _ _ _ => False)
    (OwnFrom.and (Own.from (fun s A B row hs hg hr => ⟨cell_kept hs.1 hg hr, rowIs_kept hs.2 hg hr⟩) _) (ownFrom_below (Nat.le_refl _) (by simp; omega)))
    (fun _ _ _ _ _ hs _ _ => hs)
    ⟨⟨(bS.alloc _).cell, (hr1.alloc _).alloc _⟩, hB0⟩
    (fun x => { tmps := #[.slice a bs.length cap, undef, .slice none 0 0, .pointer (some ⟨w.heap.size + 1, 0, none⟩), .int .i64 (x.1 : Nat), .int .u8 (bitAt bs x.1 : Nat), .slice a bs.length cap, .int .i64 (bs.length : Nat), .int .i64 ((bs.length : Nat) + 7), .int .i64 (m : Nat), .slice (some ⟨w.heap.size, 0, none⟩) m m, .slice a bs.length cap, .func (.func 50) #[] #[.pointer (some ⟨w.heap.size + 1 + 1, 0, none⟩)], .int .i64 (x.1 : Nat), .int .u8 (bitAt bs x.1 : Nat), undef, undef, undef, undef, undef, undef, undef, undef, undef, undef, undef, undef, undef], defers := [] }) ?assign ?body ?done ?stop
  case assign =>
    intro l x W K hK
    gi_wp2
    exact hK
  case body =>
    rintro l pre ⟨k, hk⟩ W ⟨⟨hc, hrow⟩, hB⟩ _
    dsimp only
    obtain ⟨v, hv⟩ : ∃ v, v = bitAt bs k := ⟨_, rfl⟩
    have hle : v ≤ 1 := by rw [hv]; exact bitAt_le _ _
    rw [← hv]
    obtain ⟨q, hq⟩ : ∃ q, q = k / 8 := ⟨_, rfl⟩
    obtain ⟨s, hs⟩ : ∃ s, s = 7 - k % 8 := ⟨_, rfl⟩
    have hqm : q < m := by rw [HM.out]; omega
    have hcell := World.rowIs.cell hrow hqm
    have hfree := World.rowIs.frozen hrow q
    obtain ⟨c, hcc⟩ : ∃ c, c = packOn bs (pre.map Fin.val) q := ⟨_, rfl⟩
    rw [← hcc] at hcell
    have eq8 : (k : Int) / 8 = (q : Int) := by omega
    have es8 : 7 - (k : Int) % 8 = (s : Int) := by omega
    have hs7 : s ≤ 7 := by omega
    obtain ⟨r, hr⟩ : ∃ r, r = c ||| (v * 2 ^ s) := ⟨_, rfl⟩
    have hcb : c < 256 := by rw [hcc]; exact packOn_lt _ _ _
    have hvb : v * 2 ^ s < 256 := by
      have h2 : 2 ^ s ≤ 2 ^ 7 := Nat.pow_le_pow_right (by omega) hs7
      have : v * 2 ^ s ≤ 1 * 2 ^ 7 := Nat.mul_le_mul hle h2
      omega
    have eor : bits .or .u8 (c : Int) ((v : Int) * 2 ^ s % 256) = (r : Int) := by
      rw [show (v : Int) * 2 ^ s % 256 = ((v * 2 ^ s : Nat) : Int) by rw [Int.emod_eq_of_lt (Int.mul_nonneg (by omega) (Int.pow_nonneg (by omega))) (by exact_mod_cast hvb)]; simp, u8_or_nat _ _ hcb hvb, hr]
    have HR := Lib.hid hr
    have mixed : Try.prog.follows Departure.mixedOrders = true := by kernel_rfl
    have t1 : (k : Int).tdiv 8 = (q : Int) := by rw [Int.tdiv_eq_ediv_of_nonneg (by omega)]; exact eq8
    have t2 : IntKind.i64.wrap (q : Int) = (q : Int) := by rw [IntKind.wrap_i64]; omega
    have t3 : (k : Int).tmod 8 = (k : Int) % 8 := Int.tmod_eq_emod_of_nonneg (by omega)
    have t4 : IntKind.i64.wrap (s : Int) = (s : Int) := by rw [IntKind.wrap_i64]; omega
    have i1 : (0 : Int) ≤ (q : Int) := by omega
    have i2 : (q : Int) < (m : Int) := by omega
    have i3 : (0 : Int) ≤ (s : Int) := by omega
    have HV := Lib.hid hv; have HROW := Lib.hid hrow; have HB := Lib.hid hB; have HQ := Lib.hid hq; have HS := Lib.hid hs; have HC := Lib.hid hcc
    clear hv hrow hB hq hs hcc hr hcb hvb
    gi_wp2
    refine wpIn_region_tail_round 12 (by rintro ⟨_, _, h⟩; exact h) (noDefer_spec (by kernel_rfl)) mixed (by kernel_rfl) ?_
    simp only [List.take_succ_cons, List.take_zero, List.drop_succ_cons, List.drop_zero]
    repeat still_step
    refine wpStill_nil ?_
    go_wp2
    rw [eor]
    refine ⟨((KeepsOthers.setCell _ _ _).trans (KeepsOthers.drew _)).from _, ((Below.refl w.heap.size W).setCell (p := ⟨w.heap.size, q, none⟩) (Nat.le_refl _) _).drew, ⟨(World.cell?_setCell_other _ _ _ _ (by simp)).trans hc, World.rowIs.drew (World.rowIs.congr (HROW.out.set q (.int .u8 (r : Int))) (fun j _ => ?_))⟩, (HB.out.setCell (p := ⟨w.heap.size, q, none⟩) (Nat.le_refl _) _).drew⟩
    rw [List.map_append, List.map_cons, List.map_nil, packOn_snoc]
    by_cases hj : j = q
    · subst hj
      rw [if_pos rfl, if_pos HQ.out.symm, ← HC.out, ← HV.out, ← HS.out, HR.out]
    · rw [if_neg hj, if_neg (fun e => hj (by rw [HQ.out]; exact e.symm))]
  case done =>
    rintro D ys W hD hys ⟨⟨hc, hrow⟩, hB⟩ hK
    have hy : ys.map Fin.val = List.range bs.length := hys
    rw [hy] at hrow
    have HR := Lib.hid hrow
    clear hrow hy
    gi_wp2
    refine ⟨by simp, .inl ⟨_, _, rfl, run_takeDeferred hK, ?_⟩⟩
    refine ⟨_, results_tmp rfl _ _ _, _, rfl, ⟨w.heap.size, by rw [packB_length, ← HM.out]; rfl, Nat.le_refl _, by rw [packB_length, ← HM.out]; have := HM.out; omega, ?_⟩, hB.trans (belowK_b (w := w) (Nat.le_refl _) W D _ _ (by simp at hD; omega) hK rfl rfl)⟩
    rw [packB_length, ← HM.out]
    exact (rowIs_kept HR.out (grownBy_putObj' _ D (.deferred none)) (fun r e => by cases e; exact ⟨_, hK, rfl⟩)).congr (fun j hj => by rw [packB_get _ _ (by rw [← HM.out]; exact hj)])
  case stop =>
    rintro D c pre W _ _ h _
    exact h.elim
theorem pack_any (a : Option Addr) (len cap : Nat) (bs : List Nat) (hreach : bs.length ≤ 281474976710656) (w : World) (hI : Str w.heap.size w (.slice a len cap) bs) :
    Calls Try.prog 37 #[.slice a len cap] w fun e W' => ∃ v, e = .returned v ∧ Made w.heap.size W' v (packB bs) ∧ Below w.heap.size w W' :=
  callsIn_wide.1 (pack_in 3 (by omega) a len cap bs hreach w hI)
end Go.Proofs.Ytdnonahpoklbfaa
