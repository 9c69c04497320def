/- What Number of package strand returns: the number of a string's bits. Conditions: as for places. -/
import Derived.Test.YtodeaddmachcjaaStr
import Derived.Laws.BitsLemmas
import Derived.Laws.Bits64b
namespace Go.Proofs.Ytodeaddmachcjaa
open Go.RowKit Go.Shelf
attribute [local go_sem] Oper.semAt_some
/-- The number of bits, in 64 bits. -/
def numB (l : List Nat) : Nat := l.foldl (fun n b => (2 * n + b) % 18446744073709551616) 0
theorem numB_snoc (l : List Nat) (b : Nat) : numB (l ++ [b]) = (2 * numB l + b) % 18446744073709551616 := by simp [numB]
theorem numB_lt (l : List Nat) : numB l < 18446744073709551616 := by
  rcases List.eq_nil_or_concat l with rfl | ⟨l', b, rfl⟩
  · decide
  · rw [List.concat_eq_append, numB_snoc]; exact Nat.mod_lt _ (by omega)
theorem wraps_u64' (n : Int) (h0 : 0 ≤ n) (h1 : n < 2 ^ 64) : IntKind.u64.wrap n = n := by rw [IntKind.wrap_u64]; omega
theorem shl_or (n v : Nat) (hv : v ≤ 1) : bits .or .u64 (IntKind.u64.wrap ((n : Int) * 2)) (v : Int) = (((2 * n + v) % 18446744073709551616 : Nat) : Int) := by
  rw [IntKind.wrap_u64, bits_join .u64 64 (by decide) wraps_u64' 1 _ _ (by omega) (by omega) (by omega) (by omega) (by omega) (by omega)]
  omega
/-- The bits of a string, clean. -/
def bitsOf (bs : List Nat) : List Nat := bs.map bitN
theorem came_bits {bs : List Nat} {pre : List (Fin bs.length)} {k : Nat} (h : Came pre k) : pre.map (fun x => bitAt bs x.1) = (List.range k).map (bitAt bs) := by
  unfold Came at h
  rw [← h, List.map_map]; rfl
theorem range_bits (bs : List Nat) : (List.range bs.length).map (bitAt bs) = bitsOf bs := by
  apply List.ext_getElem
  · simp [bitsOf]
  · intro i h1 h2
    simp at h1
    simp [bitsOf, bitAt, h1]
set_option maxRecDepth 100000 in
set_option maxHeartbeats 2000000 in
theorem number_in (n : Nat) (hn : 3 ≤ n) (a : Option Addr) (len cap : Nat) (bs : List Nat) (hreach : bs.length ≤ 9223372036854775807) (w : World) (hI : Str w.heap.size w (.slice a len cap) bs) :
    CallsIn Fence.wide n Try.prog 32 #[.slice a len cap] w fun e W' => e = .returned (.int .u64 (numB (bitsOf bs) : Nat)) ∧ Below w.heap.size w W' := by
  have h1 : 1 ≤ n := by omega
  refine callsIn_of_wp_marks Try.func32 rfl trivial ?_ rfl
  simp only [Try.ntmps32, List.size_toArray, List.length_cons, List.length_nil, Nat.reduceAdd, Nat.reduceSub, Array.replicate_succ, Array.replicate_zero, List.push_toArray, List.append_toArray, List.nil_append, List.cons_append]
  gi_wp2_with (refine ⟨trivial, ?_⟩; gi_at_call 35; refine (places_in (n - 1) _ _ _ _).mono ?_; rintro e w' ⟨rfl, rfl⟩)
  have bS := Boxed.new w 51 (.int .u64 0)
  have bN := Boxed.new (w.alloc (.cells #[.int .u64 0] 51)) 32 (.slice a len cap)
  rw [World.size_alloc] at bN
  have hB0 : Below w.heap.size w ((w.alloc (.cells #[.int .u64 0] 51)).alloc (.cells #[.slice a len cap] 32)) := ((Below.refl _ w).alloc (Nat.le_refl _) _).alloc (by simp) _
  refine wpIn_rangeFunc_ownG rfl h1 (gf := 37) (lb := #[.pointer (some ⟨w.heap.size + 1, 0, none⟩)]) rfl trivial (enters_of Try.func37 (by kernel_rfl) rfl)
    (places_stops (n - 1) (by omega) (w.heap.size + 1) w.heap.size _ bs hreach _ (by simp) (by simp; omega) bN.cell (hI.below hB0)) belowK_t (belowK_b (by simp; omega)) (Below.refl _ _) (fun _ => rfl)
    (fun pre W => (W.cell? ⟨w.heap.size, 0, none⟩ = some (.int .u64 (numB (pre.map (fun x => bitAt bs x.1)) : Nat)) ∧ W.frozen? ⟨w.heap.size, 0, none⟩ = false) ∧ Below w.heap.size w W)
    (fun _ _ _ => False)
    (OwnFrom.and (Own.from (fun s A B row hs hg hr => ⟨cell_kept hs.1 hg hr, (frozen_kept hs.1 hg hr).trans hs.2⟩) _) (ownFrom_below (Nat.le_refl _) (by simp; omega)))
    (fun _ _ _ _ _ hs _ _ => hs)
    ⟨⟨(bS.alloc _).cell, (bS.alloc _).frozen⟩, hB0⟩
    (fun x => { tmps := #[.slice a len cap, undef, .int .u64 0, .pointer (some ⟨w.heap.size, 0, none⟩), undef, .int .u8 (bitAt bs x.1 : Nat), .slice a len cap, .func (.func 37) #[] #[.pointer (some ⟨w.heap.size + 1, 0, none⟩)], .int .i64 (x.1 : Nat), .int .u8 (bitAt bs x.1 : Nat), undef, undef, undef, undef, undef, undef], defers := [] }) ?assign ?body ?done ?stop
  case assign =>
    intro l x W K hK
    gi_wp2
    exact hK
  case body =>
    rintro l pre x W ⟨⟨hc, hf⟩, hB⟩ _
    obtain ⟨v, hv⟩ : ∃ v, v = bitAt bs x.1 := ⟨_, rfl⟩
    have hle : v ≤ 1 := by rw [hv]; exact bitAt_le _ _
    rw [← hv]
    obtain ⟨m, hm⟩ : ∃ m, m = numB (pre.map (fun x => bitAt bs x.1)) := ⟨_, rfl⟩
    rw [← hm] at hc
    have e := shl_or m v hle
    obtain ⟨r, hr⟩ : ∃ r, r = (2 * m + v) % 18446744073709551616 := ⟨_, rfl⟩
    rw [← hr] at e
    have hfin : numB ((pre ++ [x]).map (fun x => bitAt bs x.1)) = r := by rw [List.map_append, List.map_cons, List.map_nil, numB_snoc, ← hm, ← hv, ← hr]
    have HF := Lib.hid hfin
    clear hv hm hr hfin
    gi_wp2
    exact ⟨(KeepsOthers.setCell _ _ _).from _, (Below.refl w.heap.size W).setCell (p := ⟨w.heap.size, 0, none⟩) (Nat.le_refl _) _, ⟨by rw [HF.out]; exact World.cell?_setCell_same' _ _ _ (by rw [hc]; rfl), by rw [World.frozen?_setCell]; exact hf⟩, hB.setCell (p := ⟨w.heap.size, 0, none⟩) (Nat.le_refl _) _⟩
  case done =>
    rintro D ys W hD hys ⟨⟨hc, _⟩, hB⟩ hK
    rw [came_bits hys, range_bits] at hc
    gi_wp2
    refine ⟨by simp, .inl ⟨_, _, rfl, run_takeDeferred hK, ?_⟩⟩
    exact ⟨_, results_tmp rfl _ _ _, rfl, hB.trans (belowK_b (w := w) (Nat.le_refl _) W D _ _ (by simp at hD; omega) hK rfl rfl)⟩
  case stop =>
    rintro D c pre W _ _ h _
    exact h.elim
theorem number_any (a : Option Addr) (len cap : Nat) (bs : List Nat) (hreach : bs.length ≤ 9223372036854775807) (w : World) (hI : Str w.heap.size w (.slice a len cap) bs) :
    Calls Try.prog 32 #[.slice a len cap] w fun e W' => e = .returned (.int .u64 (numB (bitsOf bs) : Nat)) ∧ Below w.heap.size w W' :=
  callsIn_wide.1 (number_in 3 (by omega) a len cap bs hreach w hI)
end Go.Proofs.Ytodeaddmachcjaa
