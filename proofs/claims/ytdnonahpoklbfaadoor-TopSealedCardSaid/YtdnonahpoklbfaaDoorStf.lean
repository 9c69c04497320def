/- What Same of package strand returns: whether there are xs many bits, each alike. Conditions: xs for places. -/
import Derived.Test.YtdnonahpoklbfaaDoorStc
namespace Go.Proofs.YtdnonahpoklbfaaDoor
open Go.RowKit Go.Shelf
attribute [local go_sem] Oper.semAt_some
def sameV (a b : List Nat) : Bool := decide (bitsOf a = bitsOf b)
theorem same_len {a b : List Nat} (h : a.length ≠ b.length) : sameV a b = false := decide_eq_false (fun e => h (by have := congrArg List.length e; simpa [bitsOf] using this))
theorem bits_ext {a b : List Nat} (h : a.length = b.length) (hb : ∀ j, j < a.length → bitAt a j = bitAt b j) : bitsOf a = bitsOf b := by
  apply List.ext_getElem
  · simpa [bitsOf] using h
  · intro i h1 h2
    have h1' : i < a.length := by simpa [bitsOf] using h1
    have h2' : i < b.length := by omega
    have e := hb i h1'
    simpa [bitsOf, bitAt, h1', h2'] using e
theorem same_no {a b : List Nat} {k : Nat} (h : k < a.length) (hl : a.length = b.length) (hb : bitAt a k ≠ bitAt b k) : sameV a b = false := by
  refine decide_eq_false (fun e => hb ?_)
  have : (bitsOf a)[k]?.getD 0 = (bitsOf b)[k]?.getD 0 := by rw [e]
  rwa [bitsOf_get a k h, bitsOf_get b k (by omega)] at this
set_option maxRecDepth 100000 in
set_option maxHeartbeats 2000000 in
theorem same_in (n : Nat) (hn : 4 ≤ n) (a : Option Addr) (len cap : Nat) (xs : List Nat) (a2 : Option Addr) (len2 cap2 : Nat) (bs : List Nat) (hreach : xs.length ≤ 281474976710656) (w : World) (hI : Str w.heap.size w (.slice a len cap) xs) (hI2 : Str w.heap.size w (.slice a2 len2 cap2) bs) :
    CallsIn Fence.wide n Tryd.prog 25 #[.slice a len cap, .slice a2 len2 cap2] w fun e W' => e = .returned (.bool (sameV xs bs)) ∧ Below w.heap.size w W' := by
  have h1 : 1 ≤ n := by omega
  obtain rfl := hI.len
  have hl2 := hI2.len
  have HI := Lib.hid hI; have HI2 := Lib.hid hI2; clear hI hI2
  by_cases hlen : xs.length = len2
  · have hne : ((xs.length : Int) != (len2 : Int)) = false := by rw [hlen]; simp
    have HL := Lib.hid hlen; have HL2 := Lib.hid hl2
    refine callsIn_of_wp_marks Tryd.func25 rfl trivial ?_ rfl
    simp only [Tryd.ntmps25, List.size_toArray, List.length_cons, List.length_nil, Nat.reduceAdd, Nat.reduceSub, Array.replicate_succ, Array.replicate_zero, List.push_toArray, List.append_toArray, List.nil_append, List.cons_append]
    clear hl2 hlen
    gi_wp2_with (refine ⟨trivial, ?_⟩; gi_at_call 35; refine (places_in (n - 1) _ _ _ _).mono ?_; rintro e w' ⟨rfl, rfl⟩)
    clear hne
    have b0 := Boxed.new w 23 (.slice a2 len2 cap2)
    have b1 := Boxed.new (w.alloc (.cells #[.slice a2 len2 cap2] 23)) 4 (.bool false)
    have bN := Boxed.new ((w.alloc (.cells #[.slice a2 len2 cap2] 23)).alloc (.cells #[.bool false] 4)) 23 (.slice a xs.length cap)
    simp only [World.size_alloc] at b1 bN
    have hB0 : Below w.heap.size w (((w.alloc (.cells #[.slice a2 len2 cap2] 23)).alloc (.cells #[.bool false] 4)).alloc (.cells #[.slice a xs.length cap] 23)) := (((Below.refl _ w).alloc (Nat.le_refl _) _).alloc (by simp) _).alloc (by simp only [World.size_alloc]; omega) _
    refine wpIn_rangeFunc_ownG rfl h1 (gf := 39) (lb := #[.pointer (some ⟨w.heap.size + 1 + 1, 0, none⟩)]) rfl trivial (enters_of Tryd.func39 (by kernel_rfl) rfl)
      (places_stops (n - 1) (by omega) (w.heap.size + 1 + 1) w.heap.size _ xs (by omega) _ (by simp) (by simp; omega) bN.cell (HI.out.below hB0)) belowK_t (belowK_b (by simp; omega)) (Below.refl _ _) (fun _ => rfl)
      (fun pre W => ((∀ x ∈ pre, bitAt xs x.1 = bitAt bs x.1) ∧ W.cell? ⟨w.heap.size, 0, none⟩ = some (.slice a2 len2 cap2) ∧ W.cell? ⟨w.heap.size + 1, 0, none⟩ = some (.bool false) ∧ W.frozen? ⟨w.heap.size + 1, 0, none⟩ = false) ∧ Below w.heap.size w W)
      (fun c _ W => (c = .ret ∧ sameV xs bs = false ∧ W.cell? ⟨w.heap.size + 1, 0, none⟩ = some (.bool false)) ∧ Below w.heap.size w W)
      (OwnFrom.and (Own.from (fun s A B row hs hg hr => ⟨hs.1, cell_kept hs.2.1 hg hr, cell_kept hs.2.2.1 hg hr, (frozen_kept hs.2.2.1 hg hr).trans hs.2.2.2⟩) _) (ownFrom_below (Nat.le_refl _) (by simp; omega)))
      (fun c => OwnFrom.and (Own.from (fun s A B row hs hg hr => ⟨hs.1, hs.2.1, cell_kept hs.2.2 hg hr⟩) _) (ownFrom_below (Nat.le_refl _) (by simp; omega)))
      ⟨⟨(fun x hx => by cases hx), ((b0.alloc _).alloc _).cell, (b1.alloc _).cell, (b1.alloc _).frozen⟩, hB0⟩
      (fun x => { tmps := #[.slice a xs.length cap, .slice a2 len2 cap2, undef, .pointer (some ⟨w.heap.size, 0, none⟩), .pointer (some ⟨w.heap.size + 1, 0, none⟩), .int .i64 (x.1 : Nat), .int .u8 (bitAt xs x.1 : Nat), .slice a xs.length cap, .int .i64 (xs.length : Nat), .slice a2 len2 cap2, .int .i64 (len2 : Nat), .bool false, .slice a xs.length cap, .func (.func 39) #[] #[.pointer (some ⟨w.heap.size + 1 + 1, 0, none⟩)], .int .i64 (x.1 : Nat), .int .u8 (bitAt xs x.1 : Nat), undef, undef, undef, undef, undef, undef, undef], defers := [] }) ?assign ?body ?done ?stop
    case assign =>
      intro l x W K hK
      gi_wp2
      exact hK
    case body =>
      rintro l pre ⟨k, hk⟩ W ⟨⟨hall, hc0, hc1, hf1⟩, hB⟩ _
      dsimp only
      have hk2 : k < bs.length := by rw [← HL2.out, ← HL.out]; exact hk
      have hkl : k < len2 := by rw [← HL.out]; exact hk
      obtain ⟨b, off, hA2, hcell⟩ : ∃ b off, a2 = some ⟨b, off, none⟩ ∧ W.cell? ⟨b, off + k, none⟩ = some (.int .u8 ((bs[k]?.getD 0 : Nat) : Int)) := by
        rcases HI2.out.below hB with ⟨_, _, e, _, e2⟩ | ⟨b, off, cap', e, _, _, _, hc⟩
        · rw [e2] at hk2; cases hk2
        · injection e with e1 _ _
          exact ⟨b, off, e1, hc k hk2⟩
      subst hA2
      obtain ⟨v, hv⟩ : ∃ v, v = bitAt xs k := ⟨_, rfl⟩
      obtain ⟨y, hy⟩ : ∃ y, y = bs[k]?.getD 0 := ⟨_, rfl⟩
      rw [← hv]
      rw [← hy] at hcell
      have hby : bitAt bs k = bitN y := by rw [hy]; rfl
      obtain ⟨z, hz⟩ : ∃ z, z = bitN y := ⟨_, rfl⟩
      have cb := fun w => bit_any y w
      rw [← hz] at cb
      rw [← hz] at hby
      have CB := Lib.hid cb; have HV := Lib.hid hv; have HBY := Lib.hid hby; have HALL := Lib.hid hall; have HB := Lib.hid hB
      have HLX := Lib.hid (HL.out.trans HL2.out)
      clear cb hv hby hall hB hz hy hk2
      by_cases hvz : v = z
      · subst hvz
        gi_wp2_with (fail)
        refine ⟨trivial, (fun h => by cases h), ?_⟩
        refine (CallsIn.inRound l (callsIn_wide.2 (CB.out _))).mono ?_
        rintro e w' ⟨rfl, rfl⟩
        gi_wp2
        exact ⟨KeepsFrom.refl _ _, Below.refl _ _, ⟨fun x hx => (List.mem_append.1 hx).elim (HALL.out x) (fun e => by have e2 : x = ⟨k, hk⟩ := (by simpa using e); subst e2; exact HV.out.symm.trans HBY.out.symm), hc0, hc1, hf1⟩, HB.out⟩
      · have hne : ((v : Int) != (z : Int)) = true := by simp; omega
        have HNE := Lib.hid hvz; clear hvz
        gi_wp2_with (fail)
        refine ⟨trivial, (fun h => by cases h), ?_⟩
        refine (CallsIn.inRound l (callsIn_wide.2 (CB.out _))).mono ?_
        rintro e w' ⟨rfl, rfl⟩
        gi_wp2
        exact ⟨(KeepsOthers.setCell _ _ _).from _, ⟨rfl, same_no hk HLX.out (by rw [← HV.out, HBY.out]; exact HNE.out), World.cell?_setCell_same _ _ _ hc1⟩, HB.out.setCell (p := ⟨w.heap.size + 1, 0, none⟩) (Nat.le_succ _) _⟩
    case done =>
      rintro D ys W hD hys ⟨⟨hall, _, hc1, hf1⟩, hB⟩ hK
      have hres : sameV xs bs = true := decide_eq_true (bits_ext (HL.out.trans HL2.out) (fun j hj => by
        obtain ⟨x, hx, rfl⟩ := List.mem_map.1 ((mem_came hys j).2 hj)
        exact hall x hx))
      have HRES := Lib.hid hres; have HB := Lib.hid hB
      clear hres hall hB
      gi_wp2
      have hK' := (KeepsOthers.setCell W ⟨w.heap.size + 1, 0, none⟩ (.bool true)).same D _ hK rfl
      refine ⟨by simp, .inl ⟨_, _, rfl, run_takeDeferred hK', ?_⟩⟩
      have hc5 := cell_kept (World.cell?_setCell_same W ⟨w.heap.size + 1, 0, none⟩ (.bool true) hc1) (grownBy_putObj' _ D (.deferred none)) (fun r e => by cases e; exact ⟨_, hK', rfl⟩)
      refine ⟨.bool true, ?_, by rw [HRES.out], (HB.out.setCell (p := ⟨w.heap.size + 1, 0, none⟩) (Nat.le_succ _) _).trans (belowK_b (w := w) (Nat.le_refl _) _ D _ _ (by simp at hD; omega) hK' rfl rfl)⟩
      simp [results, Tryd.f25, go_sem, hc5]
    case stop =>
      rintro D c pre W hD _ ⟨⟨rfl, hres, hc1⟩, hB⟩ hK
      have HRES := Lib.hid hres; have HB := Lib.hid hB
      clear hres hB
      gi_wp2
      refine ⟨by simp, .inl ⟨_, _, rfl, run_takeDeferred hK, ?_⟩⟩
      have hc5 := cell_kept hc1 (grownBy_putObj' _ D (.deferred none)) (fun r e => by cases e; exact ⟨_, hK, rfl⟩)
      refine ⟨.bool false, ?_, by rw [HRES.out], HB.out.trans (belowK_b (w := w) (Nat.le_refl _) W D _ _ (by simp at hD; omega) hK rfl rfl)⟩
      simp [results, Tryd.f25, go_sem, hc5]
  · have hne : ((xs.length : Int) != (len2 : Int)) = true := by simp; omega
    have hres := same_len (a := xs) (b := bs) (by rw [← hl2]; exact hlen)
    rw [hres]
    refine callsIn_of_wp_marks Tryd.func25 rfl trivial ?_ rfl
    simp only [Tryd.ntmps25, List.size_toArray, List.length_cons, List.length_nil, Nat.reduceAdd, Nat.reduceSub, Array.replicate_succ, Array.replicate_zero, List.push_toArray, List.append_toArray, List.nil_append, List.cons_append]
    clear hl2 hlen hres
    gi_wp2
    refine ⟨.bool false, ?_, rfl, ((Below.refl _ w).alloc (Nat.le_refl _) _).alloc (by simp) _⟩
    simp [results, Tryd.f25, go_sem]
theorem same_any (a : Option Addr) (len cap : Nat) (xs : List Nat) (a2 : Option Addr) (len2 cap2 : Nat) (bs : List Nat) (hreach : xs.length ≤ 281474976710656) (w : World) (hI : Str w.heap.size w (.slice a len cap) xs) (hI2 : Str w.heap.size w (.slice a2 len2 cap2) bs) :
    Calls Tryd.prog 25 #[.slice a len cap, .slice a2 len2 cap2] w fun e W' => e = .returned (.bool (sameV xs bs)) ∧ Below w.heap.size w W' :=
  callsIn_wide.1 (same_in 4 (by omega) a len cap xs a2 len2 cap2 bs hreach w hI hI2)
end Go.Proofs.YtdnonahpoklbfaaDoor
