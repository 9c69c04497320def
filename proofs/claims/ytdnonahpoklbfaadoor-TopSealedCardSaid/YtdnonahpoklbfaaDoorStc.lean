/- What Clean of package strand returns: each byte 0 or 1. Conditions: there are at most so many bytes as memory holds. -/
import Derived.Test.YtdnonahpoklbfaaDoorSto
namespace Go.Proofs.YtdnonahpoklbfaaDoor
open Go.RowKit Go.Shelf
attribute [local go_sem] Oper.semAt_some
theorem mem_came {n k : Nat} {pre : List (Fin n)} (h : Came pre k) (j : Nat) : j ∈ pre.map Fin.val ↔ j < k := by
  unfold Came at h
  rw [h]; simp
/-- A row of bytes whose places that came hold what f says, the others what they held. -/
def RowOn (W : World) (b n : Nat) (pre : List Nat) (f g : Nat → Nat) : Prop := W.rowIs b 5 n (fun j => .int .u8 ((if j ∈ pre then f j else g j : Nat) : Int))
theorem RowOn.nil {W : World} {b n : Nat} {f g : Nat → Nat} (h : W.rowIs b 5 n (fun j => .int .u8 ((g j : Nat) : Int))) : RowOn W b n [] f g :=
  h.congr fun i _ => by simp
theorem RowOn.snoc {W : World} {b n k v : Nat} {pre : List Nat} {f g : Nat → Nat} (h : RowOn W b n pre f g) (hv : v = f k) : RowOn (W.setCell ⟨b, k, none⟩ (.int .u8 (v : Int))) b n (pre ++ [k]) f g := by
  refine (World.rowIs.set h k (.int .u8 (v : Int))).congr fun i _ => ?_
  by_cases e : i = k
  · subst e; simp [hv]
  · rw [if_neg e]; simp [e]
theorem RowOn.all {W : World} {b n : Nat} {pre : List (Fin n)} {f g : Nat → Nat} {bs : List Nat} (h : RowOn W b n (pre.map Fin.val) f g) (hp : Came pre n) (hb : ∀ j, j < n → bs[j]?.getD 0 = f j) : W.rowIs b 5 n (fun j => .int .u8 ((bs[j]?.getD 0 : Nat) : Int)) :=
  h.congr fun i hi => by rw [if_pos ((mem_came hp i).2 hi), hb i hi]
theorem RowOn.kept {A B : World} {b n : Nat} {pre : List Nat} {f g : Nat → Nat} {row : Option Nat} (h : RowOn A b n pre f g) (hg : A.grownBy B row) (hr : ∀ r, row = some r → ∃ o : Obj, A.heap[r]? = some o ∧ o.isCells = false) : RowOn B b n pre f g := rowIs_kept h hg hr
theorem bitsOf_get (bs : List Nat) (j : Nat) (h : j < bs.length) : (bitsOf bs)[j]?.getD 0 = bitAt bs j := by simp [bitsOf, bitAt, h]
theorem bitsOf_length (bs : List Nat) : (bitsOf bs).length = bs.length := by simp [bitsOf]
set_option maxRecDepth 100000 in
set_option maxHeartbeats 2000000 in
theorem clean_in (n : Nat) (hn : 3 ≤ n) (a : Option Addr) (len cap : Nat) (bs : List Nat) (hreach : bs.length ≤ 281474976710656) (w : World) (hI : Str w.heap.size w (.slice a len cap) bs) :
    CallsIn Fence.wide n Tryd.prog 29 #[.slice a len cap] w fun e W' => ∃ v, e = .returned v ∧ Made w.heap.size W' v (bitsOf bs) ∧ Below w.heap.size w W' := by
  have h1 : 1 ≤ n := by omega
  obtain rfl := hI.len
  have hmk := make_bytes bs.length hreach
  have HI := Lib.hid hI; clear hI
  refine callsIn_of_wp_marks Tryd.func29 rfl trivial ?_ rfl
  simp only [Tryd.ntmps29, List.size_toArray, List.length_cons, List.length_nil, Nat.reduceAdd, Nat.reduceSub, Array.replicate_succ, Array.replicate_zero, List.push_toArray, List.append_toArray, List.nil_append, List.cons_append]
  gi_wp2_with (refine ⟨trivial, ?_⟩; gi_at_call 35; refine (places_in (n - 1) _ _ _ _).mono ?_; rintro e w' ⟨rfl, rfl⟩)
  clear hmk
  obtain ⟨W1, hW1⟩ : ∃ W1, w.alloc (.cells (madeCells #[.int .u8 0] bs.length) 5) = W1 := ⟨_, rfl⟩
  have hz1 : W1.heap.size = w.heap.size + 1 := by rw [← hW1]; simp
  have hr1 : W1.rowIs w.heap.size 5 bs.length (fun _ => .int .u8 ((0 : Nat) : Int)) := by rw [← hW1]; exact World.rowIs_made _ _ _ _
  have hb1 : Below w.heap.size w W1 := by rw [← hW1]; exact (Below.refl _ w).alloc (Nat.le_refl _) _
  rw [hW1]
  have bS := Boxed.new W1 23 (.slice (some ⟨w.heap.size, 0, none⟩) bs.length bs.length)
  have bN := Boxed.new (W1.alloc (.cells #[(.slice (some ⟨w.heap.size, 0, none⟩) bs.length bs.length)] 23)) 23 (.slice a bs.length cap)
  rw [World.size_alloc] at bN
  rw [hz1] at bS bN
  have hB0 : Below w.heap.size w ((W1.alloc (.cells #[(.slice (some ⟨w.heap.size, 0, none⟩) bs.length bs.length)] 23)).alloc (.cells #[.slice a bs.length cap] 23)) := (hb1.alloc (by omega) _).alloc (by simp; omega) _
  refine wpIn_rangeFunc_ownG rfl h1 (gf := 39) (lb := #[.pointer (some ⟨w.heap.size + 1 + 1, 0, none⟩)]) rfl trivial (enters_of Tryd.func39 (by kernel_rfl) rfl)
    (places_stops (n - 1) (by omega) (w.heap.size + 1 + 1) w.heap.size _ bs (by omega) _ (by simp; omega) (by simp; omega) bN.cell (HI.out.below hB0)) belowK_t (belowK_b (by simp; omega)) (Below.refl _ _) (fun _ => rfl)
    (fun pre W => (W.cell? ⟨w.heap.size + 1, 0, none⟩ = some (.slice (some ⟨w.heap.size, 0, none⟩) bs.length bs.length) ∧ RowOn W w.heap.size bs.length (pre.map Fin.val) (bitAt bs) (fun _ => 0)) ∧ Below w.heap.size w W)
    (fun _ _ _ => False)
    (OwnFrom.and (Own.from (fun s A B row hs hg hr => ⟨cell_kept hs.1 hg hr, hs.2.kept hg hr⟩) _) (ownFrom_below (Nat.le_refl _) (by simp; omega)))
    (fun _ _ _ _ _ hs _ _ => hs)
    ⟨⟨(bS.alloc _).cell, RowOn.nil ((hr1.alloc _).alloc _)⟩, hB0⟩
    (fun x => { tmps := #[.slice a bs.length cap, undef, .slice none 0 0, .pointer (some ⟨w.heap.size + 1, 0, none⟩), .int .i64 (x.1 : Nat), .int .u8 (bitAt bs x.1 : Nat), .slice a bs.length cap, .int .i64 (bs.length : Nat), .slice (some ⟨w.heap.size, 0, none⟩) bs.length bs.length, .slice a bs.length cap, .func (.func 39) #[] #[.pointer (some ⟨w.heap.size + 1 + 1, 0, none⟩)], .int .i64 (x.1 : Nat), .int .u8 (bitAt bs x.1 : Nat), undef, undef, undef, undef, undef], defers := [] }) ?assign ?body ?done ?stop
  case assign =>
    intro l x W K hK
    gi_wp2
    exact hK
  case body =>
    rintro l pre ⟨k, hk⟩ W ⟨⟨hc, hrow⟩, hB⟩ _
    dsimp only
    obtain ⟨v, hv⟩ : ∃ v, v = bitAt bs k := ⟨_, rfl⟩
    have hle : v ≤ 1 := by rw [hv]; exact bitAt_le _ _
    rw [← hv]
    have hcell := World.rowIs.cell hrow hk
    have hfree := World.rowIs.frozen hrow k
    have HV := Lib.hid hv; have HROW := Lib.hid hrow; have HB := Lib.hid hB
    clear hv hrow hB
    gi_wp2
    exact ⟨(KeepsOthers.setCell _ _ _).from _, (Below.refl w.heap.size W).setCell (p := ⟨w.heap.size, k, none⟩) (Nat.le_refl _) _, ⟨(World.cell?_setCell_other _ _ _ _ (by simp)).trans hc, by rw [List.map_append]; exact HROW.out.snoc HV.out⟩, HB.out.setCell (p := ⟨w.heap.size, k, none⟩) (Nat.le_refl _) _⟩
  case done =>
    rintro D ys W hD hys ⟨⟨hc, hrow⟩, hB⟩ hK
    have HR := Lib.hid (RowOn.all hrow hys (bs := bitsOf bs) (fun j hj => bitsOf_get _ _ hj))
    clear hrow
    gi_wp2
    refine ⟨by simp, .inl ⟨_, _, rfl, run_takeDeferred hK, ?_⟩⟩
    refine ⟨_, results_tmp rfl _ _ _, _, rfl, ⟨w.heap.size, by rw [bitsOf_length]; rfl, Nat.le_refl _, by rw [bitsOf_length]; exact hreach, ?_⟩, hB.trans (belowK_b (w := w) (Nat.le_refl _) W D _ _ (by simp at hD; omega) hK rfl rfl)⟩
    rw [bitsOf_length]
    exact rowIs_kept HR.out (grownBy_putObj' _ D (.deferred none)) (fun r e => by cases e; exact ⟨_, hK, rfl⟩)
  case stop =>
    rintro D c pre W _ _ h _
    exact h.elim
theorem clean_any (a : Option Addr) (len cap : Nat) (bs : List Nat) (hreach : bs.length ≤ 281474976710656) (w : World) (hI : Str w.heap.size w (.slice a len cap) bs) :
    Calls Tryd.prog 29 #[.slice a len cap] w fun e W' => ∃ v, e = .returned v ∧ Made w.heap.size W' v (bitsOf bs) ∧ Below w.heap.size w W' :=
  callsIn_wide.1 (clean_in 3 (by omega) a len cap bs hreach w hI)
end Go.Proofs.YtdnonahpoklbfaaDoor
