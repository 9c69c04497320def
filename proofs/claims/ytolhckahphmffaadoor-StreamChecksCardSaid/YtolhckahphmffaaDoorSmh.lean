/- Package stream: what is wrong with several streams. Conditions: there are at most so many as memory holds. -/
import Derived.Test.YtolhckahphmffaaDoorSmg
import Derived.Scope
import Derived.Laws.EntriesVeiled
namespace Go.Proofs.YtolhckahphmffaaDoor
open Go.RowKit Go.Shelf
attribute [local go_sem] Oper.semAt_some
theorem boxed_below {W W' : World} {n B : Nat} {t : TypeId} {v : Value} (h : Boxed W B t v) (hb : Below n W W') (hn : B < n) : Boxed W' B t v := (hb.block B hn).trans h
theorem ret_marks {n : Nat} {P : Program} {fn : Func} {R : Ending → World → Prop} {tmps : Array Value} {W : World} (B : Nat) (Qw : World → Prop) (Ds : List Nat) (hQ : ∀ W D, Qw W → B ≤ D → W.heap[D]? = some (.deferred (some [])) → Qw (W.putObj D (.deferred none))) (hend : ∀ W, Qw W → LeavesIn Fence.wide n P fn tmps R [] .returning W) (hq : Qw W) (hM : Marks B W Ds) : Exit.noGoto (bodyPostM Fence.wide n P fn R) Exit.ret { tmps := tmps, defers := Ds.map markOf } W := leaves_marks B Qw hQ hend Ds W hq hM
theorem boxed_far {W : World} {B C : Nat} {t : TypeId} {v : Value} (h : Boxed W B t v) (hne : C ≠ B) (u : Value) : Boxed (W.setCell ⟨C, 0, none⟩ u) B t v := Blk.puts (l := [v]) h hne 0 u
theorem marks_below {W W' : World} {B : Nat} {Ds : List Nat} (h : Marks B W Ds) (hb : Below W.heap.size W W') : Marks B W' Ds := ⟨h.1, fun D hD => ⟨(h.2 D hD).1, (hb.block D (Array.getElem?_eq_some_iff.1 (h.2 D hD).2).1).trans (h.2 D hD).2⟩⟩
theorem blk_neT {u : World} {A B : Nat} {T T2 : TypeId} {c c2 : Array Value} (h : u.heap[A]? = some (.cells c T (0, 0))) (h2 : u.heap[B]? = some (.cells c2 T2 (0, 0))) (hT : T ≠ T2) : A ≠ B := fun e => by
  subst e
  have h3 := h.symm.trans h2
  simp at h3
  exact hT h3.2
theorem keeps_below {W W' : World} (h : Below W.heap.size W W') : KeepsOthers W W' := ⟨h.size, fun k _ hk _ => (h.block k (Array.getElem?_eq_some_iff.1 hk).1).trans hk⟩
theorem fls_of {L : List Sm} {len : Int} {q : Nat} {pre : List (Fin L.length)} {m : Nat} (hc : Came pre m) (h : ∀ y ∈ pre, flB L len q y.1 = 0) : ∀ i, i < m → flB L len q i = 0 := fun i hi => by
  obtain ⟨y, hy, e⟩ := came_mem hc hi
  rw [← e]; exact h y hy
theorem scope_in {n : Nat} {P : Program} {c : Code} {Q : Exit → Act → World → Prop} {a : Act} {w : World} (h : c.wpIn Fence.wide n P (Exit.noGoto Q) a w) : (Code.scope c).wpIn Fence.wide n P Q a w := wpIn_wide.2 (wp_scope_straight (wpIn_wide.1 h))
set_option maxRecDepth 100000 in
set_option maxHeartbeats 8000000 in
theorem scheck_in (n : Nat) (hn : 3 ≤ n) (a : Option Addr) (ln cap : Nat) (L : List Sm) (len : Int) (hreach : L.length ≤ 4611686018427387904) (w : World) (hI : Sts w.heap.size w (.slice a ln cap) L) :
    CallsIn Fence.wide n Tryd.prog 12 #[.slice a ln cap, .int .i64 len] w fun y w' => y = .returned (.tuple #[.int .i64 (checkV L len).1, .int .i64 (checkV L len).2]) ∧ Below w.heap.size w w' := by
  obtain rfl := hI.len
  have h1 : 1 ≤ n := by omega
  have HI := Lib.hid hI
  clear hI
  obtain ⟨V0, V1, hV⟩ : ∃ V0 V1, (V0, V1) = checkV L len := ⟨_, _, rfl⟩
  rw [← hV]
  have HV := Lib.hid hV
  clear hV
  dsimp only
  refine callsIn_of_wp_marks Tryd.func12 rfl trivial ?_ rfl
  simp only [Tryd.ntmps12, List.size_toArray, List.length_cons, List.length_nil, Nat.reduceAdd, Nat.reduceSub, Array.replicate_succ, Array.replicate_zero, List.push_toArray, List.append_toArray, List.nil_append, List.cons_append]
  by_cases hl : 64 < L.length
  · have i1 : (64 : Int) < (L.length : Int) := by omega
    have HF := Lib.hid (show V0 = 0 ∧ V1 = 11 by
      have e := HV.out
      unfold checkV at e
      rw [if_pos hl] at e
      injection e with e1 e2
      exact ⟨e1, e2⟩)
    gi_wp2
    refine scope_in ?_
    gi_wp2
    refine ret_marks w.heap.size (fun W => Below w.heap.size w W) [] (fun W D hq hD hK => hq.trans (belowK_b (w := w) (Nat.le_refl _) W D _ _ hD hK rfl rfl)) (fun W hq => ?_) (Below.refl _ _) ⟨List.nodup_nil, fun D hD => by cases hD⟩
    exact ⟨.tuple #[.int .i64 0, .int .i64 11], by simp [results, Tryd.f12, go_sem], by rw [HF.out.1, HF.out.2], hq⟩
  have i1 : ¬ (64 : Int) < (L.length : Int) := by omega
  have HCW := Lib.hid (fun u => wit64_any len 1 1073741824 u)
  cases hq : inS len 1 1073741824 with
  | false =>
    rw [hq] at HCW
    have HF := Lib.hid (show V0 = 0 ∧ V1 = 1 by
      have e0 := HV.out
      unfold checkV at e0
      rw [if_neg hl, if_pos hq] at e0
      injection e0 with e1 e2
      exact ⟨e1, e2⟩)
    clear hq
    gi_wp2
    refine scope_in ?_
    gi_wp2_with (refine ⟨trivial, ?_⟩; gi_at_call 39; refine (callsIn_wide.2 (HCW.out _)).mono ?_; rintro y w1 ⟨rfl, hb⟩)
    refine ret_marks w.heap.size (fun W => Below w.heap.size w W) [] (fun W D hq hD hK => hq.trans (belowK_b (w := w) (Nat.le_refl _) W D _ _ hD hK rfl rfl)) (fun W hq => ?_) hb ⟨List.nodup_nil, fun D hD => by cases hD⟩
    exact ⟨.tuple #[.int .i64 0, .int .i64 1], by simp [results, Tryd.f12, go_sem], by rw [HF.out.1, HF.out.2], hq⟩
  | true =>
    rw [hq] at HCW
    have HV2 := Lib.hid (show (V0, V1) = chkV L len [0, 1, 2] by
      have e0 := HV.out
      unfold checkV at e0
      rw [if_neg hl, if_neg (by rw [hq]; decide)] at e0
      exact e0)
    clear hq HV
    gi_wp2
    refine scope_in ?_
    gi_wp2_with (refine ⟨trivial, ?_⟩; gi_at_call 39; refine (callsIn_wide.2 (HCW.out _)).mono ?_; rintro y w1 ⟨rfl, hb⟩)
    refine wpIn_label ?_
    have HB1 := Lib.hid hb
    clear hb
    obtain ⟨B6, hB6⟩ : ∃ B, B = w1.heap.size := ⟨_, rfl⟩
    obtain ⟨W2, hW2⟩ : ∃ W, W = (w1.alloc (.cells #[.int .i64 (L.length : Int)] 3)).alloc (.cells #[.int .i64 0] 24) := ⟨_, rfl⟩
    have b6 : Boxed W2 B6 3 (.int .i64 (L.length : Int)) := by rw [hW2, hB6]; exact (Boxed.new _ _ _).alloc _
    have b7 : Boxed W2 (B6 + 1) 24 (.int .i64 0) := by
      rw [hW2, hB6]
      have := Boxed.new (w1.alloc (.cells #[.int .i64 (L.length : Int)] 3)) 24 (.int .i64 0)
      rw [World.size_alloc] at this
      exact this
    have HB2 := Lib.hid (show Below w.heap.size w W2 by rw [hW2]; exact (HB1.out.alloc HB1.out.size _).alloc (by simp only [World.size_alloc]; have := HB1.out.size; omega) _)
    rw [← hW2, ← hB6]
    have H6 := Lib.hid b6; have H7 := Lib.hid b7
    have HB6 := Lib.hid (show w.heap.size ≤ B6 by rw [hB6]; exact HB1.out.size)
    clear hW2 hB6 b6 b7
    gi_wp2_with (refine ⟨trivial, ?_⟩; gi_at_call 40; refine (callsIn_wide.2 (faults_any a L.length cap len W2)).mono ?_; rintro y w3 ⟨FB, hFB, rfl, hF1, hF2, hF3, hF4⟩)
    obtain ⟨LB, hLB⟩ : ∃ B, B = W2.heap.size := ⟨_, rfl⟩
    rw [← hLB] at hF1 hF2 hF3
    have HB3 := Lib.hid (below_transG HB2.out hF4)
    have HS3 := Lib.hid (show Boxed w3 B6 3 (.int .i64 (L.length : Int)) ∧ Boxed w3 (B6 + 1) 24 (.int .i64 0) ∧ Blk w3 FB 62 [.func (.func 65) #[] #[], .func (.func 66) #[] #[.pointer (some ⟨LB, 0, none⟩)], .func (.func 68) #[] #[.pointer (some ⟨LB + 1, 0, none⟩)]] ∧ Boxed w3 LB 22 (.slice a L.length cap) ∧ Boxed w3 (LB + 1) 2 (.int .i64 len) from ⟨boxed_below H6.out hF4 H6.out.lt, boxed_below H7.out hF4 H7.out.lt, hF1, hF2, hF3⟩)
    clear hF1 hF2 hF3 hF4 hLB hFB
    refine wpIn_loop (fun a' wr => ∃ (j : Nat) (Ds : List Nat) (u8 u9 u10 u11 u25 u26 u27 u28 u29 u30 u31 u32 u33 u34 u35 u36 u37 u38 u39 u40 u41 : Value), a' = { tmps := (.slice a L.length cap :: .int .i64 len :: undef :: undef :: .int .i64 0 :: .int .i64 0 :: .pointer (some ⟨B6, 0, none⟩) :: .pointer (some ⟨B6 + 1, 0, none⟩) :: u8 :: u9 :: u10 :: u11 :: .slice a L.length cap :: .int .i64 (L.length : Int) :: .bool (decide ((64 : Int) < (L.length : Int))) :: .int .i64 len :: .bool true :: .bool false :: .slice a L.length cap :: .int .i64 (L.length : Int) :: .slice a L.length cap :: .int .i64 len :: .slice (some ⟨FB, 0, none⟩) 3 3 :: .int .i64 3 :: .int .i64 (j : Nat) :: u25 :: u26 :: u27 :: u28 :: u29 :: u30 :: u31 :: u32 :: u33 :: u34 :: u35 :: u36 :: u37 :: u38 :: u39 :: u40 :: u41 :: []).toArray, defers := Ds.map markOf } ∧ j ≤ 3 ∧ (∀ p, p < j → ∀ i, i < L.length → flB L len p i = 0) ∧ (Boxed wr B6 3 (.int .i64 (L.length : Int)) ∧ Boxed wr (B6 + 1) 24 (.int .i64 0) ∧ Blk wr FB 62 [.func (.func 65) #[] #[], .func (.func 66) #[] #[.pointer (some ⟨LB, 0, none⟩)], .func (.func 68) #[] #[.pointer (some ⟨LB + 1, 0, none⟩)]] ∧ Boxed wr LB 22 (.slice a L.length cap) ∧ Boxed wr (LB + 1) 2 (.int .i64 len)) ∧ Marks w.heap.size wr Ds ∧ Below w.heap.size w wr) (fun a' _ => 3 - (intOf (a'.tmps.getD 24 undef)).toNat) ?start ?round
    case start => exact ⟨0, [], _, _, _, _, _, _, _, _, _, _, _, _, _, _, _, _, _, _, _, _, _, rfl, by omega, fun p hp => by omega, HS3.out, ⟨List.nodup_nil, fun D hD => by cases hD⟩, HB3.out⟩
    case round =>
      rintro a' wr ⟨j, Ds, u8, u9, u10, u11, u25, u26, u27, u28, u29, u30, u31, u32, u33, u34, u35, u36, u37, u38, u39, u40, u41, rfl, hj, hno, hS, hM, hB⟩
      have HNO := Lib.hid hno; have HSR := Lib.hid hS; have HM := Lib.hid hM; have HB := Lib.hid hB
      clear hno hS hM hB HS3 H6 H7
      by_cases hj3 : j < 3
      · obtain rfl | rfl | rfl : j = 0 ∨ j = 1 ∨ j = 2 := by omega
        · have fq : wr.cell? ⟨FB, 0, none⟩ = some (.func (.func 65) #[] #[]) := HSR.out.2.2.1.cellAt (i := 0) (by simp)
          gi_wp2_with (fail)
          refine ⟨trivial, ?_⟩
          refine (placed_in (n - 1) _ _ _ _).mono ?_
          rintro e w' ⟨rfl, rfl⟩
          clear fq
          obtain ⟨B9, hB9⟩ : ∃ B, B = wr.heap.size := ⟨_, rfl⟩
          obtain ⟨W5, hW5⟩ : ∃ W, W = (wr.alloc (.cells #[.func (.func 65) #[] #[]] 62)).alloc (.cells #[.slice a L.length cap] 22) := ⟨_, rfl⟩
          have h9 : Boxed W5 B9 62 (.func (.func 65) #[] #[]) := by rw [hW5, hB9]; exact (Boxed.new _ _ _).alloc _
          have h10 : Boxed W5 (B9 + 1) 22 (.slice a L.length cap) := by
            rw [hW5, hB9]
            have := Boxed.new (wr.alloc (.cells #[.func (.func 65) #[] #[]] 62)) 22 (.slice a L.length cap)
            rw [World.size_alloc] at this
            exact this
          have hw5 : Below wr.heap.size wr W5 := by rw [hW5]; exact ((Below.refl _ wr).alloc (Nat.le_refl _) _).alloc (by simp) _
          have hsz5 : W5.heap.size = B9 + 2 := by rw [hW5, hB9]; simp
          have H9 := Lib.hid h9; have HW5 := Lib.hid hw5
          have HB5 := Lib.hid (below_transG HB.out hw5)
          have hle5 : w.heap.size ≤ W5.heap.size := HB5.out.size
          have hDl : ∀ D ∈ Ds, D < W5.heap.size := fun D hD => Nat.lt_of_lt_of_le (Array.getElem?_eq_some_iff.1 (HM.out.2 D hD).2).1 hw5.size
          have HDL := Lib.hid hDl
          try simp only [World.size_alloc]
          rw [← hW5, ← hB9]
          have HSZ := Lib.hid hsz5
          clear hW5 hw5 hDl hsz5 hB9
          gi_wp2_with (fail)
          refine wpIn_rangeFunc_ownH rfl h1 (gf := 69) (lb := #[.pointer (some ⟨B9 + 1, 0, none⟩)]) rfl trivial (enters_of Tryd.func69 (by kernel_rfl) rfl)
            (placed_stops (n - 1) (by omega) (B9 + 1) w.heap.size _ L hreach W5 (by rw [HSZ.out]; omega) hle5 h10.cell (HI.out.below HB5.out)) belowK_t (belowK_b hle5) (Below.refl _ _) (fun _ => rfl)
            (fun pre W => ((∀ y ∈ pre, flB L len 0 y.1 = 0) ∧ (Boxed W B6 3 (.int .i64 (L.length : Int)) ∧ Boxed W (B6 + 1) 24 (.int .i64 0) ∧ Blk W FB 62 [.func (.func 65) #[] #[], .func (.func 66) #[] #[.pointer (some ⟨LB, 0, none⟩)], .func (.func 68) #[] #[.pointer (some ⟨LB + 1, 0, none⟩)]] ∧ Boxed W LB 22 (.slice a L.length cap) ∧ Boxed W (LB + 1) 2 (.int .i64 len)) ∧ Boxed W B9 62 (.func (.func 65) #[] #[]) ∧ ∀ D ∈ Ds, W.heap[D]? = some (.deferred (some []))) ∧ Below w.heap.size w W)
            (fun c pre W => (c = .exit 0 ∧ (∃ p0 x, pre = p0 ++ [x] ∧ (∀ y ∈ p0, flB L len 0 y.1 = 0) ∧ flB L len 0 x.1 ≠ 0 ∧ Boxed W B6 3 (.int .i64 (x.1 : Nat)) ∧ Boxed W (B6 + 1) 24 (.int .i64 (flB L len 0 x.1))) ∧ ∀ D ∈ Ds, W.heap[D]? = some (.deferred (some []))) ∧ Below w.heap.size w W)
            (OwnFrom.and (fun s A B row hs hg hr => ⟨hs.1, ⟨boxed_own hs.2.1.1 hg (fun r e => (hr r e).2), boxed_own hs.2.1.2.1 hg (fun r e => (hr r e).2), blk_own hs.2.1.2.2.1 hg (fun r e => (hr r e).2), boxed_own hs.2.1.2.2.2.1 hg (fun r e => (hr r e).2), boxed_own hs.2.1.2.2.2.2 hg (fun r e => (hr r e).2)⟩, boxed_own hs.2.2.1 hg (fun r e => (hr r e).2), fun D hD => (hg.block D (Array.getElem?_eq_some_iff.1 (hs.2.2.2 D hD)).1 (fun e => by have h1 := (hr D e.symm).1; have h2 := HDL.out D hD; omega)).trans (hs.2.2.2 D hD)⟩) (ownFrom_below (Nat.le_refl _) hle5))
            (fun c => OwnFrom.and (fun s A B row hs hg hr => ⟨hs.1, by obtain ⟨p0, x, e1, e2, e3, e4, e5⟩ := hs.2.1; exact ⟨p0, x, e1, e2, e3, boxed_own e4 hg (fun r e => (hr r e).2), boxed_own e5 hg (fun r e => (hr r e).2)⟩, fun D hD => (hg.block D (Array.getElem?_eq_some_iff.1 (hs.2.2 D hD)).1 (fun e => by have h1 := (hr D e.symm).1; have h2 := HDL.out D hD; omega)).trans (hs.2.2 D hD)⟩) (ownFrom_below (Nat.le_refl _) hle5))
            ⟨⟨(fun x hx => by cases hx), ⟨boxed_below HSR.out.1 HW5.out HSR.out.1.lt, boxed_below HSR.out.2.1 HW5.out HSR.out.2.1.lt, HSR.out.2.2.1.keep HW5.out HSR.out.2.2.1.lt, boxed_below HSR.out.2.2.2.1 HW5.out HSR.out.2.2.2.1.lt, boxed_below HSR.out.2.2.2.2 HW5.out HSR.out.2.2.2.2.lt⟩, H9.out, fun D hD => (HW5.out.block D (Array.getElem?_eq_some_iff.1 (HM.out.2 D hD).2).1).trans (HM.out.2 D hD).2⟩, HB5.out⟩
            (fun x a' W => ∃ Bs, w.heap.size ≤ Bs ∧ a' = { tmps := (.slice a L.length cap :: .int .i64 len :: undef :: undef :: .int .i64 0 :: .int .i64 0 :: .pointer (some ⟨B6, 0, none⟩) :: .pointer (some ⟨B6 + 1, 0, none⟩) :: u8 :: .pointer (some ⟨B9, 0, none⟩) :: .int .i64 (x.1 : Nat) :: .pointer (some ⟨Bs, 0, none⟩) :: .slice a L.length cap :: .int .i64 (L.length : Int) :: .bool (decide ((64 : Int) < (L.length : Int))) :: .int .i64 len :: .bool true :: .bool false :: .slice a L.length cap :: .int .i64 (L.length : Int) :: .slice a L.length cap :: .int .i64 len :: .slice (some ⟨FB, 0, none⟩) 3 3 :: .int .i64 3 :: .int .i64 0 :: .bool true :: .pointer (some ⟨FB, 0, none⟩) :: .func (.func 65) #[] #[] :: .slice a L.length cap :: .func (.func 69) #[] #[.pointer (some ⟨B9 + 1, 0, none⟩)] :: .int .i64 (x.1 : Nat) :: (L[x.1]'x.2).v :: u32 :: u33 :: u34 :: u35 :: u36 :: u37 :: u38 :: u39 :: u40 :: u41 :: []).toArray, defers := [] } ∧ Blk W Bs 30 (L[x.1]'x.2).C)
            (fun x a' => Own.from (fun s A B row hs hg hr => by obtain ⟨B, e1, e2, e3⟩ := hs; exact ⟨B, e1, e2, blk_own e3 hg hr⟩) _) ?assign0 ?body0 ?done0 ?stop0
          case assign0 =>
            intro l pre x W K hI hK
            unfold Sm.v at hK ⊢
            have HIP := Lib.hid hI; have HKP := Lib.hid hK
            clear hI hK
            gi_wp2
            have hba := (Below.refl W.heap.size W).alloc (Nat.le_refl _) (.cells (L[x.1]'x.2).C.toArray 30)
            obtain ⟨⟨e1, ⟨e2, e3, e4, e5, e6⟩, e7, e8⟩, e9⟩ := HIP.out
            refine HKP.out _ _ ((KeepsOthers.alloc _ _).from _) ((Below.refl _ W).alloc e9.size _) ⟨⟨e1, ⟨e2.alloc _, e3.alloc _, e4.keep hba e4.lt, e5.alloc _, e6.alloc _⟩, e7.alloc _, fun D hD => (hba.block D (Array.getElem?_eq_some_iff.1 (e8 D hD)).1).trans (e8 D hD)⟩, e9.alloc e9.size _⟩ ⟨W.heap.size, e9.size, rfl, Blk.new W 30 (L[x.1]'x.2).C⟩
          case body0 =>
            rintro l pre x a' W _ _ ⟨⟨hno2, ⟨s6, s7, sF, sL, sN⟩, s9, hD⟩, hBB⟩ ⟨Bs, hBs, rfl, hBk⟩ _
            obtain ⟨y, hy⟩ : ∃ y, y = (L[x.1]'x.2) := ⟨_, rfl⟩
            rw [← hy] at hBk ⊢
            have hc : Calls Tryd.prog 65 (#[.int .i64 (x.1 : Nat), y.v] ++ #[]) W fun y2 w' => y2 = .returned (.int .i64 y.right) ∧ Below W.heap.size W w' := fl1_any (x.1 : Nat) y W
            have hev : flB L len 0 x.1 = y.right := by show (L.getD x.1 sm0).right = _; rw [getD_at x.2, ← hy]
            obtain ⟨e, he⟩ : ∃ e : Int, e = y.right := ⟨_, rfl⟩
            rw [← he] at hc hev
            have q9 := s9.cell
            have p0 : W.cell? ⟨Bs, 0, none⟩ = some (.int .i64 y.i) := hBk.cellAt (i := 0) (by simp [Sm.C])
            have p1 : W.cell? ⟨Bs, 1, none⟩ = some (.int .i64 y.n) := hBk.cellAt (i := 1) (by simp [Sm.C])
            have p2 : W.cell? ⟨Bs, 2, none⟩ = some (.int .i64 y.c) := hBk.cellAt (i := 2) (by simp [Sm.C])
            have p3 : W.cell? ⟨Bs, 3, none⟩ = some (.int .i64 y.p) := hBk.cellAt (i := 3) (by simp [Sm.C])
            have p4 : W.cell? ⟨Bs, 4, none⟩ = some (.int .i64 y.d) := hBk.cellAt (i := 4) (by simp [Sm.C])
            have p5 : W.cell? ⟨Bs, 5, none⟩ = some (.int .i64 y.s) := hBk.cellAt (i := 5) (by simp [Sm.C])
            have p6 : W.cell? ⟨Bs, 6, none⟩ = some (.int .i64 y.b) := hBk.cellAt (i := 6) (by simp [Sm.C])
            unfold Sm.v at hc ⊢
            have HC := Lib.hid hc; have HE := Lib.hid hev; have HNP := Lib.hid hno2
            have S6 := Lib.hid s6; have S7 := Lib.hid s7; have SF := Lib.hid sF; have SL_ := Lib.hid sL; have SN := Lib.hid sN; have S9 := Lib.hid s9; have HDD := Lib.hid hD; have HBW := Lib.hid hBB
            clear hc hev hno2 s6 s7 sF sL sN s9 hD hBB hBk hy he hBs
            by_cases h0 : e = 0
            · subst h0
              gi_wp2_with (fail)
              refine ⟨trivial, (fun h => by cases h), ?_⟩
              refine (CallsIn.inRound l (callsIn_wide.2 HC.out)).mono ?_
              rintro y2 w2 ⟨rfl, hb⟩
              have HB2 := Lib.hid hb
              have t6 := boxed_below S6.out hb S6.out.lt; have t7 := boxed_below S7.out hb S7.out.lt
              have T6 := Lib.hid t6; have T7 := Lib.hid t7
              have c6 := t6.cell; have g6 := t6.frozen; have c7 := t7.cell; have g7 := t7.frozen
              clear hb q9 p0 p1 p2 p3 p4 p5 p6 t6 t7
              gi_wp2
              have hk := keeps_below HB2.out
              exact ⟨(hk.trans (KeepsOthers.setCell _ _ _)).from _, (HB2.out.mono HBW.out.size).trans ((Below.refl w.heap.size w2).setCell (p := ⟨B6 + 1, 0, none⟩) (Nat.le_succ_of_le HB6.out) _), ⟨fun z hz => (List.mem_append.1 hz).elim (HNP.out z) (fun e => by have e2 : z = x := (by simpa using e); subst e2; exact HE.out), ⟨boxed_far T6.out (by omega) _, T7.out.set _, (SF.out.keep HB2.out SF.out.lt).puts (blk_neT S7.out SF.out (by decide)) 0 _, boxed_far (boxed_below SL_.out HB2.out SL_.out.lt) (blk_neT S7.out SL_.out (by decide)) _, boxed_far (boxed_below SN.out HB2.out SN.out.lt) (blk_neT S7.out SN.out (by decide)) _⟩, boxed_far (boxed_below S9.out HB2.out S9.out.lt) (blk_neT S7.out S9.out (by decide)) _, fun D hD => (hk.trans (KeepsOthers.setCell _ _ _)).same D _ (HDD.out D hD) rfl⟩, (below_transG HBW.out HB2.out).setCell (p := ⟨B6 + 1, 0, none⟩) (Nat.le_succ_of_le HB6.out) _⟩
            · have k0 : (e == 0) = false := by rw [beq_eq_false_iff_ne]; exact h0
              have HNE := Lib.hid (show flB L len 0 x.1 ≠ 0 by rw [HE.out]; exact h0)
              clear h0
              gi_wp2_with (fail)
              refine ⟨trivial, (fun h => by cases h), ?_⟩
              refine (CallsIn.inRound l (callsIn_wide.2 HC.out)).mono ?_
              rintro y2 w2 ⟨rfl, hb⟩
              have HB2 := Lib.hid hb
              have t6 := boxed_below S6.out hb S6.out.lt; have t7 := boxed_below S7.out hb S7.out.lt
              have T6 := Lib.hid t6; have T7 := Lib.hid t7
              have c6 := t6.cell; have g6 := t6.frozen; have c7 := t7.cell; have g7 := t7.frozen
              clear hb q9 p0 p1 p2 p3 p4 p5 p6 t6 t7
              gi_wp2
              have hk := keeps_below HB2.out
              exact ⟨((hk.trans (KeepsOthers.setCell _ _ _)).trans (KeepsOthers.setCell _ _ _)).from _, ⟨rfl, ⟨pre, x, rfl, HNP.out, HNE.out, (boxed_far T6.out (by omega) _).set _, by rw [HE.out]; exact boxed_far (T7.out.set _) (by omega) _⟩, fun D hD => ((hk.trans (KeepsOthers.setCell _ _ _)).trans (KeepsOthers.setCell _ _ _)).same D _ (HDD.out D hD) rfl⟩, ((below_transG HBW.out HB2.out).setCell (p := ⟨B6 + 1, 0, none⟩) (Nat.le_succ_of_le HB6.out) _).setCell (p := ⟨B6, 0, none⟩) HB6.out _⟩
          case done0 =>
            rintro D ys W hDz hys ⟨⟨hno2, hS2, _, hD2⟩, hBB⟩ hK
            have HN2 := Lib.hid (fls_of hys hno2); have HS2 := Lib.hid hS2; have HD2 := Lib.hid hD2; have HBB := Lib.hid hBB; have HK := Lib.hid hK; have HDZ := Lib.hid hDz
            clear hno2 hS2 hD2 hBB hK hDz hys
            gi_wp2
            refine ⟨⟨0 + 1, D :: Ds, _, _, _, _, _, _, _, _, _, _, _, _, _, _, _, _, _, _, _, _, _, rfl, by omega, fun p hp i hi => ?_, HS2.out, ⟨List.nodup_cons.2 ⟨fun hm => by have h1 := HDL.out D hm; have h2 := HDZ.out; omega, HM.out.1⟩, fun D' hD' => ?_⟩, HBB.out⟩, ?_⟩
            · by_cases hpq : p < 0
              · exact HNO.out p hpq i hi
              · obtain rfl : p = 0 := by omega
                exact HN2.out i hi
            · rcases List.mem_cons.1 hD' with rfl | hD'
              · exact ⟨Nat.le_trans hle5 HDZ.out, HK.out⟩
              · exact ⟨(HM.out.2 D' hD').1, HD2.out D' hD'⟩
            · simp [intOf]
          case stop0 =>
            rintro D c pre W hDz ⟨k, hk, hcame⟩ ⟨⟨rfl, ⟨p0, x, rfl, h0s, hx, c6, c7⟩, hD2⟩, hBB⟩ hK
            have hF : V0 = ((x.1 : Nat) : Int) ∧ V1 = flB L len 0 x.1 := by
              have e0 := HV2.out
              obtain ⟨ex, hc0⟩ := came_last hcame
              rw [chk_at (q := 0) (x := x.1) (by omega) x.2 hx (fun i hi => fls_of hc0 h0s i (by omega)) (fun p hp i hi => HNO.out p hp i hi)] at e0
              injection e0 with e1 e2
              exact ⟨e1, e2⟩
            have HF := Lib.hid hF; have HE6 := Lib.hid c6; have HE7 := Lib.hid c7; have HBE := Lib.hid hBB
            have HME := Lib.hid (show Marks w.heap.size W (D :: Ds) from ⟨List.nodup_cons.2 ⟨fun hm => by have h1 := HDL.out D hm; have h2 := hDz; omega, HM.out.1⟩, fun D' hD' => by
              rcases List.mem_cons.1 hD' with rfl | hD'
              · exact ⟨Nat.le_trans hle5 hDz, hK⟩
              · exact ⟨(HM.out.2 D' hD').1, hD2 D' hD'⟩⟩)
            clear hF c6 c7 hBB hD2 hK hDz hcame h0s hx hk
            gi_wp2
            refine wpIn_wide.2 (wp_region_class (C := fun u => u.cell? ⟨B6, 0, none⟩ = some (.int .i64 ((x.1 : Nat) : Int)) ∧ u.cell? ⟨B6 + 1, 0, none⟩ = some (.int .i64 (flB L len 0 x.1)) ∧ Below W.heap.size W u) (by kernel_rfl) (by kernel_rfl) ⟨HE6.out.cell, HE7.out.cell, (Below.refl _ _).drew⟩ ?_)
            repeat
              with_reducible refine wpQuiet_step (fun K hK => ?_)
              first
                | (refine quiet_skip (by rfl) ?_; (with_reducible refine hK _ ?_); clear hK K)
                | (refine quiet_want (by rfl) ?_
                   apply Exists.intro
                   refine ⟨fun x hx => ?_, hK _ ?_⟩
                   (obtain ⟨hx1, hx2, hx3⟩ := id hx; go_simp; first | done | rfl | (fail))
                   clear hK K)
              try simp only [Act.put, List.setIfInBounds_toArray, List.set_cons_zero, List.set_cons_succ]
            with_reducible refine wpQuiet_nil ?_
            intro wq hq
            obtain ⟨_, _, hb5⟩ := hq
            gi_wp2
            refine ret_marks w.heap.size (fun X => Below w.heap.size w X) (D :: Ds) (fun X E hq hE hK2 => hq.trans (belowK_b (w := w) (Nat.le_refl _) X E _ _ hE hK2 rfl rfl)) (fun X hq => ?_) (below_transG HBE.out hb5) (marks_below HME.out hb5)
            exact ⟨.tuple #[.int .i64 ((x.1 : Nat) : Int), .int .i64 (flB L len 0 x.1)], by simp [results, Tryd.f12, go_sem], by rw [HF.out.1, HF.out.2], hq⟩
        · have fq : wr.cell? ⟨FB, 1, none⟩ = some (.func (.func 66) #[] #[.pointer (some ⟨LB, 0, none⟩)]) := HSR.out.2.2.1.cellAt (i := 1) (by simp)
          gi_wp2_with (fail)
          refine ⟨trivial, ?_⟩
          refine (placed_in (n - 1) _ _ _ _).mono ?_
          rintro e w' ⟨rfl, rfl⟩
          clear fq
          obtain ⟨B9, hB9⟩ : ∃ B, B = wr.heap.size := ⟨_, rfl⟩
          obtain ⟨W5, hW5⟩ : ∃ W, W = (wr.alloc (.cells #[.func (.func 66) #[] #[.pointer (some ⟨LB, 0, none⟩)]] 62)).alloc (.cells #[.slice a L.length cap] 22) := ⟨_, rfl⟩
          have h9 : Boxed W5 B9 62 (.func (.func 66) #[] #[.pointer (some ⟨LB, 0, none⟩)]) := by rw [hW5, hB9]; exact (Boxed.new _ _ _).alloc _
          have h10 : Boxed W5 (B9 + 1) 22 (.slice a L.length cap) := by
            rw [hW5, hB9]
            have := Boxed.new (wr.alloc (.cells #[.func (.func 66) #[] #[.pointer (some ⟨LB, 0, none⟩)]] 62)) 22 (.slice a L.length cap)
            rw [World.size_alloc] at this
            exact this
          have hw5 : Below wr.heap.size wr W5 := by rw [hW5]; exact ((Below.refl _ wr).alloc (Nat.le_refl _) _).alloc (by simp) _
          have hsz5 : W5.heap.size = B9 + 2 := by rw [hW5, hB9]; simp
          have H9 := Lib.hid h9; have HW5 := Lib.hid hw5
          have HB5 := Lib.hid (below_transG HB.out hw5)
          have hle5 : w.heap.size ≤ W5.heap.size := HB5.out.size
          have hDl : ∀ D ∈ Ds, D < W5.heap.size := fun D hD => Nat.lt_of_lt_of_le (Array.getElem?_eq_some_iff.1 (HM.out.2 D hD).2).1 hw5.size
          have HDL := Lib.hid hDl
          try simp only [World.size_alloc]
          rw [← hW5, ← hB9]
          have HSZ := Lib.hid hsz5
          clear hW5 hw5 hDl hsz5 hB9
          gi_wp2_with (fail)
          refine wpIn_rangeFunc_ownH rfl h1 (gf := 69) (lb := #[.pointer (some ⟨B9 + 1, 0, none⟩)]) rfl trivial (enters_of Tryd.func69 (by kernel_rfl) rfl)
            (placed_stops (n - 1) (by omega) (B9 + 1) w.heap.size _ L hreach W5 (by rw [HSZ.out]; omega) hle5 h10.cell (HI.out.below HB5.out)) belowK_t (belowK_b hle5) (Below.refl _ _) (fun _ => rfl)
            (fun pre W => ((∀ y ∈ pre, flB L len 1 y.1 = 0) ∧ (Boxed W B6 3 (.int .i64 (L.length : Int)) ∧ Boxed W (B6 + 1) 24 (.int .i64 0) ∧ Blk W FB 62 [.func (.func 65) #[] #[], .func (.func 66) #[] #[.pointer (some ⟨LB, 0, none⟩)], .func (.func 68) #[] #[.pointer (some ⟨LB + 1, 0, none⟩)]] ∧ Boxed W LB 22 (.slice a L.length cap) ∧ Boxed W (LB + 1) 2 (.int .i64 len)) ∧ Boxed W B9 62 (.func (.func 66) #[] #[.pointer (some ⟨LB, 0, none⟩)]) ∧ ∀ D ∈ Ds, W.heap[D]? = some (.deferred (some []))) ∧ Below w.heap.size w W)
            (fun c pre W => (c = .exit 0 ∧ (∃ p0 x, pre = p0 ++ [x] ∧ (∀ y ∈ p0, flB L len 1 y.1 = 0) ∧ flB L len 1 x.1 ≠ 0 ∧ Boxed W B6 3 (.int .i64 (x.1 : Nat)) ∧ Boxed W (B6 + 1) 24 (.int .i64 (flB L len 1 x.1))) ∧ ∀ D ∈ Ds, W.heap[D]? = some (.deferred (some []))) ∧ Below w.heap.size w W)
            (OwnFrom.and (fun s A B row hs hg hr => ⟨hs.1, ⟨boxed_own hs.2.1.1 hg (fun r e => (hr r e).2), boxed_own hs.2.1.2.1 hg (fun r e => (hr r e).2), blk_own hs.2.1.2.2.1 hg (fun r e => (hr r e).2), boxed_own hs.2.1.2.2.2.1 hg (fun r e => (hr r e).2), boxed_own hs.2.1.2.2.2.2 hg (fun r e => (hr r e).2)⟩, boxed_own hs.2.2.1 hg (fun r e => (hr r e).2), fun D hD => (hg.block D (Array.getElem?_eq_some_iff.1 (hs.2.2.2 D hD)).1 (fun e => by have h1 := (hr D e.symm).1; have h2 := HDL.out D hD; omega)).trans (hs.2.2.2 D hD)⟩) (ownFrom_below (Nat.le_refl _) hle5))
            (fun c => OwnFrom.and (fun s A B row hs hg hr => ⟨hs.1, by obtain ⟨p0, x, e1, e2, e3, e4, e5⟩ := hs.2.1; exact ⟨p0, x, e1, e2, e3, boxed_own e4 hg (fun r e => (hr r e).2), boxed_own e5 hg (fun r e => (hr r e).2)⟩, fun D hD => (hg.block D (Array.getElem?_eq_some_iff.1 (hs.2.2 D hD)).1 (fun e => by have h1 := (hr D e.symm).1; have h2 := HDL.out D hD; omega)).trans (hs.2.2 D hD)⟩) (ownFrom_below (Nat.le_refl _) hle5))
            ⟨⟨(fun x hx => by cases hx), ⟨boxed_below HSR.out.1 HW5.out HSR.out.1.lt, boxed_below HSR.out.2.1 HW5.out HSR.out.2.1.lt, HSR.out.2.2.1.keep HW5.out HSR.out.2.2.1.lt, boxed_below HSR.out.2.2.2.1 HW5.out HSR.out.2.2.2.1.lt, boxed_below HSR.out.2.2.2.2 HW5.out HSR.out.2.2.2.2.lt⟩, H9.out, fun D hD => (HW5.out.block D (Array.getElem?_eq_some_iff.1 (HM.out.2 D hD).2).1).trans (HM.out.2 D hD).2⟩, HB5.out⟩
            (fun x a' W => ∃ Bs, w.heap.size ≤ Bs ∧ a' = { tmps := (.slice a L.length cap :: .int .i64 len :: undef :: undef :: .int .i64 0 :: .int .i64 0 :: .pointer (some ⟨B6, 0, none⟩) :: .pointer (some ⟨B6 + 1, 0, none⟩) :: u8 :: .pointer (some ⟨B9, 0, none⟩) :: .int .i64 (x.1 : Nat) :: .pointer (some ⟨Bs, 0, none⟩) :: .slice a L.length cap :: .int .i64 (L.length : Int) :: .bool (decide ((64 : Int) < (L.length : Int))) :: .int .i64 len :: .bool true :: .bool false :: .slice a L.length cap :: .int .i64 (L.length : Int) :: .slice a L.length cap :: .int .i64 len :: .slice (some ⟨FB, 0, none⟩) 3 3 :: .int .i64 3 :: .int .i64 1 :: .bool true :: .pointer (some ⟨FB, 1, none⟩) :: .func (.func 66) #[] #[.pointer (some ⟨LB, 0, none⟩)] :: .slice a L.length cap :: .func (.func 69) #[] #[.pointer (some ⟨B9 + 1, 0, none⟩)] :: .int .i64 (x.1 : Nat) :: (L[x.1]'x.2).v :: u32 :: u33 :: u34 :: u35 :: u36 :: u37 :: u38 :: u39 :: u40 :: u41 :: []).toArray, defers := [] } ∧ Blk W Bs 30 (L[x.1]'x.2).C)
            (fun x a' => Own.from (fun s A B row hs hg hr => by obtain ⟨B, e1, e2, e3⟩ := hs; exact ⟨B, e1, e2, blk_own e3 hg hr⟩) _) ?assign1 ?body1 ?done1 ?stop1
          case assign1 =>
            intro l pre x W K hI hK
            unfold Sm.v at hK ⊢
            have HIP := Lib.hid hI; have HKP := Lib.hid hK
            clear hI hK
            gi_wp2
            have hba := (Below.refl W.heap.size W).alloc (Nat.le_refl _) (.cells (L[x.1]'x.2).C.toArray 30)
            obtain ⟨⟨e1, ⟨e2, e3, e4, e5, e6⟩, e7, e8⟩, e9⟩ := HIP.out
            refine HKP.out _ _ ((KeepsOthers.alloc _ _).from _) ((Below.refl _ W).alloc e9.size _) ⟨⟨e1, ⟨e2.alloc _, e3.alloc _, e4.keep hba e4.lt, e5.alloc _, e6.alloc _⟩, e7.alloc _, fun D hD => (hba.block D (Array.getElem?_eq_some_iff.1 (e8 D hD)).1).trans (e8 D hD)⟩, e9.alloc e9.size _⟩ ⟨W.heap.size, e9.size, rfl, Blk.new W 30 (L[x.1]'x.2).C⟩
          case body1 =>
            rintro l pre x a' W _ _ ⟨⟨hno2, ⟨s6, s7, sF, sL, sN⟩, s9, hD⟩, hBB⟩ ⟨Bs, hBs, rfl, hBk⟩ _
            obtain ⟨y, hy⟩ : ∃ y, y = (L[x.1]'x.2) := ⟨_, rfl⟩
            rw [← hy] at hBk ⊢
            have hc : Calls Tryd.prog 66 (#[.int .i64 (x.1 : Nat), y.v] ++ #[.pointer (some ⟨LB, 0, none⟩)]) W fun y2 w' => y2 = .returned (.int .i64 (if findI L y.i < ((x.1 : Nat) : Int) then 13 else 0)) ∧ Below W.heap.size W w' := fl2_any (x.1 : Nat) y LB a L.length cap L hreach W sL ((HI.out.below hBB).mono hBB.size)
            have hev : flB L len 1 x.1 = (if findI L y.i < ((x.1 : Nat) : Int) then 13 else 0) := by show (if findI L (L.getD x.1 sm0).i < ((x.1 : Nat) : Int) then (13 : Int) else 0) = _; rw [getD_at x.2, ← hy]
            obtain ⟨e, he⟩ : ∃ e : Int, e = (if findI L y.i < ((x.1 : Nat) : Int) then 13 else 0) := ⟨_, rfl⟩
            rw [← he] at hc hev
            have q9 := s9.cell
            have p0 : W.cell? ⟨Bs, 0, none⟩ = some (.int .i64 y.i) := hBk.cellAt (i := 0) (by simp [Sm.C])
            have p1 : W.cell? ⟨Bs, 1, none⟩ = some (.int .i64 y.n) := hBk.cellAt (i := 1) (by simp [Sm.C])
            have p2 : W.cell? ⟨Bs, 2, none⟩ = some (.int .i64 y.c) := hBk.cellAt (i := 2) (by simp [Sm.C])
            have p3 : W.cell? ⟨Bs, 3, none⟩ = some (.int .i64 y.p) := hBk.cellAt (i := 3) (by simp [Sm.C])
            have p4 : W.cell? ⟨Bs, 4, none⟩ = some (.int .i64 y.d) := hBk.cellAt (i := 4) (by simp [Sm.C])
            have p5 : W.cell? ⟨Bs, 5, none⟩ = some (.int .i64 y.s) := hBk.cellAt (i := 5) (by simp [Sm.C])
            have p6 : W.cell? ⟨Bs, 6, none⟩ = some (.int .i64 y.b) := hBk.cellAt (i := 6) (by simp [Sm.C])
            unfold Sm.v at hc ⊢
            have HC := Lib.hid hc; have HE := Lib.hid hev; have HNP := Lib.hid hno2
            have S6 := Lib.hid s6; have S7 := Lib.hid s7; have SF := Lib.hid sF; have SL_ := Lib.hid sL; have SN := Lib.hid sN; have S9 := Lib.hid s9; have HDD := Lib.hid hD; have HBW := Lib.hid hBB
            clear hc hev hno2 s6 s7 sF sL sN s9 hD hBB hBk hy he hBs
            by_cases h0 : e = 0
            · subst h0
              gi_wp2_with (fail)
              refine ⟨trivial, (fun h => by cases h), ?_⟩
              refine (CallsIn.inRound l (callsIn_wide.2 HC.out)).mono ?_
              rintro y2 w2 ⟨rfl, hb⟩
              have HB2 := Lib.hid hb
              have t6 := boxed_below S6.out hb S6.out.lt; have t7 := boxed_below S7.out hb S7.out.lt
              have T6 := Lib.hid t6; have T7 := Lib.hid t7
              have c6 := t6.cell; have g6 := t6.frozen; have c7 := t7.cell; have g7 := t7.frozen
              clear hb q9 p0 p1 p2 p3 p4 p5 p6 t6 t7
              gi_wp2
              have hk := keeps_below HB2.out
              exact ⟨(hk.trans (KeepsOthers.setCell _ _ _)).from _, (HB2.out.mono HBW.out.size).trans ((Below.refl w.heap.size w2).setCell (p := ⟨B6 + 1, 0, none⟩) (Nat.le_succ_of_le HB6.out) _), ⟨fun z hz => (List.mem_append.1 hz).elim (HNP.out z) (fun e => by have e2 : z = x := (by simpa using e); subst e2; exact HE.out), ⟨boxed_far T6.out (by omega) _, T7.out.set _, (SF.out.keep HB2.out SF.out.lt).puts (blk_neT S7.out SF.out (by decide)) 0 _, boxed_far (boxed_below SL_.out HB2.out SL_.out.lt) (blk_neT S7.out SL_.out (by decide)) _, boxed_far (boxed_below SN.out HB2.out SN.out.lt) (blk_neT S7.out SN.out (by decide)) _⟩, boxed_far (boxed_below S9.out HB2.out S9.out.lt) (blk_neT S7.out S9.out (by decide)) _, fun D hD => (hk.trans (KeepsOthers.setCell _ _ _)).same D _ (HDD.out D hD) rfl⟩, (below_transG HBW.out HB2.out).setCell (p := ⟨B6 + 1, 0, none⟩) (Nat.le_succ_of_le HB6.out) _⟩
            · have k0 : (e == 0) = false := by rw [beq_eq_false_iff_ne]; exact h0
              have HNE := Lib.hid (show flB L len 1 x.1 ≠ 0 by rw [HE.out]; exact h0)
              clear h0
              gi_wp2_with (fail)
              refine ⟨trivial, (fun h => by cases h), ?_⟩
              refine (CallsIn.inRound l (callsIn_wide.2 HC.out)).mono ?_
              rintro y2 w2 ⟨rfl, hb⟩
              have HB2 := Lib.hid hb
              have t6 := boxed_below S6.out hb S6.out.lt; have t7 := boxed_below S7.out hb S7.out.lt
              have T6 := Lib.hid t6; have T7 := Lib.hid t7
              have c6 := t6.cell; have g6 := t6.frozen; have c7 := t7.cell; have g7 := t7.frozen
              clear hb q9 p0 p1 p2 p3 p4 p5 p6 t6 t7
              gi_wp2
              have hk := keeps_below HB2.out
              exact ⟨((hk.trans (KeepsOthers.setCell _ _ _)).trans (KeepsOthers.setCell _ _ _)).from _, ⟨rfl, ⟨pre, x, rfl, HNP.out, HNE.out, (boxed_far T6.out (by omega) _).set _, by rw [HE.out]; exact boxed_far (T7.out.set _) (by omega) _⟩, fun D hD => ((hk.trans (KeepsOthers.setCell _ _ _)).trans (KeepsOthers.setCell _ _ _)).same D _ (HDD.out D hD) rfl⟩, ((below_transG HBW.out HB2.out).setCell (p := ⟨B6 + 1, 0, none⟩) (Nat.le_succ_of_le HB6.out) _).setCell (p := ⟨B6, 0, none⟩) HB6.out _⟩
          case done1 =>
            rintro D ys W hDz hys ⟨⟨hno2, hS2, _, hD2⟩, hBB⟩ hK
            have HN2 := Lib.hid (fls_of hys hno2); have HS2 := Lib.hid hS2; have HD2 := Lib.hid hD2; have HBB := Lib.hid hBB; have HK := Lib.hid hK; have HDZ := Lib.hid hDz
            clear hno2 hS2 hD2 hBB hK hDz hys
            gi_wp2
            refine ⟨⟨1 + 1, D :: Ds, _, _, _, _, _, _, _, _, _, _, _, _, _, _, _, _, _, _, _, _, _, rfl, by omega, fun p hp i hi => ?_, HS2.out, ⟨List.nodup_cons.2 ⟨fun hm => by have h1 := HDL.out D hm; have h2 := HDZ.out; omega, HM.out.1⟩, fun D' hD' => ?_⟩, HBB.out⟩, ?_⟩
            · by_cases hpq : p < 1
              · exact HNO.out p hpq i hi
              · obtain rfl : p = 1 := by omega
                exact HN2.out i hi
            · rcases List.mem_cons.1 hD' with rfl | hD'
              · exact ⟨Nat.le_trans hle5 HDZ.out, HK.out⟩
              · exact ⟨(HM.out.2 D' hD').1, HD2.out D' hD'⟩
            · simp [intOf]
          case stop1 =>
            rintro D c pre W hDz ⟨k, hk, hcame⟩ ⟨⟨rfl, ⟨p0, x, rfl, h0s, hx, c6, c7⟩, hD2⟩, hBB⟩ hK
            have hF : V0 = ((x.1 : Nat) : Int) ∧ V1 = flB L len 1 x.1 := by
              have e0 := HV2.out
              obtain ⟨ex, hc0⟩ := came_last hcame
              rw [chk_at (q := 1) (x := x.1) (by omega) x.2 hx (fun i hi => fls_of hc0 h0s i (by omega)) (fun p hp i hi => HNO.out p hp i hi)] at e0
              injection e0 with e1 e2
              exact ⟨e1, e2⟩
            have HF := Lib.hid hF; have HE6 := Lib.hid c6; have HE7 := Lib.hid c7; have HBE := Lib.hid hBB
            have HME := Lib.hid (show Marks w.heap.size W (D :: Ds) from ⟨List.nodup_cons.2 ⟨fun hm => by have h1 := HDL.out D hm; have h2 := hDz; omega, HM.out.1⟩, fun D' hD' => by
              rcases List.mem_cons.1 hD' with rfl | hD'
              · exact ⟨Nat.le_trans hle5 hDz, hK⟩
              · exact ⟨(HM.out.2 D' hD').1, hD2 D' hD'⟩⟩)
            clear hF c6 c7 hBB hD2 hK hDz hcame h0s hx hk
            gi_wp2
            refine wpIn_wide.2 (wp_region_class (C := fun u => u.cell? ⟨B6, 0, none⟩ = some (.int .i64 ((x.1 : Nat) : Int)) ∧ u.cell? ⟨B6 + 1, 0, none⟩ = some (.int .i64 (flB L len 1 x.1)) ∧ Below W.heap.size W u) (by kernel_rfl) (by kernel_rfl) ⟨HE6.out.cell, HE7.out.cell, (Below.refl _ _).drew⟩ ?_)
            repeat
              with_reducible refine wpQuiet_step (fun K hK => ?_)
              first
                | (refine quiet_skip (by rfl) ?_; (with_reducible refine hK _ ?_); clear hK K)
                | (refine quiet_want (by rfl) ?_
                   apply Exists.intro
                   refine ⟨fun x hx => ?_, hK _ ?_⟩
                   (obtain ⟨hx1, hx2, hx3⟩ := id hx; go_simp; first | done | rfl | (fail))
                   clear hK K)
              try simp only [Act.put, List.setIfInBounds_toArray, List.set_cons_zero, List.set_cons_succ]
            with_reducible refine wpQuiet_nil ?_
            intro wq hq
            obtain ⟨_, _, hb5⟩ := hq
            gi_wp2
            refine ret_marks w.heap.size (fun X => Below w.heap.size w X) (D :: Ds) (fun X E hq hE hK2 => hq.trans (belowK_b (w := w) (Nat.le_refl _) X E _ _ hE hK2 rfl rfl)) (fun X hq => ?_) (below_transG HBE.out hb5) (marks_below HME.out hb5)
            exact ⟨.tuple #[.int .i64 ((x.1 : Nat) : Int), .int .i64 (flB L len 1 x.1)], by simp [results, Tryd.f12, go_sem], by rw [HF.out.1, HF.out.2], hq⟩
        · have fq : wr.cell? ⟨FB, 2, none⟩ = some (.func (.func 68) #[] #[.pointer (some ⟨LB + 1, 0, none⟩)]) := HSR.out.2.2.1.cellAt (i := 2) (by simp)
          gi_wp2_with (fail)
          refine ⟨trivial, ?_⟩
          refine (placed_in (n - 1) _ _ _ _).mono ?_
          rintro e w' ⟨rfl, rfl⟩
          clear fq
          obtain ⟨B9, hB9⟩ : ∃ B, B = wr.heap.size := ⟨_, rfl⟩
          obtain ⟨W5, hW5⟩ : ∃ W, W = (wr.alloc (.cells #[.func (.func 68) #[] #[.pointer (some ⟨LB + 1, 0, none⟩)]] 62)).alloc (.cells #[.slice a L.length cap] 22) := ⟨_, rfl⟩
          have h9 : Boxed W5 B9 62 (.func (.func 68) #[] #[.pointer (some ⟨LB + 1, 0, none⟩)]) := by rw [hW5, hB9]; exact (Boxed.new _ _ _).alloc _
          have h10 : Boxed W5 (B9 + 1) 22 (.slice a L.length cap) := by
            rw [hW5, hB9]
            have := Boxed.new (wr.alloc (.cells #[.func (.func 68) #[] #[.pointer (some ⟨LB + 1, 0, none⟩)]] 62)) 22 (.slice a L.length cap)
            rw [World.size_alloc] at this
            exact this
          have hw5 : Below wr.heap.size wr W5 := by rw [hW5]; exact ((Below.refl _ wr).alloc (Nat.le_refl _) _).alloc (by simp) _
          have hsz5 : W5.heap.size = B9 + 2 := by rw [hW5, hB9]; simp
          have H9 := Lib.hid h9; have HW5 := Lib.hid hw5
          have HB5 := Lib.hid (below_transG HB.out hw5)
          have hle5 : w.heap.size ≤ W5.heap.size := HB5.out.size
          have hDl : ∀ D ∈ Ds, D < W5.heap.size := fun D hD => Nat.lt_of_lt_of_le (Array.getElem?_eq_some_iff.1 (HM.out.2 D hD).2).1 hw5.size
          have HDL := Lib.hid hDl
          try simp only [World.size_alloc]
          rw [← hW5, ← hB9]
          have HSZ := Lib.hid hsz5
          clear hW5 hw5 hDl hsz5 hB9
          gi_wp2_with (fail)
          refine wpIn_rangeFunc_ownH rfl h1 (gf := 69) (lb := #[.pointer (some ⟨B9 + 1, 0, none⟩)]) rfl trivial (enters_of Tryd.func69 (by kernel_rfl) rfl)
            (placed_stops (n - 1) (by omega) (B9 + 1) w.heap.size _ L hreach W5 (by rw [HSZ.out]; omega) hle5 h10.cell (HI.out.below HB5.out)) belowK_t (belowK_b hle5) (Below.refl _ _) (fun _ => rfl)
            (fun pre W => ((∀ y ∈ pre, flB L len 2 y.1 = 0) ∧ (Boxed W B6 3 (.int .i64 (L.length : Int)) ∧ Boxed W (B6 + 1) 24 (.int .i64 0) ∧ Blk W FB 62 [.func (.func 65) #[] #[], .func (.func 66) #[] #[.pointer (some ⟨LB, 0, none⟩)], .func (.func 68) #[] #[.pointer (some ⟨LB + 1, 0, none⟩)]] ∧ Boxed W LB 22 (.slice a L.length cap) ∧ Boxed W (LB + 1) 2 (.int .i64 len)) ∧ Boxed W B9 62 (.func (.func 68) #[] #[.pointer (some ⟨LB + 1, 0, none⟩)]) ∧ ∀ D ∈ Ds, W.heap[D]? = some (.deferred (some []))) ∧ Below w.heap.size w W)
            (fun c pre W => (c = .exit 0 ∧ (∃ p0 x, pre = p0 ++ [x] ∧ (∀ y ∈ p0, flB L len 2 y.1 = 0) ∧ flB L len 2 x.1 ≠ 0 ∧ Boxed W B6 3 (.int .i64 (x.1 : Nat)) ∧ Boxed W (B6 + 1) 24 (.int .i64 (flB L len 2 x.1))) ∧ ∀ D ∈ Ds, W.heap[D]? = some (.deferred (some []))) ∧ Below w.heap.size w W)
            (OwnFrom.and (fun s A B row hs hg hr => ⟨hs.1, ⟨boxed_own hs.2.1.1 hg (fun r e => (hr r e).2), boxed_own hs.2.1.2.1 hg (fun r e => (hr r e).2), blk_own hs.2.1.2.2.1 hg (fun r e => (hr r e).2), boxed_own hs.2.1.2.2.2.1 hg (fun r e => (hr r e).2), boxed_own hs.2.1.2.2.2.2 hg (fun r e => (hr r e).2)⟩, boxed_own hs.2.2.1 hg (fun r e => (hr r e).2), fun D hD => (hg.block D (Array.getElem?_eq_some_iff.1 (hs.2.2.2 D hD)).1 (fun e => by have h1 := (hr D e.symm).1; have h2 := HDL.out D hD; omega)).trans (hs.2.2.2 D hD)⟩) (ownFrom_below (Nat.le_refl _) hle5))
            (fun c => OwnFrom.and (fun s A B row hs hg hr => ⟨hs.1, by obtain ⟨p0, x, e1, e2, e3, e4, e5⟩ := hs.2.1; exact ⟨p0, x, e1, e2, e3, boxed_own e4 hg (fun r e => (hr r e).2), boxed_own e5 hg (fun r e => (hr r e).2)⟩, fun D hD => (hg.block D (Array.getElem?_eq_some_iff.1 (hs.2.2 D hD)).1 (fun e => by have h1 := (hr D e.symm).1; have h2 := HDL.out D hD; omega)).trans (hs.2.2 D hD)⟩) (ownFrom_below (Nat.le_refl _) hle5))
            ⟨⟨(fun x hx => by cases hx), ⟨boxed_below HSR.out.1 HW5.out HSR.out.1.lt, boxed_below HSR.out.2.1 HW5.out HSR.out.2.1.lt, HSR.out.2.2.1.keep HW5.out HSR.out.2.2.1.lt, boxed_below HSR.out.2.2.2.1 HW5.out HSR.out.2.2.2.1.lt, boxed_below HSR.out.2.2.2.2 HW5.out HSR.out.2.2.2.2.lt⟩, H9.out, fun D hD => (HW5.out.block D (Array.getElem?_eq_some_iff.1 (HM.out.2 D hD).2).1).trans (HM.out.2 D hD).2⟩, HB5.out⟩
            (fun x a' W => ∃ Bs, w.heap.size ≤ Bs ∧ a' = { tmps := (.slice a L.length cap :: .int .i64 len :: undef :: undef :: .int .i64 0 :: .int .i64 0 :: .pointer (some ⟨B6, 0, none⟩) :: .pointer (some ⟨B6 + 1, 0, none⟩) :: u8 :: .pointer (some ⟨B9, 0, none⟩) :: .int .i64 (x.1 : Nat) :: .pointer (some ⟨Bs, 0, none⟩) :: .slice a L.length cap :: .int .i64 (L.length : Int) :: .bool (decide ((64 : Int) < (L.length : Int))) :: .int .i64 len :: .bool true :: .bool false :: .slice a L.length cap :: .int .i64 (L.length : Int) :: .slice a L.length cap :: .int .i64 len :: .slice (some ⟨FB, 0, none⟩) 3 3 :: .int .i64 3 :: .int .i64 2 :: .bool true :: .pointer (some ⟨FB, 2, none⟩) :: .func (.func 68) #[] #[.pointer (some ⟨LB + 1, 0, none⟩)] :: .slice a L.length cap :: .func (.func 69) #[] #[.pointer (some ⟨B9 + 1, 0, none⟩)] :: .int .i64 (x.1 : Nat) :: (L[x.1]'x.2).v :: u32 :: u33 :: u34 :: u35 :: u36 :: u37 :: u38 :: u39 :: u40 :: u41 :: []).toArray, defers := [] } ∧ Blk W Bs 30 (L[x.1]'x.2).C)
            (fun x a' => Own.from (fun s A B row hs hg hr => by obtain ⟨B, e1, e2, e3⟩ := hs; exact ⟨B, e1, e2, blk_own e3 hg hr⟩) _) ?assign2 ?body2 ?done2 ?stop2
          case assign2 =>
            intro l pre x W K hI hK
            unfold Sm.v at hK ⊢
            have HIP := Lib.hid hI; have HKP := Lib.hid hK
            clear hI hK
            gi_wp2
            have hba := (Below.refl W.heap.size W).alloc (Nat.le_refl _) (.cells (L[x.1]'x.2).C.toArray 30)
            obtain ⟨⟨e1, ⟨e2, e3, e4, e5, e6⟩, e7, e8⟩, e9⟩ := HIP.out
            refine HKP.out _ _ ((KeepsOthers.alloc _ _).from _) ((Below.refl _ W).alloc e9.size _) ⟨⟨e1, ⟨e2.alloc _, e3.alloc _, e4.keep hba e4.lt, e5.alloc _, e6.alloc _⟩, e7.alloc _, fun D hD => (hba.block D (Array.getElem?_eq_some_iff.1 (e8 D hD)).1).trans (e8 D hD)⟩, e9.alloc e9.size _⟩ ⟨W.heap.size, e9.size, rfl, Blk.new W 30 (L[x.1]'x.2).C⟩
          case body2 =>
            rintro l pre x a' W _ _ ⟨⟨hno2, ⟨s6, s7, sF, sL, sN⟩, s9, hD⟩, hBB⟩ ⟨Bs, hBs, rfl, hBk⟩ _
            obtain ⟨y, hy⟩ : ∃ y, y = (L[x.1]'x.2) := ⟨_, rfl⟩
            rw [← hy] at hBk ⊢
            have hc : Calls Tryd.prog 68 (#[.int .i64 (x.1 : Nat), y.v] ++ #[.pointer (some ⟨LB + 1, 0, none⟩)]) W fun y2 w' => y2 = .returned (.int .i64 (if y.c = 1 ∧ y.d < len then 9 else 0)) ∧ Below W.heap.size W w' := fl3_any (x.1 : Nat) y (LB + 1) len W sN
            have hev : flB L len 2 x.1 = (if y.c = 1 ∧ y.d < len then 9 else 0) := by show (if (L.getD x.1 sm0).c = 1 ∧ (L.getD x.1 sm0).d < len then (9 : Int) else 0) = _; rw [getD_at x.2, ← hy]
            obtain ⟨e, he⟩ : ∃ e : Int, e = (if y.c = 1 ∧ y.d < len then 9 else 0) := ⟨_, rfl⟩
            rw [← he] at hc hev
            have q9 := s9.cell
            have p0 : W.cell? ⟨Bs, 0, none⟩ = some (.int .i64 y.i) := hBk.cellAt (i := 0) (by simp [Sm.C])
            have p1 : W.cell? ⟨Bs, 1, none⟩ = some (.int .i64 y.n) := hBk.cellAt (i := 1) (by simp [Sm.C])
            have p2 : W.cell? ⟨Bs, 2, none⟩ = some (.int .i64 y.c) := hBk.cellAt (i := 2) (by simp [Sm.C])
            have p3 : W.cell? ⟨Bs, 3, none⟩ = some (.int .i64 y.p) := hBk.cellAt (i := 3) (by simp [Sm.C])
            have p4 : W.cell? ⟨Bs, 4, none⟩ = some (.int .i64 y.d) := hBk.cellAt (i := 4) (by simp [Sm.C])
            have p5 : W.cell? ⟨Bs, 5, none⟩ = some (.int .i64 y.s) := hBk.cellAt (i := 5) (by simp [Sm.C])
            have p6 : W.cell? ⟨Bs, 6, none⟩ = some (.int .i64 y.b) := hBk.cellAt (i := 6) (by simp [Sm.C])
            unfold Sm.v at hc ⊢
            have HC := Lib.hid hc; have HE := Lib.hid hev; have HNP := Lib.hid hno2
            have S6 := Lib.hid s6; have S7 := Lib.hid s7; have SF := Lib.hid sF; have SL_ := Lib.hid sL; have SN := Lib.hid sN; have S9 := Lib.hid s9; have HDD := Lib.hid hD; have HBW := Lib.hid hBB
            clear hc hev hno2 s6 s7 sF sL sN s9 hD hBB hBk hy he hBs
            by_cases h0 : e = 0
            · subst h0
              gi_wp2_with (fail)
              refine ⟨trivial, (fun h => by cases h), ?_⟩
              refine (CallsIn.inRound l (callsIn_wide.2 HC.out)).mono ?_
              rintro y2 w2 ⟨rfl, hb⟩
              have HB2 := Lib.hid hb
              have t6 := boxed_below S6.out hb S6.out.lt; have t7 := boxed_below S7.out hb S7.out.lt
              have T6 := Lib.hid t6; have T7 := Lib.hid t7
              have c6 := t6.cell; have g6 := t6.frozen; have c7 := t7.cell; have g7 := t7.frozen
              clear hb q9 p0 p1 p2 p3 p4 p5 p6 t6 t7
              gi_wp2
              have hk := keeps_below HB2.out
              exact ⟨(hk.trans (KeepsOthers.setCell _ _ _)).from _, (HB2.out.mono HBW.out.size).trans ((Below.refl w.heap.size w2).setCell (p := ⟨B6 + 1, 0, none⟩) (Nat.le_succ_of_le HB6.out) _), ⟨fun z hz => (List.mem_append.1 hz).elim (HNP.out z) (fun e => by have e2 : z = x := (by simpa using e); subst e2; exact HE.out), ⟨boxed_far T6.out (by omega) _, T7.out.set _, (SF.out.keep HB2.out SF.out.lt).puts (blk_neT S7.out SF.out (by decide)) 0 _, boxed_far (boxed_below SL_.out HB2.out SL_.out.lt) (blk_neT S7.out SL_.out (by decide)) _, boxed_far (boxed_below SN.out HB2.out SN.out.lt) (blk_neT S7.out SN.out (by decide)) _⟩, boxed_far (boxed_below S9.out HB2.out S9.out.lt) (blk_neT S7.out S9.out (by decide)) _, fun D hD => (hk.trans (KeepsOthers.setCell _ _ _)).same D _ (HDD.out D hD) rfl⟩, (below_transG HBW.out HB2.out).setCell (p := ⟨B6 + 1, 0, none⟩) (Nat.le_succ_of_le HB6.out) _⟩
            · have k0 : (e == 0) = false := by rw [beq_eq_false_iff_ne]; exact h0
              have HNE := Lib.hid (show flB L len 2 x.1 ≠ 0 by rw [HE.out]; exact h0)
              clear h0
              gi_wp2_with (fail)
              refine ⟨trivial, (fun h => by cases h), ?_⟩
              refine (CallsIn.inRound l (callsIn_wide.2 HC.out)).mono ?_
              rintro y2 w2 ⟨rfl, hb⟩
              have HB2 := Lib.hid hb
              have t6 := boxed_below S6.out hb S6.out.lt; have t7 := boxed_below S7.out hb S7.out.lt
              have T6 := Lib.hid t6; have T7 := Lib.hid t7
              have c6 := t6.cell; have g6 := t6.frozen; have c7 := t7.cell; have g7 := t7.frozen
              clear hb q9 p0 p1 p2 p3 p4 p5 p6 t6 t7
              gi_wp2
              have hk := keeps_below HB2.out
              exact ⟨((hk.trans (KeepsOthers.setCell _ _ _)).trans (KeepsOthers.setCell _ _ _)).from _, ⟨rfl, ⟨pre, x, rfl, HNP.out, HNE.out, (boxed_far T6.out (by omega) _).set _, by rw [HE.out]; exact boxed_far (T7.out.set _) (by omega) _⟩, fun D hD => ((hk.trans (KeepsOthers.setCell _ _ _)).trans (KeepsOthers.setCell _ _ _)).same D _ (HDD.out D hD) rfl⟩, ((below_transG HBW.out HB2.out).setCell (p := ⟨B6 + 1, 0, none⟩) (Nat.le_succ_of_le HB6.out) _).setCell (p := ⟨B6, 0, none⟩) HB6.out _⟩
          case done2 =>
            rintro D ys W hDz hys ⟨⟨hno2, hS2, _, hD2⟩, hBB⟩ hK
            have HN2 := Lib.hid (fls_of hys hno2); have HS2 := Lib.hid hS2; have HD2 := Lib.hid hD2; have HBB := Lib.hid hBB; have HK := Lib.hid hK; have HDZ := Lib.hid hDz
            clear hno2 hS2 hD2 hBB hK hDz hys
            gi_wp2
            refine ⟨⟨2 + 1, D :: Ds, _, _, _, _, _, _, _, _, _, _, _, _, _, _, _, _, _, _, _, _, _, rfl, by omega, fun p hp i hi => ?_, HS2.out, ⟨List.nodup_cons.2 ⟨fun hm => by have h1 := HDL.out D hm; have h2 := HDZ.out; omega, HM.out.1⟩, fun D' hD' => ?_⟩, HBB.out⟩, ?_⟩
            · by_cases hpq : p < 2
              · exact HNO.out p hpq i hi
              · obtain rfl : p = 2 := by omega
                exact HN2.out i hi
            · rcases List.mem_cons.1 hD' with rfl | hD'
              · exact ⟨Nat.le_trans hle5 HDZ.out, HK.out⟩
              · exact ⟨(HM.out.2 D' hD').1, HD2.out D' hD'⟩
            · simp [intOf]
          case stop2 =>
            rintro D c pre W hDz ⟨k, hk, hcame⟩ ⟨⟨rfl, ⟨p0, x, rfl, h0s, hx, c6, c7⟩, hD2⟩, hBB⟩ hK
            have hF : V0 = ((x.1 : Nat) : Int) ∧ V1 = flB L len 2 x.1 := by
              have e0 := HV2.out
              obtain ⟨ex, hc0⟩ := came_last hcame
              rw [chk_at (q := 2) (x := x.1) (by omega) x.2 hx (fun i hi => fls_of hc0 h0s i (by omega)) (fun p hp i hi => HNO.out p hp i hi)] at e0
              injection e0 with e1 e2
              exact ⟨e1, e2⟩
            have HF := Lib.hid hF; have HE6 := Lib.hid c6; have HE7 := Lib.hid c7; have HBE := Lib.hid hBB
            have HME := Lib.hid (show Marks w.heap.size W (D :: Ds) from ⟨List.nodup_cons.2 ⟨fun hm => by have h1 := HDL.out D hm; have h2 := hDz; omega, HM.out.1⟩, fun D' hD' => by
              rcases List.mem_cons.1 hD' with rfl | hD'
              · exact ⟨Nat.le_trans hle5 hDz, hK⟩
              · exact ⟨(HM.out.2 D' hD').1, hD2 D' hD'⟩⟩)
            clear hF c6 c7 hBB hD2 hK hDz hcame h0s hx hk
            gi_wp2
            refine wpIn_wide.2 (wp_region_class (C := fun u => u.cell? ⟨B6, 0, none⟩ = some (.int .i64 ((x.1 : Nat) : Int)) ∧ u.cell? ⟨B6 + 1, 0, none⟩ = some (.int .i64 (flB L len 2 x.1)) ∧ Below W.heap.size W u) (by kernel_rfl) (by kernel_rfl) ⟨HE6.out.cell, HE7.out.cell, (Below.refl _ _).drew⟩ ?_)
            repeat
              with_reducible refine wpQuiet_step (fun K hK => ?_)
              first
                | (refine quiet_skip (by rfl) ?_; (with_reducible refine hK _ ?_); clear hK K)
                | (refine quiet_want (by rfl) ?_
                   apply Exists.intro
                   refine ⟨fun x hx => ?_, hK _ ?_⟩
                   (obtain ⟨hx1, hx2, hx3⟩ := id hx; go_simp; first | done | rfl | (fail))
                   clear hK K)
              try simp only [Act.put, List.setIfInBounds_toArray, List.set_cons_zero, List.set_cons_succ]
            with_reducible refine wpQuiet_nil ?_
            intro wq hq
            obtain ⟨_, _, hb5⟩ := hq
            gi_wp2
            refine ret_marks w.heap.size (fun X => Below w.heap.size w X) (D :: Ds) (fun X E hq hE hK2 => hq.trans (belowK_b (w := w) (Nat.le_refl _) X E _ _ hE hK2 rfl rfl)) (fun X hq => ?_) (below_transG HBE.out hb5) (marks_below HME.out hb5)
            exact ⟨.tuple #[.int .i64 ((x.1 : Nat) : Int), .int .i64 (flB L len 2 x.1)], by simp [results, Tryd.f12, go_sem], by rw [HF.out.1, HF.out.2], hq⟩
      · obtain rfl : j = 3 := by omega
        have HF := Lib.hid (show V0 = (L.length : Int) ∧ V1 = 0 by
          have e0 := HV2.out
          rw [chk_all (fun p hp i hi => HNO.out p hp i hi)] at e0
          injection e0 with e1 e2
          exact ⟨e1, e2⟩)
        have HE6 := Lib.hid HSR.out.1; have HE7 := Lib.hid HSR.out.2.1; have HBE := HB; have HME := HM
        clear hj hj3
        gi_wp2
        refine wpIn_wide.2 (wp_region_class (C := fun u => u.cell? ⟨B6, 0, none⟩ = some (.int .i64 (L.length : Int)) ∧ u.cell? ⟨B6 + 1, 0, none⟩ = some (.int .i64 0) ∧ Below wr.heap.size wr u) (by kernel_rfl) (by kernel_rfl) ⟨HE6.out.cell, HE7.out.cell, (Below.refl _ _).drew⟩ ?_)
        repeat
          with_reducible refine wpQuiet_step (fun K hK => ?_)
          first
            | (refine quiet_skip (by rfl) ?_; (with_reducible refine hK _ ?_); clear hK K)
            | (refine quiet_want (by rfl) ?_
               apply Exists.intro
               refine ⟨fun x hx => ?_, hK _ ?_⟩
               (obtain ⟨hx1, hx2, hx3⟩ := id hx; go_simp; first | done | rfl | (fail))
               clear hK K)
          try simp only [Act.put, List.setIfInBounds_toArray, List.set_cons_zero, List.set_cons_succ]
        with_reducible refine wpQuiet_nil ?_
        intro wq hq
        obtain ⟨_, _, hb5⟩ := hq
        gi_wp2
        refine ret_marks w.heap.size (fun X => Below w.heap.size w X) (Ds) (fun X E hq hE hK2 => hq.trans (belowK_b (w := w) (Nat.le_refl _) X E _ _ hE hK2 rfl rfl)) (fun X hq => ?_) (below_transG HBE.out hb5) (marks_below HME.out hb5)
        exact ⟨.tuple #[.int .i64 (L.length : Int), .int .i64 0], by simp [results, Tryd.f12, go_sem], by rw [HF.out.1, HF.out.2], hq⟩
theorem scheck_any (a : Option Addr) (ln cap : Nat) (L : List Sm) (len : Int) (hreach : L.length ≤ 4611686018427387904) (w : World) (hI : Sts w.heap.size w (.slice a ln cap) L) :
    Calls Tryd.prog 12 #[.slice a ln cap, .int .i64 len] w fun y w' => y = .returned (.tuple #[.int .i64 (checkV L len).1, .int .i64 (checkV L len).2]) ∧ Below w.heap.size w w' :=
  callsIn_wide.1 (scheck_in 3 (by omega) a ln cap L len hreach w hI)
end Go.Proofs.YtolhckahphmffaaDoor
