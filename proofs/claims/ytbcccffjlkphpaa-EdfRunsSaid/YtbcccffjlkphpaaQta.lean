/- Package quant, and the document's own answers of layer 22: slots, where they begin, epochs. Conditions: the arguments are numbers of 64 bits. -/
import Derived.Test.YtbcccffjlkphpaaExs
import Derived.Test.YtbcccffjlkphpaaGna
import Derived.ScopeJumps
namespace Go.Proofs.Ytbcccffjlkphpaa
open Go.RowKit
/-- Is a number from lo to hi? -/
def inB (n lo hi : Int) : Bool := decide (lo ≤ n ∧ n ≤ hi)
theorem clamp_in {n lo hi : Int} (_h : lo ≤ hi) : (clampV n lo hi == n) = inB n lo hi := by
  unfold clampV inB
  rw [Bool.eq_iff_iff, beq_iff_eq, decide_eq_true_iff]
  split
  · omega
  · split <;> omega
theorem chk_any (n lo hi : Int) (hlh : lo ≤ hi) (A : Nat) (b : Bool) (w : World) (h : Blk w A 4 [.bool b]) : Calls Try.prog 96 #[.int .i64 n, .int .i64 lo, .int .i64 hi, .pointer (some ⟨A, 0, none⟩)] w fun y w' => y = .returned (.bool (inB n lo hi)) ∧ Blk w' A 4 [.bool (inB n lo hi)] ∧ Kp A (.slice none 0 0) w w' := by
  have HC := Lib.hid (fun u => clamp_ex n lo hi u)
  have e := clamp_in (n := n) hlh
  obtain ⟨c, hc⟩ : ∃ c, c = clampV n lo hi := ⟨_, rfl⟩
  rw [← hc] at HC e
  obtain ⟨z, hz⟩ : ∃ z, z = inB n lo hi := ⟨_, rfl⟩
  rw [← hz] at e ⊢
  have q0 := h.cellAt (i := 0) (by simp)
  have f0 := h.frozenAt 0
  have HB := Lib.hid (h.put1 (i := 0) (by simp) (.bool z))
  have HK := Lib.hid ((Kp.refl A (.slice none 0 0) w).set 0 (.bool z))
  have hcl := cell_ltG q0
  clear hc hz h
  go_enter Try.func96, Try.ntmps96
  go_wp2_with fail
  refine (HC.out _).mono ?_
  rintro y w1 ⟨rfl, rfl⟩
  go_wp2_with fail
  go_ret
  exact ⟨rfl, HB.out, HK.out⟩
/-- Are there slots of a length, and such times? -/
def timesB (zs : List Int) : Bool := zs.all (fun z => inB z (-1152921504606846976) 1152921504606846976)
def qmayB (l : Int) (zs : List Int) : Bool := inB l 1 1099511627776 && timesB zs
theorem below_box {w w1 : World} {o : Obj} (h : Below (w.alloc o).heap.size (w.alloc o) w1) : Below w.heap.size w w1 := below_transG ((Below.refl _ w).alloc (Nat.le_refl _) o) h
theorem below_kp {N A : Nat} {w u x : World} (h : Below N w u) (hA : N ≤ A) (hN : N ≤ u.heap.size) (hk : Kp A (.slice none 0 0) u x) : Below N w x := h.trans (hk.belowN hA hN (fun k e => by cases e))
theorem times_no {zs : List Int} {k : Nat} (hk : k < zs.length) (h : inB zs[k] (-1152921504606846976) 1152921504606846976 = false) : timesB zs = false := by
  unfold timesB
  rw [List.all_eq_false]
  exact ⟨zs[k], List.getElem_mem _, by rw [h]; decide⟩
theorem times_yes {zs : List Int} (h : ∀ j (hj : j < zs.length), inB zs[j] (-1152921504606846976) 1152921504606846976 = true) : timesB zs = true := by
  unfold timesB
  rw [List.all_eq_true]
  intro x hx
  obtain ⟨j, hj, rfl⟩ := List.getElem_of_mem hx
  exact h j hj
set_option maxHeartbeats 1000000 in
theorem qmay_any (l : Int) (zs : List Int) (a : Option Addr) (cap : Nat) (hz : zs.length ≤ 1000) (w : World) (hR : ∀ j (hj : j < zs.length), ∃ g off, a = some ⟨g, off, none⟩ ∧ g < w.heap.size ∧ w.cell? ⟨g, off + j, none⟩ = some (.int .i64 zs[j])) :
    Calls Try.prog 89 #[.int .i64 l, .slice a zs.length cap] w fun y w' => y = .returned (.bool (qmayB l zs)) ∧ Below w.heap.size w w' := by
  have HR := Lib.hid hR
  obtain ⟨V, hV⟩ : ∃ V, V = qmayB l zs := ⟨_, rfl⟩
  rw [← hV]
  have HV := Lib.hid hV
  clear hR hV
  go_enter Try.func89, Try.ntmps89
  go_wp2_with fail
  refine wp_scope_jumps 0 (fun a' w' => ∃ (u0 u1 u2 u3 u4 u6 u7 u8 u9 u10 u11 u12 u13 u14 u15 u16 u17 u18 u19 u20 u21 u22 u23 u24 u25 : Value) (A : Nat), a' = { tmps := #[u0, u1, u2, u3, u4, .pointer (some ⟨A, 0, none⟩), u6, u7, u8, u9, u10, u11, u12, u13, u14, u15, u16, u17, u18, u19, u20, u21, u22, u23, u24, u25], defers := [] } ∧ w.heap.size ≤ A ∧ Blk w' A 4 [.bool V] ∧ Below w.heap.size w w') (fun _ _ => 0) rfl ?_ ?_
  · have hBs := Blk.new w 4 [.bool true]
    obtain ⟨W1, hW1⟩ : ∃ W1, W1 = w.alloc (.cells #[.bool true] 4) := ⟨_, rfl⟩
    have hB1 : Below w.heap.size w W1 := by rw [hW1]; exact (Below.refl _ w).alloc (Nat.le_refl _) _
    go_upto_region 2 with fail
    rw [← hW1] at hBs ⊢
    obtain ⟨A, hA⟩ : ∃ A, A = w.heap.size := ⟨_, rfl⟩
    rw [← hA] at hBs ⊢
    have HA := Lib.hid (show w.heap.size ≤ A by omega)
    have HB1 := Lib.hid hB1
    clear hW1 hA hB1
    obtain ⟨v1, hv1⟩ : ∃ v, v = inB l 1 1099511627776 := ⟨_, rfl⟩
    have HC1 := Lib.hid (chk_any l 1 1099511627776 (by decide) A true W1 hBs)
    rw [← hv1] at HC1
    have HV1 := Lib.hid hv1
    clear hBs hv1
    go_wp2_with fail
    refine HC1.out.mono ?_
    rintro y w2 ⟨rfl, hB, hk⟩
    have HO2 := Lib.hid hB; have HB2 := Lib.hid (below_kp HB1.out HA.out HB1.out.size hk)
    clear hB hk HC1
    cases v1
    · have HF := Lib.hid (show V = false by rw [HV.out]; unfold qmayB; rw [← HV1.out]; rfl)
      go_wp2_with fail
      go_step3
      exact ⟨rfl, _, _, _, _, _, _, _, _, _, _, _, _, _, _, _, _, _, _, _, _, _, _, _, _, _, A, rfl, HA.out, by rw [HF.out]; exact HO2.out, HB2.out⟩
    · have HF := Lib.hid (show V = timesB zs by rw [HV.out]; unfold qmayB; rw [← HV1.out]; rfl)
      go_wp2_with fail
      go_loopw [16] (fun i wr => ∃ k : Nat, i = .int .i64 (k : Int) ∧ k ≤ zs.length ∧ (∀ j (hj : j < zs.length), j < k → inB zs[j] (-1152921504606846976) 1152921504606846976 = true) ∧ Blk wr A 4 [.bool true] ∧ Below w.heap.size w wr) (fun i _ => zs.length - (intOf i).toNat)
      case atStart => exact ⟨0, rfl, by omega, fun j hj h => by omega, HO2.out, HB2.out⟩
      case round =>
        obtain ⟨k, rfl, hk, hno, hO, hB⟩ := hrel
        have HB := Lib.hid hB; have HNO := Lib.hid hno; have HO := Lib.hid hO
        clear hB hno hO HO2 HB2
        by_cases hlt : k < zs.length
        · have i1 : (k : Int) < (zs.length : Int) := by omega
          have i2 : (0 : Int) ≤ (k : Int) := by omega
          obtain ⟨g, off, rfl, hg, hc⟩ := HR.out k hlt
          obtain ⟨f, hf⟩ : ∃ f, f = zs[k] := ⟨_, rfl⟩
          rw [← hf] at hc
          have q0 := (HB.out.cell (p := ⟨g, off + k, none⟩) hg).trans hc
          have HK := Lib.hid (chk_any f (-1152921504606846976) 1152921504606846976 (by decide) A true wr HO.out)
          obtain ⟨v, hv⟩ : ∃ v, v = inB f (-1152921504606846976) 1152921504606846976 := ⟨_, rfl⟩
          rw [← hv] at HK
          have HVV := Lib.hid hv
          have HFF := Lib.hid hf
          clear hv hc hf
          go_wp2_with fail
          refine HK.out.mono ?_
          rintro y w3 ⟨rfl, hB, hk3⟩
          have HO3 := Lib.hid hB; have HB3 := Lib.hid (below_kp HB.out HA.out HB.out.size hk3)
          clear hB hk3 q0
          cases v
          · have HF2 := Lib.hid (show V = false by rw [HF.out]; exact times_no hlt (by rw [← HFF.out, ← HVV.out]))
            go_wp2_with fail
            go_step3
            exact ⟨rfl, _, _, _, _, _, _, _, _, _, _, _, _, _, _, _, _, _, _, _, _, _, _, _, _, _, A, rfl, HA.out, by rw [HF2.out]; exact HO3.out, HB3.out⟩
          · go_wp2_with fail
            go_roundw
            case rel => exact ⟨k + 1, by simp, by omega, fun j hj h => by
              by_cases hjk : j < k
              · exact HNO.out j hj hjk
              · obtain rfl : j = k := by omega
                rw [← HFF.out]; exact HVV.out.symm, HO3.out, HB3.out⟩
            case measure => simp [intOf]; omega
        · obtain rfl : k = zs.length := by omega
          have HF2 := Lib.hid (show V = true by rw [HF.out]; exact times_yes (fun j hj => HNO.out j hj hj))
          have q0 := HO.out.cellAt (i := 0) (by simp)
          go_wp2_with fail
          go_step3
          go_wp2_with fail
          simp only [Exit.jump]
          go_ret
          exact ⟨by rw [HF2.out]; rfl, HB.out⟩
  · rintro a' w1 ⟨u0, u1, u2, u3, u4, u6, u7, u8, u9, u10, u11, u12, u13, u14, u15, u16, u17, u18, u19, u20, u21, u22, u23, u24, u25, A, rfl, hA, hBk, hb⟩
    have q0 := hBk.cellAt (i := 0) (by simp)
    clear hBk
    go_wp2_with fail
    simp only [Exit.jump]
    go_ret
    exact ⟨rfl, hb⟩
end Go.Proofs.Ytbcccffjlkphpaa
