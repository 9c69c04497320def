/- The document's own And in plain words: what it returns. Conditions: the strings are strings, not longer than 500, and at most 1000 of them. -/
import Derived.Test.YtdnonahpoklbfaaRfc
namespace Go.Proofs.Ytdnonahpoklbfaa
open Go.RowKit Go.Shelf
theorem leastN_snoc {L : List (List Nat)} (h : L ≠ []) (b : List Nat) : leastN (L ++ [b]) = min (leastN L) b.length := by
  cases L with
  | nil => exact absurd rfl h
  | cons x r =>
    show (r ++ [b]).foldl (fun m y => min m y.length) x.length = _
    rw [List.foldl_append]; rfl
theorem andAt_snoc (L : List (List Nat)) (b : List Nat) (j : Nat) : andAt (L ++ [b]) j = if andAt L j = 1 ∧ bitAt b j = 1 then 1 else 0 := by
  have h := andAt_succ (L := L ++ [b]) (j := L.length) (b := b) (by simp) j
  rw [List.take_left] at h
  rw [← h, List.take_of_length_le (by simp)]
theorem andB_one (b : List Nat) : andB [b] = bitsOf b := by
  apply List.ext_getElem
  · simp [andB, leastN, bitsOf]
  · intro i h1 h2
    have hi : i < b.length := by simpa [bitsOf] using h2
    have e : andAt [b] i = bitAt b i := andAt_is (bitAt_le _ _) (by simp)
    simp [andB, e, bitsOf, bitAt, hi]
/-- The string that is gone through: up to k with one string more. -/
def mixB (L : List (List Nat)) (b : List Nat) (n k : Nat) : List Nat := (List.range n).map (fun j => if j < k then andAt (L ++ [b]) j else andAt L j)
theorem mixB_length (L : List (List Nat)) (b : List Nat) (n k : Nat) : (mixB L b n k).length = n := by simp [mixB]
theorem mixB_start {L : List (List Nat)} {b : List Nat} {n : Nat} (h : n ≤ leastN L) : mixB L b n 0 = (andB L).take n := by
  unfold mixB andB
  rw [← List.map_take, List.take_range, Nat.min_eq_left h]
  simp
theorem mixB_all {L : List (List Nat)} {b : List Nat} {n : Nat} (h : n = leastN (L ++ [b])) : mixB L b n n = andB (L ++ [b]) := by
  unfold mixB andB
  rw [← h]
  exact List.map_congr_left (fun j hj => if_pos (List.mem_range.1 hj))
theorem mixB_one {L : List (List Nat)} {b : List Nat} {n k : Nat} (_h : k < n) (hb : bitAt b k = 1) : mixB L b n (k + 1) = mixB L b n k := by
  unfold mixB
  refine List.map_congr_left (fun j _ => ?_)
  by_cases e : j = k
  · subst e
    rw [if_pos (by omega), if_neg (by omega), andAt_snoc, hb]
    have := andAt_le L j
    split <;> omega
  · by_cases l : j < k
    · rw [if_pos (by omega), if_pos l]
    · rw [if_neg (by omega), if_neg l]
theorem mixB_zero {L : List (List Nat)} {b : List Nat} {n k : Nat} (h : k < n) (hb : bitAt b k = 0) : mixB L b n (k + 1) = (mixB L b n k).set k 0 := by
  apply List.ext_getElem
  · simp [mixB]
  · intro j h1 h2
    have hj : j < n := by simpa [mixB] using h1
    rw [List.getElem_set]
    by_cases e : j = k
    · subst e
      rw [if_pos rfl]
      simp [mixB, andAt_snoc, hb]
    · rw [if_neg (fun e' => e e'.symm)]
      simp only [mixB, List.getElem_map, List.getElem_range]
      by_cases l : j < k
      · rw [if_pos (by omega), if_pos l]
      · rw [if_neg (by omega), if_neg l]
theorem Strs.at {n₀ len cap k : Nat} {a : Option Addr} {W : World} {M : List (Value × List Nat)} (h : Strs n₀ W (.slice a len cap) M) (hk : k < len) :
    ∃ b off pa pc pb, a = some ⟨b, off, none⟩ ∧ M[k]? = some (.slice pa pb.length pc, pb) ∧ (∀ X, Below n₀ W X → X.cell? ⟨b, off + k, none⟩ = some (.slice pa pb.length pc)) ∧ Str n₀ W (.slice pa pb.length pc) pb := by
  have hl := h.len
  rcases h with ⟨_, _, e, _, e2⟩ | ⟨b, off, cap', e, _, _, hb, hc, hs⟩
  · rw [e2] at hl; simp at hl; omega
  · injection e with e1 _ _
    have hkM : k < M.length := by omega
    obtain ⟨p, hp⟩ : ∃ p, M[k]? = some p := ⟨M[k], List.getElem?_eq_getElem hkM⟩
    obtain ⟨s, pa, pc, hv⟩ := hs p (List.mem_of_getElem? hp)
    obtain ⟨v, pb⟩ := p
    obtain rfl : v = .slice pa pb.length pc := hv
    exact ⟨b, off, pa, pc, pb, e1, hp, fun X hX => (hX.cell (p := ⟨b, off + k, none⟩) hb).trans (hc k _ hp), s⟩
theorem Ow.take {B n m cap : Nat} {a : Option Addr} {W : World} {bs : List Nat} (h : Ow B W (.slice a m cap) bs) (hn : n ≤ bs.length) : Ow B W (.slice a n cap) (bs.take n) := by
  have hl : (bs.take n).length = n := by rw [List.length_take, Nat.min_eq_left hn]
  obtain ⟨h0, h⟩ := h
  rcases h with ⟨e, h00⟩ | ⟨g, cap', cur, e, hB, hg, hm, hc, hsz, ht⟩
  · injection e with e1 e2 e3
    obtain rfl : n = 0 := by omega
    subst e1 e3
    exact ⟨by simp, .inl ⟨rfl, by simp⟩⟩
  · injection e with e1 e2 e3
    subst e1 e3
    refine ⟨by simp, .inr ⟨g, cap, cur, by rw [hl], hB, hg, by rw [hl]; omega, hc, hsz, ?_⟩⟩
    rw [hl, List.map_take, ← ht, List.take_take, Nat.mul_one, Nat.mul_one, Nat.min_eq_left hn]
theorem Ow.lenCap {B m cap : Nat} {a : Option Addr} {W : World} {bs : List Nat} (h : Ow B W (.slice a m cap) bs) : bs.length ≤ cap ∧ cap ≤ 9223372036854775807 := by
  obtain ⟨_, h⟩ := h
  rcases h with ⟨e, h00⟩ | ⟨g, cap', cur, e, hB, hg, hm, hc, hsz, ht⟩
  · injection e with e1 e2 e3; omega
  · injection e with e1 e2 e3
    unfold maxLen at hc
    omega
set_option maxHeartbeats 1000000 in
theorem refAnd_any (a : Option Addr) (len cap : Nat) (M : List (Value × List Nat)) (hM : M.length ≤ 1000) (hs : ∀ p ∈ M, p.2.length ≤ 500) (w : World) (hI : Strs w.heap.size w (.slice a len cap) M) :
    Calls Try.prog 42 #[.slice a len cap] w fun e w' => ∃ v, e = .returned v ∧ Ow w.heap.size w' v (andB (M.map (·.2))) ∧ Below w.heap.size w w' := by
  have hl := hI.len
  obtain ⟨N, hN⟩ : ∃ N, N = M.map (·.2) := ⟨_, rfl⟩
  rw [← hN]
  have hNl : N.length = len := by rw [hN, List.length_map, hl]
  have hlm : len ≤ 1000 := by omega
  by_cases h0 : len = 0
  · subst h0
    obtain rfl : N = [] := List.length_eq_zero_iff.1 hNl
    go_enter Try.func42, Try.ntmps42
    go_wp2
    go_ret
    exact ⟨_, rfl, Ow.nil _ _, Below.refl _ _⟩
  · have HS := Lib.hid hs; have HI := Lib.hid hI; have HNL := Lib.hid hNl; have HN := Lib.hid hN
    clear hs hI hNl hN hl hM
    have hl0 : ((len : Int) == 0) = false := by simp; omega
    obtain ⟨b, off, pa, pc, pb, rfl, hm0, hc0, hp0⟩ := HI.out.at (k := 0) (by omega)
    rw [Nat.add_zero] at hc0
    have hc00 := hc0 w (Below.refl _ _)
    have HC0 := Lib.hid (refClean_any pa pb.length pc pb (by have := HS.out _ (List.mem_of_getElem? hm0); simp at this; omega) w hp0)
    have HT1 := Lib.hid (show andB (N.take 1) = bitsOf pb by
      have : N.take 1 = [pb] := by
        rw [HN.out]
        cases M with
        | nil => simp at hm0
        | cons p r => simp at hm0; simp [hm0]
      rw [this, andB_one])
    clear hc0 hp0 hm0
    go_enter Try.func42, Try.ntmps42
    go_wp2_with (fail)
    refine HC0.out.mono ?_
    rintro e w1 ⟨v0, rfl, hown, hbel⟩
    rw [← HT1.out] at hown
    have HO1 := Lib.hid hown; have HB1 := Lib.hid hbel
    clear hown hbel HC0 HT1 hc00
    have hl1 : 1 ≤ len := by omega
    go_wp2_with (fail)
    go_loopw [3, 4] (fun v ii wr => ∃ i : Nat, 1 ≤ i ∧ i ≤ len ∧ ii = .int .i64 i ∧ Ow w.heap.size wr v (andB (N.take i)) ∧ Below w.heap.size w wr) (fun _ ii _ => len - (intOf ii).toNat)
    case atStart => exact ⟨1, Nat.le_refl _, hl1, rfl, HO1.out, HB1.out⟩
    case round =>
      obtain ⟨i, hi1, hi, rfl, hown, hbel⟩ := hrel
      by_cases hlt : i < len
      · obtain ⟨b2, off2, pa, pc, pb, e2, hmi, hci, hpi⟩ := HI.out.at (k := i) hlt
        obtain ⟨rfl, rfl⟩ : b = b2 ∧ off = off2 := by simpa using e2
        have hc1 := hci _ hbel
        have HC := Lib.hid hci
        have HP := Lib.hid hpi
        obtain ⟨N0, hN0⟩ : ∃ N0, N0 = N.take i := ⟨_, rfl⟩
        have hN0l : N0.length = i := by rw [hN0, List.length_take, HNL.out]; omega
        have HN1 := Lib.hid (show N.take (i + 1) = N.take i ++ [pb] by
          have : N[i]? = some pb := by rw [HN.out, List.getElem?_map, hmi]; rfl
          rw [List.take_add_one, this]; rfl)
        have HNN := Lib.hid (show N.take i = N0 from hN0.symm)
        have hne : N0 ≠ [] := by intro e; rw [e] at hN0l; simp at hN0l; omega
        rw [← hN0] at hown
        obtain ⟨ao, co, rfl⟩ := hown.shape
        obtain ⟨hlc, hcm⟩ := hown.lenCap
        have hsn := leastN_snoc hne pb
        obtain ⟨n0, hn0⟩ : ∃ n0, n0 = (andB N0).length := ⟨_, rfl⟩
        rw [← hn0] at hown hlc ⊢
        have hn0' : n0 = leastN N0 := by rw [hn0, andB_length]
        have hpl : pb.length ≤ 500 := HS.out _ (List.mem_of_getElem? hmi)
        have HB := Lib.hid hbel
        by_cases hsh : pb.length < n0
        · obtain ⟨n, hn⟩ : ∃ n, n = pb.length := ⟨_, rfl⟩
          have HLN := Lib.hid (show n = leastN (N0 ++ [pb]) by rw [hsn, ← hn0']; omega)
          have HM0 := Lib.hid (show Ow w.heap.size wr (.slice ao n co) (mixB N0 pb n 0) by
            rw [mixB_start (by omega)]; exact hown.take (by rw [← hn0]; omega))
          rw [← hn] at hc1 hsh hpl HC HP
          have hnp : n ≤ pb.length := by omega
          clear hown hbel hn0 hn0' hsn hmi hci hpi e2 hN0 hN0l hne hn
          go_wp2
          go_loopw [5] (fun kk wr2 => ∃ k : Nat, k ≤ n ∧ kk = .int .i64 k ∧ Ow w.heap.size wr2 (.slice ao n co) (mixB N0 pb n k) ∧ Below w.heap.size w wr2) (fun kk _ => n - (intOf kk).toNat)
          case atStart => exact ⟨0, Nat.zero_le _, rfl, HM0.out, HB.out⟩
          case round =>
            obtain ⟨k, hk, rfl, hown2, hbel2⟩ := hrel
            have HOWN2 := Lib.hid hown2; have HB2 := Lib.hid hbel2
            clear hown2 hbel2
            by_cases hkn : k < n
            · obtain ⟨bp, op, rfl, _, hcp⟩ := HP.out.at (k := k) (by omega)
              have hc1 := hcp _ HB2.out
              have hc0 := HC.out _ HB2.out
              obtain ⟨x, hx⟩ : ∃ x, x = pb[k]?.getD 0 := ⟨_, rfl⟩
              rw [← hx] at hc1
              have hv : bitN x = bitAt pb k := by rw [hx]; rfl
              obtain ⟨g, cap1, hgv, hgB, hcap, hlen, hgs, hcell, hfr, hset⟩ := HOWN2.out.write (k := k) (by rw [mixB_length]; exact hkn)
              rw [mixB_length] at hgv
              obtain ⟨rfl, rfl⟩ : ao = some ⟨g, 0, none⟩ ∧ co = cap1 := by injection hgv with e1 _ e3; exact ⟨e1, e3⟩
              have hlk : k < pb.length := by omega
              by_cases hx0 : x = 0
              · subst hx0
                rw [bitN_zero] at hv
                have HS := Lib.hid (show Ow w.heap.size (wr.setCell ⟨g, k, none⟩ (.int .u8 0)) (.slice (some ⟨g, 0, none⟩) n co) (mixB N0 pb n (k + 1)) by
                  rw [mixB_zero hkn hv.symm]; exact hset 0)
                have HB3 := Lib.hid (HB2.out.setCell (p := ⟨g, k, none⟩) hgB (.int .u8 0))
                clear hset hv hx hcp hcap hlen hgv
                go_wp2
                go_roundw
                case rel => exact ⟨k + 1, by omega, by simp, HS.out, HB3.out⟩
                case measure => simp [intOf]; omega
              · have hxn : ((x : Int) == 0) = false := by simp; omega
                rw [bitN_pos hx0] at hv
                have HS := Lib.hid (show Ow w.heap.size wr (.slice (some ⟨g, 0, none⟩) n co) (mixB N0 pb n (k + 1)) by
                  rw [mixB_one hkn hv.symm]; exact HOWN2.out)
                clear hset hv hx hcp hcap hlen hgv hx0
                go_wp2
                go_roundw
                case rel => exact ⟨k + 1, by omega, by simp, HS.out, HB2.out⟩
                case measure => simp [intOf]; omega
            · obtain rfl : k = n := by omega
              have HS := Lib.hid (show Ow w.heap.size wr (.slice ao k co) (andB (N.take (i + 1))) by
                rw [HN1.out, HNN.out]; exact mixB_all HLN.out ▸ HOWN2.out)
              clear HOWN2
              go_wp2
              go_roundw
              case rel => exact ⟨i + 1, by omega, by omega, by simp, HS.out, HB2.out⟩
              case measure => simp [intOf]; omega
        · obtain ⟨n, hn⟩ : ∃ n, n = n0 := ⟨_, rfl⟩
          subst hn
          have HLN := Lib.hid (show n = leastN (N0 ++ [pb]) by rw [hsn, ← hn0']; omega)
          have HM0 := Lib.hid (show Ow w.heap.size wr (.slice ao n co) (mixB N0 pb n 0) by
            rw [mixB_start (by omega), List.take_of_length_le (by omega)]; exact hown)
          have hnp : n ≤ pb.length := by omega
          clear hown hbel hn0 hn0' hsn hmi hci hpi e2 hN0 hN0l hne
          go_wp2
          go_loopw [5] (fun kk wr2 => ∃ k : Nat, k ≤ n ∧ kk = .int .i64 k ∧ Ow w.heap.size wr2 (.slice ao n co) (mixB N0 pb n k) ∧ Below w.heap.size w wr2) (fun kk _ => n - (intOf kk).toNat)
          case atStart => exact ⟨0, Nat.zero_le _, rfl, HM0.out, HB.out⟩
          case round =>
            obtain ⟨k, hk, rfl, hown2, hbel2⟩ := hrel
            have HOWN2 := Lib.hid hown2; have HB2 := Lib.hid hbel2
            clear hown2 hbel2
            by_cases hkn : k < n
            · obtain ⟨bp, op, rfl, _, hcp⟩ := HP.out.at (k := k) (by omega)
              have hc1 := hcp _ HB2.out
              have hc0 := HC.out _ HB2.out
              obtain ⟨x, hx⟩ : ∃ x, x = pb[k]?.getD 0 := ⟨_, rfl⟩
              rw [← hx] at hc1
              have hv : bitN x = bitAt pb k := by rw [hx]; rfl
              obtain ⟨g, cap1, hgv, hgB, hcap, hlen, hgs, hcell, hfr, hset⟩ := HOWN2.out.write (k := k) (by rw [mixB_length]; exact hkn)
              rw [mixB_length] at hgv
              obtain ⟨rfl, rfl⟩ : ao = some ⟨g, 0, none⟩ ∧ co = cap1 := by injection hgv with e1 _ e3; exact ⟨e1, e3⟩
              have hlk : k < pb.length := by omega
              by_cases hx0 : x = 0
              · subst hx0
                rw [bitN_zero] at hv
                have HS := Lib.hid (show Ow w.heap.size (wr.setCell ⟨g, k, none⟩ (.int .u8 0)) (.slice (some ⟨g, 0, none⟩) n co) (mixB N0 pb n (k + 1)) by
                  rw [mixB_zero hkn hv.symm]; exact hset 0)
                have HB3 := Lib.hid (HB2.out.setCell (p := ⟨g, k, none⟩) hgB (.int .u8 0))
                clear hset hv hx hcp hcap hlen hgv
                go_wp2
                go_roundw
                case rel => exact ⟨k + 1, by omega, by simp, HS.out, HB3.out⟩
                case measure => simp [intOf]; omega
              · have hxn : ((x : Int) == 0) = false := by simp; omega
                rw [bitN_pos hx0] at hv
                have HS := Lib.hid (show Ow w.heap.size wr (.slice (some ⟨g, 0, none⟩) n co) (mixB N0 pb n (k + 1)) by
                  rw [mixB_one hkn hv.symm]; exact HOWN2.out)
                clear hset hv hx hcp hcap hlen hgv hx0
                go_wp2
                go_roundw
                case rel => exact ⟨k + 1, by omega, by simp, HS.out, HB2.out⟩
                case measure => simp [intOf]; omega
            · obtain rfl : k = n := by omega
              have HS := Lib.hid (show Ow w.heap.size wr (.slice ao k co) (andB (N.take (i + 1))) by
                rw [HN1.out, HNN.out]; exact mixB_all HLN.out ▸ HOWN2.out)
              clear HOWN2
              go_wp2
              go_roundw
              case rel => exact ⟨i + 1, by omega, by omega, by simp, HS.out, HB2.out⟩
              case measure => simp [intOf]; omega
      · obtain rfl : i = len := by omega
        have HO := Lib.hid (show Ow w.heap.size wr _ (andB N) by
          have : N.take i = N := List.take_of_length_le (by rw [HNL.out]; exact Nat.le_refl _)
          rw [← this]; exact hown)
        clear hown
        go_wp2
        go_ret
        exact ⟨_, rfl, HO.out, hbel⟩
end Go.Proofs.Ytdnonahpoklbfaa
