/- Package edf, and the document's own answers of layer 27: which jobs can be, and which of two is ahead; slices of jobs. Conditions: the numbers are of 64 bits. -/
import Derived.Test.YtbcccffjlkphpaaEda
namespace Go.Proofs.Ytbcccffjlkphpaa
open Go.RowKit Go.Shelf Go.Sort
attribute [local go_sem] Oper.semAt_some
/-- Can a job be? -/
def rightJ (x : Jb) : Bool := inB x.s 0 2047 && (inB x.r 0 1125899906842624 && (inB x.d x.r 2251799813685248 && inB x.c 1 1073741824))
theorem inB_cases (n lo hi : Int) : (n < lo ∧ inB n lo hi = false) ∨ (lo ≤ n ∧ hi < n ∧ inB n lo hi = false) ∨ (lo ≤ n ∧ n ≤ hi ∧ inB n lo hi = true) := by
  unfold inB
  by_cases h : lo ≤ n
  · by_cases h2 : n ≤ hi
    · exact .inr (.inr ⟨h, h2, by simp [h, h2]⟩)
    · exact .inr (.inl ⟨h, by omega, by simp [h2]⟩)
  · exact .inl ⟨by omega, by simp [h]⟩
theorem rightJ_d {x : Jb} (h : rightJ x = true) : (0 ≤ x.s ∧ x.s ≤ 2047) ∧ (0 ≤ x.r ∧ x.r ≤ 1125899906842624) ∧ (x.r ≤ x.d ∧ x.d ≤ 2251799813685248) ∧ (1 ≤ x.c ∧ x.c ≤ 1073741824) := by
  unfold rightJ inB at h
  simp only [Bool.and_eq_true, decide_eq_true_eq] at h
  exact ⟨h.1, h.2.1, h.2.2.1, h.2.2.2⟩
theorem right_any (x : Jb) (w : World) : Calls Try.prog 17 #[x.v] w fun e w' => e = .returned (.bool (rightJ x)) ∧ Below w.heap.size w w' := by
  have HB := Lib.hid ((Below.refl w.heap.size w).alloc (Nat.le_refl _) (.cells #[.int .i64 x.s, .int .i64 x.r, .int .i64 x.d, .int .i64 x.c] 42))
  have HW0 := Lib.hid (fun u => within_any x.s 0 2047 u)
  have HW1 := Lib.hid (fun u => within_any x.r 0 1125899906842624 u)
  have HW2 := Lib.hid (fun u => within_any x.d x.r 2251799813685248 u)
  have HW3 := Lib.hid (fun u => within_any x.c 1 1073741824 u)
  unfold rightJ Jb.v
  cases h0 : inB x.s 0 2047
  · rw [h0] at HW0
    rw [Bool.false_and]
    clear h0
    go_enter Try.func17, Try.ntmps17
    go_wp2_with fail
    refine (HW0.out _).mono ?_
    rintro y0 w0 ⟨rfl, rfl⟩
    go_wp2_with fail
    go_ret
    exact ⟨rfl, by first | exact HB.out | exact HB.out.drew⟩
  · rw [h0] at HW0
    cases h1 : inB x.r 0 1125899906842624
    · rw [h1] at HW1
      rw [Bool.true_and, Bool.false_and]
      clear h0 h1
      go_enter Try.func17, Try.ntmps17
      go_wp2_with fail
      refine (HW0.out _).mono ?_
      rintro y0 w0 ⟨rfl, rfl⟩
      go_wp2_with fail
      refine (HW1.out _).mono ?_
      rintro y1 w1 ⟨rfl, rfl⟩
      go_wp2_with fail
      go_ret
      exact ⟨rfl, by first | exact HB.out | exact HB.out.drew⟩
    · rw [h1] at HW1
      cases h2 : inB x.d x.r 2251799813685248
      · rw [h2] at HW2
        rw [Bool.true_and, Bool.true_and, Bool.false_and]
        clear h0 h1 h2
        go_enter Try.func17, Try.ntmps17
        go_wp2_with fail
        refine (HW0.out _).mono ?_
        rintro y0 w0 ⟨rfl, rfl⟩
        go_wp2_with fail
        refine (HW1.out _).mono ?_
        rintro y1 w1 ⟨rfl, rfl⟩
        go_wp2_with fail
        refine (HW2.out _).mono ?_
        rintro y2 w2 ⟨rfl, rfl⟩
        go_wp2_with fail
        go_ret
        exact ⟨rfl, by first | exact HB.out | exact HB.out.drew⟩
      · rw [h2] at HW2
        cases h3 : inB x.c 1 1073741824
        · rw [h3] at HW3
          rw [Bool.true_and, Bool.true_and, Bool.true_and]
          clear h0 h1 h2 h3
          go_enter Try.func17, Try.ntmps17
          go_wp2_with fail
          refine (HW0.out _).mono ?_
          rintro y0 w0 ⟨rfl, rfl⟩
          go_wp2_with fail
          refine (HW1.out _).mono ?_
          rintro y1 w1 ⟨rfl, rfl⟩
          go_wp2_with fail
          refine (HW2.out _).mono ?_
          rintro y2 w2 ⟨rfl, rfl⟩
          go_wp2_with fail
          refine (HW3.out _).mono ?_
          rintro y3 w3 ⟨rfl, rfl⟩
          go_wp2_with fail
          go_ret
          exact ⟨rfl, by first | exact HB.out | exact HB.out.drew⟩
        · rw [h3] at HW3
          rw [Bool.true_and, Bool.true_and, Bool.true_and]
          clear h0 h1 h2 h3
          go_enter Try.func17, Try.ntmps17
          go_wp2_with fail
          refine (HW0.out _).mono ?_
          rintro y0 w0 ⟨rfl, rfl⟩
          go_wp2_with fail
          refine (HW1.out _).mono ?_
          rintro y1 w1 ⟨rfl, rfl⟩
          go_wp2_with fail
          refine (HW2.out _).mono ?_
          rintro y2 w2 ⟨rfl, rfl⟩
          go_wp2_with fail
          refine (HW3.out _).mono ?_
          rintro y3 w3 ⟨rfl, rfl⟩
          go_wp2_with fail
          go_ret
          exact ⟨rfl, by first | exact HB.out | exact HB.out.drew⟩
theorem rright_any (x : Jb) (w : World) : Calls Try.prog 18 #[x.v] w fun e w' => e = .returned (.bool (rightJ x)) ∧ Below w.heap.size w w' := by
  have HB := Lib.hid ((Below.refl w.heap.size w).alloc (Nat.le_refl _) (.cells #[.int .i64 x.s, .int .i64 x.r, .int .i64 x.d, .int .i64 x.c] 42))
  unfold Jb.v
  by_cases h0 : 0 ≤ x.s
  · by_cases h1 : x.s ≤ 2047
    · by_cases h2 : 0 ≤ x.r
      · by_cases h3 : x.r ≤ 1125899906842624
        · by_cases h4 : x.r ≤ x.d
          · by_cases h5 : x.d ≤ 2251799813685248
            · by_cases h6 : 1 ≤ x.c
              · by_cases h7 : x.c ≤ 1073741824
                · rw [show rightJ x = true by unfold rightJ inB; simp; omega]
                  go_enter Try.func18, Try.ntmps18
                  go_wp2_with fail
                  go_ret
                  exact ⟨rfl, by first | exact HB.out | exact HB.out.drew⟩
                · rw [show rightJ x = false by unfold rightJ inB; simp; omega]
                  go_enter Try.func18, Try.ntmps18
                  go_wp2_with fail
                  go_ret
                  exact ⟨rfl, by first | exact HB.out | exact HB.out.drew⟩
              · rw [show rightJ x = false by unfold rightJ inB; simp; omega]
                go_enter Try.func18, Try.ntmps18
                go_wp2_with fail
                go_ret
                exact ⟨rfl, by first | exact HB.out | exact HB.out.drew⟩
            · rw [show rightJ x = false by unfold rightJ inB; simp; omega]
              go_enter Try.func18, Try.ntmps18
              go_wp2_with fail
              go_ret
              exact ⟨rfl, by first | exact HB.out | exact HB.out.drew⟩
          · rw [show rightJ x = false by unfold rightJ inB; simp; omega]
            go_enter Try.func18, Try.ntmps18
            go_wp2_with fail
            go_ret
            exact ⟨rfl, by first | exact HB.out | exact HB.out.drew⟩
        · rw [show rightJ x = false by unfold rightJ inB; simp; omega]
          go_enter Try.func18, Try.ntmps18
          go_wp2_with fail
          go_ret
          exact ⟨rfl, by first | exact HB.out | exact HB.out.drew⟩
      · rw [show rightJ x = false by unfold rightJ inB; simp; omega]
        go_enter Try.func18, Try.ntmps18
        go_wp2_with fail
        go_ret
        exact ⟨rfl, by first | exact HB.out | exact HB.out.drew⟩
    · rw [show rightJ x = false by unfold rightJ inB; simp; omega]
      go_enter Try.func18, Try.ntmps18
      go_wp2_with fail
      go_ret
      exact ⟨rfl, by first | exact HB.out | exact HB.out.drew⟩
  · rw [show rightJ x = false by unfold rightJ inB; simp; omega]
    go_enter Try.func18, Try.ntmps18
    go_wp2_with fail
    go_ret
    exact ⟨rfl, by first | exact HB.out | exact HB.out.drew⟩
theorem may1_any (x : Jb) (w : World) : Calls Try.prog 39 #[x.v] w fun e w' => e = .returned (.bool (!rightJ x)) ∧ Below w.heap.size w w' := by
  have HR := Lib.hid (fun u => right_any x u)
  have HB := Lib.hid ((Below.refl w.heap.size w).alloc (Nat.le_refl _) (.cells #[.int .i64 x.s, .int .i64 x.r, .int .i64 x.d, .int .i64 x.c] 42))
  obtain ⟨b, hb⟩ : ∃ b, b = rightJ x := ⟨_, rfl⟩
  rw [← hb] at HR ⊢
  clear hb
  unfold Jb.v at HR ⊢
  go_enter Try.func39, Try.ntmps39
  go_wp2_with fail
  refine (HR.out _).mono ?_
  rintro y w1 ⟨rfl, hb⟩
  have HB1 := Lib.hid (HB.out.trans (hb.mono HB.out.size))
  clear hb
  go_wp2_with fail
  go_ret
  exact ⟨rfl, by first | exact HB1.out | exact HB1.out.drew⟩
/-- The slice value sv holds these jobs, in a block below n₀; or it is empty, wherever it leads, and there are none. -/
def Jbs (n₀ : Nat) (W : World) (sv : Value) (L : List Jb) : Prop :=
  (∃ a cap, sv = .slice a 0 cap ∧ L = []) ∨ ∃ b off cap, sv = .slice (some ⟨b, off, none⟩) L.length cap ∧ b < n₀ ∧ ∀ j (hj : j < L.length) i u, (L[j].C)[i]? = some u → W.cell? ⟨b, off + j * 4 + i, none⟩ = some u
theorem Jbs.below {n₀ : Nat} {A B : World} (h : Below n₀ A B) {sv : Value} {L : List Jb} : Jbs n₀ A sv L → Jbs n₀ B sv L
  | .inl e => .inl e
  | .inr ⟨b, off, cap, e, hb, hc⟩ => .inr ⟨b, off, cap, e, hb, fun j hj i u hu => (h.cell (p := ⟨b, off + j * 4 + i, none⟩) hb).trans (hc j hj i u hu)⟩
theorem Jbs.mono {n₀ n₁ : Nat} (h : n₀ ≤ n₁) {A : World} {sv : Value} {L : List Jb} : Jbs n₀ A sv L → Jbs n₁ A sv L
  | .inl e => .inl e
  | .inr ⟨b, off, cap, e, hb, hc⟩ => .inr ⟨b, off, cap, e, Nat.lt_of_lt_of_le hb h, hc⟩
theorem Jbs.on {A B : World} {sv : Value} {L : List Jb} (h : Jbs A.heap.size A sv L) (hb : Below A.heap.size A B) : Jbs B.heap.size B sv L := (h.below hb).mono hb.size
theorem Jbs.len {n₀ len cap : Nat} {a : Option Addr} {W : World} {L : List Jb} (h : Jbs n₀ W (.slice a len cap) L) : len = L.length := by
  rcases h with ⟨a', cap', e, rfl⟩ | ⟨b, off, cap', e, _⟩
  · injection e with _ e2 _
  · injection e with _ e2 _
theorem Jbs.spot {n₀ : Nat} {W : World} {a : Option Addr} {len cap : Nat} {L : List Jb} (h : Jbs n₀ W (.slice a len cap) L) (h0 : 0 < L.length) : ∃ g off, a = some ⟨g, off, none⟩ ∧ g < n₀ ∧ ∀ j (hj : j < L.length) i u, (L[j].C)[i]? = some u → W.cell? ⟨g, off + j * 4 + i, none⟩ = some u := by
  rcases h with ⟨_, _, _, e⟩ | ⟨g, off, _, e, hg, hc⟩
  · rw [e] at h0; cases h0
  · injection e with e1 _ _
    exact ⟨g, off, e1, hg, hc⟩
/-- What is wrong with so many jobs, and slots of that length. -/
def mayJ (len : Int) (L : List Jb) : Int := if inB len 1 1073741824 = false then 1 else if 256 < L.length then 11 else if L.all rightJ = true then 0 else 10
set_option maxRecDepth 100000 in
set_option maxHeartbeats 4000000 in
theorem jcont_any (a : Option Addr) (ln cap : Nat) (L : List Jb) (hreach : L.length ≤ 1000000) (w : World) (hI : Jbs w.heap.size w (.slice a ln cap) L) :
    Calls Try.prog 55 #[.slice a ln cap, .func (.func 39) #[] #[]] w fun y w' => (∃ k : Int, y = .returned (.int .i64 k) ∧ decide (0 ≤ k) = !L.all rightJ) ∧ Below w.heap.size w w' := by
  obtain rfl := hI.len
  have HI := Lib.hid (show ∀ u, Below w.heap.size w u → Jbs u.heap.size u (.slice a L.length cap) L from fun u hu => hI.on hu)
  clear hI
  obtain ⟨N, hN⟩ : ∃ N, N = L.length := ⟨_, rfl⟩
  rw [← hN] at HI ⊢
  have HN := Lib.hid hN
  have hN6 : N ≤ 1000000 := by omega
  clear hN hreach
  go_enter Try.func55, Try.ntmps55
  go_wp2_with fail
  go_loopw [8] (fun i wr => ∃ k : Nat, i = .int .i64 (k : Int) ∧ k ≤ N ∧ (L.take k).all rightJ = true ∧ Below w.heap.size w wr) (fun i _ => N - (intOf i).toNat)
  case atStart => exact ⟨0, rfl, by omega, rfl, by first | exact Below.refl _ _ | exact (Below.refl _ _).drew⟩
  case round =>
    obtain ⟨k, rfl, hk, hall, hB⟩ := hrel
    have HB := Lib.hid hB; have HALL := Lib.hid hall
    clear hB hall
    have i3 : (0 : Int) ≤ (k : Int) := by omega
    by_cases hlt : k < N
    · have i2 : (k : Int) < (N : Int) := by omega
      have hkL : k < L.length := by have := HN.out; omega
      obtain ⟨g, off, rfl, hg, hc⟩ := Jbs.spot (HI.out wr HB.out) (show 0 < L.length by omega)
      obtain ⟨x, hx⟩ : ∃ x, x = L[k] := ⟨_, rfl⟩
      have hcx := hc k hkL
      rw [← hx] at hcx
      have q0 : wr.cell? ⟨g, off + k * 4, none⟩ = some (.int .i64 x.s) := hcx 0 _ rfl
      have q1 : wr.cell? ⟨g, off + k * 4 + 1, none⟩ = some (.int .i64 x.r) := hcx 1 _ rfl
      have q2 : wr.cell? ⟨g, off + k * 4 + 2, none⟩ = some (.int .i64 x.d) := hcx 2 _ rfl
      have q3 : wr.cell? ⟨g, off + k * 4 + 3, none⟩ = some (.int .i64 x.c) := hcx 3 _ rfl
      have HR := Lib.hid (fun u => may1_any x u)
      have HX := Lib.hid hx
      have htk : L.take (k + 1) = L.take k ++ [L[k]] := List.take_succ_eq_append_getElem hkL
      unfold Jb.v at HR
      cases hb : rightJ x
      · rw [hb] at HR
        have HRES := Lib.hid (show decide (0 ≤ (k : Int)) = !L.all rightJ by
          rw [show L.all rightJ = false by rw [List.all_eq_false]; exact ⟨L[k], List.getElem_mem _, by rw [← HX.out, hb]; decide⟩]
          exact decide_eq_true i3)
        clear hc hcx hx hb htk HX hkL
        go_wp2_with fail
        refine (HR.out _).mono ?_
        rintro y w1 ⟨rfl, hb⟩
        have HB1 := Lib.hid (HB.out.trans (hb.mono HB.out.size))
        clear hb q0 q1 q2 q3
        go_wp2_with fail
        go_ret
        exact ⟨⟨_, rfl, HRES.out⟩, by first | exact HB1.out | exact HB1.out.drew⟩
      · rw [hb] at HR
        have HAL2 := Lib.hid (show (L.take (k + 1)).all rightJ = true by rw [htk, List.all_append, HALL.out, ← HX.out]; simp [hb])
        clear hc hcx hx hb htk HX hkL
        go_wp2_with fail
        refine (HR.out _).mono ?_
        rintro y w1 ⟨rfl, hb⟩
        have HB1 := Lib.hid (HB.out.trans (hb.mono HB.out.size))
        clear hb q0 q1 q2 q3
        go_wp2_with fail
        go_roundw
        case rel => exact ⟨k + 1, by simp, by omega, HAL2.out, by first | exact HB1.out | exact HB1.out.drew⟩
        case measure => simp [intOf]; omega
    · have i2 : ¬ (k : Int) < (N : Int) := by omega
      have HRES := Lib.hid (show decide (0 ≤ (-1 : Int)) = !L.all rightJ by
        have h := HALL.out
        rw [List.take_of_length_le (by have := HN.out; omega)] at h
        rw [h]; rfl)
      go_wp2_with fail
      go_ret
      exact ⟨⟨_, rfl, HRES.out⟩, by first | exact HB.out | exact HB.out.drew⟩
theorem jcontains_any (a : Option Addr) (ln cap : Nat) (L : List Jb) (hreach : L.length ≤ 1000000) (w : World) (hI : Jbs w.heap.size w (.slice a ln cap) L) :
    Calls Try.prog 38 #[.slice a ln cap, .func (.func 39) #[] #[]] w fun y w' => y = .returned (.bool (!L.all rightJ)) ∧ Below w.heap.size w w' := by
  have HX := Lib.hid (jcont_any a ln cap L hreach w hI)
  obtain ⟨b, hb⟩ : ∃ b, b = !L.all rightJ := ⟨_, rfl⟩
  rw [← hb] at HX ⊢
  clear hb hI
  go_enter Try.func38, Try.ntmps38
  go_wp2_with fail
  refine HX.out.mono ?_
  rintro y w1 ⟨⟨k, rfl, hk⟩, hb⟩
  have HB1 := Lib.hid hb; have HK := Lib.hid hk
  clear hb hk
  go_wp2_with fail
  go_ret
  exact ⟨by rw [← HK.out]; rfl, by first | exact HB1.out | exact HB1.out.drew⟩
set_option maxHeartbeats 4000000 in
theorem may_any (len : Int) (a : Option Addr) (ln cap : Nat) (L : List Jb) (w : World) (hI : Jbs w.heap.size w (.slice a ln cap) L) :
    Calls Try.prog 24 #[.int .i64 len, .slice a ln cap] w fun y w' => y = .returned (.int .i64 (mayJ len L)) ∧ Below w.heap.size w w' := by
  obtain rfl := hI.len
  have HW := Lib.hid (fun u => within_any len 1 1073741824 u)
  have HB := Lib.hid (Below.refl w.heap.size w)
  unfold mayJ
  cases h0 : inB len 1 1073741824
  · rw [h0] at HW
    rw [if_pos rfl]
    clear h0 hI
    go_enter Try.func24, Try.ntmps24
    go_wp2_with fail
    refine (HW.out _).mono ?_
    rintro y1 w1 ⟨rfl, rfl⟩
    go_wp2_with fail
    go_ret
    exact ⟨rfl, by first | exact HB.out | exact HB.out.drew⟩
  · rw [h0] at HW
    rw [if_neg (by decide)]
    by_cases h : 256 < L.length
    · rw [if_pos h]
      obtain ⟨N, hN⟩ : ∃ N, N = L.length := ⟨_, rfl⟩
      rw [← hN] at h ⊢
      have j : (256 : Int) < (N : Int) := by omega
      clear h0 hI hN
      go_enter Try.func24, Try.ntmps24
      go_wp2_with fail
      refine (HW.out _).mono ?_
      rintro y1 w1 ⟨rfl, rfl⟩
      go_wp2_with fail
      go_ret
      exact ⟨rfl, by first | exact HB.out | exact HB.out.drew⟩
    · rw [if_neg h]
      have HC := Lib.hid (jcontains_any a L.length cap L (by omega) w hI)
      obtain ⟨N, hN⟩ : ∃ N, N = L.length := ⟨_, rfl⟩
      rw [← hN] at h HC ⊢
      have j : ¬ (256 : Int) < (N : Int) := by omega
      clear h0 hI hN
      cases hb : L.all rightJ
      all_goals
        rw [hb] at HC
        clear hb
        go_enter Try.func24, Try.ntmps24
        go_wp2_with fail
        refine (HW.out _).mono ?_
        rintro y1 w1 ⟨rfl, rfl⟩
        go_wp2_with fail
        refine HC.out.mono ?_
        rintro y2 w2 ⟨rfl, hb⟩
        have HB2 := Lib.hid hb
        clear hb
        go_wp2_with fail
        go_ret
        exact ⟨rfl, by first | exact HB2.out | exact HB2.out.drew⟩
end Go.Proofs.Ytbcccffjlkphpaa
