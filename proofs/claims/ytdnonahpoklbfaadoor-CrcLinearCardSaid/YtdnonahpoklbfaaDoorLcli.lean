/- The statement of P3.4 (CrcLinear): the sum of what is unlike in two strings is what is unlike in their sums. Conditions: the divisor's cells hold what the program's own text lays in them (tied). -/
import Derived.Test.YtdnonahpoklbfaaDoorRows
import Derived.Test.YtdnonahpoklbfaaDoorCrl
import Derived.Deep.AppendLies
import Derived.Deep.RegionLaw
import Derived.Test.YtdnonahpoklbfaaDoorCrt
import Derived.WalkKit
import Derived.ProofKit
import Derived.OpenShut
import Derived.ShutString
import Derived.ChangeOld
import Derived.Below
namespace Go.Proofs.YtdnonahpoklbfaaDoor.crcLinear
open Go.ChangeShapes Go.WideShapes Go.ChangeAt Go.RowKit
theorem own : ownKnob Tryd.prog.godebug = none := by kernel_rfl
theorem laidOut : laidOutB Tryd.prog = true := by kernel_rfl
theorem step_append_own {P : Program} (w : World) {ops : Array Oper} {o : Oper} {a : Act} {K : Act → World → Prop} {Q : Exit → Act → World → Prop} {E : Prop} (hgd : o.guard = none) (s x : Operand) (t : TypeId)
    (ho : o.op = .call { callee := .builtin .append, args := #[s, x], argTypes := #[t, t] })
    (base : Nat) (e : TypeId) (i : TypeInfo) (z : Value) (size bytes : Nat) (ht : P.underlying t = some (.slice e)) (hi : P.info? e = some i) (hz : i.zero = some z)
    (hsize : i.size = size) (hby : i.bytes = bytes) (hzs : z.cells.size = size) (hsz : 0 < size)
    (v : Value) (n : Nat) (xs : List Value) (hs : a.eval s = v) (hown : w.ownsRow base e size v n xs)
    (ad : Addr) (m c : Nat) (news : List Value) (hx : a.eval x = .slice (some ad) m c) (hl : news.length = m * size) (hnews : ∀ j u, news[j]? = some u → w.cell? (ad.add j) = some u) (h1 : ∀ u ∈ news, u.oneCell' = true)
    (h63 : n + m ≤ maxLen) (hbytes : (n + m) * bytes ≤ 140737488355328) (hbase : base ≤ w.heap.size)
    (h : ∀ v' w', w'.ownsRow base e size v' (n + m) (xs ++ news) → w.grownBy w' v.ownBlock → (v' = .slice none 0 0 ↔ v = .slice none 0 0 ∧ m = 0) → K (a.put o.dst v') w') :
    if Region.wanted o (yielded ops a.tmps) = true then Oper.wp P o a w K Q else E := by
  have hw : Region.wanted o (yielded ops a.tmps) = true := by simp [Region.wanted, hgd]
  rw [if_pos hw]
  exact wp_append_own w s x t ho base e i z size bytes ht hi hz hsize hby hzs hsz v n xs hs hown ad m c news hx hl hnews h1 h63 hbytes hbase h
/-- The places at which two strings are unlike, of the first k. -/
def unlike (X Y : List Nat) (k : Nat) : List Nat := (List.range k).map (fun j => X[j]?.getD 0 ^^^ Y[j]?.getD 0)
theorem unlike_succ (X Y : List Nat) (k : Nat) : unlike X Y (k + 1) = unlike X Y k ++ [X[k]?.getD 0 ^^^ Y[k]?.getD 0] := by simp [unlike, List.range_succ]
theorem unlike_length (X Y : List Nat) (k : Nat) : (unlike X Y k).length = k := by simp [unlike]
theorem unlike_zip (X Y : List Nat) (n : Nat) (hx : X.length = n) (hy : Y.length = n) : unlike X Y n = List.zipWith (· ^^^ ·) X Y := by
  apply List.ext_getElem
  · rw [unlike_length, List.length_zipWith, hx, hy, Nat.min_self]
  · intro i h1 h2
    rw [unlike_length] at h1
    simp [unlike, show i < X.length by omega, show i < Y.length by omega]
theorem xor_le {x y : Nat} (hx : x ≤ 1) (hy : y ≤ 1) : x ^^^ y ≤ 1 := by
  obtain rfl | rfl : x = 0 ∨ x = 1 := by omega
  · rw [Nat.zero_xor]; exact hy
  · obtain rfl | rfl : y = 0 ∨ y = 1 := by omega
    · decide
    · decide
theorem getD_le {X : List Nat} (h : ∀ x ∈ X, x ≤ 1) (j : Nat) : X[j]?.getD 0 ≤ 1 := by
  by_cases c : j < X.length
  · have : X[j]?.getD 0 = X[j] := by simp [c]
    rw [this]
    exact h _ (List.getElem_mem c)
  · rw [List.getElem?_eq_none (by omega)]; exact Nat.zero_le _
theorem unlike_le {X Y : List Nat} (hx : ∀ x ∈ X, x ≤ 1) (hy : ∀ y ∈ Y, y ≤ 1) (k : Nat) : ∀ z ∈ unlike X Y k, z ≤ 1 := by
  intro z hz
  obtain ⟨j, _, rfl⟩ := List.mem_map.1 hz
  exact xor_le (getD_le hx j) (getD_le hy j)
set_option maxHeartbeats 2000000 in
theorem walk (aa : Option Addr) (len0 ca : Nat) (z0 : List Int) (ab : Option Addr) (len1 cb : Nat) (z1 : List Int) (w : World) (w0 : IsRow w aa len0 ca z0) (w1 : IsRow w ab len1 cb z1) (h0 : 0 < w.heap.size) (hT : Tab w) :
    Calls Tryd.prog 5 #[.slice aa len0 ca, .slice ab len1 cb] w fun e w' => e = .returned (.bool true) ∧ Below w.heap.size w w' := by
  obtain ⟨bs0, _, hI0⟩ := isRow_str w0
  obtain ⟨bs1, _, hI1⟩ := isRow_str w1
  clear w0 w1
  have HT := Lib.hid hT
  have CF := Lib.hid (few3_any _ _ _ bs0 w hI0)
  have CG := Lib.hid (few3_any _ _ _ bs1 w hI1)
  obtain ⟨xs, hxs⟩ : ∃ xs, xs = bs0.take 200 := ⟨_, rfl⟩
  obtain ⟨ys, hys⟩ : ∃ ys, ys = bs1.take 200 := ⟨_, rfl⟩
  rw [← hxs] at CF
  rw [← hys] at CG
  have hxl : xs.length ≤ 200 := by rw [hxs, List.length_take]; omega
  have hyl : ys.length ≤ 200 := by rw [hys, List.length_take]; omega
  clear hxs hys hI0 hI1 hT
  obtain ⟨n, hn⟩ : ∃ n, n = min xs.length ys.length := ⟨_, rfl⟩
  have hif : (if ys.length < xs.length then (ys.length : Int) else (xs.length : Int)) = (n : Int) := by rw [hn]; split <;> omega
  have hnx : n ≤ xs.length := by omega
  have hny : n ≤ ys.length := by omega
  clear hn
  obtain ⟨i0, hi, hz0, hz1, hz2⟩ := info_parts info_u8
  go_enter Tryd.func5, Tryd.ntmps5
  go_wp2_with (fail)
  refine CF.out.mono ?_
  rintro e w1 ⟨⟨aa, len', ca, rfl, hS⟩, rfl⟩
  obtain rfl := hS.len
  have S0 := Lib.hid hS
  clear hS CF
  go_wp2_with (fail)
  refine CG.out.mono ?_
  rintro e w1 ⟨⟨ab, len', cb, rfl, hS⟩, rfl⟩
  obtain rfl := hS.len
  have T0 := Lib.hid hS
  clear hS CG
  have hca : n ≤ ca := by have := S0.out.lenCap; omega
  have hcb : n ≤ cb := by have := T0.out.lenCap; omega
  have hcam := S0.out.capLe
  have hcbm := T0.out.capLe
  have S1 := Lib.hid (S0.out.take hnx)
  have T1 := Lib.hid (T0.out.take hny)
  have HX := Lib.hid (show ∀ v u, Below w.heap.size w v → Below v.heap.size v u → Calls Tryd.prog 22 #[.slice aa n ca] u fun e w' => ∃ a' c', e = .returned (.slice a' n c') ∧ Str w'.heap.size w' (.slice a' n c') (bitsOf (xs.take n)) ∧ Below v.heap.size v w' from fun v u hv hu => by
    have hwu := below_trans' hv hu
    refine (refClean_any _ _ _ (xs.take n) (by rw [List.length_take]; omega) u (S1.out.below hwu |>.mono hwu.size)).mono ?_
    rintro e w' ⟨v, rfl, ho, hb⟩
    obtain ⟨a', c', rfl⟩ := ho.shape
    have hs := ho.str
    rw [bitsOf_length, List.length_take, Nat.min_eq_left (by omega)] at hs ⊢
    exact ⟨a', c', rfl, hs, below_trans' hu hb⟩)
  have HY := Lib.hid (show ∀ v u, Below w.heap.size w v → Below v.heap.size v u → Calls Tryd.prog 22 #[.slice ab n cb] u fun e w' => ∃ a' c', e = .returned (.slice a' n c') ∧ Str w'.heap.size w' (.slice a' n c') (bitsOf (ys.take n)) ∧ Below v.heap.size v w' from fun v u hv hu => by
    have hwu := below_trans' hv hu
    refine (refClean_any _ _ _ (ys.take n) (by rw [List.length_take]; omega) u (T1.out.below hwu |>.mono hwu.size)).mono ?_
    rintro e w' ⟨v, rfl, ho, hb⟩
    obtain ⟨a', c', rfl⟩ := ho.shape
    have hs := ho.str
    rw [bitsOf_length, List.length_take, Nat.min_eq_left (by omega)] at hs ⊢
    exact ⟨a', c', rfl, hs, below_trans' hu hb⟩)
  have HR := Lib.hid (Below.refl w.heap.size w)
  clear S0 T0 S1 T1
  go_upto_region 3 with fail
  go_cut [6, 7] (fun s6 s7 wx => ∃ a6 c6 a7 c7, s6 = .slice a6 n c6 ∧ s7 = .slice a7 n c7 ∧ Str wx.heap.size wx (.slice a6 n c6) (bitsOf (xs.take n)) ∧ Str wx.heap.size wx (.slice a7 n c7) (bitsOf (ys.take n)) ∧ Below w.heap.size w wx)
  case first =>
    go_region_with (first | (go_at_call 22; have hb2' := hb2; clear hb2'; refine (HY.out w2 _ hb2 (by first | exact (Below.refl _ w2) | exact (Below.refl _ w2).drew | exact (Below.refl _ w2).drew.drew | exact (Below.refl _ w2).drew.drew.drew | exact (Below.refl _ w2).drew.drew.drew.drew)).mono ?_; rintro e w3 ⟨a7, c7, rfl, hsy, hb3⟩) | (go_at_call 22; refine (HX.out w _ HR.out (by first | exact HR.out | exact HR.out.drew | exact HR.out.drew.drew | exact HR.out.drew.drew.drew | exact HR.out.drew.drew.drew.drew)).mono ?_; rintro e w2 ⟨a6, c6, rfl, hsx, hb2⟩))
    all_goals (go_wp2_with fail; go_meet; exact ⟨a6, c6, a7, c7, rfl, rfl, hsx.on hb3, hsy, below_trans' hb2 hb3⟩)
  case rest =>
  obtain ⟨a6, c6, a7, c7, rfl, rfl, hx, hy, hb⟩ := hcut
  obtain ⟨X, hX⟩ : ∃ X, X = bitsOf (xs.take n) := ⟨_, rfl⟩
  obtain ⟨Y, hY⟩ : ∃ Y, Y = bitsOf (ys.take n) := ⟨_, rfl⟩
  rw [← hX] at hx
  rw [← hY] at hy
  have hXl : X.length = n := by rw [hX, bitsOf_length, List.length_take]; omega
  have hYl : Y.length = n := by rw [hY, bitsOf_length, List.length_take]; omega
  have HX1 := Lib.hid (show ∀ x ∈ X, x ≤ 1 by rw [hX]; exact bitsOf_le _)
  have HY1 := Lib.hid (show ∀ y ∈ Y, y ≤ 1 by rw [hY]; exact bitsOf_le _)
  have HXL := Lib.hid hXl; have HYL := Lib.hid hYl
  have SX := Lib.hid hx; have SY := Lib.hid hy; have BC := Lib.hid hb
  clear hx hy hb hX hY hXl hYl HX HY HR hif hca hcb hcam hcbm
  have hn2 : n ≤ 200 := by omega
  go_wp2_with (fail)
  go_loopw [8, 9] (fun z i wr => ∃ k : Nat, k ≤ n ∧ i = .int .i64 k ∧ Ow wc.heap.size wr z (unlike X Y k) ∧ Below wc.heap.size wc wr) (fun _ i _ => n - (intOf i).toNat)
  case atStart => exact ⟨0, Nat.zero_le _, rfl, Ow.nil _ _, Below.refl _ _⟩
  case round =>
    obtain ⟨k, hk, rfl, hown, hnw⟩ := hrel
    have HO := Lib.hid hown; have HN := Lib.hid hnw
    clear hown hnw
    by_cases hlt : k < n
    · obtain ⟨bx, ox, rfl, hbx, hcx⟩ := SX.out.at hlt
      obtain ⟨by', oy, rfl, hby, hcy⟩ := SY.out.at hlt
      obtain ⟨x, hx⟩ : ∃ x, x = X[k]?.getD 0 := ⟨_, rfl⟩
      obtain ⟨y, hy⟩ : ∃ y, y = Y[k]?.getD 0 := ⟨_, rfl⟩
      rw [← hx] at hcx
      rw [← hy] at hcy
      have hx1 : x ≤ 1 := by rw [hx]; exact getD_le HX1.out k
      have hy1 : y ≤ 1 := by rw [hy]; exact getD_le HY1.out k
      have hcx1 := hcx wr HN.out
      have hcy1 := hcy wr HN.out
      have ex : bits .xor .u8 (x : Int) (y : Int) = ((x ^^^ y : Nat) : Int) := u8_xor_nat x y (by omega) (by omega)
      obtain ⟨v, hv⟩ : ∃ v, v = x ^^^ y := ⟨_, rfl⟩
      rw [← hv] at ex
      have hlen : n ≤ c6 := by have := SX.out.lenCap; have := HXL.out; omega
      have HVX := Lib.hid hx; have HVY := Lib.hid hy; have HV := Lib.hid hv
      clear hcx hcy hx hy hv
      go_upto_region 8 with fail
      have HOA := Lib.hid (show ∀ o, (wr.alloc o).drew.ownsRow wc.heap.size 5 1 u8 (unlike X Y k).length ((unlike X Y k).map (fun n : Nat => Value.int .u8 ((n : Nat) : Int))) from fun o => (HO.out.on (((Below.refl _ wr).alloc (Nat.le_refl _) o).drew)).own)
      have HUL := Lib.hid (unlike_length X Y k)
      have HGE := HO.out.ge
      have hwz := HN.out.size
      go_region_law (refine step_append_own _ rfl _ _ 23 rfl wc.heap.size 5 i0 (.int .u8 0) 1 1 Tryd.underlying23 hi hz0 hz1 hz2 rfl (by decide) _ _ _ rfl (HOA.out _) ⟨_, 0, none⟩ 1 1 [.int .u8 (v : Int)] rfl rfl (fun j u h => one_cell j u h) one_flat (by have := HUL.out; unfold maxLen; omega) (by have := HUL.out; omega) (by show _ ≤ (wr.alloc _).heap.size; simp; omega) ?_; intro v' w4 hown4 hgrow _)
      all_goals
        have HO4 := Lib.hid (show Ow wc.heap.size w4 v' (unlike X Y (k + 1)) by
          rw [unlike_succ, ← HVX.out, ← HVY.out, ← HV.out]
          exact Ow.snoc hown4)
        have hB4 : Below wc.heap.size wc w4 := (HN.out.alloc hwz _).drew.grown hgrow (by show _ ≤ (wr.alloc _).heap.size; simp; omega) HGE
        have HB4 := Lib.hid hB4
        clear hown4 hgrow hB4 HOA HO HN HGE
        go_wp2_with fail
        go_roundw
        case rel => exact ⟨k + 1, by omega, by simp, HO4.out, HB4.out⟩
        case measure => simp [intOf]; omega
    · obtain rfl : k = n := by omega
      obtain ⟨az, cz, rfl⟩ := HO.out.shape
      have hz := HO.out.str
      rw [unlike_length] at hz ⊢
      obtain ⟨Z, hZ⟩ : ∃ Z, Z = unlike X Y k := ⟨_, rfl⟩
      rw [← hZ] at hz
      obtain ⟨sx, hsx⟩ : ∃ sx, sx = crcOf (bitsOf X) 0 := ⟨_, rfl⟩
      obtain ⟨sy, hsy⟩ : ∃ sy, sy = crcOf (bitsOf Y) 0 := ⟨_, rfl⟩
      have hsz : crcOf (bitsOf Z) 0 = sx ^^^ sy := by
        have h := crcOf_xor X Y 0 0 (by rw [HXL.out, HYL.out]) HX1.out HY1.out
        rw [hsx, hsy, bits_self _ HX1.out, bits_self _ HY1.out, hZ, bits_self _ (unlike_le HX1.out HY1.out k), unlike_zip X Y k HXL.out HYL.out]
        exact h
      have hsx16 : sx < 65536 := by rw [hsx]; have := crcOf_lt (bitsOf X) 0 (by omega); omega
      have hsy16 : sy < 65536 := by rw [hsy]; have := crcOf_lt (bitsOf Y) 0 (by omega); omega
      have ex : bits .xor .u16 (sx : Int) (sy : Int) = ((sx ^^^ sy : Nat) : Int) := u16_xor_nat sx sy hsx16 hsy16
      obtain ⟨sz, hs⟩ : ∃ sz, sz = sx ^^^ sy := ⟨_, rfl⟩
      rw [← hs] at ex hsz
      have B0 := Lib.hid (below_trans' BC.out HN.out)
      have Z0 := Lib.hid hz
      have X0 := Lib.hid (SX.out.on HN.out)
      have Y0 := Lib.hid (SY.out.on HN.out)
      have HSX := Lib.hid hsx; have HSY := Lib.hid hsy; have HSZ := Lib.hid hsz
      clear hz hZ hsx hsy hsz hs HO HN SX SY BC hsx16 hsy16
      go_wp2_with (fail)
      refine (live3 _ (Nat.lt_of_lt_of_le h0 B0.out.size) (HT.out.onB B0.out h0)).mono ?_
      rintro e w5 ⟨rfl, hb⟩
      have Z5 := Lib.hid (Z0.out.on hb)
      have X5 := Lib.hid (X0.out.on hb)
      have Y5 := Lib.hid (Y0.out.on hb)
      have B5 := Lib.hid (below_trans' B0.out hb)
      clear hb Z0 X0 Y0 B0
      go_wp2_with (fail)
      refine (sum_any _ _ _ Z _ (Nat.lt_of_lt_of_le h0 B5.out.size) (HT.out.onB B5.out h0) Z5.out).mono ?_
      rintro e w6 ⟨he, hb⟩
      rw [HSZ.out] at he
      subst he
      have X6 := Lib.hid (X5.out.on hb)
      have Y6 := Lib.hid (Y5.out.on hb)
      have B6 := Lib.hid (below_trans' B5.out hb)
      clear hb Z5 X5 Y5 B5
      go_wp2_with (fail)
      refine (sum_any _ _ _ X _ (Nat.lt_of_lt_of_le h0 B6.out.size) (HT.out.onB B6.out h0) X6.out).mono ?_
      rintro e w7 ⟨he, hb⟩
      rw [← HSX.out] at he
      subst he
      have Y7 := Lib.hid (Y6.out.on hb)
      have B7 := Lib.hid (below_trans' B6.out hb)
      clear hb X6 Y6 B6
      go_wp2_with (fail)
      refine (sum_any _ _ _ Y _ (Nat.lt_of_lt_of_le h0 B7.out.size) (HT.out.onB B7.out h0) Y7.out).mono ?_
      rintro e w8 ⟨he, hb⟩
      rw [← HSY.out] at he
      subst he
      have B8 := Lib.hid (below_trans' B7.out hb)
      clear hb Y7 B7
      go_wp2_with (fail)
      go_ret
      exact ⟨by simp, B8.out⟩
theorem door_met (os : Os) (args : Array Value) : laidMetH Tryd.prog laidD ((World.doorLaid Tryd.prog 400 os).forCall (fun _ _ => 0) ⟨#[], args, []⟩).memory :=
  laidMetH_of_parts3 (fuel := 8) (laidMet_of_run' 8 (by kernel_rfl) (by kernel_rfl)) (by kernel_rfl) (by kernel_rfl)
set_option maxRecDepth 100000 in
theorem lifted (os : Os) (started : os.Started) (H : Type) (enc : TypeId × Value → H) :
    ReturnsInHanded {} Tryd.checked os 5 .any (fun w args => (Rows.crcLinearSpec.pre enc Tryd.prog Tryd.f5 [] false w args ∧ laidMetH Tryd.prog laidD w) ∧ sizedMet enc Tryd.prog Tryd.f5 (OpenSpec.ofChange Rows.crcLinearSpec) false w args)
      (Rows.crcLinearSpec.post enc Tryd.prog Tryd.f5 false true false false) := by
  refine returnsInHanded_of_change_and (C := Tryd.checked) (X := fun w _ => laidMetH Tryd.prog laidD w) (fun _ _ _ hh h => h.of_heap hh) own started (by kernel_rfl) Tryd.func5
    (ChangeSpec.witness_shaped (enc := enc) (C := Tryd.checked) (os := os) (X := fun w _ => laidMetH Tryd.prog laidD w) false (World.doorLaid Tryd.prog 400 os) #[.slice none 0 0, .slice none 0 0] 8 rfl (World.shaped_of_RefB (by kernel_rfl) (by kernel_rfl)) (by kernel_rfl) (by kernel_rfl) (by kernel_rfl) (door_met os _)) ?_
  intro W base args ds gs before hval0 hW _ _ hL _
  have hval : ∀ (j : Nat) t v, Tryd.f5.params[j]? = some t → args[j]? = some v → Value.okWide Tryd.prog W .any base t v := hval0
  have hW' := hW
  obtain ⟨p, q, hA0, hV, rfl, hfz, hnd⟩ := hW
  have hA : DataW.TrodAll enc Tryd.prog W 0 (fun _ => true) true Tryd.f5.params.toList args.toList ds p := hA0
  rw [Tryd.params5] at hA hval
  obtain ⟨v0, vs0, d0, ds0, p0, q0, hargs, rfl, rfl, h0, r0⟩ := trodAll_cons hA
  obtain ⟨v1, vs1, d1, ds1, p1, q1, rfl, rfl, rfl, h1, r1⟩ := trodAll_cons r0
  obtain ⟨rfl, rfl, rfl⟩ := trodAll_nil r1
  obtain rfl : args = #[v0, v1] := by cases args; simp_all
  obtain ⟨rfl, rfl⟩ := trodVars_none hV
  obtain ⟨a0, len0, cap0, rfl⟩ := okWide_slice Tryd.underlying23 (hval 0 23 v0 rfl rfl)
  have k0 := h0
  have lt0 : ∀ x ∈ p0, x.block < W.heap.size := by obtain ⟨m, hm⟩ := k0; exact DataW.trod_lt m _ _ _ hm
  obtain ⟨z0, w0⟩ : ∃ zs, IsRow W a0 len0 cap0 zs := by
    obtain ⟨fuel, hf⟩ := h0
    rcases open_ints Tryd.underlying23 Tryd.underlying5 (by kernel_rfl) hf with ⟨hcs, _⟩ | ⟨x, l, c, zs, hcs, _, hl, hm, hz, _, hcell, hwz⟩
    · simp [Value.cells] at hcs
      obtain ⟨rfl, rfl, rfl⟩ := hcs
      exact ⟨[], .inl ⟨rfl, rfl, rfl, rfl⟩⟩
    · simp [Value.cells] at hcs
      obtain ⟨rfl, rfl, rfl⟩ := hcs
      exact ⟨zs, .inr ⟨_, rfl, hl, hm, by simpa using hz, hcell, hwz⟩⟩
  obtain ⟨a1, len1, cap1, rfl⟩ := okWide_slice Tryd.underlying23 (hval 1 23 v1 rfl rfl)
  have k1 := h1
  have lt1 : ∀ x ∈ p1, x.block < W.heap.size := by obtain ⟨m, hm⟩ := k1; exact DataW.trod_lt m _ _ _ hm
  obtain ⟨z1, w1⟩ : ∃ zs, IsRow W a1 len1 cap1 zs := by
    obtain ⟨fuel, hf⟩ := h1
    rcases open_ints Tryd.underlying23 Tryd.underlying5 (by kernel_rfl) hf with ⟨hcs, _⟩ | ⟨x, l, c, zs, hcs, _, hl, hm, hz, _, hcell, hwz⟩
    · simp [Value.cells] at hcs
      obtain ⟨rfl, rfl, rfl⟩ := hcs
      exact ⟨[], .inl ⟨rfl, rfl, rfl, rfl⟩⟩
    · simp [Value.cells] at hcs
      obtain ⟨rfl, rfl, rfl⟩ := hcs
      exact ⟨zs, .inr ⟨_, rfl, hl, hm, by simpa using hz, hcell, hwz⟩⟩
  clear hA0 hval0
  obtain ⟨hTab, hsz0⟩ := tab_of_laid hL
  refine (walk a0 len0 cap0 z0 a1 len1 cap1 z1 W w0 w1 hsz0 hTab).mono fun e W' ⟨he, bel⟩ => ?_
  subst he
  exact ⟨_, rfl, _, _, _, [], _, [], hW', trodAll_mk1 (shut_bool Tryd.underlying4 _), (trodAll_cons_mk (Below.trod laidOut (by kernel_rfl) (of_decide_eq_true (by kernel_rfl)) k0 bel lt0) (trodAll_cons_mk (Below.trod laidOut (by kernel_rfl) (of_decide_eq_true (by kernel_rfl)) k1 bel lt1) trodAll_mk0)), rfl, bel.frame _, fun h => by cases h⟩
theorem over : Rows.crcLinearRow.holds Tryd.pinned (OpenSpec.ofChange Rows.crcLinearSpec) :=
  OpenClaim.holds_of_wide 5 Tryd.f5 rfl rfl rfl rfl rfl rfl rfl ⟨rfl, rfl, rfl, rfl, rfl⟩ rfl rfl rfl rfl rfl (by kernel_rfl) Tryd.func5 (by kernel_rfl)
    (of_decide_eq_true (by kernel_rfl)) (by unfold Func.isWrapper; first | (rw [if_pos (by decide +kernel)]; kernel_rfl) | (rw [if_neg (by decide +kernel)]; exact ⟨rfl, rfl⟩))
    (fun os started H enc _ => lifted os started H enc)
/-- The statement: the row, and what it lists tied to the program's text. -/
theorem proved : Rows.CrcLinearCardSaid :=
  Claim7.holds_tied_plain_at .later [] [.data] true _ false
    over (fun _ h => by cases h) (by kernel_rfl) (fun _ h => by cases h) crcLinear_row_tie rfl ⟨rfl, rfl⟩ (by kernel_rfl) rfl
    (fun f fn hf hfn => by
      obtain rfl : f = 5 := Option.some.inj ((show Tryd.prog.funcNamed "bellbuoy/bellbuoylaw03.CrcLinear" = some 5 by kernel_rfl).symm.trans hf) |>.symm
      obtain rfl : fn = Tryd.f5 := (Option.some.inj (Tryd.func5.symm.trans hfn)).symm
      exact ⟨by kernel_rfl, fun j t ht => by
        rw [Tryd.params5] at ht
        have hm : t ∈ [23, 23] := by simpa using Array.mem_of_getElem? ht
        have hall : ([23, 23].all fun u => !Tryd.prog.wantsStandIn u) = true := by kernel_rfl
        exact (show Tryd.prog.wantsStandIn t = false by simpa using List.all_eq_true.1 hall t hm)⟩)
    (by kernel_rfl)
end Go.Proofs.YtdnonahpoklbfaaDoor.crcLinear
