/- The statement of P5.6 (IdentBack): what a key, and a text, is of is the identifier again; keys and texts that are read are so again. No conditions. -/
import Derived.Test.YtodeaddmachcjaaRows
import Derived.Test.YtodeaddmachcjaaOpn
import Derived.Test.YtodeaddmachcjaaIdl
import Derived.Test.YtodeaddmachcjaaIdb
import Derived.WalkKit
import Derived.ProofKit
import Derived.OpenShut
import Derived.ShutString
import Derived.ChangeOld
import Derived.Below
namespace Go.Proofs.Ytodeaddmachcjaa.identBack
open Go.ChangeShapes Go.WideShapes Go.ChangeAt Go.RowKit
theorem own : ownKnob Try.prog.godebug = none := by kernel_rfl
theorem laidOut : laidOutB Try.prog = true := by kernel_rfl
theorem key_back (key : Nat) (hk : key < 4294967296) : ∃ E N R ok, ofKeyV key = .tuple #[identV E N, .bool R, .bool ok] ∧ N < 4294967296 ∧ (ok = true → idKey E N R = key) := by
  unfold ofKeyV
  cases h : ofKey key with
  | none => exact ⟨false, 0, false, false, rfl, by omega, fun h => by cases h⟩
  | some v =>
    obtain ⟨e, n, r⟩ := v
    have hr := key_ofKey hk h
    refine ⟨e, n, r, true, rfl, ?_, fun _ => hr.2⟩
    have := hr.1
    unfold rightI at this
    split at this <;> simp at this <;> omega
theorem text_back (s : ByteArray) : ∃ X M iz, (.tuple #[identV ((idParse (tx s)).getD (false, 0)).1 ((idParse (tx s)).getD (false, 0)).2, .bool (idParse (tx s)).isSome] : Value) = .tuple #[identV X M, .bool iz] ∧ (iz = true → idText X M = tx s) := by
  cases h : idParse (tx s) with
  | none => exact ⟨false, 0, false, rfl, fun h => by cases h⟩
  | some v =>
    obtain ⟨e, n⟩ := v
    exact ⟨e, n, true, rfl, fun _ => (text_parse h).2⟩
theorem tri_cells (w : World) (x y z : Value) (T : TypeId) : (w.alloc (.cells #[x, y, z] T)).cell? ⟨w.heap.size, 0, none⟩ = some x ∧ (w.alloc (.cells #[x, y, z] T)).cell? ⟨w.heap.size, 1, none⟩ = some y ∧ (w.alloc (.cells #[x, y, z] T)).cell? ⟨w.heap.size, 2, none⟩ = some z := ⟨by simp, by simp, by simp⟩
/-- Three cells of a block. -/
def Tri (W : World) (B : Nat) (x y z : Value) : Prop := W.cell? ⟨B, 0, none⟩ = some x ∧ W.cell? ⟨B, 1, none⟩ = some y ∧ W.cell? ⟨B, 2, none⟩ = some z
theorem Tri.keep {W X : World} {B : Nat} {x y z : Value} (h : Tri W B x y z) (hb : Below W.heap.size W X) (hB : B < W.heap.size) : Tri X B x y z := ⟨((bcell2 hb).1 _ _ hB).trans h.1, ((bcell2 hb).1 _ _ hB).trans h.2.1, ((bcell2 hb).1 _ _ hB).trans h.2.2⟩
theorem Tri.more {W : World} {B : Nat} {x y z : Value} (h : Tri W B x y z) (hB : B < W.heap.size) (o : Obj) : Tri (W.alloc o) B x y z := h.keep ((Below.refl _ W).alloc (Nat.le_refl _) o) hB
set_option maxHeartbeats 4000000 in
theorem walk (e0 : Bool) (n0 : Nat) (q0 : Bool) (k1 : Int) (s : ByteArray) (h0 : n0 < 4294967296) (h1 : (Lit.int .u32 k1).wf = true) (_h2 : s.size ≤ maxLen) (w : World) :
    Calls Try.prog 7 #[asksV e0 n0 q0, .int .u32 k1, .string s] w fun e w' => e = .returned (.bool true) ∧ Below w.heap.size w w' := by
  have hk1 := wfu32 h1
  obtain ⟨key, rfl⟩ : ∃ key : Nat, k1 = key := ⟨k1.toNat, by omega⟩
  have hkey : key < 4294967296 := by omega
  clear h1 hk1
  obtain ⟨E, N, R, ok, hof, hN, hok⟩ := key_back key hkey
  have HOF := Lib.hid (fun u => of5_any key hkey u)
  rw [hof] at HOF
  have HKE := Lib.hid (show ok = true → ∀ u, Calls Try.prog 18 #[identV E N, .bool R] u fun x w' => x = .returned (.int .u32 (key : Int)) ∧ Below u.heap.size u w' from fun h u => by have hh := idkey_any E N R hN u; rw [hok h] at hh; exact hh)
  obtain ⟨X, M, iz, hpa, hiz⟩ := text_back s
  have HPA := Lib.hid (fun u => idparse_any s u)
  rw [hpa] at HPA
  have HTX := Lib.hid (show iz = true → ∀ u, Calls Try.prog 20 #[identV X M] u fun x w' => x = .returned (.string s) ∧ Below u.heap.size u w' from fun h u => (idtext_any X M u).mono (by
    rintro x w' ⟨t, rfl, ht, hb⟩
    exact ⟨by rw [tx_inj (ht.trans (hiz h))], hb⟩))
  obtain ⟨ra, rad⟩ : ∃ b, b = rightI e0 n0 := ⟨_, rfl⟩
  have HR := Lib.hid (fun u => refRight5_any e0 n0 u)
  rw [← rad] at HR
  have HAK := Lib.hid (fun u => idkey_any e0 n0 q0 h0 u)
  have HAO := Lib.hid (show ra = true → ∀ u, Calls Try.prog 9 #[.int .u32 (idKey e0 n0 q0 : Nat)] u fun x w' => x = .returned (.tuple #[identV e0 n0, .bool q0, .bool true]) ∧ Below u.heap.size u w' from fun h u => by
    have hh := of5_any (idKey e0 n0 q0) (idKey_lt _ _ _) u
    unfold ofKeyV at hh
    rw [ofKey_key (rad.symm.trans h)] at hh
    exact hh)
  have HAT := Lib.hid (fun u => idtext_any e0 n0 u)
  have HAP := Lib.hid (show ra = true → ∀ (t : ByteArray), tx t = idText e0 n0 → ∀ u, Calls Try.prog 11 #[.string t] u fun x w' => x = .returned (.tuple #[identV e0 n0, .bool true]) ∧ Below u.heap.size u w' from fun h t ht u => by
    have hh := idparse_any t u
    rw [ht, parse_text (rad.symm.trans h)] at hh
    exact hh)
  obtain ⟨k0, hk0⟩ : ∃ k0, k0 = idKey e0 n0 q0 := ⟨_, rfl⟩
  rw [← hk0] at HAK HAO
  clear hof hok hpa hiz rad h0 hkey hN hk0
  unfold identV at HOF HKE HPA HTX HR HAK HAO HAT HAP
  unfold asksV
  have hkk : ((key : Int) == (key : Int)) = true := by simp
  have TR := Lib.hid (show Tri (w.alloc (.cells #[.bool e0, .int .u32 (n0 : Int), .bool q0] 38)) w.heap.size _ _ _ from tri_cells w (.bool e0) (.int .u32 (n0 : Int)) (.bool q0) 38)
  have B0 := Lib.hid ((Below.refl _ w).alloc (Nat.le_refl _) (.cells #[.bool e0, .int .u32 (n0 : Int), .bool q0] 38))
  by_cases hlen : 100 < s.size
  · have i1 : (100 : Int) < (s.size : Int) := by omega
    go_enter Try.func7, Try.ntmps7
    go_wp2_with (fail)
    refine (live5 _).mono ?_
    rintro x w1 ⟨rfl, hb⟩
    have BE := Lib.hid (below_trans' B0.out hb)
    clear hb
    go_wp2_with (fail)
    go_ret
    exact ⟨rfl, BE.out⟩
  · have i1 : ¬ (100 : Int) < (s.size : Int) := by omega
    go_enter Try.func7, Try.ntmps7
    go_wp2_with (fail)
    refine (HR.out _).mono ?_
    rintro x w1 ⟨rfl, hb⟩
    have B1 := Lib.hid (below_trans' B0.out hb)
    have T1 := Lib.hid (TR.out.keep hb (by simp))
    have hz1 : w.heap.size < w1.heap.size := by have := hb.size; simp at this; omega
    obtain ⟨t0, t1, t2⟩ := T1.out
    clear hb
    cases ra
    · go_wp2_with (fail)
      refine (HOF.out _).mono ?_
      rintro x wa ⟨rfl, hb⟩
      have BA := Lib.hid (below_trans' B1.out hb)
      have BA1 := Lib.hid (BA.out.alloc BA.out.size (.cells #[.bool E, .int .u32 (N : Int)] 24))
      have PA := Lib.hid (Two.new wa (.bool E) (.int .u32 (N : Int)) 24 rfl)
      clear hb
      go_wp2_with (fail)
      refine (HPA.out _).mono ?_
      rintro x wb ⟨rfl, hb⟩
      have BB := Lib.hid (below_trans' BA1.out hb)
      have PB := Lib.hid (PA.out.keep hb (by simp))
      have hza : wa.heap.size < wb.heap.size := by have := hb.size; simp at this; omega
      have BB1 := Lib.hid (BB.out.alloc BB.out.size (.cells #[.bool X, .int .u32 (M : Int)] 24))
      have PB1 := Lib.hid (PB.out.more hza (.cells #[.bool X, .int .u32 (M : Int)] 24))
      have QB1 := Lib.hid (Two.new wb (.bool X) (.int .u32 (M : Int)) 24 rfl)
      clear hb
      go_wp2_with (fail)
      refine (live5 _).mono ?_
      rintro x wc ⟨rfl, hb⟩
      have BC := Lib.hid (below_trans' BB1.out hb)
      have hzb : wb.heap.size < wc.heap.size := by have := hb.size; simp at this; omega
      have PC := Lib.hid (PB1.out.keep hb (by simp; omega))
      have QC := Lib.hid (QB1.out.keep hb (by simp))
      obtain ⟨pa, pb, _, _⟩ := PC.out
      obtain ⟨qa, qb, _, _⟩ := QC.out
      clear hb
      cases ok
      · cases iz
        · go_wp2_with (fail)
          go_ret
          exact ⟨rfl, BC.out⟩
        · go_wp2_with (fail)
          refine (HTX.out (by trivial) _).mono ?_
          rintro x we ⟨rfl, hb⟩
          have BE := Lib.hid (below_trans' BC.out hb)
          clear hb
          go_wp2_with (fail)
          go_ret
          exact ⟨rfl, BE.out⟩
      · cases iz
        · go_wp2_with (fail)
          refine (HKE.out (by trivial) _).mono ?_
          rintro x wd ⟨rfl, hb⟩
          have BD := Lib.hid (below_trans' BC.out hb)
          have QD := Lib.hid (QC.out.keep hb hzb)
          obtain ⟨qa, qb, _, _⟩ := QD.out
          clear hb
          go_wp2_with (fail)
          go_ret
          exact ⟨rfl, BD.out⟩
        · go_wp2_with (fail)
          refine (HKE.out (by trivial) _).mono ?_
          rintro x wd ⟨rfl, hb⟩
          have BD := Lib.hid (below_trans' BC.out hb)
          have QD := Lib.hid (QC.out.keep hb hzb)
          obtain ⟨qa, qb, _, _⟩ := QD.out
          clear hb
          go_wp2_with (fail)
          refine (HTX.out (by trivial) _).mono ?_
          rintro x we ⟨rfl, hb⟩
          have BE := Lib.hid (below_trans' BD.out hb)
          clear hb
          go_wp2_with (fail)
          go_ret
          exact ⟨rfl, BE.out⟩
    · go_wp2_with (fail)
      refine (HAK.out _).mono ?_
      rintro x w2 ⟨rfl, hb⟩
      have B2 := Lib.hid (below_trans' B1.out hb)
      have T2 := Lib.hid (T1.out.keep hb hz1)
      have hz2 : w.heap.size < w2.heap.size := Nat.lt_of_lt_of_le hz1 hb.size
      clear hb
      go_wp2_with (fail)
      refine (HAO.out (by trivial) _).mono ?_
      rintro x w3 ⟨rfl, hb⟩
      have B3 := Lib.hid (below_trans' B2.out hb)
      have T3 := Lib.hid (T2.out.keep hb hz2)
      have hz3 : w.heap.size < w3.heap.size := Nat.lt_of_lt_of_le hz2 hb.size
      have B3A := Lib.hid (B3.out.alloc B3.out.size (.cells #[.bool e0, .int .u32 (n0 : Int)] 24))
      have T3A := Lib.hid (T3.out.more hz3 (.cells #[.bool e0, .int .u32 (n0 : Int)] 24))
      have D3A := Lib.hid (Two.new w3 (.bool e0) (.int .u32 (n0 : Int)) 24 rfl)
      obtain ⟨t0, t1, t2⟩ := T3A.out
      clear hb
      go_wp2_with (fail)
      refine (HAT.out _).mono ?_
      rintro x w4 ⟨tt, rfl, htt, hb⟩
      have B4 := Lib.hid (below_trans' B3A.out hb)
      have T4 := Lib.hid (T3A.out.keep hb (by simp; omega))
      have D4 := Lib.hid (D3A.out.keep hb (by simp))
      have hz4 : w3.heap.size < w4.heap.size := by have := hb.size; simp at this; omega
      have HTT := Lib.hid htt
      clear hb htt
      go_wp2_with (fail)
      refine (HAP.out (by trivial) tt HTT.out _).mono ?_
      rintro x w5 ⟨rfl, hb⟩
      have B5 := Lib.hid (below_trans' B4.out hb)
      have T5 := Lib.hid (T4.out.keep hb (by omega))
      have D5 := Lib.hid (D4.out.keep hb hz4)
      have hz5 : w3.heap.size < w5.heap.size := Nat.lt_of_lt_of_le hz4 hb.size
      have B5A := Lib.hid (B5.out.alloc B5.out.size (.cells #[.bool e0, .int .u32 (n0 : Int)] 24))
      have T5A := Lib.hid (T5.out.more (by omega) (.cells #[.bool e0, .int .u32 (n0 : Int)] 24))
      have D5A := Lib.hid (D5.out.more hz5 (.cells #[.bool e0, .int .u32 (n0 : Int)] 24))
      have F5A := Lib.hid (Two.new w5 (.bool e0) (.int .u32 (n0 : Int)) 24 rfl)
      obtain ⟨t0, t1, t2⟩ := T5A.out
      obtain ⟨d0, d1, _, _⟩ := D5A.out
      obtain ⟨f0, f1, _, _⟩ := F5A.out
      have hqq : (q0 != q0) = false := by simp
      clear hb HAK HAO HAT HAP
      go_wp2_with (fail)
      refine (HOF.out _).mono ?_
      rintro x wa ⟨rfl, hb⟩
      have BA := Lib.hid (below_trans' B5A.out hb)
      have BA1 := Lib.hid (BA.out.alloc BA.out.size (.cells #[.bool E, .int .u32 (N : Int)] 24))
      have PA := Lib.hid (Two.new wa (.bool E) (.int .u32 (N : Int)) 24 rfl)
      clear hb
      go_wp2_with (fail)
      refine (HPA.out _).mono ?_
      rintro x wb ⟨rfl, hb⟩
      have BB := Lib.hid (below_trans' BA1.out hb)
      have PB := Lib.hid (PA.out.keep hb (by simp))
      have hza : wa.heap.size < wb.heap.size := by have := hb.size; simp at this; omega
      have BB1 := Lib.hid (BB.out.alloc BB.out.size (.cells #[.bool X, .int .u32 (M : Int)] 24))
      have PB1 := Lib.hid (PB.out.more hza (.cells #[.bool X, .int .u32 (M : Int)] 24))
      have QB1 := Lib.hid (Two.new wb (.bool X) (.int .u32 (M : Int)) 24 rfl)
      clear hb
      go_wp2_with (fail)
      refine (live5 _).mono ?_
      rintro x wc ⟨rfl, hb⟩
      have BC := Lib.hid (below_trans' BB1.out hb)
      have hzb : wb.heap.size < wc.heap.size := by have := hb.size; simp at this; omega
      have PC := Lib.hid (PB1.out.keep hb (by simp; omega))
      have QC := Lib.hid (QB1.out.keep hb (by simp))
      obtain ⟨pa, pb, _, _⟩ := PC.out
      obtain ⟨qa, qb, _, _⟩ := QC.out
      clear hb
      cases ok
      · cases iz
        · go_wp2_with (fail)
          go_ret
          exact ⟨rfl, BC.out⟩
        · go_wp2_with (fail)
          refine (HTX.out (by trivial) _).mono ?_
          rintro x we ⟨rfl, hb⟩
          have BE := Lib.hid (below_trans' BC.out hb)
          clear hb
          go_wp2_with (fail)
          go_ret
          exact ⟨rfl, BE.out⟩
      · cases iz
        · go_wp2_with (fail)
          refine (HKE.out (by trivial) _).mono ?_
          rintro x wd ⟨rfl, hb⟩
          have BD := Lib.hid (below_trans' BC.out hb)
          have QD := Lib.hid (QC.out.keep hb hzb)
          obtain ⟨qa, qb, _, _⟩ := QD.out
          clear hb
          go_wp2_with (fail)
          go_ret
          exact ⟨rfl, BD.out⟩
        · go_wp2_with (fail)
          refine (HKE.out (by trivial) _).mono ?_
          rintro x wd ⟨rfl, hb⟩
          have BD := Lib.hid (below_trans' BC.out hb)
          have QD := Lib.hid (QC.out.keep hb hzb)
          obtain ⟨qa, qb, _, _⟩ := QD.out
          clear hb
          go_wp2_with (fail)
          refine (HTX.out (by trivial) _).mono ?_
          rintro x we ⟨rfl, hb⟩
          have BE := Lib.hid (below_trans' BD.out hb)
          clear hb
          go_wp2_with (fail)
          go_ret
          exact ⟨rfl, BE.out⟩
set_option maxRecDepth 100000 in
theorem lifted (os : Os) (started : os.Started) (H : Type) (enc : TypeId × Value → H) :
    ReturnsInHanded {} Try.checked os 7 .any (Rows.identBackSpec.pre6 enc Try.prog Try.f7 Rows.identBackRow.domain false) (Rows.identBackSpec.post enc Try.prog Try.f7 false true false false) := by
  refine returnsInHanded_of_change (C := Try.checked) own started (by kernel_rfl) Try.func7
    (ChangeSpec.witness6 (enc := enc) (C := Try.checked) false ⟨#[], #[.agg #[.bool false, .int .u32 0, .bool false], .int .u32 0, .string ⟨#[]⟩], []⟩ 8 (by kernel_rfl) (by kernel_rfl) (by kernel_rfl) (by kernel_rfl)) ?_
  intro W base args ds gs before hval0 hW _ _
  have hval : ∀ (j : Nat) t v, Try.f7.params[j]? = some t → args[j]? = some v → Value.okWide Try.prog W .any base t v := hval0
  have hW' := hW
  obtain ⟨p, q, hA0, hV, rfl, hfz, hnd⟩ := hW
  have hA : DataW.TrodAll enc Try.prog W 0 (fun _ => true) true Try.f7.params.toList args.toList ds p := hA0
  rw [Try.params7] at hA hval
  obtain ⟨v0, vs0, d0, ds0, p0, q0, hargs, rfl, rfl, h0, r0⟩ := trodAll_cons hA
  obtain ⟨v1, vs1, d1, ds1, p1, q1, rfl, rfl, rfl, h1, r1⟩ := trodAll_cons r0
  obtain ⟨v2, vs2, d2, ds2, p2, q2, rfl, rfl, rfl, h2, r2⟩ := trodAll_cons r1
  obtain ⟨rfl, rfl, rfl⟩ := trodAll_nil r2
  obtain rfl : args = #[v0, v1, v2] := by cases args; simp_all
  obtain ⟨rfl, rfl⟩ := trodVars_none hV
  have k0 := h0
  have lt0 : ∀ x ∈ p0, x.block < W.heap.size := by obtain ⟨m, hm⟩ := k0; exact DataW.trod_lt m _ _ _ hm
  obtain ⟨e0, n0, q0, rfl, w0⟩ := open_asks (hval 0 38 v0 rfl rfl) h0
  obtain ⟨a1, rfl, rfl, rfl, w1⟩ := open_int Try.underlying22 (hval 1 22 v1 rfl rfl) h1
  obtain ⟨s2, rfl, rfl, rfl, w2⟩ := Go.ChangeMaps.open_string Try.underlying9 (hval 2 9 v2 rfl rfl) h2
  clear hA0 hval0
  refine (walk e0 n0 q0 a1 s2 w0 w1 w2 W).mono fun e W' ⟨he, bel⟩ => ?_
  subst he
  exact ⟨_, rfl, _, _, _, [], _, [], hW', trodAll_mk1 (shut_bool Try.underlying4 _), (trodAll_cons_mk (Below.trod laidOut (by kernel_rfl) (of_decide_eq_true (by kernel_rfl)) k0 bel lt0) (trodAll_cons_mk (shut_int Try.underlying22 w1) (trodAll_cons_mk (Go.ChangeMaps.shut_string Try.underlying9 w2) trodAll_mk0))), rfl, bel.frame _, fun h => by cases h⟩
theorem over : Rows.identBackRow.holds Try.pinned (OpenSpec.ofChange Rows.identBackSpec) :=
  OpenClaim.holds_of_wide 7 Try.f7 rfl rfl rfl rfl rfl rfl rfl ⟨rfl, rfl, rfl, rfl, rfl⟩ rfl rfl rfl rfl rfl (by kernel_rfl) Try.func7 (by kernel_rfl)
    (of_decide_eq_true (by kernel_rfl)) (by unfold Func.isWrapper; first | (rw [if_pos (by decide +kernel)]; kernel_rfl) | (rw [if_neg (by decide +kernel)]; exact ⟨rfl, rfl⟩))
    (fun os started H enc _ => lifted os started H enc)
/-- The statement. -/
theorem proved : Rows.IdentBackSaid := over
end Go.Proofs.Ytodeaddmachcjaa.identBack
