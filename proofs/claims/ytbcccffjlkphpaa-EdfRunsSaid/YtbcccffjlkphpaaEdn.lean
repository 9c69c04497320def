/- The library's Push and Pop, at the heap of jobs. Conditions: there are at most so many. -/
import Derived.Test.YtbcccffjlkphpaaEdm
namespace Go.Proofs.Ytbcccffjlkphpaa
open Go.RowKit Go.Shelf Go.Sort
set_option linter.unusedSimpArgs false
set_option linter.unusedVariables false
attribute [local go_sem] Oper.semAt_some
theorem take_bang {G : List PJ} {n m : Nat} (hm : m < n) (hn : n ≤ G.length) : (G.take n)[m]! = G[m]! := by
  rw [bang (by simp; omega), bang (by omega), List.getElem_take]
theorem HP.take {len : Int} {G : List PJ} {n : Nat} (h : HP len G n) (hn : n ≤ G.length) : HP len (G.take n) (G.take n).length := fun i h0 hi => by
  have e : (G.take n).length = n := by simp; omega
  rw [e] at hi
  rw [take_bang hi hn, take_bang (by omega) hn]
  exact h i h0 hi
set_option maxRecDepth 100000 in
set_option maxHeartbeats 4000000 in
theorem hpush_any {W : World} {b1 B : Nat} {len : Int} {H C : List PJ} {vH vC : Value} (h : PW W b1 B len H C vH vC) (hH : HP len H H.length) (hbig : H.length < 100000) (x : PJ) : Calls Try.prog 44 #[.iface 60 (.pointer (some ⟨B, 0, none⟩)), .iface 64 x.v] W fun e w' => e = .returned (.tuple #[]) ∧ ∃ H' vH', H'.Perm (H ++ [x]) ∧ HP len H' H'.length ∧ PW w' b1 B len H' C vH' vC ∧ Ch b1 B W w' := by
  have hm0 := fun n' => meth_push n' B W
  have HPU := Lib.hid (ppush_any h hbig x)
  have HUS := Lib.hid (UpI.start hH x)
  have hl : (H ++ [x]).length = H.length + 1 := by simp
  have HLN := Lib.hid hl
  obtain ⟨n, hn⟩ : ∃ n, n = H.length := ⟨_, rfl⟩
  have HNN := Lib.hid hn
  clear h hH hl hn
  unfold PJ.v at HPU ⊢
  go_enter Try.func44, Try.ntmps44
  go_wp2_with fail
  refine HPU.out.mono ?_
  rintro y w1 ⟨rfl, vH', hP, hC⟩
  have HP1 := Lib.hid hP; have HC1 := Lib.hid hC
  clear hP hC hm0
  have hm1 := fun n' => meth_len n' B w1
  have HL := Lib.hid (plen_any HP1.out)
  rw [HLN.out, ← HNN.out, show (((n + 1 : Nat)) : Int) = (n : Int) + 1 by omega] at HL
  go_wp2_with fail
  refine HL.out.mono ?_
  rintro y w2 ⟨rfl, rfl⟩
  have HUP := Lib.hid (up_any HP1.out n (by rw [HLN.out, ← HNN.out]; omega) (by rw [HLN.out]; omega) (by rw [HNN.out]; exact HUS.out))
  clear hm1
  have n0 : (0 : Int) ≤ (n : Int) := by omega
  have n1 : (n : Int) < 100000 := by have := HNN.out; omega
  go_wp2_with fail
  refine HUP.out.mono ?_
  rintro y w3 ⟨rfl, H', h1, h2, h3, h4⟩
  have HFIN := Lib.hid (And.intro h1 (And.intro h2 (And.intro h3 (HC1.out.trans h4))))
  clear h1 h2 h3 h4
  go_wp2_with fail
  go_end0
  exact ⟨rfl, H', vH', HFIN.out.1, HFIN.out.2.1, HFIN.out.2.2.1, HFIN.out.2.2.2⟩
set_option maxRecDepth 100000 in
set_option maxHeartbeats 4000000 in
theorem hpop_any {W : World} {b1 B : Nat} {len : Int} {H C : List PJ} {vH vC : Value} (h : PW W b1 B len H C vH vC) (hH : HP len H H.length) (h0 : 0 < H.length) (hbig : H.length < 1000000) : Calls Try.prog 27 #[.iface 60 (.pointer (some ⟨B, 0, none⟩))] W fun e w' => ∃ (x : PJ) (H' : List PJ) (vH' : Value), e = .returned (.iface 64 x.v) ∧ (x :: H').Perm H ∧ (∀ y ∈ H', ¬ klt len y x) ∧ HP len H' H'.length ∧ PW w' b1 B len H' C vH' vC ∧ Ch b1 B W w' := by
  obtain ⟨n, hn⟩ : ∃ n, n + 1 = H.length := ⟨H.length - 1, by omega⟩
  have hm0 := fun n' => meth_len n' B W
  have hm1 := fun n' => meth_swap n' B W
  have HL := Lib.hid (plen_any h)
  rw [← hn, show (((n + 1 : Nat)) : Int) = (n : Int) + 1 by omega] at HL
  have HSW := Lib.hid (pswap_any h 0 n h0 (by omega))
  rw [show (((0 : Nat)) : Int) = 0 by rfl] at HSW
  have HDS := Lib.hid (DnI.start hH hn)
  have HRT := Lib.hid hH.root
  have HSP := Lib.hid (swp_perm h0 (show n < H.length by omega))
  have HSN := Lib.hid (show (swp H 0 n)[n]! = H[0]! by rw [swp_get h0 (by omega) (by omega), if_pos rfl])
  have HNN := Lib.hid hn
  have n0 : (0 : Int) ≤ (n : Int) := by omega
  have n1 : (n : Int) < 1000000 := by omega
  clear h hH hn h0
  go_enter Try.func27, Try.ntmps27
  go_wp2_with fail
  refine HL.out.mono ?_
  rintro y w1 ⟨rfl, rfl⟩
  go_wp2_with fail
  refine HSW.out.mono ?_
  rintro y w2 ⟨rfl, hP, hC⟩
  have HP2 := Lib.hid hP; have HC2 := Lib.hid hC
  clear hP hC hm0 hm1
  have HDN := Lib.hid (down_any HP2.out n (by rw [swp_len]; have := HNN.out; omega) (by rw [swp_len]; exact hbig) HDS.out)
  go_wp2_with fail
  refine HDN.out.mono ?_
  rintro y w3 ⟨⟨b, rfl⟩, G, g1, g2, g3, g4, g5⟩
  have HG1 := Lib.hid g1; have HG3 := Lib.hid g3; have HP3 := Lib.hid g4; have HC3 := Lib.hid (HC2.out.trans g5)
  have HGL := Lib.hid (show G.length = n + 1 by rw [g1.length_eq, swp_len]; have := HNN.out; omega)
  have HGN := Lib.hid (show G[n]! = H[0]! by rw [g2 n (Nat.le_refl _) (by rw [swp_len]; have := HNN.out; omega)]; exact HSN.out)
  clear g1 g2 g3 g4 g5
  have hm2 := fun n' => meth_pop n' B w3
  have HPO := Lib.hid (ppop_any HP3.out n HGL.out (by omega))
  rw [HGN.out] at HPO
  obtain ⟨x, hx⟩ : ∃ x, x = H[0]! := ⟨_, rfl⟩
  have HX := Lib.hid hx
  rw [← hx] at HPO
  clear hx
  go_wp2_with fail
  refine HPO.out.mono ?_
  rintro y w4 ⟨rfl, vH', hP, hC⟩
  have HP4 := Lib.hid hP; have HC4 := Lib.hid (HC3.out.trans hC)
  clear hP hC hm2
  have HRES := Lib.hid (show (x :: G.take n).Perm H ∧ (∀ y ∈ G.take n, ¬ klt len y x) ∧ HP len (G.take n) (G.take n).length by
    have hGl := HGL.out
    have e : G = G.take n ++ [x] := by
      rw [HX.out, ← HGN.out, bang (by omega)]
      conv => lhs; rw [← List.take_append_drop n G]
      congr 1
      rw [List.drop_eq_getElem_cons (by omega), List.drop_of_length_le (by omega)]
    have hp : (x :: G.take n).Perm G := by
      conv => rhs; rw [e]
      exact (List.perm_append_singleton x (G.take n)).symm
    refine ⟨hp.trans (HG1.out.trans HSP.out), fun y hy => ?_, HG3.out.take (by omega)⟩
    have hyH : y ∈ H := (HG1.out.trans HSP.out).mem_iff.1 (List.mem_of_mem_take hy)
    obtain ⟨m, hm, rfl⟩ := List.getElem_of_mem hyH
    have := HRT.out m hm
    rw [bang hm] at this
    rw [HX.out]
    exact this)
  go_wp2_with fail
  go_ret
  exact ⟨x, G.take n, vH', rfl, HRES.out.1, HRES.out.2.1, HRES.out.2.2, HP4.out, HC4.out⟩
end Go.Proofs.Ytbcccffjlkphpaa
