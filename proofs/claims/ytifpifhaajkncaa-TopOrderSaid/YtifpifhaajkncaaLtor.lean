/- TopOrder (E3): of every list of frames: posts that are taken by the best one, and laid into an inbox, are read in the order in which they win. No conditions. -/
import Derived.Test.YtifpifhaajkncaaRows
import Derived.Test.YtifpifhaajkncaaBxg
import Derived.Test.YtifpifhaajkncaaBat
import Derived.Test.YtifpifhaajkncaaInt
import Derived.Test.YtifpifhaajkncaaInf
import Derived.WalkKit
import Derived.ProofKit
import Derived.OpenShut
import Derived.ShutString
import Derived.ChangeOld
import Derived.Below
namespace Go.Proofs.Ytifpifhaajkncaa.topOrder
open Go.ChangeShapes Go.WideShapes Go.ChangeAt Go.RowKit
theorem own : ownKnob Try.prog.godebug = none := by kernel_rfl
theorem laidOut : laidOutB Try.prog = true := by kernel_rfl
theorem frame11_pfx (s : FD) (hn : s.n < 4294967296) (i : Nat) (w : World) : Calls Try.prog 27 #[.agg #[.bool s.e, .int .u32 (s.n : Int), .bool s.q, .int .i64 s.l, .int .u8 (s.x0 : Int), .int .u8 (s.x1 : Int), .int .u8 (s.x2 : Int), .int .u8 (s.x3 : Int), .int .u8 (s.x4 : Int), .int .u8 (s.x5 : Int), .int .u8 (s.x6 : Int), .int .u8 (s.x7 : Int)]] w fun y w' => y = .returned (.agg #[.bool (pfx s i).e, .int .u32 ((pfx s i).n : Int), .bool (pfx s i).q, .int .i64 (pfx s i).l, .int .u8 ((pfx s i).x0 : Int), .int .u8 ((pfx s i).x1 : Int), .int .u8 ((pfx s i).x2 : Int), .int .u8 ((pfx s i).x3 : Int), .int .u8 ((pfx s i).x4 : Int), .int .u8 ((pfx s i).x5 : Int), .int .u8 ((pfx s i).x6 : Int), .int .u8 ((pfx s i).x7 : Int)]) ∧ Below w.heap.size w w' :=
  frame11_any s.e s.n hn s.q s.l s.x0 s.x1 s.x2 s.x3 s.x4 s.x5 s.x6 s.x7 w
/-- A post's frame, stamped. -/
def sdOf (p : PD) : SD := ⟨p.e, p.n, p.q, p.l, p.x0, p.x1, p.x2, p.x3, p.x4, p.x5, p.x6, p.x7, 0, 0⟩
/-- How many of the first n are full, by memory alone. -/
def lenW (B : Nat) (W : World) : Nat → Nat
  | 0 => 0
  | n + 1 => lenW B W n + match W.cell? ⟨B, n * 15, none⟩ with
    | some (.bool true) => 1
    | _ => 0
theorem lenW_is {W : World} {B : Nat} {M : List BD} {room : Nat} (h : BxA W B M room) : ∀ n, n ≤ 8 → lenW B W n = lenF M n := by
  intro n
  induction n with
  | zero => intro _; rfl
  | succ n ih =>
    intro hn
    unfold lenW lenF
    rw [ih (by omega)]
    have := (h.cell (j := n) (by omega) (i := 0) (u := .bool (bxAt M n).full) rfl).1
    rw [Nat.add_zero] at this
    rw [this]
    cases (bxAt M n).full <;> rfl
theorem rd_keptS {W X : World} {k : Nat} {v : Value} {L : List Value} (h : Rd W k v L) (hs : W.heap.size ≤ X.heap.size) (hb : ∀ g, v.ownBlock = some g → g < W.heap.size → X.heap[g]? = W.heap[g]?) : Rd X k v L := by
  obtain ⟨n, cap, a, rfl, h1, h2, h3, h4⟩ := h
  refine ⟨n, cap, a, rfl, h1, h2, h3, ?_⟩
  rcases h4 with h5 | ⟨g, off, rfl, hg, hc⟩
  · exact .inl h5
  · exact .inr ⟨g, off, rfl, Nat.lt_of_lt_of_le hg hs, fun j u hj => by rw [World.cell?_of_block (hb g rfl hg)]; exact hc j u hj⟩
/-- Mailboxes at B, an inbox behind them. -/
structure T7 (W : World) (B : Nat) (M : List BD) (Bi : Nat) (fv : Value) (Q : List SD) (v : Value) : Prop where
  bx : BxA W B M 8
  ia : IA W 103 Bi 8 [] fv Q v false
  hi : B < Bi ∧ (∀ g, fv.ownBlock = some g → B < g) ∧ (∀ g, v.ownBlock = some g → B < g)
theorem T7.on {W X : World} {B : Nat} {M : List BD} {Bi : Nat} {fv : Value} {Q : List SD} {v : Value} (h : T7 W B M Bi fv Q v) (hb : Below W.heap.size W X) : T7 X B M Bi fv Q v := ⟨h.bx.on hb, h.ia.on hb, h.hi⟩
theorem T7.stepB {W X : World} {B : Nat} {M M' : List BD} {Bi : Nat} {fv : Value} {Q : List SD} {v : Value} (h : T7 W B M Bi fv Q v) (hx : BxA X B M' 8) (hk : Kp B (.slice none 0 0) W X) : T7 X B M' Bi fv Q v :=
  ⟨hx, ⟨h.ia.blk.on (hk.block Bi h.ia.lt (by have := h.hi.1; omega) (by simp [Value.ownBlock])), rd_keptS h.ia.fil hk.size (fun g hg hl => hk.block g hl (by have := h.hi.2.1 g hg; omega) (by simp [Value.ownBlock])), fun g hg => ⟨Nat.lt_of_lt_of_le (h.ia.flt g hg).1 hk.size, (h.ia.flt g hg).2⟩, h.ia.row.on hk.size (fun g hg => hk.block g (h.ia.row.lt g hg) (by have := h.hi.2.2 g hg; omega) (by simp [Value.ownBlock])), h.ia.own⟩, h.hi⟩
theorem T7.stepI {W X : World} {B : Nat} {M : List BD} {Bi : Nat} {fv : Value} {Q Q' : List SD} {v v' : Value} (h : T7 W B M Bi fv Q v) (hx : IA X 103 Bi 8 [] fv Q' v' false) (hk : Kp Bi v W X) (hn : Nx W v v') : T7 X B M Bi fv Q' v' :=
  ⟨⟨h.bx.blk.on (hk.block B h.bx.lt (by have := h.hi.1; omega) (fun e => by have := h.hi.2.2 B e; omega)), h.bx.eight, h.bx.r1, h.bx.r8⟩, hx, h.hi.1, h.hi.2.1, fun g hg => by
    rcases hn g hg with h2 | h2
    · exact h.hi.2.2 g h2
    · have := h.bx.lt; omega⟩
theorem off_all (Q : List SD) (s : SD) (h : Q.length < 8) : offF 8 [] Q false s = (Q ++ [s], false, true) := by
  unfold offF
  rw [if_neg (by simp [letsB]), if_neg (by omega)]
theorem setCells_sizeG {B : Nat} : ∀ (vs : List Value) (o : Nat) (W : World), (W.setCells B o vs).heap.size = W.heap.size
  | [], _, _ => rfl
  | v :: vs, o, W => (setCells_sizeG vs (o + 1) _).trans (setCell_sizeG W ⟨B, o, none⟩ v)
theorem nest12_eq (W : World) (D : Nat) (v0 v1 v2 v3 v4 v5 v6 v7 v8 v9 v10 v11 : Value) : ((((((((((((W.setCell ⟨D, 0, none⟩ (v0)).setCell ⟨D, 1, none⟩ (v1)).setCell ⟨D, 2, none⟩ (v2)).setCell ⟨D, 3, none⟩ (v3)).setCell ⟨D, 4, none⟩ (v4)).setCell ⟨D, 5, none⟩ (v5)).setCell ⟨D, 6, none⟩ (v6)).setCell ⟨D, 7, none⟩ (v7)).setCell ⟨D, 8, none⟩ (v8)).setCell ⟨D, 9, none⟩ (v9)).setCell ⟨D, 10, none⟩ (v10)).setCell ⟨D, 11, none⟩ (v11)) = W.setCells D 0 [v0, v1, v2, v3, v4, v5, v6, v7, v8, v9, v10, v11] := rfl
theorem wins_no (p p' : PD) (h : keyP p ≤ keyP p') : winsI p'.e p'.n p'.q p.e p.n p.q = false := by
  unfold winsI
  rw [decide_eq_false (show ¬ idKey p'.e p'.n p'.q < idKey p.e p.n p.q from Nat.not_lt.2 h)]
  simp
set_option maxRecDepth 100000 in
set_option maxHeartbeats 8000000 in
theorem walk (a : Option Addr) (len cap : Nat) (L : List FD) (w : World) (w0 : L.length = len ∧ (∀ s ∈ L, s.wf) ∧ Rd w 12 (.slice a len cap) (L.flatMap FD.C)) :
    Calls Try.prog 9 #[.slice a len cap] w fun y w' => y = .returned (.bool true) ∧ Below w.heap.size w w' := by
  obtain ⟨rfl, hwf, hRd⟩ := w0
  have HRD := Lib.hid hRd; have HWF := Lib.hid hwf
  have HNW := Lib.hid (new_any 8 (by decide) (by decide) w)
  have HNI := Lib.hid (fun u => inew_any 8 (by decide) (by decide) [] none 0 0 (by decide) u (rd_nil u))
  obtain ⟨B, hB⟩ : ∃ B, B = w.heap.size := ⟨_, rfl⟩
  have HBB := Lib.hid hB
  rw [← hB] at HNW
  clear hRd hwf hB
  go_enter Try.func9, Try.ntmps9
  go_wp2_with fail
  refine HNW.out.mono ?_
  rintro y w3 ⟨rfl, hx, hb⟩
  have HX3 := Lib.hid hx; have HB3 := Lib.hid (show Below w.heap.size w w3 by rw [← HBB.out]; exact hb)
  clear hx hb
  go_wp2_with fail
  refine (HNI.out _).mono ?_
  rintro y w4 ⟨Bi, fv, rfl, hBi, hI, hfv, hb⟩
  have HT4 := Lib.hid (show T7 w4 B (List.replicate 8 BD.zero) Bi fv [] (.slice none 0 0) from ⟨HX3.out.on hb, hI, by have := HX3.out.lt; omega, fun g hg => by have := hfv g hg; have := HX3.out.lt; omega, fun g hg => by cases hg⟩)
  have HB4 := Lib.hid (below_transG HB3.out hb)
  clear hBi hI hfv hb
  go_wp2_with fail
  go_loopw [7] (fun s7 wr => ∃ (i : Nat) (M : List BD), s7 = .int .i64 (i : Int) ∧ i ≤ 8 ∧ i ≤ L.length ∧ PI M i ∧ T7 wr B M Bi fv [] (.slice none 0 0) ∧ Below w.heap.size w wr) (fun s7 _ => 8 - (intOf s7).toNat)
  case atStart => exact ⟨0, _, rfl, by omega, by omega, PI.zero, HT4.out, HB4.out⟩
  case round =>
    obtain ⟨i, M, rfl, hi8, hiL, hp, hx, hb⟩ := hrel
    have HP := Lib.hid hp; have HX := Lib.hid hx; have HB := Lib.hid hb
    clear hp hx hb
    by_cases hgo : i < L.length ∧ i < 8
    · have hlt := hgo.1
      have i1 : (i : Int) < (L.length : Int) := by omega
      have i2 : (i : Int) < 8 := by have := hgo.2; omega
      have i3 : (0 : Int) ≤ (i : Int) := by omega
      have HI8 := Lib.hid hgo
      obtain ⟨g, off, rfl, hg, hcell⟩ := rd_fd HRD.out hlt
      obtain ⟨s, hs⟩ : ∃ s, s = L[i] := ⟨_, rfl⟩
      rw [← hs] at hcell
      have HN := Lib.hid (show s.n < 4294967296 by rw [hs]; exact HWF.out _ (List.getElem_mem _))
      have hcw : ∀ j u, s.C[j]? = some u → wr.cell? ⟨g, off + i * 12 + j, none⟩ = some u := fun j u h => (HB.out.cell (p := ⟨g, off + i * 12 + j, none⟩) hg).trans (hcell j u h)
      have HFR := Lib.hid (fun u => frame11_pfx s HN.out i u)
      have HPU := Lib.hid (fun u hu => put_any B M 8 (pfx s i) u (HX.out.bx.on hu))
      rw [HP.out.put HI8.out.2 (pfx s i) (pfx_right s i) rfl] at HPU
      have HPN := Lib.hid (HP.out.next HI8.out.2 (pfx s i) rfl (fixN_lt _ _))
      obtain ⟨P, hP⟩ : ∃ P, P = pfx s i := ⟨_, rfl⟩
      have HT := Lib.hid (show P.tag = (i : Int) ∧ P.once = false by rw [hP]; exact ⟨rfl, rfl⟩)
      rw [← hP] at HFR HPU HPN
      clear hs hP hcell hgo hlt
      obtain ⟨e, n, q, l, x0, x1, x2, x3, x4, x5, x6, x7, once, tag⟩ := P
      obtain ⟨rfl, rfl⟩ := HT.out
      unfold PD.V at HPU
      simp only at HFR HPU HPN
      obtain ⟨se, sn, sq, sl, sx0, sx1, sx2, sx3, sx4, sx5, sx6, sx7⟩ := s
      simp only at HFR
      have e0 : wr.cell? ⟨g, off + i * 12, none⟩ = some (.bool se) := hcw 0 _ rfl
      have e1 : wr.cell? ⟨g, off + i * 12 + 1, none⟩ = some (.int .u32 (sn : Int)) := hcw 1 _ rfl
      have e2 : wr.cell? ⟨g, off + i * 12 + 2, none⟩ = some (.bool sq) := hcw 2 _ rfl
      have e3 : wr.cell? ⟨g, off + i * 12 + 3, none⟩ = some (.int .i64 sl) := hcw 3 _ rfl
      have e4 : wr.cell? ⟨g, off + i * 12 + 4, none⟩ = some (.int .u8 (sx0 : Int)) := hcw 4 _ rfl
      have e5 : wr.cell? ⟨g, off + i * 12 + 5, none⟩ = some (.int .u8 (sx1 : Int)) := hcw 5 _ rfl
      have e6 : wr.cell? ⟨g, off + i * 12 + 6, none⟩ = some (.int .u8 (sx2 : Int)) := hcw 6 _ rfl
      have e7 : wr.cell? ⟨g, off + i * 12 + 7, none⟩ = some (.int .u8 (sx3 : Int)) := hcw 7 _ rfl
      have e8 : wr.cell? ⟨g, off + i * 12 + 8, none⟩ = some (.int .u8 (sx4 : Int)) := hcw 8 _ rfl
      have e9 : wr.cell? ⟨g, off + i * 12 + 9, none⟩ = some (.int .u8 (sx5 : Int)) := hcw 9 _ rfl
      have e10 : wr.cell? ⟨g, off + i * 12 + 10, none⟩ = some (.int .u8 (sx6 : Int)) := hcw 10 _ rfl
      have e11 : wr.cell? ⟨g, off + i * 12 + 11, none⟩ = some (.int .u8 (sx7 : Int)) := hcw 11 _ rfl
      clear hcw HT
      go_wp2_with fail
      refine (HFR.out _).mono ?_
      rintro y w5 ⟨rfl, hb⟩
      have HB5 := Lib.hid hb
      clear hb e0 e1 e2 e3 e4 e5 e6 e7 e8 e9 e10 e11
      go_wp2_with fail
      refine (HPU.out _ HB5.out).mono ?_
      rintro y w6 ⟨rfl, hx, hk⟩
      have HX6 := Lib.hid ((HX.out.on HB5.out).stepB hx hk); have HB6 := Lib.hid ((below_transG HB.out HB5.out).trans (hk.belowN (by rw [HBB.out]; exact Nat.le_refl _) (below_transG HB.out HB5.out).size (fun g hg => by cases hg)))
      clear hx hk
      go_wp2_with fail
      go_roundw
      case rel => exact ⟨i + 1, _, by simp, by have := HI8.out; omega, by have := HI8.out; omega, HPN.out, HX6.out, HB6.out⟩
      case measure => have := HI8.out; simp [intOf]; omega
    · have hT : ((i : Int) < (L.length : Int) ∧ ¬ (i : Int) < 8 ∧ i = 8) ∨ (¬ (i : Int) < (L.length : Int) ∧ i = L.length) := by omega
      have HO0 := Lib.hid (HP.out.oi hi8)
      have HLE := Lib.hid (blen_any B M 8 wr HX.out.bx)
      rw [HO0.out.many] at HLE
      have HI8 := Lib.hid (show i ≤ 8 ∧ i ≤ L.length from ⟨hi8, hiL⟩)
      clear hgo hi8 hiL
      rcases hT with ⟨i1, i2, hiE⟩ | ⟨i1, hiE⟩
      all_goals
        have HIE := Lib.hid hiE
        clear hiE
        go_wp2_with fail
        refine HLE.out.mono ?_
        rintro y w5 ⟨rfl, hb⟩
        have HX5 := Lib.hid (HX.out.on hb); have HB5 := Lib.hid (below_transG HB.out hb)
        clear hb HLE
        go_wp2_with fail
        go_loopw [] (fun wr => ∃ (j last : Nat) (M : List BD) (Ps : List PD) (v : Value), j ≤ i ∧ OI M (i - j) last ∧ Ps.length = j ∧ Ps.Pairwise (fun p p' => keyP p ≤ keyP p') ∧ (∀ p ∈ Ps, keyP p ≤ last ∧ p.n < 4294967296) ∧ T7 wr B M Bi fv (Ps.map sdOf) v ∧ Below w.heap.size w wr) (fun wr => lenW B wr 8)
        case atStart => exact ⟨0, 0, _, [], _, by omega, HO0.out, rfl, List.Pairwise.nil, fun p hp => (by cases hp), HX5.out, HB5.out⟩
        case round =>
          obtain ⟨j, last, M2, Ps, v, hj, ho, hps, hpw, hpl, hx, hb⟩ := hrel
          have HO := Lib.hid ho; have HY := Lib.hid hx; have HC := Lib.hid hb; have HPS := Lib.hid hps; have HPW := Lib.hid hpw; have HPL := Lib.hid hpl
          have HL2 := Lib.hid (blen_any B M2 8 wr hx.bx)
          rw [ho.many] at HL2
          have HME := Lib.hid (show lenW B wr 8 = i - j by rw [lenW_is hx.bx 8 (Nat.le_refl _)]; exact ho.many)
          clear ho hx hb hps hpw hpl
          by_cases hji : j < i
          · obtain ⟨r, hr⟩ : ∃ r, r = i - j := ⟨_, rfl⟩
            rw [← hr] at HL2
            have i3 : (0 : Int) < (r : Int) := by omega
            have hst := OI.step (m := i - (j + 1)) (by rw [show i - (j + 1) + 1 = i - j by omega]; exact HO.out)
            obtain ⟨b, hb8, hbest, htake, hlast, hn, hoi⟩ := hst
            have HOI := Lib.hid hoi
            have HBE := Lib.hid (fun u hu => best_any B M2 8 HO.out.small u (HY.out.bx.on hu))
            rw [hbest] at HBE
            have HTK := Lib.hid (fun u hu => take_any B M2 8 (b : Int) u (HY.out.bx.on hu))
            rw [htake] at HTK
            obtain ⟨P, hp⟩ : ∃ p, p = (bxAt M2 b).p := ⟨_, rfl⟩
            rw [← hp] at HTK HOI hlast hn
            have HQL := Lib.hid (show (Ps.map sdOf).length < 8 by rw [List.length_map, HPS.out]; have := HI8.out.1; omega)
            have HOFF := Lib.hid (fun u M' (hu : T7 u B M' Bi fv (Ps.map sdOf) v) => offer_any Bi 8 [] fv (Ps.map sdOf) v false (sdOf P) (by decide) (by have := HQL.out; omega) u hu.ia)
            rw [off_all _ _ HQL.out] at HOFF
            have HNP := Lib.hid (show (Ps ++ [P]).length = j + 1 ∧ (Ps ++ [P]).Pairwise (fun p p' => keyP p ≤ keyP p') ∧ (∀ p ∈ Ps ++ [P], keyP p ≤ keyP P ∧ p.n < 4294967296) ∧ (Ps ++ [P]).map sdOf = Ps.map sdOf ++ [sdOf P] from by
              refine ⟨by rw [List.length_append, HPS.out]; rfl, ?_, fun p hm => ?_, by rw [List.map_append]; rfl⟩
              · refine List.pairwise_append.2 ⟨HPW.out, List.pairwise_singleton _ _, fun p hm q hq => ?_⟩
                obtain rfl := List.mem_singleton.1 hq
                exact Nat.le_trans (HPL.out p hm).1 hlast
              · rcases List.mem_append.1 hm with hm | hm
                · exact ⟨Nat.le_trans (HPL.out p hm).1 hlast, (HPL.out p hm).2⟩
                · obtain rfl := List.mem_singleton.1 hm
                  exact ⟨Nat.le_refl _, hn⟩)
            have HJI := Lib.hid hji
            obtain ⟨P2, hP2⟩ : ∃ P2, P2 = P := ⟨_, rfl⟩
            have HPP := Lib.hid hP2
            rw [← hP2] at HTK HOFF
            obtain ⟨e, n, q, l, x0, x1, x2, x3, x4, x5, x6, x7, once, tag⟩ := P2
            unfold PD.V at HTK
            unfold SD.V sdOf at HOFF
            simp only at HTK HOFF
            clear hbest htake hlast hn hoi hp hb8 hji hr hP2
            go_wp2_with fail
            refine HL2.out.mono ?_
            rintro y w6 ⟨rfl, hb⟩
            have HB6 := Lib.hid hb
            clear hb
            go_wp2_with fail
            refine (HBE.out _ HB6.out).mono ?_
            rintro y w7 ⟨rfl, hb⟩
            have HB7 := Lib.hid (below_transG HB6.out hb)
            clear hb
            go_wp2_with fail
            refine (HTK.out _ HB7.out).mono ?_
            rintro y w8 ⟨rfl, hx, hk⟩
            obtain ⟨W9, hW9⟩ : ∃ W9, W9 = w8.alloc (.cells #[.bool e, .int .u32 (n : Int), .bool q, .int .i64 l, .int .u8 (x0 : Int), .int .u8 (x1 : Int), .int .u8 (x2 : Int), .int .u8 (x3 : Int), .int .u8 (x4 : Int), .int .u8 (x5 : Int), .int .u8 (x6 : Int), .int .u8 (x7 : Int), .bool once, .int .i64 tag] 39) := ⟨_, rfl⟩
            have hb9 : Below w8.heap.size w8 W9 := by rw [hW9]; exact (Below.refl _ w8).alloc (Nat.le_refl _) _
            have HX9 := Lib.hid (((HY.out.on HB7.out).stepB hx hk).on hb9); have HB9 := Lib.hid (below_transG ((below_transG HC.out HB7.out).trans (hk.belowN (by rw [HBB.out]; exact Nat.le_refl _) (below_transG HC.out HB7.out).size (fun g hg => by cases hg))) hb9)
            have hS := (show Blk W9 w8.heap.size 39 [.bool e, .int .u32 (n : Int), .bool q, .int .i64 l, .int .u8 (x0 : Int), .int .u8 (x1 : Int), .int .u8 (x2 : Int), .int .u8 (x3 : Int), .int .u8 (x4 : Int), .int .u8 (x5 : Int), .int .u8 (x6 : Int), .int .u8 (x7 : Int), .bool once, .int .i64 tag] by rw [hW9]; exact Blk.new w8 _ [.bool e, .int .u32 (n : Int), .bool q, .int .i64 l, .int .u8 (x0 : Int), .int .u8 (x1 : Int), .int .u8 (x2 : Int), .int .u8 (x3 : Int), .int .u8 (x4 : Int), .int .u8 (x5 : Int), .int .u8 (x6 : Int), .int .u8 (x7 : Int), .bool once, .int .i64 tag])
            clear hx hk hb9
            go_upto_region 12 with fail
            rw [← hW9]
            clear hW9
            have d0 := hS.cellAt (i := 0) (by simp)
            have f0 := hS.frozenAt 0
            have d1 := hS.cellAt (i := 1) (by simp)
            have f1 := hS.frozenAt 1
            have d2 := hS.cellAt (i := 2) (by simp)
            have f2 := hS.frozenAt 2
            have d3 := hS.cellAt (i := 3) (by simp)
            have f3 := hS.frozenAt 3
            have d4 := hS.cellAt (i := 4) (by simp)
            have f4 := hS.frozenAt 4
            have d5 := hS.cellAt (i := 5) (by simp)
            have f5 := hS.frozenAt 5
            have d6 := hS.cellAt (i := 6) (by simp)
            have f6 := hS.frozenAt 6
            have d7 := hS.cellAt (i := 7) (by simp)
            have f7 := hS.frozenAt 7
            have d8 := hS.cellAt (i := 8) (by simp)
            have f8 := hS.frozenAt 8
            have d9 := hS.cellAt (i := 9) (by simp)
            have f9 := hS.frozenAt 9
            have d10 := hS.cellAt (i := 10) (by simp)
            have f10 := hS.frozenAt 10
            have d11 := hS.cellAt (i := 11) (by simp)
            have f11 := hS.frozenAt 11
            have d12 := hS.cellAt (i := 12) (by simp)
            have f12 := hS.frozenAt 12
            have d13 := hS.cellAt (i := 13) (by simp)
            have f13 := hS.frozenAt 13
            simp only [List.getElem_cons_zero, List.getElem_cons_succ] at d0 d1 d2 d3 d4 d5 d6 d7 d8 d9 d10 d11 d12 d13
            clear hS
            go_wp2_with fail
            refine (HOFF.out _ _ HX9.out).mono ?_
            rintro y w10 ⟨v10, rfl, hia, hk, hn⟩
            have HX10 := Lib.hid (show T7 w10 B (M2.set b BD.zero) Bi fv ((Ps ++ [P]).map sdOf) v10 by
              rw [HNP.out.2.2.2]
              have h := HX9.out.stepI hia hk hn
              rw [← HPP.out]
              exact h)
            have HB10 := Lib.hid (HB9.out.trans (hk.belowN (by have := HX9.out.hi.1; rw [← HBB.out]; omega) HB9.out.size (fun g hg => by have := HX9.out.hi.2.2 g hg; rw [← HBB.out]; omega)))
            have HMN := Lib.hid (show lenW B w10 8 = i - (j + 1) by rw [lenW_is HX10.out.bx 8 (Nat.le_refl _)]; exact HOI.out.many)
            clear hia hk hn d0 d1 d2 d3 d4 d5 d6 d7 d8 d9 d10 d11 d12 d13 f0 f1 f2 f3 f4 f5 f6 f7 f8 f9 f10 f11 f12 f13
            go_wp2_with fail
            go_roundw
            case rel => exact ⟨j + 1, keyP P, _, Ps ++ [P], v10, HJI.out, HOI.out, HNP.out.1, HNP.out.2.1, HNP.out.2.2.1, HX10.out, HB10.out⟩
            case measure => have := HJI.out; rw [HMN.out, HME.out]; omega
          · obtain rfl : j = i := by omega
            rw [Nat.sub_self] at HL2
            have HPS2 := Lib.hid (show (Ps.map sdOf).length = j by rw [List.length_map]; exact HPS.out)
            go_wp2_with fail
            refine HL2.out.mono ?_
            rintro y w6 ⟨rfl, hb⟩
            obtain ⟨W7, hW7⟩ : ∃ W7, W7 = w6.alloc (.cells #[.bool false, .int .u32 0, .bool false, .int .i64 0, .int .u8 0, .int .u8 0, .int .u8 0, .int .u8 0, .int .u8 0, .int .u8 0, .int .u8 0, .int .u8 0] 37) := ⟨_, rfl⟩
            have hb7 : Below w6.heap.size w6 W7 := by rw [hW7]; exact (Below.refl _ w6).alloc (Nat.le_refl _) _
            have HI7 := Lib.hid ((HY.out.ia.on hb).on hb7); have HB7 := Lib.hid (below_transG (below_transG HC.out hb) hb7)
            have HS7 := Lib.hid (show Blk W7 w6.heap.size 37 [.bool false, .int .u32 0, .bool false, .int .i64 0, .int .u8 0, .int .u8 0, .int .u8 0, .int .u8 0, .int .u8 0, .int .u8 0, .int .u8 0, .int .u8 0] by rw [hW7]; exact Blk.new w6 _ [.bool false, .int .u32 0, .bool false, .int .i64 0, .int .u8 0, .int .u8 0, .int .u8 0, .int .u8 0, .int .u8 0, .int .u8 0, .int .u8 0, .int .u8 0])
            obtain ⟨D, hD⟩ : ∃ D, D = w6.heap.size := ⟨_, rfl⟩
            have HDW := Lib.hid (show w.heap.size ≤ D by rw [hD]; exact (below_transG HC.out hb).size)
            have HNE := Lib.hid (show D ≠ Bi ∧ v.ownBlock ≠ some D ∧ fv.ownBlock ≠ some D from by
              have hi := HY.out.ia.on hb
              refine ⟨fun e => ?_, fun e => ?_, fun e => ?_⟩
              · have := hi.lt; omega
              · have := hi.row.lt _ e; omega
              · have := (hi.flt _ e).1; omega)
            rw [← hD] at HS7
            clear hb hb7
            go_upto_region 15 with fail
            rw [← hW7, ← hD]
            clear hW7 hD
            go_wp2_with fail
            go_loopw [12] (fun s12 wr => ∃ (k : Nat) (v : Value) (P0 : PD), s12 = .int .i64 (k : Int) ∧ k ≤ j ∧ IA wr 103 Bi 8 [] fv ((Ps.map sdOf).drop k) v false ∧ (0 < k → Ps[k - 1]? = some P0) ∧ Blk wr D 37 [.bool P0.e, .int .u32 (P0.n : Int), .bool P0.q, .int .i64 P0.l, .int .u8 (P0.x0 : Int), .int .u8 (P0.x1 : Int), .int .u8 (P0.x2 : Int), .int .u8 (P0.x3 : Int), .int .u8 (P0.x4 : Int), .int .u8 (P0.x5 : Int), .int .u8 (P0.x6 : Int), .int .u8 (P0.x7 : Int)] ∧ D ≠ Bi ∧ v.ownBlock ≠ some D ∧ fv.ownBlock ≠ some D ∧ (w.heap.size ≤ Bi ∧ ∀ g, v.ownBlock = some g → w.heap.size ≤ g) ∧ Below w.heap.size w wr) (fun s12 _ => j - (intOf s12).toNat)
            case atStart => exact ⟨0, v, PD.zero, rfl, by omega, HI7.out, fun h => by omega, HS7.out, HNE.out.1, HNE.out.2.1, HNE.out.2.2, ⟨by have := HY.out.hi.1; have := HBB.out; omega, fun g hg => by have := HY.out.hi.2.2 g hg; have := HBB.out; omega⟩, HB7.out⟩
            case round =>
              obtain ⟨k, v3, P0, rfl, hkj, hia, hp0, hbl, hn1, hn2, hn3, hlo, hb⟩ := hrel
              have HIA := Lib.hid hia; have HP0 := Lib.hid hp0; have HBL := Lib.hid hbl; have HN := Lib.hid (And.intro hn1 (And.intro hn2 hn3)); have HLO := Lib.hid hlo; have HBR := Lib.hid hb
              clear hia hp0 hbl hn1 hn2 hn3 hlo hb
              by_cases hlt : k < j
              · have i3 : (k : Int) < (j : Int) := by omega
                have hkl : k < Ps.length := by rw [HPS.out]; exact hlt
                obtain ⟨P, hP⟩ : ∃ P, P = Ps[k] := ⟨_, rfl⟩
                have hdr : (Ps.map sdOf).drop k = sdOf P :: (Ps.map sdOf).drop (k + 1) := by
                  rw [List.drop_eq_getElem_cons (by rw [List.length_map]; exact hkl), List.getElem_map, hP]
                have hpop := HIA.out
                rw [hdr] at hpop
                have HPOP := Lib.hid (pop_some Bi 8 [] fv (sdOf P) _ v3 false (by rw [List.length_drop]; have := HPS2.out; have := HI8.out.1; omega) wr hpop)
                have HPM := Lib.hid (show Ps[k]? = some P by rw [List.getElem?_eq_getElem hkl, hP])
                have HPN := Lib.hid (show P.n < 4294967296 by rw [hP]; exact (HPL.out _ (List.getElem_mem _)).2)
                have HWI := Lib.hid (show 0 < k → P0.n < 4294967296 ∧ winsI P.e P.n P.q P0.e P0.n P0.q = false from fun h0 => by
                  have h1 := HP0.out h0
                  obtain ⟨h2, h3⟩ := List.getElem?_eq_some_iff.1 h1
                  refine ⟨by rw [← h3]; exact (HPL.out _ (List.getElem_mem _)).2, wins_no P0 P ?_⟩
                  rw [← h3, hP]
                  exact List.pairwise_iff_getElem.1 HPW.out (k - 1) k h2 hkl (by omega))
                have q1 : IntKind.i64.wrap ((k : Int) + 1) = (k : Int) + 1 := by rw [IntKind.wrap_i64]; have := HI8.out.1; omega
                have HLT := Lib.hid hlt
                clear hP hdr hpop hkl hlt
                obtain ⟨e, n, q, l, x0, x1, x2, x3, x4, x5, x6, x7, once, tag⟩ := P
                obtain ⟨oe, on, oq, ol, ox0, ox1, ox2, ox3, ox4, ox5, ox6, ox7, oonce, otag⟩ := P0
                unfold SD.V sdOf at HPOP
                simp only at HPOP HWI HBL HPN
                go_wp2_with fail
                refine HPOP.out.mono ?_
                rintro y w8 ⟨v8, rfl, hia, hk, hn⟩
                obtain ⟨W9, hW9⟩ : ∃ W9, W9 = w8.alloc (.cells #[.bool e, .int .u32 (n : Int), .bool q, .int .i64 l, .int .u8 (x0 : Int), .int .u8 (x1 : Int), .int .u8 (x2 : Int), .int .u8 (x3 : Int), .int .u8 (x4 : Int), .int .u8 (x5 : Int), .int .u8 (x6 : Int), .int .u8 (x7 : Int), .int .i64 0, .int .i64 0] 69) := ⟨_, rfl⟩
                have hb9 : Below w8.heap.size w8 W9 := by rw [hW9]; exact (Below.refl _ w8).alloc (Nat.le_refl _) _
                have HIA9 := Lib.hid (hia.on hb9)
                have HBL9 := Lib.hid ((HBL.out.on (hk.block D HBL.out.lt HN.out.1 HN.out.2.1)).keep hb9 (Nat.lt_of_lt_of_le HBL.out.lt hk.size))
                have HB9 := Lib.hid (below_transG (HBR.out.trans (hk.belowN HLO.out.1 HBR.out.size HLO.out.2)) hb9)
                have HNX := Lib.hid (show v8.ownBlock ≠ some D ∧ ∀ g, v8.ownBlock = some g → w.heap.size ≤ g from ⟨fun e => by
                  rcases hn D e with h | h
                  · exact HN.out.2.1 h
                  · have := HBL.out.lt; omega, fun g e => by
                  rcases hn g e with h | h
                  · exact HLO.out.2 g h
                  · have := HBR.out.size; omega⟩)
                have hS := (show Blk W9 w8.heap.size 69 [.bool e, .int .u32 (n : Int), .bool q, .int .i64 l, .int .u8 (x0 : Int), .int .u8 (x1 : Int), .int .u8 (x2 : Int), .int .u8 (x3 : Int), .int .u8 (x4 : Int), .int .u8 (x5 : Int), .int .u8 (x6 : Int), .int .u8 (x7 : Int), .int .i64 0, .int .i64 0] by rw [hW9]; exact Blk.new w8 _ [.bool e, .int .u32 (n : Int), .bool q, .int .i64 l, .int .u8 (x0 : Int), .int .u8 (x1 : Int), .int .u8 (x2 : Int), .int .u8 (x3 : Int), .int .u8 (x4 : Int), .int .u8 (x5 : Int), .int .u8 (x6 : Int), .int .u8 (x7 : Int), .int .i64 0, .int .i64 0])
                have HDL := Lib.hid (show D < w8.heap.size from Nat.lt_of_lt_of_le HBL.out.lt hk.size)
                obtain ⟨DS, hDS⟩ : ∃ DS, DS = w8.heap.size := ⟨_, rfl⟩
                have HDS := Lib.hid (show D < DS by rw [hDS]; exact HDL.out)
                rw [← hDS] at hS
                have HSS := Lib.hid hS
                clear hia hk hn hb9 hS
                go_upto_region 19 with fail
                rw [← hW9, ← hDS]
                clear hW9 hDS
                by_cases hk0 : 0 < k
                · have i4 : (0 : Int) < (k : Int) := by omega
                  obtain ⟨hon, hwin⟩ := HWI.out hk0
                  have HWN := Lib.hid (fun u => refWins_any e n q oe on oq HPN.out hon u)
                  rw [hwin] at HWN
                  unfold identV at HWN
                  have hS := HSS.out
                  have hL := HBL9.out
                  have d0 := hS.cellAt (i := 0) (by simp)
                  have f0 := hS.frozenAt 0
                  have d1 := hS.cellAt (i := 1) (by simp)
                  have f1 := hS.frozenAt 1
                  have d2 := hS.cellAt (i := 2) (by simp)
                  have f2 := hS.frozenAt 2
                  have d3 := hS.cellAt (i := 3) (by simp)
                  have f3 := hS.frozenAt 3
                  have d4 := hS.cellAt (i := 4) (by simp)
                  have f4 := hS.frozenAt 4
                  have d5 := hS.cellAt (i := 5) (by simp)
                  have f5 := hS.frozenAt 5
                  have d6 := hS.cellAt (i := 6) (by simp)
                  have f6 := hS.frozenAt 6
                  have d7 := hS.cellAt (i := 7) (by simp)
                  have f7 := hS.frozenAt 7
                  have d8 := hS.cellAt (i := 8) (by simp)
                  have f8 := hS.frozenAt 8
                  have d9 := hS.cellAt (i := 9) (by simp)
                  have f9 := hS.frozenAt 9
                  have d10 := hS.cellAt (i := 10) (by simp)
                  have f10 := hS.frozenAt 10
                  have d11 := hS.cellAt (i := 11) (by simp)
                  have f11 := hS.frozenAt 11
                  have d12 := hS.cellAt (i := 12) (by simp)
                  have f12 := hS.frozenAt 12
                  have d13 := hS.cellAt (i := 13) (by simp)
                  have f13 := hS.frozenAt 13
                  simp only [List.getElem_cons_zero, List.getElem_cons_succ] at d0 d1 d2 d3 d4 d5 d6 d7 d8 d9 d10 d11 d12 d13
                  have c0 := hL.cellAt (i := 0) (by simp)
                  have c1 := hL.cellAt (i := 1) (by simp)
                  have c2 := hL.cellAt (i := 2) (by simp)
                  simp only [List.getElem_cons_zero, List.getElem_cons_succ] at c0 c1 c2
                  clear hS hL hon hwin hk0
                  go_wp2_with fail
                  refine (HWN.out _).mono ?_
                  rintro y w10 ⟨rfl, hb⟩
                  have HIA10 := Lib.hid (HIA9.out.on hb); have HBLA := Lib.hid (HBL9.out.keep hb HBL9.out.lt); have HSA := Lib.hid (HSS.out.keep hb HSS.out.lt); have HBA := Lib.hid (below_transG HB9.out hb)
                  clear hb c0 c1 c2 d0 d1 d2 d3 d4 d5 d6 d7 d8 d9 d10 d11 d12 d13 f0 f1 f2 f3 f4 f5 f6 f7 f8 f9 f10 f11 f12 f13
                  have hS := HSA.out
                  have hL := HBLA.out
                  have d0 := hS.cellAt (i := 0) (by simp)
                  have f0 := hS.frozenAt 0
                  have d1 := hS.cellAt (i := 1) (by simp)
                  have f1 := hS.frozenAt 1
                  have d2 := hS.cellAt (i := 2) (by simp)
                  have f2 := hS.frozenAt 2
                  have d3 := hS.cellAt (i := 3) (by simp)
                  have f3 := hS.frozenAt 3
                  have d4 := hS.cellAt (i := 4) (by simp)
                  have f4 := hS.frozenAt 4
                  have d5 := hS.cellAt (i := 5) (by simp)
                  have f5 := hS.frozenAt 5
                  have d6 := hS.cellAt (i := 6) (by simp)
                  have f6 := hS.frozenAt 6
                  have d7 := hS.cellAt (i := 7) (by simp)
                  have f7 := hS.frozenAt 7
                  have d8 := hS.cellAt (i := 8) (by simp)
                  have f8 := hS.frozenAt 8
                  have d9 := hS.cellAt (i := 9) (by simp)
                  have f9 := hS.frozenAt 9
                  have d10 := hS.cellAt (i := 10) (by simp)
                  have f10 := hS.frozenAt 10
                  have d11 := hS.cellAt (i := 11) (by simp)
                  have f11 := hS.frozenAt 11
                  have d12 := hS.cellAt (i := 12) (by simp)
                  have f12 := hS.frozenAt 12
                  have d13 := hS.cellAt (i := 13) (by simp)
                  have f13 := hS.frozenAt 13
                  simp only [List.getElem_cons_zero, List.getElem_cons_succ] at d0 d1 d2 d3 d4 d5 d6 d7 d8 d9 d10 d11 d12 d13
                  have c0 := hL.cellAt (i := 0) (by simp)
                  have g0 := hL.frozenAt 0
                  have c1 := hL.cellAt (i := 1) (by simp)
                  have g1 := hL.frozenAt 1
                  have c2 := hL.cellAt (i := 2) (by simp)
                  have g2 := hL.frozenAt 2
                  have c3 := hL.cellAt (i := 3) (by simp)
                  have g3 := hL.frozenAt 3
                  have c4 := hL.cellAt (i := 4) (by simp)
                  have g4 := hL.frozenAt 4
                  have c5 := hL.cellAt (i := 5) (by simp)
                  have g5 := hL.frozenAt 5
                  have c6 := hL.cellAt (i := 6) (by simp)
                  have g6 := hL.frozenAt 6
                  have c7 := hL.cellAt (i := 7) (by simp)
                  have g7 := hL.frozenAt 7
                  have c8 := hL.cellAt (i := 8) (by simp)
                  have g8 := hL.frozenAt 8
                  have c9 := hL.cellAt (i := 9) (by simp)
                  have g9 := hL.frozenAt 9
                  have c10 := hL.cellAt (i := 10) (by simp)
                  have g10 := hL.frozenAt 10
                  have c11 := hL.cellAt (i := 11) (by simp)
                  have g11 := hL.frozenAt 11
                  simp only [List.getElem_cons_zero, List.getElem_cons_succ] at c0 c1 c2 c3 c4 c5 c6 c7 c8 c9 c10 c11
                  obtain ⟨X, hX⟩ : ∃ X, X = ((((((((((((w10.setCell ⟨D, 0, none⟩ (.bool e)).setCell ⟨D, 1, none⟩ (.int .u32 (n : Int))).setCell ⟨D, 2, none⟩ (.bool q)).setCell ⟨D, 3, none⟩ (.int .i64 l)).setCell ⟨D, 4, none⟩ (.int .u8 (x0 : Int))).setCell ⟨D, 5, none⟩ (.int .u8 (x1 : Int))).setCell ⟨D, 6, none⟩ (.int .u8 (x2 : Int))).setCell ⟨D, 7, none⟩ (.int .u8 (x3 : Int))).setCell ⟨D, 8, none⟩ (.int .u8 (x4 : Int))).setCell ⟨D, 9, none⟩ (.int .u8 (x5 : Int))).setCell ⟨D, 10, none⟩ (.int .u8 (x6 : Int))).setCell ⟨D, 11, none⟩ (.int .u8 (x7 : Int))) := ⟨_, rfl⟩
                  have hX2 := hX.trans (nest12_eq w10 D (.bool e) (.int .u32 (n : Int)) (.bool q) (.int .i64 l) (.int .u8 (x0 : Int)) (.int .u8 (x1 : Int)) (.int .u8 (x2 : Int)) (.int .u8 (x3 : Int)) (.int .u8 (x4 : Int)) (.int .u8 (x5 : Int)) (.int .u8 (x6 : Int)) (.int .u8 (x7 : Int)))
                  have hset := hL.set [.bool e, .int .u32 (n : Int), .bool q, .int .i64 l, .int .u8 (x0 : Int), .int .u8 (x1 : Int), .int .u8 (x2 : Int), .int .u8 (x3 : Int), .int .u8 (x4 : Int), .int .u8 (x5 : Int), .int .u8 (x6 : Int), .int .u8 (x7 : Int)] rfl
                  have hbs := Go.below_setCells (b := D) HDW.out [.bool e, .int .u32 (n : Int), .bool q, .int .i64 l, .int .u8 (x0 : Int), .int .u8 (x1 : Int), .int .u8 (x2 : Int), .int .u8 (x3 : Int), .int .u8 (x4 : Int), .int .u8 (x5 : Int), .int .u8 (x6 : Int), .int .u8 (x7 : Int)] 0 w10 HBA.out
                  have hks : ∀ g, g ≠ D → (w10.setCells D 0 [.bool e, .int .u32 (n : Int), .bool q, .int .i64 l, .int .u8 (x0 : Int), .int .u8 (x1 : Int), .int .u8 (x2 : Int), .int .u8 (x3 : Int), .int .u8 (x4 : Int), .int .u8 (x5 : Int), .int .u8 (x6 : Int), .int .u8 (x7 : Int)]).heap[g]? = w10.heap[g]? := fun g hg => heap_setCellsG hg _ _ _
                  have hia := HIA10.out.moved (X := w10.setCells D 0 [.bool e, .int .u32 (n : Int), .bool q, .int .i64 l, .int .u8 (x0 : Int), .int .u8 (x1 : Int), .int .u8 (x2 : Int), .int .u8 (x3 : Int), .int .u8 (x4 : Int), .int .u8 (x5 : Int), .int .u8 (x6 : Int), .int .u8 (x7 : Int)]) (Nat.le_of_eq (setCells_sizeG _ _ _).symm) (fun g _ hg => hks g (fun e => by
                    rcases hg with h | h | h
                    · exact HN.out.1 (by rw [← e]; exact h)
                    · exact HN.out.2.2 (by rw [← e]; exact h)
                    · exact HNX.out.1 (by rw [← e]; exact h)))
                  rw [← hX2] at hset hbs hia
                  have HSET := Lib.hid hset; have HBS := Lib.hid hbs; have HIX := Lib.hid hia
                  clear hS hL hset hbs hks hia hX2
                  go_wp2_with fail
                  rw [← hX]
                  clear hX
                  go_roundw
                  case rel => exact ⟨k + 1, v8, ⟨e, n, q, l, x0, x1, x2, x3, x4, x5, x6, x7, once, tag⟩, by simp, HLT.out, HIX.out, fun _ => by rw [Nat.add_sub_cancel]; exact HPM.out, HSET.out, HN.out.1, HNX.out.1, HN.out.2.2, ⟨HLO.out.1, HNX.out.2⟩, HBS.out⟩
                  case measure => have := HLT.out; simp [intOf]; omega
                · have hk0' : k = 0 := by omega
                  have i4 : ¬ (0 : Int) < (k : Int) := by omega
                  have HIA10 := HIA9; have HBLA := HBL9; have HSA := HSS; have HBA := HB9
                  obtain ⟨w10, hw10⟩ : ∃ w10, w10 = W9 := ⟨_, rfl⟩
                  rw [← hw10] at HIA10 HBLA HSA HBA ⊢
                  clear hw10 hk0 hk0'
                  have hS := HSA.out
                  have hL := HBLA.out
                  have d0 := hS.cellAt (i := 0) (by simp)
                  have f0 := hS.frozenAt 0
                  have d1 := hS.cellAt (i := 1) (by simp)
                  have f1 := hS.frozenAt 1
                  have d2 := hS.cellAt (i := 2) (by simp)
                  have f2 := hS.frozenAt 2
                  have d3 := hS.cellAt (i := 3) (by simp)
                  have f3 := hS.frozenAt 3
                  have d4 := hS.cellAt (i := 4) (by simp)
                  have f4 := hS.frozenAt 4
                  have d5 := hS.cellAt (i := 5) (by simp)
                  have f5 := hS.frozenAt 5
                  have d6 := hS.cellAt (i := 6) (by simp)
                  have f6 := hS.frozenAt 6
                  have d7 := hS.cellAt (i := 7) (by simp)
                  have f7 := hS.frozenAt 7
                  have d8 := hS.cellAt (i := 8) (by simp)
                  have f8 := hS.frozenAt 8
                  have d9 := hS.cellAt (i := 9) (by simp)
                  have f9 := hS.frozenAt 9
                  have d10 := hS.cellAt (i := 10) (by simp)
                  have f10 := hS.frozenAt 10
                  have d11 := hS.cellAt (i := 11) (by simp)
                  have f11 := hS.frozenAt 11
                  have d12 := hS.cellAt (i := 12) (by simp)
                  have f12 := hS.frozenAt 12
                  have d13 := hS.cellAt (i := 13) (by simp)
                  have f13 := hS.frozenAt 13
                  simp only [List.getElem_cons_zero, List.getElem_cons_succ] at d0 d1 d2 d3 d4 d5 d6 d7 d8 d9 d10 d11 d12 d13
                  have c0 := hL.cellAt (i := 0) (by simp)
                  have g0 := hL.frozenAt 0
                  have c1 := hL.cellAt (i := 1) (by simp)
                  have g1 := hL.frozenAt 1
                  have c2 := hL.cellAt (i := 2) (by simp)
                  have g2 := hL.frozenAt 2
                  have c3 := hL.cellAt (i := 3) (by simp)
                  have g3 := hL.frozenAt 3
                  have c4 := hL.cellAt (i := 4) (by simp)
                  have g4 := hL.frozenAt 4
                  have c5 := hL.cellAt (i := 5) (by simp)
                  have g5 := hL.frozenAt 5
                  have c6 := hL.cellAt (i := 6) (by simp)
                  have g6 := hL.frozenAt 6
                  have c7 := hL.cellAt (i := 7) (by simp)
                  have g7 := hL.frozenAt 7
                  have c8 := hL.cellAt (i := 8) (by simp)
                  have g8 := hL.frozenAt 8
                  have c9 := hL.cellAt (i := 9) (by simp)
                  have g9 := hL.frozenAt 9
                  have c10 := hL.cellAt (i := 10) (by simp)
                  have g10 := hL.frozenAt 10
                  have c11 := hL.cellAt (i := 11) (by simp)
                  have g11 := hL.frozenAt 11
                  simp only [List.getElem_cons_zero, List.getElem_cons_succ] at c0 c1 c2 c3 c4 c5 c6 c7 c8 c9 c10 c11
                  obtain ⟨X, hX⟩ : ∃ X, X = ((((((((((((w10.setCell ⟨D, 0, none⟩ (.bool e)).setCell ⟨D, 1, none⟩ (.int .u32 (n : Int))).setCell ⟨D, 2, none⟩ (.bool q)).setCell ⟨D, 3, none⟩ (.int .i64 l)).setCell ⟨D, 4, none⟩ (.int .u8 (x0 : Int))).setCell ⟨D, 5, none⟩ (.int .u8 (x1 : Int))).setCell ⟨D, 6, none⟩ (.int .u8 (x2 : Int))).setCell ⟨D, 7, none⟩ (.int .u8 (x3 : Int))).setCell ⟨D, 8, none⟩ (.int .u8 (x4 : Int))).setCell ⟨D, 9, none⟩ (.int .u8 (x5 : Int))).setCell ⟨D, 10, none⟩ (.int .u8 (x6 : Int))).setCell ⟨D, 11, none⟩ (.int .u8 (x7 : Int))) := ⟨_, rfl⟩
                  have hX2 := hX.trans (nest12_eq w10 D (.bool e) (.int .u32 (n : Int)) (.bool q) (.int .i64 l) (.int .u8 (x0 : Int)) (.int .u8 (x1 : Int)) (.int .u8 (x2 : Int)) (.int .u8 (x3 : Int)) (.int .u8 (x4 : Int)) (.int .u8 (x5 : Int)) (.int .u8 (x6 : Int)) (.int .u8 (x7 : Int)))
                  have hset := hL.set [.bool e, .int .u32 (n : Int), .bool q, .int .i64 l, .int .u8 (x0 : Int), .int .u8 (x1 : Int), .int .u8 (x2 : Int), .int .u8 (x3 : Int), .int .u8 (x4 : Int), .int .u8 (x5 : Int), .int .u8 (x6 : Int), .int .u8 (x7 : Int)] rfl
                  have hbs := Go.below_setCells (b := D) HDW.out [.bool e, .int .u32 (n : Int), .bool q, .int .i64 l, .int .u8 (x0 : Int), .int .u8 (x1 : Int), .int .u8 (x2 : Int), .int .u8 (x3 : Int), .int .u8 (x4 : Int), .int .u8 (x5 : Int), .int .u8 (x6 : Int), .int .u8 (x7 : Int)] 0 w10 HBA.out
                  have hks : ∀ g, g ≠ D → (w10.setCells D 0 [.bool e, .int .u32 (n : Int), .bool q, .int .i64 l, .int .u8 (x0 : Int), .int .u8 (x1 : Int), .int .u8 (x2 : Int), .int .u8 (x3 : Int), .int .u8 (x4 : Int), .int .u8 (x5 : Int), .int .u8 (x6 : Int), .int .u8 (x7 : Int)]).heap[g]? = w10.heap[g]? := fun g hg => heap_setCellsG hg _ _ _
                  have hia := HIA10.out.moved (X := w10.setCells D 0 [.bool e, .int .u32 (n : Int), .bool q, .int .i64 l, .int .u8 (x0 : Int), .int .u8 (x1 : Int), .int .u8 (x2 : Int), .int .u8 (x3 : Int), .int .u8 (x4 : Int), .int .u8 (x5 : Int), .int .u8 (x6 : Int), .int .u8 (x7 : Int)]) (Nat.le_of_eq (setCells_sizeG _ _ _).symm) (fun g _ hg => hks g (fun e => by
                    rcases hg with h | h | h
                    · exact HN.out.1 (by rw [← e]; exact h)
                    · exact HN.out.2.2 (by rw [← e]; exact h)
                    · exact HNX.out.1 (by rw [← e]; exact h)))
                  rw [← hX2] at hset hbs hia
                  have HSET := Lib.hid hset; have HBS := Lib.hid hbs; have HIX := Lib.hid hia
                  clear hS hL hset hbs hks hia hX2
                  go_wp2_with fail
                  rw [← hX]
                  clear hX
                  go_roundw
                  case rel => exact ⟨k + 1, v8, ⟨e, n, q, l, x0, x1, x2, x3, x4, x5, x6, x7, once, tag⟩, by simp, HLT.out, HIX.out, fun _ => by rw [Nat.add_sub_cancel]; exact HPM.out, HSET.out, HN.out.1, HNX.out.1, HN.out.2.2, ⟨HLO.out.1, HNX.out.2⟩, HBS.out⟩
                  case measure => have := HLT.out; simp [intOf]; omega
              · obtain rfl : k = j := by omega
                have hz := HIA.out
                rw [List.drop_of_length_le (by rw [HPS2.out]; exact Nat.le_refl _)] at hz
                have HLZ := Lib.hid (ilen_any Bi 8 [] fv [] v3 false wr hz)
                clear hz
                have kz : ((([] : List SD).length : Int) == 0) = true := rfl
                have kmn : ((8 : Int) < (L.length : Int) ∧ (k : Int) = 8) ∨ (¬ (8 : Int) < (L.length : Int) ∧ (k : Int) = (L.length : Int)) := by have := HI8.out; have := HIE.out; omega
                rcases kmn with ⟨k1, k2⟩ | ⟨k1, k2⟩
                · have k3 : ((k : Int) == 8) = true := by rw [beq_iff_eq]; exact k2
                  clear k2
                  go_wp2_with fail
                  refine HLZ.out.mono ?_
                  rintro y wz ⟨rfl, rfl⟩
                  go_wp2_with fail
                  go_ret
                  exact ⟨rfl, HBR.out⟩
                · have k3 : ((k : Int) == (L.length : Int)) = true := by rw [beq_iff_eq]; exact k2
                  clear k2
                  go_wp2_with fail
                  refine HLZ.out.mono ?_
                  rintro y wz ⟨rfl, rfl⟩
                  go_wp2_with fail
                  go_ret
                  first | exact ⟨rfl, HBR.out⟩ | (exfalso; have := HIE.out; omega)
set_option maxRecDepth 100000 in
theorem lifted (os : Os) (started : os.Started) (H : Type) (enc : TypeId × Value → H) :
    ReturnsInHanded {} Try.checked os 9 .any (Rows.topOrderSpec.pre6 enc Try.prog Try.f9 Rows.topOrderRow.domain false) (Rows.topOrderSpec.post enc Try.prog Try.f9 false true false false) := by
  refine returnsInHanded_of_change (C := Try.checked) own started (by kernel_rfl) Try.func9
    (ChangeSpec.witness6 (enc := enc) (C := Try.checked) false ⟨#[], #[.slice none 0 0], []⟩ 8 (by kernel_rfl) (by kernel_rfl) (by kernel_rfl) (by kernel_rfl)) ?_
  intro W base args ds gs before hval0 hW _ _
  have hval : ∀ (j : Nat) t v, Try.f9.params[j]? = some t → args[j]? = some v → Value.okWide Try.prog W .any base t v := hval0
  have hW' := hW
  obtain ⟨p, q, hA0, hV, rfl, hfz, hnd⟩ := hW
  have hA : DataW.TrodAll enc Try.prog W 0 (fun _ => true) true Try.f9.params.toList args.toList ds p := hA0
  rw [Try.params9] at hA hval
  obtain ⟨v0, vs0, d0, ds0, p0, q0, hargs, rfl, rfl, h0, r0⟩ := trodAll_cons hA
  obtain ⟨rfl, rfl, rfl⟩ := trodAll_nil r0
  obtain rfl : args = #[v0] := by cases args; simp_all
  obtain ⟨rfl, rfl⟩ := trodVars_none hV
  obtain ⟨a0, len0, cap0, rfl⟩ := okWide_slice Try.underlying55 (hval 0 55 v0 rfl rfl)
  have k0 := h0
  have lt0 : ∀ x ∈ p0, x.block < W.heap.size := by obtain ⟨m, hm⟩ := k0; exact DataW.trod_lt m _ _ _ hm
  obtain ⟨L0, wl0, ww0, wr0⟩ : ∃ L : List FD, L.length = len0 ∧ (∀ s ∈ L, FD.wf s) ∧ Rd W 12 (.slice a0 len0 cap0) (L.flatMap FD.C) := by
    obtain ⟨fuel, hf⟩ := h0
    exact open_rows FD.C FD.wf 12 (by decide) Try.underlying55 (by kernel_rfl) (fun _ => rfl) (fun _ _ _ => frameDG) (by simpa [Value.cells] using hf)
  clear hA0 hval0
  refine (walk a0 len0 cap0 L0 W ⟨wl0, ww0, wr0⟩).mono fun e W' ⟨he, bel⟩ => ?_
  subst he
  exact ⟨_, rfl, _, _, _, [], _, [], hW', trodAll_mk1 (shut_bool Try.underlying4 _), (trodAll_cons_mk (Below.trod laidOut (by kernel_rfl) (of_decide_eq_true (by kernel_rfl)) k0 bel lt0) trodAll_mk0), rfl, bel.frame _, fun h => by cases h⟩
theorem over : Rows.topOrderRow.holds Try.pinned (OpenSpec.ofChange Rows.topOrderSpec) :=
  OpenClaim.holds_of_wide 9 Try.f9 rfl rfl rfl rfl rfl rfl rfl ⟨rfl, rfl, rfl, rfl, rfl⟩ rfl rfl rfl rfl rfl (by kernel_rfl) Try.func9 (by kernel_rfl)
    (of_decide_eq_true (by kernel_rfl)) (by unfold Func.isWrapper; first | (rw [if_pos (by decide +kernel)]; kernel_rfl) | (rw [if_neg (by decide +kernel)]; exact ⟨rfl, rfl⟩))
    (fun os started H enc _ => lifted os started H enc)
/-- The statement. -/
theorem proved : Rows.TopOrderSaid := over
end Go.Proofs.Ytifpifhaajkncaa.topOrder
