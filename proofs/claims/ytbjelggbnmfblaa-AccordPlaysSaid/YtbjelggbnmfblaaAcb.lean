/- Package accord: a pair in the memory. Conditions: each theorem says its own. -/
import Derived.Test.YtbjelggbnmfblaaAca
namespace Go.Proofs.Ytbjelggbnmfblaa
open Go.RowKit
/-- A pair: the master's count and clock, the slave's, the bits, what is noted, what was applied, whether it follows. -/
structure PD where
  tu : Int
  n : Int
  d : Int
  mc : Int
  mu : Bool
  c : Int
  v : Int
  r : Int
  t : Int
  sc : Int
  su : Bool
  c2 : Int
  v2 : Int
  r2 : Int
  t2 : Int
  bi : Int
  no : Option (Int × Int)
  ap : Option (Int × Int)
  se : Bool
def PD.C (s : PD) (pn pa : Value) : List Value := [.int .i64 s.tu, .int .i64 s.n, .int .i64 s.d, .int .i64 s.mc, .bool s.mu, .int .i64 s.c, .int .i64 s.v, .int .i64 s.r, .int .i64 s.t, .int .i64 s.n, .int .i64 s.d, .int .i64 s.sc, .bool s.su, .int .i64 s.c2, .int .i64 s.v2, .int .i64 s.r2, .int .i64 s.t2, .int .i64 s.bi, pn, pa, .bool s.se]
/-- A note's pointer. -/
def NP (W : World) (B : Nat) : Option (Int × Int) → Value → Prop
  | none, p => p = .pointer none
  | some (x, b), p => ∃ K, p = .pointer (some ⟨K, 0, none⟩) ∧ Blk W K 216 [.int .i64 x, .int .i64 b] ∧ K ≠ B
theorem NP.on {W X : World} {B : Nat} {o : Option (Int × Int)} {p : Value} (h : NP W B o p) (hk : Kp B (.slice none 0 0) W X) : NP X B o p := by
  match o, h with
  | none, h => exact h
  | some (x, b), ⟨K, h1, h2, h3⟩ => exact ⟨K, h1, h2.on (hk.block K h2.lt h3 (fun e => by cases e)), h3⟩
/-- A pair that can be. -/
structure PD.Ok (s : PD) : Prop where
  tu : 0 ≤ s.tu ∧ s.tu ≤ 4096
  be : 1 ≤ s.n ∧ s.n ≤ 1048576 ∧ 0 ≤ s.d ∧ s.d < s.n
  mc : 0 ≤ s.mc ∧ s.mc ≤ 1152921504606846976
  sc : 0 ≤ s.sc ∧ s.sc ≤ 1152921504606846976
  c : -9223372036854775808 ≤ s.c ∧ s.c ≤ 9223372036854775807
  v : -1152921504606846976 ≤ s.v ∧ s.v ≤ 1152921504606846976
  r : 1044480 ≤ s.r ∧ s.r ≤ 1052672
  t : 0 ≤ s.t ∧ s.t ≤ 1152921504606846976
  c2 : -9223372036854775808 ≤ s.c2 ∧ s.c2 ≤ 9223372036854775807
  v2 : -1152921504606846976 ≤ s.v2 ∧ s.v2 ≤ 1152921504606846976
  r2 : 1044480 ≤ s.r2 ∧ s.r2 ≤ 1052672
  t2 : 0 ≤ s.t2 ∧ s.t2 ≤ 1152921504606846976
theorem PD.Ok.mo {s : PD} (h : s.Ok) (pn pa : Value) : OL (s.C pn pa) 1 s.n s.d s.mc s.mu := ⟨rfl, rfl, rfl, rfl, h.be.1, h.be.2.1, h.be.2.2.1, h.be.2.2.2, h.mc.1, h.mc.2⟩
theorem PD.Ok.so {s : PD} (h : s.Ok) (pn pa : Value) : OL (s.C pn pa) 9 s.n s.d s.sc s.su := ⟨rfl, rfl, rfl, rfl, h.be.1, h.be.2.1, h.be.2.2.1, h.be.2.2.2, h.sc.1, h.sc.2⟩
theorem PD.Ok.mck {s : PD} (h : s.Ok) (pn pa : Value) : CL (s.C pn pa) 5 s.c s.v s.r s.t := ⟨rfl, rfl, rfl, rfl, h.c, h.v, h.r, h.t⟩
theorem PD.Ok.sk {s : PD} (h : s.Ok) (pn pa : Value) : CL (s.C pn pa) 13 s.c2 s.v2 s.r2 s.t2 := ⟨rfl, rfl, rfl, rfl, h.c2, h.v2, h.r2, h.t2⟩
structure PA (W : World) (B : Nat) (s : PD) (pn pa : Value) : Prop where
  blk : Blk W B 205 (s.C pn pa)
  no : NP W B s.no pn
  ap : NP W B s.ap pa
  ok : s.Ok
theorem PA.on {W X : World} {B : Nat} {s : PD} {pn pa : Value} (h : PA W B s pn pa) (hb : Below W.heap.size W X) : PA X B s pn pa :=
  ⟨h.blk.keep hb h.blk.lt, h.no.on (Kp.of_below hb), h.ap.on (Kp.of_below hb), h.ok⟩
theorem pr_master (s : PD) (pn pa : Value) (B : Nat) (w : World) (h : PA w B s pn pa) : Calls Try.prog 52 #[.pointer (some ⟨B, 0, none⟩)] w fun y w' => y = .returned (.int .i64 s.t) ∧ w = w' := by
  have HL := Lib.hid (cl_last 205 (s.C pn pa) 5 _ _ _ _ B w h.blk (h.ok.mck pn pa))
  clear h
  go_enter Try.func52, Try.ntmps52
  go_wp2_with fail
  refine HL.out.mono ?_
  rintro y w1 ⟨rfl, rfl⟩
  go_wp2_with fail
  go_ret
  exact ⟨rfl, rfl⟩
theorem pr_master_nil (w : World) : Calls Try.prog 52 #[.pointer none] w fun y w' => y = .returned (.int .i64 0) ∧ w = w' := by
  go_enter Try.func52, Try.ntmps52
  go_wp2_with fail
  go_ret
  exact ⟨rfl, rfl⟩
theorem pr_slave (s : PD) (pn pa : Value) (B : Nat) (w : World) (h : PA w B s pn pa) : Calls Try.prog 53 #[.pointer (some ⟨B, 0, none⟩)] w fun y w' => y = .returned (.int .i64 s.t2) ∧ w = w' := by
  have HL := Lib.hid (cl_last 205 (s.C pn pa) 13 _ _ _ _ B w h.blk (h.ok.sk pn pa))
  clear h
  go_enter Try.func53, Try.ntmps53
  go_wp2_with fail
  refine HL.out.mono ?_
  rintro y w1 ⟨rfl, rfl⟩
  go_wp2_with fail
  go_ret
  exact ⟨rfl, rfl⟩
theorem pr_slave_nil (w : World) : Calls Try.prog 53 #[.pointer none] w fun y w' => y = .returned (.int .i64 0) ∧ w = w' := by
  go_enter Try.func53, Try.ntmps53
  go_wp2_with fail
  go_ret
  exact ⟨rfl, rfl⟩
theorem pr_settled (s : PD) (pn pa : Value) (B : Nat) (w : World) (h : PA w B s pn pa) : Calls Try.prog 54 #[.pointer (some ⟨B, 0, none⟩)] w fun y w' => y = .returned (.bool s.se) ∧ w = w' := by
  have q : w.cell? ⟨B, 20, none⟩ = some (.bool s.se) := h.blk.cellO (i := 20) rfl
  clear h
  go_enter Try.func54, Try.ntmps54
  go_wp2_with fail
  go_ret
  exact ⟨rfl, rfl⟩
def PD.gap (s : PD) : Int := match s.ap with | none => 0 | some (_, b) => s.bi - b
theorem pr_gap_nil (w : World) : Calls Try.prog 55 #[.pointer none] w fun y w' => y = .returned (.int .i64 0) ∧ w = w' := by
  go_enter Try.func55, Try.ntmps55
  go_wp2_with fail
  go_ret
  exact ⟨rfl, rfl⟩
theorem pr_gap (s : PD) (pn pa : Value) (B : Nat) (w : World) (h : PA w B s pn pa) (hg : -9223372036854775808 ≤ s.gap ∧ s.gap ≤ 9223372036854775807) : Calls Try.prog 55 #[.pointer (some ⟨B, 0, none⟩)] w fun y w' => y = .returned (.int .i64 s.gap) ∧ Below w.heap.size w w' := by
  have q19 : w.cell? ⟨B, 19, none⟩ = some pa := h.blk.cellO (i := 19) rfl
  have q17 : w.cell? ⟨B, 17, none⟩ = some (.int .i64 s.bi) := h.blk.cellO (i := 17) rfl
  have ha := h.ap
  unfold PD.gap at hg ⊢
  obtain ⟨tu, n, d, mc, mu, c, v, r, t, sc, su, c2, v2, r2, t2, bi, no, ap, se⟩ := s
  match ap, ha with
  | none, ha =>
    obtain rfl : pa = .pointer none := ha
    clear h ha hg
    go_enter Try.func55, Try.ntmps55
    go_wp2_with fail
    go_ret
    exact ⟨rfl, Below.refl _ _⟩
  | some (x, b), ⟨K, e, hK, _⟩ =>
    subst e
    have k1 : w.cell? ⟨K, 1, none⟩ = some (.int .i64 b) := hK.cellAt (i := 1) (by simp)
    have hw : wrap64 (bi - b) = bi - b := w64_in _ hg
    obtain ⟨g, hgg⟩ : ∃ g, g = bi - b := ⟨_, rfl⟩
    show Calls Try.prog 55 #[.pointer (some ⟨B, 0, none⟩)] w fun y w' => y = .returned (.int .i64 (bi - b)) ∧ Below w.heap.size w w'
    rw [← hgg] at hw ⊢
    have hw2 : wrap64 (bi - b) = g := by rw [← hgg]; exact hw
    clear h hK hg hgg hw
    go_enter Try.func55, Try.ntmps55
    go_wp2_with fail
    first | go_ret | (go_region; go_wp2_with fail; go_ret)
    exact ⟨congrArg (fun x => Ending.returned (.int .i64 x)) hw2, by first | exact Below.refl _ _ | exact (Below.refl _ _).drew⟩
end Go.Proofs.Ytbjelggbnmfblaa
