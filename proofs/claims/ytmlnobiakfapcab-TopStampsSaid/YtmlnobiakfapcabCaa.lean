/- Package ctrl: a controller in the memory: its own cells, its mailboxes, its inbox, and what became of posts; a new one; what it is told where nothing is begun, sent, or wrong; what is read. Conditions: each theorem says its own. -/
import Derived.Test.YtmlnobiakfapcabBxe
import Derived.Test.YtmlnobiakfapcabInf
import Derived.Test.YtmlnobiakfapcabQui
import Derived.Deep.DeepCutAuto
namespace Go.Proofs.Ytmlnobiakfapcab
open Go.RowKit
/-- What became of a post. -/
structure OD where
  tag : Int
  fate : Int
  tm : Int
def OD.C (x : OD) : List Value := [.int .i64 x.tag, .int .i64 x.fate, .int .i64 x.tm]
def odC (L : List OD) : List Value := L.flatMap OD.C
/-- A controller. -/
structure CD where
  L : List BD
  room : Nat
  rm : Nat
  F : List Fl
  Q : List SD
  o : Bool
  on : Bool
  bx : Int
  can : Bool
  ph : Int
  now : Int
  mark : Int
  fs : List OD
/-- The blocks that are its own. -/
def footC (K B I : Nat) (fv v fr : Value) (g : Nat) : Prop := g = K ∨ g = B ∨ g = I ∨ fv.ownBlock = some g ∨ v.ownBlock = some g ∨ fr.ownBlock = some g
/-- What a call changes: blocks of these alone. -/
structure Fx (φ : Nat → Prop) (w w' : World) : Prop where
  os : w'.os = w.os
  tape : w'.tape = w.tape
  output : w'.output = w.output
  size : w.heap.size ≤ w'.heap.size
  block : ∀ k, k < w.heap.size → ¬ φ k → w'.heap[k]? = w.heap[k]?
theorem Fx.refl (φ : Nat → Prop) (w : World) : Fx φ w w := ⟨rfl, rfl, rfl, Nat.le_refl _, fun _ _ _ => rfl⟩
theorem Fx.of_below {φ : Nat → Prop} {w w' : World} (h : Below w.heap.size w w') : Fx φ w w' := ⟨h.os, h.tape, h.output, h.size, fun k hk _ => h.block k hk⟩
theorem Fx.trans {φ ψ : Nat → Prop} {w w' w'' : World} (h : Fx φ w w') (h2 : Fx ψ w' w'') (hn : ∀ k, ψ k → φ k ∨ w.heap.size ≤ k) : Fx φ w w'' :=
  ⟨h2.os.trans h.os, h2.tape.trans h.tape, h2.output.trans h.output, Nat.le_trans h.size h2.size, fun k hk hf => (h2.block k (Nat.lt_of_lt_of_le hk h.size) (fun e => by rcases hn k e with g | g; exact hf g; omega)).trans (h.block k hk hf)⟩
theorem Fx.below {φ : Nat → Prop} {N : Nat} {w w' : World} (h : Fx φ w w') (hN : N ≤ w.heap.size) (hf : ∀ k, φ k → N ≤ k) : Below N w w' := ⟨h.os, h.tape, h.output, h.size, fun k hk => h.block k (by omega) (fun e => by have := hf k e; omega)⟩
/-- A controller in the memory. -/
structure CA (W : World) (K B I : Nat) (fv v fr : Value) (s : CD) : Prop where
  blk : Blk W K 114 [.pointer (some ⟨B, 0, none⟩), .pointer (some ⟨I, 0, none⟩), .bool s.on, .int .i64 s.bx, .bool s.can, .int .i64 s.ph, .int .i64 s.now, .int .i64 s.mark, fr]
  box : BxA W B s.L s.room
  inb : IA W 155 I s.rm s.F fv s.Q v s.o
  row : Rw W 3 fr (odC s.fs)
  kb : K ≠ B
  ki : K ≠ I
  bi : B ≠ I
  fk : ∀ g, fv.ownBlock = some g ∨ v.ownBlock = some g → g ≠ K ∧ g ≠ B
  rk : ∀ g, fr.ownBlock = some g → g ≠ K ∧ g ≠ B ∧ g ≠ I ∧ fv.ownBlock ≠ some g ∧ v.ownBlock ≠ some g
  tr : s.on = true → ∃ j : Nat, s.bx = (j : Int) ∧ j < s.room ∧ (bxAt s.L j).full = true
  small : ∀ j, (bxAt s.L j).p.n < 4294967296
  f8 : s.F.length ≤ 8
  q1 : s.Q.length ≤ s.rm
  r1 : s.rm ≤ 16
theorem CA.lt {W : World} {K B I : Nat} {fv v fr : Value} {s : CD} (h : CA W K B I fv v fr s) {g : Nat} (hg : footC K B I fv v fr g) : g < W.heap.size := by
  rcases hg with rfl | rfl | rfl | hg | hg | hg
  · exact h.blk.lt
  · exact h.box.lt
  · exact h.inb.lt
  · exact (h.inb.flt g hg).1
  · exact h.inb.row.lt g hg
  · exact h.row.lt g hg
theorem BxA.movedC {W X : World} {B : Nat} {L : List BD} {room : Nat} (h : BxA W B L room) (hb : X.heap[B]? = W.heap[B]?) : BxA X B L room := ⟨h.blk.on hb, h.eight, h.r1, h.r8⟩
theorem IA.movedC {W X : World} {T : TypeId} {B room : Nat} {F : List Fl} {fv : Value} {Q : List SD} {v : Value} {o : Bool} (h : IA W T B room F fv Q v o) (hs : W.heap.size ≤ X.heap.size) (hb : ∀ g, g = B ∨ fv.ownBlock = some g ∨ v.ownBlock = some g → X.heap[g]? = W.heap[g]?) : IA X T B room F fv Q v o := by
  refine ⟨h.blk.on (hb B (.inl rfl)), ?_, fun g hg => ⟨Nat.lt_of_lt_of_le (h.flt g hg).1 hs, (h.flt g hg).2⟩, h.row.on hs (fun g hg => hb g (.inr (.inr hg))), h.own⟩
  obtain ⟨n, cap, a, rfl, h1, h2, h3, h4⟩ := h.fil
  refine ⟨n, cap, a, rfl, h1, h2, h3, ?_⟩
  rcases h4 with h5 | ⟨g, off, rfl, hg, hc⟩
  · exact .inl h5
  · exact .inr ⟨g, off, rfl, Nat.lt_of_lt_of_le hg hs, fun j u hj => by rw [World.cell?_of_block (hb g (.inr (.inl rfl)))]; exact hc j u hj⟩
theorem CA.moved {W : World} {K B I : Nat} {fv v fr : Value} {s : CD} (h : CA W K B I fv v fr s) {X : World} (hs : W.heap.size ≤ X.heap.size) (hb : ∀ g, footC K B I fv v fr g → X.heap[g]? = W.heap[g]?) : CA X K B I fv v fr s :=
  ⟨h.blk.on (hb K (.inl rfl)), h.box.movedC (hb B (.inr (.inl rfl))), h.inb.movedC hs (fun g hg => hb g (by rcases hg with e | e | e; exact .inr (.inr (.inl e)); exact .inr (.inr (.inr (.inl e))); exact .inr (.inr (.inr (.inr (.inl e)))))), h.row.on hs (fun g hg => hb g (.inr (.inr (.inr (.inr (.inr hg)))))), h.kb, h.ki, h.bi, h.fk, h.rk, h.tr, h.small, h.f8, h.q1, h.r1⟩
theorem CA.on {W : World} {K B I : Nat} {fv v fr : Value} {s : CD} (h : CA W K B I fv v fr s) {X : World} (hb : Below W.heap.size W X) : CA X K B I fv v fr s := h.moved hb.size (fun g hg => hb.block g (h.lt hg))
/-- Its own cells are other ones. -/
theorem CA.own {W : World} {K B I : Nat} {fv v fr : Value} {s : CD} (h : CA W K B I fv v fr s) {X : World} (s' : CD) (hL : s'.L = s.L) (hr : s'.room = s.room) (hm : s'.rm = s.rm) (hF : s'.F = s.F) (hQ : s'.Q = s.Q) (ho : s'.o = s.o) (hf : s'.fs = s.fs) (hs : X.heap.size = W.heap.size) (hb : ∀ g, g ≠ K → X.heap[g]? = W.heap[g]?)
    (hblk : Blk X K 114 [.pointer (some ⟨B, 0, none⟩), .pointer (some ⟨I, 0, none⟩), .bool s'.on, .int .i64 s'.bx, .bool s'.can, .int .i64 s'.ph, .int .i64 s'.now, .int .i64 s'.mark, fr]) (ht : s'.on = true → ∃ j : Nat, s'.bx = (j : Int) ∧ j < s.room ∧ (bxAt s.L j).full = true) : CA X K B I fv v fr s' := by
  obtain ⟨L', room', rm', F', Q', o', on', bx', can', ph', now', mk', fs'⟩ := s'
  simp only at hL hr hm hF hQ ho hf
  subst hL hr hm hF hQ ho hf
  exact ⟨hblk, h.box.movedC (hb B (fun e => h.kb e.symm)), h.inb.movedC (by omega) (fun g hg => hb g (by rcases hg with e | e | e; exact fun x => h.ki (x.symm.trans e); exact (h.fk g (.inl e)).1; exact (h.fk g (.inr e)).1)), h.row.on (by omega) (fun g hg => hb g (h.rk g hg).1), h.kb, h.ki, h.bi, h.fk, h.rk, ht, h.small, h.f8, h.q1, h.r1⟩
/-- Its inbox is another one. -/
theorem CA.inbox {W : World} {K B I : Nat} {fv v fr : Value} {s : CD} (h : CA W K B I fv v fr s) {X : World} {Q' : List SD} {v' : Value} {o' : Bool} (hi : IA X 155 I s.rm s.F fv Q' v' o') (hk : Kp I v W X) (hn : Nx W v v') (hq : Q'.length ≤ s.rm) : CA X K B I fv v' fr { s with Q := Q', o := o' } ∧ Fx (footC K B I fv v fr) W X ∧ (∀ g, footC K B I fv v' fr g → footC K B I fv v fr g ∨ W.heap.size ≤ g) := by
  have hK : ∀ g, g < W.heap.size → g ≠ I → v.ownBlock ≠ some g → X.heap[g]? = W.heap[g]? := fun g h1 h2 h3 => hk.block g h1 h2 h3
  refine ⟨⟨h.blk.on (hK K h.blk.lt h.ki (fun e => (h.fk K (.inr e)).1 rfl)), h.box.movedC (hK B h.box.lt h.bi (fun e => (h.fk B (.inr e)).2 rfl)), hi, h.row.on hk.size (fun g hg => hK g (h.row.lt g hg) (h.rk g hg).2.2.1 (h.rk g hg).2.2.2.2), h.kb, h.ki, h.bi, fun g hg => ?_, fun g hg => ⟨(h.rk g hg).1, (h.rk g hg).2.1, (h.rk g hg).2.2.1, (h.rk g hg).2.2.2.1, fun e => ?_⟩, h.tr, h.small, h.f8, hq, h.r1⟩, ⟨hk.os, hk.tape, hk.output, hk.size, fun g hg hf => hK g hg (fun e => hf (.inr (.inr (.inl e)))) (fun e => hf (.inr (.inr (.inr (.inr (.inl e))))))⟩, fun g hg => ?_⟩
  · rcases hg with hg | hg
    · exact h.fk g (.inl hg)
    · rcases hn g hg with e | e
      · exact h.fk g (.inr e)
      · have h1 := h.blk.lt; have h2 := h.box.lt; omega
  · rcases hn g e with e | e
    · exact (h.rk g hg).2.2.2.2 e
    · have := h.row.lt g hg; omega
  · rcases hg with hg | hg | hg | hg | hg | hg
    · exact .inl (.inl hg)
    · exact .inl (.inr (.inl hg))
    · exact .inl (.inr (.inr (.inl hg)))
    · exact .inl (.inr (.inr (.inr (.inl hg))))
    · rcases hn g hg with e | e
      · exact .inl (.inr (.inr (.inr (.inr (.inl e)))))
      · exact .inr e
    · exact .inl (.inr (.inr (.inr (.inr (.inr hg)))))
def CD.new (n room : Nat) (F : List Fl) : CD := ⟨List.replicate 8 BD.zero, n, room, F, [], false, false, 0, false, 0, 0, 0, []⟩
theorem zero_at (j : Nat) : bxAt (List.replicate 8 BD.zero) j = BD.zero := by
  unfold bxAt
  rw [List.getElem?_replicate]
  split <;> rfl
set_option maxHeartbeats 1000000 in
theorem cnew_any (n room : Nat) (h1 : 1 ≤ n) (h2 : n ≤ 8) (h3 : 1 ≤ room) (h4 : room ≤ 16) (F : List Fl) (a : Option Addr) (len cap : Nat) (hl : F.length ≤ 8) (w : World) (hR : Rd w 3 (.slice a len cap) (flC F)) (hRl : ∀ g, (Value.slice a len cap).ownBlock = some g → g < w.heap.size) :
    Calls Try.prog 8 #[.int .i64 (n : Int), .int .i64 (room : Int), .slice a len cap] w fun y w' => ∃ K, y = .returned (.tuple #[.pointer (some ⟨K, 0, none⟩), .int .i64 0]) ∧ ∃ B I fv, CA w' K B I fv (.slice none 0 0) (.slice none 0 0) (CD.new n room F) ∧ (∀ g, footC K B I fv (.slice none 0 0) (.slice none 0 0) g → w.heap.size ≤ g) ∧ Below w.heap.size w w' := by
  have HN := Lib.hid (fun u => new_any n h1 h2 u)
  have HM := Lib.hid (fun u hu => inew_any room h3 h4 F a len cap hl u hu)
  have HR := Lib.hid hR; have HRl := Lib.hid hRl
  have HH := Lib.hid (show room ≤ 16 ∧ F.length ≤ 8 from ⟨h4, hl⟩)
  clear h1 h2 h3 h4 hl hR hRl
  go_enter Try.func8, Try.ntmps8
  go_wp2_with fail
  refine (HN.out _).mono ?_
  rintro y w1 ⟨rfl, hX, hb⟩
  have HX1 := Lib.hid hX; have HB1 := Lib.hid hb
  clear hX hb
  go_wp2_with fail
  refine (HM.out _ (HR.out.kept HB1.out HRl.out)).mono ?_
  rintro y w2 ⟨I, fv, rfl, hII, hI, hfv, hb⟩
  have HX2 := Lib.hid (HX1.out.on hb); have HB2 := Lib.hid (below_transG HB1.out hb); have HI2 := Lib.hid hI; have HII := Lib.hid hII; have HFV := Lib.hid hfv
  clear hII hI hfv hb
  go_wp2_with fail
  go_ret2
  have hx := HX1.out.lt
  have hbl : Below w2.heap.size w2 (w2.alloc (.cells #[.pointer (some ⟨w.heap.size, 0, none⟩), .pointer (some ⟨I, 0, none⟩), .bool false, .int .i64 0, .bool false, .int .i64 0, .int .i64 0, .int .i64 0, .slice none 0 0] 114)) := (Below.refl _ w2).alloc (Nat.le_refl _) _
  have hI2 := HI2.out.lt
  have hX2 := HX2.out.lt
  have hs1 := HB1.out.size
  have hs2 := HB2.out.size
  refine ⟨w2.heap.size, rfl, w.heap.size, I, fv, ⟨Blk.new w2 114 [.pointer (some ⟨w.heap.size, 0, none⟩), .pointer (some ⟨I, 0, none⟩), .bool false, .int .i64 0, .bool false, .int .i64 0, .int .i64 0, .int .i64 0, .slice none 0 0], HX2.out.on hbl, HI2.out.on hbl, Rw.nil _ 3, by omega, by omega, by have := HII.out; omega, fun g hg => ?_, (fun g hg => by cases hg), (fun hg => by cases hg), (fun j => by show (bxAt (List.replicate 8 BD.zero) j).p.n < 4294967296; rw [zero_at]; decide), HH.out.2, Nat.zero_le _, HH.out.1⟩, fun g hg => ?_, HB2.out.alloc hs2 _⟩
  · rcases hg with hg | hg
    · have h5 := HI2.out.flt g hg
      have h6 := HFV.out g hg
      omega
    · cases hg
  · rcases hg with hg | hg | hg | hg | hg | hg
    · omega
    · omega
    · have := HII.out; omega
    · have := HFV.out g hg; omega
    · cases hg
    · cases hg
/-- Is a frame on the wire? -/
def withinB (p : Int) : Bool := (p == 2) || (p == 3)
theorem within_any (p : Int) (w : World) : Calls Try.prog 48 #[.int .i64 p] w fun y w' => y = .returned (.bool (withinB p)) ∧ w = w' := by
  by_cases h3 : p = 3
  · subst h3
    go_enter Try.func48, Try.ntmps48
    go_wp2_with fail
    go_ret
    exact ⟨rfl, rfl⟩
  by_cases h2 : p = 2
  · subst h2
    go_enter Try.func48, Try.ntmps48
    go_wp2_with fail
    go_ret
    exact ⟨rfl, rfl⟩
  · have i2 : (p == 2) = false := by rw [beq_eq_false_iff_ne]; exact h2
    have i3 : (p == 3) = false := by rw [beq_eq_false_iff_ne]; exact h3
    rw [show withinB p = false by unfold withinB; rw [i2, i3]; rfl]
    go_enter Try.func48, Try.ntmps48
    go_wp2_with fail
    go_ret
    exact ⟨rfl, rfl⟩
theorem frames_any (K B I : Nat) (fv v fr : Value) (s : CD) (w : World) (h : CA w K B I fv v fr s) : Calls Try.prog 53 #[.pointer (some ⟨K, 0, none⟩)] w fun y w' => y = .returned (.pointer (some ⟨I, 0, none⟩)) ∧ w = w' := by
  have q1 : w.cell? ⟨K, 1, none⟩ = some (.pointer (some ⟨I, 0, none⟩)) := h.blk.cellAt (i := 1) (by simp)
  clear h
  go_enter Try.func53, Try.ntmps53
  go_wp2_with fail
  go_ret
  exact ⟨rfl, rfl⟩
theorem mailboxes_any (K B I : Nat) (fv v fr : Value) (s : CD) (w : World) (h : CA w K B I fv v fr s) : Calls Try.prog 57 #[.pointer (some ⟨K, 0, none⟩)] w fun y w' => y = .returned (.pointer (some ⟨B, 0, none⟩)) ∧ w = w' := by
  have q1 : w.cell? ⟨K, 0, none⟩ = some (.pointer (some ⟨B, 0, none⟩)) := h.blk.cellAt (i := 0) (by simp)
  clear h
  go_enter Try.func57, Try.ntmps57
  go_wp2_with fail
  go_ret
  exact ⟨rfl, rfl⟩
end Go.Proofs.Ytmlnobiakfapcab
