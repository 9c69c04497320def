/- Who sends: a frame's bits with what they are (parts). Conditions: the frame can be, and the divisor's cells hold what the program's own text lays in them. -/
import Derived.Test.YtmfnkfiocnngeaaDoorSpd
namespace Go.Proofs.YtmfnkfiocnngeaaDoor
open Go.RowKit Go.Shelf
theorem info_part : (Tryd.prog.info? 104).map (fun i => (i.zero, i.size, i.bytes)) = some (some (.agg #[.int .u8 0, .bool false, .bool false, .bool false, .bool false]), 5, 5) := by kernel_rfl
theorem flat_zero (n : Nat) : madeCells #[.int .u8 0, .bool false, .bool false, .bool false, .bool false] (n * 5) = (flatP (List.replicate n (⟨0, false, false, false, false⟩ : PB))).toArray := by
  apply Array.ext
  · rw [size_madeCells]; simp [flatP_length]; omega
  · intro i h1 h2
    rw [size_madeCells] at h1
    have hk : (List.replicate n (⟨0, false, false, false, false⟩ : PB))[i / 5]? = some (⟨0, false, false, false, false⟩ : PB) := by
      rw [List.getElem?_replicate, if_pos (by omega)]
    have h := flatP_at (List.replicate n (⟨0, false, false, false, false⟩ : PB)) (i / 5) (⟨0, false, false, false, false⟩ : PB) hk (i % 5) (by omega)
    rw [show 5 * (i / 5) + i % 5 = i by omega] at h
    have e : (flatP (List.replicate n (⟨0, false, false, false, false⟩ : PB))).toArray[i] = (flatP (List.replicate n (⟨0, false, false, false, false⟩ : PB)))[i]'(by simpa using h2) := by simp
    rw [e]
    rw [List.getElem?_eq_getElem (by simpa using h2)] at h
    have h5 : i % 5 = 0 ∨ i % 5 = 1 ∨ i % 5 = 2 ∨ i % 5 = 3 ∨ i % 5 = 4 := by omega
    have em : (madeCells #[Value.int .u8 0, .bool false, .bool false, .bool false, .bool false] (n * 5))[i]'(by rw [size_madeCells]; exact h1) = #[Value.int .u8 0, .bool false, .bool false, .bool false, .bool false][i % 5]! := by
      simp [madeCells]
    rw [em]
    rcases h5 with c | c | c | c | c
    all_goals
      rw [c] at h ⊢
      exact (Option.some.inj h).symm
theorem make_parts (n : Nat) (h : n ≤ 100000) (u : World) : (Instr.makeSlice 96 (.int .i64 (n : Int)) (.int .i64 (n : Int))).run Tryd.prog u = .ok (.slice (some ⟨u.heap.size, 0, none⟩) n n) (u.alloc (.cells (flatP (List.replicate n (⟨0, false, false, false, false⟩ : PB))).toArray 104)) := by
  obtain ⟨i0, hi, hz0, hz1, hz2⟩ := info_parts info_part
  have := run_make (P := Tryd.prog) u 96 104 i0 _ Tryd.underlying96 hi hz0 .i64 .i64 n n (by omega) (by omega) (by rw [hz2]; omega) (by omega)
  rw [hz1] at this
  rw [← flat_zero]
  exact this
theorem below5L {n B : Nat} {base W : World} (hB : n ≤ B) (h : Below n base W) (o : Nat) (v0 v1 v2 v3 v4 : Value) : Below n base (((((W.setCell ⟨B, o, none⟩ v0).setCell ⟨B, o + 1, none⟩ v1).setCell ⟨B, o + 2, none⟩ v2).setCell ⟨B, o + 3, none⟩ v3).setCell ⟨B, o + 4, none⟩ v4) :=
  Go.below_setCells hB [v0, v1, v2, v3, v4] o W h
theorem Blk.part5 {W : World} {D : Nat} {L : List PB} (h : Blk W D 104 (flatP L)) {k : Nat} (hk : k < L.length) (b : Nat) (a e s l : Bool) :
    Blk (((((W.setCell ⟨D, 5 * k, none⟩ (.int .u8 (b : Int))).setCell ⟨D, 5 * k + 1, none⟩ (.bool a)).setCell ⟨D, 5 * k + 2, none⟩ (.bool e)).setCell ⟨D, 5 * k + 3, none⟩ (.bool s)).setCell ⟨D, 5 * k + 4, none⟩ (.bool l)) D 104 (flatP (L.set k ⟨b, a, e, s, l⟩)) := by
  have hl := flatP_length L
  rw [← flatP_set L k ⟨b, a, e, s, l⟩ hk]
  exact ((((h.put1 (by omega) _).put1 (by simp; omega) _).put1 (by simp; omega) _).put1 (by simp; omega) _).put1 (by simp; omega) _
/-- What the loop of parts holds: the parts so far, the run, the closure's boxes; all of it younger than the world W1. -/
structure PL (W1 W : World) (D R Bd Bf Bl M : Nat) (l : List Nat) (k : Nat) : Prop where
  blk : Blk W D 104 (flatP (partsK M l k))
  run : Blk W R 134 [.int .u8 ((pSt (l.take k)).1.1 : Int), .int .i64 (pSt (l.take k)).1.2]
  ask : AskAt W Bd Bf Bl (pSt (l.take k)).2 M
  low : Below W1.heap.size W1 W
  hD : W1.heap.size ≤ D
  hR : D < R
  hd : Bd < D
  hf : Bf < D
  hl : Bl < D
  hg : W1.heap.size ≤ Bd
theorem pSt_le (l : List Nat) : (pSt l).2 ≤ l.length := by
  have key : ∀ (l : List Nat) (s : (Nat × Int) × Nat), (l.foldl pStep s).2 ≤ s.2 + l.length := by
    intro l
    induction l with
    | nil => intro s; simp
    | cons v l ih =>
      intro s
      have h := ih (pStep s v)
      have h2 : (pStep s v).2 ≤ s.2 + 1 := by unfold pStep; split <;> simp
      rw [List.foldl_cons, List.length_cons]
      omega
  have := key l ((0, 0), 0)
  unfold pSt
  omega
theorem AskAt.other {W : World} {Bd Bf Bl d m C : Nat} (h : AskAt W Bd Bf Bl d m) (h1 : C ≠ Bd) (h2 : C ≠ Bf) (h3 : C ≠ Bl) (o : Nat) (v : Value) : AskAt (W.setCell ⟨C, o, none⟩ v) Bd Bf Bl d m :=
  ⟨h.d.puts h1 o v, h.f.puts h2 o v, h.l.puts h3 o v, h.df, h.dl⟩
theorem Blk.part5c {W : World} {D : Nat} {L : List PB} (h : Blk W D 104 (flatP L)) {k : Nat} (hk : k < L.length) (b : Nat) (a e s l : Bool) :
    Blk (((((W.setCell ⟨D, k * 5, none⟩ (.int .u8 (b : Int))).setCell ⟨D, k * 5 + 1, none⟩ (.bool a)).setCell ⟨D, k * 5 + 2, none⟩ (.bool e)).setCell ⟨D, k * 5 + 3, none⟩ (.bool s)).setCell ⟨D, k * 5 + 4, none⟩ (.bool l)) D 104 (flatP (L.set k ⟨b, a, e, s, l⟩)) := by
  rw [Nat.mul_comm k 5]
  exact h.part5 hk b a e s l
theorem Blk.puts5 {W : World} {B C : Nat} {T : TypeId} {l : List Value} (h : Blk W B T l) (hne : C ≠ B) (o : Nat) (v0 v1 v2 v3 v4 : Value) : Blk (((((W.setCell ⟨C, o, none⟩ v0).setCell ⟨C, o + 1, none⟩ v1).setCell ⟨C, o + 2, none⟩ v2).setCell ⟨C, o + 3, none⟩ v3).setCell ⟨C, o + 4, none⟩ v4) B T l :=
  ((((h.puts hne _ _).puts hne _ _).puts hne _ _).puts hne _ _).puts hne _ _
theorem AskAt.other5 {W : World} {Bd Bf Bl d m C : Nat} (h : AskAt W Bd Bf Bl d m) (h1 : C ≠ Bd) (h2 : C ≠ Bf) (h3 : C ≠ Bl) (o : Nat) (v0 v1 v2 v3 v4 : Value) : AskAt (((((W.setCell ⟨C, o, none⟩ v0).setCell ⟨C, o + 1, none⟩ v1).setCell ⟨C, o + 2, none⟩ v2).setCell ⟨C, o + 3, none⟩ v3).setCell ⟨C, o + 4, none⟩ v4) Bd Bf Bl d m :=
  ((((h.other h1 h2 h3 _ _).other h1 h2 h3 _ _).other h1 h2 h3 _ _).other h1 h2 h3 _ _).other h1 h2 h3 _ _
theorem ownN : (Value.slice none 0 0).ownBlock = none := rfl
theorem OWA {B : Nat} {u : World} {v : Value} {l : List Nat} (o : Obj) (h : Ow B u v l) : Ow B (u.alloc o) v l := h.on ((Below.refl _ _).alloc (Nat.le_refl _) _)
theorem OWD {B : Nat} {u : World} {v : Value} {l : List Nat} (h : Ow B u v l) : Ow B u.drew v l := h.on (Below.refl _ _).drew
set_option maxRecDepth 100000 in
set_option maxHeartbeats 16000000 in
theorem parts_any (e : Bool) (n : Nat) (hn : n < 4294967296) (r : Bool) (m : Nat) (data : List Nat) (hd : data.length = 8) (hdb : ∀ x ∈ data, x < 256) (hok : rightF e n r (m : Int) data = 0) (w : World) (h0 : 1 < w.heap.size) (hT : Tab w) :
    Calls Tryd.prog 71 #[frameV e n r (m : Int) data] w fun y w' => ∃ D, y = .returned (.slice (some ⟨D, 0, none⟩) (encB e n r m data).length (encB e n r m data).length) ∧ w.heap.size ≤ D ∧ Blk w' D 104 (flatP (partsB (1 + (idBits e n r).length) (stuffB (bodyB e n r m data)))) ∧ Below w.heap.size w w' := by
  have hlong := enc_long hok
  have hble := bodyB_le e n r m data
  obtain ⟨W0, hW0⟩ : ∃ W0, W0 = w.alloc (.cells ((frameC e n r (m : Int) data).toArray) 27) := ⟨_, rfl⟩
  have hbW : Below w.heap.size w W0 := by rw [hW0]; exact (Below.refl _ w).alloc (Nat.le_refl _) _
  have HFA := Lib.hid (show FrameAt W0 w.heap.size e n r (m : Int) data by rw [hW0]; exact FrameAt.new w _ e n r m data hd)
  have hsz0 : w.heap.size < W0.heap.size := by rw [hW0]; simp
  have HSZ := Lib.hid hsz0
  have HBW := Lib.hid hbW
  have HEN := Lib.hid (fun u (hu : Below W0.heap.size W0 u) => encode_yes e n hn r m data hd hdb hok u (by have := hu.size; omega) ((hT.onB hbW h0).onB hu (by omega)))
  have HBO := Lib.hid (fun u (hu : Below W0.heap.size W0 u) => frameBody_yes e n hn r m data hd hdb hok u (by have := hu.size; omega) ((hT.onB hbW h0).onB hu (by omega)))
  have HAS := Lib.hid (fun u => asking_any e n hn r (m : Int) data hd u)
  obtain ⟨M, hM⟩ : ∃ M, M = 1 + (idBits e n r).length := ⟨_, rfl⟩
  rw [← hM] at HAS ⊢
  have hEB : encB e n r m data = stuffB (bodyB e n r m data) ++ List.replicate 10 1 := rfl
  have hELen := encB_length (e := e) (n := n) (r := r) (len := m) (data := data)
  obtain ⟨E, hE⟩ : ∃ E, E = encB e n r m data := ⟨_, rfl⟩
  rw [← hE] at HEN hlong hEB hELen ⊢
  obtain ⟨Bo, hBo⟩ : ∃ Bo, Bo = bodyB e n r m data := ⟨_, rfl⟩
  rw [← hBo] at HBO hEB hELen hble ⊢
  obtain ⟨l, hl⟩ : ∃ l, l = stuffB Bo := ⟨_, rfl⟩
  rw [← hl] at hEB hELen ⊢
  have hst := (stuff_most Bo).1
  rw [← hl] at hst
  obtain ⟨N, hN⟩ : ∃ N, N = E.length := ⟨_, rfl⟩
  obtain ⟨K, hK⟩ : ∃ K, K = l.length := ⟨_, rfl⟩
  rw [← hN] at hlong hELen ⊢
  rw [← hK] at hELen hst
  have HLONG := Lib.hid hlong; have HNK := Lib.hid hELen; have HEB := Lib.hid hEB; have HN := Lib.hid hN; have HK := Lib.hid hK; have HBL := Lib.hid hble; have HL := Lib.hid hl; have HST := Lib.hid hst
  obtain ⟨d0, d1, d2, d3, d4, d5, d6, d7, rfl⟩ := eight hd
  simp only [frameV, frameC, List.map] at HEN HBO HAS hW0 ⊢
  clear hd hdb hok h0 hT hbW hsz0 hlong hELen hEB hble hE hBo hN hK hl hst hM
  have HENC := Lib.hid (show ∀ u, (Below W0.heap.size W0 u ∧ u.cell? ⟨w.heap.size, 0, none⟩ = some (.bool e) ∧ u.cell? ⟨w.heap.size, 1, none⟩ = some (.int .u32 (n : Int)) ∧ u.cell? ⟨w.heap.size, 2, none⟩ = some (.bool r) ∧ u.cell? ⟨w.heap.size, 3, none⟩ = some (.int .i64 (m : Int)) ∧ u.cell? ⟨w.heap.size, 4, none⟩ = some (.int .u8 (d0 : Int)) ∧ u.cell? ⟨w.heap.size, 5, none⟩ = some (.int .u8 (d1 : Int)) ∧ u.cell? ⟨w.heap.size, 6, none⟩ = some (.int .u8 (d2 : Int)) ∧ u.cell? ⟨w.heap.size, 7, none⟩ = some (.int .u8 (d3 : Int)) ∧ u.cell? ⟨w.heap.size, 8, none⟩ = some (.int .u8 (d4 : Int)) ∧ u.cell? ⟨w.heap.size, 9, none⟩ = some (.int .u8 (d5 : Int)) ∧ u.cell? ⟨w.heap.size, 10, none⟩ = some (.int .u8 (d6 : Int)) ∧ u.cell? ⟨w.heap.size, 11, none⟩ = some (.int .u8 (d7 : Int))) → Calls Tryd.prog 103 #[.agg #[.bool e, .int .u32 (n : Int), .bool r, .int .i64 (m : Int), .int .u8 (d0 : Int), .int .u8 (d1 : Int), .int .u8 (d2 : Int), .int .u8 (d3 : Int), .int .u8 (d4 : Int), .int .u8 (d5 : Int), .int .u8 (d6 : Int), .int .u8 (d7 : Int)]] u fun x w' => ∃ a cap, x = .returned (.slice a N cap) ∧ Ow W0.heap.size w' (.slice a N cap) E ∧ Below u.heap.size u w' from fun u hu => (HEN.out u hu.1).mono fun x w' h => by
    obtain ⟨v, rfl, ho, hb⟩ := h
    obtain ⟨a, cap, rfl⟩ := ho.shape
    rw [← HN.out] at ho ⊢
    exact ⟨a, cap, rfl, Ow.low ho hu.1.size, hb⟩)
  have HBOC := Lib.hid (show ∀ u, (Below W0.heap.size W0 u ∧ u.cell? ⟨w.heap.size, 0, none⟩ = some (.bool e) ∧ u.cell? ⟨w.heap.size, 1, none⟩ = some (.int .u32 (n : Int)) ∧ u.cell? ⟨w.heap.size, 2, none⟩ = some (.bool r) ∧ u.cell? ⟨w.heap.size, 3, none⟩ = some (.int .i64 (m : Int)) ∧ u.cell? ⟨w.heap.size, 4, none⟩ = some (.int .u8 (d0 : Int)) ∧ u.cell? ⟨w.heap.size, 5, none⟩ = some (.int .u8 (d1 : Int)) ∧ u.cell? ⟨w.heap.size, 6, none⟩ = some (.int .u8 (d2 : Int)) ∧ u.cell? ⟨w.heap.size, 7, none⟩ = some (.int .u8 (d3 : Int)) ∧ u.cell? ⟨w.heap.size, 8, none⟩ = some (.int .u8 (d4 : Int)) ∧ u.cell? ⟨w.heap.size, 9, none⟩ = some (.int .u8 (d5 : Int)) ∧ u.cell? ⟨w.heap.size, 10, none⟩ = some (.int .u8 (d6 : Int)) ∧ u.cell? ⟨w.heap.size, 11, none⟩ = some (.int .u8 (d7 : Int))) → Calls Tryd.prog 17 #[.agg #[.bool e, .int .u32 (n : Int), .bool r, .int .i64 (m : Int), .int .u8 (d0 : Int), .int .u8 (d1 : Int), .int .u8 (d2 : Int), .int .u8 (d3 : Int), .int .u8 (d4 : Int), .int .u8 (d5 : Int), .int .u8 (d6 : Int), .int .u8 (d7 : Int)]] u fun x w' => ∃ a cap, x = .returned (.slice a Bo.length cap) ∧ Ow u.heap.size w' (.slice a Bo.length cap) Bo ∧ Below u.heap.size u w' from fun u hu => (HBO.out u hu.1).mono fun x w' h => by
    obtain ⟨v, rfl, ho, hb⟩ := h
    obtain ⟨a, cap, rfl⟩ := ho.shape
    exact ⟨a, cap, rfl, ho, hb⟩)
  have HSFC := Lib.hid (show ∀ B u a cap, Ow B u (.slice a Bo.length cap) Bo → Calls Tryd.prog 104 #[.slice a Bo.length cap] u fun x w' => ∃ a cap, x = .returned (.slice a K cap) ∧ Below u.heap.size u w' from fun B u a cap hu => (stuff_any a Bo.length cap Bo (by have := HLONG.out; have := HNK.out; have := HST.out; omega) u hu.str).mono fun x w' h => by
    obtain ⟨v, rfl, ho, hb⟩ := h
    rw [bitsOf_self HBL.out, ← HL.out] at ho
    obtain ⟨a, cap, rfl⟩ := ho.shape
    rw [← HK.out]
    exact ⟨a, cap, rfl, hb⟩)
  have HS := Lib.hid (show ∀ u, Below W0.heap.size W0 u → (Below W0.heap.size W0 u ∧ u.cell? ⟨w.heap.size, 0, none⟩ = some (.bool e) ∧ u.cell? ⟨w.heap.size, 1, none⟩ = some (.int .u32 (n : Int)) ∧ u.cell? ⟨w.heap.size, 2, none⟩ = some (.bool r) ∧ u.cell? ⟨w.heap.size, 3, none⟩ = some (.int .i64 (m : Int)) ∧ u.cell? ⟨w.heap.size, 4, none⟩ = some (.int .u8 (d0 : Int)) ∧ u.cell? ⟨w.heap.size, 5, none⟩ = some (.int .u8 (d1 : Int)) ∧ u.cell? ⟨w.heap.size, 6, none⟩ = some (.int .u8 (d2 : Int)) ∧ u.cell? ⟨w.heap.size, 7, none⟩ = some (.int .u8 (d3 : Int)) ∧ u.cell? ⟨w.heap.size, 8, none⟩ = some (.int .u8 (d4 : Int)) ∧ u.cell? ⟨w.heap.size, 9, none⟩ = some (.int .u8 (d5 : Int)) ∧ u.cell? ⟨w.heap.size, 10, none⟩ = some (.int .u8 (d6 : Int)) ∧ u.cell? ⟨w.heap.size, 11, none⟩ = some (.int .u8 (d7 : Int))) from fun u hu => by
    obtain ⟨p0, p1, p2, p3, p4, p5, p6, p7, p8, p9, p10, p11⟩ := (HFA.out.keep hu HSZ.out).cells
    exact ⟨hu, p0, p1, p2, p3, p4, p5, p6, p7, p8, p9, p10, p11⟩)
  have HZA := Lib.hid (show ∀ u o, (Below W0.heap.size W0 u ∧ u.cell? ⟨w.heap.size, 0, none⟩ = some (.bool e) ∧ u.cell? ⟨w.heap.size, 1, none⟩ = some (.int .u32 (n : Int)) ∧ u.cell? ⟨w.heap.size, 2, none⟩ = some (.bool r) ∧ u.cell? ⟨w.heap.size, 3, none⟩ = some (.int .i64 (m : Int)) ∧ u.cell? ⟨w.heap.size, 4, none⟩ = some (.int .u8 (d0 : Int)) ∧ u.cell? ⟨w.heap.size, 5, none⟩ = some (.int .u8 (d1 : Int)) ∧ u.cell? ⟨w.heap.size, 6, none⟩ = some (.int .u8 (d2 : Int)) ∧ u.cell? ⟨w.heap.size, 7, none⟩ = some (.int .u8 (d3 : Int)) ∧ u.cell? ⟨w.heap.size, 8, none⟩ = some (.int .u8 (d4 : Int)) ∧ u.cell? ⟨w.heap.size, 9, none⟩ = some (.int .u8 (d5 : Int)) ∧ u.cell? ⟨w.heap.size, 10, none⟩ = some (.int .u8 (d6 : Int)) ∧ u.cell? ⟨w.heap.size, 11, none⟩ = some (.int .u8 (d7 : Int))) → (Below W0.heap.size W0 (u.alloc o) ∧ (u.alloc o).cell? ⟨w.heap.size, 0, none⟩ = some (.bool e) ∧ (u.alloc o).cell? ⟨w.heap.size, 1, none⟩ = some (.int .u32 (n : Int)) ∧ (u.alloc o).cell? ⟨w.heap.size, 2, none⟩ = some (.bool r) ∧ (u.alloc o).cell? ⟨w.heap.size, 3, none⟩ = some (.int .i64 (m : Int)) ∧ (u.alloc o).cell? ⟨w.heap.size, 4, none⟩ = some (.int .u8 (d0 : Int)) ∧ (u.alloc o).cell? ⟨w.heap.size, 5, none⟩ = some (.int .u8 (d1 : Int)) ∧ (u.alloc o).cell? ⟨w.heap.size, 6, none⟩ = some (.int .u8 (d2 : Int)) ∧ (u.alloc o).cell? ⟨w.heap.size, 7, none⟩ = some (.int .u8 (d3 : Int)) ∧ (u.alloc o).cell? ⟨w.heap.size, 8, none⟩ = some (.int .u8 (d4 : Int)) ∧ (u.alloc o).cell? ⟨w.heap.size, 9, none⟩ = some (.int .u8 (d5 : Int)) ∧ (u.alloc o).cell? ⟨w.heap.size, 10, none⟩ = some (.int .u8 (d6 : Int)) ∧ (u.alloc o).cell? ⟨w.heap.size, 11, none⟩ = some (.int .u8 (d7 : Int))) from fun u o h => HS.out _ (h.1.alloc h.1.size o))
  have HZD := Lib.hid (show ∀ u, (Below W0.heap.size W0 u ∧ u.cell? ⟨w.heap.size, 0, none⟩ = some (.bool e) ∧ u.cell? ⟨w.heap.size, 1, none⟩ = some (.int .u32 (n : Int)) ∧ u.cell? ⟨w.heap.size, 2, none⟩ = some (.bool r) ∧ u.cell? ⟨w.heap.size, 3, none⟩ = some (.int .i64 (m : Int)) ∧ u.cell? ⟨w.heap.size, 4, none⟩ = some (.int .u8 (d0 : Int)) ∧ u.cell? ⟨w.heap.size, 5, none⟩ = some (.int .u8 (d1 : Int)) ∧ u.cell? ⟨w.heap.size, 6, none⟩ = some (.int .u8 (d2 : Int)) ∧ u.cell? ⟨w.heap.size, 7, none⟩ = some (.int .u8 (d3 : Int)) ∧ u.cell? ⟨w.heap.size, 8, none⟩ = some (.int .u8 (d4 : Int)) ∧ u.cell? ⟨w.heap.size, 9, none⟩ = some (.int .u8 (d5 : Int)) ∧ u.cell? ⟨w.heap.size, 10, none⟩ = some (.int .u8 (d6 : Int)) ∧ u.cell? ⟨w.heap.size, 11, none⟩ = some (.int .u8 (d7 : Int))) → (Below W0.heap.size W0 u.drew ∧ u.drew.cell? ⟨w.heap.size, 0, none⟩ = some (.bool e) ∧ u.drew.cell? ⟨w.heap.size, 1, none⟩ = some (.int .u32 (n : Int)) ∧ u.drew.cell? ⟨w.heap.size, 2, none⟩ = some (.bool r) ∧ u.drew.cell? ⟨w.heap.size, 3, none⟩ = some (.int .i64 (m : Int)) ∧ u.drew.cell? ⟨w.heap.size, 4, none⟩ = some (.int .u8 (d0 : Int)) ∧ u.drew.cell? ⟨w.heap.size, 5, none⟩ = some (.int .u8 (d1 : Int)) ∧ u.drew.cell? ⟨w.heap.size, 6, none⟩ = some (.int .u8 (d2 : Int)) ∧ u.drew.cell? ⟨w.heap.size, 7, none⟩ = some (.int .u8 (d3 : Int)) ∧ u.drew.cell? ⟨w.heap.size, 8, none⟩ = some (.int .u8 (d4 : Int)) ∧ u.drew.cell? ⟨w.heap.size, 9, none⟩ = some (.int .u8 (d5 : Int)) ∧ u.drew.cell? ⟨w.heap.size, 10, none⟩ = some (.int .u8 (d6 : Int)) ∧ u.drew.cell? ⟨w.heap.size, 11, none⟩ = some (.int .u8 (d7 : Int))) from fun u h => HS.out _ h.1.drew)
  have HZC := Lib.hid (show ∀ u u', (Below W0.heap.size W0 u ∧ u.cell? ⟨w.heap.size, 0, none⟩ = some (.bool e) ∧ u.cell? ⟨w.heap.size, 1, none⟩ = some (.int .u32 (n : Int)) ∧ u.cell? ⟨w.heap.size, 2, none⟩ = some (.bool r) ∧ u.cell? ⟨w.heap.size, 3, none⟩ = some (.int .i64 (m : Int)) ∧ u.cell? ⟨w.heap.size, 4, none⟩ = some (.int .u8 (d0 : Int)) ∧ u.cell? ⟨w.heap.size, 5, none⟩ = some (.int .u8 (d1 : Int)) ∧ u.cell? ⟨w.heap.size, 6, none⟩ = some (.int .u8 (d2 : Int)) ∧ u.cell? ⟨w.heap.size, 7, none⟩ = some (.int .u8 (d3 : Int)) ∧ u.cell? ⟨w.heap.size, 8, none⟩ = some (.int .u8 (d4 : Int)) ∧ u.cell? ⟨w.heap.size, 9, none⟩ = some (.int .u8 (d5 : Int)) ∧ u.cell? ⟨w.heap.size, 10, none⟩ = some (.int .u8 (d6 : Int)) ∧ u.cell? ⟨w.heap.size, 11, none⟩ = some (.int .u8 (d7 : Int))) → Below u.heap.size u u' → (Below W0.heap.size W0 u' ∧ u'.cell? ⟨w.heap.size, 0, none⟩ = some (.bool e) ∧ u'.cell? ⟨w.heap.size, 1, none⟩ = some (.int .u32 (n : Int)) ∧ u'.cell? ⟨w.heap.size, 2, none⟩ = some (.bool r) ∧ u'.cell? ⟨w.heap.size, 3, none⟩ = some (.int .i64 (m : Int)) ∧ u'.cell? ⟨w.heap.size, 4, none⟩ = some (.int .u8 (d0 : Int)) ∧ u'.cell? ⟨w.heap.size, 5, none⟩ = some (.int .u8 (d1 : Int)) ∧ u'.cell? ⟨w.heap.size, 6, none⟩ = some (.int .u8 (d2 : Int)) ∧ u'.cell? ⟨w.heap.size, 7, none⟩ = some (.int .u8 (d3 : Int)) ∧ u'.cell? ⟨w.heap.size, 8, none⟩ = some (.int .u8 (d4 : Int)) ∧ u'.cell? ⟨w.heap.size, 9, none⟩ = some (.int .u8 (d5 : Int)) ∧ u'.cell? ⟨w.heap.size, 10, none⟩ = some (.int .u8 (d6 : Int)) ∧ u'.cell? ⟨w.heap.size, 11, none⟩ = some (.int .u8 (d7 : Int))) from fun u u' h hb => HS.out _ (h.1.trans (hb.mono h.1.size)))
  have z0 := HS.out _ (Below.refl _ _)
  have z1 := HS.out _ (Below.refl _ _).drew
  go_enter Tryd.func71, Tryd.ntmps71
  go_upto_region 1 with fail
  rw [← hW0]
  clear hW0
  go_cut [3, 4] (fun s3 s4 wx => ∃ a cap, s3 = .slice a N cap ∧ s4 = .int .i64 (K : Int) ∧ Ow W0.heap.size wx (.slice a N cap) E ∧ Below W0.heap.size W0 wx)
  case first =>
    go_region_held3 (fun u => (Below W0.heap.size W0 u ∧ u.cell? ⟨w.heap.size, 0, none⟩ = some (.bool e) ∧ u.cell? ⟨w.heap.size, 1, none⟩ = some (.int .u32 (n : Int)) ∧ u.cell? ⟨w.heap.size, 2, none⟩ = some (.bool r) ∧ u.cell? ⟨w.heap.size, 3, none⟩ = some (.int .i64 (m : Int)) ∧ u.cell? ⟨w.heap.size, 4, none⟩ = some (.int .u8 (d0 : Int)) ∧ u.cell? ⟨w.heap.size, 5, none⟩ = some (.int .u8 (d1 : Int)) ∧ u.cell? ⟨w.heap.size, 6, none⟩ = some (.int .u8 (d2 : Int)) ∧ u.cell? ⟨w.heap.size, 7, none⟩ = some (.int .u8 (d3 : Int)) ∧ u.cell? ⟨w.heap.size, 8, none⟩ = some (.int .u8 (d4 : Int)) ∧ u.cell? ⟨w.heap.size, 9, none⟩ = some (.int .u8 (d5 : Int)) ∧ u.cell? ⟨w.heap.size, 10, none⟩ = some (.int .u8 (d6 : Int)) ∧ u.cell? ⟨w.heap.size, 11, none⟩ = some (.int .u8 (d7 : Int)))) (repeat (first | (with_reducible assumption) | (with_reducible refine HZA.out _ _ ?_) | (with_reducible refine HZD.out _ ?_))) (first
      | (go_at_call 103; refine (HENC.out _ (by repeat (first | (with_reducible assumption) | (with_reducible refine HZA.out _ _ ?_) | (with_reducible refine HZD.out _ ?_)))).mono ?_; rintro y3 w3 ⟨a3, c3, rfl, ho3, hb3⟩; have h3S := HZC.out _ _ (by repeat (first | (with_reducible assumption) | (with_reducible refine HZA.out _ _ ?_) | (with_reducible refine HZD.out _ ?_))) hb3)
      | (go_at_call 17; refine (HBOC.out _ (by repeat (first | (with_reducible assumption) | (with_reducible refine HZA.out _ _ ?_) | (with_reducible refine HZD.out _ ?_)))).mono ?_; rintro y4 w4 ⟨a4, c4, rfl, ho4, hb4⟩; have h4S := HZC.out _ _ (by repeat (first | (with_reducible assumption) | (with_reducible refine HZA.out _ _ ?_) | (with_reducible refine HZD.out _ ?_))) hb4)
      | (go_at_call 104; refine (HSFC.out _ _ _ _ (by repeat (first | (with_reducible exact ho4) | (with_reducible refine OWA _ ?_) | (with_reducible refine OWD ?_) | (with_reducible refine Ow.on ?_ hb3)))).mono ?_; rintro y5 w5 ⟨a5, c5, rfl, hb5⟩; have h5S := HZC.out _ _ (by repeat (first | (with_reducible assumption) | (with_reducible refine HZA.out _ _ ?_) | (with_reducible refine HZD.out _ ?_))) hb5))
    all_goals (go_wp2_with fail; go_meet)
    all_goals exact ⟨a3, c3, rfl, rfl, (by repeat (first | (with_reducible exact ho3) | (with_reducible refine OWA _ ?_) | (with_reducible refine OWD ?_) | (with_reducible refine Ow.on ?_ hb5) | (with_reducible refine Ow.on ?_ hb4))), h5S.1⟩
  case rest =>
  obtain ⟨a, cap, rfl, rfl, hOE, hBx⟩ := hcut
  obtain ⟨W1, hW1⟩ : ∃ W1, W1 = wc := ⟨_, rfl⟩
  rw [← hW1] at hOE hBx ⊢
  clear hW1 z0 z1
  have HO1 := Lib.hid hOE; have HB1 := Lib.hid hBx
  obtain ⟨_, p0, p1, p2, p3, p4, p5, p6, p7, p8, p9, p10, p11⟩ := HS.out W1 hBx
  have hcap := hOE.lenCap
  rw [← HN.out] at hcap
  clear hOE hBx
  go_wp2_with fail
  refine (HAS.out _).mono ?_
  rintro y w2 ⟨Bd, Bf, Bl, rfl, hge, hask, hb2⟩
  have HASK := Lib.hid hask; have HGE := Lib.hid hge; have HB2 := Lib.hid hb2
  have hmk := make_parts N (by have := HLONG.out; omega)
  obtain ⟨D, hD⟩ : ∃ D, D = w2.heap.size := ⟨_, rfl⟩
  obtain ⟨W3, hW3⟩ : ∃ W3, W3 = (w2.alloc (.cells (flatP (List.replicate N (⟨0, false, false, false, false⟩ : PB))).toArray 104)).alloc (.cells #[.int .u8 0, .int .i64 0] 134) := ⟨_, rfl⟩
  have HPL := Lib.hid (show PL W1 W3 D (D + 1) Bd Bf Bl M l 0 from by
    have hb3 : Below w2.heap.size w2 W3 := by rw [hW3]; exact ((Below.refl _ w2).alloc (Nat.le_refl _) _).alloc (by simp) _
    refine ⟨?_, ?_, hask.keep hb3, hb2.trans (hb3.mono hb2.size), by have := hb2.size; omega, by have := hb2.size; omega, by have := hask.d.lt; omega, by have := hask.f.lt; omega, by have := hask.l.lt; omega, hge⟩
    · rw [partsK_zero, ← HK.out, show K + 10 = N by have := HNK.out; omega, hW3, hD]
      exact (Blk.new w2 _ _).keep ((Below.refl _ _).alloc (Nat.le_refl _) _) (by simp)
    · rw [hW3, hD]
      have h := Blk.new (w2.alloc (.cells (flatP (List.replicate N (⟨0, false, false, false, false⟩ : PB))).toArray 104)) 134 [.int .u8 0, .int .i64 0]
      rw [World.size_alloc] at h
      exact h)
  have e0 : (0 : Int) ≤ (K : Int) := by omega
  have e1 : (K : Int) ≤ (cap : Int) := by have := HNK.out; omega
  clear p0 p1 p2 p3 p4 p5 p6 p7 p8 p9 p10 p11 hge hask hb2
  go_upto_region 5 with fail
  rw [← hD]
  rw [show (w2.alloc (.cells (flatP (List.replicate N (⟨0, false, false, false, false⟩ : PB))).toArray 104)).alloc (.cells #[.int .u8 0, .int .i64 0] 134) = W3 from hW3.symm]
  clear hW3 hmk hD
  go_upto_region 6 with fail
  go_wp2_with fail
  go_loopw [28, 8] (fun i kd wr => ∃ (k kn : Nat), k ≤ K ∧ i = .int .i64 (k : Int) ∧ kd = .int .i64 (kn : Int) ∧ PL W1 wr D (D + 1) Bd Bf Bl M l k) (fun i _ _ => K - (intOf i).toNat)
  case atStart => exact ⟨0, 0, Nat.zero_le _, rfl, rfl, HPL.out⟩
  case round =>
    obtain ⟨k, kn, hk, rfl, rfl, hpl⟩ := hrel
    have HP := Lib.hid hpl
    have HOr := Lib.hid (HO1.out.on hpl.low)
    clear hpl
    by_cases hlt : k < K
    · have i1 : (k : Int) < (K : Int) := by omega
      have i2 : (0 : Int) ≤ (k : Int) := by omega
      have hkN : k < N := by have := HNK.out; omega
      obtain ⟨bk, off, hae, hbk, hc⟩ := HOr.out.str.at hkN
      subst hae
      have c0 := hc _ (Below.refl _ _)
      obtain ⟨x, hx⟩ : ∃ x, x = E[k]?.getD 0 := ⟨_, rfl⟩
      rw [← hx] at c0
      have hxl : l[k]?.getD 0 = x := by rw [hx, HEB.out, List.getElem?_append_left (by rw [← HK.out]; exact hlt)]
      have hx1 : x ≤ 1 := by rw [← hxl, HL.out]; exact getD_bit (stuff_le _ HBL.out) k
      obtain ⟨sb, sn, sd, hs⟩ : ∃ sb sn sd, pSt (l.take k) = ((sb, sn), sd) := ⟨_, _, _, rfl⟩
      obtain ⟨rb, rn, kq, hq⟩ : ∃ (rb : Nat) (rn : Int) (kq : Nat), nextW sb sn x = ((rb, rn), kq) := ⟨_, _, _, rfl⟩
      have hsd : sd ≤ 1000 := by
        have h := pSt_le (l.take k)
        rw [hs, List.length_take] at h
        simp only at h
        have := HLONG.out; have := HNK.out; omega
      have hlk : l.take (k + 1) = l.take k ++ [x] := by
        have hl2 : k < l.length := by rw [← HK.out]; exact hlt
        rw [List.take_succ_eq_append_getElem hl2, ← hxl]
        simp [hl2]
      obtain ⟨sd', hsd'⟩ : ∃ sd', sd' = sd + if kq = 0 then 1 else 0 := ⟨_, rfl⟩
      have HST1 := Lib.hid (show pSt (l.take (k + 1)) = ((rb, rn), sd') by
        rw [hlk, pSt_snoc, hs, hsd']
        unfold pStep
        rw [hq])
      obtain ⟨A, hA⟩ : ∃ A, A = (decide (2 ≤ sd') && decide (sd' ≤ M)) := ⟨_, rfl⟩
      obtain ⟨Q, hQ⟩ : ∃ Q, Q = decide (kq = 1) := ⟨_, rfl⟩
      have iq : ((kq : Int) == 1) = Q := by rw [hQ, Bool.eq_iff_iff]; simp; omega
      have HPT := Lib.hid (show partAt M l k = ⟨x, A, Q, false, false⟩ by
        unfold partAt pPart
        rw [if_pos (by rw [← HK.out]; exact hlt), hxl, hs, hA, hQ, hsd']
        unfold pStep
        rw [hq])
      have hrun := HP.out.run; have hask := HP.out.ask
      rw [hs] at hrun hask
      simp only at hrun hask
      have q0 := hrun.cellAt (i := 0) (by simp); have q1 := hrun.cellAt (i := 1) (by simp)
      simp only [List.getElem_cons_zero, List.getElem_cons_succ] at q0 q1
      have HNX := Lib.hid (show ∀ u, Calls Tryd.prog 106 #[.agg #[.int .u8 (sb : Int), .int .i64 sn], .int .u8 (x : Int)] u fun y w' => y = .returned (.tuple #[.agg #[.int .u8 (rb : Int), .int .i64 rn], .int .i64 (kq : Int)]) ∧ Below u.heap.size u w' from fun u => by
        have h := next_any sb sn x u
        rw [bitN_self hx1, hq] at h
        exact h)
      have HRUN := Lib.hid hrun; have HASKK := Lib.hid hask; have HSD := Lib.hid hsd; have HLT := Lib.hid hlt
      have HSD' := Lib.hid hsd'; have HA := Lib.hid hA
      clear hc hx hxl hx1 hs hq hsd hlk hsd' hA hQ hrun hask hkN hbk hlt
      go_wp2_with fail
      refine (HNX.out _).mono ?_
      rintro y w4 ⟨rfl, hb4⟩
      obtain ⟨W5, hW5⟩ : ∃ W5, W5 = (w4.setCell ⟨D + 1, 0, none⟩ (.int .u8 (rb : Int))).setCell ⟨D + 1, 1, none⟩ (.int .i64 rn) := ⟨_, rfl⟩
      have hr4 := HRUN.out.keep hb4 HRUN.out.lt
      have K1 := Lib.hid (show Blk W5 D 104 (flatP (partsK M l k)) by rw [hW5]; exact ((HP.out.blk.keep hb4 HP.out.blk.lt).puts (by omega) 0 _).puts (by omega) 1 _)
      have K2 := Lib.hid (show Blk W5 (D + 1) 134 [.int .u8 (rb : Int), .int .i64 rn] by rw [hW5]; exact (hr4.put1 (i := 0) (by simp) _).put1 (i := 1) (by simp) _)
      have K3 := Lib.hid (show AskAt W5 Bd Bf Bl sd M by
        have h1 := HP.out.hd; have h2 := HP.out.hf; have h3 := HP.out.hl
        rw [hW5]; exact ((HASKK.out.keep hb4).other (by omega) (by omega) (by omega) 0 _).other (by omega) (by omega) (by omega) 1 _)
      have K4 := Lib.hid (show Below W1.heap.size W1 W5 by
        have h1 := HP.out.hD
        rw [hW5]; exact ((HP.out.low.trans (hb4.mono HP.out.low.size)).setCell (p := ⟨D + 1, 0, none⟩) (by show W1.heap.size ≤ D + 1; omega) _).setCell (p := ⟨D + 1, 1, none⟩) (by show W1.heap.size ≤ D + 1; omega) _)
      have q0 := hr4.cellAt (i := 0) (by simp); have q1 := hr4.cellAt (i := 1) (by simp)
      have g0 := hr4.frozenAt 0; have g1 := hr4.frozenAt 1
      simp only [List.getElem_cons_zero, List.getElem_cons_succ] at q0 q1
      clear hb4 hr4 c0
      go_upto_region 9 with fail
      rw [← hW5]
      clear hW5 q0 q1 g0 g1
      have HA1 := Lib.hid (asks1_any W5 Bd Bf Bl sd M kq HSD.out K3.out)
      rw [← HSD'.out, ← HA.out] at HA1
      go_wp2_with fail
      refine HA1.out.mono ?_
      rintro y w6 ⟨rfl, hask6, hk6⟩
      have hj1 := K1.out.on (hk6.block D K1.out.lt (by have := HP.out.hd; omega) (by rw [ownN]; simp))
      have hj2 := K2.out.on (hk6.block (D + 1) K2.out.lt (by have := HP.out.hd; omega) (by rw [ownN]; simp))
      have J1 := Lib.hid hj1; have J2 := Lib.hid hj2; have J3 := Lib.hid hask6
      have J4 := Lib.hid (K4.out.trans ((hk6.below (Nat.le_of_lt K3.out.d.lt) (fun k e => by rw [ownN] at e; exact absurd e (by simp))).mono HP.out.hg))
      have hfl : 5 * k + 5 ≤ (flatP (partsK M l k)).length := by rw [flatP_length, partsK_length, ← HK.out]; have := HLT.out; omega
      obtain ⟨v0, z0⟩ : ∃ v, w6.cell? ⟨D, k * 5, none⟩ = some v := ⟨_, hj1.cellAt (by omega)⟩
      obtain ⟨v1, z1⟩ : ∃ v, w6.cell? ⟨D, k * 5 + 1, none⟩ = some v := ⟨_, hj1.cellAt (by omega)⟩
      obtain ⟨v2, z2⟩ : ∃ v, w6.cell? ⟨D, k * 5 + 2, none⟩ = some v := ⟨_, hj1.cellAt (by omega)⟩
      obtain ⟨v3, z3⟩ : ∃ v, w6.cell? ⟨D, k * 5 + 3, none⟩ = some v := ⟨_, hj1.cellAt (by omega)⟩
      obtain ⟨v4, z4⟩ : ∃ v, w6.cell? ⟨D, k * 5 + 4, none⟩ = some v := ⟨_, hj1.cellAt (by omega)⟩
      have f0 := hj1.frozenAt (k * 5); have f1 := hj1.frozenAt (k * 5 + 1); have f2 := hj1.frozenAt (k * 5 + 2); have f3 := hj1.frozenAt (k * 5 + 3); have f4 := hj1.frozenAt (k * 5 + 4)
      have i3 : (k : Int) < (N : Int) := by have := HLT.out; have := HNK.out; omega
      obtain ⟨W7, hW7⟩ : ∃ W7, W7 = (((((w6.setCell ⟨D, k * 5, none⟩ (.int .u8 (x : Int))).setCell ⟨D, k * 5 + 1, none⟩ (.bool A)).setCell ⟨D, k * 5 + 2, none⟩ (.bool Q)).setCell ⟨D, k * 5 + 3, none⟩ (.bool false)).setCell ⟨D, k * 5 + 4, none⟩ (.bool false)) := ⟨_, rfl⟩
      have L1 := Lib.hid (show Blk W7 D 104 (flatP (partsK M l (k + 1))) by
        rw [hW7, ← partsK_set M l (k := k) (by rw [← HK.out]; have := HLT.out; omega), HPT.out]
        exact hj1.part5c (by rw [partsK_length, ← HK.out]; have := HLT.out; omega) x A Q false false)
      have L2 := Lib.hid (show Blk W7 (D + 1) 134 [.int .u8 (rb : Int), .int .i64 rn] by rw [hW7]; exact hj2.puts5 (by omega) _ _ _ _ _ _)
      have L3 := Lib.hid (show AskAt W7 Bd Bf Bl sd' M by rw [hW7]; exact hask6.other5 (by have := HP.out.hd; omega) (by have := HP.out.hf; omega) (by have := HP.out.hl; omega) _ _ _ _ _ _)
      have L4 := Lib.hid (show Below W1.heap.size W1 W7 by rw [hW7]; exact below5L HP.out.hD J4.out _ _ _ _ _ _)
      clear hask6 hk6 hj1 hj2 hfl
      go_upto_region 10 with fail
      rw [← hW7]
      clear hW7 z0 z1 z2 z3 z4 f0 f1 f2 f3 f4
      have hw1 : IntKind.i64.wrap ((k : Int) + 1) = (k : Int) + 1 := by rw [IntKind.wrap_i64]; have := HLONG.out; have := HNK.out; omega
      go_wp2_with fail
      go_roundw
      case rel => exact ⟨k + 1, kq, HLT.out, by simp, rfl, ⟨L1.out, by rw [HST1.out]; exact L2.out, by rw [HST1.out]; exact L3.out, L4.out, HP.out.hD, HP.out.hR, HP.out.hd, HP.out.hf, HP.out.hl, HP.out.hg⟩⟩
      case measure => have := HLT.out; simp [intOf]; omega
    · obtain rfl : k = K := by omega
      have i1 : ¬ (k : Int) < (k : Int) := by omega
      obtain ⟨K, hK⟩ : ∃ K, K = k := ⟨_, rfl⟩
      have HB2K := Lib.hid (show Blk wr D 104 (flatP (partsK M l K)) by rw [hK]; exact HP.out.blk)
      have HLW := Lib.hid HP.out.low
      have HDW := Lib.hid HP.out.hD
      obtain ⟨wz, hwz⟩ : ∃ wz, wz = wr := ⟨_, rfl⟩
      rw [← hwz] at HB2K HLW
      have HKK := Lib.hid hK
      go_upto_region 11 with fail
      rw [← hwz, ← hK]
      clear hwz hK hlt i1 HP HOr HPL
      go_wp2_with fail
      go_loopw [11] (fun i wr => ∃ (k : Nat), K ≤ k ∧ k ≤ N ∧ i = .int .i64 (k : Int) ∧ Blk wr D 104 (flatP (partsK M l k)) ∧ Below W1.heap.size W1 wr) (fun i _ => N - (intOf i).toNat)
      case atStart => exact ⟨K, Nat.le_refl _, by have := HNK.out; have := HKK.out; omega, rfl, HB2K.out, HLW.out⟩
      case round =>
        obtain ⟨k, hKk, hk, rfl, hblk, hlow⟩ := hrel
        have HLOW := Lib.hid hlow; have HBK := Lib.hid hblk
        have HOr := Lib.hid (HO1.out.on hlow)
        clear hblk hlow
        have hNK : N = K + 10 := by have := HNK.out; have := HKK.out; omega
        have hlK : l.length = K := by have := HK.out; have := HKK.out; omega
        by_cases hlt : k < N
        · have i1 : (k : Int) < (N : Int) := by omega
          have i2 : (0 : Int) ≤ (k : Int) := by omega
          obtain ⟨bk, off, hae, hbk, hc⟩ := HOr.out.str.at hlt
          subst hae
          have c00 := hc _ (Below.refl _ _)
          have hx : E[k]?.getD 0 = 1 := by
            rw [HEB.out, List.getElem?_append_right (by rw [hlK]; exact hKk), List.getElem?_replicate, if_pos (by rw [hlK]; omega)]
            rfl
          rw [hx] at c00
          have c0 : wr.cell? ⟨bk, off + k, none⟩ = some (.int .u8 1) := c00
          obtain ⟨S, hS⟩ : ∃ S, S = decide (k = K + 1) := ⟨_, rfl⟩
          obtain ⟨T, hTT⟩ : ∃ T, T = decide (k = K + 9) := ⟨_, rfl⟩
          have hN160 := HLONG.out.2.1
          have hw1 : IntKind.i64.wrap ((K : Int) + 1) = (K : Int) + 1 := by rw [IntKind.wrap_i64]; omega
          have hw2 : IntKind.i64.wrap ((N : Int) - 1) = (K : Int) + 9 := by rw [IntKind.wrap_i64]; omega
          have hw3 : IntKind.i64.wrap ((k : Int) + 1) = (k : Int) + 1 := by rw [IntKind.wrap_i64]; omega
          have j1 : ((k : Int) == (K : Int) + 1) = S := by rw [hS, Bool.eq_iff_iff]; simp; omega
          have j2 : ((k : Int) == (K : Int) + 9) = T := by rw [hTT, Bool.eq_iff_iff]; simp; omega
          have HPT := Lib.hid (show partAt M l k = ⟨1, false, false, S, T⟩ by
            unfold partAt
            rw [if_neg (by rw [hlK]; omega), hlK, hS, hTT])
          have hfl : 5 * k + 5 ≤ (flatP (partsK M l k)).length := by rw [flatP_length, partsK_length, hlK]; omega
          obtain ⟨v0, z0⟩ : ∃ v, wr.cell? ⟨D, k * 5, none⟩ = some v := ⟨_, HBK.out.cellAt (by omega)⟩
          obtain ⟨v1, z1⟩ : ∃ v, wr.cell? ⟨D, k * 5 + 1, none⟩ = some v := ⟨_, HBK.out.cellAt (by omega)⟩
          obtain ⟨v2, z2⟩ : ∃ v, wr.cell? ⟨D, k * 5 + 2, none⟩ = some v := ⟨_, HBK.out.cellAt (by omega)⟩
          obtain ⟨v3, z3⟩ : ∃ v, wr.cell? ⟨D, k * 5 + 3, none⟩ = some v := ⟨_, HBK.out.cellAt (by omega)⟩
          obtain ⟨v4, z4⟩ : ∃ v, wr.cell? ⟨D, k * 5 + 4, none⟩ = some v := ⟨_, HBK.out.cellAt (by omega)⟩
          have f0 := HBK.out.frozenAt (k * 5); have f1 := HBK.out.frozenAt (k * 5 + 1); have f2 := HBK.out.frozenAt (k * 5 + 2); have f3 := HBK.out.frozenAt (k * 5 + 3); have f4 := HBK.out.frozenAt (k * 5 + 4)
          obtain ⟨W7, hW7⟩ : ∃ W7, W7 = (((((wr.setCell ⟨D, k * 5, none⟩ (.int .u8 1)).setCell ⟨D, k * 5 + 1, none⟩ (.bool false)).setCell ⟨D, k * 5 + 2, none⟩ (.bool false)).setCell ⟨D, k * 5 + 3, none⟩ (.bool S)).setCell ⟨D, k * 5 + 4, none⟩ (.bool T)) := ⟨_, rfl⟩
          have L1 := Lib.hid (show Blk W7 D 104 (flatP (partsK M l (k + 1))) by
            rw [hW7, ← partsK_set M l (k := k) (by rw [hlK]; omega), HPT.out]
            exact HBK.out.part5c (by rw [partsK_length, hlK]; omega) 1 false false S T)
          have L4 := Lib.hid (show Below W1.heap.size W1 W7 by rw [hW7]; exact below5L HDW.out HLOW.out _ _ _ _ _ _)
          have HLT := Lib.hid hlt; have HKk := Lib.hid hKk
          clear hx c00 hS hTT hfl hc hbk hNK hlK hN160 hlt hKk hk
          go_upto_region 13 with fail
          rw [← hW7]
          clear hW7 z0 z1 z2 z3 z4 f0 f1 f2 f3 f4
          go_wp2_with fail
          go_roundw
          case rel => exact ⟨k + 1, by have := HKk.out; omega, HLT.out, by simp, L1.out, L4.out⟩
          case measure => have := HLT.out; simp [intOf]; omega
        · obtain rfl : k = N := by omega
          have i1 : ¬ (k : Int) < (k : Int) := by omega
          have HFIN := Lib.hid (show Blk wr D 104 (flatP (partsB M l)) by rw [← partsK_full, hlK, ← hNK]; exact HBK.out)
          clear hNK hlK hlt hKk hk
          go_wp2_with fail
          go_ret
          exact ⟨D, rfl, by have := HDW.out; have := HB1.out.size; have := HBW.out.size; omega, HFIN.out, HBW.out.trans ((HB1.out.trans (HLOW.out.mono HB1.out.size)).mono HBW.out.size)⟩
end Go.Proofs.YtmfnkfiocnngeaaDoor
