/- live of layer 27. Conditions: none. -/
import Derived.Test.YtbcccffjlkphpaaEdu
namespace Go.Proofs.Ytbcccffjlkphpaa
open Go.RowKit Go.Shelf Go.Sort
set_option linter.unusedSimpArgs false
set_option linter.unusedVariables false
theorem blk_at (w : World) (B : Nat) (hB : w.heap.size = B) (T : TypeId) (l : List Value) : Blk (w.alloc (.cells l.toArray T)) B T l := by
  subst hB; exact Blk.new w T l
theorem two_blk {u : World} {g cap : Nat} {d : Int} (h : Blk u g 42 [.int .i64 0, .int .i64 0, .int .i64 20, .int .i64 5, .int .i64 0, .int .i64 0, .int .i64 d, .int .i64 5]) : Jbs u.heap.size u (.slice (some ⟨g, 0, none⟩) 2 cap) [(⟨0, 0, 20, 5⟩ : Jb), (⟨0, 0, d, 5⟩ : Jb)] := by
  refine .inr ⟨g, 0, cap, rfl, h.lt, fun j hj i v hv => ?_⟩
  rw [Nat.zero_add]
  have hi : i < 4 := (List.getElem?_eq_some_iff.1 hv).1
  have hj2 : j < 2 := hj
  rcases (show (j = 0 ∧ i = 0) ∨ (j = 0 ∧ i = 1) ∨ (j = 0 ∧ i = 2) ∨ (j = 0 ∧ i = 3) ∨ (j = 1 ∧ i = 0) ∨ (j = 1 ∧ i = 1) ∨ (j = 1 ∧ i = 2) ∨ (j = 1 ∧ i = 3) by omega) with ⟨rfl, rfl⟩ | ⟨rfl, rfl⟩ | ⟨rfl, rfl⟩ | ⟨rfl, rfl⟩ | ⟨rfl, rfl⟩ | ⟨rfl, rfl⟩ | ⟨rfl, rfl⟩ | ⟨rfl, rfl⟩
  · exact Eq.trans (h.cellAt (i := 0) (by simp)) (congrArg some (Option.some.inj hv))
  · exact Eq.trans (h.cellAt (i := 1) (by simp)) (congrArg some (Option.some.inj hv))
  · exact Eq.trans (h.cellAt (i := 2) (by simp)) (congrArg some (Option.some.inj hv))
  · exact Eq.trans (h.cellAt (i := 3) (by simp)) (congrArg some (Option.some.inj hv))
  · exact Eq.trans (h.cellAt (i := 4) (by simp)) (congrArg some (Option.some.inj hv))
  · exact Eq.trans (h.cellAt (i := 5) (by simp)) (congrArg some (Option.some.inj hv))
  · exact Eq.trans (h.cellAt (i := 6) (by simp)) (congrArg some (Option.some.inj hv))
  · exact Eq.trans (h.cellAt (i := 7) (by simp)) (congrArg some (Option.some.inj hv))
theorem ltr {d : Int} (hd : d = 7 ∨ d = 4) : Tr [(⟨0, 0, 20, 5⟩ : Jb), (⟨0, 0, d, 5⟩ : Jb)] 1 [(⟨1, 0, 5⟩ : Sn), (⟨0, 5, 10⟩ : Sn)] := by
  have n1 : Nxt [(⟨0, 0, 20, 5⟩ : Jb), (⟨0, 0, d, 5⟩ : Jb)] 1 [] 0 1 0 := ⟨by show (1 : Nat) < 2; omega, by decide, by show (0 : Int) ≤ 0; omega, by decide, fun h => absurd h (by decide), fun i hi _ _ hne => by
    have e : i = 0 := by
      have : i < 2 := hi
      omega
    subst e
    refine .inl ?_
    rcases hd with rfl | rfl <;> decide +kernel⟩
  have n2 : Nxt [(⟨0, 0, 20, 5⟩ : Jb), (⟨0, 0, d, 5⟩ : Jb)] 1 [1] 5 0 5 := ⟨by simp, by decide, by show (0 : Int) ≤ 5; omega, by decide, fun h => absurd h (by decide), fun i hi hn _ hne => by
    have : i < 2 := hi
    have : i ≠ 1 := fun e => hn (by simp [e])
    omega⟩
  exact ((Tr.nil [(⟨0, 0, 20, 5⟩ : Jb), (⟨0, 0, d, 5⟩ : Jb)] 1).snoc n1).snoc n2
theorem lmay {d : Int} (hd : d = 7 ∨ d = 4) : mayJ 1 [(⟨0, 0, 20, 5⟩ : Jb), (⟨0, 0, d, 5⟩ : Jb)] = 0 := by
  rcases hd with rfl | rfl <;> decide +kernel
theorem ownS_pos {W : World} {b : Nat} {v : Value} {S : List Sn} (h : W.ownsRow b 38 3 v S.length (S.flatMap Sn.C)) (h0 : 0 < S.length) : ∃ g cap r, v = .slice (some ⟨g, 0, none⟩) S.length cap ∧ Blk W g 38 (S.flatMap Sn.C ++ r) := by
  rcases h.2 with ⟨_, e2⟩ | ⟨g, cap, cur, e, h2, h3, h4, h5, h6, h7⟩
  · omega
  · have hb : Blk W g 38 cur.toList := h3
    refine ⟨g, cap, cur.toList.drop (S.length * 3), e, ?_⟩
    rw [← h7, List.take_append_drop]
    exact hb
theorem lrun {g cap : Nat} {u : World} (h : Blk u g 42 [.int .i64 0, .int .i64 0, .int .i64 20, .int .i64 5, .int .i64 0, .int .i64 0, .int .i64 7, .int .i64 5]) : Calls Try.prog 9 #[.slice (some ⟨g, 0, none⟩) 2 cap, .int .i64 1] u fun e w' => ∃ G c r, e = .returned (.tuple #[.slice (some ⟨G, 0, none⟩) 2 c, .int .i64 0]) ∧ Blk w' G 38 ([.int .i64 1, .int .i64 0, .int .i64 5, .int .i64 0, .int .i64 5, .int .i64 10] ++ r) ∧ Below u.heap.size u w' :=
  (jrun_any _ 2 cap [(⟨0, 0, 20, 5⟩ : Jb), (⟨0, 0, 7, 5⟩ : Jb)] 1 u (two_blk h)).mono fun e w' hp => by
    obtain ⟨hc, hb⟩ := hp
    rcases hc with ⟨h1, _⟩ | ⟨_, S, v, he, ht, hl, ho⟩
    · exact absurd (lmay (.inl rfl)) h1
    · have e2 := ht.uniq (ltr (.inl rfl)) hl
      subst e2
      obtain ⟨G, c, r, rfl, hG⟩ := ownS_pos ho (by decide)
      exact ⟨G, c, r, he, hG, hb⟩
theorem lrun0 {g cap : Nat} {u : World} (h : Blk u g 42 [.int .i64 0, .int .i64 0, .int .i64 20, .int .i64 5, .int .i64 0, .int .i64 0, .int .i64 7, .int .i64 5]) : Calls Try.prog 9 #[.slice (some ⟨g, 0, none⟩) 2 cap, .int .i64 0] u fun e w' => e = .returned (.tuple #[.slice none 0 0, .int .i64 1]) ∧ Below u.heap.size u w' :=
  (jrun_any _ 2 cap [(⟨0, 0, 20, 5⟩ : Jb), (⟨0, 0, 7, 5⟩ : Jb)] 0 u (two_blk h)).mono fun e w' hp => by
    obtain ⟨hc, hb⟩ := hp
    have hm : mayJ 0 [(⟨0, 0, 20, 5⟩ : Jb), (⟨0, 0, 7, 5⟩ : Jb)] = 1 := by decide +kernel
    rcases hc with ⟨h1, he⟩ | ⟨h1, _⟩
    · rw [hm] at he
      exact ⟨he, hb⟩
    · rw [hm] at h1; cases h1
theorem lbusy {g cap : Nat} {u : World} (h : Blk u g 42 [.int .i64 0, .int .i64 0, .int .i64 20, .int .i64 5, .int .i64 0, .int .i64 0, .int .i64 7, .int .i64 5]) : Calls Try.prog 13 #[.slice (some ⟨g, 0, none⟩) 2 cap, .int .i64 1, .int .i64 3] u fun e w' => e = .returned (.tuple #[.int .i64 10, .int .i64 0]) ∧ Below u.heap.size u w' :=
  (jbusy_any _ 2 cap [(⟨0, 0, 20, 5⟩ : Jb), (⟨0, 0, 7, 5⟩ : Jb)] 1 3 u (two_blk h)).mono fun e w' hp => by
    obtain ⟨hc, hb⟩ := hp
    rcases hc with ⟨h1, _⟩ | ⟨_, S, he, ht, hl⟩
    · exact absurd (lmay (.inl rfl)) h1
    · have e2 := ht.uniq (ltr (.inl rfl)) hl
      subst e2
      rw [show busyF [(⟨1, 0, 5⟩ : Sn), (⟨0, 5, 10⟩ : Sn)] 3 = 10 by decide +kernel] at he
      exact ⟨he, hb⟩
theorem llate {g cap : Nat} {u : World} (h : Blk u g 42 [.int .i64 0, .int .i64 0, .int .i64 20, .int .i64 5, .int .i64 0, .int .i64 0, .int .i64 7, .int .i64 5]) : Calls Try.prog 11 #[.slice (some ⟨g, 0, none⟩) 2 cap, .int .i64 1] u fun e w' => ∃ a c, e = .returned (.tuple #[.slice a 0 c, .int .i64 0]) ∧ Below u.heap.size u w' :=
  (jlate_any _ 2 cap [(⟨0, 0, 20, 5⟩ : Jb), (⟨0, 0, 7, 5⟩ : Jb)] 1 u (two_blk h)).mono fun e w' hp => by
    obtain ⟨hc, hb⟩ := hp
    rcases hc with ⟨h1, _⟩ | ⟨_, S, v, he, ht, hl, ho⟩
    · exact absurd (lmay (.inl rfl)) h1
    · have e2 := ht.uniq (ltr (.inl rfl)) hl
      subst e2
      rw [show lateL [(⟨0, 0, 20, 5⟩ : Jb), (⟨0, 0, 7, 5⟩ : Jb)] [(⟨1, 0, 5⟩ : Sn), (⟨0, 5, 10⟩ : Sn)] = [] by decide +kernel, show sortI [] = [] by simp [sortI]] at ho
      obtain ⟨a, c, rfl, _⟩ := ho
      exact ⟨a, c, he, hb⟩
theorem llate1 {g cap : Nat} {u : World} (h : Blk u g 42 [.int .i64 0, .int .i64 0, .int .i64 20, .int .i64 5, .int .i64 0, .int .i64 0, .int .i64 4, .int .i64 5]) : Calls Try.prog 11 #[.slice (some ⟨g, 0, none⟩) 2 cap, .int .i64 1] u fun e w' => ∃ G c, e = .returned (.tuple #[.slice (some ⟨G, 0, none⟩) 1 c, .int .i64 0]) ∧ (G < w'.heap.size ∧ w'.cell? ⟨G, 0, none⟩ = some (.int .i64 1)) ∧ Below u.heap.size u w' :=
  (jlate_any _ 2 cap [(⟨0, 0, 20, 5⟩ : Jb), (⟨0, 0, 4, 5⟩ : Jb)] 1 u (two_blk h)).mono fun e w' hp => by
    obtain ⟨hc, hb⟩ := hp
    rcases hc with ⟨h1, _⟩ | ⟨_, S, v, he, ht, hl, ho⟩
    · exact absurd (lmay (.inr rfl)) h1
    · have e2 := ht.uniq (ltr (.inr rfl)) hl
      subst e2
      rw [show lateL [(⟨0, 0, 20, 5⟩ : Jb), (⟨0, 0, 4, 5⟩ : Jb)] [(⟨1, 0, 5⟩ : Sn), (⟨0, 5, 10⟩ : Sn)] = [1] by decide +kernel, show sortI [1] = [1] by simp [sortI]] at ho
      obtain ⟨a, c, rfl, hk⟩ := ho
      obtain ⟨G, rfl, hg, hc⟩ := hk 0 (by decide)
      exact ⟨G, c, he, ⟨hg, hc⟩, hb⟩
set_option maxRecDepth 100000 in
set_option maxHeartbeats 8000000 in
theorem live27 (w : World) : Calls Try.prog 8 #[] w fun y w' => y = .returned (.bool true) ∧ Below w.heap.size w w' := by
  have HR := Lib.hid (right_any (⟨0, 0, 20, 5⟩ : Jb))
  have HA1 := Lib.hid (ahead_any (⟨0, 0, 7, 5⟩ : Jb) (⟨0, 0, 20, 5⟩ : Jb) 1); have HA2 := Lib.hid (ahead_any (⟨0, 0, 20, 5⟩ : Jb) (⟨0, 0, 7, 5⟩ : Jb) 1)
  rw [show rightJ (⟨0, 0, 20, 5⟩ : Jb) = true by decide +kernel] at HR
  rw [show aheadJ (⟨0, 0, 7, 5⟩ : Jb) (⟨0, 0, 20, 5⟩ : Jb) 1 = true by decide +kernel] at HA1
  rw [show aheadJ (⟨0, 0, 20, 5⟩ : Jb) (⟨0, 0, 7, 5⟩ : Jb) 1 = false by decide +kernel] at HA2
  unfold Jb.v at HR HA1 HA2
  dsimp only at HR HA1 HA2
  go_enter Try.func8, Try.ntmps8
  go_upto_region 2 with fail
  obtain ⟨W1, hW1⟩ : ∃ W, W = (w.alloc (.cells #[.int .i64 0, .int .i64 0, .int .i64 20, .int .i64 5, .int .i64 0, .int .i64 0, .int .i64 7, .int .i64 5] 42)) := ⟨_, rfl⟩
  have hbel_ : Below w.heap.size w W1 := by rw [hW1]; exact ((Below.refl w.heap.size w).alloc (Nat.le_refl w.heap.size) _)
  have h_s : Blk W1 w.heap.size 42 [.int .i64 0, .int .i64 0, .int .i64 20, .int .i64 5, .int .i64 0, .int .i64 0, .int .i64 7, .int .i64 5] := by rw [hW1]; exact (blk_at (w) w.heap.size (by rfl) 42 [.int .i64 0, .int .i64 0, .int .i64 20, .int .i64 5, .int .i64 0, .int .i64 0, .int .i64 7, .int .i64 5]).keep (Below.refl (w.heap.size + 1) _) (by omega)
  rw [← hW1]
  have HB1 := Lib.hid hbel_
  have Hs1 := Lib.hid h_s
  clear hbel_ hW1  h_s
  go_wp2_with fail
  refine (lrun Hs1.out).mono ?_
  rintro y w2 ⟨Gr, cr, rr, rfl, hG, hb⟩
  have HB2 := Lib.hid (below_transG HB1.out hb)
  have Hs2 := Lib.hid (Hs1.out.keep hb Hs1.out.lt)
  have HG := Lib.hid hG
  clear hG
  clear hb
  go_wp2_with fail
  refine (llate Hs2.out).mono ?_
  rintro y w3 ⟨al, cl, rfl, hb⟩
  have HB3 := Lib.hid (below_transG HB2.out hb)
  have Hs3 := Lib.hid (Hs2.out.keep hb Hs2.out.lt)
  have Hg3 := Lib.hid (HG.out.keep hb HG.out.lt)
  clear hb
  go_wp2_with fail
  refine (lbusy Hs3.out).mono ?_
  rintro y w4 ⟨rfl, hb⟩
  have HB4 := Lib.hid (below_transG HB3.out hb)
  have Hs4 := Lib.hid (Hs3.out.keep hb Hs3.out.lt)
  have Hg4 := Lib.hid (Hg3.out.keep hb Hg3.out.lt)
  clear hb
  go_wp2_with fail
  refine (lrun0 Hs4.out).mono ?_
  rintro y w5 ⟨rfl, hb⟩
  have HB5 := Lib.hid (below_transG HB4.out hb)
  have Hs5 := Lib.hid (Hs4.out.keep hb Hs4.out.lt)
  have Hg5 := Lib.hid (Hg4.out.keep hb Hg4.out.lt)
  clear hb
  go_upto_region 6 with fail
  go_wp2_with fail
  obtain ⟨W6, hW6⟩ : ∃ W, W = (w5.alloc (.cells #[.int .i64 0, .int .i64 0, .int .i64 20, .int .i64 5, .int .i64 0, .int .i64 0, .int .i64 4, .int .i64 5] 42)) := ⟨_, rfl⟩
  have hbel_ : Below w.heap.size w W6 := by rw [hW6]; exact (HB5.out.alloc HB5.out.size _)
  have h_s : Blk W6 w.heap.size 42 [.int .i64 0, .int .i64 0, .int .i64 20, .int .i64 5, .int .i64 0, .int .i64 0, .int .i64 7, .int .i64 5] := by rw [hW6]; exact Hs5.out.keep ((Below.refl w5.heap.size w5).alloc (Nat.le_refl _) _) Hs5.out.lt
  have h_g : Blk W6 Gr 38 ([.int .i64 1, .int .i64 0, .int .i64 5, .int .i64 0, .int .i64 5, .int .i64 10] ++ rr) := by rw [hW6]; exact Hg5.out.keep ((Below.refl w5.heap.size w5).alloc (Nat.le_refl _) _) Hg5.out.lt
  have h_n : Blk W6 w5.heap.size 42 [.int .i64 0, .int .i64 0, .int .i64 20, .int .i64 5, .int .i64 0, .int .i64 0, .int .i64 4, .int .i64 5] := by rw [hW6]; exact (blk_at (w5) w5.heap.size (by rfl) 42 [.int .i64 0, .int .i64 0, .int .i64 20, .int .i64 5, .int .i64 0, .int .i64 0, .int .i64 4, .int .i64 5]).keep (Below.refl (w5.heap.size + 1) _) (by omega)
  rw [← hW6]
  have HB6 := Lib.hid hbel_
  have Hs6 := Lib.hid h_s
  have Hg6 := Lib.hid h_g
  have Hn6 := Lib.hid h_n
  clear hbel_ hW6 h_s h_g h_n
  refine (llate1 Hn6.out).mono ?_
  rintro y w7 ⟨Gn, cn, rfl, hN, hb⟩
  have HB7 := Lib.hid (below_transG HB6.out hb)
  have Hs7 := Lib.hid (Hs6.out.keep hb Hs6.out.lt)
  have Hg7 := Lib.hid (Hg6.out.keep hb Hg6.out.lt)
  have Hn7 := Lib.hid (Hn6.out.keep hb Hn6.out.lt)
  have HN := Lib.hid hN
  clear hN
  clear hb
  go_upto_region 7 with fail
  simp only [List.append_eq, List.cons_append, List.nil_append]
  as_aux_lemma =>
    have HZ := Lib.hid (show ∀ x, Below w7.heap.size w7 x → Below w7.heap.size w7 x ∧ x.cell? ⟨w.heap.size, 0, none⟩ = some (.int .i64 0) ∧ x.cell? ⟨w.heap.size, 1, none⟩ = some (.int .i64 0) ∧ x.cell? ⟨w.heap.size, 2, none⟩ = some (.int .i64 20) ∧ x.cell? ⟨w.heap.size, 3, none⟩ = some (.int .i64 5) ∧ x.cell? ⟨w.heap.size, 4, none⟩ = some (.int .i64 0) ∧ x.cell? ⟨w.heap.size, 5, none⟩ = some (.int .i64 0) ∧ x.cell? ⟨w.heap.size, 6, none⟩ = some (.int .i64 7) ∧ x.cell? ⟨w.heap.size, 7, none⟩ = some (.int .i64 5) ∧ x.cell? ⟨Gr, 0, none⟩ = some (.int .i64 1) ∧ x.cell? ⟨Gr, 2, none⟩ = some (.int .i64 5) ∧ x.cell? ⟨Gr, 4, none⟩ = some (.int .i64 5) ∧ x.cell? ⟨Gn, 0, none⟩ = some (.int .i64 1) from fun x hx => ⟨hx, (Hs7.out.keep hx Hs7.out.lt).cellAt (i := 0) (by simp), (Hs7.out.keep hx Hs7.out.lt).cellAt (i := 1) (by simp), (Hs7.out.keep hx Hs7.out.lt).cellAt (i := 2) (by simp), (Hs7.out.keep hx Hs7.out.lt).cellAt (i := 3) (by simp), (Hs7.out.keep hx Hs7.out.lt).cellAt (i := 4) (by simp), (Hs7.out.keep hx Hs7.out.lt).cellAt (i := 5) (by simp), (Hs7.out.keep hx Hs7.out.lt).cellAt (i := 6) (by simp), (Hs7.out.keep hx Hs7.out.lt).cellAt (i := 7) (by simp), (Hg7.out.keep hx Hg7.out.lt).cellAt (i := 0) (by simp), (Hg7.out.keep hx Hg7.out.lt).cellAt (i := 2) (by simp), (Hg7.out.keep hx Hg7.out.lt).cellAt (i := 4) (by simp), (hx.cell (p := ⟨Gn, 0, none⟩) HN.out.1).trans HN.out.2⟩)
    obtain ⟨C, hCi, hCo⟩ : ∃ C : World → Prop, (∀ x, Below w7.heap.size w7 x → C x) ∧ (∀ x, C x → Below w7.heap.size w7 x ∧ x.cell? ⟨w.heap.size, 0, none⟩ = some (.int .i64 0) ∧ x.cell? ⟨w.heap.size, 1, none⟩ = some (.int .i64 0) ∧ x.cell? ⟨w.heap.size, 2, none⟩ = some (.int .i64 20) ∧ x.cell? ⟨w.heap.size, 3, none⟩ = some (.int .i64 5) ∧ x.cell? ⟨w.heap.size, 4, none⟩ = some (.int .i64 0) ∧ x.cell? ⟨w.heap.size, 5, none⟩ = some (.int .i64 0) ∧ x.cell? ⟨w.heap.size, 6, none⟩ = some (.int .i64 7) ∧ x.cell? ⟨w.heap.size, 7, none⟩ = some (.int .i64 5) ∧ x.cell? ⟨Gr, 0, none⟩ = some (.int .i64 1) ∧ x.cell? ⟨Gr, 2, none⟩ = some (.int .i64 5) ∧ x.cell? ⟨Gr, 4, none⟩ = some (.int .i64 5) ∧ x.cell? ⟨Gn, 0, none⟩ = some (.int .i64 1)) := ⟨fun x => Below w7.heap.size w7 x, fun x h => h, fun x h => HZ.out x h⟩
    clear HZ
    refine wp_region_class (C := C) (by kernel_rfl) (by kernel_rfl) (hCi _ (Below.refl _ _).drew) ?_
    repeat
      with_reducible refine wpQuiet_step (fun K hK => ?_)
      first
        | (refine quiet_skip (by rfl) ?_; (with_reducible refine hK _ ?_); clear hK K)
        | (refine quiet_want (by rfl) ?_
           apply Exists.intro
           refine ⟨fun x hx => ?_, hK _ ?_⟩
           (obtain ⟨_, hx1, hx2, hx3, hx4, hx5, hx6, hx7, hx8, hx9, hx10, hx11, hx12⟩ := hCo _ hx; go_simp; first | done | rfl | (first | (go_at_call 17; with_reducible exact Calls.mono (HR.out x) (fun y w' hh => ⟨hh.1, hCi _ (below_transG (hCo _ hx).1 hh.2)⟩)) | (go_at_call 16; with_reducible exact Calls.mono (HA1.out x) (fun y w' hh => ⟨hh.1, hCi _ (below_transG (hCo _ hx).1 hh.2)⟩)) | (go_at_call 16; with_reducible exact Calls.mono (HA2.out x) (fun y w' hh => ⟨hh.1, hCi _ (below_transG (hCo _ hx).1 hh.2)⟩))))
           clear hK K)
      try simp only [Act.put, List.setIfInBounds_toArray, List.set_cons_zero, List.set_cons_succ]
    with_reducible refine wpQuiet_nil ?_
    intro wq hq
    have HB8 := Lib.hid (below_transG HB7.out (hCo _ hq).1)
    go_wp2_with fail
    go_ret
    exact ⟨rfl, HB8.out⟩
end Go.Proofs.Ytbcccffjlkphpaa
