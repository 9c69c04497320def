/- What Clean of package strand returns: each byte 0 or 1. Conditions: there are at most so many bytes as memory holds. -/
import Derived.Test.YtodeaddmachcjaaSto
namespace Go.Proofs.Ytodeaddmachcjaa
open Go.RowKit Go.Shelf
attribute [local go_sem] Oper.semAt_some
theorem mem_came {n k : Nat} {pre : List (Fin n)} (h : Came pre k) (j : Nat) : j ∈ pre.map Fin.val ↔ j < k := by
  unfold Came at h
  rw [h]; simp
/-- A row of bytes whose places that came hold what f says, the others what they held. -/
def RowOn (W : World) (b n : Nat) (pre : List Nat) (f g : Nat → Nat) : Prop := W.rowIs b 5 n (fun j => .int .u8 ((if j ∈ pre then f j else g j : Nat) : Int))
theorem RowOn.nil {W : World} {b n : Nat} {f g : Nat → Nat} (h : W.rowIs b 5 n (fun j => .int .u8 ((g j : Nat) : Int))) : RowOn W b n [] f g :=
  h.congr fun i _ => by simp
theorem RowOn.snoc {W : World} {b n k v : Nat} {pre : List Nat} {f g : Nat → Nat} (h : RowOn W b n pre f g) (hv : v = f k) : RowOn (W.setCell ⟨b, k, none⟩ (.int .u8 (v : Int))) b n (pre ++ [k]) f g := by
  refine (World.rowIs.set h k (.int .u8 (v : Int))).congr fun i _ => ?_
  by_cases e : i = k
  · subst e; simp [hv]
  · rw [if_neg e]; simp [e]
theorem RowOn.all {W : World} {b n : Nat} {pre : List (Fin n)} {f g : Nat → Nat} {bs : List Nat} (h : RowOn W b n (pre.map Fin.val) f g) (hp : Came pre n) (hb : ∀ j, j < n → bs[j]?.getD 0 = f j) : W.rowIs b 5 n (fun j => .int .u8 ((bs[j]?.getD 0 : Nat) : Int)) :=
  h.congr fun i hi => by rw [if_pos ((mem_came hp i).2 hi), hb i hi]
theorem RowOn.kept {A B : World} {b n : Nat} {pre : List Nat} {f g : Nat → Nat} {row : Option Nat} (h : RowOn A b n pre f g) (hg : A.grownBy B row) (hr : ∀ r, row = some r → ∃ o : Obj, A.heap[r]? = some o ∧ o.isCells = false) : RowOn B b n pre f g := rowIs_kept h hg hr
theorem bitsOf_get (bs : List Nat) (j : Nat) (h : j < bs.length) : (bitsOf bs)[j]?.getD 0 = bitAt bs j := by simp [bitsOf, bitAt, h]
theorem bitsOf_length (bs : List Nat) : (bitsOf bs).length = bs.length := by simp [bitsOf]
end Go.Proofs.Ytodeaddmachcjaa
