/- The document's own answers of layer 6 in plain words (Right): what it returns. A frame is a value of twelve cells, laid flat. Conditions: eight bytes of data. -/
import Derived.Test.YtolhckahphmffaaDoorFrb
namespace Go.Proofs.YtolhckahphmffaaDoor
open Go.RowKit Go.Shelf
def frameC (e : Bool) (n : Nat) (r : Bool) (len : Int) (data : List Nat) : List Value := Value.bool e :: Value.int .u32 (n : Int) :: Value.bool r :: Value.int .i64 len :: data.map fun x => Value.int .u8 ((x : Nat) : Int)
/-- A frame, as a value: twelve cells. -/
def frameV (e : Bool) (n : Nat) (r : Bool) (len : Int) (data : List Nat) : Value := .agg ((frameC e n r len data).toArray)
/-- The twelve cells of a frame in a block. -/
structure FrameAt (W : World) (B : Nat) (e : Bool) (n : Nat) (r : Bool) (len : Int) (data : List Nat) : Prop where
  c0 : W.cell? ⟨B, 0, none⟩ = some (.bool e)
  c1 : W.cell? ⟨B, 1, none⟩ = some (.int .u32 (n : Int))
  c2 : W.cell? ⟨B, 2, none⟩ = some (.bool r)
  c3 : W.cell? ⟨B, 3, none⟩ = some (.int .i64 len)
  cd : ∀ i, i < 8 → W.cell? ⟨B, 4 + i, none⟩ = some (.int .u8 ((data[i]?.getD 0 : Nat) : Int))
  fz : ∀ i, i < 12 → W.frozen? ⟨B, i, none⟩ = false
theorem FrameAt.keep {w w1 : World} {B : Nat} {e : Bool} {n : Nat} {r : Bool} {len : Int} {data : List Nat} (h : FrameAt w B e n r len data) (hb : Below w.heap.size w w1) (hB : B < w.heap.size) : FrameAt w1 B e n r len data := by
  obtain ⟨hc, hf⟩ := bcell2 hb
  exact ⟨(hc B 0 hB).trans h.c0, (hc B 1 hB).trans h.c1, (hc B 2 hB).trans h.c2, (hc B 3 hB).trans h.c3, fun i hi => (hc B _ hB).trans (h.cd i hi), fun i hi => (hf B _ hB).trans (h.fz i hi)⟩
theorem eight {data : List Nat} (h : data.length = 8) : ∃ a b c d e f g k, data = [a, b, c, d, e, f, g, k] := by
  match data, h with
  | [a, b, c, d, e, f, g, k], _ => exact ⟨a, b, c, d, e, f, g, k, rfl⟩
theorem FrameAt.new (w : World) (T : TypeId) (e : Bool) (n : Nat) (r : Bool) (len : Int) (data : List Nat) (h : data.length = 8) : FrameAt (w.alloc (.cells ((frameC e n r len data).toArray) T)) w.heap.size e n r len data := by
  obtain ⟨a, b, c, d, e5, f, g, k, rfl⟩ := eight h
  simp only [frameC, List.map]
  refine ⟨by simp, by simp, by simp, by simp, ?_, ?_⟩
  · intro i hi
    match i, hi with
    | 0, _ => simp
    | 1, _ => simp
    | 2, _ => simp
    | 3, _ => simp
    | 4, _ => simp
    | 5, _ => simp
    | 6, _ => simp
    | 7, _ => simp
  · intro i hi
    simp
end Go.Proofs.YtolhckahphmffaaDoor
