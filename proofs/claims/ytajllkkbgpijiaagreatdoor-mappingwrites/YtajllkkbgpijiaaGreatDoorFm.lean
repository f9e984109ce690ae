/-
  Frames as values; the walks of frame's padded, carried, Right, Make.
-/
import Derived.Test.YtajllkkbgpijiaaGreatDoorSa
import Derived.Deep.WholeRow
import Derived.Deep.RegionHeld3
import Derived.Laws.CopyOwn
namespace Go.Proofs.YtajllkkbgpijiaaGreatDoor
open Go.RowKit

/-- The first eight of a row, noughts behind. -/
abbrev arrL (zs : List Int) : Value := arr8 (zb zs 0) (zb zs 1) (zb zs 2) (zb zs 3) (zb zs 4) (zb zs 5) (zb zs 6) (zb zs 7)
/-- A frame's cells. -/
abbrev frC (id n d0 d1 d2 d3 d4 d5 d6 d7 : Int) (r : Bool) : Array Value := #[.int .u16 id, .int .i64 n, .int .u8 d0, .int .u8 d1, .int .u8 d2, .int .u8 d3, .int .u8 d4, .int .u8 d5, .int .u8 d6, .int .u8 d7, .bool r]
/-- A frame. -/
abbrev frV (id n d0 d1 d2 d3 d4 d5 d6 d7 : Int) (r : Bool) : Value := .agg (frC id n d0 d1 d2 d3 d4 d5 d6 d7 r)










/-- The bytes that a frame carries. -/
def carL (n : Int) (ds : List Int) (r : Bool) : List Int := if r then [] else ds.take n.toNat
/-- Is a frame right? -/
def rightB (id n : Int) (ds : List Int) (r : Bool) : Bool := decide (id ≤ 2047) && (decide (0 ≤ n) && (decide (n ≤ 8) && ((List.range 8).all fun i => zb ds i == zb (carL n ds r) i)))
/-- May that byte be? -/
def okB (n : Int) (ds : List Int) (r : Bool) (i : Nat) : Bool := zb ds i == 0 || (decide ((i : Int) < n) && !r)

theorem zb_carL (n : Int) (ds : List Int) (r : Bool) (i : Nat) (h0 : 0 ≤ n) : zb (carL n ds r) i = if (i : Int) < n ∧ r = false then zb ds i else 0 := by
  cases r
  · simp only [carL, zb, List.getD_eq_getElem?_getD, Bool.false_eq_true, if_false, and_true]
    by_cases h : (i : Int) < n
    · rw [if_pos h, List.getElem?_take_of_lt (by omega)]
    · rw [if_neg h, List.getElem?_take_eq_none (by omega)]; rfl
  · simp [carL, zb]
theorem okB_eq (n : Int) (ds : List Int) (r : Bool) (i : Nat) (h0 : 0 ≤ n) : (zb ds i == zb (carL n ds r) i) = okB n ds r i := by
  rw [zb_carL n ds r i h0, okB]
  by_cases h : (i : Int) < n <;> cases r <;> simp [h]
theorem rightB_ok (id n : Int) (ds : List Int) (r : Bool) (h0 : 0 ≤ n) : rightB id n ds r = (decide (id ≤ 2047) && (decide (n ≤ 8) && ((List.range 8).all fun i => okB n ds r i))) := by
  unfold rightB
  simp only [okB_eq n ds r _ h0, h0, decide_true, Bool.true_and]



/-- What is known of a boxed frame stays where nothing old turns. -/
theorem hold_next {w0 w w' : World} {B : Nat} {id n d0 d1 d2 d3 d4 d5 d6 d7 : Int} {r : Bool} (h : Below w0.heap.size w0 w ∧ w.cell? ⟨B, 0, none⟩ = some (.int .u16 id) ∧ w.cell? ⟨B, 1, none⟩ = some (.int .i64 n) ∧ w.cell? ⟨B, 2, none⟩ = some (.int .u8 d0) ∧ w.cell? ⟨B, 3, none⟩ = some (.int .u8 d1) ∧ w.cell? ⟨B, 4, none⟩ = some (.int .u8 d2) ∧ w.cell? ⟨B, 5, none⟩ = some (.int .u8 d3) ∧ w.cell? ⟨B, 6, none⟩ = some (.int .u8 d4) ∧ w.cell? ⟨B, 7, none⟩ = some (.int .u8 d5) ∧ w.cell? ⟨B, 8, none⟩ = some (.int .u8 d6) ∧ w.cell? ⟨B, 9, none⟩ = some (.int .u8 d7) ∧ w.cell? ⟨B, 10, none⟩ = some (.bool r)) (hb : Below w.heap.size w w') : Below w0.heap.size w0 w' ∧ w'.cell? ⟨B, 0, none⟩ = some (.int .u16 id) ∧ w'.cell? ⟨B, 1, none⟩ = some (.int .i64 n) ∧ w'.cell? ⟨B, 2, none⟩ = some (.int .u8 d0) ∧ w'.cell? ⟨B, 3, none⟩ = some (.int .u8 d1) ∧ w'.cell? ⟨B, 4, none⟩ = some (.int .u8 d2) ∧ w'.cell? ⟨B, 5, none⟩ = some (.int .u8 d3) ∧ w'.cell? ⟨B, 6, none⟩ = some (.int .u8 d4) ∧ w'.cell? ⟨B, 7, none⟩ = some (.int .u8 d5) ∧ w'.cell? ⟨B, 8, none⟩ = some (.int .u8 d6) ∧ w'.cell? ⟨B, 9, none⟩ = some (.int .u8 d7) ∧ w'.cell? ⟨B, 10, none⟩ = some (.bool r) := by
  obtain ⟨h0, c0, c1, c2, c3, c4, c5, c6, c7, c8, c9, c10⟩ := h
  have hB : B < w.heap.size := block_lt_of_cell c0
  exact ⟨Below.andThen h0 hb, (hb.cell (p := ⟨B, 0, none⟩) hB).trans c0, (hb.cell (p := ⟨B, 1, none⟩) hB).trans c1, (hb.cell (p := ⟨B, 2, none⟩) hB).trans c2, (hb.cell (p := ⟨B, 3, none⟩) hB).trans c3, (hb.cell (p := ⟨B, 4, none⟩) hB).trans c4, (hb.cell (p := ⟨B, 5, none⟩) hB).trans c5, (hb.cell (p := ⟨B, 6, none⟩) hB).trans c6, (hb.cell (p := ⟨B, 7, none⟩) hB).trans c7, (hb.cell (p := ⟨B, 8, none⟩) hB).trans c8, (hb.cell (p := ⟨B, 9, none⟩) hB).trans c9, (hb.cell (p := ⟨B, 10, none⟩) hB).trans c10⟩





theorem frC_one (id n d0 d1 d2 d3 d4 d5 d6 d7 : Int) (r : Bool) : (frC id n d0 d1 d2 d3 d4 d5 d6 d7 r).all (·.oneCell') = true := by simp [Value.oneCell']

/-- A frame and a code. -/
structure FrR where
  i : Int
  n : Int
  d0 : Int
  d1 : Int
  d2 : Int
  d3 : Int
  d4 : Int
  d5 : Int
  d6 : Int
  d7 : Int
  r : Bool
  c : Int
/-- As a call's two results. -/
abbrev FrR.tup (q : FrR) : Value := .tuple #[frV q.i q.n q.d0 q.d1 q.d2 q.d3 q.d4 q.d5 q.d6 q.d7 q.r, .int .i64 q.c]
def FrR.ds (q : FrR) : List Int := [q.d0, q.d1, q.d2, q.d3, q.d4, q.d5, q.d6, q.d7]
/-- No frame, with a code. -/
def noFr (c : Int) : FrR := ⟨0, 0, 0, 0, 0, 0, 0, 0, 0, 0, false, c⟩
/-- What Make tells. -/
def mkR (id : Int) (zs : List Int) : FrR := if id ≤ 2047 ∧ zs.length ≤ 8 then ⟨id, zs.length, zb zs 0, zb zs 1, zb zs 2, zb zs 3, zb zs 4, zb zs 5, zb zs 6, zb zs 7, false, 0⟩ else noFr 2

theorem mkR_good (id : Int) (zs : List Int) (h1 : id ≤ 2047) (h2 : zs.length ≤ 8) : mkR id zs = ⟨id, zs.length, zb zs 0, zb zs 1, zb zs 2, zb zs 3, zb zs 4, zb zs 5, zb zs 6, zb zs 7, false, 0⟩ := if_pos ⟨h1, h2⟩
theorem mkR_bad (id : Int) (zs : List Int) (h : 2047 < id ∨ 8 < zs.length) : mkR id zs = noFr 2 := if_neg (by omega)

end Go.Proofs.YtajllkkbgpijiaaGreatDoor
