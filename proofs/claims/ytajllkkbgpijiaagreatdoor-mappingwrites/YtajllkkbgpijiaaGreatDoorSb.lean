/-
  The walks of fieldsOf and only: which fields of a command are not zero.
-/
import Derived.Test.YtajllkkbgpijiaaGreatDoorSa
namespace Go.Proofs.YtajllkkbgpijiaaGreatDoor
open Go.RowKit

/-- A bit, if something is so. -/
def fb (x : Bool) (n : Nat) : Nat := if x then n else 0
theorem fb_and (x : Bool) (n m : Nat) : fb x n &&& m = fb x (n &&& m) := by cases x <;> simp [fb]
theorem fb_zero (x : Bool) : fb x 0 = 0 := by cases x <;> rfl
theorem fb_eq (x : Bool) (n : Nat) (h : n ≠ 0) : fb x n = 0 ↔ x = false := by cases x <;> simp [fb, h]
/-- Bits more. -/
def orb (a : Nat) (n : Nat) (x : Bool) : Nat := if x then a ||| n else a
theorem orb_fb (a n : Nat) (x : Bool) : orb a n x = a ||| fb x n := by cases x <;> simp [orb, fb]
theorem orb_lt (a n : Nat) (x : Bool) (ha : a < 65536) (hn : n < 65536) : orb a n x < 65536 := by
  unfold orb; split
  · exact Nat.or_lt_two_pow (n := 16) ha hn
  · exact ha
/-- The fields that are not zero. -/
def flN (i s : Int) (z : Bool) (n : Int) (q : Bool) (len : Nat) (t l c : Bool) (b e u m o : Int) : Nat :=
  orb (orb (orb (orb (orb (orb (orb (orb (orb (orb (orb (orb (orb 0 1 (!i == 0 || !s == 0)) 2 z) 4 (n != 0)) 8 q) 16 ((len : Int) != 0)) 32 t) 64 l) 128 c) 256 (b != 0)) 512 (e != 0)) 1024 (u != 0)) 2048 (m != 0)) 4096 (o != 0)
/-- Is all zero but these fields? -/
def onlyN (i s : Int) (z : Bool) (n : Int) (q : Bool) (len : Nat) (t l c : Bool) (b e u m o : Int) (has : Nat) : Bool := (flN i s z n q len t l c b e u m o &&& (65535 - has)) == 0

theorem or16_nat (A f : Nat) (hA : A < 65536) (hf : f < 65536) : bits .or .u16 (A : Int) (f : Int) = ((A ||| f : Nat) : Int) := u16_or_nat A f hA hf





theorem flN_lt (i s : Int) (z : Bool) (n : Int) (q : Bool) (len : Nat) (t l c : Bool) (b e u m o : Int) : flN i s z n q len t l c b e u m o < 65536 := by
  unfold flN
  repeat (first | (refine orb_lt _ _ _ ?_ (by decide)) | decide)

/-- How a giving up ends. -/
def endB : Bool → Ending
  | true => .returned (.tuple #[])
  | false => .panicked bad

end Go.Proofs.YtajllkkbgpijiaaGreatDoor
