/-
  What the program reads, as a function of eight bytes; the walk of readCommand over the two tables.
-/
import Derived.Test.YtimnpdegoehblaaGreatDoorSw
import Derived.Test.YtimnpdegoehblaaGreatDoorPa
import Derived.Test.YtimnpdegoehblaaGreatDoorSf1
import Derived.Test.YtimnpdegoehblaaGreatDoorSf3a
import Derived.Test.YtimnpdegoehblaaGreatDoorSf4
namespace Go.Proofs.YtimnpdegoehblaaGreatDoor
open Go.RowKit

structure B8.Ok (x : B8) : Prop where
  b0 : 0 ≤ x.b0 ∧ x.b0 < 256
  b1 : 0 ≤ x.b1 ∧ x.b1 < 256
  b2 : 0 ≤ x.b2 ∧ x.b2 < 256
  b3 : 0 ≤ x.b3 ∧ x.b3 < 256
  b4 : 0 ≤ x.b4 ∧ x.b4 < 256
  b5 : 0 ≤ x.b5 ∧ x.b5 < 256
  b6 : 0 ≤ x.b6 ∧ x.b6 < 256
  b7 : 0 ≤ x.b7 ∧ x.b7 < 256

set_option linter.unusedVariables false
def rdBare (b0 b1 b2 b3 b4 b5 b6 b7 : Int) : Cm := ⟨0, 0, 0, false, 0, false, [], false, false, false, 0, 0, 0, 0, 0⟩
def rdPlace (b0 b1 b2 b3 b4 b5 b6 b7 : Int) : Cm := ⟨0, b1 + 256 * b2, b3, false, 0, false, [], false, false, false, 0, 0, 0, 0, 0⟩
def rdToggle (b0 b1 b2 b3 b4 b5 b6 b7 : Int) : Cm := ⟨0, 0, 0, false, 0, false, [], bt b0 16, false, false, 0, 0, 0, 0, 0⟩
def rdAck (b0 b1 b2 b3 b4 b5 b6 b7 : Int) : Cm := ⟨0, 0, 0, false, 0, false, [], false, false, false, b2, b1, 0, 0, 0⟩
def rdEnd (b0 b1 b2 b3 b4 b5 b6 b7 : Int) : Cm := ⟨0, 0, 0, false, 0, false, [], false, false, false, 0, 0, b1 + 256 * b2, bits .and .u8 (b0 / 4) 7, 0⟩
def rdBlock (b0 b1 b2 b3 b4 b5 b6 b7 : Int) : Cm := ⟨0, b1 + 256 * b2, b3, false, 0, false, [], false, false, bt b0 4, b4, 0, 0, 0, 0⟩
def rdStop (b0 b1 b2 b3 b4 b5 b6 b7 : Int) : Cm := ⟨0, b1 + 256 * b2, b3, false, 0, false, [], false, false, false, 0, 0, 0, 0, b4 + 256 * b5 + 65536 * b6 + 16777216 * b7⟩
def rdSize (b0 b1 b2 b3 b4 b5 b6 b7 : Int) : Cm := ⟨0, b1 + 256 * b2, b3, bt b0 2, (if bt b0 2 then b4 + 256 * b5 + 65536 * b6 + 16777216 * b7 else 0), false, [], false, false, bt b0 4, 0, 0, 0, 0, 0⟩
set_option linter.unusedVariables true

theorem readSize_any (b0 b1 b2 b3 b4 b5 b6 b7 : Int) (h1 : 0 ≤ b1 ∧ b1 < 256) (h2 : 0 ≤ b2 ∧ b2 < 256) (h4 : 0 ≤ b4 ∧ b4 < 256) (h5 : 0 ≤ b5 ∧ b5 < 256) (h6 : 0 ≤ b6 ∧ b6 < 256) (h7 : 0 ≤ b7 ∧ b7 < 256) (w : World) :
    Calls Tryz.prog 71 #[arr8 b0 b1 b2 b3 b4 b5 b6 b7] w (RPost w (rdSize b0 b1 b2 b3 b4 b5 b6 b7)) := by
  cases hZ : (bits .and .u8 b0 2 != 0)
  · exact readSize_false b0 b1 b2 b3 b4 b5 b6 b7 h1 h2 hZ w
  · exact readSize_true b0 b1 b2 b3 b4 b5 b6 b7 h1 h2 h4 h5 h6 h7 hZ w
theorem readBegin_any (b0 b1 b2 b3 b4 b5 b6 b7 : Int) (h0 : 0 ≤ b0 ∧ b0 < 256) (h1 : 0 ≤ b1 ∧ b1 < 256) (h2 : 0 ≤ b2 ∧ b2 < 256) (h4 : 0 ≤ b4 ∧ b4 < 256) (h5 : 0 ≤ b5 ∧ b5 < 256) (h6 : 0 ≤ b6 ∧ b6 < 256) (h7 : 0 ≤ b7 ∧ b7 < 256) (w : World) :
    Calls Tryz.prog 61 #[arr8 b0 b1 b2 b3 b4 b5 b6 b7] w (RPost w (rdBegin b0 b1 b2 b3 b4 b5 b6 b7)) := by
  cases hZ : (bits .and .u8 b0 1 != 0) <;> cases hQ : (bits .and .u8 b0 2 != 0)
  · exact readBegin_ff b0 b1 b2 b3 b4 b5 b6 b7 h0 h1 h2 hZ hQ w
  · exact readBegin_fq b0 b1 b2 b3 b4 b5 b6 b7 h0 h1 h2 h4 h5 h6 h7 hZ hQ w
  · exact readBegin_tf b0 b1 b2 b3 b4 b5 b6 b7 h0 h1 h2 h4 h5 h6 h7 hZ hQ w
  · exact readBegin_tq b0 b1 b2 b3 b4 b5 b6 b7 h0 h1 h2 h4 h5 h6 h7 hZ hQ w

/-- What is read, of one side. -/
def askR (x : B8) : Cm :=
  if bits .andNot .u8 x.b0 15 = 32 then { rdBegin x.b0 x.b1 x.b2 x.b3 x.b4 x.b5 x.b6 x.b7 with k := 1 } else
  if bits .andNot .u8 x.b0 31 = 0 then { rdPart x.b0 x.b1 x.b2 x.b3 x.b4 x.b5 x.b6 x.b7 with k := 2 } else
  if bits .andNot .u8 x.b0 0 = 64 then { rdPlace x.b0 x.b1 x.b2 x.b3 x.b4 x.b5 x.b6 x.b7 with k := 3 } else
  if bits .andNot .u8 x.b0 16 = 96 then { rdToggle x.b0 x.b1 x.b2 x.b3 x.b4 x.b5 x.b6 x.b7 with k := 4 } else
  if bits .andNot .u8 x.b0 0 = 128 then { rdStop x.b0 x.b1 x.b2 x.b3 x.b4 x.b5 x.b6 x.b7 with k := 5 } else
  if bits .andNot .u8 x.b0 6 = 192 then { rdSize x.b0 x.b1 x.b2 x.b3 x.b4 x.b5 x.b6 x.b7 with k := 6 } else
  if bits .andNot .u8 x.b0 28 = 193 then { rdEnd x.b0 x.b1 x.b2 x.b3 x.b4 x.b5 x.b6 x.b7 with k := 7 } else
  if bits .andNot .u8 x.b0 4 = 160 then { rdBlock x.b0 x.b1 x.b2 x.b3 x.b4 x.b5 x.b6 x.b7 with k := 8 } else
  if bits .andNot .u8 x.b0 0 = 163 then { rdBare x.b0 x.b1 x.b2 x.b3 x.b4 x.b5 x.b6 x.b7 with k := 9 } else
  if bits .andNot .u8 x.b0 0 = 162 then { rdAck x.b0 x.b1 x.b2 x.b3 x.b4 x.b5 x.b6 x.b7 with k := 10 } else
  if bits .andNot .u8 x.b0 0 = 161 then { rdBare x.b0 x.b1 x.b2 x.b3 x.b4 x.b5 x.b6 x.b7 with k := 11 } else
  ⟨0, 0, 0, false, 0, false, [], false, false, false, 0, 0, 0, 0, 0⟩

set_option maxHeartbeats 2000000 in
theorem askC_any (g : Nat) (x : B8) (ok : x.Ok) (w : World) (hT : IsT w g askT) :
    Calls Tryz.prog 59 #[.slice (some ⟨g, 0, none⟩) 11 11, x.v] w (RPost w (askR x)) := by
  refine readCommand_any askT g x.b0 x.b1 x.b2 x.b3 x.b4 x.b5 x.b6 x.b7 w hT (by decide) (askR x) ask_R ?_ ?_
  · intro j hj hk hall
    match j, hj with
    | 0, _ =>
      have y : bits .andNot .u8 x.b0 15 = 32 := hk
      refine ⟨rdBegin x.b0 x.b1 x.b2 x.b3 x.b4 x.b5 x.b6 x.b7, ?_, fun W _ => readBegin_any x.b0 x.b1 x.b2 x.b3 x.b4 x.b5 x.b6 x.b7 ok.b0 ok.b1 ok.b2 ok.b4 ok.b5 ok.b6 ok.b7 W⟩
      unfold askR
      rw [if_pos y]
      rfl
    | 1, _ =>
      have n0 : ¬ bits .andNot .u8 x.b0 15 = 32 := hall 0 (by decide) (by omega)
      have y : bits .andNot .u8 x.b0 31 = 0 := hk
      refine ⟨rdPart x.b0 x.b1 x.b2 x.b3 x.b4 x.b5 x.b6 x.b7, ?_, fun W _ => readPart_any x.b0 x.b1 x.b2 x.b3 x.b4 x.b5 x.b6 x.b7 ok.b0 ok.b1 ok.b2 ok.b3 ok.b4 ok.b5 ok.b6 ok.b7 W⟩
      unfold askR
      rw [if_neg n0, if_pos y]
      rfl
    | 2, _ =>
      have n0 : ¬ bits .andNot .u8 x.b0 15 = 32 := hall 0 (by decide) (by omega)
      have n1 : ¬ bits .andNot .u8 x.b0 31 = 0 := hall 1 (by decide) (by omega)
      have y : bits .andNot .u8 x.b0 0 = 64 := hk
      refine ⟨rdPlace x.b0 x.b1 x.b2 x.b3 x.b4 x.b5 x.b6 x.b7, ?_, fun W _ => readPlace_any x.b0 x.b1 x.b2 x.b3 x.b4 x.b5 x.b6 x.b7 ok.b1 ok.b2 W⟩
      unfold askR
      rw [if_neg n0, if_neg n1, if_pos y]
      rfl
    | 3, _ =>
      have n0 : ¬ bits .andNot .u8 x.b0 15 = 32 := hall 0 (by decide) (by omega)
      have n1 : ¬ bits .andNot .u8 x.b0 31 = 0 := hall 1 (by decide) (by omega)
      have n2 : ¬ bits .andNot .u8 x.b0 0 = 64 := hall 2 (by decide) (by omega)
      have y : bits .andNot .u8 x.b0 16 = 96 := hk
      refine ⟨rdToggle x.b0 x.b1 x.b2 x.b3 x.b4 x.b5 x.b6 x.b7, ?_, fun W _ => readToggle_any x.b0 x.b1 x.b2 x.b3 x.b4 x.b5 x.b6 x.b7 W⟩
      unfold askR
      rw [if_neg n0, if_neg n1, if_neg n2, if_pos y]
      rfl
    | 4, _ =>
      have n0 : ¬ bits .andNot .u8 x.b0 15 = 32 := hall 0 (by decide) (by omega)
      have n1 : ¬ bits .andNot .u8 x.b0 31 = 0 := hall 1 (by decide) (by omega)
      have n2 : ¬ bits .andNot .u8 x.b0 0 = 64 := hall 2 (by decide) (by omega)
      have n3 : ¬ bits .andNot .u8 x.b0 16 = 96 := hall 3 (by decide) (by omega)
      have y : bits .andNot .u8 x.b0 0 = 128 := hk
      refine ⟨rdStop x.b0 x.b1 x.b2 x.b3 x.b4 x.b5 x.b6 x.b7, ?_, fun W _ => readStop_any x.b0 x.b1 x.b2 x.b3 x.b4 x.b5 x.b6 x.b7 ok.b1 ok.b2 ok.b4 ok.b5 ok.b6 ok.b7 W⟩
      unfold askR
      rw [if_neg n0, if_neg n1, if_neg n2, if_neg n3, if_pos y]
      rfl
    | 5, _ =>
      have n0 : ¬ bits .andNot .u8 x.b0 15 = 32 := hall 0 (by decide) (by omega)
      have n1 : ¬ bits .andNot .u8 x.b0 31 = 0 := hall 1 (by decide) (by omega)
      have n2 : ¬ bits .andNot .u8 x.b0 0 = 64 := hall 2 (by decide) (by omega)
      have n3 : ¬ bits .andNot .u8 x.b0 16 = 96 := hall 3 (by decide) (by omega)
      have n4 : ¬ bits .andNot .u8 x.b0 0 = 128 := hall 4 (by decide) (by omega)
      have y : bits .andNot .u8 x.b0 6 = 192 := hk
      refine ⟨rdSize x.b0 x.b1 x.b2 x.b3 x.b4 x.b5 x.b6 x.b7, ?_, fun W _ => readSize_any x.b0 x.b1 x.b2 x.b3 x.b4 x.b5 x.b6 x.b7 ok.b1 ok.b2 ok.b4 ok.b5 ok.b6 ok.b7 W⟩
      unfold askR
      rw [if_neg n0, if_neg n1, if_neg n2, if_neg n3, if_neg n4, if_pos y]
      rfl
    | 6, _ =>
      have n0 : ¬ bits .andNot .u8 x.b0 15 = 32 := hall 0 (by decide) (by omega)
      have n1 : ¬ bits .andNot .u8 x.b0 31 = 0 := hall 1 (by decide) (by omega)
      have n2 : ¬ bits .andNot .u8 x.b0 0 = 64 := hall 2 (by decide) (by omega)
      have n3 : ¬ bits .andNot .u8 x.b0 16 = 96 := hall 3 (by decide) (by omega)
      have n4 : ¬ bits .andNot .u8 x.b0 0 = 128 := hall 4 (by decide) (by omega)
      have n5 : ¬ bits .andNot .u8 x.b0 6 = 192 := hall 5 (by decide) (by omega)
      have y : bits .andNot .u8 x.b0 28 = 193 := hk
      refine ⟨rdEnd x.b0 x.b1 x.b2 x.b3 x.b4 x.b5 x.b6 x.b7, ?_, fun W _ => readEnd_any x.b0 x.b1 x.b2 x.b3 x.b4 x.b5 x.b6 x.b7 ok.b0 ok.b1 ok.b2 W⟩
      unfold askR
      rw [if_neg n0, if_neg n1, if_neg n2, if_neg n3, if_neg n4, if_neg n5, if_pos y]
      rfl
    | 7, _ =>
      have n0 : ¬ bits .andNot .u8 x.b0 15 = 32 := hall 0 (by decide) (by omega)
      have n1 : ¬ bits .andNot .u8 x.b0 31 = 0 := hall 1 (by decide) (by omega)
      have n2 : ¬ bits .andNot .u8 x.b0 0 = 64 := hall 2 (by decide) (by omega)
      have n3 : ¬ bits .andNot .u8 x.b0 16 = 96 := hall 3 (by decide) (by omega)
      have n4 : ¬ bits .andNot .u8 x.b0 0 = 128 := hall 4 (by decide) (by omega)
      have n5 : ¬ bits .andNot .u8 x.b0 6 = 192 := hall 5 (by decide) (by omega)
      have n6 : ¬ bits .andNot .u8 x.b0 28 = 193 := hall 6 (by decide) (by omega)
      have y : bits .andNot .u8 x.b0 4 = 160 := hk
      refine ⟨rdBlock x.b0 x.b1 x.b2 x.b3 x.b4 x.b5 x.b6 x.b7, ?_, fun W _ => readBlock_any x.b0 x.b1 x.b2 x.b3 x.b4 x.b5 x.b6 x.b7 ok.b1 ok.b2 ok.b4 W⟩
      unfold askR
      rw [if_neg n0, if_neg n1, if_neg n2, if_neg n3, if_neg n4, if_neg n5, if_neg n6, if_pos y]
      rfl
    | 8, _ =>
      have n0 : ¬ bits .andNot .u8 x.b0 15 = 32 := hall 0 (by decide) (by omega)
      have n1 : ¬ bits .andNot .u8 x.b0 31 = 0 := hall 1 (by decide) (by omega)
      have n2 : ¬ bits .andNot .u8 x.b0 0 = 64 := hall 2 (by decide) (by omega)
      have n3 : ¬ bits .andNot .u8 x.b0 16 = 96 := hall 3 (by decide) (by omega)
      have n4 : ¬ bits .andNot .u8 x.b0 0 = 128 := hall 4 (by decide) (by omega)
      have n5 : ¬ bits .andNot .u8 x.b0 6 = 192 := hall 5 (by decide) (by omega)
      have n6 : ¬ bits .andNot .u8 x.b0 28 = 193 := hall 6 (by decide) (by omega)
      have n7 : ¬ bits .andNot .u8 x.b0 4 = 160 := hall 7 (by decide) (by omega)
      have y : bits .andNot .u8 x.b0 0 = 163 := hk
      refine ⟨rdBare x.b0 x.b1 x.b2 x.b3 x.b4 x.b5 x.b6 x.b7, ?_, fun W _ => readBare_any x.b0 x.b1 x.b2 x.b3 x.b4 x.b5 x.b6 x.b7 W⟩
      unfold askR
      rw [if_neg n0, if_neg n1, if_neg n2, if_neg n3, if_neg n4, if_neg n5, if_neg n6, if_neg n7, if_pos y]
      rfl
    | 9, _ =>
      have n0 : ¬ bits .andNot .u8 x.b0 15 = 32 := hall 0 (by decide) (by omega)
      have n1 : ¬ bits .andNot .u8 x.b0 31 = 0 := hall 1 (by decide) (by omega)
      have n2 : ¬ bits .andNot .u8 x.b0 0 = 64 := hall 2 (by decide) (by omega)
      have n3 : ¬ bits .andNot .u8 x.b0 16 = 96 := hall 3 (by decide) (by omega)
      have n4 : ¬ bits .andNot .u8 x.b0 0 = 128 := hall 4 (by decide) (by omega)
      have n5 : ¬ bits .andNot .u8 x.b0 6 = 192 := hall 5 (by decide) (by omega)
      have n6 : ¬ bits .andNot .u8 x.b0 28 = 193 := hall 6 (by decide) (by omega)
      have n7 : ¬ bits .andNot .u8 x.b0 4 = 160 := hall 7 (by decide) (by omega)
      have n8 : ¬ bits .andNot .u8 x.b0 0 = 163 := hall 8 (by decide) (by omega)
      have y : bits .andNot .u8 x.b0 0 = 162 := hk
      refine ⟨rdAck x.b0 x.b1 x.b2 x.b3 x.b4 x.b5 x.b6 x.b7, ?_, fun W _ => readAck_any x.b0 x.b1 x.b2 x.b3 x.b4 x.b5 x.b6 x.b7 ok.b1 ok.b2 W⟩
      unfold askR
      rw [if_neg n0, if_neg n1, if_neg n2, if_neg n3, if_neg n4, if_neg n5, if_neg n6, if_neg n7, if_neg n8, if_pos y]
      rfl
    | 10, _ =>
      have n0 : ¬ bits .andNot .u8 x.b0 15 = 32 := hall 0 (by decide) (by omega)
      have n1 : ¬ bits .andNot .u8 x.b0 31 = 0 := hall 1 (by decide) (by omega)
      have n2 : ¬ bits .andNot .u8 x.b0 0 = 64 := hall 2 (by decide) (by omega)
      have n3 : ¬ bits .andNot .u8 x.b0 16 = 96 := hall 3 (by decide) (by omega)
      have n4 : ¬ bits .andNot .u8 x.b0 0 = 128 := hall 4 (by decide) (by omega)
      have n5 : ¬ bits .andNot .u8 x.b0 6 = 192 := hall 5 (by decide) (by omega)
      have n6 : ¬ bits .andNot .u8 x.b0 28 = 193 := hall 6 (by decide) (by omega)
      have n7 : ¬ bits .andNot .u8 x.b0 4 = 160 := hall 7 (by decide) (by omega)
      have n8 : ¬ bits .andNot .u8 x.b0 0 = 163 := hall 8 (by decide) (by omega)
      have n9 : ¬ bits .andNot .u8 x.b0 0 = 162 := hall 9 (by decide) (by omega)
      have y : bits .andNot .u8 x.b0 0 = 161 := hk
      refine ⟨rdBare x.b0 x.b1 x.b2 x.b3 x.b4 x.b5 x.b6 x.b7, ?_, fun W _ => readBare_any x.b0 x.b1 x.b2 x.b3 x.b4 x.b5 x.b6 x.b7 W⟩
      unfold askR
      rw [if_neg n0, if_neg n1, if_neg n2, if_neg n3, if_neg n4, if_neg n5, if_neg n6, if_neg n7, if_neg n8, if_neg n9, if_pos y]
      rfl
    | n + 11, h => exact absurd h (by simp [askT])
  · intro h
    have n0 : ¬ bits .andNot .u8 x.b0 15 = 32 := h 0 (by decide)
    have n1 : ¬ bits .andNot .u8 x.b0 31 = 0 := h 1 (by decide)
    have n2 : ¬ bits .andNot .u8 x.b0 0 = 64 := h 2 (by decide)
    have n3 : ¬ bits .andNot .u8 x.b0 16 = 96 := h 3 (by decide)
    have n4 : ¬ bits .andNot .u8 x.b0 0 = 128 := h 4 (by decide)
    have n5 : ¬ bits .andNot .u8 x.b0 6 = 192 := h 5 (by decide)
    have n6 : ¬ bits .andNot .u8 x.b0 28 = 193 := h 6 (by decide)
    have n7 : ¬ bits .andNot .u8 x.b0 4 = 160 := h 7 (by decide)
    have n8 : ¬ bits .andNot .u8 x.b0 0 = 163 := h 8 (by decide)
    have n9 : ¬ bits .andNot .u8 x.b0 0 = 162 := h 9 (by decide)
    have n10 : ¬ bits .andNot .u8 x.b0 0 = 161 := h 10 (by decide)
    unfold askR
    rw [if_neg n0, if_neg n1, if_neg n2, if_neg n3, if_neg n4, if_neg n5, if_neg n6, if_neg n7, if_neg n8, if_neg n9, if_neg n10]
#print axioms askC_any

/-- What is read, of one side. -/
def ansR (x : B8) : Cm :=
  if bits .andNot .u8 x.b0 0 = 96 then { rdPlace x.b0 x.b1 x.b2 x.b3 x.b4 x.b5 x.b6 x.b7 with k := 1 } else
  if bits .andNot .u8 x.b0 16 = 32 then { rdToggle x.b0 x.b1 x.b2 x.b3 x.b4 x.b5 x.b6 x.b7 with k := 2 } else
  if bits .andNot .u8 x.b0 15 = 64 then { rdBegin x.b0 x.b1 x.b2 x.b3 x.b4 x.b5 x.b6 x.b7 with k := 3 } else
  if bits .andNot .u8 x.b0 31 = 0 then { rdPart x.b0 x.b1 x.b2 x.b3 x.b4 x.b5 x.b6 x.b7 with k := 4 } else
  if bits .andNot .u8 x.b0 0 = 128 then { rdStop x.b0 x.b1 x.b2 x.b3 x.b4 x.b5 x.b6 x.b7 with k := 5 } else
  if bits .andNot .u8 x.b0 4 = 160 then { rdBlock x.b0 x.b1 x.b2 x.b3 x.b4 x.b5 x.b6 x.b7 with k := 6 } else
  if bits .andNot .u8 x.b0 0 = 162 then { rdAck x.b0 x.b1 x.b2 x.b3 x.b4 x.b5 x.b6 x.b7 with k := 10 } else
  if bits .andNot .u8 x.b0 0 = 161 then { rdBare x.b0 x.b1 x.b2 x.b3 x.b4 x.b5 x.b6 x.b7 with k := 7 } else
  if bits .andNot .u8 x.b0 6 = 192 then { rdSize x.b0 x.b1 x.b2 x.b3 x.b4 x.b5 x.b6 x.b7 with k := 8 } else
  if bits .andNot .u8 x.b0 28 = 193 then { rdEnd x.b0 x.b1 x.b2 x.b3 x.b4 x.b5 x.b6 x.b7 with k := 11 } else
  ⟨0, 0, 0, false, 0, false, [], false, false, false, 0, 0, 0, 0, 0⟩

set_option maxHeartbeats 2000000 in
theorem ansC_any (g : Nat) (x : B8) (ok : x.Ok) (w : World) (hT : IsT w g ansT) :
    Calls Tryz.prog 59 #[.slice (some ⟨g, 0, none⟩) 10 10, x.v] w (RPost w (ansR x)) := by
  refine readCommand_any ansT g x.b0 x.b1 x.b2 x.b3 x.b4 x.b5 x.b6 x.b7 w hT (by decide) (ansR x) ans_R ?_ ?_
  · intro j hj hk hall
    match j, hj with
    | 0, _ =>
      have y : bits .andNot .u8 x.b0 0 = 96 := hk
      refine ⟨rdPlace x.b0 x.b1 x.b2 x.b3 x.b4 x.b5 x.b6 x.b7, ?_, fun W _ => readPlace_any x.b0 x.b1 x.b2 x.b3 x.b4 x.b5 x.b6 x.b7 ok.b1 ok.b2 W⟩
      unfold ansR
      rw [if_pos y]
      rfl
    | 1, _ =>
      have n0 : ¬ bits .andNot .u8 x.b0 0 = 96 := hall 0 (by decide) (by omega)
      have y : bits .andNot .u8 x.b0 16 = 32 := hk
      refine ⟨rdToggle x.b0 x.b1 x.b2 x.b3 x.b4 x.b5 x.b6 x.b7, ?_, fun W _ => readToggle_any x.b0 x.b1 x.b2 x.b3 x.b4 x.b5 x.b6 x.b7 W⟩
      unfold ansR
      rw [if_neg n0, if_pos y]
      rfl
    | 2, _ =>
      have n0 : ¬ bits .andNot .u8 x.b0 0 = 96 := hall 0 (by decide) (by omega)
      have n1 : ¬ bits .andNot .u8 x.b0 16 = 32 := hall 1 (by decide) (by omega)
      have y : bits .andNot .u8 x.b0 15 = 64 := hk
      refine ⟨rdBegin x.b0 x.b1 x.b2 x.b3 x.b4 x.b5 x.b6 x.b7, ?_, fun W _ => readBegin_any x.b0 x.b1 x.b2 x.b3 x.b4 x.b5 x.b6 x.b7 ok.b0 ok.b1 ok.b2 ok.b4 ok.b5 ok.b6 ok.b7 W⟩
      unfold ansR
      rw [if_neg n0, if_neg n1, if_pos y]
      rfl
    | 3, _ =>
      have n0 : ¬ bits .andNot .u8 x.b0 0 = 96 := hall 0 (by decide) (by omega)
      have n1 : ¬ bits .andNot .u8 x.b0 16 = 32 := hall 1 (by decide) (by omega)
      have n2 : ¬ bits .andNot .u8 x.b0 15 = 64 := hall 2 (by decide) (by omega)
      have y : bits .andNot .u8 x.b0 31 = 0 := hk
      refine ⟨rdPart x.b0 x.b1 x.b2 x.b3 x.b4 x.b5 x.b6 x.b7, ?_, fun W _ => readPart_any x.b0 x.b1 x.b2 x.b3 x.b4 x.b5 x.b6 x.b7 ok.b0 ok.b1 ok.b2 ok.b3 ok.b4 ok.b5 ok.b6 ok.b7 W⟩
      unfold ansR
      rw [if_neg n0, if_neg n1, if_neg n2, if_pos y]
      rfl
    | 4, _ =>
      have n0 : ¬ bits .andNot .u8 x.b0 0 = 96 := hall 0 (by decide) (by omega)
      have n1 : ¬ bits .andNot .u8 x.b0 16 = 32 := hall 1 (by decide) (by omega)
      have n2 : ¬ bits .andNot .u8 x.b0 15 = 64 := hall 2 (by decide) (by omega)
      have n3 : ¬ bits .andNot .u8 x.b0 31 = 0 := hall 3 (by decide) (by omega)
      have y : bits .andNot .u8 x.b0 0 = 128 := hk
      refine ⟨rdStop x.b0 x.b1 x.b2 x.b3 x.b4 x.b5 x.b6 x.b7, ?_, fun W _ => readStop_any x.b0 x.b1 x.b2 x.b3 x.b4 x.b5 x.b6 x.b7 ok.b1 ok.b2 ok.b4 ok.b5 ok.b6 ok.b7 W⟩
      unfold ansR
      rw [if_neg n0, if_neg n1, if_neg n2, if_neg n3, if_pos y]
      rfl
    | 5, _ =>
      have n0 : ¬ bits .andNot .u8 x.b0 0 = 96 := hall 0 (by decide) (by omega)
      have n1 : ¬ bits .andNot .u8 x.b0 16 = 32 := hall 1 (by decide) (by omega)
      have n2 : ¬ bits .andNot .u8 x.b0 15 = 64 := hall 2 (by decide) (by omega)
      have n3 : ¬ bits .andNot .u8 x.b0 31 = 0 := hall 3 (by decide) (by omega)
      have n4 : ¬ bits .andNot .u8 x.b0 0 = 128 := hall 4 (by decide) (by omega)
      have y : bits .andNot .u8 x.b0 4 = 160 := hk
      refine ⟨rdBlock x.b0 x.b1 x.b2 x.b3 x.b4 x.b5 x.b6 x.b7, ?_, fun W _ => readBlock_any x.b0 x.b1 x.b2 x.b3 x.b4 x.b5 x.b6 x.b7 ok.b1 ok.b2 ok.b4 W⟩
      unfold ansR
      rw [if_neg n0, if_neg n1, if_neg n2, if_neg n3, if_neg n4, if_pos y]
      rfl
    | 6, _ =>
      have n0 : ¬ bits .andNot .u8 x.b0 0 = 96 := hall 0 (by decide) (by omega)
      have n1 : ¬ bits .andNot .u8 x.b0 16 = 32 := hall 1 (by decide) (by omega)
      have n2 : ¬ bits .andNot .u8 x.b0 15 = 64 := hall 2 (by decide) (by omega)
      have n3 : ¬ bits .andNot .u8 x.b0 31 = 0 := hall 3 (by decide) (by omega)
      have n4 : ¬ bits .andNot .u8 x.b0 0 = 128 := hall 4 (by decide) (by omega)
      have n5 : ¬ bits .andNot .u8 x.b0 4 = 160 := hall 5 (by decide) (by omega)
      have y : bits .andNot .u8 x.b0 0 = 162 := hk
      refine ⟨rdAck x.b0 x.b1 x.b2 x.b3 x.b4 x.b5 x.b6 x.b7, ?_, fun W _ => readAck_any x.b0 x.b1 x.b2 x.b3 x.b4 x.b5 x.b6 x.b7 ok.b1 ok.b2 W⟩
      unfold ansR
      rw [if_neg n0, if_neg n1, if_neg n2, if_neg n3, if_neg n4, if_neg n5, if_pos y]
      rfl
    | 7, _ =>
      have n0 : ¬ bits .andNot .u8 x.b0 0 = 96 := hall 0 (by decide) (by omega)
      have n1 : ¬ bits .andNot .u8 x.b0 16 = 32 := hall 1 (by decide) (by omega)
      have n2 : ¬ bits .andNot .u8 x.b0 15 = 64 := hall 2 (by decide) (by omega)
      have n3 : ¬ bits .andNot .u8 x.b0 31 = 0 := hall 3 (by decide) (by omega)
      have n4 : ¬ bits .andNot .u8 x.b0 0 = 128 := hall 4 (by decide) (by omega)
      have n5 : ¬ bits .andNot .u8 x.b0 4 = 160 := hall 5 (by decide) (by omega)
      have n6 : ¬ bits .andNot .u8 x.b0 0 = 162 := hall 6 (by decide) (by omega)
      have y : bits .andNot .u8 x.b0 0 = 161 := hk
      refine ⟨rdBare x.b0 x.b1 x.b2 x.b3 x.b4 x.b5 x.b6 x.b7, ?_, fun W _ => readBare_any x.b0 x.b1 x.b2 x.b3 x.b4 x.b5 x.b6 x.b7 W⟩
      unfold ansR
      rw [if_neg n0, if_neg n1, if_neg n2, if_neg n3, if_neg n4, if_neg n5, if_neg n6, if_pos y]
      rfl
    | 8, _ =>
      have n0 : ¬ bits .andNot .u8 x.b0 0 = 96 := hall 0 (by decide) (by omega)
      have n1 : ¬ bits .andNot .u8 x.b0 16 = 32 := hall 1 (by decide) (by omega)
      have n2 : ¬ bits .andNot .u8 x.b0 15 = 64 := hall 2 (by decide) (by omega)
      have n3 : ¬ bits .andNot .u8 x.b0 31 = 0 := hall 3 (by decide) (by omega)
      have n4 : ¬ bits .andNot .u8 x.b0 0 = 128 := hall 4 (by decide) (by omega)
      have n5 : ¬ bits .andNot .u8 x.b0 4 = 160 := hall 5 (by decide) (by omega)
      have n6 : ¬ bits .andNot .u8 x.b0 0 = 162 := hall 6 (by decide) (by omega)
      have n7 : ¬ bits .andNot .u8 x.b0 0 = 161 := hall 7 (by decide) (by omega)
      have y : bits .andNot .u8 x.b0 6 = 192 := hk
      refine ⟨rdSize x.b0 x.b1 x.b2 x.b3 x.b4 x.b5 x.b6 x.b7, ?_, fun W _ => readSize_any x.b0 x.b1 x.b2 x.b3 x.b4 x.b5 x.b6 x.b7 ok.b1 ok.b2 ok.b4 ok.b5 ok.b6 ok.b7 W⟩
      unfold ansR
      rw [if_neg n0, if_neg n1, if_neg n2, if_neg n3, if_neg n4, if_neg n5, if_neg n6, if_neg n7, if_pos y]
      rfl
    | 9, _ =>
      have n0 : ¬ bits .andNot .u8 x.b0 0 = 96 := hall 0 (by decide) (by omega)
      have n1 : ¬ bits .andNot .u8 x.b0 16 = 32 := hall 1 (by decide) (by omega)
      have n2 : ¬ bits .andNot .u8 x.b0 15 = 64 := hall 2 (by decide) (by omega)
      have n3 : ¬ bits .andNot .u8 x.b0 31 = 0 := hall 3 (by decide) (by omega)
      have n4 : ¬ bits .andNot .u8 x.b0 0 = 128 := hall 4 (by decide) (by omega)
      have n5 : ¬ bits .andNot .u8 x.b0 4 = 160 := hall 5 (by decide) (by omega)
      have n6 : ¬ bits .andNot .u8 x.b0 0 = 162 := hall 6 (by decide) (by omega)
      have n7 : ¬ bits .andNot .u8 x.b0 0 = 161 := hall 7 (by decide) (by omega)
      have n8 : ¬ bits .andNot .u8 x.b0 6 = 192 := hall 8 (by decide) (by omega)
      have y : bits .andNot .u8 x.b0 28 = 193 := hk
      refine ⟨rdEnd x.b0 x.b1 x.b2 x.b3 x.b4 x.b5 x.b6 x.b7, ?_, fun W _ => readEnd_any x.b0 x.b1 x.b2 x.b3 x.b4 x.b5 x.b6 x.b7 ok.b0 ok.b1 ok.b2 W⟩
      unfold ansR
      rw [if_neg n0, if_neg n1, if_neg n2, if_neg n3, if_neg n4, if_neg n5, if_neg n6, if_neg n7, if_neg n8, if_pos y]
      rfl
    | n + 10, h => exact absurd h (by simp [ansT])
  · intro h
    have n0 : ¬ bits .andNot .u8 x.b0 0 = 96 := h 0 (by decide)
    have n1 : ¬ bits .andNot .u8 x.b0 16 = 32 := h 1 (by decide)
    have n2 : ¬ bits .andNot .u8 x.b0 15 = 64 := h 2 (by decide)
    have n3 : ¬ bits .andNot .u8 x.b0 31 = 0 := h 3 (by decide)
    have n4 : ¬ bits .andNot .u8 x.b0 0 = 128 := h 4 (by decide)
    have n5 : ¬ bits .andNot .u8 x.b0 4 = 160 := h 5 (by decide)
    have n6 : ¬ bits .andNot .u8 x.b0 0 = 162 := h 6 (by decide)
    have n7 : ¬ bits .andNot .u8 x.b0 0 = 161 := h 7 (by decide)
    have n8 : ¬ bits .andNot .u8 x.b0 6 = 192 := h 8 (by decide)
    have n9 : ¬ bits .andNot .u8 x.b0 28 = 193 := h 9 (by decide)
    unfold ansR
    rw [if_neg n0, if_neg n1, if_neg n2, if_neg n3, if_neg n4, if_neg n5, if_neg n6, if_neg n7, if_neg n8, if_neg n9]
#print axioms ansC_any

end Go.Proofs.YtimnpdegoehblaaGreatDoor
