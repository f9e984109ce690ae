/-
  The walk of the document's real, where there is no NaN's text, of 4 bytes.
-/
import Derived.Test.YtkfmmpolcjbnbaaGreatDoorVn3
import Derived.Test.YtkfmmpolcjbnbaaGreatDoorVn5
import Derived.Test.YtkfmmpolcjbnbaaGreatDoorRfw
namespace Go.Proofs.YtkfmmpolcjbnbaaGreatDoor
open Pl Go.RowKit

/-- What is or'd to a sign. -/
theorem orS32 (b : Bool) (x : Nat) (h : x < 2147483648) : bits .or .u64 (if b then 2147483648 else 0 : Int) (x : Int) = ((x + (if b then 2147483648 else 0) : Nat) : Int) := by
  cases b
  · have h1 := u64_or_nat 0 x (by decide) (by omega)
    rw [Nat.zero_or] at h1
    exact h1
  · have hk := bits_join .u64 64 (by decide) wraps_u64 31 (2147483648 : Int) (x : Int) (by omega) (by decide) (by decide) (by omega) (by show (x : Int) < 2147483648; omega) (by have : (2:Int)^64 = 18446744073709551616 := rfl; rw [this]; omega)
    refine hk.trans ?_
    show (2147483648 : Int) + (x : Int) = ((x + 2147483648 : Nat) : Int)
    omega

/-- A fraction or'd to a sign and an exponent. -/
theorem orF32 (b : Bool) (K f : Nat) (hK : K < 255) (hf : f < 8388608) : bits .or .u64 (bits .or .u64 (if b then 2147483648 else 0 : Int) ((K * 8388608 : Nat) : Int)) (f : Int) = ((K * 8388608 + f + (if b then 2147483648 else 0) : Nat) : Int) := by
  rw [orS32 b (K * 8388608) (by omega)]
  have hk := bits_join .u64 64 (by decide) wraps_u64 23 ((K * 8388608 + (if b then 2147483648 else 0) : Nat) : Int) (f : Int) (by omega) (by show _ % 8388608 = 0; cases b <;> simp <;> omega) (by have : (2:Int)^64 = 18446744073709551616 := rfl; rw [this]; cases b <;> simp <;> omega) (by omega) (by show (f : Int) < 8388608; omega) (by have : (2:Int)^64 = 18446744073709551616 := rfl; rw [this]; cases b <;> simp <;> omega)
  rw [hk]
  omega

/-- What the walk is told of a text. -/
structure Way32 (l : List UInt8) (s : ByteArray) : Prop where
  way : ((l.length : Int) == 12) = false ∨ (((l.length : Int) == 12) = true ∧ ∃ q : ByteArray, (∀ w : World, (Instr.slice 9 (.string s) none (some (.int .i64 4)) none).run Tryz.prog w = .ok (.string q) w) ∧ (q.toList == [110, 97, 110, 58]) = false)

set_option maxHeartbeats 4000000 in
set_option maxRecDepth 100000 in
theorem realInf32 (l : List UInt8) (s sd : ByteArray) (below : Bool) (w : World) (hsz : s.size = l.length) (W : Way32 l s) (hi : (sd.toList == [105, 110, 102]) = true)
    (hM : ∀ w : World, Calls Tryz.prog 64 #[.string s] w fun e w' => e = .returned (.tuple #[.string sd, .bool below]) ∧ w' = w) :
    Calls Tryz.prog 35 #[.int .u8 8, .string s] w (RefTo w (some (bytesL ((2139095040 + (if below then 2147483648 else 0) : Nat) : Int) 4))) := by
  have hS : ∀ w : World, Calls Tryz.prog 63 #[.int .u8 8] w fun e w' => e = .returned (.tuple #[.int .i64 4, .bool true]) ∧ w' = w := fun w => refSize_any 8 w
  have or0 := orS32 false 2139095040 (by decide)
  have or1 := orS32 true 2139095040 (by decide)
  simp only [if_true, if_false, Bool.false_eq_true] at or0 or1
  rcases W.way with b1 | ⟨b1, q, st, nq⟩ <;> clear W <;> cases below
  all_goals
    go_enter Tryz.func35, Tryz.ntmps35
    go_wp2_with fail
    refine (hS _).mono ?_
    rintro e w ⟨rfl, rfl⟩
    go_wp2_with fail
    refine (form32 _).mono ?_
    rintro e w ⟨rfl, rfl⟩
    go_wp2_with fail
    refine (hM _).mono ?_
    rintro e w ⟨rfl, rfl⟩
    go_wp2_with fail
    refine (bytesD_any _ 4 _ (by decide)).mono ?_
    rintro e w1 ⟨⟨ba, bc, rfl, ht⟩, hb⟩
    go_wp2_with fail
    go_ret2
    exact ⟨⟨_, _, _, rfl, ht⟩, hb⟩

set_option maxHeartbeats 4000000 in
set_option maxRecDepth 100000 in
theorem realB132 (l : List UInt8) (s sd : ByteArray) (below : Bool) (w : World) (hsz : s.size = l.length) (W : Way32 l s) (ni : (sd.toList == [105, 110, 102]) = false) (sx sy sz : ByteArray) (hC : ∀ w : World, Calls Tryz.prog 36 #[.string sd, .int .u8 112] w fun e w' => e = .returned (.tuple #[.string sx, .string sy, .bool false]) ∧ Below w.heap.size w w') (n1 n2 : Int) (v1 v2 v3 : Bool) (hN1 : ∀ w : World, Calls Tryz.prog 37 #[.string sx] w fun e w' => e = .returned (.tuple #[.int .u64 n1, .bool v1]) ∧ w' = w) (hMy : ∀ w : World, Calls Tryz.prog 64 #[.string sy] w fun e w' => e = .returned (.tuple #[.string sz, .bool v3]) ∧ w' = w) (hN2 : ∀ w : World, Calls Tryz.prog 37 #[.string sz] w fun e w' => e = .returned (.tuple #[.int .u64 n2, .bool v2]) ∧ w' = w)
    (hM : ∀ w : World, Calls Tryz.prog 64 #[.string s] w fun e w' => e = .returned (.tuple #[.string sd, .bool below]) ∧ w' = w) :
    Calls Tryz.prog 35 #[.int .u8 8, .string s] w (RefTo w none) := by
  have hS : ∀ w : World, Calls Tryz.prog 63 #[.int .u8 8] w fun e w' => e = .returned (.tuple #[.int .i64 4, .bool true]) ∧ w' = w := fun w => refSize_any 8 w
  rcases W.way with b1 | ⟨b1, q, st, nq⟩ <;> clear W <;> cases below
  all_goals
    go_enter Tryz.func35, Tryz.ntmps35
    go_wp2_with fail
    refine (hS _).mono ?_
    rintro e w ⟨rfl, rfl⟩
    go_wp2_with fail
    refine (form32 _).mono ?_
    rintro e w ⟨rfl, rfl⟩
    go_wp2_with fail
    refine (hM _).mono ?_
    rintro e w ⟨rfl, rfl⟩
    go_wp2_with fail
    refine (hC _).mono ?_
    rintro e w1 ⟨rfl, hb1⟩
    go_wp2_with fail
    refine (hN1 _).mono ?_
    rintro e w1 ⟨rfl, rfl⟩
    go_wp2_with fail
    refine (hMy _).mono ?_
    rintro e w1 ⟨rfl, rfl⟩
    go_wp2_with fail
    refine (hN2 _).mono ?_
    rintro e w1 ⟨rfl, rfl⟩
    go_wp2_with fail
    go_ret2
    exact ⟨⟨_, rfl⟩, hb1⟩

set_option maxHeartbeats 4000000 in
set_option maxRecDepth 100000 in
theorem realB232 (l : List UInt8) (s sd : ByteArray) (below : Bool) (w : World) (hsz : s.size = l.length) (W : Way32 l s) (ni : (sd.toList == [105, 110, 102]) = false) (sx sy sz : ByteArray) (hC : ∀ w : World, Calls Tryz.prog 36 #[.string sd, .int .u8 112] w fun e w' => e = .returned (.tuple #[.string sx, .string sy, .bool true]) ∧ Below w.heap.size w w') (n2 : Int) (v2 v3 : Bool) (hN1 : ∀ w : World, Calls Tryz.prog 37 #[.string sx] w fun e w' => e = .returned (.tuple #[.int .u64 0, .bool false]) ∧ w' = w) (hMy : ∀ w : World, Calls Tryz.prog 64 #[.string sy] w fun e w' => e = .returned (.tuple #[.string sz, .bool v3]) ∧ w' = w) (hN2 : ∀ w : World, Calls Tryz.prog 37 #[.string sz] w fun e w' => e = .returned (.tuple #[.int .u64 n2, .bool v2]) ∧ w' = w)
    (hM : ∀ w : World, Calls Tryz.prog 64 #[.string s] w fun e w' => e = .returned (.tuple #[.string sd, .bool below]) ∧ w' = w) :
    Calls Tryz.prog 35 #[.int .u8 8, .string s] w (RefTo w none) := by
  have hS : ∀ w : World, Calls Tryz.prog 63 #[.int .u8 8] w fun e w' => e = .returned (.tuple #[.int .i64 4, .bool true]) ∧ w' = w := fun w => refSize_any 8 w
  rcases W.way with b1 | ⟨b1, q, st, nq⟩ <;> clear W <;> cases below
  all_goals
    go_enter Tryz.func35, Tryz.ntmps35
    go_wp2_with fail
    refine (hS _).mono ?_
    rintro e w ⟨rfl, rfl⟩
    go_wp2_with fail
    refine (form32 _).mono ?_
    rintro e w ⟨rfl, rfl⟩
    go_wp2_with fail
    refine (hM _).mono ?_
    rintro e w ⟨rfl, rfl⟩
    go_wp2_with fail
    refine (hC _).mono ?_
    rintro e w1 ⟨rfl, hb1⟩
    go_wp2_with fail
    refine (hN1 _).mono ?_
    rintro e w1 ⟨rfl, rfl⟩
    go_wp2_with fail
    refine (hMy _).mono ?_
    rintro e w1 ⟨rfl, rfl⟩
    go_wp2_with fail
    refine (hN2 _).mono ?_
    rintro e w1 ⟨rfl, rfl⟩
    go_wp2_with fail
    go_ret2
    exact ⟨⟨_, rfl⟩, hb1⟩

set_option maxHeartbeats 4000000 in
set_option maxRecDepth 100000 in
theorem realB332 (l : List UInt8) (s sd : ByteArray) (below : Bool) (w : World) (hsz : s.size = l.length) (W : Way32 l s) (ni : (sd.toList == [105, 110, 102]) = false) (sx sy sz : ByteArray) (hC : ∀ w : World, Calls Tryz.prog 36 #[.string sd, .int .u8 112] w fun e w' => e = .returned (.tuple #[.string sx, .string sy, .bool true]) ∧ Below w.heap.size w w') (n1 : Int) (v3 : Bool) (hN1 : ∀ w : World, Calls Tryz.prog 37 #[.string sx] w fun e w' => e = .returned (.tuple #[.int .u64 n1, .bool true]) ∧ w' = w) (hMy : ∀ w : World, Calls Tryz.prog 64 #[.string sy] w fun e w' => e = .returned (.tuple #[.string sz, .bool v3]) ∧ w' = w) (hN2 : ∀ w : World, Calls Tryz.prog 37 #[.string sz] w fun e w' => e = .returned (.tuple #[.int .u64 0, .bool false]) ∧ w' = w)
    (hM : ∀ w : World, Calls Tryz.prog 64 #[.string s] w fun e w' => e = .returned (.tuple #[.string sd, .bool below]) ∧ w' = w) :
    Calls Tryz.prog 35 #[.int .u8 8, .string s] w (RefTo w none) := by
  have hS : ∀ w : World, Calls Tryz.prog 63 #[.int .u8 8] w fun e w' => e = .returned (.tuple #[.int .i64 4, .bool true]) ∧ w' = w := fun w => refSize_any 8 w
  rcases W.way with b1 | ⟨b1, q, st, nq⟩ <;> clear W <;> cases below
  all_goals
    go_enter Tryz.func35, Tryz.ntmps35
    go_wp2_with fail
    refine (hS _).mono ?_
    rintro e w ⟨rfl, rfl⟩
    go_wp2_with fail
    refine (form32 _).mono ?_
    rintro e w ⟨rfl, rfl⟩
    go_wp2_with fail
    refine (hM _).mono ?_
    rintro e w ⟨rfl, rfl⟩
    go_wp2_with fail
    refine (hC _).mono ?_
    rintro e w1 ⟨rfl, hb1⟩
    go_wp2_with fail
    refine (hN1 _).mono ?_
    rintro e w1 ⟨rfl, rfl⟩
    go_wp2_with fail
    refine (hMy _).mono ?_
    rintro e w1 ⟨rfl, rfl⟩
    go_wp2_with fail
    refine (hN2 _).mono ?_
    rintro e w1 ⟨rfl, rfl⟩
    go_wp2_with fail
    go_ret2
    exact ⟨⟨_, rfl⟩, hb1⟩

set_option maxHeartbeats 4000000 in
set_option maxRecDepth 100000 in
theorem realB432 (l : List UInt8) (s sd : ByteArray) (below : Bool) (w : World) (hsz : s.size = l.length) (W : Way32 l s) (ni : (sd.toList == [105, 110, 102]) = false) (sx sy sz : ByteArray) (hC : ∀ w : World, Calls Tryz.prog 36 #[.string sd, .int .u8 112] w fun e w' => e = .returned (.tuple #[.string sx, .string sy, .bool true]) ∧ Below w.heap.size w w') (n1 : Int) (n2 : Nat) (v3 : Bool) (hN1 : ∀ w : World, Calls Tryz.prog 37 #[.string sx] w fun e w' => e = .returned (.tuple #[.int .u64 n1, .bool true]) ∧ w' = w) (hMy : ∀ w : World, Calls Tryz.prog 64 #[.string sy] w fun e w' => e = .returned (.tuple #[.string sz, .bool v3]) ∧ w' = w) (hN2 : ∀ w : World, Calls Tryz.prog 37 #[.string sz] w fun e w' => e = .returned (.tuple #[.int .u64 (n2 : Int), .bool true]) ∧ w' = w) (h9 : (9999 : Int) < (n2 : Int))
    (hM : ∀ w : World, Calls Tryz.prog 64 #[.string s] w fun e w' => e = .returned (.tuple #[.string sd, .bool below]) ∧ w' = w) :
    Calls Tryz.prog 35 #[.int .u8 8, .string s] w (RefTo w none) := by
  have hS : ∀ w : World, Calls Tryz.prog 63 #[.int .u8 8] w fun e w' => e = .returned (.tuple #[.int .i64 4, .bool true]) ∧ w' = w := fun w => refSize_any 8 w
  rcases W.way with b1 | ⟨b1, q, st, nq⟩ <;> clear W <;> cases below
  all_goals
    go_enter Tryz.func35, Tryz.ntmps35
    go_wp2_with fail
    refine (hS _).mono ?_
    rintro e w ⟨rfl, rfl⟩
    go_wp2_with fail
    refine (form32 _).mono ?_
    rintro e w ⟨rfl, rfl⟩
    go_wp2_with fail
    refine (hM _).mono ?_
    rintro e w ⟨rfl, rfl⟩
    go_wp2_with fail
    refine (hC _).mono ?_
    rintro e w1 ⟨rfl, hb1⟩
    go_wp2_with fail
    refine (hN1 _).mono ?_
    rintro e w1 ⟨rfl, rfl⟩
    go_wp2_with fail
    refine (hMy _).mono ?_
    rintro e w1 ⟨rfl, rfl⟩
    go_wp2_with fail
    refine (hN2 _).mono ?_
    rintro e w1 ⟨rfl, rfl⟩
    go_wp2_with fail
    go_ret2
    exact ⟨⟨_, rfl⟩, hb1⟩

set_option maxHeartbeats 4000000 in
set_option maxRecDepth 100000 in
theorem realB532 (l : List UInt8) (s sd : ByteArray) (below : Bool) (w : World) (hsz : s.size = l.length) (W : Way32 l s) (ni : (sd.toList == [105, 110, 102]) = false) (sx sy sz : ByteArray) (hC : ∀ w : World, Calls Tryz.prog 36 #[.string sd, .int .u8 112] w fun e w' => e = .returned (.tuple #[.string sx, .string sy, .bool true]) ∧ Below w.heap.size w w') (n1 : Int) (hN1 : ∀ w : World, Calls Tryz.prog 37 #[.string sx] w fun e w' => e = .returned (.tuple #[.int .u64 n1, .bool true]) ∧ w' = w) (hMy : ∀ w : World, Calls Tryz.prog 64 #[.string sy] w fun e w' => e = .returned (.tuple #[.string sz, .bool true]) ∧ w' = w) (hN2 : ∀ w : World, Calls Tryz.prog 37 #[.string sz] w fun e w' => e = .returned (.tuple #[.int .u64 0, .bool true]) ∧ w' = w)
    (hM : ∀ w : World, Calls Tryz.prog 64 #[.string s] w fun e w' => e = .returned (.tuple #[.string sd, .bool below]) ∧ w' = w) :
    Calls Tryz.prog 35 #[.int .u8 8, .string s] w (RefTo w none) := by
  have hS : ∀ w : World, Calls Tryz.prog 63 #[.int .u8 8] w fun e w' => e = .returned (.tuple #[.int .i64 4, .bool true]) ∧ w' = w := fun w => refSize_any 8 w
  rcases W.way with b1 | ⟨b1, q, st, nq⟩ <;> clear W <;> cases below
  all_goals
    go_enter Tryz.func35, Tryz.ntmps35
    go_wp2_with fail
    refine (hS _).mono ?_
    rintro e w ⟨rfl, rfl⟩
    go_wp2_with fail
    refine (form32 _).mono ?_
    rintro e w ⟨rfl, rfl⟩
    go_wp2_with fail
    refine (hM _).mono ?_
    rintro e w ⟨rfl, rfl⟩
    go_wp2_with fail
    refine (hC _).mono ?_
    rintro e w1 ⟨rfl, hb1⟩
    go_wp2_with fail
    refine (hN1 _).mono ?_
    rintro e w1 ⟨rfl, rfl⟩
    go_wp2_with fail
    refine (hMy _).mono ?_
    rintro e w1 ⟨rfl, rfl⟩
    go_wp2_with fail
    refine (hN2 _).mono ?_
    rintro e w1 ⟨rfl, rfl⟩
    go_wp2_with fail
    go_ret2
    exact ⟨⟨_, rfl⟩, hb1⟩

set_option maxHeartbeats 4000000 in
set_option maxRecDepth 100000 in
theorem realZf32 (l : List UInt8) (s sd : ByteArray) (below : Bool) (w : World) (hsz : s.size = l.length) (W : Way32 l s) (ni : (sd.toList == [105, 110, 102]) = false) (sx sy sz : ByteArray) (hC : ∀ w : World, Calls Tryz.prog 36 #[.string sd, .int .u8 112] w fun e w' => e = .returned (.tuple #[.string sx, .string sy, .bool true]) ∧ Below w.heap.size w w') (n2 : Nat) (hN1 : ∀ w : World, Calls Tryz.prog 37 #[.string sx] w fun e w' => e = .returned (.tuple #[.int .u64 0, .bool true]) ∧ w' = w) (hMy : ∀ w : World, Calls Tryz.prog 64 #[.string sy] w fun e w' => e = .returned (.tuple #[.string sz, .bool false]) ∧ w' = w) (hN2 : ∀ w : World, Calls Tryz.prog 37 #[.string sz] w fun e w' => e = .returned (.tuple #[.int .u64 (n2 : Int), .bool true]) ∧ w' = w) (h9 : (n2 : Int) ≤ 9999)
    (hM : ∀ w : World, Calls Tryz.prog 64 #[.string s] w fun e w' => e = .returned (.tuple #[.string sd, .bool below]) ∧ w' = w) :
    Calls Tryz.prog 35 #[.int .u8 8, .string s] w (RefTo w (some (bytesL ((0 + (if below then 2147483648 else 0) : Nat) : Int) 4))) := by
  have hS : ∀ w : World, Calls Tryz.prog 63 #[.int .u8 8] w fun e w' => e = .returned (.tuple #[.int .i64 4, .bool true]) ∧ w' = w := fun w => refSize_any 8 w
  rcases W.way with b1 | ⟨b1, q, st, nq⟩ <;> clear W <;> cases below
  all_goals
    go_enter Tryz.func35, Tryz.ntmps35
    go_wp2_with fail
    refine (hS _).mono ?_
    rintro e w ⟨rfl, rfl⟩
    go_wp2_with fail
    refine (form32 _).mono ?_
    rintro e w ⟨rfl, rfl⟩
    go_wp2_with fail
    refine (hM _).mono ?_
    rintro e w ⟨rfl, rfl⟩
    go_wp2_with fail
    refine (hC _).mono ?_
    rintro e w1 ⟨rfl, hb1⟩
    go_wp2_with fail
    refine (hN1 _).mono ?_
    rintro e w1 ⟨rfl, rfl⟩
    go_wp2_with fail
    refine (hMy _).mono ?_
    rintro e w1 ⟨rfl, rfl⟩
    go_wp2_with fail
    refine (hN2 _).mono ?_
    rintro e w1 ⟨rfl, rfl⟩
    go_wp2_with fail
    refine (bytesD_any _ 4 _ (by decide)).mono ?_
    rintro e w2 ⟨⟨ba, bc, rfl, ht⟩, hb⟩
    go_wp2_with fail
    go_ret2
    exact ⟨⟨_, _, _, rfl, ⟨ht.row, ht.le, ht.max, fun hp => by obtain ⟨g, e1, e2, e3⟩ := ht.own hp; exact ⟨g, e1, Nat.le_trans hb1.size e2, e3⟩⟩⟩, Below.andThen hb1 hb⟩

set_option maxHeartbeats 4000000 in
set_option maxRecDepth 100000 in
theorem realZt32 (l : List UInt8) (s sd : ByteArray) (below : Bool) (w : World) (hsz : s.size = l.length) (W : Way32 l s) (ni : (sd.toList == [105, 110, 102]) = false) (sx sy sz : ByteArray) (hC : ∀ w : World, Calls Tryz.prog 36 #[.string sd, .int .u8 112] w fun e w' => e = .returned (.tuple #[.string sx, .string sy, .bool true]) ∧ Below w.heap.size w w') (n2 : Nat) (hN1 : ∀ w : World, Calls Tryz.prog 37 #[.string sx] w fun e w' => e = .returned (.tuple #[.int .u64 0, .bool true]) ∧ w' = w) (hMy : ∀ w : World, Calls Tryz.prog 64 #[.string sy] w fun e w' => e = .returned (.tuple #[.string sz, .bool true]) ∧ w' = w) (hN2 : ∀ w : World, Calls Tryz.prog 37 #[.string sz] w fun e w' => e = .returned (.tuple #[.int .u64 (n2 : Int), .bool true]) ∧ w' = w) (h9 : (n2 : Int) ≤ 9999) (h0 : ((n2 : Int) == 0) = false)
    (hM : ∀ w : World, Calls Tryz.prog 64 #[.string s] w fun e w' => e = .returned (.tuple #[.string sd, .bool below]) ∧ w' = w) :
    Calls Tryz.prog 35 #[.int .u8 8, .string s] w (RefTo w (some (bytesL ((0 + (if below then 2147483648 else 0) : Nat) : Int) 4))) := by
  have hS : ∀ w : World, Calls Tryz.prog 63 #[.int .u8 8] w fun e w' => e = .returned (.tuple #[.int .i64 4, .bool true]) ∧ w' = w := fun w => refSize_any 8 w
  rcases W.way with b1 | ⟨b1, q, st, nq⟩ <;> clear W <;> cases below
  all_goals
    go_enter Tryz.func35, Tryz.ntmps35
    go_wp2_with fail
    refine (hS _).mono ?_
    rintro e w ⟨rfl, rfl⟩
    go_wp2_with fail
    refine (form32 _).mono ?_
    rintro e w ⟨rfl, rfl⟩
    go_wp2_with fail
    refine (hM _).mono ?_
    rintro e w ⟨rfl, rfl⟩
    go_wp2_with fail
    refine (hC _).mono ?_
    rintro e w1 ⟨rfl, hb1⟩
    go_wp2_with fail
    refine (hN1 _).mono ?_
    rintro e w1 ⟨rfl, rfl⟩
    go_wp2_with fail
    refine (hMy _).mono ?_
    rintro e w1 ⟨rfl, rfl⟩
    go_wp2_with fail
    refine (hN2 _).mono ?_
    rintro e w1 ⟨rfl, rfl⟩
    go_wp2_with fail
    refine (bytesD_any _ 4 _ (by decide)).mono ?_
    rintro e w2 ⟨⟨ba, bc, rfl, ht⟩, hb⟩
    go_wp2_with fail
    go_ret2
    exact ⟨⟨_, _, _, rfl, ⟨ht.row, ht.le, ht.max, fun hp => by obtain ⟨g, e1, e2, e3⟩ := ht.own hp; exact ⟨g, e1, Nat.le_trans hb1.size e2, e3⟩⟩⟩, Below.andThen hb1 hb⟩

set_option maxHeartbeats 4000000 in
set_option maxRecDepth 100000 in
theorem realMf32 (l : List UInt8) (s sd : ByteArray) (below : Bool) (w : World) (hsz : s.size = l.length) (W : Way32 l s) (ni : (sd.toList == [105, 110, 102]) = false) (sx sy sz : ByteArray) (hC : ∀ w : World, Calls Tryz.prog 36 #[.string sd, .int .u8 112] w fun e w' => e = .returned (.tuple #[.string sx, .string sy, .bool true]) ∧ Below w.heap.size w w') (m n2 : Nat) (hN1 : ∀ w : World, Calls Tryz.prog 37 #[.string sx] w fun e w' => e = .returned (.tuple #[.int .u64 (m : Int), .bool true]) ∧ w' = w) (hMy : ∀ w : World, Calls Tryz.prog 64 #[.string sy] w fun e w' => e = .returned (.tuple #[.string sz, .bool false]) ∧ w' = w) (hN2 : ∀ w : World, Calls Tryz.prog 37 #[.string sz] w fun e w' => e = .returned (.tuple #[.int .u64 (n2 : Int), .bool true]) ∧ w' = w) (h9 : (n2 : Int) ≤ 9999) (m0 : m ≠ 0) (m1 : m < 18446744073709551616)
    (hM : ∀ w : World, Calls Tryz.prog 64 #[.string s] w fun e w' => e = .returned (.tuple #[.string sd, .bool below]) ∧ w' = w) :
    Calls Tryz.prog 35 #[.int .u8 8, .string s] w (RefTo w ((togV 23 127 m (n2 : Int)).map fun n : Nat => bytesL ((n + (if below then 2147483648 else 0) : Nat) : Int) 4)) := by
  have hS : ∀ w : World, Calls Tryz.prog 63 #[.int .u8 8] w fun e w' => e = .returned (.tuple #[.int .i64 4, .bool true]) ∧ w' = w := fun w => refSize_any 8 w
  have b0 : ((m : Int) == 0) = false := by simp; omega
  obtain ⟨e0, EZ⟩ : ∃ e : Int, Hid ((n2 : Int) = e) := ⟨_, rfl⟩
  rw [EZ.out]
  obtain ⟨R, RR⟩ : ∃ R, Hid (togV 23 127 m e0 = R) := ⟨_, rfl⟩
  rw [RR.out]
  have e0b : -9999 ≤ e0 ∧ e0 ≤ 9999 := by have := EZ.out; omega
  rcases W.way with b1 | ⟨b1, q, st, nq⟩ <;> clear W <;> cases below
  all_goals
    go_enter Tryz.func35, Tryz.ntmps35
    go_wp2_with fail
    refine (hS _).mono ?_
    rintro e w ⟨rfl, rfl⟩
    go_wp2_with fail
    refine (form32 _).mono ?_
    rintro e w ⟨rfl, rfl⟩
    go_wp2_with fail
    refine (hM _).mono ?_
    rintro e w ⟨rfl, rfl⟩
    go_wp2_with fail
    refine (hC _).mono ?_
    rintro e w1 ⟨rfl, hb1⟩
    go_wp2_with fail
    refine (hN1 _).mono ?_
    rintro e w1 ⟨rfl, rfl⟩
    go_wp2_with fail
    refine (hMy _).mono ?_
    rintro e w1 ⟨rfl, rfl⟩
    go_wp2_with fail
    refine (hN2 _).mono ?_
    rintro e w1 ⟨rfl, rfl⟩
    go_wp2_with fail
    go_loop [20, 26] (fun vm ve => ∃ (i q : Nat), vm = .int .u64 (q : Int) ∧ ve = .int .i64 (e0 + (i : Int)) ∧ q * 2 ^ i = m) (fun vm _ => (intOf vm).toNat)
    case atStart => exact ⟨0, m, rfl, by simp [EZ.out], by simp⟩
    case round =>
      obtain ⟨i, q, rfl, rfl, hq⟩ := hrel
      obtain ⟨i64, q0, qm⟩ := half_bound m q i m0 m1 hq.symm
      have HQ : Hid (q * 2 ^ i = m) := hq
      clear hq
      by_cases ev : q % 2 = 0
      · have ev' : ((q : Int) % 2 == 0) = true := by simp; omega
        have evt : ((q : Int).tmod 2 == 0) = true := by rw [Int.tmod_eq_emod_of_nonneg (by omega)]; exact ev'
        have qd : (q : Int).tdiv 2 = ((q / 2 : Nat) : Int) := by rw [Int.tdiv_eq_ediv_of_nonneg (by omega)]; omega
        have qd' : (q : Int) / 2 = ((q / 2 : Nat) : Int) := by omega
        have wq : IntKind.u64.wrap ((q / 2 : Nat) : Int) = ((q / 2 : Nat) : Int) := u64_wrap_id _ (by omega) (by omega)
        have HN : Hid (q / 2 * 2 ^ (i + 1) = m) := by show _ = _; rw [Nat.pow_succ, Nat.mul_comm (2 ^ i) 2, ← Nat.mul_assoc, show q / 2 * 2 = q from by omega]; exact HQ.out
        have HL : Hid (q / 2 < q) := by show _ < _; omega
        clear ev HQ
        generalize q / 2 = r at *
        go_wp2_with fail
        exact ⟨⟨i + 1, r, rfl, by go_num, HN.out⟩, by have := HL.out; simp [intOf]; omega⟩
      · have od : q % 2 = 1 := by omega
        have od' : ((q : Int) % 2 == 0) = false := by simp; omega
        have odt : ((q : Int).tmod 2 == 0) = false := by rw [Int.tmod_eq_emod_of_nonneg (by omega)]; exact od'
        obtain ⟨s1, s2⟩ := bitLen_spec 64 q (by show q < 18446744073709551616; omega) (by omega)
        obtain ⟨s3, s4⟩ := s2 q0
        have HR : Hid (R = togM 23 127 (e0 + (i : Int)) q (Lib.bitLen q)) := by
          show _ = _
          obtain ⟨p1, p2, _⟩ := odd_parts m m0 m1
          have := odd_unique i (Lib.ctz 64 m) q _ od p2 (HQ.out.trans p1)
          rw [← RR.out]
          unfold togV
          rw [if_neg m0, ← this.1, ← this.2]
        have SP : Hid (2 ^ (Lib.bitLen q - 1) ≤ q ∧ q < 2 ^ Lib.bitLen q ∧ 1 ≤ Lib.bitLen q) := ⟨s4, s1, s3⟩
        have UP : Hid (∀ j : Nat, (j = 0 ∨ (q * 2 ^ (j - 1) < 8388608 ∧ -149 < e0 + (i : Int) - (j - 1 : Nat))) → ¬ (q * 2 ^ j < 8388608 ∧ -149 < e0 + (i : Int) - j) → upV 23 127 (q * 2 ^ j) (e0 + (i : Int) - j + 149) = R) := fun j hj hend => by
          rw [HR.out]
          have := upV_tog 23 127 q (Lib.bitLen q) j (e0 + (i : Int)) SP.out.1 SP.out.2.1 SP.out.2.2 (by rcases hj with h | h; exact .inl h; exact .inr ⟨h.1, by omega⟩) (fun h => hend ⟨h.1, by omega⟩) (by decide)
          rw [← show e0 + (i : Int) - j - (1 - ((127 : Nat) : Int) - (23 : Nat)) = e0 + (i : Int) - j + 149 from by omega]
          exact this
        have he0 : -9999 ≤ e0 + (i : Int) := by omega
        have he1 : e0 + (i : Int) ≤ 10100 := by omega
        clear HR SP s1 s2 s3 s4 HQ od ev RR
        generalize e0 + (i : Int) = E at *
        go_wp2_with fail
        go_loop [20, 26] (fun vm ve => ∃ (j : Nat), vm = .int .u64 ((q * 2 ^ j : Nat) : Int) ∧ ve = .int .i64 (E - (j : Int)) ∧ q * 2 ^ j < 18446744073709551616 ∧ (j = 0 ∨ (q * 2 ^ (j - 1) < 8388608 ∧ -149 < E - (j - 1 : Nat)))) (fun _ ve => (intOf ve + 20000).toNat)
        case atStart => exact ⟨0, by simp, by simp, by simp; omega, .inl rfl⟩
        case round =>
          obtain ⟨j, rfl, rfl, hlt, hj⟩ := hrel
          have jb : (j : Int) ≤ 20200 := by rcases hj with h | h <;> omega
          have JB : -20000 ≤ E - (j : Int) := by rcases hj with h | h <;> omega
          by_cases go : q * 2 ^ j < 8388608 ∧ -149 < E - (j : Int)
          · have HJ : Hid (q * 2 ^ (j + 1 - 1) < 8388608 ∧ -149 < E - (j + 1 - 1 : Nat)) := by rw [Nat.add_sub_cancel]; exact go
            have d2 : q * 2 ^ (j + 1) = 2 * (q * 2 ^ j) := by rw [Nat.pow_succ, ← Nat.mul_assoc, Nat.mul_comm]
            have HD : Hid (q * 2 ^ (j + 1) = 2 * (q * 2 ^ j)) := d2
            have HLT : Hid (q * 2 ^ (j + 1) < 18446744073709551616) := by show _ < _; omega
            obtain ⟨x, HXX⟩ : ∃ x, Hid (q * 2 ^ j = x) := ⟨_, rfl⟩
            rw [HXX.out] at go HD hlt ⊢
            have ga : (x : Int) < 8388608 := by omega
            have gb : -149 < E - (j : Int) := go.2
            have wx : IntKind.u64.wrap ((x : Int) * 2) = (x : Int) * 2 := u64_wrap_id _ (by omega) (by omega)
            have HV : Hid ((x : Int) * 2 = ((q * 2 ^ (j + 1) : Nat) : Int)) := by show _ = _; rw [HD.out]; omega
            clear d2 HD hj go hlt UP
            go_wp2_with fail
            exact ⟨⟨j + 1, by rw [HV.out], by go_num, HLT.out, .inr HJ.out⟩, by simp [intOf]; omega⟩
          · have UU := UP.out j hj go
            have spl : (¬ ((q * 2 ^ j : Nat) : Int) < 8388608) ∨ (((q * 2 ^ j : Nat) : Int) < 8388608 ∧ ¬ -149 < E - (j : Int)) := by omega
            clear UP hj go
            obtain ⟨x, HXX⟩ : ∃ x, Hid (q * 2 ^ j = x) := ⟨_, rfl⟩
            rw [HXX.out] at UU hlt spl ⊢
            clear HXX
            have EB : E - (j : Int) ≤ 10100 := by omega
            generalize E - (j : Int) = ee at *
            have w1e : wrap64 (ee + 149) = ee + 149 := by unfold wrap64; omega
            have w2e : wrap64 (ee + 149 + 1) = ee + 149 + 1 := by unfold wrap64; omega
            unfold upV at UU
            have p53 : (2 : Nat) ^ (23 + 1) = 16777216 := rfl
            have p52 : (2 : Nat) ^ 23 = 8388608 := rfl
            rw [p53, p52] at UU
            have UH : Hid (_) := UU
            clear UU p53 p52
            obtain ⟨X, HX⟩ : ∃ X : Int, (x : Int) = X := ⟨_, rfl⟩
            have OR0 : x < 2147483648 → bits .or .u64 0 X = ((x + 0 : Nat) : Int) := fun h => by have := orS32 false x h; rw [HX] at this; exact this
            have OR1 : x < 2147483648 → bits .or .u64 2147483648 X = ((x + 2147483648 : Nat) : Int) := fun h => by have := orS32 true x h; rw [HX] at this; exact this
            by_cases k1 : 16777216 ≤ x ∨ ee + 149 < 0
            · have HE : R = none := by rw [← UH.out, if_pos k1]
              rw [HX] at spl ⊢
              have s1 : ((16777216 : Int) ≤ X) ∨ (¬ (16777216 : Int) ≤ X ∧ ee < -149) := by omega
              clear UH k1 OR0 OR1 hlt HX
              subst HE
              rcases spl with g1 | ⟨g1, g2⟩ <;> rcases s1 with g3 | ⟨g3, g4⟩
              all_goals
                go_wp2_with fail
                go_ret2
                exact ⟨⟨_, rfl⟩, hb1⟩
            rw [if_neg k1] at UH
            have n1 : ¬ (16777216 : Int) ≤ X := by omega
            have n2 : ¬ ee < -149 := by omega
            by_cases k2 : x < 8388608
            · have HE : R = some x := by rw [← UH.out, if_pos k2]
              have or0 := OR0 (by omega)
              have or1 := OR1 (by omega)
              have g1 : X < 8388608 := by omega
              have g2 : ¬ -149 < ee := by rcases spl with h | h; omega; exact h.2
              rw [HX]
              clear UH k1 k2 spl OR0 OR1 hlt HX
              subst HE
              go_wp2_with fail
              refine (bytesD_any _ 4 _ (by decide)).mono ?_
              rintro e w2 ⟨⟨ba, bc, rfl, ht⟩, hb⟩
              go_wp2_with fail
              go_ret2
              exact ⟨⟨_, _, _, rfl, ⟨ht.row, ht.le, ht.max, fun hp => by obtain ⟨g, e1, e2, e3⟩ := ht.own hp; exact ⟨g, e1, Nat.le_trans hb1.size e2, e3⟩⟩⟩, Below.andThen hb1 hb⟩
            rw [if_neg k2] at UH
            have g1 : ¬ X < 8388608 := by omega
            by_cases k3 : (2 * 127 + 1 : Int) ≤ ee + 149 + 1
            · have HE : R = none := by rw [← UH.out]; exact if_pos k3
              have g5 : (255 : Int) ≤ ee + 149 + 1 := by omega
              have g5' : (255 : Int) ≤ ee - -149 + 1 := by omega
              rw [HX]
              clear UH k1 k2 k3 spl OR0 OR1 hlt HX
              subst HE
              go_wp2_with fail
              go_ret2
              exact ⟨⟨_, rfl⟩, hb1⟩
            · have HE : R = some ((ee + 149 + 1).toNat * 8388608 + (x - 8388608)) := by rw [← UH.out]; exact if_neg k3
              have g5 : ¬ (255 : Int) ≤ ee + 149 + 1 := by omega
              have g5' : ¬ (255 : Int) ≤ ee - -149 + 1 := by omega
              obtain ⟨K, hK⟩ : ∃ K : Nat, ee + 149 + 1 = (K : Int) := ⟨(ee + 149 + 1).toNat, by omega⟩
              obtain ⟨f, hf⟩ : ∃ f : Nat, x = 8388608 + f := ⟨x - 8388608, by omega⟩
              have HE2 : R = some (K * 8388608 + f) := by rw [HE, hK, hf, Int.toNat_natCast, Nat.add_sub_cancel_left]
              have eX : X - 8388608 = (f : Int) := by omega
              have eK : (ee + 149 + 1) * 8388608 = ((K * 8388608 : Nat) : Int) := by rw [hK]; omega
              have F0 : bits .or .u64 (bits .or .u64 0 ((ee + 149 + 1) * 8388608)) (X - 8388608) = ((K * 8388608 + f + 0 : Nat) : Int) := by rw [eX, eK]; exact orF32 false K f (by omega) (by omega)
              have F1 : bits .or .u64 (bits .or .u64 2147483648 ((ee + 149 + 1) * 8388608)) (X - 8388608) = ((K * 8388608 + f + 2147483648 : Nat) : Int) := by rw [eX, eK]; exact orF32 true K f (by omega) (by omega)
              have u1 : IntKind.u64.wrap (ee + 149 + 1) = ee + 149 + 1 := u64_wrap_id _ (by omega) (by omega)
              have u2 : IntKind.u64.wrap ((ee + 149 + 1) * 8388608) = (ee + 149 + 1) * 8388608 := u64_wrap_id _ (by omega) (by omega)
              have u3 : IntKind.u64.wrap (X - 8388608) = X - 8388608 := u64_wrap_id _ (by omega) (by omega)
              rw [HX]
              clear UH k1 k2 k3 spl OR0 OR1 HE eX eK hK hf hlt HX
              subst HE2
              go_wp2_with fail
              first | rw [F0] | rw [F1] | skip
              refine (bytesD_any _ 4 _ (by decide)).mono ?_
              rintro e w2 ⟨⟨ba, bc, rfl, ht⟩, hb⟩
              go_wp2_with fail
              go_ret2
              exact ⟨⟨_, _, _, rfl, ⟨ht.row, ht.le, ht.max, fun hp => by obtain ⟨g, e1, e2, e3⟩ := ht.own hp; exact ⟨g, e1, Nat.le_trans hb1.size e2, e3⟩⟩⟩, Below.andThen hb1 hb⟩

set_option maxHeartbeats 4000000 in
set_option maxRecDepth 100000 in
theorem realMt32 (l : List UInt8) (s sd : ByteArray) (below : Bool) (w : World) (hsz : s.size = l.length) (W : Way32 l s) (ni : (sd.toList == [105, 110, 102]) = false) (sx sy sz : ByteArray) (hC : ∀ w : World, Calls Tryz.prog 36 #[.string sd, .int .u8 112] w fun e w' => e = .returned (.tuple #[.string sx, .string sy, .bool true]) ∧ Below w.heap.size w w') (m n2 : Nat) (hN1 : ∀ w : World, Calls Tryz.prog 37 #[.string sx] w fun e w' => e = .returned (.tuple #[.int .u64 (m : Int), .bool true]) ∧ w' = w) (hMy : ∀ w : World, Calls Tryz.prog 64 #[.string sy] w fun e w' => e = .returned (.tuple #[.string sz, .bool true]) ∧ w' = w) (hN2 : ∀ w : World, Calls Tryz.prog 37 #[.string sz] w fun e w' => e = .returned (.tuple #[.int .u64 (n2 : Int), .bool true]) ∧ w' = w) (h9 : (n2 : Int) ≤ 9999) (m0 : m ≠ 0) (m1 : m < 18446744073709551616) (h0 : ((n2 : Int) == 0) = false)
    (hM : ∀ w : World, Calls Tryz.prog 64 #[.string s] w fun e w' => e = .returned (.tuple #[.string sd, .bool below]) ∧ w' = w) :
    Calls Tryz.prog 35 #[.int .u8 8, .string s] w (RefTo w ((togV 23 127 m (-(n2 : Int))).map fun n : Nat => bytesL ((n + (if below then 2147483648 else 0) : Nat) : Int) 4)) := by
  have hS : ∀ w : World, Calls Tryz.prog 63 #[.int .u8 8] w fun e w' => e = .returned (.tuple #[.int .i64 4, .bool true]) ∧ w' = w := fun w => refSize_any 8 w
  have b0 : ((m : Int) == 0) = false := by simp; omega
  obtain ⟨e0, EZ⟩ : ∃ e : Int, Hid (-(n2 : Int) = e) := ⟨_, rfl⟩
  rw [EZ.out]
  obtain ⟨R, RR⟩ : ∃ R, Hid (togV 23 127 m e0 = R) := ⟨_, rfl⟩
  rw [RR.out]
  have e0b : -9999 ≤ e0 ∧ e0 ≤ 9999 := by have := EZ.out; omega
  rcases W.way with b1 | ⟨b1, q, st, nq⟩ <;> clear W <;> cases below
  all_goals
    go_enter Tryz.func35, Tryz.ntmps35
    go_wp2_with fail
    refine (hS _).mono ?_
    rintro e w ⟨rfl, rfl⟩
    go_wp2_with fail
    refine (form32 _).mono ?_
    rintro e w ⟨rfl, rfl⟩
    go_wp2_with fail
    refine (hM _).mono ?_
    rintro e w ⟨rfl, rfl⟩
    go_wp2_with fail
    refine (hC _).mono ?_
    rintro e w1 ⟨rfl, hb1⟩
    go_wp2_with fail
    refine (hN1 _).mono ?_
    rintro e w1 ⟨rfl, rfl⟩
    go_wp2_with fail
    refine (hMy _).mono ?_
    rintro e w1 ⟨rfl, rfl⟩
    go_wp2_with fail
    refine (hN2 _).mono ?_
    rintro e w1 ⟨rfl, rfl⟩
    go_wp2_with fail
    go_loop [20, 26] (fun vm ve => ∃ (i q : Nat), vm = .int .u64 (q : Int) ∧ ve = .int .i64 (e0 + (i : Int)) ∧ q * 2 ^ i = m) (fun vm _ => (intOf vm).toNat)
    case atStart => exact ⟨0, m, rfl, by simp [EZ.out], by simp⟩
    case round =>
      obtain ⟨i, q, rfl, rfl, hq⟩ := hrel
      obtain ⟨i64, q0, qm⟩ := half_bound m q i m0 m1 hq.symm
      have HQ : Hid (q * 2 ^ i = m) := hq
      clear hq
      by_cases ev : q % 2 = 0
      · have ev' : ((q : Int) % 2 == 0) = true := by simp; omega
        have evt : ((q : Int).tmod 2 == 0) = true := by rw [Int.tmod_eq_emod_of_nonneg (by omega)]; exact ev'
        have qd : (q : Int).tdiv 2 = ((q / 2 : Nat) : Int) := by rw [Int.tdiv_eq_ediv_of_nonneg (by omega)]; omega
        have qd' : (q : Int) / 2 = ((q / 2 : Nat) : Int) := by omega
        have wq : IntKind.u64.wrap ((q / 2 : Nat) : Int) = ((q / 2 : Nat) : Int) := u64_wrap_id _ (by omega) (by omega)
        have HN : Hid (q / 2 * 2 ^ (i + 1) = m) := by show _ = _; rw [Nat.pow_succ, Nat.mul_comm (2 ^ i) 2, ← Nat.mul_assoc, show q / 2 * 2 = q from by omega]; exact HQ.out
        have HL : Hid (q / 2 < q) := by show _ < _; omega
        clear ev HQ
        generalize q / 2 = r at *
        go_wp2_with fail
        exact ⟨⟨i + 1, r, rfl, by go_num, HN.out⟩, by have := HL.out; simp [intOf]; omega⟩
      · have od : q % 2 = 1 := by omega
        have od' : ((q : Int) % 2 == 0) = false := by simp; omega
        have odt : ((q : Int).tmod 2 == 0) = false := by rw [Int.tmod_eq_emod_of_nonneg (by omega)]; exact od'
        obtain ⟨s1, s2⟩ := bitLen_spec 64 q (by show q < 18446744073709551616; omega) (by omega)
        obtain ⟨s3, s4⟩ := s2 q0
        have HR : Hid (R = togM 23 127 (e0 + (i : Int)) q (Lib.bitLen q)) := by
          show _ = _
          obtain ⟨p1, p2, _⟩ := odd_parts m m0 m1
          have := odd_unique i (Lib.ctz 64 m) q _ od p2 (HQ.out.trans p1)
          rw [← RR.out]
          unfold togV
          rw [if_neg m0, ← this.1, ← this.2]
        have SP : Hid (2 ^ (Lib.bitLen q - 1) ≤ q ∧ q < 2 ^ Lib.bitLen q ∧ 1 ≤ Lib.bitLen q) := ⟨s4, s1, s3⟩
        have UP : Hid (∀ j : Nat, (j = 0 ∨ (q * 2 ^ (j - 1) < 8388608 ∧ -149 < e0 + (i : Int) - (j - 1 : Nat))) → ¬ (q * 2 ^ j < 8388608 ∧ -149 < e0 + (i : Int) - j) → upV 23 127 (q * 2 ^ j) (e0 + (i : Int) - j + 149) = R) := fun j hj hend => by
          rw [HR.out]
          have := upV_tog 23 127 q (Lib.bitLen q) j (e0 + (i : Int)) SP.out.1 SP.out.2.1 SP.out.2.2 (by rcases hj with h | h; exact .inl h; exact .inr ⟨h.1, by omega⟩) (fun h => hend ⟨h.1, by omega⟩) (by decide)
          rw [← show e0 + (i : Int) - j - (1 - ((127 : Nat) : Int) - (23 : Nat)) = e0 + (i : Int) - j + 149 from by omega]
          exact this
        have he0 : -9999 ≤ e0 + (i : Int) := by omega
        have he1 : e0 + (i : Int) ≤ 10100 := by omega
        clear HR SP s1 s2 s3 s4 HQ od ev RR
        generalize e0 + (i : Int) = E at *
        go_wp2_with fail
        go_loop [20, 26] (fun vm ve => ∃ (j : Nat), vm = .int .u64 ((q * 2 ^ j : Nat) : Int) ∧ ve = .int .i64 (E - (j : Int)) ∧ q * 2 ^ j < 18446744073709551616 ∧ (j = 0 ∨ (q * 2 ^ (j - 1) < 8388608 ∧ -149 < E - (j - 1 : Nat)))) (fun _ ve => (intOf ve + 20000).toNat)
        case atStart => exact ⟨0, by simp, by simp, by simp; omega, .inl rfl⟩
        case round =>
          obtain ⟨j, rfl, rfl, hlt, hj⟩ := hrel
          have jb : (j : Int) ≤ 20200 := by rcases hj with h | h <;> omega
          have JB : -20000 ≤ E - (j : Int) := by rcases hj with h | h <;> omega
          by_cases go : q * 2 ^ j < 8388608 ∧ -149 < E - (j : Int)
          · have HJ : Hid (q * 2 ^ (j + 1 - 1) < 8388608 ∧ -149 < E - (j + 1 - 1 : Nat)) := by rw [Nat.add_sub_cancel]; exact go
            have d2 : q * 2 ^ (j + 1) = 2 * (q * 2 ^ j) := by rw [Nat.pow_succ, ← Nat.mul_assoc, Nat.mul_comm]
            have HD : Hid (q * 2 ^ (j + 1) = 2 * (q * 2 ^ j)) := d2
            have HLT : Hid (q * 2 ^ (j + 1) < 18446744073709551616) := by show _ < _; omega
            obtain ⟨x, HXX⟩ : ∃ x, Hid (q * 2 ^ j = x) := ⟨_, rfl⟩
            rw [HXX.out] at go HD hlt ⊢
            have ga : (x : Int) < 8388608 := by omega
            have gb : -149 < E - (j : Int) := go.2
            have wx : IntKind.u64.wrap ((x : Int) * 2) = (x : Int) * 2 := u64_wrap_id _ (by omega) (by omega)
            have HV : Hid ((x : Int) * 2 = ((q * 2 ^ (j + 1) : Nat) : Int)) := by show _ = _; rw [HD.out]; omega
            clear d2 HD hj go hlt UP
            go_wp2_with fail
            exact ⟨⟨j + 1, by rw [HV.out], by go_num, HLT.out, .inr HJ.out⟩, by simp [intOf]; omega⟩
          · have UU := UP.out j hj go
            have spl : (¬ ((q * 2 ^ j : Nat) : Int) < 8388608) ∨ (((q * 2 ^ j : Nat) : Int) < 8388608 ∧ ¬ -149 < E - (j : Int)) := by omega
            clear UP hj go
            obtain ⟨x, HXX⟩ : ∃ x, Hid (q * 2 ^ j = x) := ⟨_, rfl⟩
            rw [HXX.out] at UU hlt spl ⊢
            clear HXX
            have EB : E - (j : Int) ≤ 10100 := by omega
            generalize E - (j : Int) = ee at *
            have w1e : wrap64 (ee + 149) = ee + 149 := by unfold wrap64; omega
            have w2e : wrap64 (ee + 149 + 1) = ee + 149 + 1 := by unfold wrap64; omega
            unfold upV at UU
            have p53 : (2 : Nat) ^ (23 + 1) = 16777216 := rfl
            have p52 : (2 : Nat) ^ 23 = 8388608 := rfl
            rw [p53, p52] at UU
            have UH : Hid (_) := UU
            clear UU p53 p52
            obtain ⟨X, HX⟩ : ∃ X : Int, (x : Int) = X := ⟨_, rfl⟩
            have OR0 : x < 2147483648 → bits .or .u64 0 X = ((x + 0 : Nat) : Int) := fun h => by have := orS32 false x h; rw [HX] at this; exact this
            have OR1 : x < 2147483648 → bits .or .u64 2147483648 X = ((x + 2147483648 : Nat) : Int) := fun h => by have := orS32 true x h; rw [HX] at this; exact this
            by_cases k1 : 16777216 ≤ x ∨ ee + 149 < 0
            · have HE : R = none := by rw [← UH.out, if_pos k1]
              rw [HX] at spl ⊢
              have s1 : ((16777216 : Int) ≤ X) ∨ (¬ (16777216 : Int) ≤ X ∧ ee < -149) := by omega
              clear UH k1 OR0 OR1 hlt HX
              subst HE
              rcases spl with g1 | ⟨g1, g2⟩ <;> rcases s1 with g3 | ⟨g3, g4⟩
              all_goals
                go_wp2_with fail
                go_ret2
                exact ⟨⟨_, rfl⟩, hb1⟩
            rw [if_neg k1] at UH
            have n1 : ¬ (16777216 : Int) ≤ X := by omega
            have n2 : ¬ ee < -149 := by omega
            by_cases k2 : x < 8388608
            · have HE : R = some x := by rw [← UH.out, if_pos k2]
              have or0 := OR0 (by omega)
              have or1 := OR1 (by omega)
              have g1 : X < 8388608 := by omega
              have g2 : ¬ -149 < ee := by rcases spl with h | h; omega; exact h.2
              rw [HX]
              clear UH k1 k2 spl OR0 OR1 hlt HX
              subst HE
              go_wp2_with fail
              refine (bytesD_any _ 4 _ (by decide)).mono ?_
              rintro e w2 ⟨⟨ba, bc, rfl, ht⟩, hb⟩
              go_wp2_with fail
              go_ret2
              exact ⟨⟨_, _, _, rfl, ⟨ht.row, ht.le, ht.max, fun hp => by obtain ⟨g, e1, e2, e3⟩ := ht.own hp; exact ⟨g, e1, Nat.le_trans hb1.size e2, e3⟩⟩⟩, Below.andThen hb1 hb⟩
            rw [if_neg k2] at UH
            have g1 : ¬ X < 8388608 := by omega
            by_cases k3 : (2 * 127 + 1 : Int) ≤ ee + 149 + 1
            · have HE : R = none := by rw [← UH.out]; exact if_pos k3
              have g5 : (255 : Int) ≤ ee + 149 + 1 := by omega
              have g5' : (255 : Int) ≤ ee - -149 + 1 := by omega
              rw [HX]
              clear UH k1 k2 k3 spl OR0 OR1 hlt HX
              subst HE
              go_wp2_with fail
              go_ret2
              exact ⟨⟨_, rfl⟩, hb1⟩
            · have HE : R = some ((ee + 149 + 1).toNat * 8388608 + (x - 8388608)) := by rw [← UH.out]; exact if_neg k3
              have g5 : ¬ (255 : Int) ≤ ee + 149 + 1 := by omega
              have g5' : ¬ (255 : Int) ≤ ee - -149 + 1 := by omega
              obtain ⟨K, hK⟩ : ∃ K : Nat, ee + 149 + 1 = (K : Int) := ⟨(ee + 149 + 1).toNat, by omega⟩
              obtain ⟨f, hf⟩ : ∃ f : Nat, x = 8388608 + f := ⟨x - 8388608, by omega⟩
              have HE2 : R = some (K * 8388608 + f) := by rw [HE, hK, hf, Int.toNat_natCast, Nat.add_sub_cancel_left]
              have eX : X - 8388608 = (f : Int) := by omega
              have eK : (ee + 149 + 1) * 8388608 = ((K * 8388608 : Nat) : Int) := by rw [hK]; omega
              have F0 : bits .or .u64 (bits .or .u64 0 ((ee + 149 + 1) * 8388608)) (X - 8388608) = ((K * 8388608 + f + 0 : Nat) : Int) := by rw [eX, eK]; exact orF32 false K f (by omega) (by omega)
              have F1 : bits .or .u64 (bits .or .u64 2147483648 ((ee + 149 + 1) * 8388608)) (X - 8388608) = ((K * 8388608 + f + 2147483648 : Nat) : Int) := by rw [eX, eK]; exact orF32 true K f (by omega) (by omega)
              have u1 : IntKind.u64.wrap (ee + 149 + 1) = ee + 149 + 1 := u64_wrap_id _ (by omega) (by omega)
              have u2 : IntKind.u64.wrap ((ee + 149 + 1) * 8388608) = (ee + 149 + 1) * 8388608 := u64_wrap_id _ (by omega) (by omega)
              have u3 : IntKind.u64.wrap (X - 8388608) = X - 8388608 := u64_wrap_id _ (by omega) (by omega)
              rw [HX]
              clear UH k1 k2 k3 spl OR0 OR1 HE eX eK hK hf hlt HX
              subst HE2
              go_wp2_with fail
              first | rw [F0] | rw [F1] | skip
              refine (bytesD_any _ 4 _ (by decide)).mono ?_
              rintro e w2 ⟨⟨ba, bc, rfl, ht⟩, hb⟩
              go_wp2_with fail
              go_ret2
              exact ⟨⟨_, _, _, rfl, ⟨ht.row, ht.le, ht.max, fun hp => by obtain ⟨g, e1, e2, e3⟩ := ht.own hp; exact ⟨g, e1, Nat.le_trans hb1.size e2, e3⟩⟩⟩, Below.andThen hb1 hb⟩
end Go.Proofs.YtkfmmpolcjbnbaaGreatDoor
