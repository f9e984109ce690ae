/-
  readValue at every kind, and Value of any text of any type.
-/
import Derived.Test.YtkfmmpolcjbnbaaDoorRdG
import Derived.Test.YtkfmmpolcjbnbaaDoorRd9
import Derived.Test.YtkfmmpolcjbnbaaDoorRd7
import Derived.Test.YtkfmmpolcjbnbaaDoorRd6
import Derived.Test.YtkfmmpolcjbnbaaDoorValI
namespace Go.Proofs.YtkfmmpolcjbnbaaDoor
open Pl Go.RowKit

/-- The bytes of a text of a type. -/
def valN (t : Int) (l : List UInt8) : Option (List Int) :=
  if kindN t = 1 then truV l
  else if kindN t = 2 ∨ kindN t = 3 then intV t l
  else if kindN t = 4 then (if t = 17 then (flt64V l).map fun n => bytesL (n : Int) 8 else (flt32V l).map fun n => bytesL (n : Int) 4)
  else if kindN t = 5 then momV l
  else if kindN t = 6 then txtV l
  else octV l

set_option maxRecDepth 100000 in
theorem readV1 (z : Int) (l : List UInt8) (W : World) : Calls Tryd.prog 18 #[.int .u8 1, .int .i64 z, .string (str l)] W (ReadsTo W (truV l)) := by
  have h := fun W => truth_any l W
  generalize str l = s at *
  generalize truV l = v at *
  cases v with
  | none =>
    go_enter Tryd.func18, Tryd.ntmps18
    go_wp2_with fail
    refine (h _).mono ?_
    rintro e w ⟨rfl, hb⟩
    go_wp2_with fail
    exact ⟨rfl, rfl, hb⟩
  | some zs =>
    go_enter Tryd.func18, Tryd.ntmps18
    go_wp2_with fail
    refine (h _).mono ?_
    rintro e w ⟨⟨a, len, cap, rfl, ht⟩, hb⟩
    go_wp2_with fail
    go_ret
    exact ⟨⟨_, _, _, rfl, ht⟩, hb⟩

set_option maxRecDepth 100000 in
theorem readV5 (z : Int) (l : List UInt8) (W : World) (hl : l.length ≤ 1000000) : Calls Tryd.prog 18 #[.int .u8 5, .int .i64 z, .string (str l)] W (ReadsTo W (momV l)) := by
  have h := fun W => momentRd_any l W hl
  generalize str l = s at *
  generalize momV l = v at *
  cases v with
  | none =>
    go_enter Tryd.func18, Tryd.ntmps18
    go_wp2_with fail
    refine (h _).mono ?_
    rintro e w ⟨rfl, hb⟩
    go_wp2_with fail
    exact ⟨rfl, rfl, hb⟩
  | some zs =>
    go_enter Tryd.func18, Tryd.ntmps18
    go_wp2_with fail
    refine (h _).mono ?_
    rintro e w ⟨⟨a, len, cap, rfl, ht⟩, hb⟩
    go_wp2_with fail
    go_ret
    exact ⟨⟨_, _, _, rfl, ht⟩, hb⟩

set_option maxRecDepth 100000 in
theorem readV6 (z : Int) (l : List UInt8) (W : World) (hl : l.length ≤ 1000000) : Calls Tryd.prog 18 #[.int .u8 6, .int .i64 z, .string (str l)] W (ReadsTo W (txtV l)) := by
  have h := fun W => textRd_any l W hl
  generalize str l = s at *
  generalize txtV l = v at *
  cases v with
  | none =>
    go_enter Tryd.func18, Tryd.ntmps18
    go_wp2_with fail
    refine (h _).mono ?_
    rintro e w ⟨rfl, hb⟩
    go_wp2_with fail
    exact ⟨rfl, rfl, hb⟩
  | some zs =>
    go_enter Tryd.func18, Tryd.ntmps18
    go_wp2_with fail
    refine (h _).mono ?_
    rintro e w ⟨⟨a, len, cap, rfl, ht⟩, hb⟩
    go_wp2_with fail
    go_ret
    exact ⟨⟨_, _, _, rfl, ht⟩, hb⟩

set_option maxRecDepth 100000 in
theorem readV7 (z : Int) (l : List UInt8) (W : World) (hl : l.length ≤ 1000000) : Calls Tryd.prog 18 #[.int .u8 7, .int .i64 z, .string (str l)] W (ReadsTo W (octV l)) := by
  have h := fun W => octetsRd_any l W hl
  generalize str l = s at *
  generalize octV l = v at *
  cases v with
  | none =>
    go_enter Tryd.func18, Tryd.ntmps18
    go_wp2_with fail
    refine (h _).mono ?_
    rintro e w ⟨rfl, hb⟩
    go_wp2_with fail
    exact ⟨rfl, rfl, hb⟩
  | some zs =>
    go_enter Tryd.func18, Tryd.ntmps18
    go_wp2_with fail
    refine (h _).mono ?_
    rintro e w ⟨⟨a, len, cap, rfl, ht⟩, hb⟩
    go_wp2_with fail
    go_ret
    exact ⟨⟨_, _, _, rfl, ht⟩, hb⟩

set_option maxRecDepth 100000 in
theorem readV48 (l : List UInt8) (W : World) (hl : l.length ≤ 1000000) (hT : Tab64 W) : Calls Tryd.prog 18 #[.int .u8 4, .int .i64 8, .string (str l)] W (ReadsTo W ((flt64V l).map fun n => bytesL (n : Int) 8)) := by
  have h := floatRd64_any l W hl hT
  generalize str l = s at *
  generalize flt64V l = v at *
  cases v with
  | none =>
    replace h : Calls Tryd.prog 36 #[.string s, .int .i64 8] W fun e w' => e = .panicked bad ∧ Below W.heap.size W w' := h
    show Calls _ _ _ _ (ReadsTo W none)
    go_enter Tryd.func18, Tryd.ntmps18
    go_wp2_with fail
    refine h.mono ?_
    rintro e w ⟨rfl, hb⟩
    go_wp2_with fail
    exact ⟨rfl, rfl, hb⟩
  | some n =>
    replace h : Calls Tryd.prog 36 #[.string s, .int .i64 8] W fun e w' => e = .returned (.int .u64 (n : Int)) ∧ Below W.heap.size W w' := h
    show Calls _ _ _ _ (ReadsTo W (some (bytesL (n : Int) 8)))
    go_enter Tryd.func18, Tryd.ntmps18
    go_wp2_with fail
    refine h.mono ?_
    rintro e w ⟨rfl, hb⟩
    go_wp2_with fail
    refine (bytesOf_any (n : Int) 8 _ (by omega) (by decide)).mono ?_
    rintro e w2 ⟨v, rfl, hf⟩
    obtain ⟨hr, rfl, hz, hb2⟩ := hf
    go_wp2_with fail
    go_ret
    exact reads_bytes hb ⟨hr, rfl, hz, hb2⟩ (by decide)

set_option maxRecDepth 100000 in
theorem readV44 (l : List UInt8) (W : World) (hl : l.length ≤ 1000000) (hT : Tab64 W) : Calls Tryd.prog 18 #[.int .u8 4, .int .i64 4, .string (str l)] W (ReadsTo W ((flt32V l).map fun n => bytesL (n : Int) 4)) := by
  have h := floatRd32_any l W hl hT
  generalize str l = s at *
  generalize flt32V l = v at *
  cases v with
  | none =>
    replace h : Calls Tryd.prog 36 #[.string s, .int .i64 4] W fun e w' => e = .panicked bad ∧ Below W.heap.size W w' := h
    show Calls _ _ _ _ (ReadsTo W none)
    go_enter Tryd.func18, Tryd.ntmps18
    go_wp2_with fail
    refine h.mono ?_
    rintro e w ⟨rfl, hb⟩
    go_wp2_with fail
    exact ⟨rfl, rfl, hb⟩
  | some n =>
    replace h : Calls Tryd.prog 36 #[.string s, .int .i64 4] W fun e w' => e = .returned (.int .u64 (n : Int)) ∧ Below W.heap.size W w' := h
    show Calls _ _ _ _ (ReadsTo W (some (bytesL (n : Int) 4)))
    go_enter Tryd.func18, Tryd.ntmps18
    go_wp2_with fail
    refine h.mono ?_
    rintro e w ⟨rfl, hb⟩
    go_wp2_with fail
    refine (bytesOf_any (n : Int) 4 _ (by omega) (by decide)).mono ?_
    rintro e w2 ⟨v, rfl, hf⟩
    obtain ⟨hr, rfl, hz, hb2⟩ := hf
    go_wp2_with fail
    go_ret
    exact reads_bytes hb ⟨hr, rfl, hz, hb2⟩ (by decide)

/-- Value of any text of any type that is one. -/
theorem value_any (t : Int) (l : List UInt8) (w : World) (hk : kindN t ≠ 0) (hl : l.length ≤ 1000000) (hT : Tabs w) :
    Calls Tryd.prog 8 #[.int .u8 t, .string (str l)] w (ValueTo w (valN t l)) := by
  have hb := kind_bd t
  unfold valN
  by_cases h1 : kindN t = 1
  · rw [if_pos h1]
    exact value_of t _ _ w hk hT fun W _ => by rw [h1]; exact readV1 _ l W
  rw [if_neg h1]
  by_cases h2 : kindN t = 2 ∨ kindN t = 3
  · rw [if_pos h2]
    exact valueInt_any t l w h2 hl hT
  rw [if_neg h2]
  by_cases h4 : kindN t = 4
  · rw [if_pos h4]
    rcases float_types t h4 with ⟨rfl, hs⟩ | ⟨rfl, hs⟩
    · rw [if_neg (by decide)]
      exact value_of 8 _ _ w hk hT fun W hW => by rw [h4, hs]; exact readV44 l W hl hW.t64
    · rw [if_pos rfl]
      exact value_of 17 _ _ w hk hT fun W hW => by rw [h4, hs]; exact readV48 l W hl hW.t64
  rw [if_neg h4]
  by_cases h5 : kindN t = 5
  · rw [if_pos h5]
    exact value_of t _ _ w hk hT fun W _ => by rw [h5]; exact readV5 _ l W hl
  rw [if_neg h5]
  by_cases h6 : kindN t = 6
  · rw [if_pos h6]
    exact value_of t _ _ w hk hT fun W _ => by rw [h6]; exact readV6 _ l W hl
  rw [if_neg h6]
  have h7 : kindN t = 7 := by omega
  exact value_of t _ _ w hk hT fun W _ => by rw [h7]; exact readV7 _ l W hl

set_option maxRecDepth 100000 in
/-- Value of a type that is none. -/
theorem value_none (t : Int) (s : ByteArray) (w : World) (hk : kindN t = 0) :
    Calls Tryd.prog 8 #[.int .u8 t, .string s] w fun e w' => e = .returned (.tuple #[.slice none 0 0, .int .i64 10]) ∧ Below w.heap.size w w' := by
  go_enter_defers Tryd.func8, Tryd.ntmps8
  go_wp2_with fail
  refine (kindOf_any _ _).mono ?_
  rintro e w ⟨rfl, rfl⟩
  rw [hk]
  go_wp2_with fail
  simp [bodyPostD, Leaves, results, Tryd.results8, go_sem]
  exact Below.al (Below.al (Below.refl _ _) _) _
#print axioms value_any
end Go.Proofs.YtkfmmpolcjbnbaaDoor
