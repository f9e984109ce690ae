/-
  The walk of Text at 254 255 as a number of 2 bytes, and of works: true, whatever the world, where the library's two tables hold what is laid.
-/
import Derived.Test.YtkfmmpolcjbnbaaDoorWk1
import Derived.Laws.BytesArg
namespace Go.Proofs.YtkfmmpolcjbnbaaDoor
open Pl Go.RowKit

/-- The tables that the library reads. -/
structure Tabs (w : World) : Prop where
  t64 : Tab64 w
  p10 : Lib.TabIs Tryd.prog w "internal/strconv.uint64pow10" .u64 Lib.pow10Tab

theorem gPow : Tryd.prog.globalNamed "internal/strconv.uint64pow10" = some 1 := by kernel_rfl
theorem Tabs.old {w : World} (h : Tabs w) : 2 < w.heap.size := h.t64.old
theorem Tabs.next {w w' : World} (h : Tabs w) (hb : Below w.heap.size w w') : Tabs w' where
  t64 := h.t64.below hb h.old
  p10 := var?_below hb gPow (Nat.lt_trans (by decide) h.old) h.p10

theorem below_grow (w : World) (k : Nat) (os : Array Obj) : Below w.heap.size w (Sort.grow (w.drewN k) os) := by
  have h0 : Below w.heap.size w (w.drewN k) := below_drewN (Below.refl _ _) k
  have hh : (w.drewN k).heap = w.heap := by simp
  refine ⟨h0.os, h0.tape, h0.output, ?_, fun j hj => ?_⟩
  · show w.heap.size ≤ ((w.drewN k).heap ++ os).size
    rw [hh]; simp
  · show ((w.drewN k).heap ++ os)[j]? = w.heap[j]?
    rw [hh, Array.getElem?_append_left hj]

theorem formatInt_any (n : Int) (w : World) (h0 : -9223372036854775808 ≤ n) (h1 : n ≤ 9223372036854775807) (hT : Tabs w) :
    Calls Tryd.prog 26 #[.int .i64 n, .int .i64 10] w fun e w' => e = .returned (.string ⟨(Lib.itoa n).toArray⟩) ∧ Below w.heap.size w w' := by
  refine (Tryd.strconv_FormatInt_10 n h0 h1 w hT.p10).mono ?_
  rintro e w' ⟨rfl, k, os, rfl⟩
  exact ⟨rfl, below_grow w k os⟩

theorem sgN_bd (len : Nat) (n : Int) (h1 : 1 ≤ len) (h8 : len ≤ 8) (h0 : 0 ≤ n) (hn : n < 2 ^ (8 * len)) : -9223372036854775808 ≤ sgN len n ∧ sgN len n ≤ 9223372036854775807 := by
  have : len = 1 ∨ len = 2 ∨ len = 3 ∨ len = 4 ∨ len = 5 ∨ len = 6 ∨ len = 7 ∨ len = 8 := by omega
  rcases this with rfl | rfl | rfl | rfl | rfl | rfl | rfl | rfl
  all_goals
    simp only [sgN]
    simp only [Nat.reduceMul, Nat.reduceSub, Int.reducePow] at hn ⊢
    split <;> omega

/-- Numbers with a sign, any: their decimal digits. -/
theorem textOf_signed (a : Option Addr) (len cap : Nat) (zs : List Int) (w : World) (hr : Row w a len zs) (h1 : 1 ≤ len) (h8 : len ≤ 8) (hT : Tabs w) :
    Calls Tryd.prog 14 #[.int .u8 2, .slice a len cap] w fun e w' => e = .returned (.string ⟨(Lib.itoa (sgN len (num zs))).toArray⟩) ∧ Below w.heap.size w w' := by
  have hb := num_bd zs hr.oct
  rw [hr.size] at hb
  have hs := sgN_bd len _ h1 h8 hb.1 hb.2
  clear hb
  go_enter Tryd.func14, Tryd.ntmps14
  go_wp2_with fail
  refine (signedNumber_any _ _ _ zs _ hr h1 h8).mono ?_
  rintro e x ⟨rfl, rfl⟩
  go_wp2_with fail
  refine (formatInt_any _ _ hs.1 hs.2 hT).mono ?_
  rintro e w1 ⟨rfl, hb⟩
  go_wp2_with fail
  go_ret
  exact ⟨rfl, hb⟩

theorem text_m2 (a : Option Addr) (w : World) (hr : Row w a 2 [254, 255]) (hT : Tabs w) :
    Calls Tryd.prog 6 #[.int .u8 3, .slice a 2 2] w fun e w' => e = .returned (.tuple #[.string ⟨#[45, 50]⟩, .int .i64 0]) ∧ Below w.heap.size w w' := by
  go_enter Tryd.func6, Tryd.ntmps6
  go_wp2_with fail
  refine (kindOf_any _ _).mono ?_
  rw [show kindN 3 = 2 from by decide, show sizeN 3 = 2 from by decide]
  rintro e x ⟨rfl, rfl⟩
  go_wp2_with fail
  refine (checkBytes_any _ _ _ _ _ _ hr (by decide) (by decide)).mono ?_
  rw [show cbN 3 [254, 255] = 0 from by decide]
  rintro e x ⟨rfl, rfl⟩
  go_wp2_with fail
  refine (textOf_signed _ _ _ _ _ hr (by decide) (by decide) hT).mono ?_
  rw [show (Lib.itoa (sgN 2 (num [254, 255]))).toArray = #[45, 50] from by decide +kernel]
  rintro e w1 ⟨rfl, hb⟩
  go_wp2_with fail
  go_ret2
  exact ⟨rfl, hb⟩

theorem row_lit (w : World) (C : Array Value) (T : TypeId) (zs : List Int) (len : Nat) (hl : zs.length = len) (ho : Oct zs) (hC : C = (zs.map (Value.int .u8)).toArray) : Row (w.alloc (.cells C T)) (some ⟨w.heap.size, 0, none⟩) len zs where
  size := hl
  oct := ho
  at_ := fun _ => ⟨_, 0, rfl, fun i hi => by
    rw [Nat.zero_add, World.cell?_alloc_new, hC]
    simp [List.getD_eq_getElem?_getD, hl, hi]⟩

theorem Row.str {w : World} {a : Option Addr} {len : Nat} {zs : List Int} (h : Row w a len zs) (hp : 0 < len) (cap : Nat) : (convert 22 9 (.slice a len cap)).run Tryd.prog w = .ok (.string (strOfNums zs)) w := by
  obtain ⟨b, off, rfl, hc⟩ := h.at_ hp
  exact run_convert_bytes_arg w 22 5 Tryd.underlying22 Tryd.underlying5 b off len cap zs h.size hc 9 Tryd.underlying9

theorem row_nil (w : World) : Row w none 0 [] := ⟨rfl, fun n hn => by simp at hn, fun h => absurd h (by decide)⟩

theorem oct4 (a b c d : Int) (h : 0 ≤ a ∧ a < 256 ∧ 0 ≤ b ∧ b < 256 ∧ 0 ≤ c ∧ c < 256 ∧ 0 ≤ d ∧ d < 256) : Oct [a, b, c, d] := by
  intro n hn
  simp at hn
  omega

set_option maxHeartbeats 4000000 in
set_option maxRecDepth 100000 in
theorem works_any (w : World) (hT : Tabs w) : Calls Tryd.prog 5 #[] w fun e w' => e = .returned (.bool true) ∧ Below w.heap.size w w' := by
  go_enter Tryd.func5, Tryd.ntmps5
  go_wp2_with fail
  refine (text_m2 _ _ (row_lit w _ _ [254, 255] 2 rfl (fun n hn => by simp at hn; omega) rfl) (hT.next (Below.al (Below.refl _ _) _))).mono ?_
  rintro e w1 ⟨rfl, hb1⟩
  have B1 : Below w.heap.size w w1 := Below.andThen (Below.al (Below.refl _ _) _) hb1
  have T1 : Tabs w1 := hT.next B1
  clear hb1 hT
  go_wp2_with fail
  refine (value_3 _ T1.t64).mono ?_
  rintro e w2 ⟨g, rfl, r2, hb2⟩
  have B2 : Below w.heap.size w w2 := Below.andThen B1 hb2
  have T2 : Tabs w2 := T1.next hb2
  clear hb2 B1 T1
  go_wp2_with fail
  have ra := row_lit w2 #[.int .u8 0, .int .u8 0, .int .u8 0, .int .u8 128] 5 [0, 0, 0, 128] 4 rfl (oct4 _ _ _ _ (by decide)) rfl
  have rb := row_lit (w2.alloc (.cells #[.int .u8 0, .int .u8 0, .int .u8 0, .int .u8 128] 5)) #[.int .u8 0, .int .u8 0, .int .u8 0, .int .u8 0] 5 [0, 0, 0, 0] 4 rfl (oct4 _ _ _ _ (by decide)) rfl
  rw [show (w2.alloc (.cells #[.int .u8 0, .int .u8 0, .int .u8 0, .int .u8 128] 5)).heap.size = w2.heap.size + 1 from by simp] at rb
  have BA : Below w2.heap.size w2 ((w2.alloc (.cells #[.int .u8 0, .int .u8 0, .int .u8 0, .int .u8 128] 5)).alloc (.cells #[.int .u8 0, .int .u8 0, .int .u8 0, .int .u8 0] 5)) := Below.al (Below.al (Below.refl _ _) _) _
  refine (compare_any 8 _ _ 4 4 4 4 [0, 0, 0, 128] [0, 0, 0, 0] _ (ra.next (Below.al (Below.refl _ _) _)) rb (T2.next BA).t64 (by decide) (by decide) (by decide) (by decide)).mono ?_
  rw [show compR 8 [0, 0, 0, 128] [0, 0, 0, 0] = -1 from by decide +kernel, show compB 8 [0, 0, 0, 128] [0, 0, 0, 0] = true from by decide +kernel]
  rintro e w3 ⟨rfl, hb3⟩
  have B3 : Below w2.heap.size w2 w3 := Below.andThen BA hb3
  have r3 : Row w3 (some ⟨g, 0, none⟩) 4 [0, 0, 192, 63] := r2.next B3
  have T3 : Tabs w3 := T2.next B3
  have B3' : Below w.heap.size w w3 := Below.andThen B2 B3
  clear ra rb BA hb3 B3 r2 T2 B2
  have hc1 := r3.str (by decide) 4
  have r4 := row_lit w3 #[.int .u8 0, .int .u8 0, .int .u8 192, .int .u8 63] 5 [0, 0, 192, 63] 4 rfl (oct4 _ _ _ _ (by decide)) rfl
  have hc2 := r4.str (by decide) 4
  clear r3 r4
  go_wp2_with fail
  have r5 := row_lit (w3.alloc (.cells #[.int .u8 0, .int .u8 0, .int .u8 192, .int .u8 63] 5)) #[.int .u8 2] 5 [2] 1 rfl (fun n hn => by simp at hn; omega) rfl
  rw [show (w3.alloc (.cells #[.int .u8 0, .int .u8 0, .int .u8 192, .int .u8 63] 5)).heap.size = w3.heap.size + 1 from by simp] at r5
  have BC : Below w3.heap.size w3 ((w3.alloc (.cells #[.int .u8 0, .int .u8 0, .int .u8 192, .int .u8 63] 5)).alloc (.cells #[.int .u8 2] 5)) := Below.al (Below.al (Below.refl _ _) _) _
  refine (check_any 1 _ none none 1 1 0 0 0 0 [2] [] [] _ r5 (row_nil _) (row_nil _) (T3.next BC).t64 (by decide) (by decide) (by decide) (by decide) (by decide) (by decide)).mono ?_
  rw [show chkN 1 [2] [] [] = 101253168 from by decide +kernel]
  rintro e w4 ⟨rfl, hb4⟩
  go_wp2_with fail
  go_ret
  exact ⟨rfl, Below.andThen B3' (Below.andThen BC hb4)⟩
end Go.Proofs.YtkfmmpolcjbnbaaDoor
