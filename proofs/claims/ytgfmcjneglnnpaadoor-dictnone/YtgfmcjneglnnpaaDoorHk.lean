/-
  The example of layer 8 works.
-/
import Derived.Test.YtgfmcjneglnnpaaDoorHj
namespace Go.Proofs.YtgfmcjneglnnpaaDoor
open Go.RowKit

theorem oct68 : Oct [0, 32, 1, 1, 0, 7] := by intro n hn; simp at hn; omega
theorem o10 : Oct [10] := oct18 10 (by decide) (by decide)
theorem o7 : Oct [7] := oct18 7 (by decide) (by decide)
theorem sl_lit (w : World) (zs : List Int) (ho : Oct zs) (hz : zs.length ≤ maxLen) (T : TypeId) : SlOk (w.alloc (.cells (zs.map (Value.int .u8)).toArray T)) (some ⟨w.heap.size, 0, none⟩) zs.length zs.length zs := ⟨row_lit w _ T zs zs.length rfl ho rfl, Nat.le_refl _, hz⟩
set_option linter.unusedSimpArgs false in
set_option maxHeartbeats 4000000 in
set_option maxRecDepth 100000 in
theorem works8 (w : World) (hT : Ty.Tab64 w) : Calls Tryd.prog 19 #[] w fun e w' => e = .returned (.bool true) ∧ Below w.heap.size w w' := by
  have HT : Hid (Ty.Tab64 w) := hT
  clear hT
  go_enter Tryd.func19, Tryd.ntmps19
  go_wp2_with fail
  refine (example8_any w).mono ?_
  rintro r w0 ⟨rfl, rfl⟩
  go_wp2_with fail
  refine (exNew8x w HT.out).mono ?_
  rintro r w1 ⟨p, m, rfl, hb, hp, hm, hd⟩
  have B1 : Hid (Below w.heap.size w w1) := hb
  have D1 : Hid (DX w1 p m 0 5) := hd
  have P1 : Hid (w.heap.size ≤ p ∧ w.heap.size ≤ m) := ⟨hp, hm⟩
  have lp := hd.lt.1
  clear hb hd hp hm HT
  go_wp2_with fail
  refine ((D1.out.next (by repeat (first | exact Below.refl _ _ | apply Below.drew | apply Below.al))).bad _ ?_).mono ?_
  · have := sl_lit (w1.alloc (.cells #[.int .u16 8192, .int .u8 1] 24)) [10] o10 (by decide) 5
    simpa using this
  rintro r w2 ⟨rfl, hb⟩
  have B2 : Hid (Below w.heap.size w w2) := Below.andThen (Below.al (Below.al B1.out _) _) hb
  have D2 : Hid (DX w2 p m 0 5) := (D1.out.next (by repeat (first | exact Below.refl _ _ | apply Below.drew | apply Below.al))).next hb
  have L2 : Hid (w2.heap[w1.heap.size]? = some (.cells #[.int .u16 8192, .int .u8 1] 24 (0, 0))) := blk11 hb (ext11 (at11 _ _ _ rfl))
  obtain ⟨q0, q1⟩ : w2.cell? ⟨w1.heap.size, 0, none⟩ = some (.int .u16 8192) ∧ w2.cell? ⟨w1.heap.size, 1, none⟩ = some (.int .u8 1) := by
    constructor
    · rw [cell_of_row _ _ 0 _ _ _ L2.out]; rfl
    · rw [cell_of_row _ _ 1 _ _ _ L2.out]; rfl
  clear hb
  go_wp2_with fail
  refine ((D2.out.next (by repeat (first | exact Below.refl _ _ | apply Below.drew | apply Below.al))).put _ ?_).mono ?_
  · exact sl_lit w2 [7] o7 (by decide) 5
  rintro r w3 ⟨rfl, hd, hk⟩
  have P2 := P1.out
  have B3 : Hid (Below w.heap.size w w3) := Kp.below (Below.al B2.out _) hk (by have := B2.out.size; simp; omega) (by simp; omega)
  have D3 : Hid (DX w3 p m 1 7) := hd
  have L3 : Hid (w3.heap[w1.heap.size]? = some (.cells #[.int .u16 8192, .int .u8 1] 24 (0, 0))) := hk.at (by have := D1.out.lt; simp; omega) (ext11 L2.out)
  obtain ⟨q2, q3⟩ : w3.cell? ⟨w1.heap.size, 0, none⟩ = some (.int .u16 8192) ∧ w3.cell? ⟨w1.heap.size, 1, none⟩ = some (.int .u8 1) := by
    constructor
    · rw [cell_of_row _ _ 0 _ _ _ L3.out]; rfl
    · rw [cell_of_row _ _ 1 _ _ _ L3.out]; rfl
  clear hd hk q0 q1 P2
  go_wp2_with fail
  refine D3.out.read.mono ?_
  rintro r w4 ⟨⟨a, cap, rfl, ht⟩, hb⟩
  have B4 : Hid (Below w.heap.size w w4) := Below.andThen B3.out hb
  have D4 : Hid (DX w4 p m 1 7) := D3.out.next hb
  have R4 : Hid (Row w4 a 1 [7]) := ht.row
  clear ht hb q2 q3
  go_wp2_with fail
  refine (same_bytes8 a _ 1 cap 1 1 [7] [7] _ (R4.out.next (by repeat (first | exact Below.refl _ _ | apply Below.drew | apply Below.al))) (row_lit w4 _ _ [7] 1 rfl o7 rfl)).mono ?_
  rintro r w5 ⟨rfl, rfl⟩
  have e7 : ((strOfNums [7]).toList == (strOfNums [7]).toList) = true := by simp
  rw [e7]
  clear e7
  go_wp2_with fail
  refine (D4.out.next (by repeat (first | exact Below.refl _ _ | apply Below.drew | apply Below.al))).save.mono ?_
  rintro r w6 ⟨⟨v6, rfl, ho⟩, hb⟩
  have B6 : Hid (Below w.heap.size w w6) := Below.andThen (Below.al B4.out _) hb
  obtain ⟨a6, c6, rfl, _, _, hr6⟩ := ho.row oct68
  have R6 : Hid (Row w6 a6 6 [0, 32, 1, 1, 0, 7]) := hr6
  clear ho hb hr6
  go_wp2_with fail
  refine (same_bytes8 a6 _ 6 c6 6 6 [0, 32, 1, 1, 0, 7] [0, 32, 1, 1, 0, 7] _ (R6.out.next (by repeat (first | exact Below.refl _ _ | apply Below.drew | apply Below.al))) (row_lit w6 _ _ [0, 32, 1, 1, 0, 7] 6 rfl oct68 rfl)).mono ?_
  rintro r w7 ⟨rfl, rfl⟩
  have e7 : ((strOfNums [0, 32, 1, 1, 0, 7]).toList == (strOfNums [0, 32, 1, 1, 0, 7]).toList) = true := by simp
  rw [e7]
  clear e7
  go_wp2_with fail
  go_ret
  exact ⟨rfl, Below.al B6.out _⟩
#print axioms works8
end Go.Proofs.YtgfmcjneglnnpaaDoor
