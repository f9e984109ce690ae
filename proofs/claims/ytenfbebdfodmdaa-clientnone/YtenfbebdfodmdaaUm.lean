/-
  The example of a write and a read works.
-/
import Derived.Test.YtenfbebdfodmdaaUk
import Derived.Test.YtenfbebdfodmdaaUl
namespace Go.Proofs.Ytenfbebdfodmdaa
open Go.RowKit

theorem hear_w (W : World) (p T : Nat) (rp a' : Option Addr) (cap' : Nat) (hp : W.heap[p]? = some (.cells (clC 5 10 (some ⟨T, 0, none⟩) rp) 60 (0, 0))) (hT : W.heap[T]? = some (.cells (trC 8192 1 true true (tmN 0) 1 false false a' 1 cap' false 0 0 0 0) 65 (0, 0))) (hne : p ≠ T) :
    Calls Try.prog 7 #[.pointer (some ⟨p, 0, none⟩), frV 1413 8 96 0 32 1 0 0 0 0 false, .int .i64 0] W (EndPost [p, T] W p 5 10 8192 1 true none 0 0 0) :=
  hear_1 p T 5 10 rp 8192 1 (tmN 0) false false a' 1 cap' false 0 0 0 0 96 0 32 1 0 0 0 0 0 W hp hT hne (by decide) (by decide) (by intro n hn; simp at hn; omega) (show Hid (∀ _, _) from fun W => adW W)
theorem hear_r (W : World) (p T : Nat) (rp a' : Option Addr) (cap' : Nat) (hp : W.heap[p]? = some (.cells (clC 5 10 (some ⟨T, 0, none⟩) rp) 60 (0, 0))) (hT : W.heap[T]? = some (.cells (trC 8192 1 false false (tmN 0) 3 false false a' 0 cap' false 0 0 0 0) 65 (0, 0))) (hne : p ≠ T) :
    Calls Try.prog 7 #[.pointer (some ⟨p, 0, none⟩), frV 1413 8 79 0 32 1 7 0 0 0 false, .int .i64 0] W (fun e w' => ∃ a2 cap2, EndPost [p, T] W p 5 10 8192 1 false a2 1 cap2 0 e w' ∧ Told W w' a2 1 cap2 [7]) :=
  hear_3 p T 5 10 rp 8192 1 false (tmN 0) false false a' 0 cap' false 0 0 0 0 1 [7] 79 0 32 1 7 0 0 0 0 W hp hT hne (by decide) (by decide) (by intro n hn; simp at hn; omega) (show Hid (∀ _, _) from fun W => adR W)
theorem write_w (W : World) (p : Nat) (a : Option Addr) (hp : W.heap[p]? = some (.cells (clC 5 10 none none) 60 (0, 0))) (hr : Row W a 1 [7]) (hne : ∀ b off, a = some ⟨b, off, none⟩ → b ≠ p) :
    Calls Try.prog 4 #[.pointer (some ⟨p, 0, none⟩), plV 8192 1, .slice a 1 1, .int .u8 0, .int .i64 0] W fun e w' => ∃ v, e = .returned (.tuple #[v, .int .i64 0]) ∧ BegPost W p 5 10 8192 1 true true 0 1 [7] 1 (frC 1541 8 47 0 32 1 7 0 0 0 false) (.returned v) w' :=
  write_1 p 5 10 none 8192 1 a 1 1 [7] 0 (frC 1541 8 47 0 32 1 7 0 0 0 false) W hp hr (by decide) (by decide) hne (show Hid (∀ _ _, _ → _ → _) from fun W' T hk hp' =>
    ask_at p 5 10 (some ⟨T, 0, none⟩) none 1 8192 1 true 0 true a 1 1 false false false 0 0 0 0 0 47 0 32 1 7 0 0 0 W' hp' (by decide) (by decide) (by intro n hn; simp at hn; omega) (show Hid (∀ _, _ → _) from fun W'' hb => askW a W'' ((hr.kp hk hne).next hb)))
theorem read_r (W : World) (p : Nat) (hp : W.heap[p]? = some (.cells (clC 5 10 none none) 60 (0, 0))) :
    Calls Try.prog 5 #[.pointer (some ⟨p, 0, none⟩), plV 8192 1, .int .u8 0, .int .i64 0] W fun e w' => ∃ v, e = .returned (.tuple #[v, .int .i64 0]) ∧ BegPost W p 5 10 8192 1 false false 0 3 [] 0 (frC 1541 8 64 0 32 1 0 0 0 0 false) (.returned v) w' :=
  read_3 p 5 10 none 8192 1 0 (frC 1541 8 64 0 32 1 0 0 0 0 false) W hp (show Hid (∀ _ _, _ → _ → _) from fun W' T _ hp' =>
    ask_at p 5 10 (some ⟨T, 0, none⟩) none 3 8192 1 false 0 false none 0 0 false false false 0 0 0 0 0 64 0 32 1 0 0 0 0 W' hp' (by decide) (by decide) (by intro n hn; simp at hn; omega) (show Hid (∀ _, _ → _) from fun W'' _ => askR11 W''))
theorem answer_w (W : World) : Calls Try.prog 25 #[cmV 1 8192 1 false 0 false none 0 0 false false false 0 0 0 0 0] W fun e w' => e = .returned (frV 1413 8 96 0 32 1 0 0 0 0 false) ∧ Below W.heap.size W w' :=
  answer_at 1 8192 1 false 0 false none 0 0 false false false 0 0 0 0 0 96 0 32 1 0 0 0 0 W (show Hid (∀ _, _ → _) from fun W' _ => ansW W')
theorem answer_r (W : World) (a : Option Addr) (hr : Row W a 1 [7]) : Calls Try.prog 25 #[cmV 3 8192 1 true 0 true a 1 1 false false false 0 0 0 0 0] W fun e w' => e = .returned (frV 1413 8 79 0 32 1 7 0 0 0 false) ∧ Below W.heap.size W w' :=
  answer_at 3 8192 1 true 0 true a 1 1 false false false 0 0 0 0 0 79 0 32 1 7 0 0 0 W (show Hid (∀ _, _ → _) from fun W' hb => ansR11 a W' (hr.next hb))
theorem pcell (W : World) (B : Nat) (h : W.heap[B]? = some (.cells #[.int .u16 8192, .int .u8 1] 27 (0, 0))) : W.cell? ⟨B, 0, none⟩ = some (.int .u16 8192) ∧ W.cell? ⟨B, 1, none⟩ = some (.int .u8 1) := by
  constructor
  · rw [cell_of_row _ _ 0 _ _ _ h]; rfl
  · rw [cell_of_row _ _ 1 _ _ _ h]; rfl

set_option linter.unusedSimpArgs false in
set_option maxHeartbeats 4000000 in
set_option maxRecDepth 100000 in
theorem works11 (w : World) : Calls Try.prog 12 #[] w fun e w' => e = .returned (.bool true) ∧ Below w.heap.size w w' := by
  have ho7 : Hid (Oct [7]) := fun n hn => by simp at hn; omega
  go_enter Try.func12, Try.ntmps12
  go_wp2_with fail
  refine (new_any 5 10 _ (by decide) (by decide) (by decide) (by decide)).mono ?_
  rintro r w9 ⟨rfl, rfl⟩
  go_wp2_with fail
  obtain ⟨W0, HW0⟩ : ∃ W0, Hid (((w.alloc (.cells (clC 5 10 none none) 60)).alloc (.cells #[.int .u16 8192, .int .u8 1] 27)).alloc (.cells #[.int .u8 7] 5) = W0) := ⟨_, rfl⟩
  have P0 : Hid (W0.heap[w.heap.size]? = some (.cells (clC 5 10 none none) 60 (0, 0))) := by show _ = _; rw [← HW0.out]; exact ext11 (ext11 (at11 _ _ _ rfl))
  have L0 : Hid (W0.heap[w.heap.size + 1]? = some (.cells #[.int .u16 8192, .int .u8 1] 27 (0, 0))) := by show _ = _; rw [← HW0.out]; exact ext11 (at11 _ _ _ (by simp))
  have R0 : Hid (Row W0 (some ⟨w.heap.size + 1 + 1, 0, none⟩) 1 [7]) := by
    show Row _ _ _ _
    rw [← HW0.out]
    have := row_lit ((w.alloc (.cells (clC 5 10 none none) 60)).alloc (.cells #[.int .u16 8192, .int .u8 1] 27)) #[.int .u8 7] 5 [7] 1 rfl ho7.out rfl
    simpa using this
  have B0 : Hid (Below w.heap.size w W0) := by show Below _ _ _; rw [← HW0.out]; exact (by repeat (first | exact Below.refl _ _ | apply Below.drew | apply Below.al))
  have S0 : Hid (W0.heap.size = w.heap.size + 3) := by show _ = _; rw [← HW0.out]; simp
  rw [HW0.out]
  clear HW0
  with_reducible refine (write_w W0 w.heap.size _ P0.out R0.out (fun b off h => by cases h; omega)).mono ?_
  rintro r w1 ⟨v, rfl, T, g, a', cap', hv, k1, k2, k3, k4, k5, k6, k7, k8, k9⟩
  cases hv
  have K01 : Hid (Kp [w.heap.size] W0 w1) := k1
  have P1 : Hid _ := k2
  have T1 : Hid _ := k6
  have G1 : Hid _ := k7
  have LT : Hid (W0.heap.size ≤ T) := k3
  have LG : Hid (W0.heap.size ≤ g) := k4
  have TG : Hid (T ≠ g) := k5
  have L1 : Hid (w1.heap[w.heap.size + 1]? = some (.cells #[.int .u16 8192, .int .u8 1] 27 (0, 0))) := K01.out.at (by simp) L0.out
  obtain ⟨q0, q1⟩ := pcell _ _ L1.out
  clear k1 k2 k3 k4 k5 k6 k7 k8 k9
  go_wp2_with fail
  clear q0 q1
  with_reducible refine (answer_w _).mono ?_
  rintro r w2 ⟨rfl, hb⟩
  have B12 : Hid (Below w1.heap.size w1 w2) := hb
  clear hb
  go_wp2_with fail
  with_reducible refine (hear_w w2 w.heap.size T none a' cap' (blk11 B12.out P1.out) (blk11 B12.out T1.out) (by have := LT.out; have := S0.out; omega)).mono ?_
  rintro r w3 ⟨g2, rfl, e1, e2, e3, e4⟩
  have K23 : Hid (Kp [w.heap.size, T] w2 w3) := e2
  have P3 : Hid _ := e3
  have G3 : Hid _ := e4
  clear e1 e2 e3 e4
  go_wp2_with fail
  with_reducible refine (done_at w.heap.size g2 5 10 none 8192 1 true none 0 0 0 w3 P3.out G3.out).mono ?_
  rintro r w4 ⟨rfl, d1, d2⟩
  have K34 : Hid (Kp [w.heap.size] w3 w4) := d1
  have P4 : Hid _ := d2
  clear d1 d2
  have K14 : Hid (Kp [w.heap.size, T] w1 w4) := (Kp.of B12.out).trans (K23.out.trans (K34.out.more (by simp)))
  have L4 : Hid (w4.heap[w.heap.size + 1]? = some (.cells #[.int .u16 8192, .int .u8 1] 27 (0, 0))) := K14.out.at (by have := LT.out; have := S0.out; simp; omega) L1.out
  have Gw4 : Hid (w4.heap[g]? = some (.cells (frC 1541 8 47 0 32 1 7 0 0 0 false) 25 (0, 0))) := K14.out.at (by have := LG.out; have := S0.out; have := TG.out; simp; omega) G1.out
  have B4 : Hid (Below w.heap.size w w4) := Kp.below (Kp.below B0.out K01.out (by have := S0.out; omega) (by simp)) K14.out (by have := K01.out.size; have := S0.out; omega) (by have := LT.out; have := S0.out; simp; omega)
  have LP4 := lt_of_heap L4.out
  obtain ⟨q0, q1⟩ := pcell _ _ L4.out
  go_wp2_with fail
  clear q0 q1
  obtain ⟨V0, HV0⟩ : ∃ V0, Hid (w4.alloc (.cells (rsC 8192 1 true none 0 0 0) 40) = V0) := ⟨_, rfl⟩
  have PV : Hid (V0.heap[w.heap.size]? = some (.cells (clC 5 10 none none) 60 (0, 0))) := by show _ = _; rw [← HV0.out]; exact ext11 P4.out
  have LV : Hid (V0.heap[w.heap.size + 1]? = some (.cells #[.int .u16 8192, .int .u8 1] 27 (0, 0))) := by show _ = _; rw [← HV0.out]; exact ext11 L4.out
  have GV : Hid (V0.heap[g]? = some (.cells (frC 1541 8 47 0 32 1 7 0 0 0 false) 25 (0, 0))) := by show _ = _; rw [← HV0.out]; exact ext11 Gw4.out
  have RV : Hid (V0.heap[w4.heap.size]? = some (.cells (rsC 8192 1 true none 0 0 0) 40 (0, 0))) := by show _ = _; rw [← HV0.out]; exact at11 _ _ _ rfl
  have BV : Hid (Below w.heap.size w V0) := by show Below _ _ _; rw [← HV0.out]; exact Below.al B4.out _
  rw [show w4.alloc _ = V0 from HV0.out]
  clear HV0
  have lgV : Hid (g < V0.heap.size) := lt_of_heap GV.out
  have lrV : Hid (w4.heap.size < V0.heap.size) := lt_of_heap RV.out
  have llV : Hid (w.heap.size + 1 < V0.heap.size) := lt_of_heap LV.out
  have lg0 : Hid (w.heap.size + 3 ≤ g) := by show _ ≤ _; have := LG.out; have := S0.out; omega
  have lr0 : Hid (w.heap.size + 1 < w4.heap.size) := LP4
  with_reducible refine (read_r V0 w.heap.size PV.out).mono ?_
  rintro r w5 ⟨v, rfl, T2, gk, a5, cap5, hv, k1, k2, k3, k4, k5, k6, k7, k8, k9⟩
  cases hv
  have K05 : Hid (Kp [w.heap.size] V0 w5) := k1
  have P5 : Hid _ := k2
  have T5 : Hid _ := k6
  have LT2 : Hid (V0.heap.size ≤ T2) := k3
  have L5 : Hid (w5.heap[w.heap.size + 1]? = some (.cells #[.int .u16 8192, .int .u8 1] 27 (0, 0))) := K05.out.at (by simp) LV.out
  have LP5 := lt_of_heap L5.out
  obtain ⟨q0, q1⟩ := pcell _ _ L5.out
  clear k1 k2 k3 k4 k5 k6 k7 k8 k9
  go_wp2_with fail
  clear q0 q1
  with_reducible refine (answer_r (w5.alloc (.cells #[.int .u8 7] 5)) (some ⟨w5.heap.size, 0, none⟩) (row_lit w5 #[.int .u8 7] 5 [7] 1 rfl ho7.out rfl)).mono ?_
  rintro r w6 ⟨rfl, hb⟩
  have B56 : Hid (Below w5.heap.size w5 w6) := Below.andThen (Below.al (Below.refl _ _) _) hb
  clear hb
  go_wp2_with fail
  with_reducible refine (hear_r w6 w.heap.size T2 none a5 cap5 (blk11 B56.out P5.out) (blk11 B56.out T5.out) (by have := LT2.out; have := llV.out; omega)).mono ?_
  rintro r w7 ⟨a2, cap2, ⟨g3, rfl, e1, e2, e3, e4⟩, htold⟩
  have K67 : Hid (Kp [w.heap.size, T2] w6 w7) := e2
  have P7 : Hid _ := e3
  have G7 : Hid _ := e4
  have HTD : Hid (Told w6 w7 a2 1 cap2 [7]) := htold
  clear e1 e2 e3 e4 htold
  go_wp2_with fail
  with_reducible refine (done_at w.heap.size g3 5 10 none 8192 1 false a2 1 cap2 0 w7 P7.out G7.out).mono ?_
  rintro r w8 ⟨rfl, d1, d2⟩
  have K78 : Hid (Kp [w.heap.size] w7 w8) := d1
  clear d1 d2
  have K08 : Hid (Kp [w.heap.size, T2] V0 w8) := (K05.out.more (by simp)).trans ((Kp.of B56.out).trans (K67.out.trans (K78.out.more (by simp))))
  have G8 : w8.heap[g]? = some (.cells (frC 1541 8 47 0 32 1 7 0 0 0 false) 25 (0, 0)) := K08.out.at (by have := LT2.out; have := lgV.out; have := lg0.out; simp; omega) GV.out
  have R8 : w8.heap[w4.heap.size]? = some (.cells (rsC 8192 1 true none 0 0 0) 40 (0, 0)) := K08.out.at (by have := LT2.out; have := lrV.out; have := lr0.out; simp; omega) RV.out
  have B8 : Hid (Below w.heap.size w w8) := Kp.below BV.out K08.out BV.out.size (by have := LT2.out; have := llV.out; simp; omega)
  have W8 : Hid (Row w8 a2 1 [7]) := HTD.out.row.kp K78.out (fun b off h => by
    obtain ⟨g0, e, hg, _⟩ := HTD.out.own (by decide)
    rw [h] at e
    cases e
    have := lt_of_heap (blk11 B56.out P5.out)
    omega)
  have f0 : w8.cell? ⟨g, 0, none⟩ = some (.int .u16 1541) := by rw [cell_of_row _ _ 0 _ _ _ G8]; rfl
  have f2 : w8.cell? ⟨g, 2, none⟩ = some (.int .u8 47) := by rw [cell_of_row _ _ 2 _ _ _ G8]; rfl
  have r2 : w8.cell? ⟨w4.heap.size, 2, none⟩ = some (.bool true) := by rw [cell_of_row _ _ 2 _ _ _ R8]; rfl
  have r4 : w8.cell? ⟨w4.heap.size, 4, none⟩ = some (.int .u32 0) := by rw [cell_of_row _ _ 4 _ _ _ R8]; rfl
  have lg8 := lt_of_heap G8
  have lr8 := lt_of_heap R8
  clear G8 R8
  go_wp2_with fail
  have SB := same_bytes11 a2 (some ⟨w8.heap.size + 1, 0, none⟩) 1 cap2 1 1 [7] [7] ((w8.alloc (.cells (rsC 8192 1 false a2 1 cap2 0) 40)).alloc (.cells #[.int .u8 7] 5)) (W8.out.next (by repeat (first | exact Below.refl _ _ | apply Below.drew | apply Below.al))) (by
    have := row_lit (w8.alloc (.cells (rsC 8192 1 false a2 1 cap2 0) 40)) #[.int .u8 7] 5 [7] 1 rfl ho7.out rfl
    simpa using this)
  refine SB.mono ?_
  rintro r w10 ⟨rfl, rfl⟩
  have SE : ((strOfNums [7]).toList == (strOfNums [7]).toList) = true := by simp
  rw [SE]
  go_wp2_with fail
  go_ret
  exact ⟨rfl, Below.al (Below.al B8.out _) _⟩
#print axioms works11
end Go.Proofs.Ytenfbebdfodmdaa
