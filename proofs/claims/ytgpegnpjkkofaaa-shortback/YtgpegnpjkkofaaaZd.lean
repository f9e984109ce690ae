/-
  ShortBack returns true.
-/
import Derived.Test.YtgpegnpjkkofaaaPf
import Derived.Test.YtgpegnpjkkofaaaRe
import Derived.Test.YtgpegnpjkkofaaaZb
import Derived.Deep.DeepCutAuto
namespace Go.Proofs.Ytgpegnpjkkofaaa
open Go.RowKit

theorem same_me (a0 a1 a2 a3 a4 a5 a6 a7 : Int) : same8 a0 a1 a2 a3 a4 a5 a6 a7 a0 a1 a2 a3 a4 a5 a6 a7 = true := by simp [same8]
theorem bgen (O : Option B8) : ∃ x0 x1 x2 x3 x4 x5 x6 x7 ec : Int, (∀ W r w', BPost W O r w' → r = .returned (.tuple #[arr8 x0 x1 x2 x3 x4 x5 x6 x7, .int .i64 ec]) ∧ Below W.heap.size W w') ∧ ((O = some ⟨x0, x1, x2, x3, x4, x5, x6, x7⟩ ∧ ec = 0) ∨ (O = none ∧ ec = 2)) := by
  cases O with
  | none => exact ⟨0, 0, 0, 0, 0, 0, 0, 0, 2, fun W r w' h => h, .inr ⟨rfl, rfl⟩⟩
  | some x => exact ⟨x.b0, x.b1, x.b2, x.b3, x.b4, x.b5, x.b6, x.b7, 0, fun W r w' h => h, .inl ⟨rfl, rfl⟩⟩

set_option linter.unusedSimpArgs false in
set_option maxHeartbeats 60000000 in
set_option maxRecDepth 100000 in
theorem shortBack_any (C D : Cm) (okC : C.Ok) (okD : D.Ok) (y : B8) (oky : y.Ok) (a1 : Option Addr) (cap1 : Nat) (a2 : Option Addr) (cap2 : Nat) (w : World) (hr1 : Row w a1 C.d.length C.d) (hr2 : Row w a2 D.d.length D.d) :
    Calls Try.prog 5 #[C.v a1 C.d.length cap1, D.v a2 D.d.length cap2, y.v] w fun e w' => e = .returned (.bool true) ∧ Below w.heap.size w w' := by
  obtain ⟨len1, hl1⟩ : ∃ len1, C.d.length = len1 := ⟨_, rfl⟩
  obtain ⟨len2, hl2⟩ : ∃ len2, D.d.length = len2 := ⟨_, rfl⟩
  have K1 : Hid (∀ W, Below w.heap.size w W → Calls Try.prog 9 #[C.v a1 len1 cap1] W (BPost W (askP C))) := fun W hb => by rw [← hl1]; exact ask_any C okC a1 cap1 W (hr1.next hb)
  have K2 : Hid (∀ W, Below w.heap.size w W → Calls Try.prog 9 #[D.v a2 len2 cap2] W (BPost W (askP D))) := fun W hb => by rw [← hl2]; exact ask_any D okD a2 cap2 W (hr2.next hb)
  have K3 : Hid (∀ W, Below w.heap.size w W → Calls Try.prog 12 #[C.v a1 len1 cap1] W (BPost W (ansP C))) := fun W hb => by rw [← hl1]; exact answer_any C okC a1 cap1 W (hr1.next hb)
  have K4 : Hid (∀ W, Below w.heap.size w W → Calls Try.prog 12 #[D.v a2 len2 cap2] W (BPost W (ansP D))) := fun W hb => by rw [← hl2]; exact answer_any D okD a2 cap2 W (hr2.next hb)
  have KS : Hid (∀ W, Below w.heap.size w W → Calls Try.prog 18 #[C.v a1 len1 cap1, D.v a2 len2 cap2] W fun r w' => r = .returned (.bool (decide (C = D))) ∧ ∃ o1 o2, w' = (W.alloc o1).alloc o2) := fun W hb => by rw [← hl1, ← hl2]; exact same_any C D a1 _ cap1 a2 _ cap2 W (hr1.next hb) (hr2.next hb)
  have KB : Hid (∀ W z a cap, Below w.heap.size w W → z = C → Row W a z.d.length z.d → Calls Try.prog 18 #[z.v a len1 cap, C.v a1 len1 cap1] W fun r w' => r = .returned (.bool true) ∧ ∃ o1 o2, w' = (W.alloc o1).alloc o2) := fun W z a cap hb hz hr => by
    subst hz
    have := same_any z z a len1 cap a1 len1 cap1 W (by rw [← hl1]; exact hr) (by rw [← hl1]; exact hr1.next hb)
    rw [decide_eq_true rfl] at this
    exact this
  rw [hl1, hl2]
  obtain ⟨xa0, xa1, xa2, xa3, xa4, xa5, xa6, xa7, ca, PA, ha⟩ := bgen (askP C)
  obtain ⟨xb0, xb1, xb2, xb3, xb4, xb5, xb6, xb7, cb, PB, hb'⟩ := bgen (askP D)
  obtain ⟨xc0, xc1, xc2, xc3, xc4, xc5, xc6, xc7, cc, PC, hc'⟩ := bgen (ansP C)
  obtain ⟨xd0, xd1, xd2, xd3, xd4, xd5, xd6, xd7, cd, PD, hd'⟩ := bgen (ansP D)
  have HPA : Hid _ := PA
  have HPB : Hid _ := PB
  have HPC : Hid _ := PC
  have HPD : Hid _ := PD
  have QA : Hid ((askP C = some ⟨xa0, xa1, xa2, xa3, xa4, xa5, xa6, xa7⟩ ∧ ca = 0) ∨ (askP C = none ∧ ca = 2)) := ha
  have QB : Hid ((askP D = some ⟨xb0, xb1, xb2, xb3, xb4, xb5, xb6, xb7⟩ ∧ cb = 0) ∨ (askP D = none ∧ cb = 2)) := hb'
  have QC : Hid ((ansP C = some ⟨xc0, xc1, xc2, xc3, xc4, xc5, xc6, xc7⟩ ∧ cc = 0) ∨ (ansP C = none ∧ cc = 2)) := hc'
  have QD : Hid ((ansP D = some ⟨xd0, xd1, xd2, xd3, xd4, xd5, xd6, xd7⟩ ∧ cd = 0) ∨ (ansP D = none ∧ cd = 2)) := hd'
  clear PA PB PC PD ha hb' hc' hd'
  obtain ⟨SM, hSM⟩ : ∃ SM, decide (C = D) = SM := ⟨_, rfl⟩
  rw [hSM] at KS
  have I1 : Hid (askP C = some ⟨xa0, xa1, xa2, xa3, xa4, xa5, xa6, xa7⟩ → askP D = some ⟨xb0, xb1, xb2, xb3, xb4, xb5, xb6, xb7⟩ → same8 xa0 xa1 xa2 xa3 xa4 xa5 xa6 xa7 xb0 xb1 xb2 xb3 xb4 xb5 xb6 xb7 = SM) := fun h1 h2 => by rw [← hSM, ← askP_inj C D okC okD _ _ h1 h2]; exact same8_iff ⟨xa0, xa1, xa2, xa3, xa4, xa5, xa6, xa7⟩ ⟨xb0, xb1, xb2, xb3, xb4, xb5, xb6, xb7⟩
  have I2 : Hid (ansP C = some ⟨xc0, xc1, xc2, xc3, xc4, xc5, xc6, xc7⟩ → ansP D = some ⟨xd0, xd1, xd2, xd3, xd4, xd5, xd6, xd7⟩ → same8 xc0 xc1 xc2 xc3 xc4 xc5 xc6 xc7 xd0 xd1 xd2 xd3 xd4 xd5 xd6 xd7 = SM) := fun h1 h2 => by rw [← hSM, ← ansP_inj C D okC okD _ _ h1 h2]; exact same8_iff ⟨xc0, xc1, xc2, xc3, xc4, xc5, xc6, xc7⟩ ⟨xd0, xd1, xd2, xd3, xd4, xd5, xd6, xd7⟩
  have J1 : Hid (∀ W, askP C = some ⟨xa0, xa1, xa2, xa3, xa4, xa5, xa6, xa7⟩ → Calls Try.prog 15 #[arr8 xa0 xa1 xa2 xa3 xa4 xa5 xa6 xa7] W (CPost W (some C))) := fun W h => by have := asked_any ⟨xa0, xa1, xa2, xa3, xa4, xa5, xa6, xa7⟩ (ask_back C okC _ h).2 W; rw [askedP_back C okC _ h] at this; exact this
  have J2 : Hid (∀ W, ansP C = some ⟨xc0, xc1, xc2, xc3, xc4, xc5, xc6, xc7⟩ → Calls Try.prog 17 #[arr8 xc0 xc1 xc2 xc3 xc4 xc5 xc6 xc7] W (CPost W (some C))) := fun W h => by have := answered_any ⟨xc0, xc1, xc2, xc3, xc4, xc5, xc6, xc7⟩ (ans_back C okC _ h).2 W; rw [answeredP_back C okC _ h] at this; exact this
  obtain ⟨O1, qO1⟩ : ∃ O1, askedP y = O1 := ⟨_, rfl⟩
  obtain ⟨O2, qO2⟩ : ∃ O2, answeredP y = O2 := ⟨_, rfl⟩
  have M1 : Hid (∀ W, Calls Try.prog 15 #[arr8 y.b0 y.b1 y.b2 y.b3 y.b4 y.b5 y.b6 y.b7] W (CPost W O1)) := fun W => qO1 ▸ asked_any y oky W
  have M2 : Hid (∀ W, Calls Try.prog 17 #[arr8 y.b0 y.b1 y.b2 y.b3 y.b4 y.b5 y.b6 y.b7] W (CPost W O2)) := fun W => qO2 ▸ answered_any y oky W
  have N1 : Hid (∀ W z a cap, O1 = some z → Row W a z.d.length z.d → Calls Try.prog 9 #[z.v a z.d.length cap] W (BPost W (some y))) := fun W z a cap h hr => by
    have e := askP_of y z (qO1.trans h)
    have := ask_any z (e.2 ▸ askR_ok y oky) a cap W hr
    rw [e.1] at this; exact this
  have N2 : Hid (∀ W z a cap, O2 = some z → Row W a z.d.length z.d → Calls Try.prog 12 #[z.v a z.d.length cap] W (BPost W (some y))) := fun W z a cap h hr => by
    have e := ansP_of y z (qO2.trans h)
    have := answer_any z (e.2 ▸ ansR_ok y oky) a cap W hr
    rw [e.1] at this; exact this
  have hlen1 : Hid (C.d.length = len1) := hl1
  clear hl1 hl2 okC okD oky hr1 hr2 hSM qO1 qO2
  obtain ⟨k1, i1, s1, z1, n1, q1, d1, t1, l1, c1, b1, e1, u1, m1, o1⟩ := C
  obtain ⟨k2, i2, s2, z2, n2, q2, d2, t2, l2, c2, b2, e2, u2, m2, o2⟩ := D
  obtain ⟨y0, y1, y2, y3, y4, y5, y6, y7⟩ := y
  dsimp only at *
  by_cases hg1 : 100 < (len1 : Int)
  · go_enter Try.func5, Try.ntmps5
    go_wp2_with fail
    go_ret
    exact ⟨rfl, (by repeat (first | exact Below.refl _ _ | apply Below.drew | apply Below.al))⟩
  by_cases hg2 : 100 < (len2 : Int)
  · go_enter Try.func5, Try.ntmps5
    go_wp2_with fail
    go_ret
    exact ⟨rfl, (by repeat (first | exact Below.refl _ _ | apply Below.drew | apply Below.al))⟩
  have hq8 := eql8
  have hn8 := neq8
  go_enter Try.func5, Try.ntmps5
  go_wp2_with fail
  with_reducible refine (K1.out _ (by repeat (first | exact Below.refl _ _ | apply Below.drew | apply Below.al))).mono ?_
  intro r w1 hpp
  obtain ⟨rfl, hbb⟩ := HPA.out _ _ _ hpp
  clear hpp
  have B1 : Hid (Below w.heap.size w w1) := Below.andThen (by repeat (first | exact Below.refl _ _ | apply Below.drew | apply Below.al)) hbb
  have GC1 : w1.heap[w.heap.size]? = some (.cells (cmC k1 i1 s1 z1 n1 q1 a1 len1 cap1 t1 l1 c1 b1 e1 u1 m1 o1) 29 (0, 0)) := (hbb.block _ (by first | (simp; done) | (simp; omega))).trans (by repeat (first | exact heap_at _ _ _ (by simp) | rw [heap_drew] | rw [Below.heap_alloc _ _ _ (by first | (simp; done) | (simp; omega))]))
  have GD1 : w1.heap[w.heap.size + 1]? = some (.cells (cmC k2 i2 s2 z2 n2 q2 a2 len2 cap2 t2 l2 c2 b2 e2 u2 m2 o2) 29 (0, 0)) := (hbb.block _ (by first | (simp; done) | (simp; omega))).trans (by repeat (first | exact heap_at _ _ _ (by simp) | rw [heap_drew] | rw [Below.heap_alloc _ _ _ (by first | (simp; done) | (simp; omega))]))
  have GY1 : w1.heap[w.heap.size + 1 + 1]? = some (.cells (ar8 y0 y1 y2 y3 y4 y5 y6 y7) 31 (0, 0)) := (hbb.block _ (by first | (simp; done) | (simp; omega))).trans (by repeat (first | exact heap_at _ _ _ (by simp) | rw [heap_drew] | rw [Below.heap_alloc _ _ _ (by first | (simp; done) | (simp; omega))]))
  have szGC1 : w.heap.size < w1.heap.size := (Array.getElem?_eq_some_iff.1 GC1).1
  have szGD1 : w.heap.size + 1 < w1.heap.size := (Array.getElem?_eq_some_iff.1 GD1).1
  have szGY1 : w.heap.size + 1 + 1 < w1.heap.size := (Array.getElem?_eq_some_iff.1 GY1).1
  have r0 : w1.cell? ⟨w.heap.size + 1, 0, none⟩ = some (.int .u8 k2) := by rw [cell_of_row w1 _ 0 _ _ _ GD1]; rfl
  have r1 : w1.cell? ⟨w.heap.size + 1, 1, none⟩ = some (.int .u16 i2) := by rw [cell_of_row w1 _ 1 _ _ _ GD1]; rfl
  have r2 : w1.cell? ⟨w.heap.size + 1, 2, none⟩ = some (.int .u8 s2) := by rw [cell_of_row w1 _ 2 _ _ _ GD1]; rfl
  have r3 : w1.cell? ⟨w.heap.size + 1, 3, none⟩ = some (.bool z2) := by rw [cell_of_row w1 _ 3 _ _ _ GD1]; rfl
  have r4 : w1.cell? ⟨w.heap.size + 1, 4, none⟩ = some (.int .u32 n2) := by rw [cell_of_row w1 _ 4 _ _ _ GD1]; rfl
  have r5 : w1.cell? ⟨w.heap.size + 1, 5, none⟩ = some (.bool q2) := by rw [cell_of_row w1 _ 5 _ _ _ GD1]; rfl
  have r6 : w1.cell? ⟨w.heap.size + 1, 6, none⟩ = some (.slice a2 len2 cap2) := by rw [cell_of_row w1 _ 6 _ _ _ GD1]; rfl
  have r7 : w1.cell? ⟨w.heap.size + 1, 7, none⟩ = some (.bool t2) := by rw [cell_of_row w1 _ 7 _ _ _ GD1]; rfl
  have r8 : w1.cell? ⟨w.heap.size + 1, 8, none⟩ = some (.bool l2) := by rw [cell_of_row w1 _ 8 _ _ _ GD1]; rfl
  have r9 : w1.cell? ⟨w.heap.size + 1, 9, none⟩ = some (.bool c2) := by rw [cell_of_row w1 _ 9 _ _ _ GD1]; rfl
  have r10 : w1.cell? ⟨w.heap.size + 1, 10, none⟩ = some (.int .i64 b2) := by rw [cell_of_row w1 _ 10 _ _ _ GD1]; rfl
  have r11 : w1.cell? ⟨w.heap.size + 1, 11, none⟩ = some (.int .i64 e2) := by rw [cell_of_row w1 _ 11 _ _ _ GD1]; rfl
  have r12 : w1.cell? ⟨w.heap.size + 1, 12, none⟩ = some (.int .u16 u2) := by rw [cell_of_row w1 _ 12 _ _ _ GD1]; rfl
  have r13 : w1.cell? ⟨w.heap.size + 1, 13, none⟩ = some (.int .i64 m2) := by rw [cell_of_row w1 _ 13 _ _ _ GD1]; rfl
  have r14 : w1.cell? ⟨w.heap.size + 1, 14, none⟩ = some (.int .u32 o2) := by rw [cell_of_row w1 _ 14 _ _ _ GD1]; rfl
  clear hbb
  go_wp2_with fail
  clear r0 r1 r2 r3 r4 r5 r6 r7 r8 r9 r10 r11 r12 r13 r14
  with_reducible refine (K2.out _ (Below.al B1.out _)).mono ?_
  intro r w2 hpp
  obtain ⟨rfl, hbb⟩ := HPB.out _ _ _ hpp
  clear hpp
  have B2 : Hid (Below w.heap.size w w2) := Below.andThen (Below.al B1.out _) hbb
  have GC2 : w2.heap[w.heap.size]? = some (.cells (cmC k1 i1 s1 z1 n1 q1 a1 len1 cap1 t1 l1 c1 b1 e1 u1 m1 o1) 29 (0, 0)) := (hbb.block _ (by simp; omega)).trans ((Below.heap_alloc _ _ _ (Array.getElem?_eq_some_iff.1 GC1).1).trans GC1)
  have GD2 : w2.heap[w.heap.size + 1]? = some (.cells (cmC k2 i2 s2 z2 n2 q2 a2 len2 cap2 t2 l2 c2 b2 e2 u2 m2 o2) 29 (0, 0)) := (hbb.block _ (by simp; omega)).trans ((Below.heap_alloc _ _ _ (Array.getElem?_eq_some_iff.1 GD1).1).trans GD1)
  have GY2 : w2.heap[w.heap.size + 1 + 1]? = some (.cells (ar8 y0 y1 y2 y3 y4 y5 y6 y7) 31 (0, 0)) := (hbb.block _ (by simp; omega)).trans ((Below.heap_alloc _ _ _ (Array.getElem?_eq_some_iff.1 GY1).1).trans GY1)
  have Gxa2 : w2.heap[w1.heap.size]? = some (.cells (ar8 xa0 xa1 xa2 xa3 xa4 xa5 xa6 xa7) 31 (0, 0)) := (hbb.block _ (by simp)).trans (heap_new _ _)
  clear GC1 GD1 GY1
  have szGC2 : w.heap.size < w2.heap.size := (Array.getElem?_eq_some_iff.1 GC2).1
  have szGD2 : w.heap.size + 1 < w2.heap.size := (Array.getElem?_eq_some_iff.1 GD2).1
  have szGY2 : w.heap.size + 1 + 1 < w2.heap.size := (Array.getElem?_eq_some_iff.1 GY2).1
  have szGxa2 : w1.heap.size < w2.heap.size := (Array.getElem?_eq_some_iff.1 Gxa2).1
  have r0 : w2.cell? ⟨w.heap.size, 0, none⟩ = some (.int .u8 k1) := by rw [cell_of_row w2 _ 0 _ _ _ GC2]; rfl
  have r1 : w2.cell? ⟨w.heap.size, 1, none⟩ = some (.int .u16 i1) := by rw [cell_of_row w2 _ 1 _ _ _ GC2]; rfl
  have r2 : w2.cell? ⟨w.heap.size, 2, none⟩ = some (.int .u8 s1) := by rw [cell_of_row w2 _ 2 _ _ _ GC2]; rfl
  have r3 : w2.cell? ⟨w.heap.size, 3, none⟩ = some (.bool z1) := by rw [cell_of_row w2 _ 3 _ _ _ GC2]; rfl
  have r4 : w2.cell? ⟨w.heap.size, 4, none⟩ = some (.int .u32 n1) := by rw [cell_of_row w2 _ 4 _ _ _ GC2]; rfl
  have r5 : w2.cell? ⟨w.heap.size, 5, none⟩ = some (.bool q1) := by rw [cell_of_row w2 _ 5 _ _ _ GC2]; rfl
  have r6 : w2.cell? ⟨w.heap.size, 6, none⟩ = some (.slice a1 len1 cap1) := by rw [cell_of_row w2 _ 6 _ _ _ GC2]; rfl
  have r7 : w2.cell? ⟨w.heap.size, 7, none⟩ = some (.bool t1) := by rw [cell_of_row w2 _ 7 _ _ _ GC2]; rfl
  have r8 : w2.cell? ⟨w.heap.size, 8, none⟩ = some (.bool l1) := by rw [cell_of_row w2 _ 8 _ _ _ GC2]; rfl
  have r9 : w2.cell? ⟨w.heap.size, 9, none⟩ = some (.bool c1) := by rw [cell_of_row w2 _ 9 _ _ _ GC2]; rfl
  have r10 : w2.cell? ⟨w.heap.size, 10, none⟩ = some (.int .i64 b1) := by rw [cell_of_row w2 _ 10 _ _ _ GC2]; rfl
  have r11 : w2.cell? ⟨w.heap.size, 11, none⟩ = some (.int .i64 e1) := by rw [cell_of_row w2 _ 11 _ _ _ GC2]; rfl
  have r12 : w2.cell? ⟨w.heap.size, 12, none⟩ = some (.int .u16 u1) := by rw [cell_of_row w2 _ 12 _ _ _ GC2]; rfl
  have r13 : w2.cell? ⟨w.heap.size, 13, none⟩ = some (.int .i64 m1) := by rw [cell_of_row w2 _ 13 _ _ _ GC2]; rfl
  have r14 : w2.cell? ⟨w.heap.size, 14, none⟩ = some (.int .u32 o1) := by rw [cell_of_row w2 _ 14 _ _ _ GC2]; rfl
  clear hbb
  go_wp2_with fail
  clear r0 r1 r2 r3 r4 r5 r6 r7 r8 r9 r10 r11 r12 r13 r14
  with_reducible refine (K3.out _ (Below.al B2.out _)).mono ?_
  intro r w3 hpp
  obtain ⟨rfl, hbb⟩ := HPC.out _ _ _ hpp
  clear hpp
  have B3 : Hid (Below w.heap.size w w3) := Below.andThen (Below.al B2.out _) hbb
  have GC3 : w3.heap[w.heap.size]? = some (.cells (cmC k1 i1 s1 z1 n1 q1 a1 len1 cap1 t1 l1 c1 b1 e1 u1 m1 o1) 29 (0, 0)) := (hbb.block _ (by simp; omega)).trans ((Below.heap_alloc _ _ _ (Array.getElem?_eq_some_iff.1 GC2).1).trans GC2)
  have GD3 : w3.heap[w.heap.size + 1]? = some (.cells (cmC k2 i2 s2 z2 n2 q2 a2 len2 cap2 t2 l2 c2 b2 e2 u2 m2 o2) 29 (0, 0)) := (hbb.block _ (by simp; omega)).trans ((Below.heap_alloc _ _ _ (Array.getElem?_eq_some_iff.1 GD2).1).trans GD2)
  have GY3 : w3.heap[w.heap.size + 1 + 1]? = some (.cells (ar8 y0 y1 y2 y3 y4 y5 y6 y7) 31 (0, 0)) := (hbb.block _ (by simp; omega)).trans ((Below.heap_alloc _ _ _ (Array.getElem?_eq_some_iff.1 GY2).1).trans GY2)
  have Gxa3 : w3.heap[w1.heap.size]? = some (.cells (ar8 xa0 xa1 xa2 xa3 xa4 xa5 xa6 xa7) 31 (0, 0)) := (hbb.block _ (by simp; omega)).trans ((Below.heap_alloc _ _ _ (Array.getElem?_eq_some_iff.1 Gxa2).1).trans Gxa2)
  have Gxb3 : w3.heap[w2.heap.size]? = some (.cells (ar8 xb0 xb1 xb2 xb3 xb4 xb5 xb6 xb7) 31 (0, 0)) := (hbb.block _ (by simp)).trans (heap_new _ _)
  clear GC2 GD2 GY2 Gxa2
  have szGC3 : w.heap.size < w3.heap.size := (Array.getElem?_eq_some_iff.1 GC3).1
  have szGD3 : w.heap.size + 1 < w3.heap.size := (Array.getElem?_eq_some_iff.1 GD3).1
  have szGY3 : w.heap.size + 1 + 1 < w3.heap.size := (Array.getElem?_eq_some_iff.1 GY3).1
  have szGxa3 : w1.heap.size < w3.heap.size := (Array.getElem?_eq_some_iff.1 Gxa3).1
  have szGxb3 : w2.heap.size < w3.heap.size := (Array.getElem?_eq_some_iff.1 Gxb3).1
  have r0 : w3.cell? ⟨w.heap.size + 1, 0, none⟩ = some (.int .u8 k2) := by rw [cell_of_row w3 _ 0 _ _ _ GD3]; rfl
  have r1 : w3.cell? ⟨w.heap.size + 1, 1, none⟩ = some (.int .u16 i2) := by rw [cell_of_row w3 _ 1 _ _ _ GD3]; rfl
  have r2 : w3.cell? ⟨w.heap.size + 1, 2, none⟩ = some (.int .u8 s2) := by rw [cell_of_row w3 _ 2 _ _ _ GD3]; rfl
  have r3 : w3.cell? ⟨w.heap.size + 1, 3, none⟩ = some (.bool z2) := by rw [cell_of_row w3 _ 3 _ _ _ GD3]; rfl
  have r4 : w3.cell? ⟨w.heap.size + 1, 4, none⟩ = some (.int .u32 n2) := by rw [cell_of_row w3 _ 4 _ _ _ GD3]; rfl
  have r5 : w3.cell? ⟨w.heap.size + 1, 5, none⟩ = some (.bool q2) := by rw [cell_of_row w3 _ 5 _ _ _ GD3]; rfl
  have r6 : w3.cell? ⟨w.heap.size + 1, 6, none⟩ = some (.slice a2 len2 cap2) := by rw [cell_of_row w3 _ 6 _ _ _ GD3]; rfl
  have r7 : w3.cell? ⟨w.heap.size + 1, 7, none⟩ = some (.bool t2) := by rw [cell_of_row w3 _ 7 _ _ _ GD3]; rfl
  have r8 : w3.cell? ⟨w.heap.size + 1, 8, none⟩ = some (.bool l2) := by rw [cell_of_row w3 _ 8 _ _ _ GD3]; rfl
  have r9 : w3.cell? ⟨w.heap.size + 1, 9, none⟩ = some (.bool c2) := by rw [cell_of_row w3 _ 9 _ _ _ GD3]; rfl
  have r10 : w3.cell? ⟨w.heap.size + 1, 10, none⟩ = some (.int .i64 b2) := by rw [cell_of_row w3 _ 10 _ _ _ GD3]; rfl
  have r11 : w3.cell? ⟨w.heap.size + 1, 11, none⟩ = some (.int .i64 e2) := by rw [cell_of_row w3 _ 11 _ _ _ GD3]; rfl
  have r12 : w3.cell? ⟨w.heap.size + 1, 12, none⟩ = some (.int .u16 u2) := by rw [cell_of_row w3 _ 12 _ _ _ GD3]; rfl
  have r13 : w3.cell? ⟨w.heap.size + 1, 13, none⟩ = some (.int .i64 m2) := by rw [cell_of_row w3 _ 13 _ _ _ GD3]; rfl
  have r14 : w3.cell? ⟨w.heap.size + 1, 14, none⟩ = some (.int .u32 o2) := by rw [cell_of_row w3 _ 14 _ _ _ GD3]; rfl
  clear hbb
  go_wp2_with fail
  clear r0 r1 r2 r3 r4 r5 r6 r7 r8 r9 r10 r11 r12 r13 r14
  with_reducible refine (K4.out _ (Below.al B3.out _)).mono ?_
  intro r w4 hpp
  obtain ⟨rfl, hbb⟩ := HPD.out _ _ _ hpp
  clear hpp
  have B4 : Hid (Below w.heap.size w w4) := Below.andThen (Below.al B3.out _) hbb
  have GC4 : w4.heap[w.heap.size]? = some (.cells (cmC k1 i1 s1 z1 n1 q1 a1 len1 cap1 t1 l1 c1 b1 e1 u1 m1 o1) 29 (0, 0)) := (hbb.block _ (by simp; omega)).trans ((Below.heap_alloc _ _ _ (Array.getElem?_eq_some_iff.1 GC3).1).trans GC3)
  have GD4 : w4.heap[w.heap.size + 1]? = some (.cells (cmC k2 i2 s2 z2 n2 q2 a2 len2 cap2 t2 l2 c2 b2 e2 u2 m2 o2) 29 (0, 0)) := (hbb.block _ (by simp; omega)).trans ((Below.heap_alloc _ _ _ (Array.getElem?_eq_some_iff.1 GD3).1).trans GD3)
  have GY4 : w4.heap[w.heap.size + 1 + 1]? = some (.cells (ar8 y0 y1 y2 y3 y4 y5 y6 y7) 31 (0, 0)) := (hbb.block _ (by simp; omega)).trans ((Below.heap_alloc _ _ _ (Array.getElem?_eq_some_iff.1 GY3).1).trans GY3)
  have Gxa4 : w4.heap[w1.heap.size]? = some (.cells (ar8 xa0 xa1 xa2 xa3 xa4 xa5 xa6 xa7) 31 (0, 0)) := (hbb.block _ (by simp; omega)).trans ((Below.heap_alloc _ _ _ (Array.getElem?_eq_some_iff.1 Gxa3).1).trans Gxa3)
  have Gxb4 : w4.heap[w2.heap.size]? = some (.cells (ar8 xb0 xb1 xb2 xb3 xb4 xb5 xb6 xb7) 31 (0, 0)) := (hbb.block _ (by simp; omega)).trans ((Below.heap_alloc _ _ _ (Array.getElem?_eq_some_iff.1 Gxb3).1).trans Gxb3)
  have Gxc4 : w4.heap[w3.heap.size]? = some (.cells (ar8 xc0 xc1 xc2 xc3 xc4 xc5 xc6 xc7) 31 (0, 0)) := (hbb.block _ (by simp)).trans (heap_new _ _)
  clear GC3 GD3 GY3 Gxa3 Gxb3
  have szGC4 : w.heap.size < w4.heap.size := (Array.getElem?_eq_some_iff.1 GC4).1
  have szGD4 : w.heap.size + 1 < w4.heap.size := (Array.getElem?_eq_some_iff.1 GD4).1
  have szGY4 : w.heap.size + 1 + 1 < w4.heap.size := (Array.getElem?_eq_some_iff.1 GY4).1
  have szGxa4 : w1.heap.size < w4.heap.size := (Array.getElem?_eq_some_iff.1 Gxa4).1
  have szGxb4 : w2.heap.size < w4.heap.size := (Array.getElem?_eq_some_iff.1 Gxb4).1
  have szGxc4 : w3.heap.size < w4.heap.size := (Array.getElem?_eq_some_iff.1 Gxc4).1
  clear hbb
  have B4' := B4.out
  go_wp2_with fail
  refine wp_region_held_drew (S := fun x => Below w.heap.size w x ∧ x.heap[w.heap.size]? = some (.cells (cmC k1 i1 s1 z1 n1 q1 a1 len1 cap1 t1 l1 c1 b1 e1 u1 m1 o1) 29 (0, 0)) ∧ x.heap[w.heap.size + 1]? = some (.cells (cmC k2 i2 s2 z2 n2 q2 a2 len2 cap2 t2 l2 c2 b2 e2 u2 m2 o2) 29 (0, 0))) (by kernel_rfl) (⟨Below.drew (Below.al B4' _), (heap_drew _ _).trans (ext_al GC4), (heap_drew _ _).trans (ext_al GD4)⟩) (fun hHeld => ?_)
  obtain ⟨hW, hB, hD⟩ := id hHeld
  refine wpAnyH_take (i := 0) (v := (cmV k1 i1 s1 z1 n1 q1 a1 len1 cap1 t1 l1 c1 b1 e1 u1 m1 o1)) rfl (by kernel_rfl) (by kernel_rfl) (by kernel_rfl) (fun _ _ _ h => h) (Or.inl ⟨by rfl, ?_⟩) (by assumption) ?_
  · intro w9 hSw
    try dsimp only at hSw
    exact ex_load 29 (.tmp 3) rfl _ _ rfl (loadCM _ _ _ _ _ _ _ _ _ _ _ _ _ _ _ _ _ _ _ _ hSw.2.1)
  try simp only [Act.put, List.getElem_toArray, List.getElem_cons_succ, List.getElem_cons_zero, List.setIfInBounds_toArray, List.set_cons_zero, List.set_cons_succ]
  refine wpAnyH_take (i := 2) (v := (cmV k2 i2 s2 z2 n2 q2 a2 len2 cap2 t2 l2 c2 b2 e2 u2 m2 o2)) rfl (by kernel_rfl) (by kernel_rfl) (by kernel_rfl) (fun _ _ _ h => h) (Or.inl ⟨by rfl, ?_⟩) (by assumption) ?_
  · intro w9 hSw
    try dsimp only at hSw
    exact ex_load 29 (.tmp 4) rfl _ _ rfl (loadCM _ _ _ _ _ _ _ _ _ _ _ _ _ _ _ _ _ _ _ _ hSw.2.2)
  try simp only [Act.put, List.getElem_toArray, List.getElem_cons_succ, List.getElem_cons_zero, List.setIfInBounds_toArray, List.set_cons_zero, List.set_cons_succ]
  refine wpAnyH_ready (rs := [1]) (by kernel_rfl) (by simp) ?_
  refine AllReadyH.cons rfl (fun K' hK => ?_) AllReadyH.nil
  rw [if_pos (by rfl)]
  simp only [List.getElem_toArray, List.getElem_cons_succ, List.getElem_cons_zero]
  go_wp2_with fail
  refine (ref_any k1 i1 s1 z1 n1 q1 a1 len1 cap1 t1 l1 c1 b1 e1 u1 m1 o1 _).mono ?_
  rintro r ww1 ⟨rfl, ob1, ob2, rfl⟩
  try go_wp2_with fail
  refine hK.out _ _ (⟨Below.al (Below.al hW _) _, ext_al (ext_al hB), ext_al (ext_al hD)⟩) (fun hHeld => ?_)
  clear hK K'
  try simp only [Act.put, List.getElem_toArray, List.getElem_cons_succ, List.getElem_cons_zero, List.setIfInBounds_toArray, List.set_cons_zero, List.set_cons_succ]
  clear hW hB hD
  obtain ⟨hW, hB, hD⟩ := id hHeld
  refine wpAnyH_ready (rs := [3]) (by kernel_rfl) (by simp) ?_
  refine AllReadyH.cons rfl (fun K' hK => ?_) AllReadyH.nil
  rw [if_pos (by rfl)]
  simp only [List.getElem_toArray, List.getElem_cons_succ, List.getElem_cons_zero]
  go_wp2_with fail
  refine (ref_any k2 i2 s2 z2 n2 q2 a2 len2 cap2 t2 l2 c2 b2 e2 u2 m2 o2 _).mono ?_
  rintro r ww2 ⟨rfl, ob3, ob4, rfl⟩
  try go_wp2_with fail
  refine hK.out _ _ (⟨Below.al (Below.al hW _) _, ext_al (ext_al hB), ext_al (ext_al hD)⟩) (fun hHeld => ?_)
  clear hK K'
  try simp only [Act.put, List.getElem_toArray, List.getElem_cons_succ, List.getElem_cons_zero, List.setIfInBounds_toArray, List.set_cons_zero, List.set_cons_succ]
  clear hW hB hD
  obtain ⟨hW, hB, hD⟩ := id hHeld
  refine wpAnyH_ready (rs := [4]) (by kernel_rfl) (by simp) ?_
  refine AllReadyH.cons rfl (fun K' hK => ?_) AllReadyH.nil
  rw [if_pos (by rfl)]
  simp only [List.getElem_toArray, List.getElem_cons_succ, List.getElem_cons_zero]
  go_wp2_with fail
  refine (KS.out _ hW).mono ?_
  rintro r ww3 ⟨rfl, ob5, ob6, rfl⟩
  try go_wp2_with fail
  refine hK.out _ _ (⟨Below.al (Below.al hW _) _, ext_al (ext_al hB), ext_al (ext_al hD)⟩) (fun hHeld => ?_)
  clear hK K'
  try simp only [Act.put, List.getElem_toArray, List.getElem_cons_succ, List.getElem_cons_zero, List.setIfInBounds_toArray, List.set_cons_zero, List.set_cons_succ]
  clear hW hB hD
  obtain ⟨hW, hB, hD⟩ := id hHeld
  refine wpAnyH_take (i := 5) (v := (.bool SM)) rfl (by kernel_rfl) (by kernel_rfl) (by kernel_rfl) (fun _ _ _ h => h) (Or.inl ⟨by rfl, ?_⟩) (by assumption) ?_
  · intro w9 hSw
    try dsimp only at hSw
    go_simp
    all_goals try decide
    all_goals try assumption
    all_goals try omega
  try simp only [Act.put, List.getElem_toArray, List.getElem_cons_succ, List.getElem_cons_zero, List.setIfInBounds_toArray, List.set_cons_zero, List.set_cons_succ]
  refine wpAnyH_done (by kernel_rfl) ?_ _
  have Hxa : Hid ((((((((w4.alloc (.cells (ar8 xd0 xd1 xd2 xd3 xd4 xd5 xd6 xd7) 31)).alloc ob1).alloc ob2).alloc ob3).alloc ob4).alloc ob5).alloc ob6).drew.heap[w1.heap.size]? = some (.cells (ar8 xa0 xa1 xa2 xa3 xa4 xa5 xa6 xa7) 31 (0, 0))) := (heap_drew _ _).trans (ext_al (ext_al (ext_al (ext_al (ext_al (ext_al (ext_al Gxa4)))))))
  have Hxb : Hid ((((((((w4.alloc (.cells (ar8 xd0 xd1 xd2 xd3 xd4 xd5 xd6 xd7) 31)).alloc ob1).alloc ob2).alloc ob3).alloc ob4).alloc ob5).alloc ob6).drew.heap[w2.heap.size]? = some (.cells (ar8 xb0 xb1 xb2 xb3 xb4 xb5 xb6 xb7) 31 (0, 0))) := (heap_drew _ _).trans (ext_al (ext_al (ext_al (ext_al (ext_al (ext_al (ext_al Gxb4)))))))
  have Hxc : Hid ((((((((w4.alloc (.cells (ar8 xd0 xd1 xd2 xd3 xd4 xd5 xd6 xd7) 31)).alloc ob1).alloc ob2).alloc ob3).alloc ob4).alloc ob5).alloc ob6).drew.heap[w3.heap.size]? = some (.cells (ar8 xc0 xc1 xc2 xc3 xc4 xc5 xc6 xc7) 31 (0, 0))) := (heap_drew _ _).trans (ext_al (ext_al (ext_al (ext_al (ext_al (ext_al (ext_al Gxc4)))))))
  have Hxd : Hid ((((((((w4.alloc (.cells (ar8 xd0 xd1 xd2 xd3 xd4 xd5 xd6 xd7) 31)).alloc ob1).alloc ob2).alloc ob3).alloc ob4).alloc ob5).alloc ob6).drew.heap[w4.heap.size]? = some (.cells (ar8 xd0 xd1 xd2 xd3 xd4 xd5 xd6 xd7) 31 (0, 0))) := (heap_drew _ _).trans (ext_al (ext_al (ext_al (ext_al (ext_al (ext_al (heap_new _ _)))))))
  have ZB : Hid (Below w.heap.size w (((((((w4.alloc (.cells (ar8 xd0 xd1 xd2 xd3 xd4 xd5 xd6 xd7) 31)).alloc ob1).alloc ob2).alloc ob3).alloc ob4).alloc ob5).alloc ob6).drew) := (Below.drew (Below.al (Below.al (Below.al (Below.al (Below.al (Below.al (Below.al B4' _) _) _) _) _) _) _))
  have ZGC : Hid ((((((((w4.alloc (.cells (ar8 xd0 xd1 xd2 xd3 xd4 xd5 xd6 xd7) 31)).alloc ob1).alloc ob2).alloc ob3).alloc ob4).alloc ob5).alloc ob6).drew.heap[w.heap.size]? = some (.cells (cmC k1 i1 s1 z1 n1 q1 a1 len1 cap1 t1 l1 c1 b1 e1 u1 m1 o1) 29 (0, 0))) := ((heap_drew _ _).trans (ext_al (ext_al (ext_al (ext_al (ext_al (ext_al (ext_al GC4))))))))
  have ZGY : Hid ((((((((w4.alloc (.cells (ar8 xd0 xd1 xd2 xd3 xd4 xd5 xd6 xd7) 31)).alloc ob1).alloc ob2).alloc ob3).alloc ob4).alloc ob5).alloc ob6).drew.heap[w.heap.size + 1 + 1]? = some (.cells (ar8 y0 y1 y2 y3 y4 y5 y6 y7) 31 (0, 0))) := ((heap_drew _ _).trans (ext_al (ext_al (ext_al (ext_al (ext_al (ext_al (ext_al GY4))))))))
  have ZGxa : Hid ((((((((w4.alloc (.cells (ar8 xd0 xd1 xd2 xd3 xd4 xd5 xd6 xd7) 31)).alloc ob1).alloc ob2).alloc ob3).alloc ob4).alloc ob5).alloc ob6).drew.heap[w1.heap.size]? = some (.cells (ar8 xa0 xa1 xa2 xa3 xa4 xa5 xa6 xa7) 31 (0, 0))) := ((heap_drew _ _).trans (ext_al (ext_al (ext_al (ext_al (ext_al (ext_al (ext_al Gxa4))))))))
  have ZGxc : Hid ((((((((w4.alloc (.cells (ar8 xd0 xd1 xd2 xd3 xd4 xd5 xd6 xd7) 31)).alloc ob1).alloc ob2).alloc ob3).alloc ob4).alloc ob5).alloc ob6).drew.heap[w3.heap.size]? = some (.cells (ar8 xc0 xc1 xc2 xc3 xc4 xc5 xc6 xc7) 31 (0, 0))) := ((heap_drew _ _).trans (ext_al (ext_al (ext_al (ext_al (ext_al (ext_al (ext_al Gxc4))))))))
  go_upto_region 8 with fail
  go_cut [88] from 16 (fun s88 wx => s88 = .bool false ∧ Hid (Below w.heap.size w wx) ∧ Hid (wx.heap[w.heap.size]? = some (.cells (cmC k1 i1 s1 z1 n1 q1 a1 len1 cap1 t1 l1 c1 b1 e1 u1 m1 o1) 29 (0, 0))) ∧ Hid (wx.heap[w.heap.size + 1 + 1]? = some (.cells (ar8 y0 y1 y2 y3 y4 y5 y6 y7) 31 (0, 0))) ∧ Hid (wx.heap[w1.heap.size]? = some (.cells (ar8 xa0 xa1 xa2 xa3 xa4 xa5 xa6 xa7) 31 (0, 0))) ∧ Hid (wx.heap[w3.heap.size]? = some (.cells (ar8 xc0 xc1 xc2 xc3 xc4 xc5 xc6 xc7) 31 (0, 0))))
  case first =>
    rcases QA.out with ⟨oa, rfl⟩ | ⟨oa, rfl⟩ <;> rcases QB.out with ⟨ob, rfl⟩ | ⟨ob, rfl⟩ <;> rcases QC.out with ⟨oc, rfl⟩ | ⟨oc, rfl⟩ <;> rcases QD.out with ⟨od, rfl⟩ | ⟨od, rfl⟩
    · as_aux_lemma =>
        have hI1 := I1.out oa ob
        have fxa0 : (((((((w4.alloc (.cells (ar8 xd0 xd1 xd2 xd3 xd4 xd5 xd6 xd7) 31)).alloc ob1).alloc ob2).alloc ob3).alloc ob4).alloc ob5).alloc ob6).drew.cell? ⟨w1.heap.size, 0, none⟩ = some (.int .u8 xa0) := by rw [cell_of_row _ _ 0 _ _ _ Hxa.out]; rfl
        have fxa1 : (((((((w4.alloc (.cells (ar8 xd0 xd1 xd2 xd3 xd4 xd5 xd6 xd7) 31)).alloc ob1).alloc ob2).alloc ob3).alloc ob4).alloc ob5).alloc ob6).drew.cell? ⟨w1.heap.size, 1, none⟩ = some (.int .u8 xa1) := by rw [cell_of_row _ _ 1 _ _ _ Hxa.out]; rfl
        have fxa2 : (((((((w4.alloc (.cells (ar8 xd0 xd1 xd2 xd3 xd4 xd5 xd6 xd7) 31)).alloc ob1).alloc ob2).alloc ob3).alloc ob4).alloc ob5).alloc ob6).drew.cell? ⟨w1.heap.size, 2, none⟩ = some (.int .u8 xa2) := by rw [cell_of_row _ _ 2 _ _ _ Hxa.out]; rfl
        have fxa3 : (((((((w4.alloc (.cells (ar8 xd0 xd1 xd2 xd3 xd4 xd5 xd6 xd7) 31)).alloc ob1).alloc ob2).alloc ob3).alloc ob4).alloc ob5).alloc ob6).drew.cell? ⟨w1.heap.size, 3, none⟩ = some (.int .u8 xa3) := by rw [cell_of_row _ _ 3 _ _ _ Hxa.out]; rfl
        have fxa4 : (((((((w4.alloc (.cells (ar8 xd0 xd1 xd2 xd3 xd4 xd5 xd6 xd7) 31)).alloc ob1).alloc ob2).alloc ob3).alloc ob4).alloc ob5).alloc ob6).drew.cell? ⟨w1.heap.size, 4, none⟩ = some (.int .u8 xa4) := by rw [cell_of_row _ _ 4 _ _ _ Hxa.out]; rfl
        have fxa5 : (((((((w4.alloc (.cells (ar8 xd0 xd1 xd2 xd3 xd4 xd5 xd6 xd7) 31)).alloc ob1).alloc ob2).alloc ob3).alloc ob4).alloc ob5).alloc ob6).drew.cell? ⟨w1.heap.size, 5, none⟩ = some (.int .u8 xa5) := by rw [cell_of_row _ _ 5 _ _ _ Hxa.out]; rfl
        have fxa6 : (((((((w4.alloc (.cells (ar8 xd0 xd1 xd2 xd3 xd4 xd5 xd6 xd7) 31)).alloc ob1).alloc ob2).alloc ob3).alloc ob4).alloc ob5).alloc ob6).drew.cell? ⟨w1.heap.size, 6, none⟩ = some (.int .u8 xa6) := by rw [cell_of_row _ _ 6 _ _ _ Hxa.out]; rfl
        have fxa7 : (((((((w4.alloc (.cells (ar8 xd0 xd1 xd2 xd3 xd4 xd5 xd6 xd7) 31)).alloc ob1).alloc ob2).alloc ob3).alloc ob4).alloc ob5).alloc ob6).drew.cell? ⟨w1.heap.size, 7, none⟩ = some (.int .u8 xa7) := by rw [cell_of_row _ _ 7 _ _ _ Hxa.out]; rfl
        have fxb0 : (((((((w4.alloc (.cells (ar8 xd0 xd1 xd2 xd3 xd4 xd5 xd6 xd7) 31)).alloc ob1).alloc ob2).alloc ob3).alloc ob4).alloc ob5).alloc ob6).drew.cell? ⟨w2.heap.size, 0, none⟩ = some (.int .u8 xb0) := by rw [cell_of_row _ _ 0 _ _ _ Hxb.out]; rfl
        have fxb1 : (((((((w4.alloc (.cells (ar8 xd0 xd1 xd2 xd3 xd4 xd5 xd6 xd7) 31)).alloc ob1).alloc ob2).alloc ob3).alloc ob4).alloc ob5).alloc ob6).drew.cell? ⟨w2.heap.size, 1, none⟩ = some (.int .u8 xb1) := by rw [cell_of_row _ _ 1 _ _ _ Hxb.out]; rfl
        have fxb2 : (((((((w4.alloc (.cells (ar8 xd0 xd1 xd2 xd3 xd4 xd5 xd6 xd7) 31)).alloc ob1).alloc ob2).alloc ob3).alloc ob4).alloc ob5).alloc ob6).drew.cell? ⟨w2.heap.size, 2, none⟩ = some (.int .u8 xb2) := by rw [cell_of_row _ _ 2 _ _ _ Hxb.out]; rfl
        have fxb3 : (((((((w4.alloc (.cells (ar8 xd0 xd1 xd2 xd3 xd4 xd5 xd6 xd7) 31)).alloc ob1).alloc ob2).alloc ob3).alloc ob4).alloc ob5).alloc ob6).drew.cell? ⟨w2.heap.size, 3, none⟩ = some (.int .u8 xb3) := by rw [cell_of_row _ _ 3 _ _ _ Hxb.out]; rfl
        have fxb4 : (((((((w4.alloc (.cells (ar8 xd0 xd1 xd2 xd3 xd4 xd5 xd6 xd7) 31)).alloc ob1).alloc ob2).alloc ob3).alloc ob4).alloc ob5).alloc ob6).drew.cell? ⟨w2.heap.size, 4, none⟩ = some (.int .u8 xb4) := by rw [cell_of_row _ _ 4 _ _ _ Hxb.out]; rfl
        have fxb5 : (((((((w4.alloc (.cells (ar8 xd0 xd1 xd2 xd3 xd4 xd5 xd6 xd7) 31)).alloc ob1).alloc ob2).alloc ob3).alloc ob4).alloc ob5).alloc ob6).drew.cell? ⟨w2.heap.size, 5, none⟩ = some (.int .u8 xb5) := by rw [cell_of_row _ _ 5 _ _ _ Hxb.out]; rfl
        have fxb6 : (((((((w4.alloc (.cells (ar8 xd0 xd1 xd2 xd3 xd4 xd5 xd6 xd7) 31)).alloc ob1).alloc ob2).alloc ob3).alloc ob4).alloc ob5).alloc ob6).drew.cell? ⟨w2.heap.size, 6, none⟩ = some (.int .u8 xb6) := by rw [cell_of_row _ _ 6 _ _ _ Hxb.out]; rfl
        have fxb7 : (((((((w4.alloc (.cells (ar8 xd0 xd1 xd2 xd3 xd4 xd5 xd6 xd7) 31)).alloc ob1).alloc ob2).alloc ob3).alloc ob4).alloc ob5).alloc ob6).drew.cell? ⟨w2.heap.size, 7, none⟩ = some (.int .u8 xb7) := by rw [cell_of_row _ _ 7 _ _ _ Hxb.out]; rfl
        have hI2 := I2.out oc od
        have fxc0 : (((((((w4.alloc (.cells (ar8 xd0 xd1 xd2 xd3 xd4 xd5 xd6 xd7) 31)).alloc ob1).alloc ob2).alloc ob3).alloc ob4).alloc ob5).alloc ob6).drew.cell? ⟨w3.heap.size, 0, none⟩ = some (.int .u8 xc0) := by rw [cell_of_row _ _ 0 _ _ _ Hxc.out]; rfl
        have fxc1 : (((((((w4.alloc (.cells (ar8 xd0 xd1 xd2 xd3 xd4 xd5 xd6 xd7) 31)).alloc ob1).alloc ob2).alloc ob3).alloc ob4).alloc ob5).alloc ob6).drew.cell? ⟨w3.heap.size, 1, none⟩ = some (.int .u8 xc1) := by rw [cell_of_row _ _ 1 _ _ _ Hxc.out]; rfl
        have fxc2 : (((((((w4.alloc (.cells (ar8 xd0 xd1 xd2 xd3 xd4 xd5 xd6 xd7) 31)).alloc ob1).alloc ob2).alloc ob3).alloc ob4).alloc ob5).alloc ob6).drew.cell? ⟨w3.heap.size, 2, none⟩ = some (.int .u8 xc2) := by rw [cell_of_row _ _ 2 _ _ _ Hxc.out]; rfl
        have fxc3 : (((((((w4.alloc (.cells (ar8 xd0 xd1 xd2 xd3 xd4 xd5 xd6 xd7) 31)).alloc ob1).alloc ob2).alloc ob3).alloc ob4).alloc ob5).alloc ob6).drew.cell? ⟨w3.heap.size, 3, none⟩ = some (.int .u8 xc3) := by rw [cell_of_row _ _ 3 _ _ _ Hxc.out]; rfl
        have fxc4 : (((((((w4.alloc (.cells (ar8 xd0 xd1 xd2 xd3 xd4 xd5 xd6 xd7) 31)).alloc ob1).alloc ob2).alloc ob3).alloc ob4).alloc ob5).alloc ob6).drew.cell? ⟨w3.heap.size, 4, none⟩ = some (.int .u8 xc4) := by rw [cell_of_row _ _ 4 _ _ _ Hxc.out]; rfl
        have fxc5 : (((((((w4.alloc (.cells (ar8 xd0 xd1 xd2 xd3 xd4 xd5 xd6 xd7) 31)).alloc ob1).alloc ob2).alloc ob3).alloc ob4).alloc ob5).alloc ob6).drew.cell? ⟨w3.heap.size, 5, none⟩ = some (.int .u8 xc5) := by rw [cell_of_row _ _ 5 _ _ _ Hxc.out]; rfl
        have fxc6 : (((((((w4.alloc (.cells (ar8 xd0 xd1 xd2 xd3 xd4 xd5 xd6 xd7) 31)).alloc ob1).alloc ob2).alloc ob3).alloc ob4).alloc ob5).alloc ob6).drew.cell? ⟨w3.heap.size, 6, none⟩ = some (.int .u8 xc6) := by rw [cell_of_row _ _ 6 _ _ _ Hxc.out]; rfl
        have fxc7 : (((((((w4.alloc (.cells (ar8 xd0 xd1 xd2 xd3 xd4 xd5 xd6 xd7) 31)).alloc ob1).alloc ob2).alloc ob3).alloc ob4).alloc ob5).alloc ob6).drew.cell? ⟨w3.heap.size, 7, none⟩ = some (.int .u8 xc7) := by rw [cell_of_row _ _ 7 _ _ _ Hxc.out]; rfl
        have fxd0 : (((((((w4.alloc (.cells (ar8 xd0 xd1 xd2 xd3 xd4 xd5 xd6 xd7) 31)).alloc ob1).alloc ob2).alloc ob3).alloc ob4).alloc ob5).alloc ob6).drew.cell? ⟨w4.heap.size, 0, none⟩ = some (.int .u8 xd0) := by rw [cell_of_row _ _ 0 _ _ _ Hxd.out]; rfl
        have fxd1 : (((((((w4.alloc (.cells (ar8 xd0 xd1 xd2 xd3 xd4 xd5 xd6 xd7) 31)).alloc ob1).alloc ob2).alloc ob3).alloc ob4).alloc ob5).alloc ob6).drew.cell? ⟨w4.heap.size, 1, none⟩ = some (.int .u8 xd1) := by rw [cell_of_row _ _ 1 _ _ _ Hxd.out]; rfl
        have fxd2 : (((((((w4.alloc (.cells (ar8 xd0 xd1 xd2 xd3 xd4 xd5 xd6 xd7) 31)).alloc ob1).alloc ob2).alloc ob3).alloc ob4).alloc ob5).alloc ob6).drew.cell? ⟨w4.heap.size, 2, none⟩ = some (.int .u8 xd2) := by rw [cell_of_row _ _ 2 _ _ _ Hxd.out]; rfl
        have fxd3 : (((((((w4.alloc (.cells (ar8 xd0 xd1 xd2 xd3 xd4 xd5 xd6 xd7) 31)).alloc ob1).alloc ob2).alloc ob3).alloc ob4).alloc ob5).alloc ob6).drew.cell? ⟨w4.heap.size, 3, none⟩ = some (.int .u8 xd3) := by rw [cell_of_row _ _ 3 _ _ _ Hxd.out]; rfl
        have fxd4 : (((((((w4.alloc (.cells (ar8 xd0 xd1 xd2 xd3 xd4 xd5 xd6 xd7) 31)).alloc ob1).alloc ob2).alloc ob3).alloc ob4).alloc ob5).alloc ob6).drew.cell? ⟨w4.heap.size, 4, none⟩ = some (.int .u8 xd4) := by rw [cell_of_row _ _ 4 _ _ _ Hxd.out]; rfl
        have fxd5 : (((((((w4.alloc (.cells (ar8 xd0 xd1 xd2 xd3 xd4 xd5 xd6 xd7) 31)).alloc ob1).alloc ob2).alloc ob3).alloc ob4).alloc ob5).alloc ob6).drew.cell? ⟨w4.heap.size, 5, none⟩ = some (.int .u8 xd5) := by rw [cell_of_row _ _ 5 _ _ _ Hxd.out]; rfl
        have fxd6 : (((((((w4.alloc (.cells (ar8 xd0 xd1 xd2 xd3 xd4 xd5 xd6 xd7) 31)).alloc ob1).alloc ob2).alloc ob3).alloc ob4).alloc ob5).alloc ob6).drew.cell? ⟨w4.heap.size, 6, none⟩ = some (.int .u8 xd6) := by rw [cell_of_row _ _ 6 _ _ _ Hxd.out]; rfl
        have fxd7 : (((((((w4.alloc (.cells (ar8 xd0 xd1 xd2 xd3 xd4 xd5 xd6 xd7) 31)).alloc ob1).alloc ob2).alloc ob3).alloc ob4).alloc ob5).alloc ob6).drew.cell? ⟨w4.heap.size, 7, none⟩ = some (.int .u8 xd7) := by rw [cell_of_row _ _ 7 _ _ _ Hxd.out]; rfl
        go_wp2_with fail
        go_meet
        exact ⟨rfl, ZB, ZGC, ZGY, ZGxa, ZGxc⟩
    · as_aux_lemma =>
        have hI1 := I1.out oa ob
        have fxa0 : (((((((w4.alloc (.cells (ar8 xd0 xd1 xd2 xd3 xd4 xd5 xd6 xd7) 31)).alloc ob1).alloc ob2).alloc ob3).alloc ob4).alloc ob5).alloc ob6).drew.cell? ⟨w1.heap.size, 0, none⟩ = some (.int .u8 xa0) := by rw [cell_of_row _ _ 0 _ _ _ Hxa.out]; rfl
        have fxa1 : (((((((w4.alloc (.cells (ar8 xd0 xd1 xd2 xd3 xd4 xd5 xd6 xd7) 31)).alloc ob1).alloc ob2).alloc ob3).alloc ob4).alloc ob5).alloc ob6).drew.cell? ⟨w1.heap.size, 1, none⟩ = some (.int .u8 xa1) := by rw [cell_of_row _ _ 1 _ _ _ Hxa.out]; rfl
        have fxa2 : (((((((w4.alloc (.cells (ar8 xd0 xd1 xd2 xd3 xd4 xd5 xd6 xd7) 31)).alloc ob1).alloc ob2).alloc ob3).alloc ob4).alloc ob5).alloc ob6).drew.cell? ⟨w1.heap.size, 2, none⟩ = some (.int .u8 xa2) := by rw [cell_of_row _ _ 2 _ _ _ Hxa.out]; rfl
        have fxa3 : (((((((w4.alloc (.cells (ar8 xd0 xd1 xd2 xd3 xd4 xd5 xd6 xd7) 31)).alloc ob1).alloc ob2).alloc ob3).alloc ob4).alloc ob5).alloc ob6).drew.cell? ⟨w1.heap.size, 3, none⟩ = some (.int .u8 xa3) := by rw [cell_of_row _ _ 3 _ _ _ Hxa.out]; rfl
        have fxa4 : (((((((w4.alloc (.cells (ar8 xd0 xd1 xd2 xd3 xd4 xd5 xd6 xd7) 31)).alloc ob1).alloc ob2).alloc ob3).alloc ob4).alloc ob5).alloc ob6).drew.cell? ⟨w1.heap.size, 4, none⟩ = some (.int .u8 xa4) := by rw [cell_of_row _ _ 4 _ _ _ Hxa.out]; rfl
        have fxa5 : (((((((w4.alloc (.cells (ar8 xd0 xd1 xd2 xd3 xd4 xd5 xd6 xd7) 31)).alloc ob1).alloc ob2).alloc ob3).alloc ob4).alloc ob5).alloc ob6).drew.cell? ⟨w1.heap.size, 5, none⟩ = some (.int .u8 xa5) := by rw [cell_of_row _ _ 5 _ _ _ Hxa.out]; rfl
        have fxa6 : (((((((w4.alloc (.cells (ar8 xd0 xd1 xd2 xd3 xd4 xd5 xd6 xd7) 31)).alloc ob1).alloc ob2).alloc ob3).alloc ob4).alloc ob5).alloc ob6).drew.cell? ⟨w1.heap.size, 6, none⟩ = some (.int .u8 xa6) := by rw [cell_of_row _ _ 6 _ _ _ Hxa.out]; rfl
        have fxa7 : (((((((w4.alloc (.cells (ar8 xd0 xd1 xd2 xd3 xd4 xd5 xd6 xd7) 31)).alloc ob1).alloc ob2).alloc ob3).alloc ob4).alloc ob5).alloc ob6).drew.cell? ⟨w1.heap.size, 7, none⟩ = some (.int .u8 xa7) := by rw [cell_of_row _ _ 7 _ _ _ Hxa.out]; rfl
        have fxb0 : (((((((w4.alloc (.cells (ar8 xd0 xd1 xd2 xd3 xd4 xd5 xd6 xd7) 31)).alloc ob1).alloc ob2).alloc ob3).alloc ob4).alloc ob5).alloc ob6).drew.cell? ⟨w2.heap.size, 0, none⟩ = some (.int .u8 xb0) := by rw [cell_of_row _ _ 0 _ _ _ Hxb.out]; rfl
        have fxb1 : (((((((w4.alloc (.cells (ar8 xd0 xd1 xd2 xd3 xd4 xd5 xd6 xd7) 31)).alloc ob1).alloc ob2).alloc ob3).alloc ob4).alloc ob5).alloc ob6).drew.cell? ⟨w2.heap.size, 1, none⟩ = some (.int .u8 xb1) := by rw [cell_of_row _ _ 1 _ _ _ Hxb.out]; rfl
        have fxb2 : (((((((w4.alloc (.cells (ar8 xd0 xd1 xd2 xd3 xd4 xd5 xd6 xd7) 31)).alloc ob1).alloc ob2).alloc ob3).alloc ob4).alloc ob5).alloc ob6).drew.cell? ⟨w2.heap.size, 2, none⟩ = some (.int .u8 xb2) := by rw [cell_of_row _ _ 2 _ _ _ Hxb.out]; rfl
        have fxb3 : (((((((w4.alloc (.cells (ar8 xd0 xd1 xd2 xd3 xd4 xd5 xd6 xd7) 31)).alloc ob1).alloc ob2).alloc ob3).alloc ob4).alloc ob5).alloc ob6).drew.cell? ⟨w2.heap.size, 3, none⟩ = some (.int .u8 xb3) := by rw [cell_of_row _ _ 3 _ _ _ Hxb.out]; rfl
        have fxb4 : (((((((w4.alloc (.cells (ar8 xd0 xd1 xd2 xd3 xd4 xd5 xd6 xd7) 31)).alloc ob1).alloc ob2).alloc ob3).alloc ob4).alloc ob5).alloc ob6).drew.cell? ⟨w2.heap.size, 4, none⟩ = some (.int .u8 xb4) := by rw [cell_of_row _ _ 4 _ _ _ Hxb.out]; rfl
        have fxb5 : (((((((w4.alloc (.cells (ar8 xd0 xd1 xd2 xd3 xd4 xd5 xd6 xd7) 31)).alloc ob1).alloc ob2).alloc ob3).alloc ob4).alloc ob5).alloc ob6).drew.cell? ⟨w2.heap.size, 5, none⟩ = some (.int .u8 xb5) := by rw [cell_of_row _ _ 5 _ _ _ Hxb.out]; rfl
        have fxb6 : (((((((w4.alloc (.cells (ar8 xd0 xd1 xd2 xd3 xd4 xd5 xd6 xd7) 31)).alloc ob1).alloc ob2).alloc ob3).alloc ob4).alloc ob5).alloc ob6).drew.cell? ⟨w2.heap.size, 6, none⟩ = some (.int .u8 xb6) := by rw [cell_of_row _ _ 6 _ _ _ Hxb.out]; rfl
        have fxb7 : (((((((w4.alloc (.cells (ar8 xd0 xd1 xd2 xd3 xd4 xd5 xd6 xd7) 31)).alloc ob1).alloc ob2).alloc ob3).alloc ob4).alloc ob5).alloc ob6).drew.cell? ⟨w2.heap.size, 7, none⟩ = some (.int .u8 xb7) := by rw [cell_of_row _ _ 7 _ _ _ Hxb.out]; rfl
        go_wp2_with fail
        go_meet
        exact ⟨rfl, ZB, ZGC, ZGY, ZGxa, ZGxc⟩
    · as_aux_lemma =>
        have hI1 := I1.out oa ob
        have fxa0 : (((((((w4.alloc (.cells (ar8 xd0 xd1 xd2 xd3 xd4 xd5 xd6 xd7) 31)).alloc ob1).alloc ob2).alloc ob3).alloc ob4).alloc ob5).alloc ob6).drew.cell? ⟨w1.heap.size, 0, none⟩ = some (.int .u8 xa0) := by rw [cell_of_row _ _ 0 _ _ _ Hxa.out]; rfl
        have fxa1 : (((((((w4.alloc (.cells (ar8 xd0 xd1 xd2 xd3 xd4 xd5 xd6 xd7) 31)).alloc ob1).alloc ob2).alloc ob3).alloc ob4).alloc ob5).alloc ob6).drew.cell? ⟨w1.heap.size, 1, none⟩ = some (.int .u8 xa1) := by rw [cell_of_row _ _ 1 _ _ _ Hxa.out]; rfl
        have fxa2 : (((((((w4.alloc (.cells (ar8 xd0 xd1 xd2 xd3 xd4 xd5 xd6 xd7) 31)).alloc ob1).alloc ob2).alloc ob3).alloc ob4).alloc ob5).alloc ob6).drew.cell? ⟨w1.heap.size, 2, none⟩ = some (.int .u8 xa2) := by rw [cell_of_row _ _ 2 _ _ _ Hxa.out]; rfl
        have fxa3 : (((((((w4.alloc (.cells (ar8 xd0 xd1 xd2 xd3 xd4 xd5 xd6 xd7) 31)).alloc ob1).alloc ob2).alloc ob3).alloc ob4).alloc ob5).alloc ob6).drew.cell? ⟨w1.heap.size, 3, none⟩ = some (.int .u8 xa3) := by rw [cell_of_row _ _ 3 _ _ _ Hxa.out]; rfl
        have fxa4 : (((((((w4.alloc (.cells (ar8 xd0 xd1 xd2 xd3 xd4 xd5 xd6 xd7) 31)).alloc ob1).alloc ob2).alloc ob3).alloc ob4).alloc ob5).alloc ob6).drew.cell? ⟨w1.heap.size, 4, none⟩ = some (.int .u8 xa4) := by rw [cell_of_row _ _ 4 _ _ _ Hxa.out]; rfl
        have fxa5 : (((((((w4.alloc (.cells (ar8 xd0 xd1 xd2 xd3 xd4 xd5 xd6 xd7) 31)).alloc ob1).alloc ob2).alloc ob3).alloc ob4).alloc ob5).alloc ob6).drew.cell? ⟨w1.heap.size, 5, none⟩ = some (.int .u8 xa5) := by rw [cell_of_row _ _ 5 _ _ _ Hxa.out]; rfl
        have fxa6 : (((((((w4.alloc (.cells (ar8 xd0 xd1 xd2 xd3 xd4 xd5 xd6 xd7) 31)).alloc ob1).alloc ob2).alloc ob3).alloc ob4).alloc ob5).alloc ob6).drew.cell? ⟨w1.heap.size, 6, none⟩ = some (.int .u8 xa6) := by rw [cell_of_row _ _ 6 _ _ _ Hxa.out]; rfl
        have fxa7 : (((((((w4.alloc (.cells (ar8 xd0 xd1 xd2 xd3 xd4 xd5 xd6 xd7) 31)).alloc ob1).alloc ob2).alloc ob3).alloc ob4).alloc ob5).alloc ob6).drew.cell? ⟨w1.heap.size, 7, none⟩ = some (.int .u8 xa7) := by rw [cell_of_row _ _ 7 _ _ _ Hxa.out]; rfl
        have fxb0 : (((((((w4.alloc (.cells (ar8 xd0 xd1 xd2 xd3 xd4 xd5 xd6 xd7) 31)).alloc ob1).alloc ob2).alloc ob3).alloc ob4).alloc ob5).alloc ob6).drew.cell? ⟨w2.heap.size, 0, none⟩ = some (.int .u8 xb0) := by rw [cell_of_row _ _ 0 _ _ _ Hxb.out]; rfl
        have fxb1 : (((((((w4.alloc (.cells (ar8 xd0 xd1 xd2 xd3 xd4 xd5 xd6 xd7) 31)).alloc ob1).alloc ob2).alloc ob3).alloc ob4).alloc ob5).alloc ob6).drew.cell? ⟨w2.heap.size, 1, none⟩ = some (.int .u8 xb1) := by rw [cell_of_row _ _ 1 _ _ _ Hxb.out]; rfl
        have fxb2 : (((((((w4.alloc (.cells (ar8 xd0 xd1 xd2 xd3 xd4 xd5 xd6 xd7) 31)).alloc ob1).alloc ob2).alloc ob3).alloc ob4).alloc ob5).alloc ob6).drew.cell? ⟨w2.heap.size, 2, none⟩ = some (.int .u8 xb2) := by rw [cell_of_row _ _ 2 _ _ _ Hxb.out]; rfl
        have fxb3 : (((((((w4.alloc (.cells (ar8 xd0 xd1 xd2 xd3 xd4 xd5 xd6 xd7) 31)).alloc ob1).alloc ob2).alloc ob3).alloc ob4).alloc ob5).alloc ob6).drew.cell? ⟨w2.heap.size, 3, none⟩ = some (.int .u8 xb3) := by rw [cell_of_row _ _ 3 _ _ _ Hxb.out]; rfl
        have fxb4 : (((((((w4.alloc (.cells (ar8 xd0 xd1 xd2 xd3 xd4 xd5 xd6 xd7) 31)).alloc ob1).alloc ob2).alloc ob3).alloc ob4).alloc ob5).alloc ob6).drew.cell? ⟨w2.heap.size, 4, none⟩ = some (.int .u8 xb4) := by rw [cell_of_row _ _ 4 _ _ _ Hxb.out]; rfl
        have fxb5 : (((((((w4.alloc (.cells (ar8 xd0 xd1 xd2 xd3 xd4 xd5 xd6 xd7) 31)).alloc ob1).alloc ob2).alloc ob3).alloc ob4).alloc ob5).alloc ob6).drew.cell? ⟨w2.heap.size, 5, none⟩ = some (.int .u8 xb5) := by rw [cell_of_row _ _ 5 _ _ _ Hxb.out]; rfl
        have fxb6 : (((((((w4.alloc (.cells (ar8 xd0 xd1 xd2 xd3 xd4 xd5 xd6 xd7) 31)).alloc ob1).alloc ob2).alloc ob3).alloc ob4).alloc ob5).alloc ob6).drew.cell? ⟨w2.heap.size, 6, none⟩ = some (.int .u8 xb6) := by rw [cell_of_row _ _ 6 _ _ _ Hxb.out]; rfl
        have fxb7 : (((((((w4.alloc (.cells (ar8 xd0 xd1 xd2 xd3 xd4 xd5 xd6 xd7) 31)).alloc ob1).alloc ob2).alloc ob3).alloc ob4).alloc ob5).alloc ob6).drew.cell? ⟨w2.heap.size, 7, none⟩ = some (.int .u8 xb7) := by rw [cell_of_row _ _ 7 _ _ _ Hxb.out]; rfl
        go_wp2_with fail
        go_meet
        exact ⟨rfl, ZB, ZGC, ZGY, ZGxa, ZGxc⟩
    · as_aux_lemma =>
        have hI1 := I1.out oa ob
        have fxa0 : (((((((w4.alloc (.cells (ar8 xd0 xd1 xd2 xd3 xd4 xd5 xd6 xd7) 31)).alloc ob1).alloc ob2).alloc ob3).alloc ob4).alloc ob5).alloc ob6).drew.cell? ⟨w1.heap.size, 0, none⟩ = some (.int .u8 xa0) := by rw [cell_of_row _ _ 0 _ _ _ Hxa.out]; rfl
        have fxa1 : (((((((w4.alloc (.cells (ar8 xd0 xd1 xd2 xd3 xd4 xd5 xd6 xd7) 31)).alloc ob1).alloc ob2).alloc ob3).alloc ob4).alloc ob5).alloc ob6).drew.cell? ⟨w1.heap.size, 1, none⟩ = some (.int .u8 xa1) := by rw [cell_of_row _ _ 1 _ _ _ Hxa.out]; rfl
        have fxa2 : (((((((w4.alloc (.cells (ar8 xd0 xd1 xd2 xd3 xd4 xd5 xd6 xd7) 31)).alloc ob1).alloc ob2).alloc ob3).alloc ob4).alloc ob5).alloc ob6).drew.cell? ⟨w1.heap.size, 2, none⟩ = some (.int .u8 xa2) := by rw [cell_of_row _ _ 2 _ _ _ Hxa.out]; rfl
        have fxa3 : (((((((w4.alloc (.cells (ar8 xd0 xd1 xd2 xd3 xd4 xd5 xd6 xd7) 31)).alloc ob1).alloc ob2).alloc ob3).alloc ob4).alloc ob5).alloc ob6).drew.cell? ⟨w1.heap.size, 3, none⟩ = some (.int .u8 xa3) := by rw [cell_of_row _ _ 3 _ _ _ Hxa.out]; rfl
        have fxa4 : (((((((w4.alloc (.cells (ar8 xd0 xd1 xd2 xd3 xd4 xd5 xd6 xd7) 31)).alloc ob1).alloc ob2).alloc ob3).alloc ob4).alloc ob5).alloc ob6).drew.cell? ⟨w1.heap.size, 4, none⟩ = some (.int .u8 xa4) := by rw [cell_of_row _ _ 4 _ _ _ Hxa.out]; rfl
        have fxa5 : (((((((w4.alloc (.cells (ar8 xd0 xd1 xd2 xd3 xd4 xd5 xd6 xd7) 31)).alloc ob1).alloc ob2).alloc ob3).alloc ob4).alloc ob5).alloc ob6).drew.cell? ⟨w1.heap.size, 5, none⟩ = some (.int .u8 xa5) := by rw [cell_of_row _ _ 5 _ _ _ Hxa.out]; rfl
        have fxa6 : (((((((w4.alloc (.cells (ar8 xd0 xd1 xd2 xd3 xd4 xd5 xd6 xd7) 31)).alloc ob1).alloc ob2).alloc ob3).alloc ob4).alloc ob5).alloc ob6).drew.cell? ⟨w1.heap.size, 6, none⟩ = some (.int .u8 xa6) := by rw [cell_of_row _ _ 6 _ _ _ Hxa.out]; rfl
        have fxa7 : (((((((w4.alloc (.cells (ar8 xd0 xd1 xd2 xd3 xd4 xd5 xd6 xd7) 31)).alloc ob1).alloc ob2).alloc ob3).alloc ob4).alloc ob5).alloc ob6).drew.cell? ⟨w1.heap.size, 7, none⟩ = some (.int .u8 xa7) := by rw [cell_of_row _ _ 7 _ _ _ Hxa.out]; rfl
        have fxb0 : (((((((w4.alloc (.cells (ar8 xd0 xd1 xd2 xd3 xd4 xd5 xd6 xd7) 31)).alloc ob1).alloc ob2).alloc ob3).alloc ob4).alloc ob5).alloc ob6).drew.cell? ⟨w2.heap.size, 0, none⟩ = some (.int .u8 xb0) := by rw [cell_of_row _ _ 0 _ _ _ Hxb.out]; rfl
        have fxb1 : (((((((w4.alloc (.cells (ar8 xd0 xd1 xd2 xd3 xd4 xd5 xd6 xd7) 31)).alloc ob1).alloc ob2).alloc ob3).alloc ob4).alloc ob5).alloc ob6).drew.cell? ⟨w2.heap.size, 1, none⟩ = some (.int .u8 xb1) := by rw [cell_of_row _ _ 1 _ _ _ Hxb.out]; rfl
        have fxb2 : (((((((w4.alloc (.cells (ar8 xd0 xd1 xd2 xd3 xd4 xd5 xd6 xd7) 31)).alloc ob1).alloc ob2).alloc ob3).alloc ob4).alloc ob5).alloc ob6).drew.cell? ⟨w2.heap.size, 2, none⟩ = some (.int .u8 xb2) := by rw [cell_of_row _ _ 2 _ _ _ Hxb.out]; rfl
        have fxb3 : (((((((w4.alloc (.cells (ar8 xd0 xd1 xd2 xd3 xd4 xd5 xd6 xd7) 31)).alloc ob1).alloc ob2).alloc ob3).alloc ob4).alloc ob5).alloc ob6).drew.cell? ⟨w2.heap.size, 3, none⟩ = some (.int .u8 xb3) := by rw [cell_of_row _ _ 3 _ _ _ Hxb.out]; rfl
        have fxb4 : (((((((w4.alloc (.cells (ar8 xd0 xd1 xd2 xd3 xd4 xd5 xd6 xd7) 31)).alloc ob1).alloc ob2).alloc ob3).alloc ob4).alloc ob5).alloc ob6).drew.cell? ⟨w2.heap.size, 4, none⟩ = some (.int .u8 xb4) := by rw [cell_of_row _ _ 4 _ _ _ Hxb.out]; rfl
        have fxb5 : (((((((w4.alloc (.cells (ar8 xd0 xd1 xd2 xd3 xd4 xd5 xd6 xd7) 31)).alloc ob1).alloc ob2).alloc ob3).alloc ob4).alloc ob5).alloc ob6).drew.cell? ⟨w2.heap.size, 5, none⟩ = some (.int .u8 xb5) := by rw [cell_of_row _ _ 5 _ _ _ Hxb.out]; rfl
        have fxb6 : (((((((w4.alloc (.cells (ar8 xd0 xd1 xd2 xd3 xd4 xd5 xd6 xd7) 31)).alloc ob1).alloc ob2).alloc ob3).alloc ob4).alloc ob5).alloc ob6).drew.cell? ⟨w2.heap.size, 6, none⟩ = some (.int .u8 xb6) := by rw [cell_of_row _ _ 6 _ _ _ Hxb.out]; rfl
        have fxb7 : (((((((w4.alloc (.cells (ar8 xd0 xd1 xd2 xd3 xd4 xd5 xd6 xd7) 31)).alloc ob1).alloc ob2).alloc ob3).alloc ob4).alloc ob5).alloc ob6).drew.cell? ⟨w2.heap.size, 7, none⟩ = some (.int .u8 xb7) := by rw [cell_of_row _ _ 7 _ _ _ Hxb.out]; rfl
        go_wp2_with fail
        go_meet
        exact ⟨rfl, ZB, ZGC, ZGY, ZGxa, ZGxc⟩
    · as_aux_lemma =>
        have hI2 := I2.out oc od
        have fxc0 : (((((((w4.alloc (.cells (ar8 xd0 xd1 xd2 xd3 xd4 xd5 xd6 xd7) 31)).alloc ob1).alloc ob2).alloc ob3).alloc ob4).alloc ob5).alloc ob6).drew.cell? ⟨w3.heap.size, 0, none⟩ = some (.int .u8 xc0) := by rw [cell_of_row _ _ 0 _ _ _ Hxc.out]; rfl
        have fxc1 : (((((((w4.alloc (.cells (ar8 xd0 xd1 xd2 xd3 xd4 xd5 xd6 xd7) 31)).alloc ob1).alloc ob2).alloc ob3).alloc ob4).alloc ob5).alloc ob6).drew.cell? ⟨w3.heap.size, 1, none⟩ = some (.int .u8 xc1) := by rw [cell_of_row _ _ 1 _ _ _ Hxc.out]; rfl
        have fxc2 : (((((((w4.alloc (.cells (ar8 xd0 xd1 xd2 xd3 xd4 xd5 xd6 xd7) 31)).alloc ob1).alloc ob2).alloc ob3).alloc ob4).alloc ob5).alloc ob6).drew.cell? ⟨w3.heap.size, 2, none⟩ = some (.int .u8 xc2) := by rw [cell_of_row _ _ 2 _ _ _ Hxc.out]; rfl
        have fxc3 : (((((((w4.alloc (.cells (ar8 xd0 xd1 xd2 xd3 xd4 xd5 xd6 xd7) 31)).alloc ob1).alloc ob2).alloc ob3).alloc ob4).alloc ob5).alloc ob6).drew.cell? ⟨w3.heap.size, 3, none⟩ = some (.int .u8 xc3) := by rw [cell_of_row _ _ 3 _ _ _ Hxc.out]; rfl
        have fxc4 : (((((((w4.alloc (.cells (ar8 xd0 xd1 xd2 xd3 xd4 xd5 xd6 xd7) 31)).alloc ob1).alloc ob2).alloc ob3).alloc ob4).alloc ob5).alloc ob6).drew.cell? ⟨w3.heap.size, 4, none⟩ = some (.int .u8 xc4) := by rw [cell_of_row _ _ 4 _ _ _ Hxc.out]; rfl
        have fxc5 : (((((((w4.alloc (.cells (ar8 xd0 xd1 xd2 xd3 xd4 xd5 xd6 xd7) 31)).alloc ob1).alloc ob2).alloc ob3).alloc ob4).alloc ob5).alloc ob6).drew.cell? ⟨w3.heap.size, 5, none⟩ = some (.int .u8 xc5) := by rw [cell_of_row _ _ 5 _ _ _ Hxc.out]; rfl
        have fxc6 : (((((((w4.alloc (.cells (ar8 xd0 xd1 xd2 xd3 xd4 xd5 xd6 xd7) 31)).alloc ob1).alloc ob2).alloc ob3).alloc ob4).alloc ob5).alloc ob6).drew.cell? ⟨w3.heap.size, 6, none⟩ = some (.int .u8 xc6) := by rw [cell_of_row _ _ 6 _ _ _ Hxc.out]; rfl
        have fxc7 : (((((((w4.alloc (.cells (ar8 xd0 xd1 xd2 xd3 xd4 xd5 xd6 xd7) 31)).alloc ob1).alloc ob2).alloc ob3).alloc ob4).alloc ob5).alloc ob6).drew.cell? ⟨w3.heap.size, 7, none⟩ = some (.int .u8 xc7) := by rw [cell_of_row _ _ 7 _ _ _ Hxc.out]; rfl
        have fxd0 : (((((((w4.alloc (.cells (ar8 xd0 xd1 xd2 xd3 xd4 xd5 xd6 xd7) 31)).alloc ob1).alloc ob2).alloc ob3).alloc ob4).alloc ob5).alloc ob6).drew.cell? ⟨w4.heap.size, 0, none⟩ = some (.int .u8 xd0) := by rw [cell_of_row _ _ 0 _ _ _ Hxd.out]; rfl
        have fxd1 : (((((((w4.alloc (.cells (ar8 xd0 xd1 xd2 xd3 xd4 xd5 xd6 xd7) 31)).alloc ob1).alloc ob2).alloc ob3).alloc ob4).alloc ob5).alloc ob6).drew.cell? ⟨w4.heap.size, 1, none⟩ = some (.int .u8 xd1) := by rw [cell_of_row _ _ 1 _ _ _ Hxd.out]; rfl
        have fxd2 : (((((((w4.alloc (.cells (ar8 xd0 xd1 xd2 xd3 xd4 xd5 xd6 xd7) 31)).alloc ob1).alloc ob2).alloc ob3).alloc ob4).alloc ob5).alloc ob6).drew.cell? ⟨w4.heap.size, 2, none⟩ = some (.int .u8 xd2) := by rw [cell_of_row _ _ 2 _ _ _ Hxd.out]; rfl
        have fxd3 : (((((((w4.alloc (.cells (ar8 xd0 xd1 xd2 xd3 xd4 xd5 xd6 xd7) 31)).alloc ob1).alloc ob2).alloc ob3).alloc ob4).alloc ob5).alloc ob6).drew.cell? ⟨w4.heap.size, 3, none⟩ = some (.int .u8 xd3) := by rw [cell_of_row _ _ 3 _ _ _ Hxd.out]; rfl
        have fxd4 : (((((((w4.alloc (.cells (ar8 xd0 xd1 xd2 xd3 xd4 xd5 xd6 xd7) 31)).alloc ob1).alloc ob2).alloc ob3).alloc ob4).alloc ob5).alloc ob6).drew.cell? ⟨w4.heap.size, 4, none⟩ = some (.int .u8 xd4) := by rw [cell_of_row _ _ 4 _ _ _ Hxd.out]; rfl
        have fxd5 : (((((((w4.alloc (.cells (ar8 xd0 xd1 xd2 xd3 xd4 xd5 xd6 xd7) 31)).alloc ob1).alloc ob2).alloc ob3).alloc ob4).alloc ob5).alloc ob6).drew.cell? ⟨w4.heap.size, 5, none⟩ = some (.int .u8 xd5) := by rw [cell_of_row _ _ 5 _ _ _ Hxd.out]; rfl
        have fxd6 : (((((((w4.alloc (.cells (ar8 xd0 xd1 xd2 xd3 xd4 xd5 xd6 xd7) 31)).alloc ob1).alloc ob2).alloc ob3).alloc ob4).alloc ob5).alloc ob6).drew.cell? ⟨w4.heap.size, 6, none⟩ = some (.int .u8 xd6) := by rw [cell_of_row _ _ 6 _ _ _ Hxd.out]; rfl
        have fxd7 : (((((((w4.alloc (.cells (ar8 xd0 xd1 xd2 xd3 xd4 xd5 xd6 xd7) 31)).alloc ob1).alloc ob2).alloc ob3).alloc ob4).alloc ob5).alloc ob6).drew.cell? ⟨w4.heap.size, 7, none⟩ = some (.int .u8 xd7) := by rw [cell_of_row _ _ 7 _ _ _ Hxd.out]; rfl
        go_wp2_with fail
        go_meet
        exact ⟨rfl, ZB, ZGC, ZGY, ZGxa, ZGxc⟩
    · as_aux_lemma =>
        go_wp2_with fail
        go_meet
        exact ⟨rfl, ZB, ZGC, ZGY, ZGxa, ZGxc⟩
    · as_aux_lemma =>
        go_wp2_with fail
        go_meet
        exact ⟨rfl, ZB, ZGC, ZGY, ZGxa, ZGxc⟩
    · as_aux_lemma =>
        go_wp2_with fail
        go_meet
        exact ⟨rfl, ZB, ZGC, ZGY, ZGxa, ZGxc⟩
    · as_aux_lemma =>
        have hI2 := I2.out oc od
        have fxc0 : (((((((w4.alloc (.cells (ar8 xd0 xd1 xd2 xd3 xd4 xd5 xd6 xd7) 31)).alloc ob1).alloc ob2).alloc ob3).alloc ob4).alloc ob5).alloc ob6).drew.cell? ⟨w3.heap.size, 0, none⟩ = some (.int .u8 xc0) := by rw [cell_of_row _ _ 0 _ _ _ Hxc.out]; rfl
        have fxc1 : (((((((w4.alloc (.cells (ar8 xd0 xd1 xd2 xd3 xd4 xd5 xd6 xd7) 31)).alloc ob1).alloc ob2).alloc ob3).alloc ob4).alloc ob5).alloc ob6).drew.cell? ⟨w3.heap.size, 1, none⟩ = some (.int .u8 xc1) := by rw [cell_of_row _ _ 1 _ _ _ Hxc.out]; rfl
        have fxc2 : (((((((w4.alloc (.cells (ar8 xd0 xd1 xd2 xd3 xd4 xd5 xd6 xd7) 31)).alloc ob1).alloc ob2).alloc ob3).alloc ob4).alloc ob5).alloc ob6).drew.cell? ⟨w3.heap.size, 2, none⟩ = some (.int .u8 xc2) := by rw [cell_of_row _ _ 2 _ _ _ Hxc.out]; rfl
        have fxc3 : (((((((w4.alloc (.cells (ar8 xd0 xd1 xd2 xd3 xd4 xd5 xd6 xd7) 31)).alloc ob1).alloc ob2).alloc ob3).alloc ob4).alloc ob5).alloc ob6).drew.cell? ⟨w3.heap.size, 3, none⟩ = some (.int .u8 xc3) := by rw [cell_of_row _ _ 3 _ _ _ Hxc.out]; rfl
        have fxc4 : (((((((w4.alloc (.cells (ar8 xd0 xd1 xd2 xd3 xd4 xd5 xd6 xd7) 31)).alloc ob1).alloc ob2).alloc ob3).alloc ob4).alloc ob5).alloc ob6).drew.cell? ⟨w3.heap.size, 4, none⟩ = some (.int .u8 xc4) := by rw [cell_of_row _ _ 4 _ _ _ Hxc.out]; rfl
        have fxc5 : (((((((w4.alloc (.cells (ar8 xd0 xd1 xd2 xd3 xd4 xd5 xd6 xd7) 31)).alloc ob1).alloc ob2).alloc ob3).alloc ob4).alloc ob5).alloc ob6).drew.cell? ⟨w3.heap.size, 5, none⟩ = some (.int .u8 xc5) := by rw [cell_of_row _ _ 5 _ _ _ Hxc.out]; rfl
        have fxc6 : (((((((w4.alloc (.cells (ar8 xd0 xd1 xd2 xd3 xd4 xd5 xd6 xd7) 31)).alloc ob1).alloc ob2).alloc ob3).alloc ob4).alloc ob5).alloc ob6).drew.cell? ⟨w3.heap.size, 6, none⟩ = some (.int .u8 xc6) := by rw [cell_of_row _ _ 6 _ _ _ Hxc.out]; rfl
        have fxc7 : (((((((w4.alloc (.cells (ar8 xd0 xd1 xd2 xd3 xd4 xd5 xd6 xd7) 31)).alloc ob1).alloc ob2).alloc ob3).alloc ob4).alloc ob5).alloc ob6).drew.cell? ⟨w3.heap.size, 7, none⟩ = some (.int .u8 xc7) := by rw [cell_of_row _ _ 7 _ _ _ Hxc.out]; rfl
        have fxd0 : (((((((w4.alloc (.cells (ar8 xd0 xd1 xd2 xd3 xd4 xd5 xd6 xd7) 31)).alloc ob1).alloc ob2).alloc ob3).alloc ob4).alloc ob5).alloc ob6).drew.cell? ⟨w4.heap.size, 0, none⟩ = some (.int .u8 xd0) := by rw [cell_of_row _ _ 0 _ _ _ Hxd.out]; rfl
        have fxd1 : (((((((w4.alloc (.cells (ar8 xd0 xd1 xd2 xd3 xd4 xd5 xd6 xd7) 31)).alloc ob1).alloc ob2).alloc ob3).alloc ob4).alloc ob5).alloc ob6).drew.cell? ⟨w4.heap.size, 1, none⟩ = some (.int .u8 xd1) := by rw [cell_of_row _ _ 1 _ _ _ Hxd.out]; rfl
        have fxd2 : (((((((w4.alloc (.cells (ar8 xd0 xd1 xd2 xd3 xd4 xd5 xd6 xd7) 31)).alloc ob1).alloc ob2).alloc ob3).alloc ob4).alloc ob5).alloc ob6).drew.cell? ⟨w4.heap.size, 2, none⟩ = some (.int .u8 xd2) := by rw [cell_of_row _ _ 2 _ _ _ Hxd.out]; rfl
        have fxd3 : (((((((w4.alloc (.cells (ar8 xd0 xd1 xd2 xd3 xd4 xd5 xd6 xd7) 31)).alloc ob1).alloc ob2).alloc ob3).alloc ob4).alloc ob5).alloc ob6).drew.cell? ⟨w4.heap.size, 3, none⟩ = some (.int .u8 xd3) := by rw [cell_of_row _ _ 3 _ _ _ Hxd.out]; rfl
        have fxd4 : (((((((w4.alloc (.cells (ar8 xd0 xd1 xd2 xd3 xd4 xd5 xd6 xd7) 31)).alloc ob1).alloc ob2).alloc ob3).alloc ob4).alloc ob5).alloc ob6).drew.cell? ⟨w4.heap.size, 4, none⟩ = some (.int .u8 xd4) := by rw [cell_of_row _ _ 4 _ _ _ Hxd.out]; rfl
        have fxd5 : (((((((w4.alloc (.cells (ar8 xd0 xd1 xd2 xd3 xd4 xd5 xd6 xd7) 31)).alloc ob1).alloc ob2).alloc ob3).alloc ob4).alloc ob5).alloc ob6).drew.cell? ⟨w4.heap.size, 5, none⟩ = some (.int .u8 xd5) := by rw [cell_of_row _ _ 5 _ _ _ Hxd.out]; rfl
        have fxd6 : (((((((w4.alloc (.cells (ar8 xd0 xd1 xd2 xd3 xd4 xd5 xd6 xd7) 31)).alloc ob1).alloc ob2).alloc ob3).alloc ob4).alloc ob5).alloc ob6).drew.cell? ⟨w4.heap.size, 6, none⟩ = some (.int .u8 xd6) := by rw [cell_of_row _ _ 6 _ _ _ Hxd.out]; rfl
        have fxd7 : (((((((w4.alloc (.cells (ar8 xd0 xd1 xd2 xd3 xd4 xd5 xd6 xd7) 31)).alloc ob1).alloc ob2).alloc ob3).alloc ob4).alloc ob5).alloc ob6).drew.cell? ⟨w4.heap.size, 7, none⟩ = some (.int .u8 xd7) := by rw [cell_of_row _ _ 7 _ _ _ Hxd.out]; rfl
        go_wp2_with fail
        go_meet
        exact ⟨rfl, ZB, ZGC, ZGY, ZGxa, ZGxc⟩
    · as_aux_lemma =>
        go_wp2_with fail
        go_meet
        exact ⟨rfl, ZB, ZGC, ZGY, ZGxa, ZGxc⟩
    · as_aux_lemma =>
        go_wp2_with fail
        go_meet
        exact ⟨rfl, ZB, ZGC, ZGY, ZGxa, ZGxc⟩
    · as_aux_lemma =>
        go_wp2_with fail
        go_meet
        exact ⟨rfl, ZB, ZGC, ZGY, ZGxa, ZGxc⟩
    · as_aux_lemma =>
        have hI2 := I2.out oc od
        have fxc0 : (((((((w4.alloc (.cells (ar8 xd0 xd1 xd2 xd3 xd4 xd5 xd6 xd7) 31)).alloc ob1).alloc ob2).alloc ob3).alloc ob4).alloc ob5).alloc ob6).drew.cell? ⟨w3.heap.size, 0, none⟩ = some (.int .u8 xc0) := by rw [cell_of_row _ _ 0 _ _ _ Hxc.out]; rfl
        have fxc1 : (((((((w4.alloc (.cells (ar8 xd0 xd1 xd2 xd3 xd4 xd5 xd6 xd7) 31)).alloc ob1).alloc ob2).alloc ob3).alloc ob4).alloc ob5).alloc ob6).drew.cell? ⟨w3.heap.size, 1, none⟩ = some (.int .u8 xc1) := by rw [cell_of_row _ _ 1 _ _ _ Hxc.out]; rfl
        have fxc2 : (((((((w4.alloc (.cells (ar8 xd0 xd1 xd2 xd3 xd4 xd5 xd6 xd7) 31)).alloc ob1).alloc ob2).alloc ob3).alloc ob4).alloc ob5).alloc ob6).drew.cell? ⟨w3.heap.size, 2, none⟩ = some (.int .u8 xc2) := by rw [cell_of_row _ _ 2 _ _ _ Hxc.out]; rfl
        have fxc3 : (((((((w4.alloc (.cells (ar8 xd0 xd1 xd2 xd3 xd4 xd5 xd6 xd7) 31)).alloc ob1).alloc ob2).alloc ob3).alloc ob4).alloc ob5).alloc ob6).drew.cell? ⟨w3.heap.size, 3, none⟩ = some (.int .u8 xc3) := by rw [cell_of_row _ _ 3 _ _ _ Hxc.out]; rfl
        have fxc4 : (((((((w4.alloc (.cells (ar8 xd0 xd1 xd2 xd3 xd4 xd5 xd6 xd7) 31)).alloc ob1).alloc ob2).alloc ob3).alloc ob4).alloc ob5).alloc ob6).drew.cell? ⟨w3.heap.size, 4, none⟩ = some (.int .u8 xc4) := by rw [cell_of_row _ _ 4 _ _ _ Hxc.out]; rfl
        have fxc5 : (((((((w4.alloc (.cells (ar8 xd0 xd1 xd2 xd3 xd4 xd5 xd6 xd7) 31)).alloc ob1).alloc ob2).alloc ob3).alloc ob4).alloc ob5).alloc ob6).drew.cell? ⟨w3.heap.size, 5, none⟩ = some (.int .u8 xc5) := by rw [cell_of_row _ _ 5 _ _ _ Hxc.out]; rfl
        have fxc6 : (((((((w4.alloc (.cells (ar8 xd0 xd1 xd2 xd3 xd4 xd5 xd6 xd7) 31)).alloc ob1).alloc ob2).alloc ob3).alloc ob4).alloc ob5).alloc ob6).drew.cell? ⟨w3.heap.size, 6, none⟩ = some (.int .u8 xc6) := by rw [cell_of_row _ _ 6 _ _ _ Hxc.out]; rfl
        have fxc7 : (((((((w4.alloc (.cells (ar8 xd0 xd1 xd2 xd3 xd4 xd5 xd6 xd7) 31)).alloc ob1).alloc ob2).alloc ob3).alloc ob4).alloc ob5).alloc ob6).drew.cell? ⟨w3.heap.size, 7, none⟩ = some (.int .u8 xc7) := by rw [cell_of_row _ _ 7 _ _ _ Hxc.out]; rfl
        have fxd0 : (((((((w4.alloc (.cells (ar8 xd0 xd1 xd2 xd3 xd4 xd5 xd6 xd7) 31)).alloc ob1).alloc ob2).alloc ob3).alloc ob4).alloc ob5).alloc ob6).drew.cell? ⟨w4.heap.size, 0, none⟩ = some (.int .u8 xd0) := by rw [cell_of_row _ _ 0 _ _ _ Hxd.out]; rfl
        have fxd1 : (((((((w4.alloc (.cells (ar8 xd0 xd1 xd2 xd3 xd4 xd5 xd6 xd7) 31)).alloc ob1).alloc ob2).alloc ob3).alloc ob4).alloc ob5).alloc ob6).drew.cell? ⟨w4.heap.size, 1, none⟩ = some (.int .u8 xd1) := by rw [cell_of_row _ _ 1 _ _ _ Hxd.out]; rfl
        have fxd2 : (((((((w4.alloc (.cells (ar8 xd0 xd1 xd2 xd3 xd4 xd5 xd6 xd7) 31)).alloc ob1).alloc ob2).alloc ob3).alloc ob4).alloc ob5).alloc ob6).drew.cell? ⟨w4.heap.size, 2, none⟩ = some (.int .u8 xd2) := by rw [cell_of_row _ _ 2 _ _ _ Hxd.out]; rfl
        have fxd3 : (((((((w4.alloc (.cells (ar8 xd0 xd1 xd2 xd3 xd4 xd5 xd6 xd7) 31)).alloc ob1).alloc ob2).alloc ob3).alloc ob4).alloc ob5).alloc ob6).drew.cell? ⟨w4.heap.size, 3, none⟩ = some (.int .u8 xd3) := by rw [cell_of_row _ _ 3 _ _ _ Hxd.out]; rfl
        have fxd4 : (((((((w4.alloc (.cells (ar8 xd0 xd1 xd2 xd3 xd4 xd5 xd6 xd7) 31)).alloc ob1).alloc ob2).alloc ob3).alloc ob4).alloc ob5).alloc ob6).drew.cell? ⟨w4.heap.size, 4, none⟩ = some (.int .u8 xd4) := by rw [cell_of_row _ _ 4 _ _ _ Hxd.out]; rfl
        have fxd5 : (((((((w4.alloc (.cells (ar8 xd0 xd1 xd2 xd3 xd4 xd5 xd6 xd7) 31)).alloc ob1).alloc ob2).alloc ob3).alloc ob4).alloc ob5).alloc ob6).drew.cell? ⟨w4.heap.size, 5, none⟩ = some (.int .u8 xd5) := by rw [cell_of_row _ _ 5 _ _ _ Hxd.out]; rfl
        have fxd6 : (((((((w4.alloc (.cells (ar8 xd0 xd1 xd2 xd3 xd4 xd5 xd6 xd7) 31)).alloc ob1).alloc ob2).alloc ob3).alloc ob4).alloc ob5).alloc ob6).drew.cell? ⟨w4.heap.size, 6, none⟩ = some (.int .u8 xd6) := by rw [cell_of_row _ _ 6 _ _ _ Hxd.out]; rfl
        have fxd7 : (((((((w4.alloc (.cells (ar8 xd0 xd1 xd2 xd3 xd4 xd5 xd6 xd7) 31)).alloc ob1).alloc ob2).alloc ob3).alloc ob4).alloc ob5).alloc ob6).drew.cell? ⟨w4.heap.size, 7, none⟩ = some (.int .u8 xd7) := by rw [cell_of_row _ _ 7 _ _ _ Hxd.out]; rfl
        go_wp2_with fail
        go_meet
        exact ⟨rfl, ZB, ZGC, ZGY, ZGxa, ZGxc⟩
    · as_aux_lemma =>
        go_wp2_with fail
        go_meet
        exact ⟨rfl, ZB, ZGC, ZGY, ZGxa, ZGxc⟩
    · as_aux_lemma =>
        go_wp2_with fail
        go_meet
        exact ⟨rfl, ZB, ZGC, ZGY, ZGxa, ZGxc⟩
    · as_aux_lemma =>
        go_wp2_with fail
        go_meet
        exact ⟨rfl, ZB, ZGC, ZGY, ZGxa, ZGxc⟩
  case rest =>
    obtain ⟨rfl, BV, FC, FY, FA, FU⟩ := hcut
    clear Hxa Hxb Hxc Hxd
    go_upto_if 90 with fail
    go_cut [] from 16 (fun wx => Hid (Below w.heap.size w wx) ∧ Hid (wx.heap[w.heap.size]? = some (.cells (cmC k1 i1 s1 z1 n1 q1 a1 len1 cap1 t1 l1 c1 b1 e1 u1 m1 o1) 29 (0, 0))) ∧ Hid (wx.heap[w.heap.size + 1 + 1]? = some (.cells (ar8 y0 y1 y2 y3 y4 y5 y6 y7) 31 (0, 0))) ∧ Hid (wx.heap[w3.heap.size]? = some (.cells (ar8 xc0 xc1 xc2 xc3 xc4 xc5 xc6 xc7) 31 (0, 0))))
    case first =>
      rcases QA.out with ⟨oa, rfl⟩ | ⟨oa, rfl⟩
      · as_aux_lemma =>
          have exa0 : wc.cell? ⟨w1.heap.size, 0, none⟩ = some (.int .u8 xa0) := by rw [cell_of_row wc _ 0 _ _ _ FA.out]; rfl
          have exa1 : wc.cell? ⟨w1.heap.size, 1, none⟩ = some (.int .u8 xa1) := by rw [cell_of_row wc _ 1 _ _ _ FA.out]; rfl
          have exa2 : wc.cell? ⟨w1.heap.size, 2, none⟩ = some (.int .u8 xa2) := by rw [cell_of_row wc _ 2 _ _ _ FA.out]; rfl
          have exa3 : wc.cell? ⟨w1.heap.size, 3, none⟩ = some (.int .u8 xa3) := by rw [cell_of_row wc _ 3 _ _ _ FA.out]; rfl
          have exa4 : wc.cell? ⟨w1.heap.size, 4, none⟩ = some (.int .u8 xa4) := by rw [cell_of_row wc _ 4 _ _ _ FA.out]; rfl
          have exa5 : wc.cell? ⟨w1.heap.size, 5, none⟩ = some (.int .u8 xa5) := by rw [cell_of_row wc _ 5 _ _ _ FA.out]; rfl
          have exa6 : wc.cell? ⟨w1.heap.size, 6, none⟩ = some (.int .u8 xa6) := by rw [cell_of_row wc _ 6 _ _ _ FA.out]; rfl
          have exa7 : wc.cell? ⟨w1.heap.size, 7, none⟩ = some (.int .u8 xa7) := by rw [cell_of_row wc _ 7 _ _ _ FA.out]; rfl
          go_wp2_with fail
          refine (J1.out _ oa).mono ?_
          rintro r v1 ⟨a9, cap9, rfl, ht9, hb9⟩
          dsimp only at ht9 ⊢
          have hr9 := ht9.row
          clear ht9
          rw [hlen1.out]
          have BV1 : Below w.heap.size w v1 := Below.andThen BV.out hb9
          have FC1 : v1.heap[w.heap.size]? = some (.cells (cmC k1 i1 s1 z1 n1 q1 a1 len1 cap1 t1 l1 c1 b1 e1 u1 m1 o1) 29 (0, 0)) := (hb9.block _ (Array.getElem?_eq_some_iff.1 FC.out).1).trans FC.out
          have FY1 : v1.heap[w.heap.size + 1 + 1]? = some (.cells (ar8 y0 y1 y2 y3 y4 y5 y6 y7) 31 (0, 0)) := (hb9.block _ (Array.getElem?_eq_some_iff.1 FY.out).1).trans FY.out
          have FU1 : v1.heap[w3.heap.size]? = some (.cells (ar8 xc0 xc1 xc2 xc3 xc4 xc5 xc6 xc7) 31 (0, 0)) := (hb9.block _ (Array.getElem?_eq_some_iff.1 FU.out).1).trans FU.out
          have sc1 : w.heap.size < v1.heap.size := (Array.getElem?_eq_some_iff.1 FC1).1
          have sy1 : w.heap.size + 1 + 1 < v1.heap.size := (Array.getElem?_eq_some_iff.1 FY1).1
          have su1 : w3.heap.size < v1.heap.size := (Array.getElem?_eq_some_iff.1 FU1).1
          clear hb9
          go_wp2_with fail
          refine wp_region_held_drew (S := fun x => Below w.heap.size w x ∧ Below v1.heap.size v1 x ∧ x.heap[w.heap.size]? = some (.cells (cmC k1 i1 s1 z1 n1 q1 a1 len1 cap1 t1 l1 c1 b1 e1 u1 m1 o1) 29 (0, 0)) ∧ x.heap[v1.heap.size]? = some (.cells (cmC k1 i1 s1 z1 n1 q1 a9 len1 cap9 t1 l1 c1 b1 e1 u1 m1 o1) 29 (0, 0)) ∧ x.heap[w.heap.size + 1 + 1]? = some (.cells (ar8 y0 y1 y2 y3 y4 y5 y6 y7) 31 (0, 0)) ∧ x.heap[w3.heap.size]? = some (.cells (ar8 xc0 xc1 xc2 xc3 xc4 xc5 xc6 xc7) 31 (0, 0))) (by kernel_rfl) (⟨Below.drew (Below.al BV1 _), Below.drew (Below.al (Below.refl _ _) _), (heap_drew _ _).trans (ext_al FC1), (heap_drew _ _).trans (heap_new _ _), (heap_drew _ _).trans (ext_al FY1), (heap_drew _ _).trans (ext_al FU1)⟩) (fun hHeld => ?_)
          obtain ⟨hW, hV, hB, hZ, hY, hU⟩ := id hHeld
          refine wpAnyH_take (i := 0) (v := (.int .i64 0)) rfl (by kernel_rfl) (by kernel_rfl) (by kernel_rfl) (fun _ _ _ h => h) (Or.inl ⟨by rfl, ?_⟩) (by assumption) ?_
          · intro w9 hSw
            try dsimp only at hSw
            go_simp
            all_goals try decide
            all_goals try assumption
            all_goals try omega
          try simp only [Act.put, List.getElem_toArray, List.getElem_cons_succ, List.getElem_cons_zero, List.setIfInBounds_toArray, List.set_cons_zero, List.set_cons_succ]
          refine wpAnyH_take (i := 1) (v := (.bool false)) rfl (by kernel_rfl) (by kernel_rfl) (by kernel_rfl) (fun _ _ _ h => h) (Or.inl ⟨by rfl, ?_⟩) (by assumption) ?_
          · intro w9 hSw
            try dsimp only at hSw
            go_simp
            all_goals try decide
            all_goals try assumption
            all_goals try omega
          try simp only [Act.put, List.getElem_toArray, List.getElem_cons_succ, List.getElem_cons_zero, List.setIfInBounds_toArray, List.set_cons_zero, List.set_cons_succ]
          refine wpAnyH_take (i := 2) (v := (.bool false)) rfl (by kernel_rfl) (by kernel_rfl) (by kernel_rfl) (fun _ _ _ h => h) (Or.inl ⟨by rfl, ?_⟩) (by assumption) ?_
          · intro w9 hSw
            try dsimp only at hSw
            go_simp
            all_goals try decide
            all_goals try assumption
            all_goals try omega
          try simp only [Act.put, List.getElem_toArray, List.getElem_cons_succ, List.getElem_cons_zero, List.setIfInBounds_toArray, List.set_cons_zero, List.set_cons_succ]
          refine wpAnyH_take (i := 3) (v := (cmV k1 i1 s1 z1 n1 q1 a9 len1 cap9 t1 l1 c1 b1 e1 u1 m1 o1)) rfl (by kernel_rfl) (by kernel_rfl) (by kernel_rfl) (fun _ _ _ h => h) (Or.inl ⟨by rfl, ?_⟩) (by assumption) ?_
          · intro w9 hSw
            try dsimp only at hSw
            exact ex_load 29 (.tmp 16) rfl _ _ rfl (loadCM _ _ _ _ _ _ _ _ _ _ _ _ _ _ _ _ _ _ _ _ hSw.2.2.2.1)
          try simp only [Act.put, List.getElem_toArray, List.getElem_cons_succ, List.getElem_cons_zero, List.setIfInBounds_toArray, List.set_cons_zero, List.set_cons_succ]
          refine wpAnyH_take (i := 5) (v := (cmV k1 i1 s1 z1 n1 q1 a1 len1 cap1 t1 l1 c1 b1 e1 u1 m1 o1)) rfl (by kernel_rfl) (by kernel_rfl) (by kernel_rfl) (fun _ _ _ h => h) (Or.inl ⟨by rfl, ?_⟩) (by assumption) ?_
          · intro w9 hSw
            try dsimp only at hSw
            exact ex_load 29 (.tmp 3) rfl _ _ rfl (loadCM _ _ _ _ _ _ _ _ _ _ _ _ _ _ _ _ _ _ _ _ hSw.2.2.1)
          try simp only [Act.put, List.getElem_toArray, List.getElem_cons_succ, List.getElem_cons_zero, List.setIfInBounds_toArray, List.set_cons_zero, List.set_cons_succ]
          refine wpAnyH_ready (rs := [4]) (by kernel_rfl) (by simp) ?_
          refine AllReadyH.cons rfl (fun K' hK => ?_) AllReadyH.nil
          rw [if_pos (by rfl)]
          simp only [List.getElem_toArray, List.getElem_cons_succ, List.getElem_cons_zero]
          go_wp2_with fail
          refine (ref_any k1 i1 s1 z1 n1 q1 a9 len1 cap9 t1 l1 c1 b1 e1 u1 m1 o1 _).mono ?_
          rintro r ww1 ⟨rfl, ob1, ob2, rfl⟩
          try go_wp2_with fail
          refine hK.out _ _ (⟨Below.al (Below.al hW _) _, Below.al (Below.al hV _) _, ext_al (ext_al hB), ext_al (ext_al hZ), ext_al (ext_al hY), ext_al (ext_al hU)⟩) (fun hHeld => ?_)
          clear hK K'
          try simp only [Act.put, List.getElem_toArray, List.getElem_cons_succ, List.getElem_cons_zero, List.setIfInBounds_toArray, List.set_cons_zero, List.set_cons_succ]
          clear hW hV hB hZ hY hU
          obtain ⟨hW, hV, hB, hZ, hY, hU⟩ := id hHeld
          refine wpAnyH_ready (rs := [6]) (by kernel_rfl) (by simp) ?_
          refine AllReadyH.cons rfl (fun K' hK => ?_) AllReadyH.nil
          rw [if_pos (by rfl)]
          simp only [List.getElem_toArray, List.getElem_cons_succ, List.getElem_cons_zero]
          go_wp2_with fail
          refine (ref_any k1 i1 s1 z1 n1 q1 a1 len1 cap1 t1 l1 c1 b1 e1 u1 m1 o1 _).mono ?_
          rintro r ww2 ⟨rfl, ob3, ob4, rfl⟩
          try go_wp2_with fail
          refine hK.out _ _ (⟨Below.al (Below.al hW _) _, Below.al (Below.al hV _) _, ext_al (ext_al hB), ext_al (ext_al hZ), ext_al (ext_al hY), ext_al (ext_al hU)⟩) (fun hHeld => ?_)
          clear hK K'
          try simp only [Act.put, List.getElem_toArray, List.getElem_cons_succ, List.getElem_cons_zero, List.setIfInBounds_toArray, List.set_cons_zero, List.set_cons_succ]
          clear hW hV hB hZ hY hU
          obtain ⟨hW, hV, hB, hZ, hY, hU⟩ := id hHeld
          refine wpAnyH_ready (rs := [7]) (by kernel_rfl) (by simp) ?_
          refine AllReadyH.cons rfl (fun K' hK => ?_) AllReadyH.nil
          rw [if_pos (by rfl)]
          simp only [List.getElem_toArray, List.getElem_cons_succ, List.getElem_cons_zero]
          go_wp2_with fail
          refine (KB.out _ _ a9 cap9 hW rfl (hr9.next hV)).mono ?_
          rintro r ww3 ⟨rfl, ob5, ob6, rfl⟩
          try go_wp2_with fail
          refine hK.out _ _ (⟨Below.al (Below.al hW _) _, Below.al (Below.al hV _) _, ext_al (ext_al hB), ext_al (ext_al hZ), ext_al (ext_al hY), ext_al (ext_al hU)⟩) (fun hHeld => ?_)
          clear hK K'
          try simp only [Act.put, List.getElem_toArray, List.getElem_cons_succ, List.getElem_cons_zero, List.setIfInBounds_toArray, List.set_cons_zero, List.set_cons_succ]
          clear hW hV hB hZ hY hU
          obtain ⟨hW, hV, hB, hZ, hY, hU⟩ := id hHeld
          refine wpAnyH_take (i := 8) (v := (.bool false)) rfl (by kernel_rfl) (by kernel_rfl) (by kernel_rfl) (fun _ _ _ h => h) (Or.inl ⟨by rfl, ?_⟩) (by assumption) ?_
          · intro w9 hSw
            try dsimp only at hSw
            go_simp
            all_goals try decide
            all_goals try assumption
            all_goals try omega
          try simp only [Act.put, List.getElem_toArray, List.getElem_cons_succ, List.getElem_cons_zero, List.setIfInBounds_toArray, List.set_cons_zero, List.set_cons_succ]
          refine wpAnyH_take (i := 9) (v := (.bool false)) rfl (by kernel_rfl) (by kernel_rfl) (by kernel_rfl) (fun _ _ _ h => h) (Or.inl ⟨by rfl, ?_⟩) (by assumption) ?_
          · intro w9 hSw
            try dsimp only at hSw
            go_simp
            all_goals try decide
            all_goals try assumption
            all_goals try omega
          try simp only [Act.put, List.getElem_toArray, List.getElem_cons_succ, List.getElem_cons_zero, List.setIfInBounds_toArray, List.set_cons_zero, List.set_cons_succ]
          refine wpAnyH_done (by kernel_rfl) ?_ _
          go_wp2_with fail
          go_meet
          exact ⟨hW, hB, hY, hU⟩
      · as_aux_lemma =>
          go_wp2_with fail
          go_meet
          exact ⟨BV, FC, FY, FU⟩
    case rest =>
      clear BV FC FY FA FU
      obtain ⟨BV, FC, FY, FU⟩ := hcut
      go_upto_if 107 with fail
      go_cut [] from 16 (fun wx => Hid (Below w.heap.size w wx) ∧ Hid (wx.heap[w.heap.size]? = some (.cells (cmC k1 i1 s1 z1 n1 q1 a1 len1 cap1 t1 l1 c1 b1 e1 u1 m1 o1) 29 (0, 0))) ∧ Hid (wx.heap[w.heap.size + 1 + 1]? = some (.cells (ar8 y0 y1 y2 y3 y4 y5 y6 y7) 31 (0, 0))))
      case first =>
        rcases QC.out with ⟨oc, rfl⟩ | ⟨oc, rfl⟩
        · as_aux_lemma =>
            have exc0 : wc.cell? ⟨w3.heap.size, 0, none⟩ = some (.int .u8 xc0) := by rw [cell_of_row wc _ 0 _ _ _ FU.out]; rfl
            have exc1 : wc.cell? ⟨w3.heap.size, 1, none⟩ = some (.int .u8 xc1) := by rw [cell_of_row wc _ 1 _ _ _ FU.out]; rfl
            have exc2 : wc.cell? ⟨w3.heap.size, 2, none⟩ = some (.int .u8 xc2) := by rw [cell_of_row wc _ 2 _ _ _ FU.out]; rfl
            have exc3 : wc.cell? ⟨w3.heap.size, 3, none⟩ = some (.int .u8 xc3) := by rw [cell_of_row wc _ 3 _ _ _ FU.out]; rfl
            have exc4 : wc.cell? ⟨w3.heap.size, 4, none⟩ = some (.int .u8 xc4) := by rw [cell_of_row wc _ 4 _ _ _ FU.out]; rfl
            have exc5 : wc.cell? ⟨w3.heap.size, 5, none⟩ = some (.int .u8 xc5) := by rw [cell_of_row wc _ 5 _ _ _ FU.out]; rfl
            have exc6 : wc.cell? ⟨w3.heap.size, 6, none⟩ = some (.int .u8 xc6) := by rw [cell_of_row wc _ 6 _ _ _ FU.out]; rfl
            have exc7 : wc.cell? ⟨w3.heap.size, 7, none⟩ = some (.int .u8 xc7) := by rw [cell_of_row wc _ 7 _ _ _ FU.out]; rfl
            go_wp2_with fail
            refine (J2.out _ oc).mono ?_
            rintro r v1 ⟨a9, cap9, rfl, ht9, hb9⟩
            dsimp only at ht9 ⊢
            have hr9 := ht9.row
            clear ht9
            rw [hlen1.out]
            have BV1 : Below w.heap.size w v1 := Below.andThen BV.out hb9
            have FC1 : v1.heap[w.heap.size]? = some (.cells (cmC k1 i1 s1 z1 n1 q1 a1 len1 cap1 t1 l1 c1 b1 e1 u1 m1 o1) 29 (0, 0)) := (hb9.block _ (Array.getElem?_eq_some_iff.1 FC.out).1).trans FC.out
            have FY1 : v1.heap[w.heap.size + 1 + 1]? = some (.cells (ar8 y0 y1 y2 y3 y4 y5 y6 y7) 31 (0, 0)) := (hb9.block _ (Array.getElem?_eq_some_iff.1 FY.out).1).trans FY.out
            have FU1 : v1.heap[w3.heap.size]? = some (.cells (ar8 xc0 xc1 xc2 xc3 xc4 xc5 xc6 xc7) 31 (0, 0)) := (hb9.block _ (Array.getElem?_eq_some_iff.1 FU.out).1).trans FU.out
            have sc1 : w.heap.size < v1.heap.size := (Array.getElem?_eq_some_iff.1 FC1).1
            have sy1 : w.heap.size + 1 + 1 < v1.heap.size := (Array.getElem?_eq_some_iff.1 FY1).1
            have su1 : w3.heap.size < v1.heap.size := (Array.getElem?_eq_some_iff.1 FU1).1
            clear hb9
            go_wp2_with fail
            refine wp_region_held_drew (S := fun x => Below w.heap.size w x ∧ Below v1.heap.size v1 x ∧ x.heap[w.heap.size]? = some (.cells (cmC k1 i1 s1 z1 n1 q1 a1 len1 cap1 t1 l1 c1 b1 e1 u1 m1 o1) 29 (0, 0)) ∧ x.heap[v1.heap.size]? = some (.cells (cmC k1 i1 s1 z1 n1 q1 a9 len1 cap9 t1 l1 c1 b1 e1 u1 m1 o1) 29 (0, 0)) ∧ x.heap[w.heap.size + 1 + 1]? = some (.cells (ar8 y0 y1 y2 y3 y4 y5 y6 y7) 31 (0, 0))) (by kernel_rfl) (⟨Below.drew (Below.al BV1 _), Below.drew (Below.al (Below.refl _ _) _), (heap_drew _ _).trans (ext_al FC1), (heap_drew _ _).trans (heap_new _ _), (heap_drew _ _).trans (ext_al FY1)⟩) (fun hHeld => ?_)
            obtain ⟨hW, hV, hB, hZ, hY⟩ := id hHeld
            refine wpAnyH_take (i := 0) (v := (.int .i64 0)) rfl (by kernel_rfl) (by kernel_rfl) (by kernel_rfl) (fun _ _ _ h => h) (Or.inl ⟨by rfl, ?_⟩) (by assumption) ?_
            · intro w9 hSw
              try dsimp only at hSw
              go_simp
              all_goals try decide
              all_goals try assumption
              all_goals try omega
            try simp only [Act.put, List.getElem_toArray, List.getElem_cons_succ, List.getElem_cons_zero, List.setIfInBounds_toArray, List.set_cons_zero, List.set_cons_succ]
            refine wpAnyH_take (i := 1) (v := (.bool false)) rfl (by kernel_rfl) (by kernel_rfl) (by kernel_rfl) (fun _ _ _ h => h) (Or.inl ⟨by rfl, ?_⟩) (by assumption) ?_
            · intro w9 hSw
              try dsimp only at hSw
              go_simp
              all_goals try decide
              all_goals try assumption
              all_goals try omega
            try simp only [Act.put, List.getElem_toArray, List.getElem_cons_succ, List.getElem_cons_zero, List.setIfInBounds_toArray, List.set_cons_zero, List.set_cons_succ]
            refine wpAnyH_take (i := 2) (v := (.bool false)) rfl (by kernel_rfl) (by kernel_rfl) (by kernel_rfl) (fun _ _ _ h => h) (Or.inl ⟨by rfl, ?_⟩) (by assumption) ?_
            · intro w9 hSw
              try dsimp only at hSw
              go_simp
              all_goals try decide
              all_goals try assumption
              all_goals try omega
            try simp only [Act.put, List.getElem_toArray, List.getElem_cons_succ, List.getElem_cons_zero, List.setIfInBounds_toArray, List.set_cons_zero, List.set_cons_succ]
            refine wpAnyH_take (i := 3) (v := (cmV k1 i1 s1 z1 n1 q1 a9 len1 cap9 t1 l1 c1 b1 e1 u1 m1 o1)) rfl (by kernel_rfl) (by kernel_rfl) (by kernel_rfl) (fun _ _ _ h => h) (Or.inl ⟨by rfl, ?_⟩) (by assumption) ?_
            · intro w9 hSw
              try dsimp only at hSw
              exact ex_load 29 (.tmp 18) rfl _ _ rfl (loadCM _ _ _ _ _ _ _ _ _ _ _ _ _ _ _ _ _ _ _ _ hSw.2.2.2.1)
            try simp only [Act.put, List.getElem_toArray, List.getElem_cons_succ, List.getElem_cons_zero, List.setIfInBounds_toArray, List.set_cons_zero, List.set_cons_succ]
            refine wpAnyH_take (i := 5) (v := (cmV k1 i1 s1 z1 n1 q1 a1 len1 cap1 t1 l1 c1 b1 e1 u1 m1 o1)) rfl (by kernel_rfl) (by kernel_rfl) (by kernel_rfl) (fun _ _ _ h => h) (Or.inl ⟨by rfl, ?_⟩) (by assumption) ?_
            · intro w9 hSw
              try dsimp only at hSw
              exact ex_load 29 (.tmp 3) rfl _ _ rfl (loadCM _ _ _ _ _ _ _ _ _ _ _ _ _ _ _ _ _ _ _ _ hSw.2.2.1)
            try simp only [Act.put, List.getElem_toArray, List.getElem_cons_succ, List.getElem_cons_zero, List.setIfInBounds_toArray, List.set_cons_zero, List.set_cons_succ]
            refine wpAnyH_ready (rs := [4]) (by kernel_rfl) (by simp) ?_
            refine AllReadyH.cons rfl (fun K' hK => ?_) AllReadyH.nil
            rw [if_pos (by rfl)]
            simp only [List.getElem_toArray, List.getElem_cons_succ, List.getElem_cons_zero]
            go_wp2_with fail
            refine (ref_any k1 i1 s1 z1 n1 q1 a9 len1 cap9 t1 l1 c1 b1 e1 u1 m1 o1 _).mono ?_
            rintro r ww1 ⟨rfl, ob1, ob2, rfl⟩
            try go_wp2_with fail
            refine hK.out _ _ (⟨Below.al (Below.al hW _) _, Below.al (Below.al hV _) _, ext_al (ext_al hB), ext_al (ext_al hZ), ext_al (ext_al hY)⟩) (fun hHeld => ?_)
            clear hK K'
            try simp only [Act.put, List.getElem_toArray, List.getElem_cons_succ, List.getElem_cons_zero, List.setIfInBounds_toArray, List.set_cons_zero, List.set_cons_succ]
            clear hW hV hB hZ hY
            obtain ⟨hW, hV, hB, hZ, hY⟩ := id hHeld
            refine wpAnyH_ready (rs := [6]) (by kernel_rfl) (by simp) ?_
            refine AllReadyH.cons rfl (fun K' hK => ?_) AllReadyH.nil
            rw [if_pos (by rfl)]
            simp only [List.getElem_toArray, List.getElem_cons_succ, List.getElem_cons_zero]
            go_wp2_with fail
            refine (ref_any k1 i1 s1 z1 n1 q1 a1 len1 cap1 t1 l1 c1 b1 e1 u1 m1 o1 _).mono ?_
            rintro r ww2 ⟨rfl, ob3, ob4, rfl⟩
            try go_wp2_with fail
            refine hK.out _ _ (⟨Below.al (Below.al hW _) _, Below.al (Below.al hV _) _, ext_al (ext_al hB), ext_al (ext_al hZ), ext_al (ext_al hY)⟩) (fun hHeld => ?_)
            clear hK K'
            try simp only [Act.put, List.getElem_toArray, List.getElem_cons_succ, List.getElem_cons_zero, List.setIfInBounds_toArray, List.set_cons_zero, List.set_cons_succ]
            clear hW hV hB hZ hY
            obtain ⟨hW, hV, hB, hZ, hY⟩ := id hHeld
            refine wpAnyH_ready (rs := [7]) (by kernel_rfl) (by simp) ?_
            refine AllReadyH.cons rfl (fun K' hK => ?_) AllReadyH.nil
            rw [if_pos (by rfl)]
            simp only [List.getElem_toArray, List.getElem_cons_succ, List.getElem_cons_zero]
            go_wp2_with fail
            refine (KB.out _ _ a9 cap9 hW rfl (hr9.next hV)).mono ?_
            rintro r ww3 ⟨rfl, ob5, ob6, rfl⟩
            try go_wp2_with fail
            refine hK.out _ _ (⟨Below.al (Below.al hW _) _, Below.al (Below.al hV _) _, ext_al (ext_al hB), ext_al (ext_al hZ), ext_al (ext_al hY)⟩) (fun hHeld => ?_)
            clear hK K'
            try simp only [Act.put, List.getElem_toArray, List.getElem_cons_succ, List.getElem_cons_zero, List.setIfInBounds_toArray, List.set_cons_zero, List.set_cons_succ]
            clear hW hV hB hZ hY
            obtain ⟨hW, hV, hB, hZ, hY⟩ := id hHeld
            refine wpAnyH_take (i := 8) (v := (.bool false)) rfl (by kernel_rfl) (by kernel_rfl) (by kernel_rfl) (fun _ _ _ h => h) (Or.inl ⟨by rfl, ?_⟩) (by assumption) ?_
            · intro w9 hSw
              try dsimp only at hSw
              go_simp
              all_goals try decide
              all_goals try assumption
              all_goals try omega
            try simp only [Act.put, List.getElem_toArray, List.getElem_cons_succ, List.getElem_cons_zero, List.setIfInBounds_toArray, List.set_cons_zero, List.set_cons_succ]
            refine wpAnyH_take (i := 9) (v := (.bool false)) rfl (by kernel_rfl) (by kernel_rfl) (by kernel_rfl) (fun _ _ _ h => h) (Or.inl ⟨by rfl, ?_⟩) (by assumption) ?_
            · intro w9 hSw
              try dsimp only at hSw
              go_simp
              all_goals try decide
              all_goals try assumption
              all_goals try omega
            try simp only [Act.put, List.getElem_toArray, List.getElem_cons_succ, List.getElem_cons_zero, List.setIfInBounds_toArray, List.set_cons_zero, List.set_cons_succ]
            refine wpAnyH_done (by kernel_rfl) ?_ _
            go_wp2_with fail
            go_meet
            exact ⟨hW, hB, hY⟩
        · as_aux_lemma =>
            go_wp2_with fail
            go_meet
            exact ⟨BV, FC, FY⟩
      case rest =>
        clear BV FC FY FU
        obtain ⟨BV, FC, FY⟩ := hcut
        have hyy := same_me y0 y1 y2 y3 y4 y5 y6 y7
        have yw0 : wc.cell? ⟨w.heap.size + 1 + 1, 0, none⟩ = some (.int .u8 y0) := by rw [cell_of_row wc _ 0 _ _ _ FY.out]; rfl
        have yw1 : wc.cell? ⟨w.heap.size + 1 + 1, 1, none⟩ = some (.int .u8 y1) := by rw [cell_of_row wc _ 1 _ _ _ FY.out]; rfl
        have yw2 : wc.cell? ⟨w.heap.size + 1 + 1, 2, none⟩ = some (.int .u8 y2) := by rw [cell_of_row wc _ 2 _ _ _ FY.out]; rfl
        have yw3 : wc.cell? ⟨w.heap.size + 1 + 1, 3, none⟩ = some (.int .u8 y3) := by rw [cell_of_row wc _ 3 _ _ _ FY.out]; rfl
        have yw4 : wc.cell? ⟨w.heap.size + 1 + 1, 4, none⟩ = some (.int .u8 y4) := by rw [cell_of_row wc _ 4 _ _ _ FY.out]; rfl
        have yw5 : wc.cell? ⟨w.heap.size + 1 + 1, 5, none⟩ = some (.int .u8 y5) := by rw [cell_of_row wc _ 5 _ _ _ FY.out]; rfl
        have yw6 : wc.cell? ⟨w.heap.size + 1 + 1, 6, none⟩ = some (.int .u8 y6) := by rw [cell_of_row wc _ 6 _ _ _ FY.out]; rfl
        have yw7 : wc.cell? ⟨w.heap.size + 1 + 1, 7, none⟩ = some (.int .u8 y7) := by rw [cell_of_row wc _ 7 _ _ _ FY.out]; rfl
        cases O1 with
        | none =>
          go_wp2_with fail
          refine (M1.out _).mono ?_
          rintro r v1 ⟨rfl, hb9⟩
          have B1 : Below w.heap.size w v1 := Below.andThen BV.out hb9
          have Y1 : v1.heap[w.heap.size + 1 + 1]? = some (.cells (ar8 y0 y1 y2 y3 y4 y5 y6 y7) 31 (0, 0)) := (hb9.block _ (Array.getElem?_eq_some_iff.1 FY.out).1).trans FY.out
          have yv0 : v1.cell? ⟨w.heap.size + 1 + 1, 0, none⟩ = some (.int .u8 y0) := by rw [cell_of_row v1 _ 0 _ _ _ Y1]; rfl
          have yv1 : v1.cell? ⟨w.heap.size + 1 + 1, 1, none⟩ = some (.int .u8 y1) := by rw [cell_of_row v1 _ 1 _ _ _ Y1]; rfl
          have yv2 : v1.cell? ⟨w.heap.size + 1 + 1, 2, none⟩ = some (.int .u8 y2) := by rw [cell_of_row v1 _ 2 _ _ _ Y1]; rfl
          have yv3 : v1.cell? ⟨w.heap.size + 1 + 1, 3, none⟩ = some (.int .u8 y3) := by rw [cell_of_row v1 _ 3 _ _ _ Y1]; rfl
          have yv4 : v1.cell? ⟨w.heap.size + 1 + 1, 4, none⟩ = some (.int .u8 y4) := by rw [cell_of_row v1 _ 4 _ _ _ Y1]; rfl
          have yv5 : v1.cell? ⟨w.heap.size + 1 + 1, 5, none⟩ = some (.int .u8 y5) := by rw [cell_of_row v1 _ 5 _ _ _ Y1]; rfl
          have yv6 : v1.cell? ⟨w.heap.size + 1 + 1, 6, none⟩ = some (.int .u8 y6) := by rw [cell_of_row v1 _ 6 _ _ _ Y1]; rfl
          have yv7 : v1.cell? ⟨w.heap.size + 1 + 1, 7, none⟩ = some (.int .u8 y7) := by rw [cell_of_row v1 _ 7 _ _ _ Y1]; rfl
          have s1 : w.heap.size + 1 + 1 < v1.heap.size := (Array.getElem?_eq_some_iff.1 Y1).1
          clear hb9
          go_wp2_with fail
          have BX : Below w.heap.size w (v1.alloc (.cells (cmC 0 0 0 false 0 false none 0 0 false false false 0 0 0 0 0) 29)) := Below.al B1 _
          have YX : (v1.alloc (.cells (cmC 0 0 0 false 0 false none 0 0 false false false 0 0 0 0 0) 29)).heap[w.heap.size + 1 + 1]? = some (.cells (ar8 y0 y1 y2 y3 y4 y5 y6 y7) 31 (0, 0)) := (Below.heap_alloc _ _ _ s1).trans Y1
          have hPX : (v1.alloc (.cells (cmC 0 0 0 false 0 false none 0 0 false false false 0 0 0 0 0) 29)).heap[v1.heap.size]? = some (.cells (cmC 0 0 0 false 0 false none 0 0 false false false 0 0 0 0 0) 29 (0, 0)) := heap_new _ _
          cases O2 with
          | none =>
            as_aux_lemma =>
              refine (M2.out _).mono ?_
              rintro r u1 ⟨rfl, hbu⟩
              have Bu : Below w.heap.size w u1 := Below.andThen BX hbu
              have hPu : u1.heap[v1.heap.size]? = some (.cells (cmC 0 0 0 false 0 false none 0 0 false false false 0 0 0 0 0) 29 (0, 0)) := (hbu.block _ (Array.getElem?_eq_some_iff.1 hPX).1).trans hPX
              clear hbu
              go_wp2_with (refine wpList_store_by rfl 29 _ _ rfl _ _ rfl rfl (storeCM u1 (v1.heap.size) _ 0 0 0 false 0 false none 0 0 false false false 0 0 0 0 0 _ hPu rfl) ?_)
              with_reducible refine (works_any _).mono ?_
              rintro r vf ⟨rfl, hbf⟩
              have Bf : Below w.heap.size w vf := Below.andThen (below_setRow Bu (by omega) _) hbf
              go_wp2_with fail
              go_ret
              exact ⟨rfl, Bf⟩
          | some z8 =>
            as_aux_lemma =>
              obtain ⟨k8, i8, s8, z8, n8, q8, d8, t8, l8, c8, b8, e8, u8, m8, o8⟩ := z8
              refine (M2.out _).mono ?_
              rintro r u1 ⟨a8, cap8, rfl, ht8, hbu⟩
              dsimp only at ht8 ⊢
              have hN2 := fun W hr => N2.out W _ a8 cap8 rfl hr
              dsimp only at hN2
              obtain ⟨len8, hl8⟩ : ∃ len8, d8.length = len8 := ⟨_, rfl⟩
              rw [hl8] at ht8 hN2 ⊢
              have Bu : Below w.heap.size w u1 := Below.andThen BX hbu
              have hPu : u1.heap[v1.heap.size]? = some (.cells (cmC 0 0 0 false 0 false none 0 0 false false false 0 0 0 0 0) 29 (0, 0)) := (hbu.block _ (Array.getElem?_eq_some_iff.1 hPX).1).trans hPX
              have Yu : u1.heap[w.heap.size + 1 + 1]? = some (.cells (ar8 y0 y1 y2 y3 y4 y5 y6 y7) 31 (0, 0)) := (hbu.block _ (Array.getElem?_eq_some_iff.1 YX).1).trans YX
              have hPs : (u1.setRow (v1.heap.size) (cmC k8 i8 s8 z8 n8 q8 a8 len8 cap8 t8 l8 c8 b8 e8 u8 m8 o8)).heap[v1.heap.size]? = some (.cells (cmC k8 i8 s8 z8 n8 q8 a8 len8 cap8 t8 l8 c8 b8 e8 u8 m8 o8) 29 (0, 0)) := setRow_heap _ _ _ _ _ _ hPu
              have Ys : (u1.setRow (v1.heap.size) (cmC k8 i8 s8 z8 n8 q8 a8 len8 cap8 t8 l8 c8 b8 e8 u8 m8 o8)).heap[w.heap.size + 1 + 1]? = some (.cells (ar8 y0 y1 y2 y3 y4 y5 y6 y7) 31 (0, 0)) := (setRow_other _ _ _ _ (by omega)).trans Yu
              have Bs : Below w.heap.size w (u1.setRow (v1.heap.size) (cmC k8 i8 s8 z8 n8 q8 a8 len8 cap8 t8 l8 c8 b8 e8 u8 m8 o8)) := below_setRow Bu (by omega) _
              have lX := (Array.getElem?_eq_some_iff.1 hPX).1
              have HR8 : Hid (Row (u1.setRow (v1.heap.size) (cmC k8 i8 s8 z8 n8 q8 a8 len8 cap8 t8 l8 c8 b8 e8 u8 m8 o8)) a8 len8 d8) := (ht8.other (w := w) BX.size (fun g hg => setRow_other _ _ _ _ (by have h9 := Nat.lt_of_lt_of_le lX hg; omega))).row
              have HN2 := hN2 _ HR8.out
              clear ht8 hbu hN2 HR8
              go_wp2_with (first | (refine wpList_store_by rfl 29 _ _ rfl _ _ rfl rfl (storeCM u1 (v1.heap.size) _ k8 i8 s8 z8 n8 q8 a8 len8 cap8 t8 l8 c8 b8 e8 u8 m8 o8 _ hPu rfl) ?_) | (refine wpList_load_by rfl 29 _ rfl _ _ rfl (loadCM _ (v1.heap.size) k8 i8 s8 z8 n8 q8 a8 len8 cap8 t8 l8 c8 b8 e8 u8 m8 o8 _ hPs) ?_))
              refine HN2.mono ?_
              rintro r u3 ⟨rfl, hb3⟩
              have B3 : Below w.heap.size w u3 := Below.andThen Bs hb3
              have Y3 : u3.heap[w.heap.size + 1 + 1]? = some (.cells (ar8 y0 y1 y2 y3 y4 y5 y6 y7) 31 (0, 0)) := (hb3.block _ (Array.getElem?_eq_some_iff.1 Ys).1).trans Ys
              have yu0 : u3.cell? ⟨w.heap.size + 1 + 1, 0, none⟩ = some (.int .u8 y0) := by rw [cell_of_row u3 _ 0 _ _ _ Y3]; rfl
              have yu1 : u3.cell? ⟨w.heap.size + 1 + 1, 1, none⟩ = some (.int .u8 y1) := by rw [cell_of_row u3 _ 1 _ _ _ Y3]; rfl
              have yu2 : u3.cell? ⟨w.heap.size + 1 + 1, 2, none⟩ = some (.int .u8 y2) := by rw [cell_of_row u3 _ 2 _ _ _ Y3]; rfl
              have yu3 : u3.cell? ⟨w.heap.size + 1 + 1, 3, none⟩ = some (.int .u8 y3) := by rw [cell_of_row u3 _ 3 _ _ _ Y3]; rfl
              have yu4 : u3.cell? ⟨w.heap.size + 1 + 1, 4, none⟩ = some (.int .u8 y4) := by rw [cell_of_row u3 _ 4 _ _ _ Y3]; rfl
              have yu5 : u3.cell? ⟨w.heap.size + 1 + 1, 5, none⟩ = some (.int .u8 y5) := by rw [cell_of_row u3 _ 5 _ _ _ Y3]; rfl
              have yu6 : u3.cell? ⟨w.heap.size + 1 + 1, 6, none⟩ = some (.int .u8 y6) := by rw [cell_of_row u3 _ 6 _ _ _ Y3]; rfl
              have yu7 : u3.cell? ⟨w.heap.size + 1 + 1, 7, none⟩ = some (.int .u8 y7) := by rw [cell_of_row u3 _ 7 _ _ _ Y3]; rfl
              have s3 : w.heap.size + 1 + 1 < u3.heap.size := (Array.getElem?_eq_some_iff.1 Y3).1
              clear hb3 Y3 hPs Ys
              go_wp2_with fail
              with_reducible refine (works_any _).mono ?_
              rintro r vf ⟨rfl, hbf⟩
              have Bf : Below w.heap.size w vf := Below.andThen (Below.al B3 _) hbf
              go_wp2_with fail
              go_ret
              exact ⟨rfl, Bf⟩
        | some z9 =>
          obtain ⟨k9, i9, s9, z9, n9, q9, d9, t9, l9, c9, b9, e9, u9, m9, o9⟩ := z9
          go_wp2_with fail
          refine (M1.out _).mono ?_
          rintro r v1 ⟨a9, cap9, rfl, ht9, hb9⟩
          dsimp only at ht9 ⊢
          have hr9 := ht9.row
          have hN1 := fun W hr => N1.out W _ a9 cap9 rfl hr
          dsimp only at hN1
          obtain ⟨len9, hl9⟩ : ∃ len9, d9.length = len9 := ⟨_, rfl⟩
          rw [hl9] at hr9 hN1 ⊢
          clear ht9
          have B1 : Below w.heap.size w v1 := Below.andThen BV.out hb9
          have Y1 : v1.heap[w.heap.size + 1 + 1]? = some (.cells (ar8 y0 y1 y2 y3 y4 y5 y6 y7) 31 (0, 0)) := (hb9.block _ (Array.getElem?_eq_some_iff.1 FY.out).1).trans FY.out
          have yv0 : v1.cell? ⟨w.heap.size + 1 + 1, 0, none⟩ = some (.int .u8 y0) := by rw [cell_of_row v1 _ 0 _ _ _ Y1]; rfl
          have yv1 : v1.cell? ⟨w.heap.size + 1 + 1, 1, none⟩ = some (.int .u8 y1) := by rw [cell_of_row v1 _ 1 _ _ _ Y1]; rfl
          have yv2 : v1.cell? ⟨w.heap.size + 1 + 1, 2, none⟩ = some (.int .u8 y2) := by rw [cell_of_row v1 _ 2 _ _ _ Y1]; rfl
          have yv3 : v1.cell? ⟨w.heap.size + 1 + 1, 3, none⟩ = some (.int .u8 y3) := by rw [cell_of_row v1 _ 3 _ _ _ Y1]; rfl
          have yv4 : v1.cell? ⟨w.heap.size + 1 + 1, 4, none⟩ = some (.int .u8 y4) := by rw [cell_of_row v1 _ 4 _ _ _ Y1]; rfl
          have yv5 : v1.cell? ⟨w.heap.size + 1 + 1, 5, none⟩ = some (.int .u8 y5) := by rw [cell_of_row v1 _ 5 _ _ _ Y1]; rfl
          have yv6 : v1.cell? ⟨w.heap.size + 1 + 1, 6, none⟩ = some (.int .u8 y6) := by rw [cell_of_row v1 _ 6 _ _ _ Y1]; rfl
          have yv7 : v1.cell? ⟨w.heap.size + 1 + 1, 7, none⟩ = some (.int .u8 y7) := by rw [cell_of_row v1 _ 7 _ _ _ Y1]; rfl
          have s1 : w.heap.size + 1 + 1 < v1.heap.size := (Array.getElem?_eq_some_iff.1 Y1).1
          clear hb9
          have HN1 := hN1 (v1.alloc (.cells (cmC k9 i9 s9 z9 n9 q9 a9 len9 cap9 t9 l9 c9 b9 e9 u9 m9 o9) 29)) (hr9.next (by repeat (first | exact Below.refl _ _ | apply Below.drew | apply Below.al)))
          clear hN1 hr9
          go_wp2_with fail
          refine HN1.mono ?_
          rintro r v2 ⟨rfl, hb2⟩
          have B2' : Below w.heap.size w v2 := Below.andThen (Below.al B1 _) hb2
          have Y2 : v2.heap[w.heap.size + 1 + 1]? = some (.cells (ar8 y0 y1 y2 y3 y4 y5 y6 y7) 31 (0, 0)) := (hb2.block _ (by simp; omega)).trans ((Below.heap_alloc _ _ _ s1).trans Y1)
          have hP2 : v2.heap[v1.heap.size]? = some (.cells (cmC k9 i9 s9 z9 n9 q9 a9 len9 cap9 t9 l9 c9 b9 e9 u9 m9 o9) 29 (0, 0)) := (hb2.block _ (by simp)).trans (heap_new _ _)
          have yx0 : v2.cell? ⟨w.heap.size + 1 + 1, 0, none⟩ = some (.int .u8 y0) := by rw [cell_of_row v2 _ 0 _ _ _ Y2]; rfl
          have yx1 : v2.cell? ⟨w.heap.size + 1 + 1, 1, none⟩ = some (.int .u8 y1) := by rw [cell_of_row v2 _ 1 _ _ _ Y2]; rfl
          have yx2 : v2.cell? ⟨w.heap.size + 1 + 1, 2, none⟩ = some (.int .u8 y2) := by rw [cell_of_row v2 _ 2 _ _ _ Y2]; rfl
          have yx3 : v2.cell? ⟨w.heap.size + 1 + 1, 3, none⟩ = some (.int .u8 y3) := by rw [cell_of_row v2 _ 3 _ _ _ Y2]; rfl
          have yx4 : v2.cell? ⟨w.heap.size + 1 + 1, 4, none⟩ = some (.int .u8 y4) := by rw [cell_of_row v2 _ 4 _ _ _ Y2]; rfl
          have yx5 : v2.cell? ⟨w.heap.size + 1 + 1, 5, none⟩ = some (.int .u8 y5) := by rw [cell_of_row v2 _ 5 _ _ _ Y2]; rfl
          have yx6 : v2.cell? ⟨w.heap.size + 1 + 1, 6, none⟩ = some (.int .u8 y6) := by rw [cell_of_row v2 _ 6 _ _ _ Y2]; rfl
          have yx7 : v2.cell? ⟨w.heap.size + 1 + 1, 7, none⟩ = some (.int .u8 y7) := by rw [cell_of_row v2 _ 7 _ _ _ Y2]; rfl
          have s2 : w.heap.size + 1 + 1 < v2.heap.size := (Array.getElem?_eq_some_iff.1 Y2).1
          have s2' : v1.heap.size < v2.heap.size := (Array.getElem?_eq_some_iff.1 hP2).1
          clear hb2
          go_wp2_with fail
          have BX : Below w.heap.size w (v2.alloc (.cells (ar8 y0 y1 y2 y3 y4 y5 y6 y7) 31)) := Below.al B2' _
          have YX : (v2.alloc (.cells (ar8 y0 y1 y2 y3 y4 y5 y6 y7) 31)).heap[w.heap.size + 1 + 1]? = some (.cells (ar8 y0 y1 y2 y3 y4 y5 y6 y7) 31 (0, 0)) := (Below.heap_alloc _ _ _ s2).trans Y2
          have hPX : (v2.alloc (.cells (ar8 y0 y1 y2 y3 y4 y5 y6 y7) 31)).heap[v1.heap.size]? = some (.cells (cmC k9 i9 s9 z9 n9 q9 a9 len9 cap9 t9 l9 c9 b9 e9 u9 m9 o9) 29 (0, 0)) := (Below.heap_alloc _ _ _ s2').trans hP2
          cases O2 with
          | none =>
            as_aux_lemma =>
              refine (M2.out _).mono ?_
              rintro r u1 ⟨rfl, hbu⟩
              have Bu : Below w.heap.size w u1 := Below.andThen BX hbu
              have hPu : u1.heap[v1.heap.size]? = some (.cells (cmC k9 i9 s9 z9 n9 q9 a9 len9 cap9 t9 l9 c9 b9 e9 u9 m9 o9) 29 (0, 0)) := (hbu.block _ (Array.getElem?_eq_some_iff.1 hPX).1).trans hPX
              clear hbu
              go_wp2_with (refine wpList_store_by rfl 29 _ _ rfl _ _ rfl rfl (storeCM u1 (v1.heap.size) _ 0 0 0 false 0 false none 0 0 false false false 0 0 0 0 0 _ hPu rfl) ?_)
              with_reducible refine (works_any _).mono ?_
              rintro r vf ⟨rfl, hbf⟩
              have Bf : Below w.heap.size w vf := Below.andThen (below_setRow Bu (by omega) _) hbf
              go_wp2_with fail
              go_ret
              exact ⟨rfl, Bf⟩
          | some z8 =>
            as_aux_lemma =>
              obtain ⟨k8, i8, s8, z8, n8, q8, d8, t8, l8, c8, b8, e8, u8, m8, o8⟩ := z8
              refine (M2.out _).mono ?_
              rintro r u1 ⟨a8, cap8, rfl, ht8, hbu⟩
              dsimp only at ht8 ⊢
              have hN2 := fun W hr => N2.out W _ a8 cap8 rfl hr
              dsimp only at hN2
              obtain ⟨len8, hl8⟩ : ∃ len8, d8.length = len8 := ⟨_, rfl⟩
              rw [hl8] at ht8 hN2 ⊢
              have Bu : Below w.heap.size w u1 := Below.andThen BX hbu
              have hPu : u1.heap[v1.heap.size]? = some (.cells (cmC k9 i9 s9 z9 n9 q9 a9 len9 cap9 t9 l9 c9 b9 e9 u9 m9 o9) 29 (0, 0)) := (hbu.block _ (Array.getElem?_eq_some_iff.1 hPX).1).trans hPX
              have Yu : u1.heap[w.heap.size + 1 + 1]? = some (.cells (ar8 y0 y1 y2 y3 y4 y5 y6 y7) 31 (0, 0)) := (hbu.block _ (Array.getElem?_eq_some_iff.1 YX).1).trans YX
              have hPs : (u1.setRow (v1.heap.size) (cmC k8 i8 s8 z8 n8 q8 a8 len8 cap8 t8 l8 c8 b8 e8 u8 m8 o8)).heap[v1.heap.size]? = some (.cells (cmC k8 i8 s8 z8 n8 q8 a8 len8 cap8 t8 l8 c8 b8 e8 u8 m8 o8) 29 (0, 0)) := setRow_heap _ _ _ _ _ _ hPu
              have Ys : (u1.setRow (v1.heap.size) (cmC k8 i8 s8 z8 n8 q8 a8 len8 cap8 t8 l8 c8 b8 e8 u8 m8 o8)).heap[w.heap.size + 1 + 1]? = some (.cells (ar8 y0 y1 y2 y3 y4 y5 y6 y7) 31 (0, 0)) := (setRow_other _ _ _ _ (by omega)).trans Yu
              have Bs : Below w.heap.size w (u1.setRow (v1.heap.size) (cmC k8 i8 s8 z8 n8 q8 a8 len8 cap8 t8 l8 c8 b8 e8 u8 m8 o8)) := below_setRow Bu (by omega) _
              have lX := (Array.getElem?_eq_some_iff.1 hPX).1
              have HR8 : Hid (Row (u1.setRow (v1.heap.size) (cmC k8 i8 s8 z8 n8 q8 a8 len8 cap8 t8 l8 c8 b8 e8 u8 m8 o8)) a8 len8 d8) := (ht8.other (w := w) BX.size (fun g hg => setRow_other _ _ _ _ (by have h9 := Nat.lt_of_lt_of_le lX hg; omega))).row
              have HN2 := hN2 _ HR8.out
              clear ht8 hbu hN2 HR8
              go_wp2_with (first | (refine wpList_store_by rfl 29 _ _ rfl _ _ rfl rfl (storeCM u1 (v1.heap.size) _ k8 i8 s8 z8 n8 q8 a8 len8 cap8 t8 l8 c8 b8 e8 u8 m8 o8 _ hPu rfl) ?_) | (refine wpList_load_by rfl 29 _ rfl _ _ rfl (loadCM _ (v1.heap.size) k8 i8 s8 z8 n8 q8 a8 len8 cap8 t8 l8 c8 b8 e8 u8 m8 o8 _ hPs) ?_))
              refine HN2.mono ?_
              rintro r u3 ⟨rfl, hb3⟩
              have B3 : Below w.heap.size w u3 := Below.andThen Bs hb3
              have Y3 : u3.heap[w.heap.size + 1 + 1]? = some (.cells (ar8 y0 y1 y2 y3 y4 y5 y6 y7) 31 (0, 0)) := (hb3.block _ (Array.getElem?_eq_some_iff.1 Ys).1).trans Ys
              have yu0 : u3.cell? ⟨w.heap.size + 1 + 1, 0, none⟩ = some (.int .u8 y0) := by rw [cell_of_row u3 _ 0 _ _ _ Y3]; rfl
              have yu1 : u3.cell? ⟨w.heap.size + 1 + 1, 1, none⟩ = some (.int .u8 y1) := by rw [cell_of_row u3 _ 1 _ _ _ Y3]; rfl
              have yu2 : u3.cell? ⟨w.heap.size + 1 + 1, 2, none⟩ = some (.int .u8 y2) := by rw [cell_of_row u3 _ 2 _ _ _ Y3]; rfl
              have yu3 : u3.cell? ⟨w.heap.size + 1 + 1, 3, none⟩ = some (.int .u8 y3) := by rw [cell_of_row u3 _ 3 _ _ _ Y3]; rfl
              have yu4 : u3.cell? ⟨w.heap.size + 1 + 1, 4, none⟩ = some (.int .u8 y4) := by rw [cell_of_row u3 _ 4 _ _ _ Y3]; rfl
              have yu5 : u3.cell? ⟨w.heap.size + 1 + 1, 5, none⟩ = some (.int .u8 y5) := by rw [cell_of_row u3 _ 5 _ _ _ Y3]; rfl
              have yu6 : u3.cell? ⟨w.heap.size + 1 + 1, 6, none⟩ = some (.int .u8 y6) := by rw [cell_of_row u3 _ 6 _ _ _ Y3]; rfl
              have yu7 : u3.cell? ⟨w.heap.size + 1 + 1, 7, none⟩ = some (.int .u8 y7) := by rw [cell_of_row u3 _ 7 _ _ _ Y3]; rfl
              have s3 : w.heap.size + 1 + 1 < u3.heap.size := (Array.getElem?_eq_some_iff.1 Y3).1
              clear hb3 Y3 hPs Ys
              go_wp2_with fail
              with_reducible refine (works_any _).mono ?_
              rintro r vf ⟨rfl, hbf⟩
              have Bf : Below w.heap.size w vf := Below.andThen (Below.al B3 _) hbf
              go_wp2_with fail
              go_ret
              exact ⟨rfl, Bf⟩
  
#print axioms shortBack_any
end Go.Proofs.Ytgpegnpjkkofaaa
