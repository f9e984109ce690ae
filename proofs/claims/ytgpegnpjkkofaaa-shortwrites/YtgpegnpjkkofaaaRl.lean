/-
  The document's ask.
  The document's answer.
  The document's Bytes.
-/
import Derived.Test.YtgpegnpjkkofaaaRl1
import Derived.Test.YtgpegnpjkkofaaaRl2
import Derived.Test.YtgpegnpjkkofaaaRm1
namespace Go.Proofs.Ytgpegnpjkkofaaa
open Go.RowKit

set_option linter.unusedSimpArgs false in
set_option maxHeartbeats 4000000 in
set_option maxRecDepth 100000 in
theorem rask_none (C : Cm) (h1 : ¬ C.k = 1) (h2 : ¬ C.k = 2) (h3 : ¬ C.k = 3) (h4 : ¬ C.k = 4) (h5 : ¬ C.k = 5) (h6 : ¬ C.k = 6) (h7 : ¬ C.k = 7) (h8 : ¬ C.k = 8) (h9 : ¬ C.k = 9) (h10 : ¬ C.k = 10) (h11 : ¬ C.k = 11) (a : Option Addr) (len cap : Nat) (w : World) :
    Calls Try.prog 24 #[C.v a len cap] w (QPost w none) := by
  obtain ⟨k, i, s, z, n, q, d, t, l, c, b, e, u, m, o⟩ := C
  dsimp only at h1 h2 h3 h4 h5 h6 h7 h8 h9 h10 h11 ⊢
  have b1' : (k == 1) = false := by simpa using h1
  have b2' : (k == 2) = false := by simpa using h2
  have b3' : (k == 3) = false := by simpa using h3
  have b4' : (k == 4) = false := by simpa using h4
  have b5' : (k == 5) = false := by simpa using h5
  have b6' : (k == 6) = false := by simpa using h6
  have b7' : (k == 7) = false := by simpa using h7
  have b8' : (k == 8) = false := by simpa using h8
  have b9' : (k == 9) = false := by simpa using h9
  have b10' : (k == 10) = false := by simpa using h10
  have b11' : (k == 11) = false := by simpa using h11
  clear h1 h2 h3 h4 h5 h6 h7 h8 h9 h10 h11
  go_enter Try.func24, Try.ntmps24
  go_wp2_with fail
  exact bodyPost_ret (v := .tuple #[arr8 0 0 0 0 0 0 0 0, .bool false]) (by simp [results, Try.results24, go_sem]) rfl ⟨⟨0, 0, 0, 0, 0, 0, 0, 0⟩, false, rfl, rfl, (by repeat (first | assumption | exact Below.refl _ _ | apply Below.drew | apply Below.al))⟩
theorem rask_any (C : Cm) (ok : C.Ok) (a : Option Addr) (cap : Nat) (hl : C.d.length ≤ 1000) (w : World) (hr : Row w a C.d.length C.d) :
    Calls Try.prog 24 #[C.v a C.d.length cap] w (QPost w (askP C)) := by
  by_cases h1 : C.k = 1
  · exact rask_k1 C ok h1 a cap hl w hr
  by_cases h2 : C.k = 2
  · exact rask_k2 C ok h2 a cap hl w hr
  by_cases h3 : C.k = 3
  · exact rask_k3 C ok h3 a cap w hr
  by_cases h4 : C.k = 4
  · exact rask_k4 C ok h4 a cap w hr
  by_cases h5 : C.k = 5
  · exact rask_k5 C ok h5 a cap hl w hr
  by_cases h6 : C.k = 6
  · exact rask_k6 C ok h6 a cap hl w hr
  by_cases h7 : C.k = 7
  · exact rask_k7 C ok h7 a cap hl w hr
  by_cases h8 : C.k = 8
  · exact rask_k8 C ok h8 a cap hl w hr
  by_cases h9 : C.k = 9
  · exact rask_k9 C ok h9 a cap w hr
  by_cases h10 : C.k = 10
  · exact rask_k10 C ok h10 a cap hl w hr
  by_cases h11 : C.k = 11
  · exact rask_k11 C ok h11 a cap w hr
  have hn : askP C = none := by unfold askP; simp [h1, h2, h3, h4, h5, h6, h7, h8, h9, h10, h11]
  rw [hn]
  exact rask_none C h1 h2 h3 h4 h5 h6 h7 h8 h9 h10 h11 a C.d.length cap w
#print axioms rask_any
end Go.Proofs.Ytgpegnpjkkofaaa
namespace Go.Proofs.Ytgpegnpjkkofaaa
open Go.RowKit

set_option linter.unusedSimpArgs false in
set_option maxHeartbeats 4000000 in
set_option maxRecDepth 100000 in
theorem ranswer_none (C : Cm) (h1 : ¬ C.k = 1) (h2 : ¬ C.k = 2) (h3 : ¬ C.k = 3) (h4 : ¬ C.k = 4) (h5 : ¬ C.k = 5) (h6 : ¬ C.k = 6) (h7 : ¬ C.k = 7) (h8 : ¬ C.k = 8) (h10 : ¬ C.k = 10) (h11 : ¬ C.k = 11) (a : Option Addr) (len cap : Nat) (w : World) :
    Calls Try.prog 25 #[C.v a len cap] w (QPost w none) := by
  obtain ⟨k, i, s, z, n, q, d, t, l, c, b, e, u, m, o⟩ := C
  dsimp only at h1 h2 h3 h4 h5 h6 h7 h8 h10 h11 ⊢
  have b1' : (k == 1) = false := by simpa using h1
  have b2' : (k == 2) = false := by simpa using h2
  have b3' : (k == 3) = false := by simpa using h3
  have b4' : (k == 4) = false := by simpa using h4
  have b5' : (k == 5) = false := by simpa using h5
  have b6' : (k == 6) = false := by simpa using h6
  have b7' : (k == 7) = false := by simpa using h7
  have b8' : (k == 8) = false := by simpa using h8
  have b10' : (k == 10) = false := by simpa using h10
  have b11' : (k == 11) = false := by simpa using h11
  clear h1 h2 h3 h4 h5 h6 h7 h8 h10 h11
  go_enter Try.func25, Try.ntmps25
  go_wp2_with fail
  exact bodyPost_ret (v := .tuple #[arr8 0 0 0 0 0 0 0 0, .bool false]) (by simp [results, Try.results25, go_sem]) rfl ⟨⟨0, 0, 0, 0, 0, 0, 0, 0⟩, false, rfl, rfl, (by repeat (first | assumption | exact Below.refl _ _ | apply Below.drew | apply Below.al))⟩
theorem ranswer_any (C : Cm) (ok : C.Ok) (a : Option Addr) (cap : Nat) (hl : C.d.length ≤ 1000) (w : World) (hr : Row w a C.d.length C.d) :
    Calls Try.prog 25 #[C.v a C.d.length cap] w (QPost w (ansP C)) := by
  by_cases h1 : C.k = 1
  · exact ranswer_k1 C ok h1 a cap w hr
  by_cases h2 : C.k = 2
  · exact ranswer_k2 C ok h2 a cap w hr
  by_cases h3 : C.k = 3
  · exact ranswer_k3 C ok h3 a cap hl w hr
  by_cases h4 : C.k = 4
  · exact ranswer_k4 C ok h4 a cap hl w hr
  by_cases h5 : C.k = 5
  · exact ranswer_k5 C ok h5 a cap hl w hr
  by_cases h6 : C.k = 6
  · exact ranswer_k6 C ok h6 a cap hl w hr
  by_cases h7 : C.k = 7
  · exact ranswer_k7 C ok h7 a cap w hr
  by_cases h8 : C.k = 8
  · exact ranswer_k8 C ok h8 a cap hl w hr
  by_cases h10 : C.k = 10
  · exact ranswer_k10 C ok h10 a cap hl w hr
  by_cases h11 : C.k = 11
  · exact ranswer_k11 C ok h11 a cap hl w hr
  have hn : ansP C = none := by unfold ansP; simp [h1, h2, h3, h4, h5, h6, h7, h8, h10, h11]
  rw [hn]
  exact ranswer_none C h1 h2 h3 h4 h5 h6 h7 h8 h10 h11 a C.d.length cap w
#print axioms ranswer_any
end Go.Proofs.Ytgpegnpjkkofaaa
namespace Go.Proofs.Ytgpegnpjkkofaaa
open Go.RowKit

set_option linter.unusedSimpArgs false in
set_option maxHeartbeats 4000000 in
set_option maxRecDepth 100000 in
theorem rbytes_askP (C : Cm) (ok : C.Ok) (a : Option Addr) (cap : Nat) (hl : C.d.length ≤ 1000) (w : World) (hr : Row w a C.d.length C.d) :
    Calls Try.prog 10 #[C.v a C.d.length cap, .bool false] w (BPost w (askP C)) := by
  have KF : Hid (∀ W, Below w.heap.size w W → Calls Try.prog 24 #[cmV C.k C.i C.s C.z C.n C.q a C.d.length cap C.t C.l C.c C.b C.e C.u C.m C.o] W (QPost W (askP C))) := fun W hb => rask_any C ok a cap hl W (hr.next hb)
  generalize askP C = O at KF ⊢
  clear hr ok
  generalize C.d.length = len at KF hl ⊢
  clear hl
  obtain ⟨k, i, s, z, n, q, d, t, l, c, b, e, u, m, o⟩ := C
  dsimp only at KF ⊢
  go_enter Try.func10, Try.ntmps10
  go_wp2_with fail
  with_reducible refine (KF.out _ (by repeat (first | assumption | exact Below.refl _ _ | apply Below.drew | apply Below.al))).mono ?_
  rintro r w1 ⟨x, E, rfl, hx, hb⟩
  obtain ⟨x0, x1, x2, x3, x4, x5, x6, x7⟩ := x
  have hR1 : w1.heap[w.heap.size + 1]? = some (.cells (ar8 0 0 0 0 0 0 0 0) 31 (0, 0)) := (hb.block _ (by simp)).trans (heap_at _ _ _ (by simp))
  have hB1 : w1.heap[w.heap.size]? = some (.cells (cmC k i s z n q a len cap t l c b e u m o) 36 (0, 0)) := (hb.block _ (by simp; omega)).trans (ext_al (heap_new _ _))
  have hW1 : Below w.heap.size w w1 := Below.andThen (by repeat (first | assumption | exact Below.refl _ _ | apply Below.drew | apply Below.al)) hb
  clear hb
  have Hx : Hid _ := hx
  clear hx
  cases E
  · have hR2 := ext_al (o := .cells (ar8 x0 x1 x2 x3 x4 x5 x6 x7) 31) hR1
    have hW2 := Below.al hW1 (.cells (ar8 x0 x1 x2 x3 x4 x5 x6 x7) 31)
    go_wp2_with (refine wpList_store_by rfl 31 _ _ rfl _ _ rfl rfl (store8 _ (w.heap.size + 1) (ar8 0 0 0 0 0 0 0 0) 0 0 0 0 0 0 0 0 _ hR2 rfl) ?_)
    have hc := fun j => cell_of_row _ (w.heap.size + 1) j _ _ _ (setRow_heap _ _ _ (ar8 0 0 0 0 0 0 0 0) _ _ hR2)
    have hf := below_setRow hW2 (Nat.le_succ w.heap.size) (ar8 0 0 0 0 0 0 0 0)
    refine bodyPost_ret (v := .tuple #[arr8 0 0 0 0 0 0 0 0, .int .i64 2]) ?_ rfl ?_
    · simp [results, Try.results10, go_sem, hc]
    · have e1 := Hx.out
      simp only [if_true, Bool.false_eq_true, if_false] at e1
      subst e1
      exact ⟨rfl, hf⟩
  · have hR2 := ext_al (o := .cells (ar8 x0 x1 x2 x3 x4 x5 x6 x7) 31) hR1
    have hW2 := Below.al hW1 (.cells (ar8 x0 x1 x2 x3 x4 x5 x6 x7) 31)
    go_wp2_with (refine wpList_store_by rfl 31 _ _ rfl _ _ rfl rfl (store8 _ (w.heap.size + 1) (ar8 0 0 0 0 0 0 0 0) x0 x1 x2 x3 x4 x5 x6 x7 _ hR2 rfl) ?_)
    have hc := fun j => cell_of_row _ (w.heap.size + 1) j _ _ _ (setRow_heap _ _ _ (ar8 x0 x1 x2 x3 x4 x5 x6 x7) _ _ hR2)
    have hf := below_setRow hW2 (Nat.le_succ w.heap.size) (ar8 x0 x1 x2 x3 x4 x5 x6 x7)
    refine bodyPost_ret (v := .tuple #[arr8 x0 x1 x2 x3 x4 x5 x6 x7, .int .i64 0]) ?_ rfl ?_
    · simp [results, Try.results10, go_sem, hc]
    · have e1 := Hx.out
      simp only [if_true, Bool.false_eq_true, if_false] at e1
      subst e1
      exact ⟨rfl, hf⟩
#print axioms rbytes_askP

set_option linter.unusedSimpArgs false in
set_option maxHeartbeats 4000000 in
set_option maxRecDepth 100000 in
theorem rbytes_ansP (C : Cm) (ok : C.Ok) (a : Option Addr) (cap : Nat) (hl : C.d.length ≤ 1000) (w : World) (hr : Row w a C.d.length C.d) :
    Calls Try.prog 10 #[C.v a C.d.length cap, .bool true] w (BPost w (ansP C)) := by
  have KF : Hid (∀ W, Below w.heap.size w W → Calls Try.prog 24 #[cmV C.k C.i C.s C.z C.n C.q a C.d.length cap C.t C.l C.c C.b C.e C.u C.m C.o] W (QPost W (askP C))) := fun W hb => rask_any C ok a cap hl W (hr.next hb)
  have KG : Hid (∀ W, Below w.heap.size w W → Calls Try.prog 25 #[cmV C.k C.i C.s C.z C.n C.q a C.d.length cap C.t C.l C.c C.b C.e C.u C.m C.o] W (QPost W (ansP C))) := fun W hb => ranswer_any C ok a cap hl W (hr.next hb)
  generalize askP C = O at KF
  generalize ansP C = O2 at KG ⊢
  clear hr ok
  generalize C.d.length = len at KF KG hl ⊢
  clear hl
  obtain ⟨k, i, s, z, n, q, d, t, l, c, b, e, u, m, o⟩ := C
  dsimp only at KF KG ⊢
  go_enter Try.func10, Try.ntmps10
  go_wp2_with fail
  with_reducible refine (KF.out _ (by repeat (first | assumption | exact Below.refl _ _ | apply Below.drew | apply Below.al))).mono ?_
  rintro r w1 ⟨x, E, rfl, hx, hb⟩
  obtain ⟨x0, x1, x2, x3, x4, x5, x6, x7⟩ := x
  have hR1 : w1.heap[w.heap.size + 1]? = some (.cells (ar8 0 0 0 0 0 0 0 0) 31 (0, 0)) := (hb.block _ (by simp)).trans (heap_at _ _ _ (by simp))
  have hB1 : w1.heap[w.heap.size]? = some (.cells (cmC k i s z n q a len cap t l c b e u m o) 36 (0, 0)) := (hb.block _ (by simp; omega)).trans (ext_al (heap_new _ _))
  have hW1 : Below w.heap.size w w1 := Below.andThen (by repeat (first | assumption | exact Below.refl _ _ | apply Below.drew | apply Below.al)) hb
  clear hb
  have Hx : Hid _ := hx
  clear hx
  clear Hx
  have hB2 := ext_al (o := .cells (ar8 x0 x1 x2 x3 x4 x5 x6 x7) 31) hB1
  have hR2 := ext_al (o := .cells (ar8 x0 x1 x2 x3 x4 x5 x6 x7) 31) hR1
  have h62 := heap_new w1 (.cells (ar8 x0 x1 x2 x3 x4 x5 x6 x7) 31)
  have hW2 := Below.al hW1 (.cells (ar8 x0 x1 x2 x3 x4 x5 x6 x7) 31)
  go_wp2_with (refine wpList_load_by rfl 36 _ rfl _ _ rfl (loadRC _ _ _ _ _ _ _ _ _ _ _ _ _ _ _ _ _ _ _ _ hB2) ?_)
  with_reducible refine (KG.out _ hW2).mono ?_
  rintro r w2 ⟨x, F, rfl, hx, hb⟩
  obtain ⟨z0, z1, z2, z3, z4, z5, z6, z7⟩ := x
  have Hx : Hid _ := hx
  clear hx
  have l1 := (Array.getElem?_eq_some_iff.1 hR1).1
  have hR3 := (hb.block _ (Array.getElem?_eq_some_iff.1 hR2).1).trans hR2
  have h63 := (hb.block _ (Array.getElem?_eq_some_iff.1 h62).1).trans h62
  have hW3 := Below.andThen hW2 hb
  have hR4 := (setRow_other w2 w1.heap.size (w.heap.size + 1) (ar8 z0 z1 z2 z3 z4 z5 z6 z7) (by omega)).trans hR3
  have h64 := setRow_heap _ _ _ (ar8 z0 z1 z2 z3 z4 z5 z6 z7) _ _ h63
  have hW4 := below_setRow hW3 (Nat.le_of_lt (Nat.lt_of_succ_lt l1)) (ar8 z0 z1 z2 z3 z4 z5 z6 z7)
  clear hb
  cases F
  · go_wp2_with (first | (refine wpList_store_by rfl 31 _ _ rfl _ _ rfl rfl (store8 _ (w1.heap.size) (ar8 x0 x1 x2 x3 x4 x5 x6 x7) z0 z1 z2 z3 z4 z5 z6 z7 _ h63 rfl) ?_) | (refine wpList_load_by rfl 31 _ rfl _ _ rfl (load8 _ (w1.heap.size) _ _ _ _ _ _ _ _ _ h64) ?_) | (refine wpList_store_by rfl 31 _ _ rfl _ _ rfl rfl (store8 _ (w.heap.size + 1) (ar8 0 0 0 0 0 0 0 0) 0 0 0 0 0 0 0 0 _ hR4 rfl) ?_))
    have hc := fun j => cell_of_row _ (w.heap.size + 1) j _ _ _ (setRow_heap _ _ _ (ar8 0 0 0 0 0 0 0 0) _ _ hR4)
    have hf := below_setRow hW4 (Nat.le_succ w.heap.size) (ar8 0 0 0 0 0 0 0 0)
    refine bodyPost_ret (v := .tuple #[arr8 0 0 0 0 0 0 0 0, .int .i64 2]) ?_ rfl ?_
    · simp [results, Try.results10, go_sem, hc]
    · have e1 := Hx.out
      simp only [if_true, Bool.false_eq_true, if_false] at e1
      subst e1
      exact ⟨rfl, hf⟩
  · go_wp2_with (first | (refine wpList_store_by rfl 31 _ _ rfl _ _ rfl rfl (store8 _ (w1.heap.size) (ar8 x0 x1 x2 x3 x4 x5 x6 x7) z0 z1 z2 z3 z4 z5 z6 z7 _ h63 rfl) ?_) | (refine wpList_load_by rfl 31 _ rfl _ _ rfl (load8 _ (w1.heap.size) _ _ _ _ _ _ _ _ _ h64) ?_) | (refine wpList_store_by rfl 31 _ _ rfl _ _ rfl rfl (store8 _ (w.heap.size + 1) (ar8 0 0 0 0 0 0 0 0) z0 z1 z2 z3 z4 z5 z6 z7 _ hR4 rfl) ?_))
    have hc := fun j => cell_of_row _ (w.heap.size + 1) j _ _ _ (setRow_heap _ _ _ (ar8 z0 z1 z2 z3 z4 z5 z6 z7) _ _ hR4)
    have hf := below_setRow hW4 (Nat.le_succ w.heap.size) (ar8 z0 z1 z2 z3 z4 z5 z6 z7)
    refine bodyPost_ret (v := .tuple #[arr8 z0 z1 z2 z3 z4 z5 z6 z7, .int .i64 0]) ?_ rfl ?_
    · simp [results, Try.results10, go_sem, hc]
    · have e1 := Hx.out
      simp only [if_true, Bool.false_eq_true, if_false] at e1
      subst e1
      exact ⟨rfl, hf⟩
#print axioms rbytes_ansP

end Go.Proofs.Ytgpegnpjkkofaaa
