/-
  The walk of the document's ask, where it calls another one.
-/
import Derived.Test.YtgpegnpjkkofaaaRe1
import Derived.Test.YtgpegnpjkkofaaaRf3
import Derived.Test.YtgpegnpjkkofaaaRh
import Derived.Test.YtgpegnpjkkofaaaRk
namespace Go.Proofs.Ytgpegnpjkkofaaa
open Go.RowKit

set_option linter.unusedSimpArgs false in
set_option maxHeartbeats 4000000 in
set_option maxRecDepth 100000 in
theorem rask_k1 (C : Cm) (ok : C.Ok) (hk : C.k = 1) (a : Option Addr) (cap : Nat) (hl : C.d.length ≤ 1000) (w : World) (hr : Row w a C.d.length C.d) :
    Calls Try.prog 24 #[C.v a C.d.length cap] w (QPost w (askP C)) := by
  have hA : askP C = wBegin 32 C := by unfold askP; simp [hk]
  rw [hA]
  clear hA
  have KF : Hid (∀ W, Below w.heap.size w W → Calls Try.prog 57 #[cmV C.k C.i C.s C.z C.n C.q a C.d.length cap C.t C.l C.c C.b C.e C.u C.m C.o, .int .i64 32] W (QPost W (wBegin 32 C))) := fun W hb => ropen_any 32 (by decide) C ok a cap hl W (hr.next hb)
  generalize wBegin 32 C = O at KF ⊢
  clear hr ok
  generalize C.d.length = len at KF hl ⊢
  clear hl
  obtain ⟨k, i, s, z, n, q, d, t, l, c, b, e, u, m, o⟩ := C
  dsimp only at KF hk ⊢
  subst hk
  go_enter Try.func24, Try.ntmps24
  go_wp2_with fail
  with_reducible refine (KF.out _ (by repeat (first | assumption | exact Below.refl _ _ | apply Below.drew | apply Below.al))).mono ?_
  rintro r w1 ⟨x, E, rfl, hx, hb⟩
  obtain ⟨x0, x1, x2, x3, x4, x5, x6, x7⟩ := x
  have Hx : Hid _ := hx
  have hR1 : w1.heap[w.heap.size + 1]? = some (.cells (ar8 0 0 0 0 0 0 0 0) 31 (0, 0)) := (hb.block _ (by simp)).trans (heap_at _ _ _ (by simp))
  have hW1 : Below w.heap.size w w1 := Below.andThen (by repeat (first | assumption | exact Below.refl _ _ | apply Below.drew | apply Below.al)) hb
  clear hx hb
  go_wp2_with (refine wpList_store_by rfl 31 _ _ rfl _ _ rfl rfl (store8 _ _ _ x0 x1 x2 x3 x4 x5 x6 x7 _ hR1 rfl) ?_)
  have hc := fun j => cell_of_row _ (w.heap.size + 1) j _ _ _ (setRow_heap _ _ _ (ar8 x0 x1 x2 x3 x4 x5 x6 x7) _ _ hR1)
  refine bodyPost_ret (v := .tuple #[arr8 x0 x1 x2 x3 x4 x5 x6 x7, .bool E]) ?_ rfl ⟨⟨x0, x1, x2, x3, x4, x5, x6, x7⟩, E, rfl, Hx.out, below_setRow hW1 (Nat.le_succ _) _⟩
  simp [results, Try.results24, go_sem, hc]

set_option linter.unusedSimpArgs false in
set_option maxHeartbeats 4000000 in
set_option maxRecDepth 100000 in
theorem rask_k2 (C : Cm) (ok : C.Ok) (hk : C.k = 2) (a : Option Addr) (cap : Nat) (hl : C.d.length ≤ 1000) (w : World) (hr : Row w a C.d.length C.d) :
    Calls Try.prog 24 #[C.v a C.d.length cap] w (QPost w (askP C)) := by
  have hA : askP C = wPart 0 C := by unfold askP; simp [hk]
  rw [hA]
  clear hA
  have KF : Hid (∀ W, Below w.heap.size w W → Calls Try.prog 58 #[cmV C.k C.i C.s C.z C.n C.q a C.d.length cap C.t C.l C.c C.b C.e C.u C.m C.o] W (QPost W (wPart 0 C))) := fun W hb => rpart_any C ok a cap hl W (hr.next hb)
  generalize wPart 0 C = O at KF ⊢
  clear hr ok
  generalize C.d.length = len at KF hl ⊢
  clear hl
  obtain ⟨k, i, s, z, n, q, d, t, l, c, b, e, u, m, o⟩ := C
  dsimp only at KF hk ⊢
  subst hk
  go_enter Try.func24, Try.ntmps24
  go_wp2_with fail
  with_reducible refine (KF.out _ (by repeat (first | assumption | exact Below.refl _ _ | apply Below.drew | apply Below.al))).mono ?_
  rintro r w1 ⟨x, E, rfl, hx, hb⟩
  obtain ⟨x0, x1, x2, x3, x4, x5, x6, x7⟩ := x
  have Hx : Hid _ := hx
  have hR1 : w1.heap[w.heap.size + 1]? = some (.cells (ar8 0 0 0 0 0 0 0 0) 31 (0, 0)) := (hb.block _ (by simp)).trans (heap_at _ _ _ (by simp))
  have hW1 : Below w.heap.size w w1 := Below.andThen (by repeat (first | assumption | exact Below.refl _ _ | apply Below.drew | apply Below.al)) hb
  clear hx hb
  go_wp2_with (refine wpList_store_by rfl 31 _ _ rfl _ _ rfl rfl (store8 _ _ _ x0 x1 x2 x3 x4 x5 x6 x7 _ hR1 rfl) ?_)
  have hc := fun j => cell_of_row _ (w.heap.size + 1) j _ _ _ (setRow_heap _ _ _ (ar8 x0 x1 x2 x3 x4 x5 x6 x7) _ _ hR1)
  refine bodyPost_ret (v := .tuple #[arr8 x0 x1 x2 x3 x4 x5 x6 x7, .bool E]) ?_ rfl ⟨⟨x0, x1, x2, x3, x4, x5, x6, x7⟩, E, rfl, Hx.out, below_setRow hW1 (Nat.le_succ _) _⟩
  simp [results, Try.results24, go_sem, hc]

set_option linter.unusedSimpArgs false in
set_option maxHeartbeats 4000000 in
set_option maxRecDepth 100000 in
theorem rask_k5 (C : Cm) (ok : C.Ok) (hk : C.k = 5) (a : Option Addr) (cap : Nat) (_hl : C.d.length ≤ 1000) (w : World) (hr : Row w a C.d.length C.d) :
    Calls Try.prog 24 #[C.v a C.d.length cap] w (QPost w (askP C)) := by
  have hA : askP C = wStop 128 C := by unfold askP; simp [hk]
  rw [hA]
  clear hA
  have KF : Hid (∀ W, Below w.heap.size w W → Calls Try.prog 60 #[cmV C.k C.i C.s C.z C.n C.q a C.d.length cap C.t C.l C.c C.b C.e C.u C.m C.o] W (QPost W (wStop 128 C))) := fun W hb => rstop_any C ok a cap W (hr.next hb)
  generalize wStop 128 C = O at KF ⊢
  clear hr ok
  generalize C.d.length = len at KF _hl ⊢
  clear _hl
  obtain ⟨k, i, s, z, n, q, d, t, l, c, b, e, u, m, o⟩ := C
  dsimp only at KF hk ⊢
  subst hk
  go_enter Try.func24, Try.ntmps24
  go_wp2_with fail
  with_reducible refine (KF.out _ (by repeat (first | assumption | exact Below.refl _ _ | apply Below.drew | apply Below.al))).mono ?_
  rintro r w1 ⟨x, E, rfl, hx, hb⟩
  obtain ⟨x0, x1, x2, x3, x4, x5, x6, x7⟩ := x
  have Hx : Hid _ := hx
  have hR1 : w1.heap[w.heap.size + 1]? = some (.cells (ar8 0 0 0 0 0 0 0 0) 31 (0, 0)) := (hb.block _ (by simp)).trans (heap_at _ _ _ (by simp))
  have hW1 : Below w.heap.size w w1 := Below.andThen (by repeat (first | assumption | exact Below.refl _ _ | apply Below.drew | apply Below.al)) hb
  clear hx hb
  go_wp2_with (refine wpList_store_by rfl 31 _ _ rfl _ _ rfl rfl (store8 _ _ _ x0 x1 x2 x3 x4 x5 x6 x7 _ hR1 rfl) ?_)
  have hc := fun j => cell_of_row _ (w.heap.size + 1) j _ _ _ (setRow_heap _ _ _ (ar8 x0 x1 x2 x3 x4 x5 x6 x7) _ _ hR1)
  refine bodyPost_ret (v := .tuple #[arr8 x0 x1 x2 x3 x4 x5 x6 x7, .bool E]) ?_ rfl ⟨⟨x0, x1, x2, x3, x4, x5, x6, x7⟩, E, rfl, Hx.out, below_setRow hW1 (Nat.le_succ _) _⟩
  simp [results, Try.results24, go_sem, hc]

set_option linter.unusedSimpArgs false in
set_option maxHeartbeats 4000000 in
set_option maxRecDepth 100000 in
theorem rask_k6 (C : Cm) (ok : C.Ok) (hk : C.k = 6) (a : Option Addr) (cap : Nat) (_hl : C.d.length ≤ 1000) (w : World) (hr : Row w a C.d.length C.d) :
    Calls Try.prog 24 #[C.v a C.d.length cap] w (QPost w (askP C)) := by
  have hA : askP C = wSize 192 C := by unfold askP; simp [hk]
  rw [hA]
  clear hA
  have KF : Hid (∀ W, Below w.heap.size w W → Calls Try.prog 61 #[cmV C.k C.i C.s C.z C.n C.q a C.d.length cap C.t C.l C.c C.b C.e C.u C.m C.o] W (QPost W (wSize 192 C))) := fun W hb => rsized_any C ok a cap W (hr.next hb)
  generalize wSize 192 C = O at KF ⊢
  clear hr ok
  generalize C.d.length = len at KF _hl ⊢
  clear _hl
  obtain ⟨k, i, s, z, n, q, d, t, l, c, b, e, u, m, o⟩ := C
  dsimp only at KF hk ⊢
  subst hk
  go_enter Try.func24, Try.ntmps24
  go_wp2_with fail
  with_reducible refine (KF.out _ (by repeat (first | assumption | exact Below.refl _ _ | apply Below.drew | apply Below.al))).mono ?_
  rintro r w1 ⟨x, E, rfl, hx, hb⟩
  obtain ⟨x0, x1, x2, x3, x4, x5, x6, x7⟩ := x
  have Hx : Hid _ := hx
  have hR1 : w1.heap[w.heap.size + 1]? = some (.cells (ar8 0 0 0 0 0 0 0 0) 31 (0, 0)) := (hb.block _ (by simp)).trans (heap_at _ _ _ (by simp))
  have hW1 : Below w.heap.size w w1 := Below.andThen (by repeat (first | assumption | exact Below.refl _ _ | apply Below.drew | apply Below.al)) hb
  clear hx hb
  go_wp2_with (refine wpList_store_by rfl 31 _ _ rfl _ _ rfl rfl (store8 _ _ _ x0 x1 x2 x3 x4 x5 x6 x7 _ hR1 rfl) ?_)
  have hc := fun j => cell_of_row _ (w.heap.size + 1) j _ _ _ (setRow_heap _ _ _ (ar8 x0 x1 x2 x3 x4 x5 x6 x7) _ _ hR1)
  refine bodyPost_ret (v := .tuple #[arr8 x0 x1 x2 x3 x4 x5 x6 x7, .bool E]) ?_ rfl ⟨⟨x0, x1, x2, x3, x4, x5, x6, x7⟩, E, rfl, Hx.out, below_setRow hW1 (Nat.le_succ _) _⟩
  simp [results, Try.results24, go_sem, hc]

set_option linter.unusedSimpArgs false in
set_option maxHeartbeats 4000000 in
set_option maxRecDepth 100000 in
theorem rask_k7 (C : Cm) (ok : C.Ok) (hk : C.k = 7) (a : Option Addr) (cap : Nat) (_hl : C.d.length ≤ 1000) (w : World) (hr : Row w a C.d.length C.d) :
    Calls Try.prog 24 #[C.v a C.d.length cap] w (QPost w (askP C)) := by
  have hA : askP C = wEnd 193 C := by unfold askP; simp [hk]
  rw [hA]
  clear hA
  have KF : Hid (∀ W, Below w.heap.size w W → Calls Try.prog 62 #[cmV C.k C.i C.s C.z C.n C.q a C.d.length cap C.t C.l C.c C.b C.e C.u C.m C.o] W (QPost W (wEnd 193 C))) := fun W hb => rsummed_any C ok a cap W (hr.next hb)
  generalize wEnd 193 C = O at KF ⊢
  clear hr ok
  generalize C.d.length = len at KF _hl ⊢
  clear _hl
  obtain ⟨k, i, s, z, n, q, d, t, l, c, b, e, u, m, o⟩ := C
  dsimp only at KF hk ⊢
  subst hk
  go_enter Try.func24, Try.ntmps24
  go_wp2_with fail
  with_reducible refine (KF.out _ (by repeat (first | assumption | exact Below.refl _ _ | apply Below.drew | apply Below.al))).mono ?_
  rintro r w1 ⟨x, E, rfl, hx, hb⟩
  obtain ⟨x0, x1, x2, x3, x4, x5, x6, x7⟩ := x
  have Hx : Hid _ := hx
  have hR1 : w1.heap[w.heap.size + 1]? = some (.cells (ar8 0 0 0 0 0 0 0 0) 31 (0, 0)) := (hb.block _ (by simp)).trans (heap_at _ _ _ (by simp))
  have hW1 : Below w.heap.size w w1 := Below.andThen (by repeat (first | assumption | exact Below.refl _ _ | apply Below.drew | apply Below.al)) hb
  clear hx hb
  go_wp2_with (refine wpList_store_by rfl 31 _ _ rfl _ _ rfl rfl (store8 _ _ _ x0 x1 x2 x3 x4 x5 x6 x7 _ hR1 rfl) ?_)
  have hc := fun j => cell_of_row _ (w.heap.size + 1) j _ _ _ (setRow_heap _ _ _ (ar8 x0 x1 x2 x3 x4 x5 x6 x7) _ _ hR1)
  refine bodyPost_ret (v := .tuple #[arr8 x0 x1 x2 x3 x4 x5 x6 x7, .bool E]) ?_ rfl ⟨⟨x0, x1, x2, x3, x4, x5, x6, x7⟩, E, rfl, Hx.out, below_setRow hW1 (Nat.le_succ _) _⟩
  simp [results, Try.results24, go_sem, hc]

set_option linter.unusedSimpArgs false in
set_option maxHeartbeats 4000000 in
set_option maxRecDepth 100000 in
theorem rask_k8 (C : Cm) (ok : C.Ok) (hk : C.k = 8) (a : Option Addr) (cap : Nat) (_hl : C.d.length ≤ 1000) (w : World) (hr : Row w a C.d.length C.d) :
    Calls Try.prog 24 #[C.v a C.d.length cap] w (QPost w (askP C)) := by
  have hA : askP C = wBlock 160 C := by unfold askP; simp [hk]
  rw [hA]
  clear hA
  have KF : Hid (∀ W, Below w.heap.size w W → Calls Try.prog 63 #[cmV C.k C.i C.s C.z C.n C.q a C.d.length cap C.t C.l C.c C.b C.e C.u C.m C.o] W (QPost W (wBlock 160 C))) := fun W hb => rblocked_any C ok a cap W (hr.next hb)
  generalize wBlock 160 C = O at KF ⊢
  clear hr ok
  generalize C.d.length = len at KF _hl ⊢
  clear _hl
  obtain ⟨k, i, s, z, n, q, d, t, l, c, b, e, u, m, o⟩ := C
  dsimp only at KF hk ⊢
  subst hk
  go_enter Try.func24, Try.ntmps24
  go_wp2_with fail
  with_reducible refine (KF.out _ (by repeat (first | assumption | exact Below.refl _ _ | apply Below.drew | apply Below.al))).mono ?_
  rintro r w1 ⟨x, E, rfl, hx, hb⟩
  obtain ⟨x0, x1, x2, x3, x4, x5, x6, x7⟩ := x
  have Hx : Hid _ := hx
  have hR1 : w1.heap[w.heap.size + 1]? = some (.cells (ar8 0 0 0 0 0 0 0 0) 31 (0, 0)) := (hb.block _ (by simp)).trans (heap_at _ _ _ (by simp))
  have hW1 : Below w.heap.size w w1 := Below.andThen (by repeat (first | assumption | exact Below.refl _ _ | apply Below.drew | apply Below.al)) hb
  clear hx hb
  go_wp2_with (refine wpList_store_by rfl 31 _ _ rfl _ _ rfl rfl (store8 _ _ _ x0 x1 x2 x3 x4 x5 x6 x7 _ hR1 rfl) ?_)
  have hc := fun j => cell_of_row _ (w.heap.size + 1) j _ _ _ (setRow_heap _ _ _ (ar8 x0 x1 x2 x3 x4 x5 x6 x7) _ _ hR1)
  refine bodyPost_ret (v := .tuple #[arr8 x0 x1 x2 x3 x4 x5 x6 x7, .bool E]) ?_ rfl ⟨⟨x0, x1, x2, x3, x4, x5, x6, x7⟩, E, rfl, Hx.out, below_setRow hW1 (Nat.le_succ _) _⟩
  simp [results, Try.results24, go_sem, hc]

set_option linter.unusedSimpArgs false in
set_option maxHeartbeats 4000000 in
set_option maxRecDepth 100000 in
theorem rask_k10 (C : Cm) (ok : C.Ok) (hk : C.k = 10) (a : Option Addr) (cap : Nat) (_hl : C.d.length ≤ 1000) (w : World) (hr : Row w a C.d.length C.d) :
    Calls Try.prog 24 #[C.v a C.d.length cap] w (QPost w (askP C)) := by
  have hA : askP C = wAck 162 C := by unfold askP; simp [hk]
  rw [hA]
  clear hA
  have KF : Hid (∀ W, Below w.heap.size w W → Calls Try.prog 64 #[cmV C.k C.i C.s C.z C.n C.q a C.d.length cap C.t C.l C.c C.b C.e C.u C.m C.o] W (QPost W (wAck 162 C))) := fun W hb => racked_any C ok a cap W (hr.next hb)
  generalize wAck 162 C = O at KF ⊢
  clear hr ok
  generalize C.d.length = len at KF _hl ⊢
  clear _hl
  obtain ⟨k, i, s, z, n, q, d, t, l, c, b, e, u, m, o⟩ := C
  dsimp only at KF hk ⊢
  subst hk
  go_enter Try.func24, Try.ntmps24
  go_wp2_with fail
  with_reducible refine (KF.out _ (by repeat (first | assumption | exact Below.refl _ _ | apply Below.drew | apply Below.al))).mono ?_
  rintro r w1 ⟨x, E, rfl, hx, hb⟩
  obtain ⟨x0, x1, x2, x3, x4, x5, x6, x7⟩ := x
  have Hx : Hid _ := hx
  have hR1 : w1.heap[w.heap.size + 1]? = some (.cells (ar8 0 0 0 0 0 0 0 0) 31 (0, 0)) := (hb.block _ (by simp)).trans (heap_at _ _ _ (by simp))
  have hW1 : Below w.heap.size w w1 := Below.andThen (by repeat (first | assumption | exact Below.refl _ _ | apply Below.drew | apply Below.al)) hb
  clear hx hb
  go_wp2_with (refine wpList_store_by rfl 31 _ _ rfl _ _ rfl rfl (store8 _ _ _ x0 x1 x2 x3 x4 x5 x6 x7 _ hR1 rfl) ?_)
  have hc := fun j => cell_of_row _ (w.heap.size + 1) j _ _ _ (setRow_heap _ _ _ (ar8 x0 x1 x2 x3 x4 x5 x6 x7) _ _ hR1)
  refine bodyPost_ret (v := .tuple #[arr8 x0 x1 x2 x3 x4 x5 x6 x7, .bool E]) ?_ rfl ⟨⟨x0, x1, x2, x3, x4, x5, x6, x7⟩, E, rfl, Hx.out, below_setRow hW1 (Nat.le_succ _) _⟩
  simp [results, Try.results24, go_sem, hc]

end Go.Proofs.Ytgpegnpjkkofaaa
