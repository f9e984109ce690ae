/-
  The walk of the document's ask, where it calls another one.
  The walk of the document's answer, where it calls another one.
  The walk of the document's ask, where it calls no other one.
  The walk of the document's answer, where it calls no other one.
  The document's ask.
  The document's answer.
  The document's Bytes.
-/
import Derived.Test.YtlnlejdjekbipaaRe1
import Derived.Test.YtlnlejdjekbipaaRf3
import Derived.Test.YtlnlejdjekbipaaRk
import Derived.Test.YtlnlejdjekbipaaRi
import Derived.Test.YtlnlejdjekbipaaTk9
namespace Go.Proofs.Ytlnlejdjekbipaa
open Go.RowKit

set_option linter.unusedSimpArgs false in
set_option maxHeartbeats 4000000 in
set_option maxRecDepth 100000 in
theorem rask_k1 (C : Cm) (ok : C.Ok) (hk : C.k = 1) (a : Option Addr) (cap : Nat) (hl : C.d.length ≤ 1000) (w : World) (hr : Row w a C.d.length C.d) :
    Calls Try.prog 24 #[C.v a C.d.length cap] w (QPost w (askP C)) := by
  have hA : askP C = wBegin 32 C := by unfold askP; simp [hk]
  rw [hA]
  clear hA
  have KF : Hid (∀ W, Below w.heap.size w W → Calls Try.prog 57 #[cmV C.k C.i C.s C.z C.n C.q a C.d.length cap C.t C.l C.c C.b C.e C.u C.m C.o, .int .i64 32] W (QPost W (wBegin 32 C))) := fun W hb => ropen_any 32 (by decide) C ok a cap hl W (hr.next hb)
  generalize wBegin 32 C = O at KF ⊢
  clear hr ok
  generalize C.d.length = len at KF hl ⊢
  clear hl
  obtain ⟨k, i, s, z, n, q, d, t, l, c, b, e, u, m, o⟩ := C
  dsimp only at KF hk ⊢
  subst hk
  go_enter Try.func24, Try.ntmps24
  go_wp2_with fail
  with_reducible refine (KF.out _ (by repeat (first | assumption | exact Below.refl _ _ | apply Below.drew | apply Below.al))).mono ?_
  rintro r w1 ⟨x, E, rfl, hx, hb⟩
  obtain ⟨x0, x1, x2, x3, x4, x5, x6, x7⟩ := x
  have Hx : Hid _ := hx
  have hR1 : w1.heap[w.heap.size + 1]? = some (.cells (ar8 0 0 0 0 0 0 0 0) 31 (0, 0)) := (hb.block _ (by simp)).trans (heap_at _ _ _ (by simp))
  have hW1 : Below w.heap.size w w1 := Below.andThen (by repeat (first | assumption | exact Below.refl _ _ | apply Below.drew | apply Below.al)) hb
  clear hx hb
  go_wp2_with (refine wpList_store_by rfl 31 _ _ rfl _ _ rfl rfl (store8 _ _ _ x0 x1 x2 x3 x4 x5 x6 x7 _ hR1 rfl) ?_)
  have hc := fun j => cell_of_row _ (w.heap.size + 1) j _ _ _ (setRow_heap _ _ _ (ar8 x0 x1 x2 x3 x4 x5 x6 x7) _ _ hR1)
  refine bodyPost_ret (v := .tuple #[arr8 x0 x1 x2 x3 x4 x5 x6 x7, .bool E]) ?_ rfl ⟨⟨x0, x1, x2, x3, x4, x5, x6, x7⟩, E, rfl, Hx.out, below_setRow hW1 (Nat.le_succ _) _⟩
  simp [results, Try.results24, go_sem, hc]

set_option linter.unusedSimpArgs false in
set_option maxHeartbeats 4000000 in
set_option maxRecDepth 100000 in
theorem rask_k2 (C : Cm) (ok : C.Ok) (hk : C.k = 2) (a : Option Addr) (cap : Nat) (hl : C.d.length ≤ 1000) (w : World) (hr : Row w a C.d.length C.d) :
    Calls Try.prog 24 #[C.v a C.d.length cap] w (QPost w (askP C)) := by
  have hA : askP C = wPart 0 C := by unfold askP; simp [hk]
  rw [hA]
  clear hA
  have KF : Hid (∀ W, Below w.heap.size w W → Calls Try.prog 58 #[cmV C.k C.i C.s C.z C.n C.q a C.d.length cap C.t C.l C.c C.b C.e C.u C.m C.o] W (QPost W (wPart 0 C))) := fun W hb => rpart_any C ok a cap hl W (hr.next hb)
  generalize wPart 0 C = O at KF ⊢
  clear hr ok
  generalize C.d.length = len at KF hl ⊢
  clear hl
  obtain ⟨k, i, s, z, n, q, d, t, l, c, b, e, u, m, o⟩ := C
  dsimp only at KF hk ⊢
  subst hk
  go_enter Try.func24, Try.ntmps24
  go_wp2_with fail
  with_reducible refine (KF.out _ (by repeat (first | assumption | exact Below.refl _ _ | apply Below.drew | apply Below.al))).mono ?_
  rintro r w1 ⟨x, E, rfl, hx, hb⟩
  obtain ⟨x0, x1, x2, x3, x4, x5, x6, x7⟩ := x
  have Hx : Hid _ := hx
  have hR1 : w1.heap[w.heap.size + 1]? = some (.cells (ar8 0 0 0 0 0 0 0 0) 31 (0, 0)) := (hb.block _ (by simp)).trans (heap_at _ _ _ (by simp))
  have hW1 : Below w.heap.size w w1 := Below.andThen (by repeat (first | assumption | exact Below.refl _ _ | apply Below.drew | apply Below.al)) hb
  clear hx hb
  go_wp2_with (refine wpList_store_by rfl 31 _ _ rfl _ _ rfl rfl (store8 _ _ _ x0 x1 x2 x3 x4 x5 x6 x7 _ hR1 rfl) ?_)
  have hc := fun j => cell_of_row _ (w.heap.size + 1) j _ _ _ (setRow_heap _ _ _ (ar8 x0 x1 x2 x3 x4 x5 x6 x7) _ _ hR1)
  refine bodyPost_ret (v := .tuple #[arr8 x0 x1 x2 x3 x4 x5 x6 x7, .bool E]) ?_ rfl ⟨⟨x0, x1, x2, x3, x4, x5, x6, x7⟩, E, rfl, Hx.out, below_setRow hW1 (Nat.le_succ _) _⟩
  simp [results, Try.results24, go_sem, hc]

set_option linter.unusedSimpArgs false in
set_option maxHeartbeats 4000000 in
set_option maxRecDepth 100000 in
theorem rask_k5 (C : Cm) (ok : C.Ok) (hk : C.k = 5) (a : Option Addr) (cap : Nat) (_hl : C.d.length ≤ 1000) (w : World) (hr : Row w a C.d.length C.d) :
    Calls Try.prog 24 #[C.v a C.d.length cap] w (QPost w (askP C)) := by
  have hA : askP C = wStop 128 C := by unfold askP; simp [hk]
  rw [hA]
  clear hA
  have KF : Hid (∀ W, Below w.heap.size w W → Calls Try.prog 60 #[cmV C.k C.i C.s C.z C.n C.q a C.d.length cap C.t C.l C.c C.b C.e C.u C.m C.o] W (QPost W (wStop 128 C))) := fun W hb => rstop_any C ok a cap W (hr.next hb)
  generalize wStop 128 C = O at KF ⊢
  clear hr ok
  generalize C.d.length = len at KF _hl ⊢
  clear _hl
  obtain ⟨k, i, s, z, n, q, d, t, l, c, b, e, u, m, o⟩ := C
  dsimp only at KF hk ⊢
  subst hk
  go_enter Try.func24, Try.ntmps24
  go_wp2_with fail
  with_reducible refine (KF.out _ (by repeat (first | assumption | exact Below.refl _ _ | apply Below.drew | apply Below.al))).mono ?_
  rintro r w1 ⟨x, E, rfl, hx, hb⟩
  obtain ⟨x0, x1, x2, x3, x4, x5, x6, x7⟩ := x
  have Hx : Hid _ := hx
  have hR1 : w1.heap[w.heap.size + 1]? = some (.cells (ar8 0 0 0 0 0 0 0 0) 31 (0, 0)) := (hb.block _ (by simp)).trans (heap_at _ _ _ (by simp))
  have hW1 : Below w.heap.size w w1 := Below.andThen (by repeat (first | assumption | exact Below.refl _ _ | apply Below.drew | apply Below.al)) hb
  clear hx hb
  go_wp2_with (refine wpList_store_by rfl 31 _ _ rfl _ _ rfl rfl (store8 _ _ _ x0 x1 x2 x3 x4 x5 x6 x7 _ hR1 rfl) ?_)
  have hc := fun j => cell_of_row _ (w.heap.size + 1) j _ _ _ (setRow_heap _ _ _ (ar8 x0 x1 x2 x3 x4 x5 x6 x7) _ _ hR1)
  refine bodyPost_ret (v := .tuple #[arr8 x0 x1 x2 x3 x4 x5 x6 x7, .bool E]) ?_ rfl ⟨⟨x0, x1, x2, x3, x4, x5, x6, x7⟩, E, rfl, Hx.out, below_setRow hW1 (Nat.le_succ _) _⟩
  simp [results, Try.results24, go_sem, hc]

set_option linter.unusedSimpArgs false in
set_option maxHeartbeats 4000000 in
set_option maxRecDepth 100000 in
theorem rask_k6 (C : Cm) (ok : C.Ok) (hk : C.k = 6) (a : Option Addr) (cap : Nat) (_hl : C.d.length ≤ 1000) (w : World) (hr : Row w a C.d.length C.d) :
    Calls Try.prog 24 #[C.v a C.d.length cap] w (QPost w (askP C)) := by
  have hA : askP C = wSize 192 C := by unfold askP; simp [hk]
  rw [hA]
  clear hA
  have KF : Hid (∀ W, Below w.heap.size w W → Calls Try.prog 61 #[cmV C.k C.i C.s C.z C.n C.q a C.d.length cap C.t C.l C.c C.b C.e C.u C.m C.o] W (QPost W (wSize 192 C))) := fun W hb => rsized_any C ok a cap W (hr.next hb)
  generalize wSize 192 C = O at KF ⊢
  clear hr ok
  generalize C.d.length = len at KF _hl ⊢
  clear _hl
  obtain ⟨k, i, s, z, n, q, d, t, l, c, b, e, u, m, o⟩ := C
  dsimp only at KF hk ⊢
  subst hk
  go_enter Try.func24, Try.ntmps24
  go_wp2_with fail
  with_reducible refine (KF.out _ (by repeat (first | assumption | exact Below.refl _ _ | apply Below.drew | apply Below.al))).mono ?_
  rintro r w1 ⟨x, E, rfl, hx, hb⟩
  obtain ⟨x0, x1, x2, x3, x4, x5, x6, x7⟩ := x
  have Hx : Hid _ := hx
  have hR1 : w1.heap[w.heap.size + 1]? = some (.cells (ar8 0 0 0 0 0 0 0 0) 31 (0, 0)) := (hb.block _ (by simp)).trans (heap_at _ _ _ (by simp))
  have hW1 : Below w.heap.size w w1 := Below.andThen (by repeat (first | assumption | exact Below.refl _ _ | apply Below.drew | apply Below.al)) hb
  clear hx hb
  go_wp2_with (refine wpList_store_by rfl 31 _ _ rfl _ _ rfl rfl (store8 _ _ _ x0 x1 x2 x3 x4 x5 x6 x7 _ hR1 rfl) ?_)
  have hc := fun j => cell_of_row _ (w.heap.size + 1) j _ _ _ (setRow_heap _ _ _ (ar8 x0 x1 x2 x3 x4 x5 x6 x7) _ _ hR1)
  refine bodyPost_ret (v := .tuple #[arr8 x0 x1 x2 x3 x4 x5 x6 x7, .bool E]) ?_ rfl ⟨⟨x0, x1, x2, x3, x4, x5, x6, x7⟩, E, rfl, Hx.out, below_setRow hW1 (Nat.le_succ _) _⟩
  simp [results, Try.results24, go_sem, hc]

set_option linter.unusedSimpArgs false in
set_option maxHeartbeats 4000000 in
set_option maxRecDepth 100000 in
theorem rask_k7 (C : Cm) (ok : C.Ok) (hk : C.k = 7) (a : Option Addr) (cap : Nat) (_hl : C.d.length ≤ 1000) (w : World) (hr : Row w a C.d.length C.d) :
    Calls Try.prog 24 #[C.v a C.d.length cap] w (QPost w (askP C)) := by
  have hA : askP C = wEnd 193 C := by unfold askP; simp [hk]
  rw [hA]
  clear hA
  have KF : Hid (∀ W, Below w.heap.size w W → Calls Try.prog 62 #[cmV C.k C.i C.s C.z C.n C.q a C.d.length cap C.t C.l C.c C.b C.e C.u C.m C.o] W (QPost W (wEnd 193 C))) := fun W hb => rsummed_any C ok a cap W (hr.next hb)
  generalize wEnd 193 C = O at KF ⊢
  clear hr ok
  generalize C.d.length = len at KF _hl ⊢
  clear _hl
  obtain ⟨k, i, s, z, n, q, d, t, l, c, b, e, u, m, o⟩ := C
  dsimp only at KF hk ⊢
  subst hk
  go_enter Try.func24, Try.ntmps24
  go_wp2_with fail
  with_reducible refine (KF.out _ (by repeat (first | assumption | exact Below.refl _ _ | apply Below.drew | apply Below.al))).mono ?_
  rintro r w1 ⟨x, E, rfl, hx, hb⟩
  obtain ⟨x0, x1, x2, x3, x4, x5, x6, x7⟩ := x
  have Hx : Hid _ := hx
  have hR1 : w1.heap[w.heap.size + 1]? = some (.cells (ar8 0 0 0 0 0 0 0 0) 31 (0, 0)) := (hb.block _ (by simp)).trans (heap_at _ _ _ (by simp))
  have hW1 : Below w.heap.size w w1 := Below.andThen (by repeat (first | assumption | exact Below.refl _ _ | apply Below.drew | apply Below.al)) hb
  clear hx hb
  go_wp2_with (refine wpList_store_by rfl 31 _ _ rfl _ _ rfl rfl (store8 _ _ _ x0 x1 x2 x3 x4 x5 x6 x7 _ hR1 rfl) ?_)
  have hc := fun j => cell_of_row _ (w.heap.size + 1) j _ _ _ (setRow_heap _ _ _ (ar8 x0 x1 x2 x3 x4 x5 x6 x7) _ _ hR1)
  refine bodyPost_ret (v := .tuple #[arr8 x0 x1 x2 x3 x4 x5 x6 x7, .bool E]) ?_ rfl ⟨⟨x0, x1, x2, x3, x4, x5, x6, x7⟩, E, rfl, Hx.out, below_setRow hW1 (Nat.le_succ _) _⟩
  simp [results, Try.results24, go_sem, hc]

set_option linter.unusedSimpArgs false in
set_option maxHeartbeats 4000000 in
set_option maxRecDepth 100000 in
theorem rask_k8 (C : Cm) (ok : C.Ok) (hk : C.k = 8) (a : Option Addr) (cap : Nat) (_hl : C.d.length ≤ 1000) (w : World) (hr : Row w a C.d.length C.d) :
    Calls Try.prog 24 #[C.v a C.d.length cap] w (QPost w (askP C)) := by
  have hA : askP C = wBlock 160 C := by unfold askP; simp [hk]
  rw [hA]
  clear hA
  have KF : Hid (∀ W, Below w.heap.size w W → Calls Try.prog 63 #[cmV C.k C.i C.s C.z C.n C.q a C.d.length cap C.t C.l C.c C.b C.e C.u C.m C.o] W (QPost W (wBlock 160 C))) := fun W hb => rblocked_any C ok a cap W (hr.next hb)
  generalize wBlock 160 C = O at KF ⊢
  clear hr ok
  generalize C.d.length = len at KF _hl ⊢
  clear _hl
  obtain ⟨k, i, s, z, n, q, d, t, l, c, b, e, u, m, o⟩ := C
  dsimp only at KF hk ⊢
  subst hk
  go_enter Try.func24, Try.ntmps24
  go_wp2_with fail
  with_reducible refine (KF.out _ (by repeat (first | assumption | exact Below.refl _ _ | apply Below.drew | apply Below.al))).mono ?_
  rintro r w1 ⟨x, E, rfl, hx, hb⟩
  obtain ⟨x0, x1, x2, x3, x4, x5, x6, x7⟩ := x
  have Hx : Hid _ := hx
  have hR1 : w1.heap[w.heap.size + 1]? = some (.cells (ar8 0 0 0 0 0 0 0 0) 31 (0, 0)) := (hb.block _ (by simp)).trans (heap_at _ _ _ (by simp))
  have hW1 : Below w.heap.size w w1 := Below.andThen (by repeat (first | assumption | exact Below.refl _ _ | apply Below.drew | apply Below.al)) hb
  clear hx hb
  go_wp2_with (refine wpList_store_by rfl 31 _ _ rfl _ _ rfl rfl (store8 _ _ _ x0 x1 x2 x3 x4 x5 x6 x7 _ hR1 rfl) ?_)
  have hc := fun j => cell_of_row _ (w.heap.size + 1) j _ _ _ (setRow_heap _ _ _ (ar8 x0 x1 x2 x3 x4 x5 x6 x7) _ _ hR1)
  refine bodyPost_ret (v := .tuple #[arr8 x0 x1 x2 x3 x4 x5 x6 x7, .bool E]) ?_ rfl ⟨⟨x0, x1, x2, x3, x4, x5, x6, x7⟩, E, rfl, Hx.out, below_setRow hW1 (Nat.le_succ _) _⟩
  simp [results, Try.results24, go_sem, hc]

set_option linter.unusedSimpArgs false in
set_option maxHeartbeats 4000000 in
set_option maxRecDepth 100000 in
theorem rask_k10 (C : Cm) (ok : C.Ok) (hk : C.k = 10) (a : Option Addr) (cap : Nat) (_hl : C.d.length ≤ 1000) (w : World) (hr : Row w a C.d.length C.d) :
    Calls Try.prog 24 #[C.v a C.d.length cap] w (QPost w (askP C)) := by
  have hA : askP C = wAck 162 C := by unfold askP; simp [hk]
  rw [hA]
  clear hA
  have KF : Hid (∀ W, Below w.heap.size w W → Calls Try.prog 64 #[cmV C.k C.i C.s C.z C.n C.q a C.d.length cap C.t C.l C.c C.b C.e C.u C.m C.o] W (QPost W (wAck 162 C))) := fun W hb => racked_any C ok a cap W (hr.next hb)
  generalize wAck 162 C = O at KF ⊢
  clear hr ok
  generalize C.d.length = len at KF _hl ⊢
  clear _hl
  obtain ⟨k, i, s, z, n, q, d, t, l, c, b, e, u, m, o⟩ := C
  dsimp only at KF hk ⊢
  subst hk
  go_enter Try.func24, Try.ntmps24
  go_wp2_with fail
  with_reducible refine (KF.out _ (by repeat (first | assumption | exact Below.refl _ _ | apply Below.drew | apply Below.al))).mono ?_
  rintro r w1 ⟨x, E, rfl, hx, hb⟩
  obtain ⟨x0, x1, x2, x3, x4, x5, x6, x7⟩ := x
  have Hx : Hid _ := hx
  have hR1 : w1.heap[w.heap.size + 1]? = some (.cells (ar8 0 0 0 0 0 0 0 0) 31 (0, 0)) := (hb.block _ (by simp)).trans (heap_at _ _ _ (by simp))
  have hW1 : Below w.heap.size w w1 := Below.andThen (by repeat (first | assumption | exact Below.refl _ _ | apply Below.drew | apply Below.al)) hb
  clear hx hb
  go_wp2_with (refine wpList_store_by rfl 31 _ _ rfl _ _ rfl rfl (store8 _ _ _ x0 x1 x2 x3 x4 x5 x6 x7 _ hR1 rfl) ?_)
  have hc := fun j => cell_of_row _ (w.heap.size + 1) j _ _ _ (setRow_heap _ _ _ (ar8 x0 x1 x2 x3 x4 x5 x6 x7) _ _ hR1)
  refine bodyPost_ret (v := .tuple #[arr8 x0 x1 x2 x3 x4 x5 x6 x7, .bool E]) ?_ rfl ⟨⟨x0, x1, x2, x3, x4, x5, x6, x7⟩, E, rfl, Hx.out, below_setRow hW1 (Nat.le_succ _) _⟩
  simp [results, Try.results24, go_sem, hc]

end Go.Proofs.Ytlnlejdjekbipaa
namespace Go.Proofs.Ytlnlejdjekbipaa
open Go.RowKit

set_option linter.unusedSimpArgs false in
set_option maxHeartbeats 4000000 in
set_option maxRecDepth 100000 in
theorem ranswer_k3 (C : Cm) (ok : C.Ok) (hk : C.k = 3) (a : Option Addr) (cap : Nat) (hl : C.d.length ≤ 1000) (w : World) (hr : Row w a C.d.length C.d) :
    Calls Try.prog 25 #[C.v a C.d.length cap] w (QPost w (ansP C)) := by
  have hA : ansP C = wBegin 64 C := by unfold ansP; simp [hk]
  rw [hA]
  clear hA
  have KF : Hid (∀ W, Below w.heap.size w W → Calls Try.prog 57 #[cmV C.k C.i C.s C.z C.n C.q a C.d.length cap C.t C.l C.c C.b C.e C.u C.m C.o, .int .i64 64] W (QPost W (wBegin 64 C))) := fun W hb => ropen_any 64 (by decide) C ok a cap hl W (hr.next hb)
  generalize wBegin 64 C = O at KF ⊢
  clear hr ok
  generalize C.d.length = len at KF hl ⊢
  clear hl
  obtain ⟨k, i, s, z, n, q, d, t, l, c, b, e, u, m, o⟩ := C
  dsimp only at KF hk ⊢
  subst hk
  go_enter Try.func25, Try.ntmps25
  go_wp2_with fail
  with_reducible refine (KF.out _ (by repeat (first | assumption | exact Below.refl _ _ | apply Below.drew | apply Below.al))).mono ?_
  rintro r w1 ⟨x, E, rfl, hx, hb⟩
  obtain ⟨x0, x1, x2, x3, x4, x5, x6, x7⟩ := x
  have Hx : Hid _ := hx
  have hR1 : w1.heap[w.heap.size + 1]? = some (.cells (ar8 0 0 0 0 0 0 0 0) 31 (0, 0)) := (hb.block _ (by simp)).trans (heap_at _ _ _ (by simp))
  have hW1 : Below w.heap.size w w1 := Below.andThen (by repeat (first | assumption | exact Below.refl _ _ | apply Below.drew | apply Below.al)) hb
  clear hx hb
  go_wp2_with (refine wpList_store_by rfl 31 _ _ rfl _ _ rfl rfl (store8 _ _ _ x0 x1 x2 x3 x4 x5 x6 x7 _ hR1 rfl) ?_)
  have hc := fun j => cell_of_row _ (w.heap.size + 1) j _ _ _ (setRow_heap _ _ _ (ar8 x0 x1 x2 x3 x4 x5 x6 x7) _ _ hR1)
  refine bodyPost_ret (v := .tuple #[arr8 x0 x1 x2 x3 x4 x5 x6 x7, .bool E]) ?_ rfl ⟨⟨x0, x1, x2, x3, x4, x5, x6, x7⟩, E, rfl, Hx.out, below_setRow hW1 (Nat.le_succ _) _⟩
  simp [results, Try.results25, go_sem, hc]

set_option linter.unusedSimpArgs false in
set_option maxHeartbeats 4000000 in
set_option maxRecDepth 100000 in
theorem ranswer_k4 (C : Cm) (ok : C.Ok) (hk : C.k = 4) (a : Option Addr) (cap : Nat) (hl : C.d.length ≤ 1000) (w : World) (hr : Row w a C.d.length C.d) :
    Calls Try.prog 25 #[C.v a C.d.length cap] w (QPost w (ansP C)) := by
  have hA : ansP C = wPart 0 C := by unfold ansP; simp [hk]
  rw [hA]
  clear hA
  have KF : Hid (∀ W, Below w.heap.size w W → Calls Try.prog 58 #[cmV C.k C.i C.s C.z C.n C.q a C.d.length cap C.t C.l C.c C.b C.e C.u C.m C.o] W (QPost W (wPart 0 C))) := fun W hb => rpart_any C ok a cap hl W (hr.next hb)
  generalize wPart 0 C = O at KF ⊢
  clear hr ok
  generalize C.d.length = len at KF hl ⊢
  clear hl
  obtain ⟨k, i, s, z, n, q, d, t, l, c, b, e, u, m, o⟩ := C
  dsimp only at KF hk ⊢
  subst hk
  go_enter Try.func25, Try.ntmps25
  go_wp2_with fail
  with_reducible refine (KF.out _ (by repeat (first | assumption | exact Below.refl _ _ | apply Below.drew | apply Below.al))).mono ?_
  rintro r w1 ⟨x, E, rfl, hx, hb⟩
  obtain ⟨x0, x1, x2, x3, x4, x5, x6, x7⟩ := x
  have Hx : Hid _ := hx
  have hR1 : w1.heap[w.heap.size + 1]? = some (.cells (ar8 0 0 0 0 0 0 0 0) 31 (0, 0)) := (hb.block _ (by simp)).trans (heap_at _ _ _ (by simp))
  have hW1 : Below w.heap.size w w1 := Below.andThen (by repeat (first | assumption | exact Below.refl _ _ | apply Below.drew | apply Below.al)) hb
  clear hx hb
  go_wp2_with (refine wpList_store_by rfl 31 _ _ rfl _ _ rfl rfl (store8 _ _ _ x0 x1 x2 x3 x4 x5 x6 x7 _ hR1 rfl) ?_)
  have hc := fun j => cell_of_row _ (w.heap.size + 1) j _ _ _ (setRow_heap _ _ _ (ar8 x0 x1 x2 x3 x4 x5 x6 x7) _ _ hR1)
  refine bodyPost_ret (v := .tuple #[arr8 x0 x1 x2 x3 x4 x5 x6 x7, .bool E]) ?_ rfl ⟨⟨x0, x1, x2, x3, x4, x5, x6, x7⟩, E, rfl, Hx.out, below_setRow hW1 (Nat.le_succ _) _⟩
  simp [results, Try.results25, go_sem, hc]

set_option linter.unusedSimpArgs false in
set_option maxHeartbeats 4000000 in
set_option maxRecDepth 100000 in
theorem ranswer_k5 (C : Cm) (ok : C.Ok) (hk : C.k = 5) (a : Option Addr) (cap : Nat) (_hl : C.d.length ≤ 1000) (w : World) (hr : Row w a C.d.length C.d) :
    Calls Try.prog 25 #[C.v a C.d.length cap] w (QPost w (ansP C)) := by
  have hA : ansP C = wStop 128 C := by unfold ansP; simp [hk]
  rw [hA]
  clear hA
  have KF : Hid (∀ W, Below w.heap.size w W → Calls Try.prog 60 #[cmV C.k C.i C.s C.z C.n C.q a C.d.length cap C.t C.l C.c C.b C.e C.u C.m C.o] W (QPost W (wStop 128 C))) := fun W hb => rstop_any C ok a cap W (hr.next hb)
  generalize wStop 128 C = O at KF ⊢
  clear hr ok
  generalize C.d.length = len at KF _hl ⊢
  clear _hl
  obtain ⟨k, i, s, z, n, q, d, t, l, c, b, e, u, m, o⟩ := C
  dsimp only at KF hk ⊢
  subst hk
  go_enter Try.func25, Try.ntmps25
  go_wp2_with fail
  with_reducible refine (KF.out _ (by repeat (first | assumption | exact Below.refl _ _ | apply Below.drew | apply Below.al))).mono ?_
  rintro r w1 ⟨x, E, rfl, hx, hb⟩
  obtain ⟨x0, x1, x2, x3, x4, x5, x6, x7⟩ := x
  have Hx : Hid _ := hx
  have hR1 : w1.heap[w.heap.size + 1]? = some (.cells (ar8 0 0 0 0 0 0 0 0) 31 (0, 0)) := (hb.block _ (by simp)).trans (heap_at _ _ _ (by simp))
  have hW1 : Below w.heap.size w w1 := Below.andThen (by repeat (first | assumption | exact Below.refl _ _ | apply Below.drew | apply Below.al)) hb
  clear hx hb
  go_wp2_with (refine wpList_store_by rfl 31 _ _ rfl _ _ rfl rfl (store8 _ _ _ x0 x1 x2 x3 x4 x5 x6 x7 _ hR1 rfl) ?_)
  have hc := fun j => cell_of_row _ (w.heap.size + 1) j _ _ _ (setRow_heap _ _ _ (ar8 x0 x1 x2 x3 x4 x5 x6 x7) _ _ hR1)
  refine bodyPost_ret (v := .tuple #[arr8 x0 x1 x2 x3 x4 x5 x6 x7, .bool E]) ?_ rfl ⟨⟨x0, x1, x2, x3, x4, x5, x6, x7⟩, E, rfl, Hx.out, below_setRow hW1 (Nat.le_succ _) _⟩
  simp [results, Try.results25, go_sem, hc]

set_option linter.unusedSimpArgs false in
set_option maxHeartbeats 4000000 in
set_option maxRecDepth 100000 in
theorem ranswer_k6 (C : Cm) (ok : C.Ok) (hk : C.k = 6) (a : Option Addr) (cap : Nat) (_hl : C.d.length ≤ 1000) (w : World) (hr : Row w a C.d.length C.d) :
    Calls Try.prog 25 #[C.v a C.d.length cap] w (QPost w (ansP C)) := by
  have hA : ansP C = wBlock 160 C := by unfold ansP; simp [hk]
  rw [hA]
  clear hA
  have KF : Hid (∀ W, Below w.heap.size w W → Calls Try.prog 63 #[cmV C.k C.i C.s C.z C.n C.q a C.d.length cap C.t C.l C.c C.b C.e C.u C.m C.o] W (QPost W (wBlock 160 C))) := fun W hb => rblocked_any C ok a cap W (hr.next hb)
  generalize wBlock 160 C = O at KF ⊢
  clear hr ok
  generalize C.d.length = len at KF _hl ⊢
  clear _hl
  obtain ⟨k, i, s, z, n, q, d, t, l, c, b, e, u, m, o⟩ := C
  dsimp only at KF hk ⊢
  subst hk
  go_enter Try.func25, Try.ntmps25
  go_wp2_with fail
  with_reducible refine (KF.out _ (by repeat (first | assumption | exact Below.refl _ _ | apply Below.drew | apply Below.al))).mono ?_
  rintro r w1 ⟨x, E, rfl, hx, hb⟩
  obtain ⟨x0, x1, x2, x3, x4, x5, x6, x7⟩ := x
  have Hx : Hid _ := hx
  have hR1 : w1.heap[w.heap.size + 1]? = some (.cells (ar8 0 0 0 0 0 0 0 0) 31 (0, 0)) := (hb.block _ (by simp)).trans (heap_at _ _ _ (by simp))
  have hW1 : Below w.heap.size w w1 := Below.andThen (by repeat (first | assumption | exact Below.refl _ _ | apply Below.drew | apply Below.al)) hb
  clear hx hb
  go_wp2_with (refine wpList_store_by rfl 31 _ _ rfl _ _ rfl rfl (store8 _ _ _ x0 x1 x2 x3 x4 x5 x6 x7 _ hR1 rfl) ?_)
  have hc := fun j => cell_of_row _ (w.heap.size + 1) j _ _ _ (setRow_heap _ _ _ (ar8 x0 x1 x2 x3 x4 x5 x6 x7) _ _ hR1)
  refine bodyPost_ret (v := .tuple #[arr8 x0 x1 x2 x3 x4 x5 x6 x7, .bool E]) ?_ rfl ⟨⟨x0, x1, x2, x3, x4, x5, x6, x7⟩, E, rfl, Hx.out, below_setRow hW1 (Nat.le_succ _) _⟩
  simp [results, Try.results25, go_sem, hc]

set_option linter.unusedSimpArgs false in
set_option maxHeartbeats 4000000 in
set_option maxRecDepth 100000 in
theorem ranswer_k8 (C : Cm) (ok : C.Ok) (hk : C.k = 8) (a : Option Addr) (cap : Nat) (_hl : C.d.length ≤ 1000) (w : World) (hr : Row w a C.d.length C.d) :
    Calls Try.prog 25 #[C.v a C.d.length cap] w (QPost w (ansP C)) := by
  have hA : ansP C = wSize 192 C := by unfold ansP; simp [hk]
  rw [hA]
  clear hA
  have KF : Hid (∀ W, Below w.heap.size w W → Calls Try.prog 61 #[cmV C.k C.i C.s C.z C.n C.q a C.d.length cap C.t C.l C.c C.b C.e C.u C.m C.o] W (QPost W (wSize 192 C))) := fun W hb => rsized_any C ok a cap W (hr.next hb)
  generalize wSize 192 C = O at KF ⊢
  clear hr ok
  generalize C.d.length = len at KF _hl ⊢
  clear _hl
  obtain ⟨k, i, s, z, n, q, d, t, l, c, b, e, u, m, o⟩ := C
  dsimp only at KF hk ⊢
  subst hk
  go_enter Try.func25, Try.ntmps25
  go_wp2_with fail
  with_reducible refine (KF.out _ (by repeat (first | assumption | exact Below.refl _ _ | apply Below.drew | apply Below.al))).mono ?_
  rintro r w1 ⟨x, E, rfl, hx, hb⟩
  obtain ⟨x0, x1, x2, x3, x4, x5, x6, x7⟩ := x
  have Hx : Hid _ := hx
  have hR1 : w1.heap[w.heap.size + 1]? = some (.cells (ar8 0 0 0 0 0 0 0 0) 31 (0, 0)) := (hb.block _ (by simp)).trans (heap_at _ _ _ (by simp))
  have hW1 : Below w.heap.size w w1 := Below.andThen (by repeat (first | assumption | exact Below.refl _ _ | apply Below.drew | apply Below.al)) hb
  clear hx hb
  go_wp2_with (refine wpList_store_by rfl 31 _ _ rfl _ _ rfl rfl (store8 _ _ _ x0 x1 x2 x3 x4 x5 x6 x7 _ hR1 rfl) ?_)
  have hc := fun j => cell_of_row _ (w.heap.size + 1) j _ _ _ (setRow_heap _ _ _ (ar8 x0 x1 x2 x3 x4 x5 x6 x7) _ _ hR1)
  refine bodyPost_ret (v := .tuple #[arr8 x0 x1 x2 x3 x4 x5 x6 x7, .bool E]) ?_ rfl ⟨⟨x0, x1, x2, x3, x4, x5, x6, x7⟩, E, rfl, Hx.out, below_setRow hW1 (Nat.le_succ _) _⟩
  simp [results, Try.results25, go_sem, hc]

set_option linter.unusedSimpArgs false in
set_option maxHeartbeats 4000000 in
set_option maxRecDepth 100000 in
theorem ranswer_k10 (C : Cm) (ok : C.Ok) (hk : C.k = 10) (a : Option Addr) (cap : Nat) (_hl : C.d.length ≤ 1000) (w : World) (hr : Row w a C.d.length C.d) :
    Calls Try.prog 25 #[C.v a C.d.length cap] w (QPost w (ansP C)) := by
  have hA : ansP C = wAck 162 C := by unfold ansP; simp [hk]
  rw [hA]
  clear hA
  have KF : Hid (∀ W, Below w.heap.size w W → Calls Try.prog 64 #[cmV C.k C.i C.s C.z C.n C.q a C.d.length cap C.t C.l C.c C.b C.e C.u C.m C.o] W (QPost W (wAck 162 C))) := fun W hb => racked_any C ok a cap W (hr.next hb)
  generalize wAck 162 C = O at KF ⊢
  clear hr ok
  generalize C.d.length = len at KF _hl ⊢
  clear _hl
  obtain ⟨k, i, s, z, n, q, d, t, l, c, b, e, u, m, o⟩ := C
  dsimp only at KF hk ⊢
  subst hk
  go_enter Try.func25, Try.ntmps25
  go_wp2_with fail
  with_reducible refine (KF.out _ (by repeat (first | assumption | exact Below.refl _ _ | apply Below.drew | apply Below.al))).mono ?_
  rintro r w1 ⟨x, E, rfl, hx, hb⟩
  obtain ⟨x0, x1, x2, x3, x4, x5, x6, x7⟩ := x
  have Hx : Hid _ := hx
  have hR1 : w1.heap[w.heap.size + 1]? = some (.cells (ar8 0 0 0 0 0 0 0 0) 31 (0, 0)) := (hb.block _ (by simp)).trans (heap_at _ _ _ (by simp))
  have hW1 : Below w.heap.size w w1 := Below.andThen (by repeat (first | assumption | exact Below.refl _ _ | apply Below.drew | apply Below.al)) hb
  clear hx hb
  go_wp2_with (refine wpList_store_by rfl 31 _ _ rfl _ _ rfl rfl (store8 _ _ _ x0 x1 x2 x3 x4 x5 x6 x7 _ hR1 rfl) ?_)
  have hc := fun j => cell_of_row _ (w.heap.size + 1) j _ _ _ (setRow_heap _ _ _ (ar8 x0 x1 x2 x3 x4 x5 x6 x7) _ _ hR1)
  refine bodyPost_ret (v := .tuple #[arr8 x0 x1 x2 x3 x4 x5 x6 x7, .bool E]) ?_ rfl ⟨⟨x0, x1, x2, x3, x4, x5, x6, x7⟩, E, rfl, Hx.out, below_setRow hW1 (Nat.le_succ _) _⟩
  simp [results, Try.results25, go_sem, hc]

set_option linter.unusedSimpArgs false in
set_option maxHeartbeats 4000000 in
set_option maxRecDepth 100000 in
theorem ranswer_k11 (C : Cm) (ok : C.Ok) (hk : C.k = 11) (a : Option Addr) (cap : Nat) (_hl : C.d.length ≤ 1000) (w : World) (hr : Row w a C.d.length C.d) :
    Calls Try.prog 25 #[C.v a C.d.length cap] w (QPost w (ansP C)) := by
  have hA : ansP C = wEnd 193 C := by unfold ansP; simp [hk]
  rw [hA]
  clear hA
  have KF : Hid (∀ W, Below w.heap.size w W → Calls Try.prog 62 #[cmV C.k C.i C.s C.z C.n C.q a C.d.length cap C.t C.l C.c C.b C.e C.u C.m C.o] W (QPost W (wEnd 193 C))) := fun W hb => rsummed_any C ok a cap W (hr.next hb)
  generalize wEnd 193 C = O at KF ⊢
  clear hr ok
  generalize C.d.length = len at KF _hl ⊢
  clear _hl
  obtain ⟨k, i, s, z, n, q, d, t, l, c, b, e, u, m, o⟩ := C
  dsimp only at KF hk ⊢
  subst hk
  go_enter Try.func25, Try.ntmps25
  go_wp2_with fail
  with_reducible refine (KF.out _ (by repeat (first | assumption | exact Below.refl _ _ | apply Below.drew | apply Below.al))).mono ?_
  rintro r w1 ⟨x, E, rfl, hx, hb⟩
  obtain ⟨x0, x1, x2, x3, x4, x5, x6, x7⟩ := x
  have Hx : Hid _ := hx
  have hR1 : w1.heap[w.heap.size + 1]? = some (.cells (ar8 0 0 0 0 0 0 0 0) 31 (0, 0)) := (hb.block _ (by simp)).trans (heap_at _ _ _ (by simp))
  have hW1 : Below w.heap.size w w1 := Below.andThen (by repeat (first | assumption | exact Below.refl _ _ | apply Below.drew | apply Below.al)) hb
  clear hx hb
  go_wp2_with (refine wpList_store_by rfl 31 _ _ rfl _ _ rfl rfl (store8 _ _ _ x0 x1 x2 x3 x4 x5 x6 x7 _ hR1 rfl) ?_)
  have hc := fun j => cell_of_row _ (w.heap.size + 1) j _ _ _ (setRow_heap _ _ _ (ar8 x0 x1 x2 x3 x4 x5 x6 x7) _ _ hR1)
  refine bodyPost_ret (v := .tuple #[arr8 x0 x1 x2 x3 x4 x5 x6 x7, .bool E]) ?_ rfl ⟨⟨x0, x1, x2, x3, x4, x5, x6, x7⟩, E, rfl, Hx.out, below_setRow hW1 (Nat.le_succ _) _⟩
  simp [results, Try.results25, go_sem, hc]

end Go.Proofs.Ytlnlejdjekbipaa
namespace Go.Proofs.Ytlnlejdjekbipaa
open Go.RowKit

set_option linter.unusedSimpArgs false in
set_option maxHeartbeats 4000000 in
set_option maxRecDepth 100000 in
theorem rask_k3 (C : Cm) (ok : C.Ok) (hk : C.k = 3) (a : Option Addr) (cap : Nat) (w : World) (hr : Row w a C.d.length C.d) :
    Calls Try.prog 24 #[C.v a C.d.length cap] w (QPost w (askP C)) := by
  have hA : askP C = wPlace 64 C := by unfold askP; simp [hk]
  rw [hA]
  clear hA
  have HS : Hid (∀ W, Below w.heap.size w W → Calls Try.prog 18 #[cmV C.k C.i C.s false 0 false none 0 0 false false false 0 0 0 0 0, cmV C.k C.i C.s C.z C.n C.q a C.d.length cap C.t C.l C.c C.b C.e C.u C.m C.o] W fun r w' => r = .returned (.bool (C.only 1)) ∧ ∃ o1 o2, w' = (W.alloc o1).alloc o2) := fun W hb => by
    have := same_any ⟨C.k, C.i, C.s, false, 0, false, [], false, false, false, 0, 0, 0, 0, 0⟩ C none 0 0 a C.d.length cap W (row_nil W) (hr.next hb)
    rw [bare_1] at this
    exact this
  obtain ⟨x0, hx0⟩ : ∃ y, (64 : Int) % 256 = y := ⟨_, rfl⟩
  have KP : Hid (∀ W, Calls Try.prog 59 #[.int .i64 (64), .agg #[.int .u16 C.i, .int .u8 C.s]] W fun e w' => e = .returned (arr8 x0 (C.i % 256) (C.i / 256) C.s 0 0 0 0) ∧ ∃ o1 o2 o3 o4 o5, w' = ((((W.alloc o1).alloc o2).alloc o3).alloc o4).alloc o5) := fun W => hx0 ▸ placed_any (64) C.i C.s ok.i W
  have hO : Hid (wPlace 64 C = if C.only 1 then some ⟨x0, C.i % 256, C.i / 256, C.s, 0, 0, 0, 0⟩ else none) := by rw [← hx0]; rfl
  clear hx0
  generalize C.only 1 = E at HS hO
  generalize wPlace 64 C = O at hO ⊢
  clear hr ok
  generalize C.d.length = len at HS ⊢
  obtain ⟨k, i, s, z, n, q, d, t, l, c, b, e, u, m, o⟩ := C
  dsimp only at HS hO hk KP ⊢
  subst hk
  go_enter Try.func24, Try.ntmps24
  go_wp2_with fail
  refine wp_region_held_drew (S := fun x => Below w.heap.size w x ∧ x.heap[w.heap.size]? = some (.cells (cmC 3 i s z n q a len cap t l c b e u m o) 36 (0, 0)) ∧ ∃ C : Array Value, C.size = 8 ∧ x.heap[w.heap.size + 1]? = some (.cells C 31 (0, 0))) (by kernel_rfl) (⟨Below.drew (Below.al (Below.al (Below.refl _ _) _) _), (heap_drew _ _).trans (ext_al (heap_new _ _)), ar8 0 0 0 0 0 0 0 0, rfl, (heap_drew _ _).trans (heap_at _ _ _ (by simp))⟩) (fun hHeld => ?_)
  obtain ⟨hW, hB, C0, hC0, hR⟩ := id hHeld
  refine tk 0 (.pointer (some ⟨w.heap.size, 1, none⟩)) rfl (.inl ⟨by rfl, ?_⟩) ?_
  · intro w9 hSw
    try dsimp only at hSw
    go_simp
    all_goals try decide
    all_goals try assumption
    all_goals try omega
  try simp only [Act.put, gA, gS, gZ, sA, sZ, sS]
  refine tk 1 (.agg #[.int .u16 i, .int .u8 s]) rfl (.inl ⟨by rfl, ?_⟩) ?_
  · intro w9 hSw
    try dsimp only at hSw
    exact ex_load 24 (.tmp 20) rfl _ _ rfl (ldPl _ _ _ _ (by rw [cell_of_row _ _ 1 _ _ _ hSw.2.1]; rfl) (by rw [cell_of_row _ _ 2 _ _ _ hSw.2.1]; rfl))
  try simp only [Act.put, gA, gS, gZ, sA, sZ, sS]
  refine tk 3 (.pointer (some ⟨w.heap.size, 1, none⟩)) rfl (.inl ⟨by rfl, ?_⟩) ?_
  · intro w9 hSw
    try dsimp only at hSw
    go_simp
    all_goals try decide
    all_goals try assumption
    all_goals try omega
  try simp only [Act.put, gA, gS, gZ, sA, sZ, sS]
  refine tk 4 (.agg #[.int .u16 i, .int .u8 s]) rfl (.inl ⟨by rfl, ?_⟩) ?_
  · intro w9 hSw
    try dsimp only at hSw
    exact ex_load 24 (.tmp 23) rfl _ _ rfl (ldPl _ _ _ _ (by rw [cell_of_row _ _ 1 _ _ _ hSw.2.1]; rfl) (by rw [cell_of_row _ _ 2 _ _ _ hSw.2.1]; rfl))
  try simp only [Act.put, gA, gS, gZ, sA, sZ, sS]
  refine tk 5 (cmV 3 i s false 0 false none 0 0 false false false 0 0 0 0 0) rfl (.inl ⟨by rfl, ?_⟩) ?_
  · intro w9 hSw
    try dsimp only at hSw
    go_simp
    all_goals try decide
    all_goals try assumption
    all_goals try omega
  try simp only [Act.put, gA, gS, gZ, sA, sZ, sS]
  refine tk 6 (cmV 3 i s z n q a len cap t l c b e u m o) rfl (.inl ⟨by rfl, ?_⟩) ?_
  · intro w9 hSw
    try dsimp only at hSw
    exact ex_load 36 (.tmp 1) rfl _ _ rfl (loadRC _ _ _ _ _ _ _ _ _ _ _ _ _ _ _ _ _ _ _ _ hSw.2.1)
  try simp only [Act.put, gA, gS, gZ, sA, sZ, sS]
  refine wpAnyH_ready (rs := [2]) (by kernel_rfl) (by simp) ?_
  refine AllReadyH.cons rfl (fun K' hK => ?_) AllReadyH.nil
  rw [if_pos (by rfl)]
  simp only [gA, gS, gZ]
  go_wp2_with fail
  refine (KP.out _).mono ?_
  rintro r ww ⟨rfl, v44_0, v44_1, v44_2, v44_3, v44_4, rfl⟩
  try go_wp2_with fail
  refine hK.out _ _ (⟨(Below.al (Below.al (Below.al (Below.al (Below.al hW _) _) _) _) _), (ext_al (ext_al (ext_al (ext_al (ext_al hB))))), C0, hC0, (ext_al (ext_al (ext_al (ext_al (ext_al hR)))))⟩) (fun hHeld => ?_)
  clear hK K'
  try simp only [Act.put, gA, gS, gZ, sA, sZ, sS]
  clear hW hB hC0 hR
  obtain ⟨hW, hB, C0, hC0, hR⟩ := id hHeld
  refine wpAnyH_ready (rs := [7]) (by kernel_rfl) (by simp) ?_
  refine AllReadyH.cons rfl (fun K' hK => ?_) AllReadyH.nil
  rw [if_pos (by rfl)]
  simp only [gA, gS, gZ]
  go_wp2_with fail
  refine (HS.out _ hW).mono ?_
  rintro r ww ⟨rfl, v45_0, v45_1, rfl⟩
  try go_wp2_with fail
  refine hK.out _ _ (⟨(Below.al (Below.al hW _) _), (ext_al (ext_al hB)), C0, hC0, (ext_al (ext_al hR))⟩) (fun hHeld => ?_)
  clear hK K'
  try simp only [Act.put, gA, gS, gZ, sA, sZ, sS]
  clear hW hB hC0 hR
  obtain ⟨hW, hB, C0, hC0, hR⟩ := id hHeld
  refine wpAnyH_ready (rs := [8]) (by kernel_rfl) (by simp) ?_
  refine AllReadyH.cons rfl (fun K' hK => ?_) AllReadyH.nil
  rw [if_pos (by rfl)]
  simp only [gA, gS, gZ]
  refine wp_store_by 31 (.tmp 2) (.tmp 22) rfl _ _ rfl rfl (store8 _ _ C0 x0 (i % 256) (i / 256) s 0 0 0 0 _ hR hC0) ?_
  refine hK.out _ _ (⟨below_setRow hW (by omega) _, (setRow_other _ _ _ _ (by omega)).trans hB, _, rfl, setRow_heap _ _ _ _ _ _ hR⟩) (fun hHeld => ?_)
  clear hK K'
  try simp only [Act.put, gA, gS, gZ, sA, sZ, sS]
  refine tk 9 (.bool E) rfl (.inl ⟨by rfl, ?_⟩) ?_
  · intro w9 hSw
    try dsimp only at hSw
    go_simp
    all_goals try decide
    all_goals try assumption
    all_goals try omega
  try simp only [Act.put, gA, gS, gZ, sA, sZ, sS]
  refine wpAnyH_done (by kernel_rfl) ?_ _
  have hc := fun j => cell_of_row _ (w.heap.size + 1) j _ _ _ (setRow_heap _ _ _ (ar8 x0 (i % 256) (i / 256) s 0 0 0 0) _ _ hR)
  have hb := below_setRow hW (Nat.le_succ w.heap.size) (ar8 x0 (i % 256) (i / 256) s 0 0 0 0)
  clear hHeld hW hB hC0
  go_wp2_with fail
  refine bodyPost_ret (v := .tuple #[arr8 x0 (i % 256) (i / 256) s 0 0 0 0, .bool E]) ?_ rfl ⟨⟨x0, (i % 256), (i / 256), s, 0, 0, 0, 0⟩, E, rfl, ?_, ?_⟩
  · simp [results, Try.results24, go_sem, hc]
  · exact hO.out
  · exact hb

set_option linter.unusedSimpArgs false in
set_option maxHeartbeats 4000000 in
set_option maxRecDepth 100000 in
theorem rask_k4 (C : Cm) (_ok : C.Ok) (hk : C.k = 4) (a : Option Addr) (cap : Nat) (w : World) (hr : Row w a C.d.length C.d) :
    Calls Try.prog 24 #[C.v a C.d.length cap] w (QPost w (askP C)) := by
  have hA : askP C = wToggle 96 C := by unfold askP; simp [hk]
  rw [hA]
  clear hA
  have HS : Hid (∀ W, Below w.heap.size w W → Calls Try.prog 18 #[cmV C.k 0 0 false 0 false none 0 0 C.t false false 0 0 0 0 0, cmV C.k C.i C.s C.z C.n C.q a C.d.length cap C.t C.l C.c C.b C.e C.u C.m C.o] W fun r w' => r = .returned (.bool (C.only 32)) ∧ ∃ o1 o2, w' = (W.alloc o1).alloc o2) := fun W hb => by
    have := same_any ⟨C.k, 0, 0, false, 0, false, [], C.t, false, false, 0, 0, 0, 0, 0⟩ C none 0 0 a C.d.length cap W (row_nil W) (hr.next hb)
    rw [bare_32] at this
    exact this
  obtain ⟨BT, hBT, lBT, gBT⟩ : ∃ y, bitn C.t 16 = y ∧ 0 ≤ y ∧ y ≤ 16 := ⟨_, rfl, by unfold bitn; split <;> omega, by unfold bitn; split <;> omega⟩
  have KBT : Hid (∀ W, Calls Try.prog 34 #[.bool C.t, .int .i64 16] W fun e w' => e = .returned (.int .i64 BT) ∧ w' = W) := fun W => hBT ▸ rbit_any C.t 16 W
  obtain ⟨x0, hx0⟩ : ∃ y, (96 + BT) % 256 = y := ⟨_, rfl⟩
  have KL : Hid (∀ W, Calls Try.prog 33 #[.int .i64 (96 + BT)] W fun e w' => e = .returned (arr8 x0 0 0 0 0 0 0 0) ∧ ∃ o1 o2, w' = (W.alloc o1).alloc o2) := fun W => hx0 ▸ plain_any (96 + BT) W
  have hO : Hid (wToggle 96 C = if C.only 32 then some ⟨x0, 0, 0, 0, 0, 0, 0, 0⟩ else none) := by
    have e3 : x0 = bits .or .u8 96 (bitv C.t 16) := by rw [← hx0, ← hBT]; cases C.t <;> decide
    rw [e3]; rfl
  clear hx0 hBT
  generalize C.only 32 = E at HS hO
  generalize wToggle 96 C = O at hO ⊢
  clear hr _ok
  generalize C.d.length = len at HS ⊢
  obtain ⟨k, i, s, z, n, q, d, t, l, c, b, e, u, m, o⟩ := C
  dsimp only at HS hO hk KBT ⊢
  subst hk
  go_enter Try.func24, Try.ntmps24
  go_wp2_with fail
  refine wp_region_held_drew (S := fun x => Below w.heap.size w x ∧ x.heap[w.heap.size]? = some (.cells (cmC 4 i s z n q a len cap t l c b e u m o) 36 (0, 0)) ∧ ∃ C : Array Value, C.size = 8 ∧ x.heap[w.heap.size + 1]? = some (.cells C 31 (0, 0))) (by kernel_rfl) (⟨Below.drew (Below.al (Below.al (Below.refl _ _) _) _), (heap_drew _ _).trans (ext_al (heap_new _ _)), ar8 0 0 0 0 0 0 0 0, rfl, (heap_drew _ _).trans (heap_at _ _ _ (by simp))⟩) (fun hHeld => ?_)
  obtain ⟨hW, hB, C0, hC0, hR⟩ := id hHeld
  refine tk 0 (.pointer (some ⟨w.heap.size, 7, none⟩)) rfl (.inl ⟨by rfl, ?_⟩) ?_
  · intro w9 hSw
    try dsimp only at hSw
    go_simp
    all_goals try decide
    all_goals try assumption
    all_goals try omega
  try simp only [Act.put, gA, gS, gZ, sA, sZ, sS]
  refine tk 1 (.bool t) rfl (.inl ⟨by rfl, ?_⟩) ?_
  · intro w9 hSw
    try dsimp only at hSw
    exact ex_load 4 (.tmp 30) rfl _ _ rfl (ld_4 _ _ _ _ (by rw [cell_of_row _ _ 7 _ _ _ hSw.2.1]; rfl))
  try simp only [Act.put, gA, gS, gZ, sA, sZ, sS]
  refine tk 5 (.pointer (some ⟨w.heap.size, 7, none⟩)) rfl (.inl ⟨by rfl, ?_⟩) ?_
  · intro w9 hSw
    try dsimp only at hSw
    go_simp
    all_goals try decide
    all_goals try assumption
    all_goals try omega
  try simp only [Act.put, gA, gS, gZ, sA, sZ, sS]
  refine tk 6 (.bool t) rfl (.inl ⟨by rfl, ?_⟩) ?_
  · intro w9 hSw
    try dsimp only at hSw
    exact ex_load 4 (.tmp 35) rfl _ _ rfl (ld_4 _ _ _ _ (by rw [cell_of_row _ _ 7 _ _ _ hSw.2.1]; rfl))
  try simp only [Act.put, gA, gS, gZ, sA, sZ, sS]
  refine tk 7 (cmV 4 0 0 false 0 false none 0 0 t false false 0 0 0 0 0) rfl (.inl ⟨by rfl, ?_⟩) ?_
  · intro w9 hSw
    try dsimp only at hSw
    go_simp
    all_goals try decide
    all_goals try assumption
    all_goals try omega
  try simp only [Act.put, gA, gS, gZ, sA, sZ, sS]
  refine tk 8 (cmV 4 i s z n q a len cap t l c b e u m o) rfl (.inl ⟨by rfl, ?_⟩) ?_
  · intro w9 hSw
    try dsimp only at hSw
    exact ex_load 36 (.tmp 1) rfl _ _ rfl (loadRC _ _ _ _ _ _ _ _ _ _ _ _ _ _ _ _ _ _ _ _ hSw.2.1)
  try simp only [Act.put, gA, gS, gZ, sA, sZ, sS]
  refine wpAnyH_ready (rs := [2]) (by kernel_rfl) (by simp) ?_
  refine AllReadyH.cons rfl (fun K' hK => ?_) AllReadyH.nil
  rw [if_pos (by rfl)]
  simp only [gA, gS, gZ]
  go_wp2_with fail
  refine (KBT.out _).mono ?_
  rintro r ww ⟨rfl, rfl⟩
  try go_wp2_with fail
  refine hK.out _ _ (⟨hW, hB, C0, hC0, hR⟩) (fun hHeld => ?_)
  clear hK K'
  try simp only [Act.put, gA, gS, gZ, sA, sZ, sS]
  clear hW hB hC0 hR
  obtain ⟨hW, hB, C0, hC0, hR⟩ := id hHeld
  refine tk 3 (.int .i64 (96 + BT)) rfl (.inl ⟨by rfl, ?_⟩) ?_
  · intro w9 hSw
    try dsimp only at hSw
    go_simp
    all_goals try (rw [wrapI64 _ (by omega) (by omega)])
    all_goals try decide
    all_goals try omega
  try simp only [Act.put, gA, gS, gZ, sA, sZ, sS]
  refine wpAnyH_ready (rs := [4]) (by kernel_rfl) (by simp) ?_
  refine AllReadyH.cons rfl (fun K' hK => ?_) AllReadyH.nil
  rw [if_pos (by rfl)]
  simp only [gA, gS, gZ]
  go_wp2_with fail
  refine (KL.out _).mono ?_
  rintro r ww ⟨rfl, v46_0, v46_1, rfl⟩
  try go_wp2_with fail
  refine hK.out _ _ (⟨(Below.al (Below.al hW _) _), (ext_al (ext_al hB)), C0, hC0, (ext_al (ext_al hR))⟩) (fun hHeld => ?_)
  clear hK K'
  try simp only [Act.put, gA, gS, gZ, sA, sZ, sS]
  clear hW hB hC0 hR
  obtain ⟨hW, hB, C0, hC0, hR⟩ := id hHeld
  refine wpAnyH_ready (rs := [9]) (by kernel_rfl) (by simp) ?_
  refine AllReadyH.cons rfl (fun K' hK => ?_) AllReadyH.nil
  rw [if_pos (by rfl)]
  simp only [gA, gS, gZ]
  go_wp2_with fail
  refine (HS.out _ hW).mono ?_
  rintro r ww ⟨rfl, v47_0, v47_1, rfl⟩
  try go_wp2_with fail
  refine hK.out _ _ (⟨(Below.al (Below.al hW _) _), (ext_al (ext_al hB)), C0, hC0, (ext_al (ext_al hR))⟩) (fun hHeld => ?_)
  clear hK K'
  try simp only [Act.put, gA, gS, gZ, sA, sZ, sS]
  clear hW hB hC0 hR
  obtain ⟨hW, hB, C0, hC0, hR⟩ := id hHeld
  refine wpAnyH_ready (rs := [10]) (by kernel_rfl) (by simp) ?_
  refine AllReadyH.cons rfl (fun K' hK => ?_) AllReadyH.nil
  rw [if_pos (by rfl)]
  simp only [gA, gS, gZ]
  refine wp_store_by 31 (.tmp 2) (.tmp 34) rfl _ _ rfl rfl (store8 _ _ C0 x0 0 0 0 0 0 0 0 _ hR hC0) ?_
  refine hK.out _ _ (⟨below_setRow hW (by omega) _, (setRow_other _ _ _ _ (by omega)).trans hB, _, rfl, setRow_heap _ _ _ _ _ _ hR⟩) (fun hHeld => ?_)
  clear hK K'
  try simp only [Act.put, gA, gS, gZ, sA, sZ, sS]
  refine tk 11 (.bool E) rfl (.inl ⟨by rfl, ?_⟩) ?_
  · intro w9 hSw
    try dsimp only at hSw
    go_simp
    all_goals try decide
    all_goals try assumption
    all_goals try omega
  try simp only [Act.put, gA, gS, gZ, sA, sZ, sS]
  refine wpAnyH_done (by kernel_rfl) ?_ _
  have hc := fun j => cell_of_row _ (w.heap.size + 1) j _ _ _ (setRow_heap _ _ _ (ar8 x0 0 0 0 0 0 0 0) _ _ hR)
  have hb := below_setRow hW (Nat.le_succ w.heap.size) (ar8 x0 0 0 0 0 0 0 0)
  clear hHeld hW hB hC0
  go_wp2_with fail
  refine bodyPost_ret (v := .tuple #[arr8 x0 0 0 0 0 0 0 0, .bool E]) ?_ rfl ⟨⟨x0, 0, 0, 0, 0, 0, 0, 0⟩, E, rfl, ?_, ?_⟩
  · simp [results, Try.results24, go_sem, hc]
  · exact hO.out
  · exact hb

set_option linter.unusedSimpArgs false in
set_option maxHeartbeats 4000000 in
set_option maxRecDepth 100000 in
theorem rask_k9 (C : Cm) (_ok : C.Ok) (hk : C.k = 9) (a : Option Addr) (cap : Nat) (w : World) (hr : Row w a C.d.length C.d) :
    Calls Try.prog 24 #[C.v a C.d.length cap] w (QPost w (askP C)) := by
  have hA : askP C = wBare 163 C := by unfold askP; simp [hk]
  rw [hA]
  clear hA
  have HS : Hid (∀ W, Below w.heap.size w W → Calls Try.prog 18 #[cmV C.k 0 0 false 0 false none 0 0 false false false 0 0 0 0 0, cmV C.k C.i C.s C.z C.n C.q a C.d.length cap C.t C.l C.c C.b C.e C.u C.m C.o] W fun r w' => r = .returned (.bool (C.only 0)) ∧ ∃ o1 o2, w' = (W.alloc o1).alloc o2) := fun W hb => by
    have := same_any ⟨C.k, 0, 0, false, 0, false, [], false, false, false, 0, 0, 0, 0, 0⟩ C none 0 0 a C.d.length cap W (row_nil W) (hr.next hb)
    rw [bare_0] at this
    exact this
  have KL : Hid (∀ W, Calls Try.prog 33 #[.int .i64 163] W fun e w' => e = .returned (arr8 163 0 0 0 0 0 0 0) ∧ ∃ o1 o2, w' = (W.alloc o1).alloc o2) := fun W => plain_any 163 W
  have hO : Hid (wBare 163 C = if C.only 0 then some ⟨163, 0, 0, 0, 0, 0, 0, 0⟩ else none) := rfl
  generalize C.only 0 = E at HS hO
  generalize wBare 163 C = O at hO ⊢
  clear hr _ok
  generalize C.d.length = len at HS ⊢
  obtain ⟨k, i, s, z, n, q, d, t, l, c, b, e, u, m, o⟩ := C
  dsimp only at HS hO hk ⊢
  subst hk
  go_enter Try.func24, Try.ntmps24
  go_wp2_with fail
  refine wp_region_held_drew (S := fun x => Below w.heap.size w x ∧ x.heap[w.heap.size]? = some (.cells (cmC 9 i s z n q a len cap t l c b e u m o) 36 (0, 0)) ∧ ∃ C : Array Value, C.size = 8 ∧ x.heap[w.heap.size + 1]? = some (.cells C 31 (0, 0))) (by kernel_rfl) (⟨Below.drew (Below.al (Below.al (Below.refl _ _) _) _), (heap_drew _ _).trans (ext_al (heap_new _ _)), ar8 0 0 0 0 0 0 0 0, rfl, (heap_drew _ _).trans (heap_at _ _ _ (by simp))⟩) (fun hHeld => ?_)
  obtain ⟨hW, hB, C0, hC0, hR⟩ := id hHeld
  refine tk 1 (cmV 9 0 0 false 0 false none 0 0 false false false 0 0 0 0 0) rfl (.inl ⟨by rfl, ?_⟩) ?_
  · intro w9 hSw
    try dsimp only at hSw
    go_simp
    all_goals try decide
    all_goals try assumption
    all_goals try omega
  try simp only [Act.put, gA, gS, gZ, sA, sZ, sS]
  refine tk 2 (cmV 9 i s z n q a len cap t l c b e u m o) rfl (.inl ⟨by rfl, ?_⟩) ?_
  · intro w9 hSw
    try dsimp only at hSw
    exact ex_load 36 (.tmp 1) rfl _ _ rfl (loadRC _ _ _ _ _ _ _ _ _ _ _ _ _ _ _ _ _ _ _ _ hSw.2.1)
  try simp only [Act.put, gA, gS, gZ, sA, sZ, sS]
  refine wpAnyH_ready (rs := [0]) (by kernel_rfl) (by simp) ?_
  refine AllReadyH.cons rfl (fun K' hK => ?_) AllReadyH.nil
  rw [if_pos (by rfl)]
  simp only [gA, gS, gZ]
  go_wp2_with fail
  refine (KL.out _).mono ?_
  rintro r ww ⟨rfl, v48_0, v48_1, rfl⟩
  try go_wp2_with fail
  refine hK.out _ _ (⟨(Below.al (Below.al hW _) _), (ext_al (ext_al hB)), C0, hC0, (ext_al (ext_al hR))⟩) (fun hHeld => ?_)
  clear hK K'
  try simp only [Act.put, gA, gS, gZ, sA, sZ, sS]
  clear hW hB hC0 hR
  obtain ⟨hW, hB, C0, hC0, hR⟩ := id hHeld
  refine wpAnyH_ready (rs := [3]) (by kernel_rfl) (by simp) ?_
  refine AllReadyH.cons rfl (fun K' hK => ?_) AllReadyH.nil
  rw [if_pos (by rfl)]
  simp only [gA, gS, gZ]
  go_wp2_with fail
  refine (HS.out _ hW).mono ?_
  rintro r ww ⟨rfl, v49_0, v49_1, rfl⟩
  try go_wp2_with fail
  refine hK.out _ _ (⟨(Below.al (Below.al hW _) _), (ext_al (ext_al hB)), C0, hC0, (ext_al (ext_al hR))⟩) (fun hHeld => ?_)
  clear hK K'
  try simp only [Act.put, gA, gS, gZ, sA, sZ, sS]
  clear hW hB hC0 hR
  obtain ⟨hW, hB, C0, hC0, hR⟩ := id hHeld
  refine wpAnyH_ready (rs := [4]) (by kernel_rfl) (by simp) ?_
  refine AllReadyH.cons rfl (fun K' hK => ?_) AllReadyH.nil
  rw [if_pos (by rfl)]
  simp only [gA, gS, gZ]
  refine wp_store_by 31 (.tmp 2) (.tmp 66) rfl _ _ rfl rfl (store8 _ _ C0 163 0 0 0 0 0 0 0 _ hR hC0) ?_
  refine hK.out _ _ (⟨below_setRow hW (by omega) _, (setRow_other _ _ _ _ (by omega)).trans hB, _, rfl, setRow_heap _ _ _ _ _ _ hR⟩) (fun hHeld => ?_)
  clear hK K'
  try simp only [Act.put, gA, gS, gZ, sA, sZ, sS]
  refine tk 5 (.bool E) rfl (.inl ⟨by rfl, ?_⟩) ?_
  · intro w9 hSw
    try dsimp only at hSw
    go_simp
    all_goals try decide
    all_goals try assumption
    all_goals try omega
  try simp only [Act.put, gA, gS, gZ, sA, sZ, sS]
  refine wpAnyH_done (by kernel_rfl) ?_ _
  have hc := fun j => cell_of_row _ (w.heap.size + 1) j _ _ _ (setRow_heap _ _ _ (ar8 163 0 0 0 0 0 0 0) _ _ hR)
  have hb := below_setRow hW (Nat.le_succ w.heap.size) (ar8 163 0 0 0 0 0 0 0)
  clear hHeld hW hB hC0
  go_wp2_with fail
  refine bodyPost_ret (v := .tuple #[arr8 163 0 0 0 0 0 0 0, .bool E]) ?_ rfl ⟨⟨163, 0, 0, 0, 0, 0, 0, 0⟩, E, rfl, ?_, ?_⟩
  · simp [results, Try.results24, go_sem, hc]
  · exact hO.out
  · exact hb

set_option linter.unusedSimpArgs false in
set_option maxHeartbeats 4000000 in
set_option maxRecDepth 100000 in
theorem rask_k11 (C : Cm) (_ok : C.Ok) (hk : C.k = 11) (a : Option Addr) (cap : Nat) (w : World) (hr : Row w a C.d.length C.d) :
    Calls Try.prog 24 #[C.v a C.d.length cap] w (QPost w (askP C)) := by
  have hA : askP C = wBare 161 C := by unfold askP; simp [hk]
  rw [hA]
  clear hA
  have HS : Hid (∀ W, Below w.heap.size w W → Calls Try.prog 18 #[cmV C.k 0 0 false 0 false none 0 0 false false false 0 0 0 0 0, cmV C.k C.i C.s C.z C.n C.q a C.d.length cap C.t C.l C.c C.b C.e C.u C.m C.o] W fun r w' => r = .returned (.bool (C.only 0)) ∧ ∃ o1 o2, w' = (W.alloc o1).alloc o2) := fun W hb => by
    have := same_any ⟨C.k, 0, 0, false, 0, false, [], false, false, false, 0, 0, 0, 0, 0⟩ C none 0 0 a C.d.length cap W (row_nil W) (hr.next hb)
    rw [bare_0] at this
    exact this
  have KL : Hid (∀ W, Calls Try.prog 33 #[.int .i64 161] W fun e w' => e = .returned (arr8 161 0 0 0 0 0 0 0) ∧ ∃ o1 o2, w' = (W.alloc o1).alloc o2) := fun W => plain_any 161 W
  have hO : Hid (wBare 161 C = if C.only 0 then some ⟨161, 0, 0, 0, 0, 0, 0, 0⟩ else none) := rfl
  generalize C.only 0 = E at HS hO
  generalize wBare 161 C = O at hO ⊢
  clear hr _ok
  generalize C.d.length = len at HS ⊢
  obtain ⟨k, i, s, z, n, q, d, t, l, c, b, e, u, m, o⟩ := C
  dsimp only at HS hO hk ⊢
  subst hk
  go_enter Try.func24, Try.ntmps24
  go_wp2_with fail
  refine wp_region_held_drew (S := fun x => Below w.heap.size w x ∧ x.heap[w.heap.size]? = some (.cells (cmC 11 i s z n q a len cap t l c b e u m o) 36 (0, 0)) ∧ ∃ C : Array Value, C.size = 8 ∧ x.heap[w.heap.size + 1]? = some (.cells C 31 (0, 0))) (by kernel_rfl) (⟨Below.drew (Below.al (Below.al (Below.refl _ _) _) _), (heap_drew _ _).trans (ext_al (heap_new _ _)), ar8 0 0 0 0 0 0 0 0, rfl, (heap_drew _ _).trans (heap_at _ _ _ (by simp))⟩) (fun hHeld => ?_)
  obtain ⟨hW, hB, C0, hC0, hR⟩ := id hHeld
  refine tk 1 (cmV 11 0 0 false 0 false none 0 0 false false false 0 0 0 0 0) rfl (.inl ⟨by rfl, ?_⟩) ?_
  · intro w9 hSw
    try dsimp only at hSw
    go_simp
    all_goals try decide
    all_goals try assumption
    all_goals try omega
  try simp only [Act.put, gA, gS, gZ, sA, sZ, sS]
  refine tk 2 (cmV 11 i s z n q a len cap t l c b e u m o) rfl (.inl ⟨by rfl, ?_⟩) ?_
  · intro w9 hSw
    try dsimp only at hSw
    exact ex_load 36 (.tmp 1) rfl _ _ rfl (loadRC _ _ _ _ _ _ _ _ _ _ _ _ _ _ _ _ _ _ _ _ hSw.2.1)
  try simp only [Act.put, gA, gS, gZ, sA, sZ, sS]
  refine wpAnyH_ready (rs := [0]) (by kernel_rfl) (by simp) ?_
  refine AllReadyH.cons rfl (fun K' hK => ?_) AllReadyH.nil
  rw [if_pos (by rfl)]
  simp only [gA, gS, gZ]
  go_wp2_with fail
  refine (KL.out _).mono ?_
  rintro r ww ⟨rfl, v50_0, v50_1, rfl⟩
  try go_wp2_with fail
  refine hK.out _ _ (⟨(Below.al (Below.al hW _) _), (ext_al (ext_al hB)), C0, hC0, (ext_al (ext_al hR))⟩) (fun hHeld => ?_)
  clear hK K'
  try simp only [Act.put, gA, gS, gZ, sA, sZ, sS]
  clear hW hB hC0 hR
  obtain ⟨hW, hB, C0, hC0, hR⟩ := id hHeld
  refine wpAnyH_ready (rs := [3]) (by kernel_rfl) (by simp) ?_
  refine AllReadyH.cons rfl (fun K' hK => ?_) AllReadyH.nil
  rw [if_pos (by rfl)]
  simp only [gA, gS, gZ]
  go_wp2_with fail
  refine (HS.out _ hW).mono ?_
  rintro r ww ⟨rfl, v51_0, v51_1, rfl⟩
  try go_wp2_with fail
  refine hK.out _ _ (⟨(Below.al (Below.al hW _) _), (ext_al (ext_al hB)), C0, hC0, (ext_al (ext_al hR))⟩) (fun hHeld => ?_)
  clear hK K'
  try simp only [Act.put, gA, gS, gZ, sA, sZ, sS]
  clear hW hB hC0 hR
  obtain ⟨hW, hB, C0, hC0, hR⟩ := id hHeld
  refine wpAnyH_ready (rs := [4]) (by kernel_rfl) (by simp) ?_
  refine AllReadyH.cons rfl (fun K' hK => ?_) AllReadyH.nil
  rw [if_pos (by rfl)]
  simp only [gA, gS, gZ]
  refine wp_store_by 31 (.tmp 2) (.tmp 78) rfl _ _ rfl rfl (store8 _ _ C0 161 0 0 0 0 0 0 0 _ hR hC0) ?_
  refine hK.out _ _ (⟨below_setRow hW (by omega) _, (setRow_other _ _ _ _ (by omega)).trans hB, _, rfl, setRow_heap _ _ _ _ _ _ hR⟩) (fun hHeld => ?_)
  clear hK K'
  try simp only [Act.put, gA, gS, gZ, sA, sZ, sS]
  refine tk 5 (.bool E) rfl (.inl ⟨by rfl, ?_⟩) ?_
  · intro w9 hSw
    try dsimp only at hSw
    go_simp
    all_goals try decide
    all_goals try assumption
    all_goals try omega
  try simp only [Act.put, gA, gS, gZ, sA, sZ, sS]
  refine wpAnyH_done (by kernel_rfl) ?_ _
  have hc := fun j => cell_of_row _ (w.heap.size + 1) j _ _ _ (setRow_heap _ _ _ (ar8 161 0 0 0 0 0 0 0) _ _ hR)
  have hb := below_setRow hW (Nat.le_succ w.heap.size) (ar8 161 0 0 0 0 0 0 0)
  clear hHeld hW hB hC0
  go_wp2_with fail
  refine bodyPost_ret (v := .tuple #[arr8 161 0 0 0 0 0 0 0, .bool E]) ?_ rfl ⟨⟨161, 0, 0, 0, 0, 0, 0, 0⟩, E, rfl, ?_, ?_⟩
  · simp [results, Try.results24, go_sem, hc]
  · exact hO.out
  · exact hb

end Go.Proofs.Ytlnlejdjekbipaa
namespace Go.Proofs.Ytlnlejdjekbipaa
open Go.RowKit

set_option linter.unusedSimpArgs false in
set_option maxHeartbeats 4000000 in
set_option maxRecDepth 100000 in
theorem ranswer_k1 (C : Cm) (ok : C.Ok) (hk : C.k = 1) (a : Option Addr) (cap : Nat) (w : World) (hr : Row w a C.d.length C.d) :
    Calls Try.prog 25 #[C.v a C.d.length cap] w (QPost w (ansP C)) := by
  have hA : ansP C = wPlace 96 C := by unfold ansP; simp [hk]
  rw [hA]
  clear hA
  have HS : Hid (∀ W, Below w.heap.size w W → Calls Try.prog 18 #[cmV C.k C.i C.s false 0 false none 0 0 false false false 0 0 0 0 0, cmV C.k C.i C.s C.z C.n C.q a C.d.length cap C.t C.l C.c C.b C.e C.u C.m C.o] W fun r w' => r = .returned (.bool (C.only 1)) ∧ ∃ o1 o2, w' = (W.alloc o1).alloc o2) := fun W hb => by
    have := same_any ⟨C.k, C.i, C.s, false, 0, false, [], false, false, false, 0, 0, 0, 0, 0⟩ C none 0 0 a C.d.length cap W (row_nil W) (hr.next hb)
    rw [bare_1] at this
    exact this
  obtain ⟨x0, hx0⟩ : ∃ y, (96 : Int) % 256 = y := ⟨_, rfl⟩
  have KP : Hid (∀ W, Calls Try.prog 59 #[.int .i64 (96), .agg #[.int .u16 C.i, .int .u8 C.s]] W fun e w' => e = .returned (arr8 x0 (C.i % 256) (C.i / 256) C.s 0 0 0 0) ∧ ∃ o1 o2 o3 o4 o5, w' = ((((W.alloc o1).alloc o2).alloc o3).alloc o4).alloc o5) := fun W => hx0 ▸ placed_any (96) C.i C.s ok.i W
  have hO : Hid (wPlace 96 C = if C.only 1 then some ⟨x0, C.i % 256, C.i / 256, C.s, 0, 0, 0, 0⟩ else none) := by rw [← hx0]; rfl
  clear hx0
  generalize C.only 1 = E at HS hO
  generalize wPlace 96 C = O at hO ⊢
  clear hr ok
  generalize C.d.length = len at HS ⊢
  obtain ⟨k, i, s, z, n, q, d, t, l, c, b, e, u, m, o⟩ := C
  dsimp only at HS hO hk KP ⊢
  subst hk
  go_enter Try.func25, Try.ntmps25
  go_wp2_with fail
  refine wp_region_held_drew (S := fun x => Below w.heap.size w x ∧ x.heap[w.heap.size]? = some (.cells (cmC 1 i s z n q a len cap t l c b e u m o) 36 (0, 0)) ∧ ∃ C : Array Value, C.size = 8 ∧ x.heap[w.heap.size + 1]? = some (.cells C 31 (0, 0))) (by kernel_rfl) (⟨Below.drew (Below.al (Below.al (Below.refl _ _) _) _), (heap_drew _ _).trans (ext_al (heap_new _ _)), ar8 0 0 0 0 0 0 0 0, rfl, (heap_drew _ _).trans (heap_at _ _ _ (by simp))⟩) (fun hHeld => ?_)
  obtain ⟨hW, hB, C0, hC0, hR⟩ := id hHeld
  refine tk 0 (.pointer (some ⟨w.heap.size, 1, none⟩)) rfl (.inl ⟨by rfl, ?_⟩) ?_
  · intro w9 hSw
    try dsimp only at hSw
    go_simp
    all_goals try decide
    all_goals try assumption
    all_goals try omega
  try simp only [Act.put, gA, gS, gZ, sA, sZ, sS]
  refine tk 1 (.agg #[.int .u16 i, .int .u8 s]) rfl (.inl ⟨by rfl, ?_⟩) ?_
  · intro w9 hSw
    try dsimp only at hSw
    exact ex_load 24 (.tmp 8) rfl _ _ rfl (ldPl _ _ _ _ (by rw [cell_of_row _ _ 1 _ _ _ hSw.2.1]; rfl) (by rw [cell_of_row _ _ 2 _ _ _ hSw.2.1]; rfl))
  try simp only [Act.put, gA, gS, gZ, sA, sZ, sS]
  refine tk 3 (.pointer (some ⟨w.heap.size, 1, none⟩)) rfl (.inl ⟨by rfl, ?_⟩) ?_
  · intro w9 hSw
    try dsimp only at hSw
    go_simp
    all_goals try decide
    all_goals try assumption
    all_goals try omega
  try simp only [Act.put, gA, gS, gZ, sA, sZ, sS]
  refine tk 4 (.agg #[.int .u16 i, .int .u8 s]) rfl (.inl ⟨by rfl, ?_⟩) ?_
  · intro w9 hSw
    try dsimp only at hSw
    exact ex_load 24 (.tmp 11) rfl _ _ rfl (ldPl _ _ _ _ (by rw [cell_of_row _ _ 1 _ _ _ hSw.2.1]; rfl) (by rw [cell_of_row _ _ 2 _ _ _ hSw.2.1]; rfl))
  try simp only [Act.put, gA, gS, gZ, sA, sZ, sS]
  refine tk 5 (cmV 1 i s false 0 false none 0 0 false false false 0 0 0 0 0) rfl (.inl ⟨by rfl, ?_⟩) ?_
  · intro w9 hSw
    try dsimp only at hSw
    go_simp
    all_goals try decide
    all_goals try assumption
    all_goals try omega
  try simp only [Act.put, gA, gS, gZ, sA, sZ, sS]
  refine tk 6 (cmV 1 i s z n q a len cap t l c b e u m o) rfl (.inl ⟨by rfl, ?_⟩) ?_
  · intro w9 hSw
    try dsimp only at hSw
    exact ex_load 36 (.tmp 1) rfl _ _ rfl (loadRC _ _ _ _ _ _ _ _ _ _ _ _ _ _ _ _ _ _ _ _ hSw.2.1)
  try simp only [Act.put, gA, gS, gZ, sA, sZ, sS]
  refine wpAnyH_ready (rs := [2]) (by kernel_rfl) (by simp) ?_
  refine AllReadyH.cons rfl (fun K' hK => ?_) AllReadyH.nil
  rw [if_pos (by rfl)]
  simp only [gA, gS, gZ]
  go_wp2_with fail
  refine (KP.out _).mono ?_
  rintro r ww ⟨rfl, v52_0, v52_1, v52_2, v52_3, v52_4, rfl⟩
  try go_wp2_with fail
  refine hK.out _ _ (⟨(Below.al (Below.al (Below.al (Below.al (Below.al hW _) _) _) _) _), (ext_al (ext_al (ext_al (ext_al (ext_al hB))))), C0, hC0, (ext_al (ext_al (ext_al (ext_al (ext_al hR)))))⟩) (fun hHeld => ?_)
  clear hK K'
  try simp only [Act.put, gA, gS, gZ, sA, sZ, sS]
  clear hW hB hC0 hR
  obtain ⟨hW, hB, C0, hC0, hR⟩ := id hHeld
  refine wpAnyH_ready (rs := [7]) (by kernel_rfl) (by simp) ?_
  refine AllReadyH.cons rfl (fun K' hK => ?_) AllReadyH.nil
  rw [if_pos (by rfl)]
  simp only [gA, gS, gZ]
  go_wp2_with fail
  refine (HS.out _ hW).mono ?_
  rintro r ww ⟨rfl, v53_0, v53_1, rfl⟩
  try go_wp2_with fail
  refine hK.out _ _ (⟨(Below.al (Below.al hW _) _), (ext_al (ext_al hB)), C0, hC0, (ext_al (ext_al hR))⟩) (fun hHeld => ?_)
  clear hK K'
  try simp only [Act.put, gA, gS, gZ, sA, sZ, sS]
  clear hW hB hC0 hR
  obtain ⟨hW, hB, C0, hC0, hR⟩ := id hHeld
  refine wpAnyH_ready (rs := [8]) (by kernel_rfl) (by simp) ?_
  refine AllReadyH.cons rfl (fun K' hK => ?_) AllReadyH.nil
  rw [if_pos (by rfl)]
  simp only [gA, gS, gZ]
  refine wp_store_by 31 (.tmp 2) (.tmp 10) rfl _ _ rfl rfl (store8 _ _ C0 x0 (i % 256) (i / 256) s 0 0 0 0 _ hR hC0) ?_
  refine hK.out _ _ (⟨below_setRow hW (by omega) _, (setRow_other _ _ _ _ (by omega)).trans hB, _, rfl, setRow_heap _ _ _ _ _ _ hR⟩) (fun hHeld => ?_)
  clear hK K'
  try simp only [Act.put, gA, gS, gZ, sA, sZ, sS]
  refine tk 9 (.bool E) rfl (.inl ⟨by rfl, ?_⟩) ?_
  · intro w9 hSw
    try dsimp only at hSw
    go_simp
    all_goals try decide
    all_goals try assumption
    all_goals try omega
  try simp only [Act.put, gA, gS, gZ, sA, sZ, sS]
  refine wpAnyH_done (by kernel_rfl) ?_ _
  have hc := fun j => cell_of_row _ (w.heap.size + 1) j _ _ _ (setRow_heap _ _ _ (ar8 x0 (i % 256) (i / 256) s 0 0 0 0) _ _ hR)
  have hb := below_setRow hW (Nat.le_succ w.heap.size) (ar8 x0 (i % 256) (i / 256) s 0 0 0 0)
  clear hHeld hW hB hC0
  go_wp2_with fail
  refine bodyPost_ret (v := .tuple #[arr8 x0 (i % 256) (i / 256) s 0 0 0 0, .bool E]) ?_ rfl ⟨⟨x0, (i % 256), (i / 256), s, 0, 0, 0, 0⟩, E, rfl, ?_, ?_⟩
  · simp [results, Try.results25, go_sem, hc]
  · exact hO.out
  · exact hb

set_option linter.unusedSimpArgs false in
set_option maxHeartbeats 4000000 in
set_option maxRecDepth 100000 in
theorem ranswer_k2 (C : Cm) (_ok : C.Ok) (hk : C.k = 2) (a : Option Addr) (cap : Nat) (w : World) (hr : Row w a C.d.length C.d) :
    Calls Try.prog 25 #[C.v a C.d.length cap] w (QPost w (ansP C)) := by
  have hA : ansP C = wToggle 32 C := by unfold ansP; simp [hk]
  rw [hA]
  clear hA
  have HS : Hid (∀ W, Below w.heap.size w W → Calls Try.prog 18 #[cmV C.k 0 0 false 0 false none 0 0 C.t false false 0 0 0 0 0, cmV C.k C.i C.s C.z C.n C.q a C.d.length cap C.t C.l C.c C.b C.e C.u C.m C.o] W fun r w' => r = .returned (.bool (C.only 32)) ∧ ∃ o1 o2, w' = (W.alloc o1).alloc o2) := fun W hb => by
    have := same_any ⟨C.k, 0, 0, false, 0, false, [], C.t, false, false, 0, 0, 0, 0, 0⟩ C none 0 0 a C.d.length cap W (row_nil W) (hr.next hb)
    rw [bare_32] at this
    exact this
  obtain ⟨BT, hBT, lBT, gBT⟩ : ∃ y, bitn C.t 16 = y ∧ 0 ≤ y ∧ y ≤ 16 := ⟨_, rfl, by unfold bitn; split <;> omega, by unfold bitn; split <;> omega⟩
  have KBT : Hid (∀ W, Calls Try.prog 34 #[.bool C.t, .int .i64 16] W fun e w' => e = .returned (.int .i64 BT) ∧ w' = W) := fun W => hBT ▸ rbit_any C.t 16 W
  obtain ⟨x0, hx0⟩ : ∃ y, (32 + BT) % 256 = y := ⟨_, rfl⟩
  have KL : Hid (∀ W, Calls Try.prog 33 #[.int .i64 (32 + BT)] W fun e w' => e = .returned (arr8 x0 0 0 0 0 0 0 0) ∧ ∃ o1 o2, w' = (W.alloc o1).alloc o2) := fun W => hx0 ▸ plain_any (32 + BT) W
  have hO : Hid (wToggle 32 C = if C.only 32 then some ⟨x0, 0, 0, 0, 0, 0, 0, 0⟩ else none) := by
    have e3 : x0 = bits .or .u8 32 (bitv C.t 16) := by rw [← hx0, ← hBT]; cases C.t <;> decide
    rw [e3]; rfl
  clear hx0 hBT
  generalize C.only 32 = E at HS hO
  generalize wToggle 32 C = O at hO ⊢
  clear hr _ok
  generalize C.d.length = len at HS ⊢
  obtain ⟨k, i, s, z, n, q, d, t, l, c, b, e, u, m, o⟩ := C
  dsimp only at HS hO hk KBT ⊢
  subst hk
  go_enter Try.func25, Try.ntmps25
  go_wp2_with fail
  refine wp_region_held_drew (S := fun x => Below w.heap.size w x ∧ x.heap[w.heap.size]? = some (.cells (cmC 2 i s z n q a len cap t l c b e u m o) 36 (0, 0)) ∧ ∃ C : Array Value, C.size = 8 ∧ x.heap[w.heap.size + 1]? = some (.cells C 31 (0, 0))) (by kernel_rfl) (⟨Below.drew (Below.al (Below.al (Below.refl _ _) _) _), (heap_drew _ _).trans (ext_al (heap_new _ _)), ar8 0 0 0 0 0 0 0 0, rfl, (heap_drew _ _).trans (heap_at _ _ _ (by simp))⟩) (fun hHeld => ?_)
  obtain ⟨hW, hB, C0, hC0, hR⟩ := id hHeld
  refine tk 0 (.pointer (some ⟨w.heap.size, 7, none⟩)) rfl (.inl ⟨by rfl, ?_⟩) ?_
  · intro w9 hSw
    try dsimp only at hSw
    go_simp
    all_goals try decide
    all_goals try assumption
    all_goals try omega
  try simp only [Act.put, gA, gS, gZ, sA, sZ, sS]
  refine tk 1 (.bool t) rfl (.inl ⟨by rfl, ?_⟩) ?_
  · intro w9 hSw
    try dsimp only at hSw
    exact ex_load 4 (.tmp 18) rfl _ _ rfl (ld_4 _ _ _ _ (by rw [cell_of_row _ _ 7 _ _ _ hSw.2.1]; rfl))
  try simp only [Act.put, gA, gS, gZ, sA, sZ, sS]
  refine tk 5 (.pointer (some ⟨w.heap.size, 7, none⟩)) rfl (.inl ⟨by rfl, ?_⟩) ?_
  · intro w9 hSw
    try dsimp only at hSw
    go_simp
    all_goals try decide
    all_goals try assumption
    all_goals try omega
  try simp only [Act.put, gA, gS, gZ, sA, sZ, sS]
  refine tk 6 (.bool t) rfl (.inl ⟨by rfl, ?_⟩) ?_
  · intro w9 hSw
    try dsimp only at hSw
    exact ex_load 4 (.tmp 23) rfl _ _ rfl (ld_4 _ _ _ _ (by rw [cell_of_row _ _ 7 _ _ _ hSw.2.1]; rfl))
  try simp only [Act.put, gA, gS, gZ, sA, sZ, sS]
  refine tk 7 (cmV 2 0 0 false 0 false none 0 0 t false false 0 0 0 0 0) rfl (.inl ⟨by rfl, ?_⟩) ?_
  · intro w9 hSw
    try dsimp only at hSw
    go_simp
    all_goals try decide
    all_goals try assumption
    all_goals try omega
  try simp only [Act.put, gA, gS, gZ, sA, sZ, sS]
  refine tk 8 (cmV 2 i s z n q a len cap t l c b e u m o) rfl (.inl ⟨by rfl, ?_⟩) ?_
  · intro w9 hSw
    try dsimp only at hSw
    exact ex_load 36 (.tmp 1) rfl _ _ rfl (loadRC _ _ _ _ _ _ _ _ _ _ _ _ _ _ _ _ _ _ _ _ hSw.2.1)
  try simp only [Act.put, gA, gS, gZ, sA, sZ, sS]
  refine wpAnyH_ready (rs := [2]) (by kernel_rfl) (by simp) ?_
  refine AllReadyH.cons rfl (fun K' hK => ?_) AllReadyH.nil
  rw [if_pos (by rfl)]
  simp only [gA, gS, gZ]
  go_wp2_with fail
  refine (KBT.out _).mono ?_
  rintro r ww ⟨rfl, rfl⟩
  try go_wp2_with fail
  refine hK.out _ _ (⟨hW, hB, C0, hC0, hR⟩) (fun hHeld => ?_)
  clear hK K'
  try simp only [Act.put, gA, gS, gZ, sA, sZ, sS]
  clear hW hB hC0 hR
  obtain ⟨hW, hB, C0, hC0, hR⟩ := id hHeld
  refine tk 3 (.int .i64 (32 + BT)) rfl (.inl ⟨by rfl, ?_⟩) ?_
  · intro w9 hSw
    try dsimp only at hSw
    go_simp
    all_goals try (rw [wrapI64 _ (by omega) (by omega)])
    all_goals try decide
    all_goals try omega
  try simp only [Act.put, gA, gS, gZ, sA, sZ, sS]
  refine wpAnyH_ready (rs := [4]) (by kernel_rfl) (by simp) ?_
  refine AllReadyH.cons rfl (fun K' hK => ?_) AllReadyH.nil
  rw [if_pos (by rfl)]
  simp only [gA, gS, gZ]
  go_wp2_with fail
  refine (KL.out _).mono ?_
  rintro r ww ⟨rfl, v54_0, v54_1, rfl⟩
  try go_wp2_with fail
  refine hK.out _ _ (⟨(Below.al (Below.al hW _) _), (ext_al (ext_al hB)), C0, hC0, (ext_al (ext_al hR))⟩) (fun hHeld => ?_)
  clear hK K'
  try simp only [Act.put, gA, gS, gZ, sA, sZ, sS]
  clear hW hB hC0 hR
  obtain ⟨hW, hB, C0, hC0, hR⟩ := id hHeld
  refine wpAnyH_ready (rs := [9]) (by kernel_rfl) (by simp) ?_
  refine AllReadyH.cons rfl (fun K' hK => ?_) AllReadyH.nil
  rw [if_pos (by rfl)]
  simp only [gA, gS, gZ]
  go_wp2_with fail
  refine (HS.out _ hW).mono ?_
  rintro r ww ⟨rfl, v55_0, v55_1, rfl⟩
  try go_wp2_with fail
  refine hK.out _ _ (⟨(Below.al (Below.al hW _) _), (ext_al (ext_al hB)), C0, hC0, (ext_al (ext_al hR))⟩) (fun hHeld => ?_)
  clear hK K'
  try simp only [Act.put, gA, gS, gZ, sA, sZ, sS]
  clear hW hB hC0 hR
  obtain ⟨hW, hB, C0, hC0, hR⟩ := id hHeld
  refine wpAnyH_ready (rs := [10]) (by kernel_rfl) (by simp) ?_
  refine AllReadyH.cons rfl (fun K' hK => ?_) AllReadyH.nil
  rw [if_pos (by rfl)]
  simp only [gA, gS, gZ]
  refine wp_store_by 31 (.tmp 2) (.tmp 22) rfl _ _ rfl rfl (store8 _ _ C0 x0 0 0 0 0 0 0 0 _ hR hC0) ?_
  refine hK.out _ _ (⟨below_setRow hW (by omega) _, (setRow_other _ _ _ _ (by omega)).trans hB, _, rfl, setRow_heap _ _ _ _ _ _ hR⟩) (fun hHeld => ?_)
  clear hK K'
  try simp only [Act.put, gA, gS, gZ, sA, sZ, sS]
  refine tk 11 (.bool E) rfl (.inl ⟨by rfl, ?_⟩) ?_
  · intro w9 hSw
    try dsimp only at hSw
    go_simp
    all_goals try decide
    all_goals try assumption
    all_goals try omega
  try simp only [Act.put, gA, gS, gZ, sA, sZ, sS]
  refine wpAnyH_done (by kernel_rfl) ?_ _
  have hc := fun j => cell_of_row _ (w.heap.size + 1) j _ _ _ (setRow_heap _ _ _ (ar8 x0 0 0 0 0 0 0 0) _ _ hR)
  have hb := below_setRow hW (Nat.le_succ w.heap.size) (ar8 x0 0 0 0 0 0 0 0)
  clear hHeld hW hB hC0
  go_wp2_with fail
  refine bodyPost_ret (v := .tuple #[arr8 x0 0 0 0 0 0 0 0, .bool E]) ?_ rfl ⟨⟨x0, 0, 0, 0, 0, 0, 0, 0⟩, E, rfl, ?_, ?_⟩
  · simp [results, Try.results25, go_sem, hc]
  · exact hO.out
  · exact hb

set_option linter.unusedSimpArgs false in
set_option maxHeartbeats 4000000 in
set_option maxRecDepth 100000 in
theorem ranswer_k7 (C : Cm) (_ok : C.Ok) (hk : C.k = 7) (a : Option Addr) (cap : Nat) (w : World) (hr : Row w a C.d.length C.d) :
    Calls Try.prog 25 #[C.v a C.d.length cap] w (QPost w (ansP C)) := by
  have hA : ansP C = wBare 161 C := by unfold ansP; simp [hk]
  rw [hA]
  clear hA
  have HS : Hid (∀ W, Below w.heap.size w W → Calls Try.prog 18 #[cmV C.k 0 0 false 0 false none 0 0 false false false 0 0 0 0 0, cmV C.k C.i C.s C.z C.n C.q a C.d.length cap C.t C.l C.c C.b C.e C.u C.m C.o] W fun r w' => r = .returned (.bool (C.only 0)) ∧ ∃ o1 o2, w' = (W.alloc o1).alloc o2) := fun W hb => by
    have := same_any ⟨C.k, 0, 0, false, 0, false, [], false, false, false, 0, 0, 0, 0, 0⟩ C none 0 0 a C.d.length cap W (row_nil W) (hr.next hb)
    rw [bare_0] at this
    exact this
  have KL : Hid (∀ W, Calls Try.prog 33 #[.int .i64 161] W fun e w' => e = .returned (arr8 161 0 0 0 0 0 0 0) ∧ ∃ o1 o2, w' = (W.alloc o1).alloc o2) := fun W => plain_any 161 W
  have hO : Hid (wBare 161 C = if C.only 0 then some ⟨161, 0, 0, 0, 0, 0, 0, 0⟩ else none) := rfl
  generalize C.only 0 = E at HS hO
  generalize wBare 161 C = O at hO ⊢
  clear hr _ok
  generalize C.d.length = len at HS ⊢
  obtain ⟨k, i, s, z, n, q, d, t, l, c, b, e, u, m, o⟩ := C
  dsimp only at HS hO hk ⊢
  subst hk
  go_enter Try.func25, Try.ntmps25
  go_wp2_with fail
  refine wp_region_held_drew (S := fun x => Below w.heap.size w x ∧ x.heap[w.heap.size]? = some (.cells (cmC 7 i s z n q a len cap t l c b e u m o) 36 (0, 0)) ∧ ∃ C : Array Value, C.size = 8 ∧ x.heap[w.heap.size + 1]? = some (.cells C 31 (0, 0))) (by kernel_rfl) (⟨Below.drew (Below.al (Below.al (Below.refl _ _) _) _), (heap_drew _ _).trans (ext_al (heap_new _ _)), ar8 0 0 0 0 0 0 0 0, rfl, (heap_drew _ _).trans (heap_at _ _ _ (by simp))⟩) (fun hHeld => ?_)
  obtain ⟨hW, hB, C0, hC0, hR⟩ := id hHeld
  refine tk 1 (cmV 7 0 0 false 0 false none 0 0 false false false 0 0 0 0 0) rfl (.inl ⟨by rfl, ?_⟩) ?_
  · intro w9 hSw
    try dsimp only at hSw
    go_simp
    all_goals try decide
    all_goals try assumption
    all_goals try omega
  try simp only [Act.put, gA, gS, gZ, sA, sZ, sS]
  refine tk 2 (cmV 7 i s z n q a len cap t l c b e u m o) rfl (.inl ⟨by rfl, ?_⟩) ?_
  · intro w9 hSw
    try dsimp only at hSw
    exact ex_load 36 (.tmp 1) rfl _ _ rfl (loadRC _ _ _ _ _ _ _ _ _ _ _ _ _ _ _ _ _ _ _ _ hSw.2.1)
  try simp only [Act.put, gA, gS, gZ, sA, sZ, sS]
  refine wpAnyH_ready (rs := [0]) (by kernel_rfl) (by simp) ?_
  refine AllReadyH.cons rfl (fun K' hK => ?_) AllReadyH.nil
  rw [if_pos (by rfl)]
  simp only [gA, gS, gZ]
  go_wp2_with fail
  refine (KL.out _).mono ?_
  rintro r ww ⟨rfl, v56_0, v56_1, rfl⟩
  try go_wp2_with fail
  refine hK.out _ _ (⟨(Below.al (Below.al hW _) _), (ext_al (ext_al hB)), C0, hC0, (ext_al (ext_al hR))⟩) (fun hHeld => ?_)
  clear hK K'
  try simp only [Act.put, gA, gS, gZ, sA, sZ, sS]
  clear hW hB hC0 hR
  obtain ⟨hW, hB, C0, hC0, hR⟩ := id hHeld
  refine wpAnyH_ready (rs := [3]) (by kernel_rfl) (by simp) ?_
  refine AllReadyH.cons rfl (fun K' hK => ?_) AllReadyH.nil
  rw [if_pos (by rfl)]
  simp only [gA, gS, gZ]
  go_wp2_with fail
  refine (HS.out _ hW).mono ?_
  rintro r ww ⟨rfl, v57_0, v57_1, rfl⟩
  try go_wp2_with fail
  refine hK.out _ _ (⟨(Below.al (Below.al hW _) _), (ext_al (ext_al hB)), C0, hC0, (ext_al (ext_al hR))⟩) (fun hHeld => ?_)
  clear hK K'
  try simp only [Act.put, gA, gS, gZ, sA, sZ, sS]
  clear hW hB hC0 hR
  obtain ⟨hW, hB, C0, hC0, hR⟩ := id hHeld
  refine wpAnyH_ready (rs := [4]) (by kernel_rfl) (by simp) ?_
  refine AllReadyH.cons rfl (fun K' hK => ?_) AllReadyH.nil
  rw [if_pos (by rfl)]
  simp only [gA, gS, gZ]
  refine wp_store_by 31 (.tmp 2) (.tmp 54) rfl _ _ rfl rfl (store8 _ _ C0 161 0 0 0 0 0 0 0 _ hR hC0) ?_
  refine hK.out _ _ (⟨below_setRow hW (by omega) _, (setRow_other _ _ _ _ (by omega)).trans hB, _, rfl, setRow_heap _ _ _ _ _ _ hR⟩) (fun hHeld => ?_)
  clear hK K'
  try simp only [Act.put, gA, gS, gZ, sA, sZ, sS]
  refine tk 5 (.bool E) rfl (.inl ⟨by rfl, ?_⟩) ?_
  · intro w9 hSw
    try dsimp only at hSw
    go_simp
    all_goals try decide
    all_goals try assumption
    all_goals try omega
  try simp only [Act.put, gA, gS, gZ, sA, sZ, sS]
  refine wpAnyH_done (by kernel_rfl) ?_ _
  have hc := fun j => cell_of_row _ (w.heap.size + 1) j _ _ _ (setRow_heap _ _ _ (ar8 161 0 0 0 0 0 0 0) _ _ hR)
  have hb := below_setRow hW (Nat.le_succ w.heap.size) (ar8 161 0 0 0 0 0 0 0)
  clear hHeld hW hB hC0
  go_wp2_with fail
  refine bodyPost_ret (v := .tuple #[arr8 161 0 0 0 0 0 0 0, .bool E]) ?_ rfl ⟨⟨161, 0, 0, 0, 0, 0, 0, 0⟩, E, rfl, ?_, ?_⟩
  · simp [results, Try.results25, go_sem, hc]
  · exact hO.out
  · exact hb

end Go.Proofs.Ytlnlejdjekbipaa
namespace Go.Proofs.Ytlnlejdjekbipaa
open Go.RowKit

set_option linter.unusedSimpArgs false in
set_option maxHeartbeats 4000000 in
set_option maxRecDepth 100000 in
theorem rask_none (C : Cm) (h1 : ¬ C.k = 1) (h2 : ¬ C.k = 2) (h3 : ¬ C.k = 3) (h4 : ¬ C.k = 4) (h5 : ¬ C.k = 5) (h6 : ¬ C.k = 6) (h7 : ¬ C.k = 7) (h8 : ¬ C.k = 8) (h9 : ¬ C.k = 9) (h10 : ¬ C.k = 10) (h11 : ¬ C.k = 11) (a : Option Addr) (len cap : Nat) (w : World) :
    Calls Try.prog 24 #[C.v a len cap] w (QPost w none) := by
  obtain ⟨k, i, s, z, n, q, d, t, l, c, b, e, u, m, o⟩ := C
  dsimp only at h1 h2 h3 h4 h5 h6 h7 h8 h9 h10 h11 ⊢
  have b1' : (k == 1) = false := by simpa using h1
  have b2' : (k == 2) = false := by simpa using h2
  have b3' : (k == 3) = false := by simpa using h3
  have b4' : (k == 4) = false := by simpa using h4
  have b5' : (k == 5) = false := by simpa using h5
  have b6' : (k == 6) = false := by simpa using h6
  have b7' : (k == 7) = false := by simpa using h7
  have b8' : (k == 8) = false := by simpa using h8
  have b9' : (k == 9) = false := by simpa using h9
  have b10' : (k == 10) = false := by simpa using h10
  have b11' : (k == 11) = false := by simpa using h11
  clear h1 h2 h3 h4 h5 h6 h7 h8 h9 h10 h11
  go_enter Try.func24, Try.ntmps24
  go_wp2_with fail
  exact bodyPost_ret (v := .tuple #[arr8 0 0 0 0 0 0 0 0, .bool false]) (by simp [results, Try.results24, go_sem]) rfl ⟨⟨0, 0, 0, 0, 0, 0, 0, 0⟩, false, rfl, rfl, (by repeat (first | assumption | exact Below.refl _ _ | apply Below.drew | apply Below.al))⟩
theorem rask_any (C : Cm) (ok : C.Ok) (a : Option Addr) (cap : Nat) (hl : C.d.length ≤ 1000) (w : World) (hr : Row w a C.d.length C.d) :
    Calls Try.prog 24 #[C.v a C.d.length cap] w (QPost w (askP C)) := by
  by_cases h1 : C.k = 1
  · exact rask_k1 C ok h1 a cap hl w hr
  by_cases h2 : C.k = 2
  · exact rask_k2 C ok h2 a cap hl w hr
  by_cases h3 : C.k = 3
  · exact rask_k3 C ok h3 a cap w hr
  by_cases h4 : C.k = 4
  · exact rask_k4 C ok h4 a cap w hr
  by_cases h5 : C.k = 5
  · exact rask_k5 C ok h5 a cap hl w hr
  by_cases h6 : C.k = 6
  · exact rask_k6 C ok h6 a cap hl w hr
  by_cases h7 : C.k = 7
  · exact rask_k7 C ok h7 a cap hl w hr
  by_cases h8 : C.k = 8
  · exact rask_k8 C ok h8 a cap hl w hr
  by_cases h9 : C.k = 9
  · exact rask_k9 C ok h9 a cap w hr
  by_cases h10 : C.k = 10
  · exact rask_k10 C ok h10 a cap hl w hr
  by_cases h11 : C.k = 11
  · exact rask_k11 C ok h11 a cap w hr
  have hn : askP C = none := by unfold askP; simp [h1, h2, h3, h4, h5, h6, h7, h8, h9, h10, h11]
  rw [hn]
  exact rask_none C h1 h2 h3 h4 h5 h6 h7 h8 h9 h10 h11 a C.d.length cap w
#print axioms rask_any
end Go.Proofs.Ytlnlejdjekbipaa
namespace Go.Proofs.Ytlnlejdjekbipaa
open Go.RowKit

set_option linter.unusedSimpArgs false in
set_option maxHeartbeats 4000000 in
set_option maxRecDepth 100000 in
theorem ranswer_none (C : Cm) (h1 : ¬ C.k = 1) (h2 : ¬ C.k = 2) (h3 : ¬ C.k = 3) (h4 : ¬ C.k = 4) (h5 : ¬ C.k = 5) (h6 : ¬ C.k = 6) (h7 : ¬ C.k = 7) (h8 : ¬ C.k = 8) (h10 : ¬ C.k = 10) (h11 : ¬ C.k = 11) (a : Option Addr) (len cap : Nat) (w : World) :
    Calls Try.prog 25 #[C.v a len cap] w (QPost w none) := by
  obtain ⟨k, i, s, z, n, q, d, t, l, c, b, e, u, m, o⟩ := C
  dsimp only at h1 h2 h3 h4 h5 h6 h7 h8 h10 h11 ⊢
  have b1' : (k == 1) = false := by simpa using h1
  have b2' : (k == 2) = false := by simpa using h2
  have b3' : (k == 3) = false := by simpa using h3
  have b4' : (k == 4) = false := by simpa using h4
  have b5' : (k == 5) = false := by simpa using h5
  have b6' : (k == 6) = false := by simpa using h6
  have b7' : (k == 7) = false := by simpa using h7
  have b8' : (k == 8) = false := by simpa using h8
  have b10' : (k == 10) = false := by simpa using h10
  have b11' : (k == 11) = false := by simpa using h11
  clear h1 h2 h3 h4 h5 h6 h7 h8 h10 h11
  go_enter Try.func25, Try.ntmps25
  go_wp2_with fail
  exact bodyPost_ret (v := .tuple #[arr8 0 0 0 0 0 0 0 0, .bool false]) (by simp [results, Try.results25, go_sem]) rfl ⟨⟨0, 0, 0, 0, 0, 0, 0, 0⟩, false, rfl, rfl, (by repeat (first | assumption | exact Below.refl _ _ | apply Below.drew | apply Below.al))⟩
theorem ranswer_any (C : Cm) (ok : C.Ok) (a : Option Addr) (cap : Nat) (hl : C.d.length ≤ 1000) (w : World) (hr : Row w a C.d.length C.d) :
    Calls Try.prog 25 #[C.v a C.d.length cap] w (QPost w (ansP C)) := by
  by_cases h1 : C.k = 1
  · exact ranswer_k1 C ok h1 a cap w hr
  by_cases h2 : C.k = 2
  · exact ranswer_k2 C ok h2 a cap w hr
  by_cases h3 : C.k = 3
  · exact ranswer_k3 C ok h3 a cap hl w hr
  by_cases h4 : C.k = 4
  · exact ranswer_k4 C ok h4 a cap hl w hr
  by_cases h5 : C.k = 5
  · exact ranswer_k5 C ok h5 a cap hl w hr
  by_cases h6 : C.k = 6
  · exact ranswer_k6 C ok h6 a cap hl w hr
  by_cases h7 : C.k = 7
  · exact ranswer_k7 C ok h7 a cap w hr
  by_cases h8 : C.k = 8
  · exact ranswer_k8 C ok h8 a cap hl w hr
  by_cases h10 : C.k = 10
  · exact ranswer_k10 C ok h10 a cap hl w hr
  by_cases h11 : C.k = 11
  · exact ranswer_k11 C ok h11 a cap hl w hr
  have hn : ansP C = none := by unfold ansP; simp [h1, h2, h3, h4, h5, h6, h7, h8, h10, h11]
  rw [hn]
  exact ranswer_none C h1 h2 h3 h4 h5 h6 h7 h8 h10 h11 a C.d.length cap w
#print axioms ranswer_any
end Go.Proofs.Ytlnlejdjekbipaa
namespace Go.Proofs.Ytlnlejdjekbipaa
open Go.RowKit

set_option linter.unusedSimpArgs false in
set_option maxHeartbeats 4000000 in
set_option maxRecDepth 100000 in
theorem rbytes_askP (C : Cm) (ok : C.Ok) (a : Option Addr) (cap : Nat) (hl : C.d.length ≤ 1000) (w : World) (hr : Row w a C.d.length C.d) :
    Calls Try.prog 10 #[C.v a C.d.length cap, .bool false] w (BPost w (askP C)) := by
  have KF : Hid (∀ W, Below w.heap.size w W → Calls Try.prog 24 #[cmV C.k C.i C.s C.z C.n C.q a C.d.length cap C.t C.l C.c C.b C.e C.u C.m C.o] W (QPost W (askP C))) := fun W hb => rask_any C ok a cap hl W (hr.next hb)
  generalize askP C = O at KF ⊢
  clear hr ok
  generalize C.d.length = len at KF hl ⊢
  clear hl
  obtain ⟨k, i, s, z, n, q, d, t, l, c, b, e, u, m, o⟩ := C
  dsimp only at KF ⊢
  go_enter Try.func10, Try.ntmps10
  go_wp2_with fail
  with_reducible refine (KF.out _ (by repeat (first | assumption | exact Below.refl _ _ | apply Below.drew | apply Below.al))).mono ?_
  rintro r w1 ⟨x, E, rfl, hx, hb⟩
  obtain ⟨x0, x1, x2, x3, x4, x5, x6, x7⟩ := x
  have hR1 : w1.heap[w.heap.size + 1]? = some (.cells (ar8 0 0 0 0 0 0 0 0) 31 (0, 0)) := (hb.block _ (by simp)).trans (heap_at _ _ _ (by simp))
  have hB1 : w1.heap[w.heap.size]? = some (.cells (cmC k i s z n q a len cap t l c b e u m o) 36 (0, 0)) := (hb.block _ (by simp; omega)).trans (ext_al (heap_new _ _))
  have hW1 : Below w.heap.size w w1 := Below.andThen (by repeat (first | assumption | exact Below.refl _ _ | apply Below.drew | apply Below.al)) hb
  clear hb
  have Hx : Hid _ := hx
  clear hx
  cases E
  · have hR2 := ext_al (o := .cells (ar8 x0 x1 x2 x3 x4 x5 x6 x7) 31) hR1
    have hW2 := Below.al hW1 (.cells (ar8 x0 x1 x2 x3 x4 x5 x6 x7) 31)
    go_wp2_with (refine wpList_store_by rfl 31 _ _ rfl _ _ rfl rfl (store8 _ (w.heap.size + 1) (ar8 0 0 0 0 0 0 0 0) 0 0 0 0 0 0 0 0 _ hR2 rfl) ?_)
    have hc := fun j => cell_of_row _ (w.heap.size + 1) j _ _ _ (setRow_heap _ _ _ (ar8 0 0 0 0 0 0 0 0) _ _ hR2)
    have hf := below_setRow hW2 (Nat.le_succ w.heap.size) (ar8 0 0 0 0 0 0 0 0)
    refine bodyPost_ret (v := .tuple #[arr8 0 0 0 0 0 0 0 0, .int .i64 2]) ?_ rfl ?_
    · simp [results, Try.results10, go_sem, hc]
    · have e1 := Hx.out
      simp only [if_true, Bool.false_eq_true, if_false] at e1
      subst e1
      exact ⟨rfl, hf⟩
  · have hR2 := ext_al (o := .cells (ar8 x0 x1 x2 x3 x4 x5 x6 x7) 31) hR1
    have hW2 := Below.al hW1 (.cells (ar8 x0 x1 x2 x3 x4 x5 x6 x7) 31)
    go_wp2_with (refine wpList_store_by rfl 31 _ _ rfl _ _ rfl rfl (store8 _ (w.heap.size + 1) (ar8 0 0 0 0 0 0 0 0) x0 x1 x2 x3 x4 x5 x6 x7 _ hR2 rfl) ?_)
    have hc := fun j => cell_of_row _ (w.heap.size + 1) j _ _ _ (setRow_heap _ _ _ (ar8 x0 x1 x2 x3 x4 x5 x6 x7) _ _ hR2)
    have hf := below_setRow hW2 (Nat.le_succ w.heap.size) (ar8 x0 x1 x2 x3 x4 x5 x6 x7)
    refine bodyPost_ret (v := .tuple #[arr8 x0 x1 x2 x3 x4 x5 x6 x7, .int .i64 0]) ?_ rfl ?_
    · simp [results, Try.results10, go_sem, hc]
    · have e1 := Hx.out
      simp only [if_true, Bool.false_eq_true, if_false] at e1
      subst e1
      exact ⟨rfl, hf⟩
#print axioms rbytes_askP

set_option linter.unusedSimpArgs false in
set_option maxHeartbeats 4000000 in
set_option maxRecDepth 100000 in
theorem rbytes_ansP (C : Cm) (ok : C.Ok) (a : Option Addr) (cap : Nat) (hl : C.d.length ≤ 1000) (w : World) (hr : Row w a C.d.length C.d) :
    Calls Try.prog 10 #[C.v a C.d.length cap, .bool true] w (BPost w (ansP C)) := by
  have KF : Hid (∀ W, Below w.heap.size w W → Calls Try.prog 24 #[cmV C.k C.i C.s C.z C.n C.q a C.d.length cap C.t C.l C.c C.b C.e C.u C.m C.o] W (QPost W (askP C))) := fun W hb => rask_any C ok a cap hl W (hr.next hb)
  have KG : Hid (∀ W, Below w.heap.size w W → Calls Try.prog 25 #[cmV C.k C.i C.s C.z C.n C.q a C.d.length cap C.t C.l C.c C.b C.e C.u C.m C.o] W (QPost W (ansP C))) := fun W hb => ranswer_any C ok a cap hl W (hr.next hb)
  generalize askP C = O at KF
  generalize ansP C = O2 at KG ⊢
  clear hr ok
  generalize C.d.length = len at KF KG hl ⊢
  clear hl
  obtain ⟨k, i, s, z, n, q, d, t, l, c, b, e, u, m, o⟩ := C
  dsimp only at KF KG ⊢
  go_enter Try.func10, Try.ntmps10
  go_wp2_with fail
  with_reducible refine (KF.out _ (by repeat (first | assumption | exact Below.refl _ _ | apply Below.drew | apply Below.al))).mono ?_
  rintro r w1 ⟨x, E, rfl, hx, hb⟩
  obtain ⟨x0, x1, x2, x3, x4, x5, x6, x7⟩ := x
  have hR1 : w1.heap[w.heap.size + 1]? = some (.cells (ar8 0 0 0 0 0 0 0 0) 31 (0, 0)) := (hb.block _ (by simp)).trans (heap_at _ _ _ (by simp))
  have hB1 : w1.heap[w.heap.size]? = some (.cells (cmC k i s z n q a len cap t l c b e u m o) 36 (0, 0)) := (hb.block _ (by simp; omega)).trans (ext_al (heap_new _ _))
  have hW1 : Below w.heap.size w w1 := Below.andThen (by repeat (first | assumption | exact Below.refl _ _ | apply Below.drew | apply Below.al)) hb
  clear hb
  have Hx : Hid _ := hx
  clear hx
  clear Hx
  have hB2 := ext_al (o := .cells (ar8 x0 x1 x2 x3 x4 x5 x6 x7) 31) hB1
  have hR2 := ext_al (o := .cells (ar8 x0 x1 x2 x3 x4 x5 x6 x7) 31) hR1
  have h62 := heap_new w1 (.cells (ar8 x0 x1 x2 x3 x4 x5 x6 x7) 31)
  have hW2 := Below.al hW1 (.cells (ar8 x0 x1 x2 x3 x4 x5 x6 x7) 31)
  go_wp2_with (refine wpList_load_by rfl 36 _ rfl _ _ rfl (loadRC _ _ _ _ _ _ _ _ _ _ _ _ _ _ _ _ _ _ _ _ hB2) ?_)
  with_reducible refine (KG.out _ hW2).mono ?_
  rintro r w2 ⟨x, F, rfl, hx, hb⟩
  obtain ⟨z0, z1, z2, z3, z4, z5, z6, z7⟩ := x
  have Hx : Hid _ := hx
  clear hx
  have l1 := (Array.getElem?_eq_some_iff.1 hR1).1
  have hR3 := (hb.block _ (Array.getElem?_eq_some_iff.1 hR2).1).trans hR2
  have h63 := (hb.block _ (Array.getElem?_eq_some_iff.1 h62).1).trans h62
  have hW3 := Below.andThen hW2 hb
  have hR4 := (setRow_other w2 w1.heap.size (w.heap.size + 1) (ar8 z0 z1 z2 z3 z4 z5 z6 z7) (by omega)).trans hR3
  have h64 := setRow_heap _ _ _ (ar8 z0 z1 z2 z3 z4 z5 z6 z7) _ _ h63
  have hW4 := below_setRow hW3 (Nat.le_of_lt (Nat.lt_of_succ_lt l1)) (ar8 z0 z1 z2 z3 z4 z5 z6 z7)
  clear hb
  cases F
  · go_wp2_with (first | (refine wpList_store_by rfl 31 _ _ rfl _ _ rfl rfl (store8 _ (w1.heap.size) (ar8 x0 x1 x2 x3 x4 x5 x6 x7) z0 z1 z2 z3 z4 z5 z6 z7 _ h63 rfl) ?_) | (refine wpList_load_by rfl 31 _ rfl _ _ rfl (load8 _ (w1.heap.size) _ _ _ _ _ _ _ _ _ h64) ?_) | (refine wpList_store_by rfl 31 _ _ rfl _ _ rfl rfl (store8 _ (w.heap.size + 1) (ar8 0 0 0 0 0 0 0 0) 0 0 0 0 0 0 0 0 _ hR4 rfl) ?_))
    have hc := fun j => cell_of_row _ (w.heap.size + 1) j _ _ _ (setRow_heap _ _ _ (ar8 0 0 0 0 0 0 0 0) _ _ hR4)
    have hf := below_setRow hW4 (Nat.le_succ w.heap.size) (ar8 0 0 0 0 0 0 0 0)
    refine bodyPost_ret (v := .tuple #[arr8 0 0 0 0 0 0 0 0, .int .i64 2]) ?_ rfl ?_
    · simp [results, Try.results10, go_sem, hc]
    · have e1 := Hx.out
      simp only [if_true, Bool.false_eq_true, if_false] at e1
      subst e1
      exact ⟨rfl, hf⟩
  · go_wp2_with (first | (refine wpList_store_by rfl 31 _ _ rfl _ _ rfl rfl (store8 _ (w1.heap.size) (ar8 x0 x1 x2 x3 x4 x5 x6 x7) z0 z1 z2 z3 z4 z5 z6 z7 _ h63 rfl) ?_) | (refine wpList_load_by rfl 31 _ rfl _ _ rfl (load8 _ (w1.heap.size) _ _ _ _ _ _ _ _ _ h64) ?_) | (refine wpList_store_by rfl 31 _ _ rfl _ _ rfl rfl (store8 _ (w.heap.size + 1) (ar8 0 0 0 0 0 0 0 0) z0 z1 z2 z3 z4 z5 z6 z7 _ hR4 rfl) ?_))
    have hc := fun j => cell_of_row _ (w.heap.size + 1) j _ _ _ (setRow_heap _ _ _ (ar8 z0 z1 z2 z3 z4 z5 z6 z7) _ _ hR4)
    have hf := below_setRow hW4 (Nat.le_succ w.heap.size) (ar8 z0 z1 z2 z3 z4 z5 z6 z7)
    refine bodyPost_ret (v := .tuple #[arr8 z0 z1 z2 z3 z4 z5 z6 z7, .int .i64 0]) ?_ rfl ?_
    · simp [results, Try.results10, go_sem, hc]
    · have e1 := Hx.out
      simp only [if_true, Bool.false_eq_true, if_false] at e1
      subst e1
      exact ⟨rfl, hf⟩
#print axioms rbytes_ansP

end Go.Proofs.Ytlnlejdjekbipaa
