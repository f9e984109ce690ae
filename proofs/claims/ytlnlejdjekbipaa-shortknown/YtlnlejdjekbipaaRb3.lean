/-
  The walk of the document's Same, where one of the fields t, l, c, b differs.
-/
import Derived.Test.YtlnlejdjekbipaaRb
set_option linter.unusedVariables false
namespace Go.Proofs.Ytlnlejdjekbipaa
open Go.RowKit

set_option linter.unusedSimpArgs false in
set_option maxHeartbeats 4000000 in
set_option maxRecDepth 100000 in
theorem same_t (k i s : Int) (z : Bool) (n : Int) (q : Bool) (d : List Int) (t l c : Bool) (b e u m o : Int) (t2 : Bool) (l2 : Bool) (c2 : Bool) (b2 : Int) (e2 : Int) (u2 : Int) (m2 : Int) (o2 : Int) (a : Option Addr) (len cap : Nat) (a2 : Option Addr) (cap2 : Nat) (w : World) (hx : Row w a len d) (hy : Row w a2 len d) (h : ¬ t = t2) :
    Calls Try.prog 18 #[cmV k i s z n q a len cap t l c b e u m o, cmV k i s z n q a2 len cap2 t2 l2 c2 b2 e2 u2 m2 o2] w fun r w' => r = .returned (.bool false) ∧ ∃ o1 o2, w' = (w.alloc o1).alloc o2 := by
  have hP := eqlP
  have hbq : (t == t2) = false := by simpa using h
  have c1 := (hx.next (w' := ((w.alloc (.cells (cmC k i s z n q a len cap t l c b e u m o) 36)).alloc (.cells (cmC k i s z n q a2 len cap2 t2 l2 c2 b2 e2 u2 m2 o2) 36))) (by repeat (first | exact Below.refl _ _ | apply Below.drew | apply Below.al))).str cap
  have c2 := (hy.next (w' := ((w.alloc (.cells (cmC k i s z n q a len cap t l c b e u m o) 36)).alloc (.cells (cmC k i s z n q a2 len cap2 t2 l2 c2 b2 e2 u2 m2 o2) 36))) (by repeat (first | exact Below.refl _ _ | apply Below.drew | apply Below.al))).str cap2
  clear hx hy h
  go_enter Try.func18, Try.ntmps18
  go_wp2_with fail
  go_ret
  exact ⟨rfl, _, _, rfl⟩

set_option linter.unusedSimpArgs false in
set_option maxHeartbeats 4000000 in
set_option maxRecDepth 100000 in
theorem same_l (k i s : Int) (z : Bool) (n : Int) (q : Bool) (d : List Int) (t l c : Bool) (b e u m o : Int) (l2 : Bool) (c2 : Bool) (b2 : Int) (e2 : Int) (u2 : Int) (m2 : Int) (o2 : Int) (a : Option Addr) (len cap : Nat) (a2 : Option Addr) (cap2 : Nat) (w : World) (hx : Row w a len d) (hy : Row w a2 len d) (h : ¬ l = l2) :
    Calls Try.prog 18 #[cmV k i s z n q a len cap t l c b e u m o, cmV k i s z n q a2 len cap2 t l2 c2 b2 e2 u2 m2 o2] w fun r w' => r = .returned (.bool false) ∧ ∃ o1 o2, w' = (w.alloc o1).alloc o2 := by
  have hP := eqlP
  have hbq : (l == l2) = false := by simpa using h
  have c1 := (hx.next (w' := ((w.alloc (.cells (cmC k i s z n q a len cap t l c b e u m o) 36)).alloc (.cells (cmC k i s z n q a2 len cap2 t l2 c2 b2 e2 u2 m2 o2) 36))) (by repeat (first | exact Below.refl _ _ | apply Below.drew | apply Below.al))).str cap
  have c2 := (hy.next (w' := ((w.alloc (.cells (cmC k i s z n q a len cap t l c b e u m o) 36)).alloc (.cells (cmC k i s z n q a2 len cap2 t l2 c2 b2 e2 u2 m2 o2) 36))) (by repeat (first | exact Below.refl _ _ | apply Below.drew | apply Below.al))).str cap2
  clear hx hy h
  go_enter Try.func18, Try.ntmps18
  go_wp2_with fail
  go_ret
  exact ⟨rfl, _, _, rfl⟩

set_option linter.unusedSimpArgs false in
set_option maxHeartbeats 4000000 in
set_option maxRecDepth 100000 in
theorem same_c (k i s : Int) (z : Bool) (n : Int) (q : Bool) (d : List Int) (t l c : Bool) (b e u m o : Int) (c2 : Bool) (b2 : Int) (e2 : Int) (u2 : Int) (m2 : Int) (o2 : Int) (a : Option Addr) (len cap : Nat) (a2 : Option Addr) (cap2 : Nat) (w : World) (hx : Row w a len d) (hy : Row w a2 len d) (h : ¬ c = c2) :
    Calls Try.prog 18 #[cmV k i s z n q a len cap t l c b e u m o, cmV k i s z n q a2 len cap2 t l c2 b2 e2 u2 m2 o2] w fun r w' => r = .returned (.bool false) ∧ ∃ o1 o2, w' = (w.alloc o1).alloc o2 := by
  have hP := eqlP
  have hbq : (c == c2) = false := by simpa using h
  have c1 := (hx.next (w' := ((w.alloc (.cells (cmC k i s z n q a len cap t l c b e u m o) 36)).alloc (.cells (cmC k i s z n q a2 len cap2 t l c2 b2 e2 u2 m2 o2) 36))) (by repeat (first | exact Below.refl _ _ | apply Below.drew | apply Below.al))).str cap
  have c2 := (hy.next (w' := ((w.alloc (.cells (cmC k i s z n q a len cap t l c b e u m o) 36)).alloc (.cells (cmC k i s z n q a2 len cap2 t l c2 b2 e2 u2 m2 o2) 36))) (by repeat (first | exact Below.refl _ _ | apply Below.drew | apply Below.al))).str cap2
  clear hx hy h
  go_enter Try.func18, Try.ntmps18
  go_wp2_with fail
  go_ret
  exact ⟨rfl, _, _, rfl⟩

set_option linter.unusedSimpArgs false in
set_option maxHeartbeats 4000000 in
set_option maxRecDepth 100000 in
theorem same_b (k i s : Int) (z : Bool) (n : Int) (q : Bool) (d : List Int) (t l c : Bool) (b e u m o : Int) (b2 : Int) (e2 : Int) (u2 : Int) (m2 : Int) (o2 : Int) (a : Option Addr) (len cap : Nat) (a2 : Option Addr) (cap2 : Nat) (w : World) (hx : Row w a len d) (hy : Row w a2 len d) (h : ¬ b = b2) :
    Calls Try.prog 18 #[cmV k i s z n q a len cap t l c b e u m o, cmV k i s z n q a2 len cap2 t l c b2 e2 u2 m2 o2] w fun r w' => r = .returned (.bool false) ∧ ∃ o1 o2, w' = (w.alloc o1).alloc o2 := by
  have hP := eqlP
  have hbq : (b == b2) = false := by simpa using h
  have c1 := (hx.next (w' := ((w.alloc (.cells (cmC k i s z n q a len cap t l c b e u m o) 36)).alloc (.cells (cmC k i s z n q a2 len cap2 t l c b2 e2 u2 m2 o2) 36))) (by repeat (first | exact Below.refl _ _ | apply Below.drew | apply Below.al))).str cap
  have c2 := (hy.next (w' := ((w.alloc (.cells (cmC k i s z n q a len cap t l c b e u m o) 36)).alloc (.cells (cmC k i s z n q a2 len cap2 t l c b2 e2 u2 m2 o2) 36))) (by repeat (first | exact Below.refl _ _ | apply Below.drew | apply Below.al))).str cap2
  clear hx hy h
  go_enter Try.func18, Try.ntmps18
  go_wp2_with fail
  go_ret
  exact ⟨rfl, _, _, rfl⟩
end Go.Proofs.Ytlnlejdjekbipaa
