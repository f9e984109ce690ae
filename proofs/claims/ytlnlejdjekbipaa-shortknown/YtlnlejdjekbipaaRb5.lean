/-
  The walk of the document's Same, where one of the fields m, o differs.
  The walk of the document's Same, where all is the same.
-/
import Derived.Test.YtlnlejdjekbipaaRb
set_option linter.unusedVariables false
namespace Go.Proofs.Ytlnlejdjekbipaa
open Go.RowKit

set_option linter.unusedSimpArgs false in
set_option maxHeartbeats 4000000 in
set_option maxRecDepth 100000 in
theorem same_m (k i s : Int) (z : Bool) (n : Int) (q : Bool) (d : List Int) (t l c : Bool) (b e u m o : Int) (m2 : Int) (o2 : Int) (a : Option Addr) (len cap : Nat) (a2 : Option Addr) (cap2 : Nat) (w : World) (hx : Row w a len d) (hy : Row w a2 len d) (h : ¬ m = m2) :
    Calls Try.prog 18 #[cmV k i s z n q a len cap t l c b e u m o, cmV k i s z n q a2 len cap2 t l c b e u m2 o2] w fun r w' => r = .returned (.bool false) ∧ ∃ o1 o2, w' = (w.alloc o1).alloc o2 := by
  have hP := eqlP
  have hbq : (m == m2) = false := by simpa using h
  have c1 := (hx.next (w' := ((w.alloc (.cells (cmC k i s z n q a len cap t l c b e u m o) 36)).alloc (.cells (cmC k i s z n q a2 len cap2 t l c b e u m2 o2) 36))) (by repeat (first | exact Below.refl _ _ | apply Below.drew | apply Below.al))).str cap
  have c2 := (hy.next (w' := ((w.alloc (.cells (cmC k i s z n q a len cap t l c b e u m o) 36)).alloc (.cells (cmC k i s z n q a2 len cap2 t l c b e u m2 o2) 36))) (by repeat (first | exact Below.refl _ _ | apply Below.drew | apply Below.al))).str cap2
  clear hx hy h
  go_enter Try.func18, Try.ntmps18
  go_wp2_with fail
  go_ret
  exact ⟨rfl, _, _, rfl⟩

set_option linter.unusedSimpArgs false in
set_option maxHeartbeats 4000000 in
set_option maxRecDepth 100000 in
theorem same_o (k i s : Int) (z : Bool) (n : Int) (q : Bool) (d : List Int) (t l c : Bool) (b e u m o : Int) (o2 : Int) (a : Option Addr) (len cap : Nat) (a2 : Option Addr) (cap2 : Nat) (w : World) (hx : Row w a len d) (hy : Row w a2 len d) (h : ¬ o = o2) :
    Calls Try.prog 18 #[cmV k i s z n q a len cap t l c b e u m o, cmV k i s z n q a2 len cap2 t l c b e u m o2] w fun r w' => r = .returned (.bool false) ∧ ∃ o1 o2, w' = (w.alloc o1).alloc o2 := by
  have hP := eqlP
  have hbq : (o == o2) = false := by simpa using h
  have c1 := (hx.next (w' := ((w.alloc (.cells (cmC k i s z n q a len cap t l c b e u m o) 36)).alloc (.cells (cmC k i s z n q a2 len cap2 t l c b e u m o2) 36))) (by repeat (first | exact Below.refl _ _ | apply Below.drew | apply Below.al))).str cap
  have c2 := (hy.next (w' := ((w.alloc (.cells (cmC k i s z n q a len cap t l c b e u m o) 36)).alloc (.cells (cmC k i s z n q a2 len cap2 t l c b e u m o2) 36))) (by repeat (first | exact Below.refl _ _ | apply Below.drew | apply Below.al))).str cap2
  clear hx hy h
  go_enter Try.func18, Try.ntmps18
  go_wp2_with fail
  go_ret
  exact ⟨rfl, _, _, rfl⟩
end Go.Proofs.Ytlnlejdjekbipaa
set_option linter.unusedVariables false
namespace Go.Proofs.Ytlnlejdjekbipaa
open Go.RowKit

set_option linter.unusedSimpArgs false in
set_option maxHeartbeats 4000000 in
set_option maxRecDepth 100000 in
theorem same_all (k i s : Int) (z : Bool) (n : Int) (q : Bool) (d : List Int) (t l c : Bool) (b e u m o : Int)  (a : Option Addr) (len cap : Nat) (a2 : Option Addr) (cap2 : Nat) (w : World) (hx : Row w a len d) (hy : Row w a2 len d) :
    Calls Try.prog 18 #[cmV k i s z n q a len cap t l c b e u m o, cmV k i s z n q a2 len cap2 t l c b e u m o] w fun r w' => r = .returned (.bool true) ∧ ∃ o1 o2, w' = (w.alloc o1).alloc o2 := by
  have hP := eqlP
  have c1 := (hx.next (w' := ((w.alloc (.cells (cmC k i s z n q a len cap t l c b e u m o) 36)).alloc (.cells (cmC k i s z n q a2 len cap2 t l c b e u m o) 36))) (by repeat (first | exact Below.refl _ _ | apply Below.drew | apply Below.al))).str cap
  have c2 := (hy.next (w' := ((w.alloc (.cells (cmC k i s z n q a len cap t l c b e u m o) 36)).alloc (.cells (cmC k i s z n q a2 len cap2 t l c b e u m o) 36))) (by repeat (first | exact Below.refl _ _ | apply Below.drew | apply Below.al))).str cap2
  clear hx hy
  go_enter Try.func18, Try.ntmps18
  go_wp2_with fail
  go_ret
  exact ⟨rfl, _, _, rfl⟩
end Go.Proofs.Ytlnlejdjekbipaa
