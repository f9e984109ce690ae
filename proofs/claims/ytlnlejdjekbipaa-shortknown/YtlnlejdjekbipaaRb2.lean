/-
  The walk of the document's Same, where one of the fields n, q, d differs.
-/
import Derived.Test.YtlnlejdjekbipaaRb
set_option linter.unusedVariables false
namespace Go.Proofs.Ytlnlejdjekbipaa
open Go.RowKit

set_option linter.unusedSimpArgs false in
set_option maxHeartbeats 4000000 in
set_option maxRecDepth 100000 in
theorem same_n (k i s : Int) (z : Bool) (n : Int) (q : Bool) (d : List Int) (t l c : Bool) (b e u m o : Int) (n2 : Int) (q2 : Bool) (d2 : List Int) (t2 : Bool) (l2 : Bool) (c2 : Bool) (b2 : Int) (e2 : Int) (u2 : Int) (m2 : Int) (o2 : Int) (a : Option Addr) (len cap : Nat) (a2 : Option Addr) (len2 cap2 : Nat) (w : World) (hx : Row w a len d) (hy : Row w a2 len2 d2) (h : ¬ n = n2) :
    Calls Try.prog 18 #[cmV k i s z n q a len cap t l c b e u m o, cmV k i s z n2 q2 a2 len2 cap2 t2 l2 c2 b2 e2 u2 m2 o2] w fun r w' => r = .returned (.bool false) ∧ ∃ o1 o2, w' = (w.alloc o1).alloc o2 := by
  have hP := eqlP
  have hbq : (n == n2) = false := by simpa using h
  clear hx hy h
  go_enter Try.func18, Try.ntmps18
  go_wp2_with fail
  go_ret
  exact ⟨rfl, _, _, rfl⟩

set_option linter.unusedSimpArgs false in
set_option maxHeartbeats 4000000 in
set_option maxRecDepth 100000 in
theorem same_q (k i s : Int) (z : Bool) (n : Int) (q : Bool) (d : List Int) (t l c : Bool) (b e u m o : Int) (q2 : Bool) (d2 : List Int) (t2 : Bool) (l2 : Bool) (c2 : Bool) (b2 : Int) (e2 : Int) (u2 : Int) (m2 : Int) (o2 : Int) (a : Option Addr) (len cap : Nat) (a2 : Option Addr) (len2 cap2 : Nat) (w : World) (hx : Row w a len d) (hy : Row w a2 len2 d2) (h : ¬ q = q2) :
    Calls Try.prog 18 #[cmV k i s z n q a len cap t l c b e u m o, cmV k i s z n q2 a2 len2 cap2 t2 l2 c2 b2 e2 u2 m2 o2] w fun r w' => r = .returned (.bool false) ∧ ∃ o1 o2, w' = (w.alloc o1).alloc o2 := by
  have hP := eqlP
  have hbq : (q == q2) = false := by simpa using h
  clear hx hy h
  go_enter Try.func18, Try.ntmps18
  go_wp2_with fail
  go_ret
  exact ⟨rfl, _, _, rfl⟩

set_option linter.unusedSimpArgs false in
set_option maxHeartbeats 4000000 in
set_option maxRecDepth 100000 in
theorem same_d (k i s : Int) (z : Bool) (n : Int) (q : Bool) (d : List Int) (t l c : Bool) (b e u m o : Int) (d2 : List Int) (t2 : Bool) (l2 : Bool) (c2 : Bool) (b2 : Int) (e2 : Int) (u2 : Int) (m2 : Int) (o2 : Int) (a : Option Addr) (len cap : Nat) (a2 : Option Addr) (len2 cap2 : Nat) (w : World) (hx : Row w a len d) (hy : Row w a2 len2 d2) (h : ¬ d = d2) :
    Calls Try.prog 18 #[cmV k i s z n q a len cap t l c b e u m o, cmV k i s z n q a2 len2 cap2 t2 l2 c2 b2 e2 u2 m2 o2] w fun r w' => r = .returned (.bool false) ∧ ∃ o1 o2, w' = (w.alloc o1).alloc o2 := by
  have hP := eqlP
  have sb : ((strOfNums d).toList == (strOfNums d2).toList) = false := by rw [beq_eq_false_iff_ne]; exact fun h' => h (str_inj d d2 hx.oct hy.oct h')
  have c1 := (hx.next (w' := ((w.alloc (.cells (cmC k i s z n q a len cap t l c b e u m o) 36)).alloc (.cells (cmC k i s z n q a2 len2 cap2 t2 l2 c2 b2 e2 u2 m2 o2) 36))) (by repeat (first | exact Below.refl _ _ | apply Below.drew | apply Below.al))).str cap
  have c2 := (hy.next (w' := ((w.alloc (.cells (cmC k i s z n q a len cap t l c b e u m o) 36)).alloc (.cells (cmC k i s z n q a2 len2 cap2 t2 l2 c2 b2 e2 u2 m2 o2) 36))) (by repeat (first | exact Below.refl _ _ | apply Below.drew | apply Below.al))).str cap2
  clear hx hy h
  go_enter Try.func18, Try.ntmps18
  go_wp2_with fail
  go_ret
  exact ⟨rfl, _, _, rfl⟩
end Go.Proofs.Ytlnlejdjekbipaa
