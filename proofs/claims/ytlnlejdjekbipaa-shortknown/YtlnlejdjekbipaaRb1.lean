/-
  The walk of the document's Same, where one of the fields k, i, s, z differs.
-/
import Derived.Test.YtlnlejdjekbipaaRb
set_option linter.unusedVariables false
namespace Go.Proofs.Ytlnlejdjekbipaa
open Go.RowKit

set_option linter.unusedSimpArgs false in
set_option maxHeartbeats 4000000 in
set_option maxRecDepth 100000 in
theorem same_k (k i s : Int) (z : Bool) (n : Int) (q : Bool) (d : List Int) (t l c : Bool) (b e u m o : Int) (k2 : Int) (i2 : Int) (s2 : Int) (z2 : Bool) (n2 : Int) (q2 : Bool) (d2 : List Int) (t2 : Bool) (l2 : Bool) (c2 : Bool) (b2 : Int) (e2 : Int) (u2 : Int) (m2 : Int) (o2 : Int) (a : Option Addr) (len cap : Nat) (a2 : Option Addr) (len2 cap2 : Nat) (w : World) (hx : Row w a len d) (hy : Row w a2 len2 d2) (h : ¬ k = k2) :
    Calls Try.prog 18 #[cmV k i s z n q a len cap t l c b e u m o, cmV k2 i2 s2 z2 n2 q2 a2 len2 cap2 t2 l2 c2 b2 e2 u2 m2 o2] w fun r w' => r = .returned (.bool false) ∧ ∃ o1 o2, w' = (w.alloc o1).alloc o2 := by
  have hP := eqlP
  have hbq : (k == k2) = false := by simpa using h
  clear hx hy h
  go_enter Try.func18, Try.ntmps18
  go_wp2_with fail
  go_ret
  exact ⟨rfl, _, _, rfl⟩

set_option linter.unusedSimpArgs false in
set_option maxHeartbeats 4000000 in
set_option maxRecDepth 100000 in
theorem same_i (k i s : Int) (z : Bool) (n : Int) (q : Bool) (d : List Int) (t l c : Bool) (b e u m o : Int) (i2 : Int) (s2 : Int) (z2 : Bool) (n2 : Int) (q2 : Bool) (d2 : List Int) (t2 : Bool) (l2 : Bool) (c2 : Bool) (b2 : Int) (e2 : Int) (u2 : Int) (m2 : Int) (o2 : Int) (a : Option Addr) (len cap : Nat) (a2 : Option Addr) (len2 cap2 : Nat) (w : World) (hx : Row w a len d) (hy : Row w a2 len2 d2) (h : ¬ i = i2) :
    Calls Try.prog 18 #[cmV k i s z n q a len cap t l c b e u m o, cmV k i2 s2 z2 n2 q2 a2 len2 cap2 t2 l2 c2 b2 e2 u2 m2 o2] w fun r w' => r = .returned (.bool false) ∧ ∃ o1 o2, w' = (w.alloc o1).alloc o2 := by
  have hP := eqlP
  have hbq : (i == i2) = false := by simpa using h
  clear hx hy h
  go_enter Try.func18, Try.ntmps18
  go_wp2_with fail
  go_ret
  exact ⟨rfl, _, _, rfl⟩

set_option linter.unusedSimpArgs false in
set_option maxHeartbeats 4000000 in
set_option maxRecDepth 100000 in
theorem same_s (k i s : Int) (z : Bool) (n : Int) (q : Bool) (d : List Int) (t l c : Bool) (b e u m o : Int) (s2 : Int) (z2 : Bool) (n2 : Int) (q2 : Bool) (d2 : List Int) (t2 : Bool) (l2 : Bool) (c2 : Bool) (b2 : Int) (e2 : Int) (u2 : Int) (m2 : Int) (o2 : Int) (a : Option Addr) (len cap : Nat) (a2 : Option Addr) (len2 cap2 : Nat) (w : World) (hx : Row w a len d) (hy : Row w a2 len2 d2) (h : ¬ s = s2) :
    Calls Try.prog 18 #[cmV k i s z n q a len cap t l c b e u m o, cmV k i s2 z2 n2 q2 a2 len2 cap2 t2 l2 c2 b2 e2 u2 m2 o2] w fun r w' => r = .returned (.bool false) ∧ ∃ o1 o2, w' = (w.alloc o1).alloc o2 := by
  have hP := eqlP
  have hbq : (s == s2) = false := by simpa using h
  clear hx hy h
  go_enter Try.func18, Try.ntmps18
  go_wp2_with fail
  go_ret
  exact ⟨rfl, _, _, rfl⟩

set_option linter.unusedSimpArgs false in
set_option maxHeartbeats 4000000 in
set_option maxRecDepth 100000 in
theorem same_z (k i s : Int) (z : Bool) (n : Int) (q : Bool) (d : List Int) (t l c : Bool) (b e u m o : Int) (z2 : Bool) (n2 : Int) (q2 : Bool) (d2 : List Int) (t2 : Bool) (l2 : Bool) (c2 : Bool) (b2 : Int) (e2 : Int) (u2 : Int) (m2 : Int) (o2 : Int) (a : Option Addr) (len cap : Nat) (a2 : Option Addr) (len2 cap2 : Nat) (w : World) (hx : Row w a len d) (hy : Row w a2 len2 d2) (h : ¬ z = z2) :
    Calls Try.prog 18 #[cmV k i s z n q a len cap t l c b e u m o, cmV k i s z2 n2 q2 a2 len2 cap2 t2 l2 c2 b2 e2 u2 m2 o2] w fun r w' => r = .returned (.bool false) ∧ ∃ o1 o2, w' = (w.alloc o1).alloc o2 := by
  have hP := eqlP
  have hbq : (z == z2) = false := by simpa using h
  clear hx hy h
  go_enter Try.func18, Try.ntmps18
  go_wp2_with fail
  go_ret
  exact ⟨rfl, _, _, rfl⟩
end Go.Proofs.Ytlnlejdjekbipaa
