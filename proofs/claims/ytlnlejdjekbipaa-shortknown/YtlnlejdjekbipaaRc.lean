/-
  The walk of the document's Same.
-/
import Derived.Test.YtlnlejdjekbipaaRb1
import Derived.Test.YtlnlejdjekbipaaRb2
import Derived.Test.YtlnlejdjekbipaaRb3
import Derived.Test.YtlnlejdjekbipaaRb4
import Derived.Test.YtlnlejdjekbipaaRb5
namespace Go.Proofs.Ytlnlejdjekbipaa
open Go.RowKit

theorem same_any (x y : Cm) (a : Option Addr) (len cap : Nat) (a2 : Option Addr) (len2 cap2 : Nat) (w : World) (hx : Row w a len x.d) (hy : Row w a2 len2 y.d) :
    Calls Try.prog 18 #[x.v a len cap, y.v a2 len2 cap2] w fun r w' => r = .returned (.bool (decide (x = y))) ∧ ∃ o1 o2, w' = (w.alloc o1).alloc o2 := by
  obtain ⟨k, i, s, z, n, q, d, t, l, c, b, e, u, m, o⟩ := x
  obtain ⟨k2, i2, s2, z2, n2, q2, d2, t2, l2, c2, b2, e2, u2, m2, o2⟩ := y
  dsimp only at hx hy
  by_cases h : k = k2
  rotate_left
  · rw [decide_eq_false (fun e' => h (congrArg Cm.k e'))]
    exact same_k k i s z n q d t l c b e u m o k2 i2 s2 z2 n2 q2 d2 t2 l2 c2 b2 e2 u2 m2 o2 a len cap a2 len2 cap2 w hx hy h
  subst h
  by_cases h : i = i2
  rotate_left
  · rw [decide_eq_false (fun e' => h (congrArg Cm.i e'))]
    exact same_i k i s z n q d t l c b e u m o i2 s2 z2 n2 q2 d2 t2 l2 c2 b2 e2 u2 m2 o2 a len cap a2 len2 cap2 w hx hy h
  subst h
  by_cases h : s = s2
  rotate_left
  · rw [decide_eq_false (fun e' => h (congrArg Cm.s e'))]
    exact same_s k i s z n q d t l c b e u m o s2 z2 n2 q2 d2 t2 l2 c2 b2 e2 u2 m2 o2 a len cap a2 len2 cap2 w hx hy h
  subst h
  by_cases h : z = z2
  rotate_left
  · rw [decide_eq_false (fun e' => h (congrArg Cm.z e'))]
    exact same_z k i s z n q d t l c b e u m o z2 n2 q2 d2 t2 l2 c2 b2 e2 u2 m2 o2 a len cap a2 len2 cap2 w hx hy h
  subst h
  by_cases h : n = n2
  rotate_left
  · rw [decide_eq_false (fun e' => h (congrArg Cm.n e'))]
    exact same_n k i s z n q d t l c b e u m o n2 q2 d2 t2 l2 c2 b2 e2 u2 m2 o2 a len cap a2 len2 cap2 w hx hy h
  subst h
  by_cases h : q = q2
  rotate_left
  · rw [decide_eq_false (fun e' => h (congrArg Cm.q e'))]
    exact same_q k i s z n q d t l c b e u m o q2 d2 t2 l2 c2 b2 e2 u2 m2 o2 a len cap a2 len2 cap2 w hx hy h
  subst h
  by_cases h : d = d2
  rotate_left
  · rw [decide_eq_false (fun e' => h (congrArg Cm.d e'))]
    exact same_d k i s z n q d t l c b e u m o d2 t2 l2 c2 b2 e2 u2 m2 o2 a len cap a2 len2 cap2 w hx hy h
  subst h
  obtain rfl : len = len2 := hx.size.symm.trans hy.size
  by_cases h : t = t2
  rotate_left
  · rw [decide_eq_false (fun e' => h (congrArg Cm.t e'))]
    exact same_t k i s z n q d t l c b e u m o t2 l2 c2 b2 e2 u2 m2 o2 a len cap a2 cap2 w hx hy h
  subst h
  by_cases h : l = l2
  rotate_left
  · rw [decide_eq_false (fun e' => h (congrArg Cm.l e'))]
    exact same_l k i s z n q d t l c b e u m o l2 c2 b2 e2 u2 m2 o2 a len cap a2 cap2 w hx hy h
  subst h
  by_cases h : c = c2
  rotate_left
  · rw [decide_eq_false (fun e' => h (congrArg Cm.c e'))]
    exact same_c k i s z n q d t l c b e u m o c2 b2 e2 u2 m2 o2 a len cap a2 cap2 w hx hy h
  subst h
  by_cases h : b = b2
  rotate_left
  · rw [decide_eq_false (fun e' => h (congrArg Cm.b e'))]
    exact same_b k i s z n q d t l c b e u m o b2 e2 u2 m2 o2 a len cap a2 cap2 w hx hy h
  subst h
  by_cases h : e = e2
  rotate_left
  · rw [decide_eq_false (fun e' => h (congrArg Cm.e e'))]
    exact same_e k i s z n q d t l c b e u m o e2 u2 m2 o2 a len cap a2 cap2 w hx hy h
  subst h
  by_cases h : u = u2
  rotate_left
  · rw [decide_eq_false (fun e' => h (congrArg Cm.u e'))]
    exact same_u k i s z n q d t l c b e u m o u2 m2 o2 a len cap a2 cap2 w hx hy h
  subst h
  by_cases h : m = m2
  rotate_left
  · rw [decide_eq_false (fun e' => h (congrArg Cm.m e'))]
    exact same_m k i s z n q d t l c b e u m o m2 o2 a len cap a2 cap2 w hx hy h
  subst h
  by_cases h : o = o2
  rotate_left
  · rw [decide_eq_false (fun e' => h (congrArg Cm.o e'))]
    exact same_o k i s z n q d t l c b e u m o o2 a len cap a2 cap2 w hx hy h
  subst h
  rw [decide_eq_true rfl]
  exact same_all k i s z n q d t l c b e u m o a len cap a2 cap2 w hx hy
#print axioms same_any
end Go.Proofs.Ytlnlejdjekbipaa
