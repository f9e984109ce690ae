/-
  Eight bytes, places and commands as values; the small calls of the package short: bit, must, fitsPart, the bits of numbers in bytes.
-/
import Derived.Test.YtajllkkbgpijiaaGreatDoorBas
import Derived.Deep.WholeRow
import Derived.DeepKeys
import Derived.Deep.RegionHeld3
import Derived.Laws.BitsAllLaws
import Derived.Laws.CopyOwn
namespace Go.Proofs.YtajllkkbgpijiaaGreatDoor
open Go.RowKit

/-- A row's byte; 0 behind it. -/
def zb (zs : List Int) (i : Nat) : Int := zs.getD i 0
/-- Eight bytes as an array. -/
abbrev arr8 (p0 p1 p2 p3 p4 p5 p6 p7 : Int) : Value := .agg #[.int .u8 p0, .int .u8 p1, .int .u8 p2, .int .u8 p3, .int .u8 p4, .int .u8 p5, .int .u8 p6, .int .u8 p7]
/-- Their cells. -/
abbrev ar8 (p0 p1 p2 p3 p4 p5 p6 p7 : Int) : Array Value := #[.int .u8 p0, .int .u8 p1, .int .u8 p2, .int .u8 p3, .int .u8 p4, .int .u8 p5, .int .u8 p6, .int .u8 p7]

/-- Eight bytes. -/
structure B8 where
  b0 : Int
  b1 : Int
  b2 : Int
  b3 : Int
  b4 : Int
  b5 : Int
  b6 : Int
  b7 : Int
deriving DecidableEq
abbrev B8.v (b : B8) : Value := arr8 b.b0 b.b1 b.b2 b.b3 b.b4 b.b5 b.b6 b.b7
def B8.l (b : B8) : List Int := [b.b0, b.b1, b.b2, b.b3, b.b4, b.b5, b.b6, b.b7]
def B8.zero : B8 := ⟨0, 0, 0, 0, 0, 0, 0, 0⟩

/-- A command. -/
structure Cm where
  k : Int
  i : Int
  s : Int
  z : Bool
  n : Int
  q : Bool
  d : List Int
  t : Bool
  l : Bool
  c : Bool
  b : Int
  e : Int
  u : Int
  m : Int
  o : Int
deriving DecidableEq
/-- Numbers that its fields can hold. -/
structure Cm.Ok (x : Cm) : Prop where
  k : 0 ≤ x.k ∧ x.k < 256
  i : 0 ≤ x.i ∧ x.i < 65536
  s : 0 ≤ x.s ∧ x.s < 256
  n : 0 ≤ x.n ∧ x.n < 4294967296
  d : Oct x.d
  b : -9223372036854775808 ≤ x.b ∧ x.b < 9223372036854775808
  e : -9223372036854775808 ≤ x.e ∧ x.e < 9223372036854775808
  u : 0 ≤ x.u ∧ x.u < 65536
  m : -9223372036854775808 ≤ x.m ∧ x.m < 9223372036854775808
  o : 0 ≤ x.o ∧ x.o < 4294967296
/-- A command's cells. -/
abbrev cmC (k i s : Int) (z : Bool) (n : Int) (q : Bool) (a : Option Addr) (len cap : Nat) (t l c : Bool) (b e u m o : Int) : Array Value :=
  #[.int .u8 k, .int .u16 i, .int .u8 s, .bool z, .int .u32 n, .bool q, .slice a len cap, .bool t, .bool l, .bool c, .int .i64 b, .int .i64 e, .int .u16 u, .int .i64 m, .int .u32 o]
abbrev cmV (k i s : Int) (z : Bool) (n : Int) (q : Bool) (a : Option Addr) (len cap : Nat) (t l c : Bool) (b e u m o : Int) : Value := .agg (cmC k i s z n q a len cap t l c b e u m o)
abbrev Cm.v (x : Cm) (a : Option Addr) (len cap : Nat) : Value := cmV x.k x.i x.s x.z x.n x.q a len cap x.t x.l x.c x.b x.e x.u x.m x.o

theorem heap_new (w : World) (o : Obj) : (w.alloc o).heap[w.heap.size]? = some o := heap_alloc_last w o

theorem item8 (d : Nat) (w : World) (xs ys : Array Value) (j : Nat) (is : List Nat) (x y : Int) (q : Bool) (hx : xs[j]? = some (.int .u8 x)) (hy : ys[j]? = some (.int .u8 y))
    (h : (Op.eqItems (d + 1) 5 1 xs ys is).run Tryz.prog w = .ok q w) : (Op.eqItems (d + 1) 5 1 xs ys (j :: is)).run Tryz.prog w = .ok (x == y && q) w := by
  have p1 : (part 5 xs (j * 1)).run Tryz.prog w = .ok (.int .u8 x) w := by
    simp [part, isAgg, run_underlying Tryz.underlying5, hx]
  have p2 : (part 5 ys (j * 1)).run Tryz.prog w = .ok (.int .u8 y) w := by
    simp [part, isAgg, run_underlying Tryz.underlying5, hy]
  simp only [Op.eqItems, Sem.run_bind, p1, p2, run_equalIn_int w d 5 .u8 .u8 x y Tryz.underlying5, Result.andThen_ok]
  by_cases e : x = y
  · subst e; simpa using h
  · simp [e]

/-- Are eight bytes the same? -/
def same8 (a0 a1 a2 a3 a4 a5 a6 a7 b0 b1 b2 b3 b4 b5 b6 b7 : Int) : Bool := a0 == b0 && (a1 == b1 && (a2 == b2 && (a3 == b3 && (a4 == b4 && (a5 == b5 && (a6 == b6 && (a7 == b7 && true)))))))

theorem same8_iff (a b : B8) : same8 a.b0 a.b1 a.b2 a.b3 a.b4 a.b5 a.b6 a.b7 b.b0 b.b1 b.b2 b.b3 b.b4 b.b5 b.b6 b.b7 = decide (a = b) := by
  rw [Bool.eq_iff_iff]
  obtain ⟨a0, a1, a2, a3, a4, a5, a6, a7⟩ := a
  obtain ⟨b0, b1, b2, b3, b4, b5, b6, b7⟩ := b
  simp [same8]


set_option maxRecDepth 10000 in
theorem eqInP (w : World) (i s j r : Int) : (Op.equalIn 10000 43 (.agg #[.int .u16 i, .int .u8 s]) (.agg #[.int .u16 j, .int .u8 r])).run Tryz.prog w = .ok (i == j && s == r) w := by
  have hp : Tryz.prog.stoodInHeld 43 = false := by kernel_rfl
  rw [run_equalIn_struct w 9999 _ _ _ (by simp [Program.fieldsOf, Tryz.underlying43]) hp]
  simp only [Program.fieldsOf, Tryz.underlying43, Op.eqFields]
  simp [go_sem, part, isAgg]
  by_cases h1 : i = j <;> by_cases h2 : s = r <;> simp [*]
theorem neqP (w : World) (i s j r : Int) : (binOp .neq 43 (.agg #[.int .u16 i, .int .u8 s]) (.agg #[.int .u16 j, .int .u8 r])).run Tryz.prog w = .ok (.bool (!(i == j && s == r))) w := by
  rw [run_neq_struct, eqInP]
  rfl
theorem eqlP (w : World) (i s j r : Int) : (binOp .eql 43 (.agg #[.int .u16 i, .int .u8 s]) (.agg #[.int .u16 j, .int .u8 r])).run Tryz.prog w = .ok (.bool (i == j && s == r)) w := by
  rw [run_eql_struct, eqInP]
  rfl
#print axioms eqlP


/-- What a command is given up with. -/
def bad : List PanicEntry := [{ v := .iface 55 (.int .i64 2), recovered := false }]
/-- A number, if something is so. -/
def bitv (on : Bool) (x : Int) : Int := if on then x else 0
/-- May a part have so many bytes? -/
def fits (n : Int) (last : Bool) : Bool := n == 7 || (last && decide (n < 7))
end Go.Proofs.YtajllkkbgpijiaaGreatDoor
