/-
  Arrays and frames held against each other.
-/
import Derived.Test.YtndlpjfofjikeaaFr
import Derived.DeepKeys
namespace Go.Proofs.Ytndlpjfofjikeaa
open Go.RowKit

theorem item8 (d : Nat) (w : World) (xs ys : Array Value) (j : Nat) (is : List Nat) (x y : Int) (q : Bool) (hx : xs[j]? = some (.int .u8 x)) (hy : ys[j]? = some (.int .u8 y))
    (h : (Op.eqItems (d + 1) 5 1 xs ys is).run Try.prog w = .ok q w) : (Op.eqItems (d + 1) 5 1 xs ys (j :: is)).run Try.prog w = .ok (x == y && q) w := by
  have p1 : (part 5 xs (j * 1)).run Try.prog w = .ok (.int .u8 x) w := by
    simp [part, isAgg, run_underlying Try.underlying5, hx]
  have p2 : (part 5 ys (j * 1)).run Try.prog w = .ok (.int .u8 y) w := by
    simp [part, isAgg, run_underlying Try.underlying5, hy]
  simp only [Op.eqItems, Sem.run_bind, p1, p2, run_equalIn_int w d 5 .u8 .u8 x y Try.underlying5, Result.andThen_ok]
  by_cases e : x = y
  · subst e; simpa using h
  · simp [e]

theorem eqIn8 (d : Nat) (w : World) (a0 a1 a2 a3 a4 a5 a6 a7 b0 b1 b2 b3 b4 b5 b6 b7 : Int) :
    (Op.equalIn (d + 2) 25 (arr8 a0 a1 a2 a3 a4 a5 a6 a7) (arr8 b0 b1 b2 b3 b4 b5 b6 b7)).run Try.prog w = .ok (a0 == b0 && (a1 == b1 && (a2 == b2 && (a3 == b3 && (a4 == b4 && (a5 == b5 && (a6 == b6 && (a7 == b7 && true)))))))) w := by
  obtain ⟨i, hi, hz0, hz1, hz2⟩ := info_parts info8
  rw [run_equalIn_array w (d + 1) _ _ Try.underlying25 hi]
  rw [show List.range 8 = [0, 1, 2, 3, 4, 5, 6, 7] from rfl, show Try.prog.cellsOf 5 = 1 from by kernel_rfl]
  refine item8 d w _ _ _ _ _ _ _ rfl rfl ?_
  refine item8 d w _ _ _ _ _ _ _ rfl rfl ?_
  refine item8 d w _ _ _ _ _ _ _ rfl rfl ?_
  refine item8 d w _ _ _ _ _ _ _ rfl rfl ?_
  refine item8 d w _ _ _ _ _ _ _ rfl rfl ?_
  refine item8 d w _ _ _ _ _ _ _ rfl rfl ?_
  refine item8 d w _ _ _ _ _ _ _ rfl rfl ?_
  refine item8 d w _ _ _ _ _ _ _ rfl rfl ?_
  rfl

/-- Are eight bytes the same? -/
def same8 (a0 a1 a2 a3 a4 a5 a6 a7 b0 b1 b2 b3 b4 b5 b6 b7 : Int) : Bool := a0 == b0 && (a1 == b1 && (a2 == b2 && (a3 == b3 && (a4 == b4 && (a5 == b5 && (a6 == b6 && (a7 == b7 && true)))))))

theorem same8_iff (a0 a1 a2 a3 a4 a5 a6 a7 b0 b1 b2 b3 b4 b5 b6 b7 : Int) : same8 a0 a1 a2 a3 a4 a5 a6 a7 b0 b1 b2 b3 b4 b5 b6 b7 = decide ([a0, a1, a2, a3, a4, a5, a6, a7] = [b0, b1, b2, b3, b4, b5, b6, b7]) := by
  rw [Bool.eq_iff_iff]
  simp [same8]

theorem eql8 (w : World) (a0 a1 a2 a3 a4 a5 a6 a7 b0 b1 b2 b3 b4 b5 b6 b7 : Int) :
    (binOp .eql 25 (arr8 a0 a1 a2 a3 a4 a5 a6 a7) (arr8 b0 b1 b2 b3 b4 b5 b6 b7)).run Try.prog w = .ok (.bool (same8 a0 a1 a2 a3 a4 a5 a6 a7 b0 b1 b2 b3 b4 b5 b6 b7)) w := by
  rw [run_eql_struct, eqIn8 9998]
  rfl

/-- Are two frames the same? -/
def sameF (i n a0 a1 a2 a3 a4 a5 a6 a7 : Int) (r : Bool) (j m b0 b1 b2 b3 b4 b5 b6 b7 : Int) (s : Bool) : Bool := i == j && (n == m && (same8 a0 a1 a2 a3 a4 a5 a6 a7 b0 b1 b2 b3 b4 b5 b6 b7 && r == s))

theorem sameF_self (i n a0 a1 a2 a3 a4 a5 a6 a7 : Int) (r : Bool) : sameF i n a0 a1 a2 a3 a4 a5 a6 a7 r i n a0 a1 a2 a3 a4 a5 a6 a7 r = true := by simp [sameF, same8]

set_option maxRecDepth 10000 in
theorem eqInF (w : World) (i n a0 a1 a2 a3 a4 a5 a6 a7 : Int) (r : Bool) (j m b0 b1 b2 b3 b4 b5 b6 b7 : Int) (s : Bool) :
    (Op.equalIn 10000 27 (frV i n a0 a1 a2 a3 a4 a5 a6 a7 r) (frV j m b0 b1 b2 b3 b4 b5 b6 b7 s)).run Try.prog w = .ok (sameF i n a0 a1 a2 a3 a4 a5 a6 a7 r j m b0 b1 b2 b3 b4 b5 b6 b7 s) w := by
  have e8 := eqIn8 9997 w a0 a1 a2 a3 a4 a5 a6 a7 b0 b1 b2 b3 b4 b5 b6 b7
  have hp : Try.prog.stoodInHeld 27 = false := by kernel_rfl
  rw [run_equalIn_struct w 9999 _ _ _ (by simp [Program.fieldsOf, Try.underlying27]) hp]
  simp only [Program.fieldsOf, Try.underlying27, Op.eqFields]
  simp [go_sem, part, isAgg, e8]
  have e : same8 a0 a1 a2 a3 a4 a5 a6 a7 b0 b1 b2 b3 b4 b5 b6 b7 = (a0 == b0 && (a1 == b1 && (a2 == b2 && (a3 == b3 && (a4 == b4 && (a5 == b5 && (a6 == b6 && a7 == b7))))))) := by simp [same8]
  unfold sameF
  rw [e]
  clear e e8 hp
  generalize (a0 == b0 && (a1 == b1 && (a2 == b2 && (a3 == b3 && (a4 == b4 && (a5 == b5 && (a6 == b6 && a7 == b7))))))) = q
  by_cases h1 : i = j <;> by_cases h2 : n = m <;> by_cases h3 : r = s <;> cases q <;> simp [*]

theorem neqF (w : World) (i n a0 a1 a2 a3 a4 a5 a6 a7 : Int) (r : Bool) (j m b0 b1 b2 b3 b4 b5 b6 b7 : Int) (s : Bool) :
    (binOp .neq 27 (frV i n a0 a1 a2 a3 a4 a5 a6 a7 r) (frV j m b0 b1 b2 b3 b4 b5 b6 b7 s)).run Try.prog w = .ok (.bool (!sameF i n a0 a1 a2 a3 a4 a5 a6 a7 r j m b0 b1 b2 b3 b4 b5 b6 b7 s)) w := by
  rw [run_neq_struct, eqInF]
  rfl
theorem eqlF (w : World) (i n a0 a1 a2 a3 a4 a5 a6 a7 : Int) (r : Bool) (j m b0 b1 b2 b3 b4 b5 b6 b7 : Int) (s : Bool) :
    (binOp .eql 27 (frV i n a0 a1 a2 a3 a4 a5 a6 a7 r) (frV j m b0 b1 b2 b3 b4 b5 b6 b7 s)).run Try.prog w = .ok (.bool (sameF i n a0 a1 a2 a3 a4 a5 a6 a7 r j m b0 b1 b2 b3 b4 b5 b6 b7 s)) w := by
  rw [run_eql_struct, eqInF]
  rfl
#print axioms eqlF
end Go.Proofs.Ytndlpjfofjikeaa
