/-
  Frames as values; the walks of frame's padded and Make; frames held against each other.
-/
import Derived.Test.YtjdfacjfpdfafaaBas
import Derived.Deep.WholeRow
import Derived.Deep.RegionHeld3
import Derived.Laws.CopyOwn
import Derived.DeepKeys
namespace Go.Proofs.Ytjdfacjfpdfafaa
open Go.RowKit

/-- The i-th of a row, 0 where there is none. -/
def zb (zs : List Int) (i : Nat) : Int := zs.getD i 0
/-- Eight bytes as an array. -/
abbrev arr8 (p0 p1 p2 p3 p4 p5 p6 p7 : Int) : Value := .agg #[.int .u8 p0, .int .u8 p1, .int .u8 p2, .int .u8 p3, .int .u8 p4, .int .u8 p5, .int .u8 p6, .int .u8 p7]
theorem heap_new (w : World) (o : Obj) : (w.alloc o).heap[w.heap.size]? = some o := heap_alloc_last w o

/-- The first eight of a row, noughts behind. -/
abbrev arrL (zs : List Int) : Value := arr8 (zb zs 0) (zb zs 1) (zb zs 2) (zb zs 3) (zb zs 4) (zb zs 5) (zb zs 6) (zb zs 7)
/-- A frame's cells. -/
abbrev frC (id n d0 d1 d2 d3 d4 d5 d6 d7 : Int) (r : Bool) : Array Value := #[.int .u16 id, .int .i64 n, .int .u8 d0, .int .u8 d1, .int .u8 d2, .int .u8 d3, .int .u8 d4, .int .u8 d5, .int .u8 d6, .int .u8 d7, .bool r]
/-- A frame. -/
abbrev frV (id n d0 d1 d2 d3 d4 d5 d6 d7 : Int) (r : Bool) : Value := .agg (frC id n d0 d1 d2 d3 d4 d5 d6 d7 r)


set_option maxRecDepth 100000 in
/-- The copy of a row, at most 8 bytes, into eight noughts. -/
theorem copy8 (ty : TypeId) (w : World) (a : Option Addr) (len cap : Nat) (zs : List Int) (hr : Row w a len zs) (h8 : len ≤ 8) :
    (Builtin.copy_ #[98, 98] ty #[.slice (some ⟨w.heap.size + 1, 0, none⟩) 8 8, .slice a len cap]).run Try.prog ((w.alloc (.cells #[.int .u8 0, .int .u8 0, .int .u8 0, .int .u8 0, .int .u8 0, .int .u8 0, .int .u8 0, .int .u8 0] 35)).alloc (.cells #[.int .u8 0, .int .u8 0, .int .u8 0, .int .u8 0, .int .u8 0, .int .u8 0, .int .u8 0, .int .u8 0] 35)) = .ok (.int .i64 len)
      ((w.alloc (.cells #[.int .u8 0, .int .u8 0, .int .u8 0, .int .u8 0, .int .u8 0, .int .u8 0, .int .u8 0, .int .u8 0] 35)).alloc (.cells #[.int .u8 (zb zs 0), .int .u8 (zb zs 1), .int .u8 (zb zs 2), .int .u8 (zb zs 3), .int .u8 (zb zs 4), .int .u8 (zb zs 5), .int .u8 (zb zs 6), .int .u8 (zb zs 7)] 35)) := by
  have hs := hr.size
  have hb : Below w.heap.size w ((w.alloc (.cells #[.int .u8 0, .int .u8 0, .int .u8 0, .int .u8 0, .int .u8 0, .int .u8 0, .int .u8 0, .int .u8 0] 35)).alloc (.cells #[.int .u8 0, .int .u8 0, .int .u8 0, .int .u8 0, .int .u8 0, .int .u8 0, .int .u8 0, .int .u8 0] 35)) := Below.al (Below.al (Below.refl _ _) _) _
  have hr' := hr.next hb
  have hg : ((w.alloc (.cells #[.int .u8 0, .int .u8 0, .int .u8 0, .int .u8 0, .int .u8 0, .int .u8 0, .int .u8 0, .int .u8 0] 35)).alloc (.cells #[.int .u8 0, .int .u8 0, .int .u8 0, .int .u8 0, .int .u8 0, .int .u8 0, .int .u8 0, .int .u8 0] 35)).heap[w.heap.size + 1]? = some (.cells #[.int .u8 0, .int .u8 0, .int .u8 0, .int .u8 0, .int .u8 0, .int .u8 0, .int .u8 0, .int .u8 0] 35 (0, 0)) := by
    rw [show w.heap.size + 1 = (w.alloc (.cells #[.int .u8 0, .int .u8 0, .int .u8 0, .int .u8 0, .int .u8 0, .int .u8 0, .int .u8 0, .int .u8 0] 35)).heap.size from by simp]
    exact heap_new _ _
  have hset : ∀ C, ((w.alloc (.cells #[.int .u8 0, .int .u8 0, .int .u8 0, .int .u8 0, .int .u8 0, .int .u8 0, .int .u8 0, .int .u8 0] 35)).alloc (.cells #[.int .u8 0, .int .u8 0, .int .u8 0, .int .u8 0, .int .u8 0, .int .u8 0, .int .u8 0, .int .u8 0] 35)).setRow (w.heap.size + 1) C = (w.alloc (.cells #[.int .u8 0, .int .u8 0, .int .u8 0, .int .u8 0, .int .u8 0, .int .u8 0, .int .u8 0, .int .u8 0] 35)).alloc (.cells C 35) := by
    intro C
    have := World.setRow_alloc_new (w.alloc (.cells #[.int .u8 0, .int .u8 0, .int .u8 0, .int .u8 0, .int .u8 0, .int .u8 0, .int .u8 0, .int .u8 0] 35)) #[.int .u8 0, .int .u8 0, .int .u8 0, .int .u8 0, .int .u8 0, .int .u8 0, .int .u8 0, .int .u8 0] C 35
    rwa [show (w.alloc (.cells #[.int .u8 0, .int .u8 0, .int .u8 0, .int .u8 0, .int .u8 0, .int .u8 0, .int .u8 0, .int .u8 0] 35)).heap.size = w.heap.size + 1 from by simp] at this
  rcases Nat.eq_zero_or_pos len with h0 | hp
  · subst h0
    rw [Row.nil hr]
    exact run_copy_none (P := Try.prog) _ 98 98 ty 5 (some ⟨w.heap.size + 1, 0, none⟩) a 8 8 0 cap Try.underlying98 info8s (by simp)
  · obtain ⟨b, off, rfl, hc⟩ := hr'.at_ hp
    have := run_copy_row (P := Try.prog) _ 98 98 ty 5 (w.heap.size + 1) 0 8 8 ⟨b, off, none⟩ len cap _ _ (zs.map (Value.int .u8)) Try.underlying98 info8s hg (by rw [List.length_map, hs]; exact (Nat.min_eq_left h8).symm) hr'.cells (by simp; omega) (fun v hv => by obtain ⟨_, _, rfl⟩ := List.mem_map.1 hv; rfl)
    rw [this, hset]
    have e : (zs.map (Value.int .u8)).length = len := by simp [hs]
    rw [e]
    congr 3
    have h9 : len = 1 ∨ len = 2 ∨ len = 3 ∨ len = 4 ∨ len = 5 ∨ len = 6 ∨ len = 7 ∨ len = 8 := by omega
    clear e this hr hr' hg hc hb hset
    rcases h9 with rfl | rfl | rfl | rfl | rfl | rfl | rfl | rfl
    · match zs, hs with | [a], _ => rfl
    · match zs, hs with | [a, b], _ => rfl
    · match zs, hs with | [a, b, c], _ => rfl
    · match zs, hs with | [a, b, c, d], _ => rfl
    · match zs, hs with | [a, b, c, d, e], _ => rfl
    · match zs, hs with | [a, b, c, d, e, f], _ => rfl
    · match zs, hs with | [a, b, c, d, e, f, g], _ => rfl
    · match zs, hs with | [a, b, c, d, e, f, g, h], _ => rfl
#print axioms copy8

set_option maxHeartbeats 1000000 in
set_option maxRecDepth 100000 in
theorem padded_any (a : Option Addr) (len cap : Nat) (zs : List Int) (w : World) (hr : Row w a len zs) (h8 : len ≤ 8) :
    Calls Try.prog 46 #[.slice a len cap] w fun e w' => e = .returned (arrL zs) ∧ Below w.heap.size w w' := by
  have hcp := fun ty => copy8 ty w a len cap zs hr h8
  go_enter Try.func46, Try.ntmps46
  go_wp2_with fail
  exact bodyPost_ret (v := arrL zs) (by simp [results, Try.results46, go_sem]) rfl ⟨rfl, Below.al (Below.al (Below.refl _ _) _) _⟩

theorem infoF : (Try.prog.info? 37).map (·.size) = some 11 := by kernel_rfl

theorem frC_one (id n d0 d1 d2 d3 d4 d5 d6 d7 : Int) (r : Bool) : (frC id n d0 d1 d2 d3 d4 d5 d6 d7 r).all (·.oneCell') = true := by simp [Value.oneCell']

/-- A frame and a code. -/
structure FrR where
  i : Int
  n : Int
  d0 : Int
  d1 : Int
  d2 : Int
  d3 : Int
  d4 : Int
  d5 : Int
  d6 : Int
  d7 : Int
  r : Bool
  c : Int
/-- As a call's two results. -/
abbrev FrR.tup (q : FrR) : Value := .tuple #[frV q.i q.n q.d0 q.d1 q.d2 q.d3 q.d4 q.d5 q.d6 q.d7 q.r, .int .i64 q.c]
def FrR.ds (q : FrR) : List Int := [q.d0, q.d1, q.d2, q.d3, q.d4, q.d5, q.d6, q.d7]
/-- No frame, with a code. -/
def noFr (c : Int) : FrR := ⟨0, 0, 0, 0, 0, 0, 0, 0, 0, 0, false, c⟩
/-- What Make tells. -/
def mkR (id : Int) (zs : List Int) : FrR := if id ≤ 2047 ∧ zs.length ≤ 8 then ⟨id, zs.length, zb zs 0, zb zs 1, zb zs 2, zb zs 3, zb zs 4, zb zs 5, zb zs 6, zb zs 7, false, 0⟩ else noFr 2

theorem mkR_good (id : Int) (zs : List Int) (h1 : id ≤ 2047) (h2 : zs.length ≤ 8) : mkR id zs = ⟨id, zs.length, zb zs 0, zb zs 1, zb zs 2, zb zs 3, zb zs 4, zb zs 5, zb zs 6, zb zs 7, false, 0⟩ := if_pos ⟨h1, h2⟩
theorem mkR_bad (id : Int) (zs : List Int) (h : 2047 < id ∨ 8 < zs.length) : mkR id zs = noFr 2 := if_neg (by omega)

set_option maxHeartbeats 2000000 in
set_option maxRecDepth 100000 in
theorem make_any (id : Int) (a : Option Addr) (len cap : Nat) (zs : List Int) (w : World) (hr : Row w a len zs) :
    Calls Try.prog 45 #[.int .u16 id, .slice a len cap] w fun e w' => e = .returned (mkR id zs).tup ∧ Below w.heap.size w w' := by
  have hs := hr.size
  by_cases h1 : 2047 < id
  · rw [mkR_bad id zs (.inl h1)]
    go_enter Try.func45, Try.ntmps45
    go_wp2_with fail
    exact bodyPost_ret (v := (noFr 2).tup) (by simp [results, Try.results45, go_sem, noFr]) rfl ⟨rfl, Below.al (Below.refl _ _) _⟩
  by_cases h2 : (8 : Int) < (len : Int)
  · rw [mkR_bad id zs (.inr (by omega))]
    go_enter Try.func45, Try.ntmps45
    go_wp2_with fail
    exact bodyPost_ret (v := (noFr 2).tup) (by simp [results, Try.results45, go_sem, noFr]) rfl ⟨rfl, Below.al (Below.refl _ _) _⟩
  rw [mkR_good id zs (by omega) (by omega), hs]
  clear hs
  go_enter Try.func45, Try.ntmps45
  go_wp2_with fail
  refine (padded_any a len cap zs _ (hr.next (Below.al (Below.refl _ _) _)) (by omega)).mono ?_
  rintro e w1 ⟨rfl, hb⟩
  have hg : w1.heap[w.heap.size]? = some (.cells (frC 0 0 0 0 0 0 0 0 0 0 false) 37 (0, 0)) := (hb.block _ (by simp)).trans (heap_new _ _)
  have B1 : Below w.heap.size w w1 := Below.andThen (Below.al (Below.refl _ _) _) hb
  clear hb
  go_wp2_with (refine wpList_store_row rfl 37 _ _ rfl w.heap.size (frC id len (zb zs 0) (zb zs 1) (zb zs 2) (zb zs 3) (zb zs 4) (zb zs 5) (zb zs 6) (zb zs 7) false) rfl rfl 37 _ hg infoF rfl (frC_one _ _ _ _ _ _ _ _ _ _ _) ?_)
  have hc := fun j => cell_of_row (w1.setRow w.heap.size (frC id len (zb zs 0) (zb zs 1) (zb zs 2) (zb zs 3) (zb zs 4) (zb zs 5) (zb zs 6) (zb zs 7) false)) w.heap.size j _ _ _ (setRow_heap _ _ _ _ _ _ hg)
  refine bodyPost_ret (v := FrR.tup ⟨id, len, zb zs 0, zb zs 1, zb zs 2, zb zs 3, zb zs 4, zb zs 5, zb zs 6, zb zs 7, false, 0⟩) ?_ rfl ⟨rfl, below_setRow B1 (Nat.le_refl _) _⟩
  simp [results, Try.results45, go_sem, hc]

theorem item8 (d : Nat) (w : World) (xs ys : Array Value) (j : Nat) (is : List Nat) (x y : Int) (q : Bool) (hx : xs[j]? = some (.int .u8 x)) (hy : ys[j]? = some (.int .u8 y))
    (h : (Op.eqItems (d + 1) 5 1 xs ys is).run Try.prog w = .ok q w) : (Op.eqItems (d + 1) 5 1 xs ys (j :: is)).run Try.prog w = .ok (x == y && q) w := by
  have p1 : (part 5 xs (j * 1)).run Try.prog w = .ok (.int .u8 x) w := by
    simp [part, isAgg, run_underlying Try.underlying5, hx]
  have p2 : (part 5 ys (j * 1)).run Try.prog w = .ok (.int .u8 y) w := by
    simp [part, isAgg, run_underlying Try.underlying5, hy]
  simp only [Op.eqItems, Sem.run_bind, p1, p2, run_equalIn_int w d 5 .u8 .u8 x y Try.underlying5, Result.andThen_ok]
  by_cases e : x = y
  · subst e; simpa using h
  · simp [e]

theorem eqIn8 (d : Nat) (w : World) (a0 a1 a2 a3 a4 a5 a6 a7 b0 b1 b2 b3 b4 b5 b6 b7 : Int) :
    (Op.equalIn (d + 2) 35 (arr8 a0 a1 a2 a3 a4 a5 a6 a7) (arr8 b0 b1 b2 b3 b4 b5 b6 b7)).run Try.prog w = .ok (a0 == b0 && (a1 == b1 && (a2 == b2 && (a3 == b3 && (a4 == b4 && (a5 == b5 && (a6 == b6 && (a7 == b7 && true)))))))) w := by
  obtain ⟨i, hi, hz0, hz1, hz2⟩ := info_parts info8
  rw [run_equalIn_array w (d + 1) _ _ Try.underlying35 hi]
  rw [show List.range 8 = [0, 1, 2, 3, 4, 5, 6, 7] from rfl, show Try.prog.cellsOf 5 = 1 from by kernel_rfl]
  refine item8 d w _ _ _ _ _ _ _ rfl rfl ?_
  refine item8 d w _ _ _ _ _ _ _ rfl rfl ?_
  refine item8 d w _ _ _ _ _ _ _ rfl rfl ?_
  refine item8 d w _ _ _ _ _ _ _ rfl rfl ?_
  refine item8 d w _ _ _ _ _ _ _ rfl rfl ?_
  refine item8 d w _ _ _ _ _ _ _ rfl rfl ?_
  refine item8 d w _ _ _ _ _ _ _ rfl rfl ?_
  refine item8 d w _ _ _ _ _ _ _ rfl rfl ?_
  rfl

/-- Are eight bytes the same? -/
def same8 (a0 a1 a2 a3 a4 a5 a6 a7 b0 b1 b2 b3 b4 b5 b6 b7 : Int) : Bool := a0 == b0 && (a1 == b1 && (a2 == b2 && (a3 == b3 && (a4 == b4 && (a5 == b5 && (a6 == b6 && (a7 == b7 && true)))))))

theorem same8_iff (a0 a1 a2 a3 a4 a5 a6 a7 b0 b1 b2 b3 b4 b5 b6 b7 : Int) : same8 a0 a1 a2 a3 a4 a5 a6 a7 b0 b1 b2 b3 b4 b5 b6 b7 = decide ([a0, a1, a2, a3, a4, a5, a6, a7] = [b0, b1, b2, b3, b4, b5, b6, b7]) := by
  rw [Bool.eq_iff_iff]
  simp [same8]

theorem eql8 (w : World) (a0 a1 a2 a3 a4 a5 a6 a7 b0 b1 b2 b3 b4 b5 b6 b7 : Int) :
    (binOp .eql 35 (arr8 a0 a1 a2 a3 a4 a5 a6 a7) (arr8 b0 b1 b2 b3 b4 b5 b6 b7)).run Try.prog w = .ok (.bool (same8 a0 a1 a2 a3 a4 a5 a6 a7 b0 b1 b2 b3 b4 b5 b6 b7)) w := by
  rw [run_eql_struct, eqIn8 9998]
  rfl

/-- Are two frames the same? -/
def sameF (i n a0 a1 a2 a3 a4 a5 a6 a7 : Int) (r : Bool) (j m b0 b1 b2 b3 b4 b5 b6 b7 : Int) (s : Bool) : Bool := i == j && (n == m && (same8 a0 a1 a2 a3 a4 a5 a6 a7 b0 b1 b2 b3 b4 b5 b6 b7 && r == s))

theorem sameF_self (i n a0 a1 a2 a3 a4 a5 a6 a7 : Int) (r : Bool) : sameF i n a0 a1 a2 a3 a4 a5 a6 a7 r i n a0 a1 a2 a3 a4 a5 a6 a7 r = true := by simp [sameF, same8]

set_option maxRecDepth 10000 in
theorem eqInF (w : World) (i n a0 a1 a2 a3 a4 a5 a6 a7 : Int) (r : Bool) (j m b0 b1 b2 b3 b4 b5 b6 b7 : Int) (s : Bool) :
    (Op.equalIn 10000 37 (frV i n a0 a1 a2 a3 a4 a5 a6 a7 r) (frV j m b0 b1 b2 b3 b4 b5 b6 b7 s)).run Try.prog w = .ok (sameF i n a0 a1 a2 a3 a4 a5 a6 a7 r j m b0 b1 b2 b3 b4 b5 b6 b7 s) w := by
  have e8 := eqIn8 9997 w a0 a1 a2 a3 a4 a5 a6 a7 b0 b1 b2 b3 b4 b5 b6 b7
  have hp : Try.prog.stoodInHeld 37 = false := by kernel_rfl
  rw [run_equalIn_struct w 9999 _ _ _ (by simp [Program.fieldsOf, Try.underlying37]) hp]
  simp only [Program.fieldsOf, Try.underlying37, Op.eqFields]
  simp [go_sem, part, isAgg, e8]
  have e : same8 a0 a1 a2 a3 a4 a5 a6 a7 b0 b1 b2 b3 b4 b5 b6 b7 = (a0 == b0 && (a1 == b1 && (a2 == b2 && (a3 == b3 && (a4 == b4 && (a5 == b5 && (a6 == b6 && a7 == b7))))))) := by simp [same8]
  unfold sameF
  rw [e]
  clear e e8 hp
  generalize (a0 == b0 && (a1 == b1 && (a2 == b2 && (a3 == b3 && (a4 == b4 && (a5 == b5 && (a6 == b6 && a7 == b7))))))) = q
  by_cases h1 : i = j <;> by_cases h2 : n = m <;> by_cases h3 : r = s <;> cases q <;> simp [*]

theorem neqF (w : World) (i n a0 a1 a2 a3 a4 a5 a6 a7 : Int) (r : Bool) (j m b0 b1 b2 b3 b4 b5 b6 b7 : Int) (s : Bool) :
    (binOp .neq 37 (frV i n a0 a1 a2 a3 a4 a5 a6 a7 r) (frV j m b0 b1 b2 b3 b4 b5 b6 b7 s)).run Try.prog w = .ok (.bool (!sameF i n a0 a1 a2 a3 a4 a5 a6 a7 r j m b0 b1 b2 b3 b4 b5 b6 b7 s)) w := by
  rw [run_neq_struct, eqInF]
  rfl
theorem eqlF (w : World) (i n a0 a1 a2 a3 a4 a5 a6 a7 : Int) (r : Bool) (j m b0 b1 b2 b3 b4 b5 b6 b7 : Int) (s : Bool) :
    (binOp .eql 37 (frV i n a0 a1 a2 a3 a4 a5 a6 a7 r) (frV j m b0 b1 b2 b3 b4 b5 b6 b7 s)).run Try.prog w = .ok (.bool (sameF i n a0 a1 a2 a3 a4 a5 a6 a7 r j m b0 b1 b2 b3 b4 b5 b6 b7 s)) w := by
  rw [run_eql_struct, eqInF]
  rfl
#print axioms eqlF
end Go.Proofs.Ytjdfacjfpdfafaa
