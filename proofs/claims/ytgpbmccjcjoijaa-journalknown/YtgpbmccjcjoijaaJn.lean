/-
  Journals in memory.
-/
import Derived.Test.YtgpbmccjcjoijaaJk
namespace Go.Proofs.Ytgpbmccjcjoijaa
open Go.RowKit

theorem fold_put (off : Nat) : ∀ (vs : List Value) (k : Nat) (arr : Array Value), off + k + vs.length ≤ arr.size → ((vs.zipIdx k).foldl (fun (cs : Array Value) ((c, j) : Value × Nat) => cs.setIfInBounds (off + j) c) arr).toList = put arr.toList (off + k) vs
  | [], k, arr, _ => by simp [put]
  | v :: r, k, arr, h => by
    rw [List.zipIdx_cons, List.foldl_cons, fold_put off r (k + 1) _ (by simp at h ⊢; omega)]
    dsimp only
    rw [Array.toList_setIfInBounds]
    have := list_seg_step arr.toList (off + k) v r (by simp at h ⊢; omega)
    unfold put
    rw [← Nat.add_assoc]
    exact this
theorem fill_next (place : Nat → Option (Nat × Nat)) (cells C : Array Value) (i off : Nat) (rest : List (Nat × Value)) (hp : place i = some (off, C.size)) (h : off + C.size ≤ cells.size) : Instr.fill place cells ((i, .agg C) :: rest) = Instr.fill place (put cells.toList off C.toList).toArray rest := by
  have hc : (Value.agg C).cells = C := rfl
  rw [Instr.fill, hp]
  dsimp only
  rw [hc, if_neg (by simp; omega)]
  congr 1
  apply Array.ext'
  rw [← Array.foldl_toList, Array.toList_zipIdx]
  have := fold_put off C.toList 0 cells (by simp; omega)
  rw [this]
  simp
/-- The cells of a journal. -/
abbrev rg3 (p f k : Nat) : List Value := [.pointer (some ⟨p, 0, none⟩), .int .i64 (f : Int), .int .i64 (k : Int)]
def jcells (p f1 f2 k : Nat) (bg : Bool) (num : Int) (en : Nat) (all : List Gp) (ss : List SL) (cut : Bool) : List Value := half6 p f1 k bg num en ++ (rg3 p f2 k ++ (gflat all ss ++ [.bool cut]))
theorem jcells_len (p f1 f2 k : Nat) (bg : Bool) (num : Int) (en : Nat) {all : List Gp} {ss : List SL} (h1 : all.length = 16) (h2 : ss.length = 16) (cut : Bool) : (jcells p f1 f2 k bg num en all ss cut).length = 58 := by
  simp [jcells, gflat48 all ss h1 h2]
theorem info73 : (Try.prog.info? 73).map (·.size) = some 58 := by kernel_rfl
theorem size62 : (Try.prog.info? 62).map (·.size) = some 3 := by kernel_rfl
theorem agg62 : ∀ w, (isAgg 62).run Try.prog w = .ok true w := fun w => by simp [isAgg, run_underlying Try.underlying62]
theorem cut4 (Z : List Value) : Z = Z.take 6 ++ ((Z.drop 6).take 3 ++ ((Z.drop 9).take 48 ++ Z.drop 57)) := by
  have e1 : (Z.drop 9).take 48 ++ Z.drop 57 = Z.drop 9 := by
    rw [show Z.drop 57 = (Z.drop 9).drop 48 from by rw [List.drop_drop]]; exact List.take_append_drop _ _
  have e2 : (Z.drop 6).take 3 ++ Z.drop 9 = Z.drop 6 := by
    rw [show Z.drop 9 = (Z.drop 6).drop 3 from by rw [List.drop_drop]]; exact List.take_append_drop _ _
  rw [e1, e2, List.take_append_drop]
theorem put4 {A B C Z : List Value} (hA : A.length = 6) (hB : B.length = 3) (hC : C.length = 48) (hZ : Z.length = 58) : put (put (put Z 0 A) 6 B) 9 C = A ++ (B ++ (C ++ Z.drop 57)) := by
  have e := cut4 Z
  have l1 : (Z.take 6).length = 6 := by simp [hZ]
  have l2 : ((Z.drop 6).take 3).length = 3 := by simp [hZ]
  have l3 : ((Z.drop 9).take 48).length = 48 := by simp [hZ]
  generalize Z.take 6 = z1 at *
  generalize (Z.drop 6).take 3 = z2 at *
  generalize (Z.drop 9).take 48 = z3 at *
  generalize Z.drop 57 = z4 at *
  rw [e]
  have p1 := put_exact [] z1 A (z2 ++ (z3 ++ z4)) 0 rfl (by omega)
  rw [List.nil_append, List.nil_append] at p1
  rw [p1, put_exact A z2 B (z3 ++ z4) 6 hA.symm (by omega)]
  have p3 := put_exact (A ++ B) z3 C z4 9 (by simp [hA, hB]) (by omega)
  rw [List.append_assoc, List.append_assoc] at p3
  exact p3
theorem fill3 (A B C Z : Array Value) (hA : A.size = 6) (hB : B.size = 3) (hC : C.size = 48) (hZ : Z.size = 58) (hz : Z.toList.drop 57 = [.bool false]) : Instr.fill (fun x => [(0, 6), (6, 3), (9, 48), (57, 1)][x]?) Z [(0, .agg A), (1, .agg B), (2, .agg C)] = some (A.toList ++ (B.toList ++ (C.toList ++ [Value.bool false]))).toArray := by
  rw [fill_next _ Z A 0 0 _ (by rw [hA]; rfl) (by omega)]
  have s1 : (put Z.toList 0 A.toList).length = 58 := by rw [put_len _ _ _ (by simp; omega)]; simpa using hZ
  rw [fill_next _ _ B 1 6 _ (by rw [hB]; rfl) (by simp [s1]; omega)]
  have s2 : (put (put Z.toList 0 A.toList) 6 B.toList).length = 58 := by rw [put_len _ _ _ (by simp; omega)]; exact s1
  rw [fill_next _ _ C 2 9 _ (by rw [hC]; rfl) (by simp [s2]; omega), Instr.fill]
  have := put4 (A := A.toList) (B := B.toList) (C := C.toList) (Z := Z.toList) (by simpa using hA) (by simpa using hB) (by simpa using hC) (by simpa using hZ)
  rw [hz] at this
  rw [this]
theorem run_build73 (A B C : Array Value) (hA : A.size = 6) (hB : B.size = 3) (hC : C.size = 48) (W : World) : (Instr.build 73 #[(0, .agg A), (1, .agg B), (2, .agg C)]).run Try.prog W = .ok (.agg (A.toList ++ (B.toList ++ (C.toList ++ [Value.bool false]))).toArray) W := by
  unfold Instr.build
  simp
  rw [fill3 A B C _ hA hB hC (by rfl) (by rfl)]
  simp
/-- A journal: its halves begin at these sectors. -/
def JS.f1 (j : JS) (first k : Nat) : Nat := if j.hi then first + k else first
def JS.f2 (j : JS) (first k : Nat) : Nat := if j.hi then first else first + k
/-- A journal in memory. -/
def IsJ (w : World) (S : List Nat) (q p first k : Nat) (j : JS) : Prop :=
  ∃ ss, w.heap[q]? = some (.cells (jcells p (j.f1 first k) (j.f2 first k) k j.bg j.num j.en j.all ss j.cut).toArray 73 (0, 0)) ∧ IsG w S j.all ss
#print axioms run_build73
end Go.Proofs.Ytgpbmccjcjoijaa
