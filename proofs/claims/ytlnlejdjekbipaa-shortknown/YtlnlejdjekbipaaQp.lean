/-
  Every command that has bytes is among the candidates that the document tries.
  What the loops of the document's Command keep.
-/
import Derived.Test.YtlnlejdjekbipaaQa
import Derived.Test.YtlnlejdjekbipaaPf
set_option linter.unusedSimpArgs false
namespace Go.Proofs.Ytlnlejdjekbipaa
open Go.RowKit

/-- What a command of a kind would have, if bytes were its. -/
def guessP (k : Int) (y : B8) (bits n : Nat) : Cm :=
  ⟨k, y.b1 + 256 * y.b2, y.b3, bits.testBit 0, y.b4 + 256 * y.b5 + 65536 * y.b6 + 16777216 * y.b7, bits.testBit 0, [], bits.testBit 1, bits.testBit 2, bits.testBit 3, (n : Int), 0, 0, 0, y.b4 + 256 * y.b5 + 65536 * y.b6 + 16777216 * y.b7⟩
/-- A candidate. -/
def cand (k : Int) (y : B8) (form bits n : Nat) : Cm := fieldsP (guessP k y bits n) y form
/-- Bits as a number. -/
def b4n (z t l c : Bool) : Nat := (if z then 1 else 0) + (if t then 2 else 0) + (if l then 4 else 0) + (if c then 8 else 0)
theorem b4n_lt (z t l c : Bool) : b4n z t l c < 16 := by cases z <;> cases t <;> cases l <;> cases c <;> decide
theorem b4n_0 (z t l c : Bool) : (b4n z t l c).testBit 0 = z := by cases z <;> cases t <;> cases l <;> cases c <;> decide
theorem b4n_1 (z t l c : Bool) : (b4n z t l c).testBit 1 = t := by cases z <;> cases t <;> cases l <;> cases c <;> decide
theorem b4n_2 (z t l c : Bool) : (b4n z t l c).testBit 2 = l := by cases z <;> cases t <;> cases l <;> cases c <;> decide
theorem b4n_3 (z t l c : Bool) : (b4n z t l c).testBit 3 = c := by cases z <;> cases t <;> cases l <;> cases c <;> decide
/-- Is a candidate tried, and is it the command? -/
def Found (z : Cm) (y : B8) : Prop := ∃ form bits n : Nat, form < 10 ∧ bits < 16 ∧ n ≤ 7 ∧ (form = 1 → n ≤ 4) ∧ (form ≠ 1 → form ≠ 3 → n = 0) ∧ cand z.k y form bits n = z
theorem take4 (d : List Int) (h : d.length ≤ 4) : [zb d 0, zb d 1, zb d 2, zb d 3].take d.length = d := by
  match d, h with
  | [], _ => rfl
  | [_], _ => rfl
  | [_, _], _ => rfl
  | [_, _, _], _ => rfl
  | [_, _, _, _], _ => rfl
  | _ :: _ :: _ :: _ :: _ :: _, h => simp at h
theorem take7 (d : List Int) (h : d.length ≤ 7) : [zb d 0, zb d 1, zb d 2, zb d 3, zb d 4, zb d 5, zb d 6].take d.length = d := by
  match d, h with
  | [], _ => rfl
  | [_], _ => rfl
  | [_, _], _ => rfl
  | [_, _, _], _ => rfl
  | [_, _, _, _], _ => rfl
  | [_, _, _, _, _], _ => rfl
  | [_, _, _, _, _, _], _ => rfl
  | [_, _, _, _, _, _, _], _ => rfl
  | _ :: _ :: _ :: _ :: _ :: _ :: _ :: _ :: _, h => simp at h
theorem join2 (x : Int) : x % 256 + 256 * (x / 256) = x := by omega
theorem join4 (x : Int) : x % 256 + 256 * (x / 256 % 256) + 65536 * (x / 65536 % 256) + 16777216 * (x / 16777216) = x := by omega
theorem found_place (f : Int) (z : Cm) (y : B8) (h : wPlace f z = some y) : Found z y := by
  unfold wPlace at h
  split at h
  · rename_i h1
    cases h
    have e := (only_1 z).1 h1
    refine ⟨0, 0, 0, by decide, by decide, by decide, by decide, by decide, ?_⟩
    refine Eq.trans ?_ e.symm
    simp only [cand, fieldsP, guessP, b4n_0, b4n_1, b4n_2, b4n_3, join2, join4]
  · cases h
theorem found_toggle (f : Int) (z : Cm) (y : B8) (h : wToggle f z = some y) : Found z y := by
  unfold wToggle at h
  split at h
  · rename_i h1
    cases h
    have e := (only_32 z).1 h1
    refine ⟨4, (b4n false z.t false false), 0, by decide, b4n_lt _ _ _ _, by decide, by decide, by decide, ?_⟩
    refine Eq.trans ?_ e.symm
    simp only [cand, fieldsP, guessP, b4n_0, b4n_1, b4n_2, b4n_3, join2, join4]
  · cases h
theorem found_stop (f : Int) (z : Cm) (y : B8) (h : wStop f z = some y) : Found z y := by
  unfold wStop at h
  split at h
  · rename_i h1
    cases h
    have e := (only_4097 z).1 h1
    refine ⟨5, 0, 0, by decide, by decide, by decide, by decide, by decide, ?_⟩
    refine Eq.trans ?_ e.symm
    simp only [cand, fieldsP, guessP, b4n_0, b4n_1, b4n_2, b4n_3, join2, join4]
  · cases h
theorem found_size (f : Int) (z : Cm) (y : B8) (h : wSize f z = some y) : Found z y := by
  unfold wSize at h
  split at h
  · rename_i h1
    simp only [Bool.and_eq_true, decide_eq_true_iff] at h1
    cases h
    have e := (only_135 z).1 h1.1
    refine ⟨2, (b4n z.z false false z.c), 0, by decide, b4n_lt _ _ _ _, by decide, by decide, by decide, ?_⟩
    refine Eq.trans ?_ e.symm
    simp only [cand, fieldsP, guessP, b4n_0, b4n_1, b4n_2, b4n_3, join2, join4]
  · cases h
theorem found_block (f : Int) (z : Cm) (y : B8) (h : wBlock f z = some y) : Found z y := by
  unfold wBlock at h
  split at h
  · rename_i h1
    simp only [Bool.and_eq_true, decide_eq_true_iff] at h1
    cases h
    have e := (only_385 z).1 h1.1
    refine ⟨6, (b4n false false false z.c), 0, by decide, b4n_lt _ _ _ _, by decide, by decide, by decide, ?_⟩
    refine Eq.trans ?_ e.symm
    simp only [cand, fieldsP, guessP, b4n_0, b4n_1, b4n_2, b4n_3, join2, join4]
  · cases h
theorem found_ack (f : Int) (z : Cm) (y : B8) (h : wAck f z = some y) : Found z y := by
  unfold wAck at h
  split at h
  · rename_i h1
    simp only [Bool.and_eq_true, decide_eq_true_iff] at h1
    cases h
    have e := (only_768 z).1 h1.1
    refine ⟨7, 0, 0, by decide, by decide, by decide, by decide, by decide, ?_⟩
    refine Eq.trans ?_ e.symm
    simp only [cand, fieldsP, guessP, b4n_0, b4n_1, b4n_2, b4n_3, join2, join4]
  · cases h
theorem found_bare (f : Int) (z : Cm) (y : B8) (h : wBare f z = some y) : Found z y := by
  unfold wBare at h
  split at h
  · rename_i h1
    cases h
    have e := (only_0 z).1 h1
    refine ⟨9, 0, 0, by decide, by decide, by decide, by decide, by decide, ?_⟩
    refine Eq.trans ?_ e.symm
    simp only [cand, fieldsP, guessP, b4n_0, b4n_1, b4n_2, b4n_3, join2, join4]
  · cases h
theorem or193 (m : Int) (h0 : 0 ≤ m) (h7 : m ≤ 7) : bits .or .u8 193 (m * 4) / 4 % 8 = m := by
  obtain rfl | rfl | rfl | rfl | rfl | rfl | rfl | rfl : m = 0 ∨ m = 1 ∨ m = 2 ∨ m = 3 ∨ m = 4 ∨ m = 5 ∨ m = 6 ∨ m = 7 := by omega
  all_goals decide +kernel
theorem found_end (z : Cm) (y : B8) (h : wEnd 193 z = some y) : Found z y := by
  unfold wEnd at h
  split at h
  · rename_i h1
    simp only [Bool.and_eq_true, decide_eq_true_iff] at h1
    cases h
    have e := (only_3072 z).1 h1.1
    refine ⟨8, 0, 0, by decide, by decide, by decide, by decide, by decide, ?_⟩
    refine Eq.trans ?_ e.symm
    simp only [cand, fieldsP, guessP, join2, or193 z.m h1.2.1 h1.2.2]
  · cases h
theorem found_begin (f : Int) (z : Cm) (y : B8) (h : wBegin f z = some y) : Found z y := by
  unfold wBegin at h
  split at h
  · rename_i hq
    split at h
    · rename_i h1
      simp only [Bool.and_eq_true] at h1
      cases h
      have e := (only_27 z).1 h1.1
      have hl : z.d.length ≤ 4 := by have := h1.2; simp [quickOk] at this; omega
      refine ⟨1, b4n z.z false false false, z.d.length, by decide, b4n_lt _ _ _ _, by omega, fun _ => hl, fun h => absurd rfl h, ?_⟩
      refine Eq.trans ?_ e.symm
      simp only [cand, fieldsP, guessP, b4n_0, join2, Int.toNat_natCast, take4 z.d hl, hq]
    · cases h
  · split at h
    · rename_i h1
      simp only [Bool.and_eq_true] at h1
      cases h
      have e := (only_7 z).1 h1.1
      refine ⟨2, b4n z.z false false false, 0, by decide, b4n_lt _ _ _ _, by decide, by decide, by decide, ?_⟩
      refine Eq.trans ?_ e.symm
      simp only [cand, fieldsP, guessP, b4n_0, b4n_3, join2, join4]
    · cases h
theorem found_part (f : Int) (z : Cm) (y : B8) (h : wPart f z = some y) : Found z y := by
  unfold wPart at h
  split at h
  · rename_i h1
    simp only [Bool.and_eq_true] at h1
    cases h
    have e := (only_112 z).1 h1.1
    have hl : z.d.length ≤ 7 := by have := h1.2; simp [fits] at this; omega
    refine ⟨3, b4n false z.t z.l false, z.d.length, by decide, b4n_lt _ _ _ _, hl, (fun h => by cases h), fun _ h => absurd rfl h, ?_⟩
    refine Eq.trans ?_ e.symm
    simp only [cand, fieldsP, guessP, b4n_1, b4n_2, Int.toNat_natCast, take7 z.d hl]
  · cases h
theorem found_askP (z : Cm) (y : B8) (h : askP z = some y) : Found z y ∧ 1 ≤ z.k ∧ z.k ≤ 11 := by
  unfold askP at h
  by_cases h1 : z.k = 1
  · simp only [h1] at h
    exact ⟨found_begin 32 z y (by simpa using h), by omega, by omega⟩
  rw [if_neg h1] at h
  by_cases h2 : z.k = 2
  · simp only [h2] at h
    exact ⟨found_part 0 z y (by simpa using h), by omega, by omega⟩
  rw [if_neg h2] at h
  by_cases h3 : z.k = 3
  · simp only [h3] at h
    exact ⟨found_place 64 z y (by simpa using h), by omega, by omega⟩
  rw [if_neg h3] at h
  by_cases h4 : z.k = 4
  · simp only [h4] at h
    exact ⟨found_toggle 96 z y (by simpa using h), by omega, by omega⟩
  rw [if_neg h4] at h
  by_cases h5 : z.k = 5
  · simp only [h5] at h
    exact ⟨found_stop 128 z y (by simpa using h), by omega, by omega⟩
  rw [if_neg h5] at h
  by_cases h6 : z.k = 6
  · simp only [h6] at h
    exact ⟨found_size 192 z y (by simpa using h), by omega, by omega⟩
  rw [if_neg h6] at h
  by_cases h7 : z.k = 7
  · simp only [h7] at h
    exact ⟨found_end z y (by simpa using h), by omega, by omega⟩
  rw [if_neg h7] at h
  by_cases h8 : z.k = 8
  · simp only [h8] at h
    exact ⟨found_block 160 z y (by simpa using h), by omega, by omega⟩
  rw [if_neg h8] at h
  by_cases h9 : z.k = 9
  · simp only [h9] at h
    exact ⟨found_bare 163 z y (by simpa using h), by omega, by omega⟩
  rw [if_neg h9] at h
  by_cases h10 : z.k = 10
  · simp only [h10] at h
    exact ⟨found_ack 162 z y (by simpa using h), by omega, by omega⟩
  rw [if_neg h10] at h
  by_cases h11 : z.k = 11
  · simp only [h11] at h
    exact ⟨found_bare 161 z y (by simpa using h), by omega, by omega⟩
  rw [if_neg h11] at h
  cases h
#print axioms found_askP
theorem found_ansP (z : Cm) (y : B8) (h : ansP z = some y) : Found z y ∧ 1 ≤ z.k ∧ z.k ≤ 11 := by
  unfold ansP at h
  by_cases h1 : z.k = 1
  · simp only [h1] at h
    exact ⟨found_place 96 z y (by simpa using h), by omega, by omega⟩
  rw [if_neg h1] at h
  by_cases h2 : z.k = 2
  · simp only [h2] at h
    exact ⟨found_toggle 32 z y (by simpa using h), by omega, by omega⟩
  rw [if_neg h2] at h
  by_cases h3 : z.k = 3
  · simp only [h3] at h
    exact ⟨found_begin 64 z y (by simpa using h), by omega, by omega⟩
  rw [if_neg h3] at h
  by_cases h4 : z.k = 4
  · simp only [h4] at h
    exact ⟨found_part 0 z y (by simpa using h), by omega, by omega⟩
  rw [if_neg h4] at h
  by_cases h5 : z.k = 5
  · simp only [h5] at h
    exact ⟨found_stop 128 z y (by simpa using h), by omega, by omega⟩
  rw [if_neg h5] at h
  by_cases h6 : z.k = 6
  · simp only [h6] at h
    exact ⟨found_block 160 z y (by simpa using h), by omega, by omega⟩
  rw [if_neg h6] at h
  by_cases h10 : z.k = 10
  · simp only [h10] at h
    exact ⟨found_ack 162 z y (by simpa using h), by omega, by omega⟩
  rw [if_neg h10] at h
  by_cases h7 : z.k = 7
  · simp only [h7] at h
    exact ⟨found_bare 161 z y (by simpa using h), by omega, by omega⟩
  rw [if_neg h7] at h
  by_cases h8 : z.k = 8
  · simp only [h8] at h
    exact ⟨found_size 192 z y (by simpa using h), by omega, by omega⟩
  rw [if_neg h8] at h
  by_cases h11 : z.k = 11
  · simp only [h11] at h
    exact ⟨found_end z y (by simpa using h), by omega, by omega⟩
  rw [if_neg h11] at h
  cases h
#print axioms found_ansP
end Go.Proofs.Ytlnlejdjekbipaa
namespace Go.Proofs.Ytlnlejdjekbipaa
open Go.RowKit

/-- The bytes' box, and the result's. -/
def QM (w x : World) (y : B8) : Prop := Below w.heap.size w x ∧ x.heap[w.heap.size]? = some (.cells (ar8 y.b0 y.b1 y.b2 y.b3 y.b4 y.b5 y.b6 y.b7) 31 (0, 0)) ∧ x.heap[w.heap.size + 1]? = some (.cells (cmC 0 0 0 false 0 false none 0 0 false false false 0 0 0 0 0) 36 (0, 0))
theorem QM.al {w x : World} {y : B8} (h : QM w x y) (o : Obj) : QM w (x.alloc o) y := ⟨Below.al h.1 o, ext_al h.2.1, ext_al h.2.2⟩
theorem QM.drew {w x : World} {y : B8} (h : QM w x y) : QM w x.drew y := ⟨Below.drew h.1, h.2.1, h.2.2⟩
theorem blk' {W W' : World} {j : Nat} {v : Obj} (hb : Below W.heap.size W W') (h : W.heap[j]? = some v) : W'.heap[j]? = some v := (hb.block _ (Array.getElem?_eq_some_iff.1 h).1).trans h
theorem QM.next {w x x' : World} {y : B8} (h : QM w x y) (hb : Below x.heap.size x x') : QM w x' y := ⟨Below.andThen h.1 hb, blk' hb h.2.1, blk' hb h.2.2⟩
theorem QM.set {w x : World} {y : B8} (h : QM w x y) (P : Nat) (hP : w.heap.size + 1 < P) (cs : Array Value) : QM w (x.setRow P cs) y := ⟨below_setRow h.1 (by omega) cs, (setRow_other _ _ _ _ (by omega)).trans h.2.1, (setRow_other _ _ _ _ (by omega)).trans h.2.2⟩
/-- Where the command is found: kind, form, bits, number. -/
abbrev Ix := Option (Nat × Nat × Nat × Nat)
def LE1 (o : Ix) (k : Nat) : Prop := ∀ i, o = some i → k ≤ i.1
def LE2 (o : Ix) (k f : Nat) : Prop := ∀ i, o = some i → k < i.1 ∨ (k = i.1 ∧ f ≤ i.2.1)
def LE3 (o : Ix) (k f b : Nat) : Prop := ∀ i, o = some i → k < i.1 ∨ (k = i.1 ∧ (f < i.2.1 ∨ (f = i.2.1 ∧ b ≤ i.2.2.1)))
def LE4 (o : Ix) (k f b n : Nat) : Prop := ∀ i, o = some i → k < i.1 ∨ (k = i.1 ∧ (f < i.2.1 ∨ (f = i.2.1 ∧ (b < i.2.2.1 ∨ (b = i.2.2.1 ∧ n ≤ i.2.2.2)))))
def IxOk (o : Ix) : Prop := ∀ i, o = some i → 1 ≤ i.1 ∧ i.1 ≤ 11 ∧ i.2.1 < 10 ∧ i.2.2.1 < 16 ∧ i.2.2.2 ≤ 7 ∧ (i.2.1 = 1 → i.2.2.2 ≤ 4) ∧ (i.2.1 ≠ 1 → i.2.1 ≠ 3 → i.2.2.2 = 0)
theorem LE1.start {o : Ix} (h : IxOk o) : LE1 o 1 := fun i e => (h i e).1
theorem LE1.in_ {o : Ix} {k : Nat} (h : LE1 o k) : LE2 o k 0 := fun i e => by have := h i e; omega
theorem LE2.in_ {o : Ix} {k f : Nat} (h : LE2 o k f) : LE3 o k f 0 := fun i e => by have := h i e; omega
theorem LE3.in_ {o : Ix} {k f b : Nat} (h : LE3 o k f b) : LE4 o k f b 0 := fun i e => by have := h i e; omega
theorem LE4.out {o : Ix} (hi : IxOk o) {k f b n : Nat} (hn : 7 < n) (h : LE4 o k f b n) : LE3 o k f (b + 1) := fun i e => by have := h i e; have := (hi i e).2.2.2.2.1; omega
theorem LE3.out {o : Ix} (hi : IxOk o) {k f b : Nat} (hn : 15 < b) (h : LE3 o k f b) : LE2 o k (f + 1) := fun i e => by have := h i e; have := (hi i e).2.2.2.1; omega
theorem LE2.out {o : Ix} (hi : IxOk o) {k f : Nat} (hn : 9 < f) (h : LE2 o k f) : LE1 o (k + 1) := fun i e => by have := h i e; have := (hi i e).2.2.1; omega
theorem LE1.out {o : Ix} (hi : IxOk o) {k : Nat} (hn : 11 < k) (h : LE1 o k) : o = none := by
  cases o with
  | none => rfl
  | some i => have := h i rfl; have := (hi i rfl).2.1; omega
theorem LE4.step {o : Ix} {k f b n : Nat} (h : LE4 o k f b n) (hne : o ≠ some (k, f, b, n)) : LE4 o k f b (n + 1) := fun i e => by
  have h1 := h i e
  by_cases h2 : k = i.1 ∧ f = i.2.1 ∧ b = i.2.2.1 ∧ n = i.2.2.2
  · exact absurd (by rw [e, h2.1, h2.2.1, h2.2.2.1, h2.2.2.2]) hne
  · omega
theorem LE4.skip {o : Ix} (hi : IxOk o) {k f b n : Nat} (h : LE4 o k f b n) (hs : (f = 1 ∧ 4 < n) ∨ (f ≠ 1 ∧ f ≠ 3 ∧ 0 < n)) : LE4 o k f b (n + 1) := h.step fun e => by have := hi _ e; simp only at this; omega
theorem and_b (b : Nat) (h : b < 16) : (bits .and .i64 (b : Int) 1 == 1) = b.testBit 0 ∧ (bits .and .i64 (b : Int) 2 == 2) = b.testBit 1 ∧ (bits .and .i64 (b : Int) 4 == 4) = b.testBit 2 ∧ (bits .and .i64 (b : Int) 8 == 8) = b.testBit 3 := by
  have : ∀ b : Fin 16, (bits .and .i64 ((b.val : Nat) : Int) 1 == 1) = b.val.testBit 0 ∧ (bits .and .i64 ((b.val : Nat) : Int) 2 == 2) = b.val.testBit 1 ∧ (bits .and .i64 ((b.val : Nat) : Int) 4 == 4) = b.val.testBit 2 ∧ (bits .and .i64 ((b.val : Nat) : Int) 8 == 8) = b.val.testBit 3 := by decide +kernel
  exact this ⟨b, h⟩
/-- What the document's Command tells. -/
def RCPost (w : World) : Option Cm → Ending → World → Prop
  | none, r, w' => r = .returned (.tuple #[cmV 0 0 0 false 0 false none 0 0 false false false 0 0 0 0 0, .int .i64 11]) ∧ Below w.heap.size w w'
  | some z, r, w' => ∃ a cap, r = .returned (.tuple #[z.v a z.d.length cap, .int .i64 0]) ∧ Row w' a z.d.length z.d ∧ (0 < z.d.length → ∀ b off, a = some ⟨b, off, none⟩ → w.heap.size ≤ b) ∧ Below w.heap.size w w'
theorem bytes_gen' (O : Option B8) : ∃ x0 x1 x2 x3 x4 x5 x6 x7 ec : Int, (∀ W r w', BPost W O r w' → r = .returned (.tuple #[arr8 x0 x1 x2 x3 x4 x5 x6 x7, .int .i64 ec]) ∧ Below W.heap.size W w') ∧ ((O = some ⟨x0, x1, x2, x3, x4, x5, x6, x7⟩ ∧ ec = 0) ∨ (O = none ∧ ec = 2)) := by
  cases O with
  | none => exact ⟨0, 0, 0, 0, 0, 0, 0, 0, 2, fun W r w' h => h, .inr ⟨rfl, rfl⟩⟩
  | some x => exact ⟨x.b0, x.b1, x.b2, x.b3, x.b4, x.b5, x.b6, x.b7, 0, fun W r w' h => h, .inl ⟨rfl, rfl⟩⟩
theorem oct_take (l : List Int) (n : Nat) (h : Oct l) : Oct (l.take n) := fun x hx => h x (List.mem_of_mem_take hx)
theorem cand_ok (k : Int) (hk : 0 ≤ k ∧ k < 256) (y : B8) (oky : y.Ok) (f b n : Nat) (_hn : n ≤ 7) : (cand k y f b n).Ok := by
  obtain ⟨h0, h1, h2, h3, h4, h5, h6, h7⟩ := oky
  have o4 : Oct [y.b4, y.b5, y.b6, y.b7] := fun x hx => by simp at hx; omega
  have o7 : Oct [y.b1, y.b2, y.b3, y.b4, y.b5, y.b6, y.b7] := fun x hx => by simp at hx; omega
  unfold cand guessP
  match f with
  | 0 => constructor <;> simp only [fieldsP] <;> first | omega | exact oct_nil | exact oct_take _ _ o4 | exact oct_take _ _ o7
  | 1 => constructor <;> simp only [fieldsP] <;> first | omega | exact oct_nil | exact oct_take _ _ o4 | exact oct_take _ _ o7
  | 2 => constructor <;> simp only [fieldsP] <;> first | omega | exact oct_nil | exact oct_take _ _ o4 | exact oct_take _ _ o7
  | 3 => constructor <;> simp only [fieldsP] <;> first | omega | exact oct_nil | exact oct_take _ _ o4 | exact oct_take _ _ o7
  | 4 => constructor <;> simp only [fieldsP] <;> first | omega | exact oct_nil | exact oct_take _ _ o4 | exact oct_take _ _ o7
  | 5 => constructor <;> simp only [fieldsP] <;> first | omega | exact oct_nil | exact oct_take _ _ o4 | exact oct_take _ _ o7
  | 6 => constructor <;> simp only [fieldsP] <;> first | omega | exact oct_nil | exact oct_take _ _ o4 | exact oct_take _ _ o7
  | 7 => constructor <;> simp only [fieldsP] <;> first | omega | exact oct_nil | exact oct_take _ _ o4 | exact oct_take _ _ o7
  | 8 => constructor <;> simp only [fieldsP] <;> first | omega | exact oct_nil | exact oct_take _ _ o4 | exact oct_take _ _ o7
  | (_ + 9) => constructor <;> simp only [fieldsP] <;> first | omega | exact oct_nil | exact oct_take _ _ o4 | exact oct_take _ _ o7
end Go.Proofs.Ytlnlejdjekbipaa
