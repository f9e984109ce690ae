/-
  A watch that stands for a row of nodes: what is said of it, and how it changes.
-/
import Derived.Test.YtjdfacjfpdfafaaHd
namespace Go.Proofs.Ytjdfacjfpdfafaa
open Go.RowKit

/-- A node: how long it may be silent (0: it is not watched), was it heard, is it gone, its last state, when it was heard. -/
structure Nd where
  W : Int
  h : Bool
  g : Bool
  s : Int
  t : Int
def Nd.on (x : Nd) : Bool := x.h && !x.g
def Nd.Ok (x : Nd) : Prop := 0 ≤ x.W ∧ x.W ≤ 1099511627776 ∧ 0 ≤ x.t ∧ x.t ≤ 1099511627776 ∧ 0 ≤ x.s ∧ x.s < 256
abbrev ndC (x : Nd) : Array Value := #[.int .i64 x.W, .bool x.on, .int .u8 x.s, .int .i64 x.t]
/-- A node that is watched anew. -/
def fresh (W : Int) : Nd := ⟨W, false, false, 0, 0⟩
theorem fresh_ok {W : Int} (h : tmB W = true) : (fresh W).Ok := by
  have := tmB_of h
  exact ⟨this.1, this.2, Int.le_refl 0, (by decide : (0 : Int) ≤ 1099511627776), Int.le_refl 0, (by decide : (0 : Int) < 256)⟩

/-- Nothing below a base changes, and no block of another type. -/
structure Kt (base : Nat) (w w' : World) : Prop where
  os : w'.os = w.os
  tape : w'.tape = w.tape
  output : w'.output = w.output
  size : w.heap.size ≤ w'.heap.size
  low : ∀ k, k < base → k < w.heap.size → w'.heap[k]? = w.heap[k]?
  typ : ∀ (j : Nat) (C : Array Value) (T : TypeId) (f : Nat × Nat), w.heap[j]? = some (.cells C T f) → T ≠ 81 → T ≠ 87 → w'.heap[j]? = some (.cells C T f)
theorem Kt.refl (b : Nat) (w : World) : Kt b w w := ⟨rfl, rfl, rfl, Nat.le_refl _, fun _ _ _ => rfl, fun _ _ _ _ h _ _ => h⟩
theorem Kt.trans {x : Nat} {a b c : World} (h : Kt x a b) (k : Kt x b c) : Kt x a c :=
  ⟨k.os.trans h.os, k.tape.trans h.tape, k.output.trans h.output, Nat.le_trans h.size k.size, fun i hi hs => (k.low i hi (Nat.lt_of_lt_of_le hs h.size)).trans (h.low i hi hs), fun j C T f hj h1 h2 => k.typ j C T f (h.typ j C T f hj h1 h2) h1 h2⟩
theorem Kt.of {x : Nat} {a b : World} (h : Below a.heap.size a b) : Kt x a b := ⟨h.os, h.tape, h.output, h.size, fun i _ hs => h.block i hs, fun _ _ _ _ hj _ _ => blk11 h hj⟩
theorem Kt.below {x : Nat} {a b : World} (h : Kt x a b) (hx : x ≤ a.heap.size) : Below x a b := ⟨h.os, h.tape, h.output, h.size, fun i hi => h.low i hi (by omega)⟩
/-- From a base on to a later world. -/
theorem Kt.from {x : Nat} {w a b : World} (h : Below x w a) (k : Kt x a b) (hx : x ≤ a.heap.size) : Below x w b :=
  ⟨k.os.trans h.os, k.tape.trans h.tape, k.output.trans h.output, Nat.le_trans h.size k.size, fun i hi => (k.low i hi (by omega)).trans (h.block i hi)⟩

structure IsW (w : World) (base p : Nat) (P : List (Option Nat)) (S : List Nd) : Prop where
  row : w.heap[p]? = some (.cells (wC P).toArray 81 (0, 0))
  pl : P.length = 128
  sl : S.length = 128
  lo : base ≤ p
  none_ : ∀ k : Nat, P[k]? = some none → ∃ x : Nd, S[k]? = some x ∧ x.W = 0
  some_ : ∀ k b : Nat, P[k]? = some (some b) → base ≤ b ∧ ∃ x : Nd, S[k]? = some x ∧ 0 < x.W ∧ w.heap[b]? = some (.cells (ndC x) 87 (0, 0))
  inj : ∀ j k b : Nat, P[j]? = some (some b) → P[k]? = some (some b) → j = k
  ok : ∀ x ∈ S, x.Ok
theorem IsW.same {w w' : World} {base p : Nat} {P : List (Option Nat)} {S : List Nd} (h : IsW w base p P S) (hk : ∀ (j : Nat) (C : Array Value) (T : TypeId) (f : Nat × Nat), w.heap[j]? = some (.cells C T f) → T = 81 ∨ T = 87 → w'.heap[j]? = some (.cells C T f)) : IsW w' base p P S :=
  ⟨hk _ _ _ _ h.row (.inl rfl), h.pl, h.sl, h.lo, h.none_, fun k b hb => by
    obtain ⟨h1, x, h2, h3, h4⟩ := h.some_ k b hb
    exact ⟨h1, x, h2, h3, hk _ _ _ _ h4 (.inr rfl)⟩, h.inj, h.ok⟩
theorem IsW.next {w w' : World} {base p : Nat} {P : List (Option Nat)} {S : List Nd} (h : IsW w base p P S) (hb : Below w.heap.size w w') : IsW w' base p P S := h.same fun _ _ _ _ hj _ => blk11 hb hj
/-- Another one's block changes. -/
theorem IsW.kp {w w' : World} {base p r : Nat} {P : List (Option Nat)} {S : List Nd} {C : Array Value} {T : TypeId} {f : Nat × Nat} (h : IsW w base p P S) (hk : Kp [r] w w') (hr : w.heap[r]? = some (.cells C T f)) (h1 : T ≠ 81) (h2 : T ≠ 87) : IsW w' base p P S :=
  h.same fun j C' T' f' hj ht => hk.at (by
    simp only [List.mem_singleton]
    rintro rfl
    rw [hr] at hj
    cases hj
    rcases ht with ht | ht
    · exact h1 ht
    · exact h2 ht) hj
theorem IsW.at_ {w : World} {base p : Nat} {P : List (Option Nat)} {S : List Nd} (h : IsW w base p P S) {k : Nat} (hk : k < 128) : ∃ x : Nd, S[k]? = some x ∧ ((x.W = 0 ∧ P[k]? = some none) ∨ ∃ b, 0 < x.W ∧ P[k]? = some (some b) ∧ base ≤ b ∧ w.heap[b]? = some (.cells (ndC x) 87 (0, 0))) := by
  obtain ⟨o, ho⟩ : ∃ o, P[k]? = some o := ⟨_, List.getElem?_eq_getElem (by have := h.pl; omega)⟩
  cases o with
  | none =>
    obtain ⟨x, h1, h2⟩ := h.none_ k ho
    exact ⟨x, h1, .inl ⟨h2, ho⟩⟩
  | some b =>
    obtain ⟨h0, x, h1, h2, h3⟩ := h.some_ k b ho
    exact ⟨x, h1, .inr ⟨b, h2, ho, h0, h3⟩⟩
theorem set_get {α : Type} {l : List α} {k j : Nat} {x y : α} (h : (l.set k x)[j]? = some y) (hk : k < l.length) : (j = k ∧ y = x) ∨ (j ≠ k ∧ l[j]? = some y) := by
  by_cases hj : j = k
  · subst hj
    rw [List.getElem?_set_self hk] at h
    exact .inl ⟨rfl, (Option.some.inj h).symm⟩
  · rw [List.getElem?_set_ne (Ne.symm hj)] at h
    exact .inr ⟨hj, h⟩
theorem mem_set {S : List Nd} {k : Nat} {x y : Nd} (h : ∀ z ∈ S, z.Ok) (hx : x.Ok) (hy : y ∈ S.set k x) : y.Ok := by
  rcases List.mem_or_eq_of_mem_set hy with hy | rfl
  · exact h _ hy
  · exact hx
theorem wC_set (P : List (Option Nat)) (k : Nat) (o : Option Nat) : (wC P).toArray.setIfInBounds k (ptO o) = (wC (P.set k o)).toArray := by
  simp [wC]
/-- A node is watched no more. -/
theorem IsW.clr {w : World} {base p : Nat} {P : List (Option Nat)} {S : List Nd} (h : IsW w base p P S) {k : Nat} (hk : k < 128) : IsW (w.setCell ⟨p, k, none⟩ (.pointer none)) base p (P.set k none) (S.set k (fresh 0)) ∧ Kt base w (w.setCell ⟨p, k, none⟩ (.pointer none)) := by
  have ot : ∀ j, j ≠ p → (w.setCell ⟨p, k, none⟩ (.pointer none)).heap[j]? = w.heap[j]? := fun j hj => Below.heap_setCell _ _ _ _ (fun e => hj (by simpa using e))
  refine ⟨⟨?_, by simp [h.pl], by simp [h.sl], h.lo, fun j hj => ?_, fun j b hj => ?_, fun i j b hi hj => ?_, fun x hx => mem_set h.ok (fresh_ok (by decide)) hx⟩, ⟨rfl, rfl, rfl, by simp [World.setCell], fun j hj _ => ot j (by have := h.lo; omega), fun j C T f hj h1 _ => (ot j (fun e => by subst e; rw [h.row] at hj; cases hj; exact h1 rfl)).trans hj⟩⟩
  · rw [heap_setCell_same _ _ _ _ _ _ h.row, ← wC_set]
    rfl
  · rcases set_get hj (by rw [h.pl]; exact hk) with ⟨rfl, _⟩ | ⟨hn, hj⟩
    · exact ⟨_, List.getElem?_set_self (by rw [h.sl]; exact hk), rfl⟩
    · rw [List.getElem?_set_ne (Ne.symm hn)]
      exact h.none_ j hj
  · rcases set_get hj (by rw [h.pl]; exact hk) with ⟨rfl, e⟩ | ⟨hn, hj⟩
    · cases e
    · rw [List.getElem?_set_ne (Ne.symm hn)]
      obtain ⟨h1, x, h2, h3, h4⟩ := h.some_ j b hj
      exact ⟨h1, x, h2, h3, (ot b (fun e => by rw [e, h.row] at h4; simp at h4)).trans h4⟩
  · rcases set_get hi (by rw [h.pl]; exact hk) with ⟨rfl, e⟩ | ⟨_, hi⟩
    · cases e
    rcases set_get hj (by rw [h.pl]; exact hk) with ⟨rfl, e⟩ | ⟨_, hj⟩
    · cases e
    exact h.inj i j b hi hj
/-- A node is watched anew. -/
theorem IsW.new {w : World} {base p : Nat} {P : List (Option Nat)} {S : List Nd} (h : IsW w base p P S) (hb : base ≤ w.heap.size) {k : Nat} (hk : k < 128) {x : Nd} (hx : 0 < x.W) (ho : x.Ok) : IsW ((w.setCell ⟨p, k, none⟩ (pt w.heap.size)).alloc (.cells (ndC x) 87)) base p (P.set k (some w.heap.size)) (S.set k x) ∧ Kt base w ((w.setCell ⟨p, k, none⟩ (pt w.heap.size)).alloc (.cells (ndC x) 87)) := by
  have lp : p < w.heap.size := lt_of_heap h.row
  have ot : ∀ j, j ≠ p → j < w.heap.size → ((w.setCell ⟨p, k, none⟩ (pt w.heap.size)).alloc (.cells (ndC x) 87)).heap[j]? = w.heap[j]? := fun j hj hl => (Below.heap_alloc _ _ _ (by simpa [World.setCell] using hl)).trans (Below.heap_setCell _ _ _ _ (fun e => hj (by simpa using e)))
  have nw : ((w.setCell ⟨p, k, none⟩ (pt w.heap.size)).alloc (.cells (ndC x) 87)).heap[w.heap.size]? = some (.cells (ndC x) 87 (0, 0)) := at11 _ _ _ (by simp [World.setCell])
  refine ⟨⟨?_, by simp [h.pl], by simp [h.sl], h.lo, fun j hj => ?_, fun j b hj => ?_, fun i j b hi hj => ?_, fun y hy => mem_set h.ok ho hy⟩, ⟨rfl, rfl, rfl, by simp [World.setCell], fun j hj hl => ot j (by have := h.lo; omega) hl, fun j C T f hj h1 _ => (ot j (fun e => by subst e; rw [h.row] at hj; cases hj; exact h1 rfl) (lt_of_heap hj)).trans hj⟩⟩
  · rw [Below.heap_alloc _ _ _ (by simpa [World.setCell] using lp), heap_setCell_same _ _ _ _ _ _ h.row, ← wC_set]
    rfl
  · rcases set_get hj (by rw [h.pl]; exact hk) with ⟨rfl, e⟩ | ⟨hn, hj⟩
    · cases e
    · rw [List.getElem?_set_ne (Ne.symm hn)]
      exact h.none_ j hj
  · rcases set_get hj (by rw [h.pl]; exact hk) with ⟨rfl, e⟩ | ⟨hn, hj⟩
    · cases e
      exact ⟨hb, x, List.getElem?_set_self (by rw [h.sl]; exact hk), hx, nw⟩
    · rw [List.getElem?_set_ne (Ne.symm hn)]
      obtain ⟨h1, y, h2, h3, h4⟩ := h.some_ j b hj
      exact ⟨h1, y, h2, h3, (ot b (fun e => by rw [e, h.row] at h4; simp at h4) (lt_of_heap h4)).trans h4⟩
  · have old : ∀ j b, P[j]? = some (some b) → b < w.heap.size := fun j b hj => by
      obtain ⟨_, y, _, _, h4⟩ := h.some_ j b hj
      exact lt_of_heap h4
    rcases set_get hi (by rw [h.pl]; exact hk) with ⟨rfl, e⟩ | ⟨_, hi'⟩
    · cases e
      rcases set_get hj (by rw [h.pl]; exact hk) with ⟨rfl, e⟩ | ⟨_, hj⟩
      · rfl
      · exact absurd (old _ _ hj) (Nat.lt_irrefl _)
    rcases set_get hj (by rw [h.pl]; exact hk) with ⟨rfl, e⟩ | ⟨_, hj⟩
    · cases e
      exact absurd (old _ _ hi') (Nat.lt_irrefl _)
    exact h.inj i j b hi' hj
/-- What is known of a node changes. -/
theorem IsW.upd {w w' : World} {base p b : Nat} {P : List (Option Nat)} {S : List Nd} (h : IsW w base p P S) {k : Nat} (hp : P[k]? = some (some b)) {x : Nd} (hx : 0 < x.W) (ho : x.Ok) (hk : Kp [b] w w') (hb : w'.heap[b]? = some (.cells (ndC x) 87 (0, 0))) : IsW w' base p P (S.set k x) ∧ Kt base w w' := by
  obtain ⟨b0, y, y1, _, y2⟩ := h.some_ k b hp
  have lk : k < 128 := by rw [← h.pl]; exact (List.getElem?_eq_some_iff.1 hp).1
  have ot : ∀ j, j ≠ b → ∀ o, w.heap[j]? = some o → w'.heap[j]? = some o := fun j hj o ho => hk.at (by simpa using hj) ho
  refine ⟨⟨ot p (fun e => by rw [← e, h.row] at y2; simp at y2) _ h.row, h.pl, by simp [h.sl], h.lo, fun j hj => ?_, fun j c hj => ?_, h.inj, fun z hz => mem_set h.ok ho hz⟩, ⟨hk.os, hk.tape, hk.output, hk.size, fun j hj hl => hk.block j hl (by simp; omega), fun j C T f hj _ h2 => ot j (fun e => by subst e; rw [y2] at hj; cases hj; exact h2 rfl) _ hj⟩⟩
  · have hn : j ≠ k := fun e => by subst e; rw [hp] at hj; cases hj
    rw [List.getElem?_set_ne (Ne.symm hn)]
    exact h.none_ j hj
  · by_cases hn : j = k
    · subst hn
      rw [hp] at hj
      cases hj
      exact ⟨b0, x, List.getElem?_set_self (by rw [h.sl]; exact lk), hx, hb⟩
    · rw [List.getElem?_set_ne (Ne.symm hn)]
      obtain ⟨h1, z, h2, h3, h4⟩ := h.some_ j c hj
      exact ⟨h1, z, h2, h3, ot c (fun e => by subst e; exact hn (h.inj j k _ hj hp)) _ h4⟩
/-- How many of the first k are watched. -/
def cntS (S : List Nd) (k : Nat) : Nat := (S.take k).countP (fun x => decide (0 < x.W))
theorem cntS_succ {S : List Nd} {k : Nat} {x : Nd} (h : S[k]? = some x) : cntS S (k + 1) = cntS S k + (if decide (0 < x.W) = true then 1 else 0) := by
  obtain ⟨hk, rfl⟩ := List.getElem?_eq_some_iff.1 h
  unfold cntS
  rw [List.take_succ_eq_append_getElem hk, List.countP_append, List.countP_singleton]
theorem cntS_le (S : List Nd) (k : Nat) : cntS S k ≤ k := by
  unfold cntS
  exact Nat.le_trans List.countP_le_length (by rw [List.length_take]; omega)
theorem IsW.cnt {w : World} {base p : Nat} {P : List (Option Nat)} {S : List Nd} (h : IsW w base p P S) : ∀ k, k ≤ 128 → cntP P k = cntS S k
  | 0, _ => by simp [cntP, cntS]
  | k + 1, hk => by
    obtain ⟨x, hx, hc⟩ := h.at_ (k := k) (by omega)
    rw [cntS_succ hx]
    rcases hc with ⟨h0, ho⟩ | ⟨b, h0, ho, _⟩
    · rw [cntP_succ ho, h.cnt k (by omega), if_neg (by simp), if_neg (by simp; omega)]
    · rw [cntP_succ ho, h.cnt k (by omega)]
      simp [h0]
#print axioms IsW.upd
#print axioms IsW.new
#print axioms IsW.clr
#print axioms IsW.cnt
end Go.Proofs.Ytjdfacjfpdfafaa
