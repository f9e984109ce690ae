/-
  What both sides hold, plain; how it lies in memory, the program's and the document's.
-/
import Derived.Test.YtnbdnmfnmnboiaaZb
import Derived.Laws.BitsAllLaws
namespace Go.Proofs.Ytnbdnmfnmnboiaa
open Go.RowKit

/-- The register of bits that stand. -/
def regN : List Nat → Nat
  | [] => 0
  | b :: l => (1 ||| b) ||| regN l
theorem regN_app (l : List Nat) (b : Nat) : regN (l ++ [b]) = regN l ||| (1 ||| b) := by
  induction l with
  | nil => simp [regN]
  | cons x l ih => simp only [List.cons_append, regN, ih, Nat.or_assoc]
theorem regN_perm {l l' : List Nat} (h : l.Perm l') : regN l = regN l' := by
  induction h with
  | nil => rfl
  | cons x _ ih => simp only [regN, ih]
  | swap x y l => simp only [regN]; rw [← Nat.or_assoc, Nat.or_comm (1 ||| y) (1 ||| x), Nat.or_assoc]
  | trans _ _ i1 i2 => exact i1.trans i2
theorem or_lt {a b : Nat} (ha : a < 256) (hb : b < 256) : a ||| b < 256 := Nat.or_lt_two_pow (n := 8) ha hb
theorem regN_lt (l : List Nat) (h : ∀ b ∈ l, b < 256) : regN l < 256 := by
  induction l with
  | nil => decide
  | cons x l ih => exact or_lt (or_lt (by decide) (h x (by simp))) (ih fun b hb => h b (by simp [hb]))
theorem pow_lt {b : Nat} (h : b < 8) : 2 ^ b < 256 := Nat.pow_lt_pow_right (a := 2) (by decide) h

/-- A frame that waits. -/
structure Wt where
  c : Int
  r : Int
  i0 : Int
  i1 : Int
  i2 : Int
  i3 : Int
  i4 : Int
/-- Its cells. -/
abbrev Wt.A (x : Wt) (a : Int) : Array Value := frC (128 + a) 8 (x.c % 256) (x.c / 256) x.r x.i0 x.i1 x.i2 x.i3 x.i4 false
def Wt.L (x : Wt) (a : Int) : List Value := (x.A a).toList
/-- Bytes that may be. -/
structure Wt.Ok (x : Wt) : Prop where
  c0 : 0 ≤ x.c
  c1 : x.c < 65536
  r0 : 0 ≤ x.r
  r1 : x.r < 256
  o : Oct [x.i0, x.i1, x.i2, x.i3, x.i4]
/-- The cells of a row of them. -/
def flw (a : Int) (l : List Wt) : List Value := l.flatMap (·.L a)
theorem Wt.L_len (x : Wt) (a : Int) : (x.L a).length = 11 := rfl
theorem flw_len (a : Int) (l : List Wt) : (flw a l).length = l.length * 11 := by
  unfold flw
  induction l with
  | nil => rfl
  | cons x l ih => rw [List.flatMap_cons, List.length_append, ih, Wt.L_len, List.length_cons]; omega
theorem flw_app (a : Int) (l m : List Wt) : flw a (l ++ m) = flw a l ++ flw a m := by unfold flw; rw [List.flatMap_append]
theorem flw_one (a : Int) (x : Wt) : flw a [x] = x.L a := by unfold flw; simp
theorem flw_cons (a : Int) (x : Wt) (l : List Wt) : flw a (x :: l) = x.L a ++ flw a l := rfl

/-- The cells of a row of errors that stand, the document's. -/
def fls (l : List (Int × Nat)) : List Value := l.flatMap fun x => [.int .u16 x.1, .int .u8 (x.2 : Int)]
theorem fls_len (l : List (Int × Nat)) : (fls l).length = l.length * 2 := by
  unfold fls
  induction l with
  | nil => rfl
  | cons x l ih => rw [List.flatMap_cons, List.length_append, ih, List.length_cons]; simp; omega
theorem fls_app (l m : List (Int × Nat)) : fls (l ++ m) = fls l ++ fls m := by unfold fls; rw [List.flatMap_append]
theorem fls_at (l : List (Int × Nat)) (i : Nat) (x : Int × Nat) (h : l[i]? = some x) : (fls l)[i * 2]? = some (.int .u16 x.1) ∧ (fls l)[i * 2 + 1]? = some (.int .u8 (x.2 : Int)) := by
  induction l generalizing i with
  | nil => simp at h
  | cons y l ih =>
    have e : fls (y :: l) = .int .u16 y.1 :: .int .u8 (y.2 : Int) :: fls l := rfl
    rw [e]
    cases i with
    | zero => simp at h; subst h; exact ⟨rfl, rfl⟩
    | succ i =>
      have := ih i (by simpa using h)
      rw [show (i + 1) * 2 = i * 2 + 1 + 1 from by omega]
      exact ⟨by simpa using this.1, by simpa using this.2⟩

/-- What a node's errors are. -/
structure ES where
  A : Int
  I : Int
  st : List (Int × Nat)
  hs : List Int
  ln : Nat
  ws : List Wt
  told : Bool
  due : Int
/-- With bits, not their numbers. -/
def msk (l : List (Int × Nat)) : Mp := l.map fun x => (x.1, ((2 ^ x.2 : Nat) : Int))
def ES.reg (S : ES) : Nat := regN (S.st.map fun x => 2 ^ x.2)
/-- Does one stand? -/
def ES.has (S : ES) (c : Int) : Bool := (lookM (msk S.st) c).isSome
structure ES.Ok (S : ES) : Prop where
  a0 : 1 ≤ S.A
  a1 : S.A ≤ 127
  i0 : 0 ≤ S.I
  i1 : S.I ≤ 1099511627776
  s16 : S.st.length ≤ 16
  bit : ∀ x ∈ S.st, x.2 < 8
  h16 : S.hs.length = 16
  l16 : S.ln ≤ 16
  w16 : S.ws.length ≤ 16
  wok : ∀ x ∈ S.ws, x.Ok
  d0 : 0 ≤ S.due
  d1 : S.due ≤ 2199023255552
  dn : S.told = false → S.due = 0
theorem ES.reg_lt (S : ES) (h : S.Ok) : S.reg < 256 := regN_lt _ (by
  intro b hb
  obtain ⟨x, hx, rfl⟩ := List.mem_map.1 hb
  exact pow_lt (h.bit x hx))
/-- The program's cells. -/
def esC (S : ES) (m : Nat) (v : Value) : List Value := [.int .u8 S.A, .int .i64 S.I, .map (some m)] ++ S.hs.map (Value.int .u32) ++ [.int .i64 (S.ln : Int), v, .int .i64 S.due]
theorem esC_len (S : ES) (m : Nat) (v : Value) (h : S.hs.length = 16) : (esC S m v).length = 22 := by simp [esC, h]
theorem esC_h (S : ES) (m : Nat) (v : Value) (j : Nat) (hj : j < S.hs.length) : (esC S m v)[3 + j]? = some (.int .u32 (S.hs.getD j 0)) := by
  unfold esC
  rw [List.append_assoc, List.getElem?_append_right (by simp), List.getElem?_append_left (by simp; omega)]
  simp [hj, List.getD_eq_getElem?_getD]
theorem esC_19 (S : ES) (m : Nat) (v : Value) (h : S.hs.length = 16) : (esC S m v)[19]? = some (.int .i64 (S.ln : Int)) ∧ (esC S m v)[20]? = some v ∧ (esC S m v)[21]? = some (.int .i64 S.due) := by
  unfold esC
  refine ⟨?_, ?_, ?_⟩ <;> (rw [List.getElem?_append_right (by simp [h])]; simp [h])
/-- The program's errors in memory. -/
structure IsE (w : World) (p m : Nat) (v : Value) (S : ES) : Prop where
  head : w.heap[p]? = some (.cells (esC S m v).toArray 66 (0, 0))
  map : IsM w m (msk S.st)
  row : Own w 40 11 v S.ws.length (flw S.A S.ws)
  ok : S.Ok
theorem IsE.cell {w : World} {p m : Nat} {v : Value} {S : ES} (h : IsE w p m v S) (j : Nat) (u : Value) (hu : (esC S m v)[j]? = some u) : w.cell? ⟨p, j, none⟩ = some u := by
  rw [cell_of_row w p j _ _ _ h.head]; simpa using hu
theorem IsE.c0 {w : World} {p m : Nat} {v : Value} {S : ES} (h : IsE w p m v S) : w.cell? ⟨p, 0, none⟩ = some (.int .u8 S.A) := h.cell 0 _ rfl
theorem IsE.c1 {w : World} {p m : Nat} {v : Value} {S : ES} (h : IsE w p m v S) : w.cell? ⟨p, 1, none⟩ = some (.int .i64 S.I) := h.cell 1 _ rfl
theorem IsE.c2 {w : World} {p m : Nat} {v : Value} {S : ES} (h : IsE w p m v S) : w.cell? ⟨p, 2, none⟩ = some (.map (some m)) := h.cell 2 _ rfl
theorem IsE.c19 {w : World} {p m : Nat} {v : Value} {S : ES} (h : IsE w p m v S) : w.cell? ⟨p, 19, none⟩ = some (.int .i64 (S.ln : Int)) := h.cell 19 _ (esC_19 S m v h.ok.h16).1
theorem IsE.c20 {w : World} {p m : Nat} {v : Value} {S : ES} (h : IsE w p m v S) : w.cell? ⟨p, 20, none⟩ = some v := h.cell 20 _ (esC_19 S m v h.ok.h16).2.1
theorem IsE.c21 {w : World} {p m : Nat} {v : Value} {S : ES} (h : IsE w p m v S) : w.cell? ⟨p, 21, none⟩ = some (.int .i64 S.due) := h.cell 21 _ (esC_19 S m v h.ok.h16).2.2
theorem IsE.fz {w : World} {p m : Nat} {v : Value} {S : ES} (h : IsE w p m v S) (j : Nat) : w.frozen? ⟨p, j, none⟩ = false := froz11 w p j _ _ h.head
theorem IsE.lt {w : World} {p m : Nat} {v : Value} {S : ES} (h : IsE w p m v S) : p < w.heap.size := lt_of_heap h.head
/-- The blocks that it is in. -/
abbrev fpE (p m : Nat) (v : Value) : List Nat := p :: m :: v.ownBlock.toList
theorem IsE.same {w w' : World} {p m : Nat} {v : Value} {S : ES} (h : IsE w p m v S) (hb : ∀ k ∈ fpE p m v, w'.heap[k]? = w.heap[k]?) : IsE w' p m v S :=
  ⟨(hb p (by simp)).trans h.head, h.map.same (hb m (by simp)), h.row.same (fun g hg => hb g (by simp [hg])), h.ok⟩
theorem IsE.inh {w : World} {p m : Nat} {v : Value} {S : ES} (h : IsE w p m v S) : ∀ k ∈ fpE p m v, k < w.heap.size := by
  intro k hk
  simp only [List.mem_cons, Option.mem_toList] at hk
  rcases hk with rfl | rfl | hk
  · exact h.lt
  · exact h.map.lt
  · exact h.row.lt k hk
theorem IsE.next {w w' : World} {p m : Nat} {v : Value} {S : ES} (h : IsE w p m v S) (hb : Below w.heap.size w w') : IsE w' p m v S := h.same fun k hk => hb.block k (h.inh k hk)
theorem IsE.kp {w w' : World} {T : List Nat} {p m : Nat} {v : Value} {S : ES} (h : IsE w p m v S) (hb : Kp T w w') (hT : ∀ k ∈ fpE p m v, k ∉ T) : IsE w' p m v S := h.same fun k hk => hb.block k (h.inh k hk) (hT k hk)
theorem IsE.pm {w : World} {p m : Nat} {v : Value} {S : ES} (h : IsE w p m v S) : p ≠ m := by
  rintro rfl
  obtain ⟨es, c, h2, _⟩ := h.map
  have := h.head.symm.trans h2
  simp at this
theorem IsE.pv {w : World} {p m : Nat} {v : Value} {S : ES} (h : IsE w p m v S) : v.ownBlock ≠ some p ∧ v.ownBlock ≠ some m := by
  rcases h.row with ⟨h1, _⟩ | ⟨g, o, cap, rfl, h1⟩
  · rw [h1]; exact ⟨by simp [Value.ownBlock], by simp [Value.ownBlock]⟩
  · obtain ⟨cur, c1, _⟩ := h1.cur
    constructor
    · intro e
      simp [Value.ownBlock] at e; subst e
      have := c1.symm.trans h.head
      simp at this
    · intro e
      simp [Value.ownBlock] at e; subst e
      obtain ⟨es, c, h2, _⟩ := h.map
      have := c1.symm.trans h2
      simp at this

/-- The document's errors in memory. -/
structure IsD (w : World) (q : Nat) (sv fv wv : Value) (S : ES) (at_ : Int) : Prop where
  head : w.heap[q]? = some (.cells #[.int .u8 S.A, .int .i64 S.I, sv, fv, wv, .bool S.told, .int .i64 at_] 69 (0, 0))
  st : Own w 77 2 sv S.st.length (fls S.st)
  fs : Own w 52 1 fv S.ln ((S.hs.take S.ln).map (Value.int .u32))
  ws : Own w 40 11 wv S.ws.length (flw S.A S.ws)
  ok : S.Ok
  dt : S.told = true → S.due = at_ + S.I
  a0 : 0 ≤ at_
  a1 : at_ ≤ 1099511627776
abbrev fpD (q : Nat) (sv fv wv : Value) : List Nat := q :: (sv.ownBlock.toList ++ fv.ownBlock.toList ++ wv.ownBlock.toList)
theorem IsD.cell {w : World} {q : Nat} {sv fv wv : Value} {S : ES} {t : Int} (h : IsD w q sv fv wv S t) (j : Nat) (u : Value) (hu : (#[.int .u8 S.A, .int .i64 S.I, sv, fv, wv, .bool S.told, .int .i64 t] : Array Value)[j]? = some u) : w.cell? ⟨q, j, none⟩ = some u := by
  rw [cell_of_row w q j _ _ _ h.head]; exact hu
theorem IsD.fz {w : World} {q : Nat} {sv fv wv : Value} {S : ES} {t : Int} (h : IsD w q sv fv wv S t) (j : Nat) : w.frozen? ⟨q, j, none⟩ = false := froz11 w q j _ _ h.head
theorem IsD.lt {w : World} {q : Nat} {sv fv wv : Value} {S : ES} {t : Int} (h : IsD w q sv fv wv S t) : q < w.heap.size := lt_of_heap h.head
theorem IsD.same {w w' : World} {q : Nat} {sv fv wv : Value} {S : ES} {t : Int} (h : IsD w q sv fv wv S t) (hb : ∀ k ∈ fpD q sv fv wv, w'.heap[k]? = w.heap[k]?) : IsD w' q sv fv wv S t :=
  ⟨(hb q (by simp)).trans h.head, h.st.same (fun g hg => hb g (by simp [hg])), h.fs.same (fun g hg => hb g (by simp [hg])), h.ws.same (fun g hg => hb g (by simp [hg])), h.ok, h.dt, h.a0, h.a1⟩
theorem IsD.inh {w : World} {q : Nat} {sv fv wv : Value} {S : ES} {t : Int} (h : IsD w q sv fv wv S t) : ∀ k ∈ fpD q sv fv wv, k < w.heap.size := by
  intro k hk
  simp only [List.mem_cons, List.mem_append, Option.mem_toList] at hk
  rcases hk with rfl | (hk | hk) | hk
  · exact h.lt
  · exact h.st.lt k hk
  · exact h.fs.lt k hk
  · exact h.ws.lt k hk
theorem IsD.next {w w' : World} {q : Nat} {sv fv wv : Value} {S : ES} {t : Int} (h : IsD w q sv fv wv S t) (hb : Below w.heap.size w w') : IsD w' q sv fv wv S t := h.same fun k hk => hb.block k (h.inh k hk)
theorem IsD.kp {w w' : World} {T : List Nat} {q : Nat} {sv fv wv : Value} {S : ES} {t : Int} (h : IsD w q sv fv wv S t) (hb : Kp T w w') (hT : ∀ k ∈ fpD q sv fv wv, k ∉ T) : IsD w' q sv fv wv S t := h.same fun k hk => hb.block k (h.inh k hk) (hT k hk)
/-- A row's block holds elements of its type. -/
theorem Own.blk {w : World} {e : TypeId} {k n : Nat} {v : Value} {xs : List Value} (h : Own w e k v n xs) (g : Nat) (hg : v.ownBlock = some g) : ∃ cur : Array Value, w.heap[g]? = some (.cells cur e (0, 0)) := by
  rcases h with ⟨rfl, _⟩ | ⟨g', o, cap, rfl, h⟩
  · cases hg
  · cases hg
    obtain ⟨cur, c1, _⟩ := h.cur
    exact ⟨cur, c1⟩
/-- Blocks of other elements are others. -/
theorem Own.ne {w : World} {e : TypeId} {k n : Nat} {v : Value} {xs : List Value} (h : Own w e k v n xs) {b : Nat} {cs : Array Value} {T : TypeId} (hb : w.heap[b]? = some (.cells cs T (0, 0))) (hT : T ≠ e) : v.ownBlock ≠ some b := by
  intro hg
  obtain ⟨cur, h1⟩ := h.blk b hg
  have := h1.symm.trans hb
  simp at this
  exact hT this.2.symm
#print axioms IsE.pv
#print axioms IsD.same
end Go.Proofs.Ytnbdnmfnmnboiaa
