/-
  The dictionary of layer 12's example.
-/
import Derived.Test.YtcdmldnaagiicaaDoorGj
namespace Go.Proofs.YtcdmldnaagiicaaDoor
open Go.RowKit

/-- Bytes that lie elsewhere. -/
def Fa8 (w : World) (S : List Nat) (a : Option Addr) (len cap : Nat) (zs : List Int) : Prop := SlOk w a len cap zs ∧ (0 < len → ∀ b off, a = some ⟨b, off, none⟩ → b ∉ S)
theorem Fa8.next {w w' : World} {S : List Nat} {a : Option Addr} {len cap : Nat} {zs : List Int} (h : Fa8 w S a len cap zs) (hb : Below w.heap.size w w') : Fa8 w' S a len cap zs := ⟨h.1.next hb, h.2⟩
theorem Fa8.kp {w w' : World} {S : List Nat} {a : Option Addr} {len cap : Nat} {zs : List Int} (h : Fa8 w S a len cap zs) (hb : Kp S w w') : Fa8 w' S a len cap zs := ⟨⟨h.1.row.kps hb h.2, h.1.le, h.1.max⟩, h.2⟩
/-- Where an entry's bytes lie. -/
structure Q12 where
  d : Option Addr
  cd : Nat
  l : Option Addr
  cl : Nat
  h : Option Addr
  ch : Nat
  v : Option Addr
  cv : Nat
/-- An entry's bytes. -/
structure EQ (w : World) (S : List Nat) (ln : Nat) (zd z : List Int) (q : Q12) : Prop where
  d : Fa8 w S q.d ln q.cd zd
  l : Fa8 w S q.l 0 q.cl []
  h : Fa8 w S q.h 0 q.ch []
  v : Fa8 w S q.v ln q.cv z
theorem EQ.next {w w' : World} {S : List Nat} {ln : Nat} {zd z : List Int} {q : Q12} (h : EQ w S ln zd z q) (hb : Below w.heap.size w w') : EQ w' S ln zd z q := ⟨h.d.next hb, h.l.next hb, h.h.next hb, h.v.next hb⟩
theorem EQ.kp {w w' : World} {S : List Nat} {ln : Nat} {zd z : List Int} {q : Q12} (h : EQ w S ln zd z q) (hb : Kp S w w') : EQ w' S ln zd z q := ⟨h.d.kp hb, h.l.kp hb, h.h.kp hb, h.v.kp hb⟩
abbrev ls12 (q1 q2 q3 : Q12) : Mp := [(24576, 1, .agg (itC 24576 1 ⟨#[]⟩ 5 7 q1.d 1 q1.cd q1.l 0 q1.cl q1.h 0 q1.ch 0 0 q1.v 1 q1.cv)), (24576, 2, .agg (itC 24576 2 ⟨#[]⟩ 1 7 q2.d 1 q2.cd q2.l 0 q2.cl q2.h 0 q2.ch 0 0 q2.v 1 q2.cv)), (24576, 3, .agg (itC 24576 3 ⟨#[]⟩ 3 7 q3.d 2 q3.cd q3.l 0 q3.cl q3.h 0 q3.ch 0 0 q3.v 2 q3.cv))]
structure T8 (w : World) (p m : Nat) (cg : Int) (z1 z2 z3 : List Int) (q1 q2 q3 : Q12) : Prop where
  h : w.heap[p]? = some (.cells #[.map (some m), .int .i64 cg] 58 (0, 0))
  mm : IsM w m (ls12 q1 q2 q3)
  e1 : EQ w [p, m] 1 [3] z1 q1
  e2 : EQ w [p, m] 1 [1] z2 q2
  e3 : EQ w [p, m] 2 [254, 255] z3 q3
  ne : p ≠ m
  tb : Ty.Tab64 w
  old : 1 < p ∧ 1 < m
abbrev T12 (w : World) (p m : Nat) (cg : Int) (z1 z2 z3 : List Int) : Prop := ∃ q1 q2 q3, T8 w p m cg z1 z2 z3 q1 q2 q3
theorem T12.next {w w' : World} {p m : Nat} {cg : Int} {z1 z2 z3 : List Int} (h : T12 w p m cg z1 z2 z3) (hb : Below w.heap.size w w') : T12 w' p m cg z1 z2 z3 := by
  obtain ⟨q1, q2, q3, h⟩ := h
  exact ⟨q1, q2, q3, blk11 hb h.h, h.mm.next hb, h.e1.next hb, h.e2.next hb, h.e3.next hb, h.ne, tab_next h.tb hb, h.old⟩
theorem T12.lt {w : World} {p m : Nat} {cg : Int} {z1 z2 z3 : List Int} (h : T12 w p m cg z1 z2 z3) : p < w.heap.size ∧ m < w.heap.size := by
  obtain ⟨q1, q2, q3, h⟩ := h
  exact ⟨lt_of_heap h.h, h.mm.lt⟩
theorem exNew12 (w : World) (ge : Nat) (a1 : Option Addr) (c1 : Nat) (a2 : Option Addr) (c2 : Nat) (a3 : Option Addr) (c3 : Nat) (s1 : SlOk w a1 1 c1 [3]) (s2 : SlOk w a2 1 c2 [1]) (s3 : SlOk w a3 2 c3 [254, 255]) (hat : ∀ k e, (exE12 a1 c1 a2 c2 a3 c3)[k]? = some e → EmAt w ge k e) (hT : Ty.Tab64 w) :
    Calls Tryd.prog 6 #[.slice (some ⟨ge, 0, none⟩) 3 3] w fun e w1 => ∃ p m, e = .returned (.tuple #[.pointer (some ⟨p, 0, none⟩), .int .i64 0]) ∧ Below w.heap.size w w1 ∧ w.heap.size ≤ p ∧ w.heap.size ≤ m ∧ T12 w1 p m 0 [3] [1] [254, 255] := by
  have hok : ∀ e ∈ exE12 a1 c1 a2 c2 a3 c3, EmOk w e := by
    have rn := slOk_nil w
    intro e he
    simp only [exE12, List.mem_cons, List.not_mem_nil, or_false] at he
    rcases he with rfl | rfl | rfl
    · exact ⟨s1, rn, rn, by dsimp only; decide, by dsimp only; decide, by dsimp only; decide, by dsimp only; decide, by dsimp only; decide, by dsimp only; decide, by dsimp only; decide, by dsimp only; decide +kernel, by dsimp only; decide +kernel, by dsimp only; decide +kernel⟩
    · exact ⟨s2, rn, rn, by dsimp only; decide, by dsimp only; decide, by dsimp only; decide, by dsimp only; decide, by dsimp only; decide, by dsimp only; decide, by dsimp only; decide, by dsimp only; decide +kernel, by dsimp only; decide +kernel, by dsimp only; decide +kernel⟩
    · exact ⟨s3, rn, rn, by dsimp only; decide, by dsimp only; decide, by dsimp only; decide, by dsimp only; decide, by dsimp only; decide, by dsimp only; decide, by dsimp only; decide, by dsimp only; decide +kernel, by dsimp only; decide +kernel, by dsimp only; decide +kernel⟩
  have hdis : ∀ (k : Nat) (e : Em), (exE12 a1 c1 a2 c2 a3 c3)[k]? = some e → ∀ e' ∈ (exE12 a1 c1 a2 c2 a3 c3).take k, ¬ (e.i = e'.i ∧ e.s = e'.s) := by
    intro k e he
    rcases k with _ | _ | _ | k
    case succ.succ.succ => simp [exE12] at he
    all_goals
      simp only [exE12, List.getElem?_cons_zero, List.getElem?_cons_succ, Option.some.injEq] at he
      subst he
      simp [exE12]
  refine (new_at ge 3 (exE12 a1 c1 a2 c2 a3 c3) w (by simp [exE12]) hok hat hdis hT).mono ?_
  rintro r w1 ⟨lst, rfl, hb, hd, hm, hB⟩
  obtain ⟨x1, k1, x2, k2, x3, k3, u1, n1, j1, g1, b1, b2, b3, b4⟩ := hB.2 0 _ (show (exE12 a1 c1 a2 c2 a3 c3)[0]? = some _ from rfl)
  obtain ⟨y1, l1, y2, l2, y3, l3, u2, n2, j2, g2, d1, d2, d3, d4⟩ := hB.2 1 _ (show (exE12 a1 c1 a2 c2 a3 c3)[1]? = some _ from rfl)
  obtain ⟨v1, m1, v2, m2, v3, m3, u3, n3, j3, g3, f1, f2, f3, f4⟩ := hB.2 2 _ (show (exE12 a1 c1 a2 c2 a3 c3)[2]? = some _ from rfl)
  dsimp only at g1 b1 b2 b3 b4 g2 d1 d2 d3 d4 g3 f1 f2 f3 f4
  rw [show firstL 5 [3] = [3] from by decide +kernel] at b4
  rw [show firstL 1 [1] = [1] from by decide +kernel] at d4
  rw [show firstL 3 [254, 255] = [254, 255] from by decide +kernel] at f4
  obtain rfl : n1 = 1 := b4.1.row.size.symm
  obtain rfl : n2 = 1 := d4.1.row.size.symm
  obtain rfl : n3 = 2 := f4.1.row.size.symm
  have hl : lst = ls12 ⟨x1, k1, x2, k2, x3, k3, u1, j1⟩ ⟨y1, l1, y2, l2, y3, l3, u2, j2⟩ ⟨v1, m1, v2, m2, v3, m3, u3, j3⟩ := by
    have h2 := hB.1
    rcases lst with _ | ⟨x, _ | ⟨y, _ | ⟨z, _ | ⟨u, t⟩⟩⟩⟩
    · simp at g1
    · simp at g2
    · simp at g3
    · simp only [List.getElem?_cons_zero, List.getElem?_cons_succ, Option.some.injEq] at g1 g2 g3
      rw [g1, g2, g3]
    · simp [exE12] at h2
  subst hl
  have old := hT.old
  have far : ∀ {a : Option Addr} {len cap : Nat} {zs : List Int}, Kept w1 (w.heap.size + 2) a len cap zs → Fa8 w1 [w.heap.size + 1, w.heap.size] a len cap zs := fun k => ⟨k.1, fun hl b off e => by
    have h1 := k.2 hl b off e
    simp
    omega⟩
  exact ⟨w.heap.size + 1, w.heap.size, rfl, hb, by omega, by omega, _, _, _, hd, hm, ⟨far b1, far b2, far b3, far b4⟩, ⟨far d1, far d2, far d3, far d4⟩, ⟨far f1, far f2, far f3, far f4⟩, by omega, hT.below hb hT.old, by omega, by omega⟩
theorem r12a (out : Bool) : (bits .and .u8 7 (rgt out) == 0) = false := by cases out <;> decide +kernel
theorem r12b : (bits .and .u8 7 4 != 0) = true := by decide +kernel
theorem r12c : (bits .and .u8 7 1 != 0) = true := by decide +kernel
theorem r12d : (bits .and .u8 7 2 != 0) = true := by decide +kernel
theorem mp12 {w : World} {p m : Nat} {cg : Int} {z1 z2 z3 : List Int} {q1 q2 q3 : Q12} (h : T8 w p m cg z1 z2 z3 q1 q2 q3) (out : Bool) : ∀ x ∈ ms12, MpOk w (ls12 q1 q2 q3) out x := by
  intro x hx
  simp only [ms12, List.mem_cons, List.not_mem_nil, or_false] at hx
  rcases hx with rfl | rfl | rfl
  · exact ⟨_, _, _, _, _, _, _, _, _, _, _, _, _, _, _, _, _, _, _, _, rfl, h.e1.d.1, h.e1.l.1, h.e1.h.1, by decide, by decide, by decide, by decide, by decide, r12b, by decide +kernel, r12a out⟩
  · exact ⟨_, _, _, _, _, _, _, _, _, _, _, _, _, _, _, _, _, _, _, _, rfl, h.e2.d.1, h.e2.l.1, h.e2.h.1, by decide, by decide, by decide, by decide, by decide, r12b, by decide +kernel, r12a out⟩
  · exact ⟨_, _, _, _, _, _, _, _, _, _, _, _, _, _, _, _, _, _, _, _, rfl, h.e3.d.1, h.e3.l.1, h.e3.h.1, by decide, by decide, by decide, by decide, by decide, r12b, by decide +kernel, r12a out⟩
/-- The values. -/
def val12 (z1 z2 z3 : List Int) (_ s : Int) : List Int := if s = 1 then z1 else if s = 2 then z2 else z3
theorem va12 {w : World} {p m : Nat} {cg : Int} {z1 z2 z3 : List Int} {q1 q2 q3 : Q12} (h : T8 w p m cg z1 z2 z3 q1 q2 q3) : ∀ x ∈ ms12, VaOk w (ls12 q1 q2 q3) (val12 z1 z2 z3) x := by
  intro x hx
  simp only [ms12, List.mem_cons, List.not_mem_nil, or_false] at hx
  rcases hx with rfl | rfl | rfl
  · exact ⟨_, _, _, _, _, _, _, _, _, _, _, _, _, _, _, _, _, rfl, h.e1.v.1, by decide, by decide, r12c⟩
  · exact ⟨_, _, _, _, _, _, _, _, _, _, _, _, _, _, _, _, _, rfl, h.e2.v.1, by decide, by decide, r12c⟩
  · exact ⟨_, _, _, _, _, _, _, _, _, _, _, _, _, _, _, _, _, rfl, h.e3.v.1, by decide, by decide, r12c⟩
theorem row_block {W : World} {g : Nat} {zs : List Int} (h : W.heap[g]? = some (.cells (zs.map (Value.int .u8)).toArray 5 (0, 0))) (ho : Oct zs) (hl : zs.length ≤ maxLen) : SlOk W (some ⟨g, 0, none⟩) zs.length zs.length zs :=
  ⟨⟨rfl, ho, fun _ => ⟨g, 0, rfl, fun i hi => by
    rw [Nat.zero_add, cell_of_row W _ _ _ _ _ h]
    simp [List.getD_eq_getElem?_getD, hi]⟩⟩, Nat.le_refl _, hl⟩
theorem T12.get3 {w : World} {p m : Nat} {cg : Int} {z1 z2 z3 : List Int} (h : T12 w p m cg z1 z2 z3) : Calls Tryd.prog 12 #[.pointer (some ⟨p, 0, none⟩), plV 24576 3] w fun e w' => (∃ a' cap', e = .returned (.tuple #[.slice a' 2 cap', .bool true]) ∧ Told w w' a' 2 cap' z3) ∧ Below w.heap.size w w' := by
  obtain ⟨q1, q2, q3, h⟩ := h
  exact get_at p m cg _ 24576 3 ⟨#[]⟩ 3 7 q3.d 2 q3.cd q3.l 0 q3.cl q3.h 0 q3.ch 0 0 q3.v 2 q3.cv z3 w h.h h.mm rfl h.e3.v.1 (by decide)
theorem c12_1 : Ty.chkN 5 [5] [] [] = 0 := by decide +kernel
theorem T12.may1 {w : World} {p m : Nat} {cg : Int} {z1 z2 z3 : List Int} (h : T12 w p m cg z1 z2 z3) (b : Option Addr) (rb : SlOk w b 1 1 [5]) : Calls Tryd.prog 13 #[.pointer (some ⟨p, 0, none⟩), plV 24576 1, .slice b 1 1] w fun e w' => e = .returned (.tuple #[.int .u8 0, .int .u32 0]) ∧ Below w.heap.size w w' := by
  obtain ⟨q1, q2, q3, h⟩ := h
  exact may_at p m cg _ 24576 1 ⟨#[]⟩ 5 7 q1.d 1 q1.cd q1.l 0 q1.cl q1.h 0 q1.ch 0 0 q1.v 1 q1.cv b 1 1 [5] [] [] w h.h h.mm rfl rb h.e1.l.1 h.e1.h.1 h.tb r12d c12_1
theorem T12.put1 {w : World} {p m : Nat} {cg : Int} {z1 z2 z3 : List Int} (h : T12 w p m cg z1 z2 z3) (h0 : 0 ≤ cg) (h1 : cg < 1000) (b : Option Addr) (rb : SlOk w b 1 1 [5]) : Calls Tryd.prog 7 #[.pointer (some ⟨p, 0, none⟩), plV 24576 1, .slice b 1 1] w fun e w' => e = .returned (.int .u32 0) ∧ T12 w' p m (cg + 1) [5] z2 z3 ∧ Kp [p, m] w w' := by
  obtain ⟨q1, q2, q3, h⟩ := h
  refine (write_at p m cg _ 24576 1 ⟨#[]⟩ 5 7 q1.d 1 q1.cd q1.l 0 q1.cl q1.h 0 q1.ch 0 0 q1.v 1 q1.cv b 1 1 [5] [] [] w h.h h.mm rfl rb h.e1.l.1 h.e1.h.1 h.tb r12d c12_1 (by decide) h0 (by omega) h.ne).mono ?_
  rintro e w' ⟨rfl, a', c', k, hh, hm, ht⟩
  have lp := lt_of_heap h.h
  have lm := h.mm.lt
  have hv : Fa8 w' [p, m] a' 1 c' [5] := ⟨⟨ht.row, ht.le, ht.max⟩, fun hl b off e => by
    obtain ⟨g, hg, hge, _⟩ := ht.own hl
    rw [e] at hg
    cases hg
    simp
    omega⟩
  have tb : Ty.Tab64 w' := fun j hj => by
    have hc := h.tb j hj
    have old := h.old
    rw [World.cell?_of_block (w := w) (k.block _ h.tb.old (by simp; omega))]
    exact hc
  have e1 := h.e1.kp k
  have e2 := h.e2.kp k
  have e3 := h.e3.kp k
  exact ⟨rfl, ⟨⟨q1.d, q1.cd, q1.l, q1.cl, q1.h, q1.ch, a', c'⟩, q2, q3, hh, hm, ⟨e1.d, e1.l, e1.h, hv⟩, e2, e3, h.ne, tb, h.old⟩, k⟩
theorem c12_2 : Ty.chkN 1 [0] [] [] = 0 := by decide +kernel
theorem T12.may2 {w : World} {p m : Nat} {cg : Int} {z1 z2 z3 : List Int} (h : T12 w p m cg z1 z2 z3) (b : Option Addr) (rb : SlOk w b 1 1 [0]) : Calls Tryd.prog 13 #[.pointer (some ⟨p, 0, none⟩), plV 24576 2, .slice b 1 1] w fun e w' => e = .returned (.tuple #[.int .u8 0, .int .u32 0]) ∧ Below w.heap.size w w' := by
  obtain ⟨q1, q2, q3, h⟩ := h
  exact may_at p m cg _ 24576 2 ⟨#[]⟩ 1 7 q2.d 1 q2.cd q2.l 0 q2.cl q2.h 0 q2.ch 0 0 q2.v 1 q2.cv b 1 1 [0] [] [] w h.h h.mm rfl rb h.e2.l.1 h.e2.h.1 h.tb r12d c12_2
theorem T12.put2 {w : World} {p m : Nat} {cg : Int} {z1 z2 z3 : List Int} (h : T12 w p m cg z1 z2 z3) (h0 : 0 ≤ cg) (h1 : cg < 1000) (b : Option Addr) (rb : SlOk w b 1 1 [0]) : Calls Tryd.prog 7 #[.pointer (some ⟨p, 0, none⟩), plV 24576 2, .slice b 1 1] w fun e w' => e = .returned (.int .u32 0) ∧ T12 w' p m (cg + 1) z1 [0] z3 ∧ Kp [p, m] w w' := by
  obtain ⟨q1, q2, q3, h⟩ := h
  refine (write_at p m cg _ 24576 2 ⟨#[]⟩ 1 7 q2.d 1 q2.cd q2.l 0 q2.cl q2.h 0 q2.ch 0 0 q2.v 1 q2.cv b 1 1 [0] [] [] w h.h h.mm rfl rb h.e2.l.1 h.e2.h.1 h.tb r12d c12_2 (by decide) h0 (by omega) h.ne).mono ?_
  rintro e w' ⟨rfl, a', c', k, hh, hm, ht⟩
  have lp := lt_of_heap h.h
  have lm := h.mm.lt
  have hv : Fa8 w' [p, m] a' 1 c' [0] := ⟨⟨ht.row, ht.le, ht.max⟩, fun hl b off e => by
    obtain ⟨g, hg, hge, _⟩ := ht.own hl
    rw [e] at hg
    cases hg
    simp
    omega⟩
  have tb : Ty.Tab64 w' := fun j hj => by
    have hc := h.tb j hj
    have old := h.old
    rw [World.cell?_of_block (w := w) (k.block _ h.tb.old (by simp; omega))]
    exact hc
  have e1 := h.e1.kp k
  have e2 := h.e2.kp k
  have e3 := h.e3.kp k
  exact ⟨rfl, ⟨q1, ⟨q2.d, q2.cd, q2.l, q2.cl, q2.h, q2.ch, a', c'⟩, q3, hh, hm, e1, ⟨e2.d, e2.l, e2.h, hv⟩, e3, h.ne, tb, h.old⟩, k⟩
theorem c12_3 : Ty.chkN 3 [1, 0] [] [] = 0 := by decide +kernel
theorem T12.may3 {w : World} {p m : Nat} {cg : Int} {z1 z2 z3 : List Int} (h : T12 w p m cg z1 z2 z3) (b : Option Addr) (rb : SlOk w b 2 2 [1, 0]) : Calls Tryd.prog 13 #[.pointer (some ⟨p, 0, none⟩), plV 24576 3, .slice b 2 2] w fun e w' => e = .returned (.tuple #[.int .u8 0, .int .u32 0]) ∧ Below w.heap.size w w' := by
  obtain ⟨q1, q2, q3, h⟩ := h
  exact may_at p m cg _ 24576 3 ⟨#[]⟩ 3 7 q3.d 2 q3.cd q3.l 0 q3.cl q3.h 0 q3.ch 0 0 q3.v 2 q3.cv b 2 2 [1, 0] [] [] w h.h h.mm rfl rb h.e3.l.1 h.e3.h.1 h.tb r12d c12_3
theorem T12.put3 {w : World} {p m : Nat} {cg : Int} {z1 z2 z3 : List Int} (h : T12 w p m cg z1 z2 z3) (h0 : 0 ≤ cg) (h1 : cg < 1000) (b : Option Addr) (rb : SlOk w b 2 2 [1, 0]) : Calls Tryd.prog 7 #[.pointer (some ⟨p, 0, none⟩), plV 24576 3, .slice b 2 2] w fun e w' => e = .returned (.int .u32 0) ∧ T12 w' p m (cg + 1) z1 z2 [1, 0] ∧ Kp [p, m] w w' := by
  obtain ⟨q1, q2, q3, h⟩ := h
  refine (write_at p m cg _ 24576 3 ⟨#[]⟩ 3 7 q3.d 2 q3.cd q3.l 0 q3.cl q3.h 0 q3.ch 0 0 q3.v 2 q3.cv b 2 2 [1, 0] [] [] w h.h h.mm rfl rb h.e3.l.1 h.e3.h.1 h.tb r12d c12_3 (by decide) h0 (by omega) h.ne).mono ?_
  rintro e w' ⟨rfl, a', c', k, hh, hm, ht⟩
  have lp := lt_of_heap h.h
  have lm := h.mm.lt
  have hv : Fa8 w' [p, m] a' 2 c' [1, 0] := ⟨⟨ht.row, ht.le, ht.max⟩, fun hl b off e => by
    obtain ⟨g, hg, hge, _⟩ := ht.own hl
    rw [e] at hg
    cases hg
    simp
    omega⟩
  have tb : Ty.Tab64 w' := fun j hj => by
    have hc := h.tb j hj
    have old := h.old
    rw [World.cell?_of_block (w := w) (k.block _ h.tb.old (by simp; omega))]
    exact hc
  have e1 := h.e1.kp k
  have e2 := h.e2.kp k
  have e3 := h.e3.kp k
  exact ⟨rfl, ⟨q1, q2, ⟨q3.d, q3.cd, q3.l, q3.cl, q3.h, q3.ch, a', c'⟩, hh, hm, e1, e2, ⟨e3.d, e3.l, e3.h, hv⟩, h.ne, tb, h.old⟩, k⟩
#print axioms T12.put3
#print axioms exNew12
end Go.Proofs.YtcdmldnaagiicaaDoor
