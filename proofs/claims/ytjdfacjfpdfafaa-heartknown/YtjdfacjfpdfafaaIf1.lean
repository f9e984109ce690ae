/-
  What each call of a watch does, both sides; rows of events, as they are told and written over.
-/
import Derived.Test.YtjdfacjfpdfafaaIf0
namespace Go.Proofs.Ytjdfacjfpdfafaa
open Go.RowKit

theorem Kp.keep {w w' : World} {r j : Nat} {C C' : Array Value} {T T' : TypeId} {f f' : Nat × Nat} (hk : Kp [r] w w') (hr : w.heap[r]? = some (.cells C T f)) (hj : w.heap[j]? = some (.cells C' T' f')) (hT : T' ≠ T) : w'.heap[j]? = some (.cells C' T' f') :=
  hk.at (by simp only [List.mem_singleton]; rintro rfl; rw [hr] at hj; cases hj; exact hT rfl) hj
theorem al_drew (X : World) (Z : Obj) : Below X.heap.size X.drew ((X.alloc Z).drew) := ⟨rfl, rfl, rfl, by show X.heap.size ≤ (X.alloc Z).heap.size; simp, fun k hk => Below.heap_alloc X Z k hk⟩
theorem Md.oth {w w' : World} {base p q r g : Nat} {S1 S2 : List Nd} {C : Array Value} {T : TypeId} {f : Nat × Nat} (h : Md w base p q r S1 S2) (hk : Kp [g] w w') (hg : w.heap[g]? = some (.cells C T f)) (h1 : T ≠ 81) (h2 : T ≠ 87) (h3 : T ≠ 84) (h4 : T ≠ 89) : Md w' base p q r S1 S2 := by
  obtain ⟨⟨P, a⟩, b, c, d⟩ := h
  exact ⟨⟨P, a.kp hk hg h1 h2⟩, b.same fun j C' T' f' hj hT => hk.keep hg hj (by rcases hT with rfl | rfl; exact fun e => h3 e.symm; exact fun e => h4 e.symm), c, d⟩
theorem Ox.cells {w : World} {B : Nat} {x : Ox} (h : w.heap[B]? = some (.cells x.A 51 (0, 0))) : w.cell? ⟨B, 0, none⟩ = some (.int .u8 x.k) ∧ w.cell? ⟨B, 1, none⟩ = some (.int .u8 x.nd) ∧ w.cell? ⟨B, 3, none⟩ = some (.int .i64 x.N) ∧ w.cell? ⟨B, 4, none⟩ = some (.int .i64 x.now) := by
  refine ⟨?_, ?_, ?_, ?_⟩ <;> (rw [cell_of_row w B _ _ _ _ h]; rfl)
theorem infoO : (Try.prog.info? 51).map (·.size) = some 16 := by kernel_rfl
theorem aggO (w : World) : (isAgg 51).run Try.prog w = .ok true w := by kernel_rfl
theorem loadO {w : World} {B : Nat} {x : Ox} (h : w.heap[B]? = some (.cells x.A 51 (0, 0))) : (loadVar 51 ⟨B, 0, none⟩).run Try.prog w = .ok (.agg x.A) w :=
  load_part 51 16 infoO aggO w B 0 x.A.toList 51 h (by simp)
theorem set_tw {p q r : Nat} {S : List Nd} (hz : Z0 S) (a W : Int) (ha : 0 ≤ a) : ∃ (rs : Int) (S' : List Nd), Z0 S' ∧
    (∀ w, Md w p p q r S S → p ≤ w.heap.size → Calls Try.prog 18 #[pt p, .int .u8 a, .int .i64 W] w fun e w' => e = .returned (.int .i64 rs) ∧ Md w' p p q r S' S ∧ Kt p w w') ∧
    (∀ w, Md w p p q r S' S → Calls Try.prog 19 #[pt q, .int .u8 a, .int .i64 W] w fun e w' => e = .returned (.int .i64 rs) ∧ Md w' p p q r S' S' ∧ Kp [r] w w') := by
  refine ⟨setC S a W, setL S a W, hz.setL a W, fun w h hp => ?_, fun w h => ?_⟩
  · obtain ⟨P, h1⟩ := h.w_
    refine (set_any h1 hp a W ha).mono ?_
    rintro e w' ⟨rfl, h2, h3⟩
    exact ⟨rfl, h.toW h2 h3, h3⟩
  · refine (rset_any h.d a W ha).mono ?_
    rintro e w' ⟨rfl, h2, h3⟩
    exact ⟨rfl, h.toD h2 h3, h3⟩
theorem eoV_tup (o : Option Ev) : ∃ (a k s : Int) (ok : Bool), eoV o = .tuple #[.agg (evA a k s), .bool ok] := by
  cases o with
  | none => exact ⟨0, 0, 0, false, rfl⟩
  | some e => exact ⟨e.n, e.k, e.s, true, rfl⟩
theorem hear_tw {p q r : Nat} {S : List Nd} (hz : Z0 S) (hok : ∀ x ∈ S, x.Ok) (f : Hx) (hi : 0 ≤ f.i ∧ f.i < 65536) (hd : 0 ≤ f.d0 ∧ f.d0 < 256) (now : Int) : ∃ (ea ek es : Int) (ok : Bool) (S' : List Nd), Z0 S' ∧
    (∀ w, Md w p p q r S S → Calls Try.prog 20 #[pt p, f.V, .int .i64 now] w fun e w' => e = .returned (.tuple #[.agg (evA ea ek es), .bool ok]) ∧ Md w' p p q r S' S ∧ Kt p w w') ∧
    (∀ w, Md w p p q r S' S → Calls Try.prog 22 #[pt q, f.V, .int .i64 now] w fun e w' => e = .returned (.tuple #[.agg (evA ea ek es), .bool ok]) ∧ Md w' p p q r S' S' ∧ Kp [r] w w') := by
  obtain ⟨ea, ek, es, ok, ht⟩ := eoV_tup (hearE S (btB f.i f.n f.d0 f.d1 f.d2 f.d3 f.d4 f.d5 f.d6 f.d7 f.r) f.i f.d0 now)
  refine ⟨ea, ek, es, ok, hearL S (btB f.i f.n f.d0 f.d1 f.d2 f.d3 f.d4 f.d5 f.d6 f.d7 f.r) f.i f.d0 now, hz.hear _ _, fun w h => ?_, fun w h => ?_⟩
  · obtain ⟨P, h1⟩ := h.w_
    refine (hear_any h1 f.i f.n f.d0 f.d1 f.d2 f.d3 f.d4 f.d5 f.d6 f.d7 f.r now hi hd).mono ?_
    rintro e w' ⟨rfl, h2, h3⟩
    exact ⟨by rw [ht], h.toW h2 h3, h3⟩
  · refine (rhear_any h.d hok f.i f.n f.d0 f.d1 f.d2 f.d3 f.d4 f.d5 f.d6 f.d7 f.r now hi).mono ?_
    rintro e w' ⟨rfl, h2, h3⟩
    exact ⟨by rw [ht], h.toD h2 h3, h3⟩
theorem tick_tw {p q r : Nat} {S : List Nd} (hz : Z0 S) (hok : ∀ x ∈ S, x.Ok) (now : Int) : ∃ (l : List Ev) (S' : List Nd), Z0 S' ∧ l.length ≤ 128 ∧
    (∀ w, Md w p p q r S S → Calls Try.prog 24 #[pt p, .int .i64 now] w fun e w' => ∃ v, e = .returned v ∧ IsEv w' v l ∧ (∀ g, v.ownBlock = some g → w.heap.size ≤ g) ∧ Md w' p p q r S' S ∧ Kt p w w') ∧
    (∀ w, Md w p p q r S' S → Calls Try.prog 25 #[pt q, .int .i64 now] w fun e w' => ∃ v, e = .returned v ∧ IsUv w' v l ∧ (∀ g, v.ownBlock = some g → w.heap.size ≤ g) ∧ Md w' p p q r S' S' ∧ Kp [r] w w') := by
  cases ht : tmB now with
  | false =>
    refine ⟨[], S, hz, by simp, fun w h => ?_, fun w h => ?_⟩
    · refine (wtick_bad p now ht w).mono ?_
      rintro e w' ⟨rfl, hb⟩
      exact ⟨_, rfl, own_nil _ _ _, (fun g hg => by cases hg), h.next hb, Kt.of hb⟩
    · refine (rtick_bad h.d now ht).mono ?_
      rintro e w' ⟨rfl, rfl⟩
      exact ⟨_, rfl, own_nil _ _ _, (fun g hg => by cases hg), h, Kp.refl _ _⟩
  | true =>
    refine ⟨evK now S 128, S.map (·.tick now), hz.tick now, evK_len now S 128, fun w h => ?_, fun w h => ?_⟩
    · obtain ⟨P, h1⟩ := h.w_
      refine (wtick_ok h1 now ht).mono ?_
      rintro e w' ⟨v, rfl, t⟩
      exact ⟨v, rfl, t.ev, t.own, h.toW ⟨P, t.st⟩ t.k, t.k⟩
    · refine (rtick_ok h.d hok now ht).mono ?_
      rintro e w' ⟨v, rfl, t⟩
      have d := t.d
      rw [tickK_all now h.d.sl] at d
      exact ⟨v, rfl, t.ev, t.own, h.toD d t.k, t.k⟩
/-- A row of events of which the first j count no more. -/
structure Rw (w : World) (T : TypeId) (g o j : Nat) (l : List Ev) : Prop where
  cur : ∃ cur : Array Value, w.heap[g]? = some (.cells cur T (0, 0)) ∧ o + l.length * 3 ≤ cur.size ∧ ∀ (i : Nat) (e : Ev), j ≤ i → l[i]? = some e → (cur.toList.drop (o + i * 3)).take 3 = e.C
theorem evC_drop (l : List Ev) (k : Nat) : (evC l).drop (k * 3) = evC (l.drop k) := by
  induction l generalizing k with
  | nil => simp [evC]
  | cons x l ih =>
    cases k with
    | zero => simp
    | succ k =>
      rw [List.drop_succ_cons, ← ih k, show (k + 1) * 3 = 3 + k * 3 from by omega, ← List.drop_drop]
      rfl
theorem evC_part {l : List Ev} {k : Nat} {x : Ev} (h : l[k]? = some x) : ((evC l).drop (k * 3)).take 3 = x.C := by
  obtain ⟨hk, rfl⟩ := List.getElem?_eq_some_iff.1 h
  rw [evC_drop, List.drop_eq_getElem_cons hk]
  rfl
theorem Rw.of {w : World} {T : TypeId} {g o n cap : Nat} {l : List Ev} (hn : n = l.length) (h : OwnAt w T 3 g o n cap (evC l)) : Rw w T g o 0 l := by
  subst hn
  obtain ⟨cur, c1, c2, c3⟩ := h.cur
  have hc := h.nc
  refine ⟨cur, c1, by have := Nat.mul_le_mul_right 3 hc; omega, fun i e _ hi => ?_⟩
  have hl := (List.getElem?_eq_some_iff.1 hi).1
  rw [← evC_part hi, ← c3, List.drop_take, List.drop_drop, List.take_take]
  congr 1
  omega
theorem Rw.next {w w' : World} {T : TypeId} {g o j : Nat} {l : List Ev} (h : Rw w T g o j l) (hb : Below w.heap.size w w') : Rw w' T g o j l := by
  obtain ⟨cur, c1, c2⟩ := h.cur
  exact ⟨cur, blk11 hb c1, c2⟩
theorem Rw.succ {w : World} {T : TypeId} {g o j : Nat} {l : List Ev} (h : Rw w T g o j l) : Rw w T g o (j + 1) l := by
  obtain ⟨c9, d1, d2, d3⟩ := h.cur
  exact ⟨c9, d1, d2, fun i e hi he => d3 i e (by omega) he⟩
theorem Rw.other {w : World} {T : TypeId} {g o j g' : Nat} {C : Array Value} {l : List Ev} (h : Rw w T g o j l) (hne : g ≠ g') : Rw (w.setRow g' C) T g o j l := by
  obtain ⟨cur, c1, c2⟩ := h.cur
  exact ⟨cur, sh11 hne c1, c2⟩
theorem infoT3 (T : TypeId) (h : T = 54 ∨ T = 58) : (Try.prog.info? T).map (·.size) = some 3 := by
  rcases h with rfl | rfl
  · exact infoT
  · exact infoUT
theorem agg3 (T : TypeId) (h : T = 54 ∨ T = 58) (w : World) : (isAgg T).run Try.prog w = .ok true w := by
  rcases h with rfl | rfl <;> kernel_rfl
theorem Rw.load {w : World} {T : TypeId} {g o j i : Nat} {l : List Ev} {e : Ev} (h : Rw w T g o j l) (hT : T = 54 ∨ T = 58) (hj : j ≤ i) (hi : l[i]? = some e) : (loadVar T ⟨g, o + i * 3, none⟩).run Try.prog w = .ok (.agg (evA e.n e.k e.s)) w := by
  obtain ⟨cur, c1, c2, c3⟩ := h.cur
  have hl := (List.getElem?_eq_some_iff.1 hi).1
  rw [load_part T 3 (infoT3 T hT) (agg3 T hT) w g (o + i * 3) cur.toList T (by simpa using c1) (by simp; omega), c3 i e hj hi]
  rfl
theorem Rw.store {w : World} {g o j : Nat} {l : List Ev} (h : Rw w 54 g o j l) (hj : j < l.length) : ∃ C, (storeVar 54 ⟨g, o + j * 3, none⟩ (.agg #[.int .u8 0, .int .u8 0, .int .u8 0])).run Try.prog w = .ok () (w.setRow g C) ∧ Rw (w.setRow g C) 54 g o (j + 1) l := by
  obtain ⟨cur, c1, c2, c3⟩ := h.cur
  have st := store_part 54 3 infoT w g (o + j * 3) cur 54 c1 [.int .u8 0, .int .u8 0, .int .u8 0] rfl (by omega) (by intro v hv; simp at hv; subst hv; rfl)
  refine ⟨_, st, _, setRow_heap _ _ _ _ _ _ c1, ?_, fun i e hi he => ?_⟩
  · simp; omega
  · rw [← c3 i e (by omega) he]
    simp only [List.length_cons, List.length_nil]
    have hl := (List.getElem?_eq_some_iff.1 he).1
    rw [List.drop_append, List.drop_of_length_le (by simp; omega), List.nil_append, List.drop_drop]
    congr 2
    simp
    omega
#print axioms tick_tw
#print axioms Rw.store
end Go.Proofs.Ytjdfacjfpdfafaa
