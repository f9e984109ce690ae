/-
  Maps of places: what is looked up, what is put.
-/
import Derived.Test.YtajllkkbgpijiaaGreatDoorUe
import Derived.MapKept
import Derived.Carry
namespace Go.Proofs.YtajllkkbgpijiaaGreatDoor
open Go.RowKit

/-- What stands in a map: places and values, in the order of their coming. -/
abbrev Mp := List (Int × Int × Value)
def lookP : Mp → Int → Int → Option Value
  | [], _, _ => none
  | x :: l, i, s => if (i == x.1 && s == x.2.1) = true then some x.2.2 else lookP l i s
def putP : Mp → Int → Int → Value → Mp
  | [], i, s, v => [(i, s, v)]
  | x :: l, i, s, v => if (i == x.1 && s == x.2.1) = true then (i, s, v) :: l else x :: putP l i s v
/-- The stamps of a map's entries: each once, all below the clock. -/
def Stm (es : Array MapEntry) (c : Nat) : Prop := (∀ b ∈ es.toList.map (·.born), b < c) ∧ (es.toList.map (·.born)).Nodup
theorem stm_push {es : Array MapEntry} {c : Nat} (h : Stm es c) (k v : Value) : Stm (es.push ⟨k, v, c⟩) (c + 1) := by
  have e : (es.push ⟨k, v, c⟩).toList.map (·.born) = es.toList.map (·.born) ++ [c] := by simp
  unfold Stm
  rw [e]
  refine ⟨fun b hb => ?_, List.nodup_append.2 ⟨h.2, by simp, fun a ha b hb => ?_⟩⟩
  · rcases List.mem_append.1 hb with hb | hb
    · have := h.1 b hb
      omega
    · simp at hb
      omega
  · simp at hb
    have := h.1 a ha
    omega
theorem stm_modify {es : Array MapEntry} {c : Nat} (h : Stm es c) (j : Nat) (f : MapEntry → MapEntry) (hf : ∀ e, (f e).born = e.born) : Stm (es.modify j f) c := by
  have e : (es.modify j f).toList.map (·.born) = es.toList.map (·.born) := by
    rw [Array.toList_modify]
    apply List.ext_getElem?
    intro q
    simp only [List.getElem?_map, List.getElem?_modify]
    cases es.toList[q]? with
    | none => rfl
    | some x =>
      by_cases hq : j = q
      · simp [hq, hf]
      · simp [hq]
  unfold Stm
  rw [e]
  exact h
/-- A map's block. -/
def IsM (w : World) (m : Nat) (l : Mp) : Prop := ∃ es clock, w.heap[m]? = some (.map es clock) ∧ es.toList.map (fun e => (e.key, e.val)) = l.map (fun x => (plV x.1 x.2.1, x.2.2)) ∧ Stm es clock
theorem IsM.lt {w : World} {m : Nat} {l : Mp} (h : IsM w m l) : m < w.heap.size := by
  obtain ⟨es, c, h, _⟩ := h
  exact lt_of_heap h
theorem IsM.next {w w' : World} {m : Nat} {l : Mp} (h : IsM w m l) (hb : Below w.heap.size w w') : IsM w' m l := by
  obtain ⟨es, c, h, e⟩ := h
  exact ⟨es, c, blk11 hb h, e⟩
theorem IsM.kp {w w' : World} {m : Nat} {l : Mp} {S : List Nat} (h : IsM w m l) (hb : Kp S w w') (hm : m ∉ S) : IsM w' m l := by
  obtain ⟨es, c, h, e⟩ := h
  exact ⟨es, c, hb.at hm h, e⟩
theorem isM_new (w : World) : IsM (w.alloc (.map #[] 0)) w.heap.size [] := ⟨#[], 0, heap_new _ _, rfl, ⟨by simp, by simp⟩⟩

theorem check_place (em : Bool) (i s : Int) (w : World) : (Instr.checkKey em 10000 43 (plV i s)).run Tryz.prog w = .ok () w := by kernel_rfl
theorem now_place (i s : Int) (e : MapEntry) (es : List MapEntry) (j r : Int) (h : e.key = plV j r) (w : World) : (Instr.findKey 43 (plV i s) (e :: es)).run Tryz.prog w = (Instr.findAsking 43 (plV i s) (e :: es)).run Tryz.prog w := by
  unfold Instr.findKey
  simp only [Sem.run_bind, run_underlying Tryz.underlying43, Result.andThen_ok, Instr.findNow, h, Instr.sameNow]
/-- Where a place is found. -/
def idxP : Mp → Int → Int → Nat → Option (Nat × Value)
  | [], _, _, _ => none
  | x :: l, i, s, k => if (i == x.1 && s == x.2.1) = true then some (k, x.2.2) else idxP l i s (k + 1)
theorem idxP_look (l : Mp) (i s : Int) (k : Nat) : (idxP l i s k).map (·.2) = lookP l i s := by
  induction l generalizing k with
  | nil => rfl
  | cons x l ih =>
    simp only [idxP, lookP]
    split
    · rfl
    · exact ih _
theorem asking_place (i s : Int) (w : World) (es : List MapEntry) (l : Mp) (h : es.map (fun e => (e.key, e.val)) = l.map fun x => (plV x.1 x.2.1, x.2.2)) (k : Nat) : (Instr.findAsking 43 (plV i s) es k).run Tryz.prog w = .ok (idxP l i s k) w := by
  induction es generalizing l k with
  | nil =>
    cases l with
    | nil => rfl
    | cons x l => simp at h
  | cons e es ih =>
    cases l with
    | nil => simp at h
    | cons x l =>
      simp only [List.map_cons, List.cons.injEq, Prod.mk.injEq] at h
      obtain ⟨⟨h1, h2⟩, h3⟩ := h
      have he : (Op.equal 43 (plV i s) (plV x.1 x.2.1)).run Tryz.prog w = .ok (i == x.1 && s == x.2.1) w := eqInP w i s x.1 x.2.1
      simp only [Instr.findAsking, Sem.run_bind, h1, he, Result.andThen_ok, idxP]
      split
      · rw [h2]; rfl
      · exact ih l h3 (k + 1)
theorem find_place (i s : Int) (w : World) (es : List MapEntry) (l : Mp) (h : es.map (fun e => (e.key, e.val)) = l.map fun x => (plV x.1 x.2.1, x.2.2)) : (Instr.findKey 43 (plV i s) es).run Tryz.prog w = .ok (idxP l i s 0) w := by
  cases es with
  | nil =>
    cases l with
    | nil =>
      unfold Instr.findKey
      simp only [Sem.run_bind, run_underlying Tryz.underlying43, Result.andThen_ok, Instr.findNow]
      rfl
    | cons x l => simp at h
  | cons e es =>
    cases l with
    | nil => simp at h
    | cons x l =>
      have h' := h
      simp only [List.map_cons, List.cons.injEq, Prod.mk.injEq] at h'
      rw [now_place i s e es x.1 x.2.1 h'.1.1 w]
      exact asking_place i s w (e :: es) (x :: l) h 0
theorem look_ok (w : World) (m : Nat) (l : Mp) (i s : Int) (v : Value) (h : IsM w m l) (hv : lookP l i s = some v) : (Instr.lookup 89 (.map (some m)) (plV i s) true).run Tryz.prog w = .ok (.tuple #[v, .bool true]) w := by
  obtain ⟨es, c, hb, e, _⟩ := h
  have hf := find_place i s w es.toList l e
  have hi := idxP_look l i s 0
  rw [hv] at hi
  cases hq : idxP l i s 0 with
  | none => rw [hq] at hi; cases hi
  | some y =>
    rw [hq] at hi hf
    obtain ⟨k, u⟩ := y
    cases hi
    simp [Instr.lookup, run_underlying Tryz.underlying89, MapKept.run_getObj_map hb, check_place, hf, Result.andThen]
theorem look_one (w : World) (m : Nat) (l : Mp) (i s : Int) (v : Value) (h : IsM w m l) (hv : lookP l i s = some v) : (Instr.lookup 89 (.map (some m)) (plV i s) false).run Tryz.prog w = .ok v w := by
  obtain ⟨es, c, hb, e, _⟩ := h
  have hf := find_place i s w es.toList l e
  have hi := idxP_look l i s 0
  rw [hv] at hi
  cases hq : idxP l i s 0 with
  | none => rw [hq] at hi; cases hi
  | some y =>
    rw [hq] at hi hf
    obtain ⟨k, u⟩ := y
    cases hi
    simp [Instr.lookup, run_underlying Tryz.underlying89, MapKept.run_getObj_map hb, check_place, hf, Result.andThen]
theorem look_no (w : World) (m : Nat) (l : Mp) (i s : Int) (z : Value) (hz : (zeroValue 95).run Tryz.prog w = .ok z w) (h : IsM w m l) (hv : lookP l i s = none) : (Instr.lookup 89 (.map (some m)) (plV i s) true).run Tryz.prog w = .ok (.tuple #[z, .bool false]) w := by
  obtain ⟨es, c, hb, e, _⟩ := h
  have hf := find_place i s w es.toList l e
  have hi := idxP_look l i s 0
  rw [hv] at hi
  cases hq : idxP l i s 0 with
  | none =>
    rw [hq] at hf
    simp [Instr.lookup, run_underlying Tryz.underlying89, MapKept.run_getObj_map hb, check_place, hf, hz, Result.andThen]
  | some y => rw [hq] at hi; cases hi
#print axioms look_no
end Go.Proofs.YtajllkkbgpijiaaGreatDoor
