/-
  A map's update.
-/
import Derived.Test.YtajllkkbgpijiaaGreatDoorDc
namespace Go.Proofs.YtajllkkbgpijiaaGreatDoor
open Go.RowKit

theorem ex_look {o : Oper} {a : Act} {w : World} (t : TypeId) (m x : Operand) (c : Bool) (ho : o.op = .lookup t m x c) (mv xv v : Value) (hm : a.eval m = mv) (hx : a.eval x = xv) (hr : (Instr.lookup t mv xv c).run Tryz.prog w = .ok v w) : (execOp a.eval o).run Tryz.prog w = .ok (.value v) w := by
  unfold execOp
  simp only [ho, hm, hx, Sem.run_bind, Sem.run_pure, Result.andThen_ok, hr]
theorem wp_upd_by {o : Oper} {a : Act} {w w' : World} {K : Act → World → Prop} {Q : Exit → Act → World → Prop} (t : TypeId) (m x y : Operand) (ho : o.op = .mapUpdate t m x y) (mv xv v : Value) (hm : a.eval m = mv) (hx : a.eval x = xv) (hy : a.eval y = v)
    (hr : (Instr.mapUpdate t mv xv v).run Tryz.prog w = .ok () w') (h : K (a.put o.dst undef) w') : o.wp Tryz.prog a w K Q := by
  unfold Oper.wp execOp
  simp only [ho, hm, hx, hy, Sem.run_bind, Sem.run_pure, Result.andThen_ok, hr]
  exact h
theorem idxP_none (l : Mp) (i s : Int) (v : Value) (k : Nat) (h : idxP l i s k = none) : putP l i s v = l ++ [(i, s, v)] := by
  induction l generalizing k with
  | nil => rfl
  | cons x l ih =>
    simp only [idxP] at h
    split at h
    · cases h
    · rename_i hq
      simp only [putP, if_neg hq, List.cons_append, ih _ h]
theorem idxP_some (l : Mp) (i s : Int) (v : Value) (k j : Nat) (u : Value) (h : idxP l i s k = some (j, u)) : ∃ n, j = k + n ∧ n < l.length ∧ putP l i s v = l.set n (i, s, v) ∧ l[n]? = some (i, s, u) := by
  induction l generalizing k with
  | nil => cases h
  | cons x l ih =>
    simp only [idxP] at h
    split at h
    · rename_i hq
      cases h
      simp only [Bool.and_eq_true, beq_iff_eq] at hq
      obtain ⟨x1, x2, x3⟩ := x
      dsimp only at hq
      obtain ⟨rfl, rfl⟩ := hq
      exact ⟨0, rfl, by simp, by simp [putP], rfl⟩
    · rename_i hq
      obtain ⟨n, h1, h2, h3, h4⟩ := ih _ h
      exact ⟨n + 1, by omega, by simp; omega, by simp only [putP, if_neg hq, List.set_cons_succ, h3], by simpa using h4⟩
theorem bits_same (i s : Int) : Instr.sameBits 10000 (plV i s) (plV i s) = true := by
  simp [Instr.sameBits]
theorem stays_place (i s : Int) (w : World) : (Instr.keyThatStays (plV i s) (plV i s)).run Tryz.prog w = .ok (plV i s) w := by
  unfold Instr.keyThatStays
  rw [if_pos (bits_same i s)]
  rfl
theorem kp_obj (w : World) (m : Nat) (o : Obj) : Kp [m] w { w with heap := w.heap.setIfInBounds m o } :=
  ⟨rfl, rfl, rfl, by simp, fun k _ hk => by simp at hk; simp [Ne.symm hk]⟩
theorem upd_run (w : World) (m : Nat) (l : Mp) (i s : Int) (v : Value) (h : IsM w m l) : ∃ w', (Instr.mapUpdate 89 (.map (some m)) (plV i s) v).run Tryz.prog w = .ok () w' ∧ IsM w' m (putP l i s v) ∧ Kp [m] w w' := by
  obtain ⟨es, c, hb, e, hs⟩ := h
  have hlt := lt_of_heap hb
  have hf := find_place i s w es.toList l e
  cases hq : idxP l i s 0 with
  | none =>
    rw [hq] at hf
    refine ⟨_, ?_, ⟨es.push ⟨plV i s, v, c⟩, c + 1, ?_, ?_, stm_push hs _ _⟩, kp_obj w m (.map (es.push ⟨plV i s, v, c⟩) (c + 1))⟩
    · simp [Instr.mapUpdate, run_underlying Tryz.underlying89, MapKept.run_getObj_map hb, check_place, hf, MapKept.run_setObj_map _ hb, Result.andThen]
    · simp [hlt]
    · rw [idxP_none l i s v 0 hq, Array.toList_push, List.map_append, e]
      simp
  | some y =>
    obtain ⟨j, u⟩ := y
    rw [hq] at hf
    obtain ⟨n, h1, h2, h3, h4⟩ := idxP_some l i s v 0 j u hq
    obtain rfl : j = n := by omega
    have hn : es.toList.length = l.length := by simpa using congrArg List.length e
    have hk : ((es[j]?).map (·.key)).getD (plV i s) = plV i s := by
      have := congrArg (fun q => q[j]?) e
      simp only [List.getElem?_map, h4, Option.map_some] at this
      rw [← Array.getElem?_toList]
      cases hz : es.toList[j]? with
      | none => rfl
      | some z =>
        rw [hz] at this
        simp only [Option.map_some, Option.some.injEq, Prod.mk.injEq] at this
        simp [this.1]
    refine ⟨_, ?_, ⟨es.modify j fun e => { e with key := plV i s, val := v }, c, ?_, ?_, stm_modify hs _ _ (fun _ => rfl)⟩, kp_obj w m (.map (es.modify j fun e => { e with key := plV i s, val := v }) c)⟩
    · simp [Instr.mapUpdate, run_underlying Tryz.underlying89, MapKept.run_getObj_map hb, check_place, hf, hk, stays_place, MapKept.run_setObj_map _ hb, Result.andThen]
    · simp [hlt]
    · rw [h3, Array.toList_modify]
      apply List.ext_getElem?
      intro q
      have eq := congrArg (fun z => z[q]?) e
      simp only [List.getElem?_map] at eq
      simp only [List.getElem?_map, List.getElem?_modify, List.getElem?_set]
      by_cases hqj : j = q
      · subst hqj
        have : j < es.toList.length := by omega
        simp [h2, List.getElem?_eq_getElem this]
      · simp only [if_neg hqj]
        simpa using eq
#print axioms upd_run
end Go.Proofs.YtajllkkbgpijiaaGreatDoor
