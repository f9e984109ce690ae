/-
  A transfer begins.
-/
import Derived.Test.YtajllkkbgpijiaaGreatDoorUd
import Derived.Test.YtajllkkbgpijiaaGreatDoorSe
namespace Go.Proofs.YtajllkkbgpijiaaGreatDoor
open Go.RowKit

theorem Row.kp {w w' : World} {p : Nat} {a : Option Addr} {len : Nat} {zs : List Int} (h : Row w a len zs) (k : Kp [p] w w') (hne : ∀ b off, a = some ⟨b, off, none⟩ → b ≠ p) : Row w' a len zs where
  size := h.size
  oct := h.oct
  at_ := fun hl => by
    obtain ⟨b, off, e, hc⟩ := h.at_ hl
    refine ⟨b, off, e, fun i hi => ?_⟩
    have hb := h.old hl b off e
    have := k.block b hb (by simpa using hne b off e)
    rw [← hc i hi]
    simp only [World.cell?, this]
theorem ex_load11 {o : Oper} {a : Act} {w : World} (ty : TypeId) (x : Operand) (ho : o.op = .load ty x) (ad : Addr) (v : Value) (hx : a.eval x = .pointer (some ad)) (hr : (loadVar ty ad).run Tryz.prog w = .ok v w) : (execOp a.eval o).run Tryz.prog w = .ok (.value v) w := by
  unfold execOp
  simp only [ho, hx, Instr.loadAt, Instr.sureAddr, Sem.run_bind, Sem.run_pure, Result.andThen_ok, hr]
theorem Told.keep11 {w W w1 w2 : World} {a : Option Addr} {len cap : Nat} {zs : List Int} (h : Told W w1 a len cap zs) (hs : w.heap.size ≤ W.heap.size) (hk : ∀ g, W.heap.size ≤ g → g < w1.heap.size → w2.heap[g]? = w1.heap[g]?) : Told w w2 a len cap zs := by
  refine ⟨⟨h.row.size, h.row.oct, fun hp => ?_⟩, h.le, h.max, fun hp => ?_⟩
  · obtain ⟨g, rfl, hg, _⟩ := h.own hp
    obtain ⟨b, off, e, hc⟩ := h.row.at_ hp
    cases e
    exact ⟨_, 0, rfl, fun i hi => (World.cell?_of_block (w := w1) (a := ⟨g, 0 + i, none⟩) (hk g hg (block_lt_of_cell (hc 0 hp)))).trans (hc i hi)⟩
  · obtain ⟨g, e, hg, hz⟩ := h.own hp
    obtain ⟨b, off, e', hc⟩ := h.row.at_ hp
    rw [e] at e'
    cases e'
    exact ⟨g, e, Nat.le_trans hs hg, fun i hi => (World.frozen?_of_block (w := w1) (a := ⟨g, i, none⟩) (hk g hg (block_lt_of_cell (hc 0 hp)))).trans (hz i hi)⟩
theorem store_ptr (t : TypeId) (ht : (Tryz.prog.info? t).map (·.size) = some 1) (w : World) (B j : Nat) (x : Option Addr) (C : Array Value) (T : TypeId) (h : w.heap[B]? = some (.cells C T (0, 0))) (hj : j < C.size) : (storeVar t ⟨B, j, none⟩ (.pointer x)).run Tryz.prog w = .ok () (w.setRow B (C.setIfInBounds j (.pointer x))) := by
  cases hq : Tryz.prog.info? t with
  | none => simp [hq] at ht
  | some i =>
    have hi : i.size = 1 := by simpa [hq] using ht
    have e1 : (C.toList.take j ++ [Value.pointer x] ++ C.toList.drop (j + 1)).toArray = C.setIfInBounds j (.pointer x) := by
      apply Array.toList_inj.1
      simp [List.set_eq_take_append_cons_drop, hj]
    rw [← e1]
    have := run_storeCells_at Tryz.prog B j T [.pointer x] 0 C w h (by simp; omega) (by simp [Value.oneCell'])
    simpa [storeVar, Value.cells, sizeOf, typeInfo, hq, hi, Result.andThen] using this






end Go.Proofs.YtajllkkbgpijiaaGreatDoor
