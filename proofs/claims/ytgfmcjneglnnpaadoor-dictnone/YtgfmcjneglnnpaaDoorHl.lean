/-
  DictNone; places that came in.
-/
import Derived.Test.YtgfmcjneglnnpaaDoorHk
import Derived.Test.YtgfmcjneglnnpaaDoorDp
import Derived.WalkKit
import Derived.ProofKit
import Derived.OpenShut
namespace Go.Proofs.YtgfmcjneglnnpaaDoor
open Go.ChangeShapes Go.WideShapes Go.ChangeAt Go.RowKit

theorem dictNone_any (i s : Int) (b : Option Addr) (lb cb : Nat) (g : Int) (w : World) (hT : Ty.Tab64 w) :
    Calls Tryd.prog 3 #[plV i s, .slice b lb cb, .int .u8 g] w fun e w' => e = .returned (.bool true) ∧ Below w.heap.size w w' :=
  dictNone_of i s b lb cb g w (show Hid _ from fun W hb => works8 W (tab_next hT hb))

set_option maxRecDepth 100000 in
theorem cell_u8 {w : World} {r : Reach} {b : Nat} {v : Value} (h : Cell.okWide Tryd.prog w r b 5 v) : ∃ n, v = .int .u8 n ∧ 0 ≤ n ∧ n < 256 := by
  unfold Cell.okWide Cell.ok at h
  rw [Tryd.underlying5] at h
  cases v <;> simp at h
  rename_i k n
  obtain ⟨rfl, h⟩ := h
  simp [IntKind.has, IntKind.min, IntKind.max, IntKind.signed, IntKind.bits] at h
  exact ⟨n, rfl, by omega, by omega⟩
set_option maxRecDepth 100000 in
theorem cell_u16 {w : World} {r : Reach} {b : Nat} {v : Value} (h : Cell.okWide Tryd.prog w r b 22 v) : ∃ n, v = .int .u16 n ∧ 0 ≤ n ∧ n < 65536 := by
  unfold Cell.okWide Cell.ok at h
  rw [Tryd.underlying22] at h
  cases v <;> simp at h
  rename_i k n
  obtain ⟨rfl, h⟩ := h
  simp [IntKind.has, IntKind.min, IntKind.max, IntKind.signed, IntKind.bits] at h
  exact ⟨n, rfl, by omega, by omega⟩
set_option maxRecDepth 100000 in
theorem typesP : Tryd.prog.cellTypes Tryd.prog.depth 24 = some [22, 5] := by kernel_rfl
set_option maxRecDepth 100000 in
theorem cellsP : Tryd.prog.cellsOf 24 = 2 := by kernel_rfl
set_option maxRecDepth 100000 in
/-- A place that came in. -/
theorem open_place {w : World} {r : Reach} {b : Nat} {v : Value} (h : Value.okWide Tryd.prog w r b 24 v) : ∃ i s, v = plV i s ∧ (0 ≤ i ∧ i < 65536) ∧ (0 ≤ s ∧ s < 256) := by
  unfold Value.okWide at h
  rw [Tryd.underlying24] at h
  obtain ⟨cs, rfl, hs, ts, ht, _, hc⟩ := h
  rw [typesP] at ht
  cases ht
  rw [cellsP] at hs
  obtain ⟨l⟩ := cs
  match l, hs with
  | [c0, c1], _ =>
    obtain ⟨t0, e0, k0⟩ := hc 0 c0 rfl
    obtain ⟨t1, e1, k1⟩ := hc 1 c1 rfl
    cases e0; cases e1
    obtain ⟨i, rfl, hi⟩ := cell_u16 k0
    obtain ⟨s, rfl, hs⟩ := cell_u8 k1
    exact ⟨i, s, rfl, hi, hs⟩
#print axioms dictNone_any
end Go.Proofs.YtgfmcjneglnnpaaDoor
