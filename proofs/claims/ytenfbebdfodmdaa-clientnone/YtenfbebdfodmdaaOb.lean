/-
  Bytes and commands that came in, as the rows read them.
-/
import Derived.Test.YtenfbebdfodmdaaPb
import Derived.WalkKit
import Derived.ProofKit
import Derived.OpenShut
namespace Go.Proofs.Ytenfbebdfodmdaa
open Go.ChangeShapes Go.WideShapes Go.ChangeAt Go.RowKit
set_option maxRecDepth 100000

theorem cell_u8 {w : World} {r : Reach} {b : Nat} {v : Value} (h : Cell.okWide Try.prog w r b 5 v) : ∃ n, v = .int .u8 n ∧ 0 ≤ n ∧ n < 256 := by
  unfold Cell.okWide Cell.ok at h
  rw [Try.underlying5] at h
  cases v <;> simp at h
  rename_i k n
  obtain ⟨rfl, h⟩ := h
  simp [IntKind.has, IntKind.min, IntKind.max, IntKind.signed, IntKind.bits] at h
  exact ⟨n, rfl, by omega, by omega⟩
theorem cell_u16 {w : World} {r : Reach} {b : Nat} {v : Value} (h : Cell.okWide Try.prog w r b 22 v) : ∃ n, v = .int .u16 n ∧ 0 ≤ n := by
  unfold Cell.okWide Cell.ok at h
  rw [Try.underlying22] at h
  cases v <;> simp at h
  rename_i k n
  obtain ⟨rfl, h⟩ := h
  simp [IntKind.has, IntKind.min, IntKind.max, IntKind.signed, IntKind.bits] at h
  exact ⟨n, rfl, by omega⟩
theorem cell_int {w : World} {r : Reach} {b : Nat} {v : Value} (h : Cell.okWide Try.prog w r b 3 v) : ∃ n, v = .int .i64 n := by
  unfold Cell.okWide Cell.ok at h
  rw [Try.underlying3] at h
  cases v <;> simp at h
  rename_i k n
  obtain ⟨rfl, _⟩ := h
  exact ⟨n, rfl⟩
theorem cell_bool {w : World} {r : Reach} {b : Nat} {v : Value} (h : Cell.okWide Try.prog w r b 4 v) : ∃ q, v = .bool q := by
  unfold Cell.okWide Cell.ok at h
  rw [Try.underlying4] at h
  cases v <;> simp at h
  exact ⟨_, rfl⟩

theorem types8 : Try.prog.cellTypes Try.prog.depth 23 = some [5, 5, 5, 5, 5, 5, 5, 5] := by kernel_rfl
theorem cells8 : Try.prog.cellsOf 23 = 8 := by kernel_rfl

/-- Eight bytes that came in. -/
theorem open_arr8 {w : World} {r : Reach} {b : Nat} {v : Value} (h : Value.okWide Try.prog w r b 23 v) : ∃ y : B8, v = arr8 y.b0 y.b1 y.b2 y.b3 y.b4 y.b5 y.b6 y.b7 ∧ y.Ok := by
  unfold Value.okWide at h
  rw [Try.underlying23] at h
  obtain ⟨cs, rfl, hs, ts, ht, _, hc⟩ := h
  rw [types8] at ht
  cases ht
  rw [cells8] at hs
  obtain ⟨l⟩ := cs
  match l, hs with
  | [c0, c1, c2, c3, c4, c5, c6, c7], _ =>
    obtain ⟨u0, e0, k0⟩ := hc 0 c0 rfl
    obtain ⟨u1, e1, k1⟩ := hc 1 c1 rfl
    obtain ⟨u2, e2, k2⟩ := hc 2 c2 rfl
    obtain ⟨u3, e3, k3⟩ := hc 3 c3 rfl
    obtain ⟨u4, e4, k4⟩ := hc 4 c4 rfl
    obtain ⟨u5, e5, k5⟩ := hc 5 c5 rfl
    obtain ⟨u6, e6, k6⟩ := hc 6 c6 rfl
    obtain ⟨u7, e7, k7⟩ := hc 7 c7 rfl
    cases e0; cases e1; cases e2; cases e3; cases e4; cases e5; cases e6; cases e7
    obtain ⟨d0, rfl, b0⟩ := cell_u8 k0
    obtain ⟨d1, rfl, b1⟩ := cell_u8 k1
    obtain ⟨d2, rfl, b2⟩ := cell_u8 k2
    obtain ⟨d3, rfl, b3⟩ := cell_u8 k3
    obtain ⟨d4, rfl, b4⟩ := cell_u8 k4
    obtain ⟨d5, rfl, b5⟩ := cell_u8 k5
    obtain ⟨d6, rfl, b6⟩ := cell_u8 k6
    obtain ⟨d7, rfl, b7⟩ := cell_u8 k7
    exact ⟨⟨d0, d1, d2, d3, d4, d5, d6, d7⟩, rfl, ⟨b0, b1, b2, b3, b4, b5, b6, b7⟩⟩
/-- A slice of bytes that came in, as the row's reading gives it. -/
def IsRow (w : World) (a : Option Addr) (len cap : Nat) (zs : List Int) : Prop :=
  (a = none ∧ len = 0 ∧ cap = 0 ∧ zs = []) ∨
  ∃ x, a = some x ∧ len ≤ cap ∧ cap ≤ maxLen ∧ zs.length = cap ∧ (∀ i, i < zs.length → w.cell? (x.add i) = some (.int .u8 (zs.getD i 0))) ∧ ∀ n ∈ zs, (Lit.int .u8 n).wf = true

theorem wf_u8 {n : Int} (h : (Lit.int .u8 n).wf = true) : 0 ≤ n ∧ n < 256 := by
  simp [Lit.wf, IntKind.min, IntKind.max, IntKind.signed, IntKind.bits] at h
  omega
theorem wf_u16 {n : Int} (h : (Lit.int .u16 n).wf = true) : 0 ≤ n := by
  simp [Lit.wf, IntKind.min, IntKind.max, IntKind.signed, IntKind.bits] at h
  omega

theorem IsRow.row {w : World} {a : Option Addr} {len cap : Nat} {zs : List Int} (h : IsRow w a len cap zs) : Row w a len (zs.take len) ∧ len ≤ cap ∧ cap ≤ maxLen := by
  rcases h with ⟨rfl, rfl, rfl, rfl⟩ | ⟨x, rfl, hl, hm, hz, hc, hw⟩
  · exact ⟨row_nil w, Nat.le_refl _, by decide⟩
  · refine ⟨⟨by rw [List.length_take]; omega, fun n hn => wf_u8 (hw n (List.mem_of_mem_take hn)), fun hp => ?_⟩, hl, hm⟩
    obtain ⟨b, off, spot⟩ := x
    have h0 := hc 0 (by omega)
    have hs : spot = none := by simpa [Addr.add] using World.cell?_spot h0
    subst hs
    refine ⟨b, off, rfl, fun i hi => ?_⟩
    have := hc i (by omega)
    rw [show (⟨b, off, none⟩ : Addr).add i = ⟨b, off + i, none⟩ from by simp [Addr.add]] at this
    rw [this]
    simp [List.getD_eq_getElem?_getD, hi]
#print axioms open_arr8
end Go.Proofs.Ytenfbebdfodmdaa
