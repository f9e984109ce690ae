/-
  A step that came in.
-/
import Derived.Test.YtenfbebdfodmdaaUn
import Derived.Test.YtenfbebdfodmdaaOb
namespace Go.Proofs.Ytenfbebdfodmdaa
open Go.ChangeShapes Go.WideShapes Go.ChangeAt Go.RowKit
set_option maxRecDepth 100000

theorem cell_ab11 {w : World} {r : Reach} {b : Nat} {v : Value} (h : Cell.okWide Try.prog w r b 30 v) : ∃ n, v = .int .u32 n := by
  unfold Cell.okWide Cell.ok at h
  rw [Try.underlying30] at h
  cases v <;> simp at h
  rename_i k n
  obtain ⟨rfl, _⟩ := h
  exact ⟨n, rfl⟩
theorem cell_i64l {w : World} {r : Reach} {b : Nat} {v : Value} (h : Cell.okWide Try.prog w r b 2 v) : ∃ n, v = .int .i64 n := by
  unfold Cell.okWide Cell.ok at h
  rw [Try.underlying2] at h
  cases v <;> simp at h
  rename_i k n
  obtain ⟨rfl, _⟩ := h
  exact ⟨n, rfl⟩
theorem cell_sl {w : World} {r : Reach} {b : Nat} {v : Value} (h : Cell.okWide Try.prog w r b 28 v) : ∃ a len cap, v = .slice a len cap := by
  unfold Cell.okWide at h
  rw [Try.underlying28] at h
  cases v <;> first | exact ⟨_, _, _, rfl⟩ | (simp at h; done) | (simp [Cell.ok, Try.underlying28] at h; done)
theorem typesST : Try.prog.cellTypes Try.prog.depth 32 = some [3, 22, 3, 5, 5, 5, 5, 5, 5, 5, 5, 4, 22, 5, 28, 5, 30, 2, 4] := by kernel_rfl
theorem cellsST : Try.prog.cellsOf 32 = 19 := by kernel_rfl
/-- A step that came in. -/
theorem open_step {w : World} {r : Reach} {b : Nat} {v : Value} (h : Value.okWide Try.prog w r b 32 v) : ∃ (kd id n d0 d1 d2 d3 d4 d5 d6 d7 : Int) (r : Bool) (i s : Int) (a : Option Addr) (len cap : Nat) (m code now : Int) (tk : Bool), v = .agg (stC kd id n d0 d1 d2 d3 d4 d5 d6 d7 r i s a len cap m code now tk) := by
  unfold Value.okWide at h
  rw [Try.underlying32] at h
  obtain ⟨cs, rfl, hs, ts, ht, _, hc⟩ := h
  rw [typesST] at ht
  cases ht
  rw [cellsST] at hs
  obtain ⟨l⟩ := cs
  match l, hs with
  | [c0, c1, c2, c3, c4, c5, c6, c7, c8, c9, c10, c11, c12, c13, c14, c15, c16, c17, c18], _ =>
    obtain ⟨t0, e0, k0⟩ := hc 0 c0 rfl
    obtain ⟨t1, e1, k1⟩ := hc 1 c1 rfl
    obtain ⟨t2, e2, k2⟩ := hc 2 c2 rfl
    obtain ⟨t3, e3, k3⟩ := hc 3 c3 rfl
    obtain ⟨t4, e4, k4⟩ := hc 4 c4 rfl
    obtain ⟨t5, e5, k5⟩ := hc 5 c5 rfl
    obtain ⟨t6, e6, k6⟩ := hc 6 c6 rfl
    obtain ⟨t7, e7, k7⟩ := hc 7 c7 rfl
    obtain ⟨t8, e8, k8⟩ := hc 8 c8 rfl
    obtain ⟨t9, e9, k9⟩ := hc 9 c9 rfl
    obtain ⟨t10, e10, k10⟩ := hc 10 c10 rfl
    obtain ⟨t11, e11, k11⟩ := hc 11 c11 rfl
    obtain ⟨t12, e12, k12⟩ := hc 12 c12 rfl
    obtain ⟨t13, e13, k13⟩ := hc 13 c13 rfl
    obtain ⟨t14, e14, k14⟩ := hc 14 c14 rfl
    obtain ⟨t15, e15, k15⟩ := hc 15 c15 rfl
    obtain ⟨t16, e16, k16⟩ := hc 16 c16 rfl
    obtain ⟨t17, e17, k17⟩ := hc 17 c17 rfl
    obtain ⟨t18, e18, k18⟩ := hc 18 c18 rfl
    cases e0; cases e1; cases e2; cases e3; cases e4; cases e5; cases e6; cases e7; cases e8; cases e9; cases e10; cases e11; cases e12; cases e13; cases e14; cases e15; cases e16; cases e17; cases e18
    obtain ⟨kd, rfl⟩ := cell_int k0
    obtain ⟨id, rfl, _⟩ := cell_u16 k1
    obtain ⟨n, rfl⟩ := cell_int k2
    obtain ⟨d0, rfl, _⟩ := cell_u8 k3
    obtain ⟨d1, rfl, _⟩ := cell_u8 k4
    obtain ⟨d2, rfl, _⟩ := cell_u8 k5
    obtain ⟨d3, rfl, _⟩ := cell_u8 k6
    obtain ⟨d4, rfl, _⟩ := cell_u8 k7
    obtain ⟨d5, rfl, _⟩ := cell_u8 k8
    obtain ⟨d6, rfl, _⟩ := cell_u8 k9
    obtain ⟨d7, rfl, _⟩ := cell_u8 k10
    obtain ⟨r, rfl⟩ := cell_bool k11
    obtain ⟨i, rfl, _⟩ := cell_u16 k12
    obtain ⟨s, rfl, _⟩ := cell_u8 k13
    obtain ⟨a, len, cap, rfl⟩ := cell_sl k14
    obtain ⟨m, rfl, _⟩ := cell_u8 k15
    obtain ⟨code, rfl⟩ := cell_ab11 k16
    obtain ⟨now, rfl⟩ := cell_i64l k17
    obtain ⟨tk, rfl⟩ := cell_bool k18
    exact ⟨kd, id, n, d0, d1, d2, d3, d4, d5, d6, d7, r, i, s, a, len, cap, m, code, now, tk, rfl⟩
#print axioms open_step
end Go.Proofs.Ytenfbebdfodmdaa
