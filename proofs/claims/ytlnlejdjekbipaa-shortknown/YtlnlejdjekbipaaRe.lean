/-
  What the document's functions of commands tell.
-/
import Derived.Test.YtlnlejdjekbipaaRc
import Derived.Test.YtlnlejdjekbipaaPc
import Derived.Test.YtlnlejdjekbipaaRa
import Derived.Test.YtlnlejdjekbipaaRa1
import Derived.Test.YtlnlejdjekbipaaSv
import Derived.Test.YtlnlejdjekbipaaSf3
namespace Go.Proofs.Ytlnlejdjekbipaa
open Go.RowKit

/-- What a function of the document tells that has bytes, or none. -/
def QPost (w : World) (O : Option B8) (r : Ending) (w' : World) : Prop := ∃ (x : B8) (E : Bool), r = .returned (.tuple #[x.v, .bool E]) ∧ (O = if E then some x else none) ∧ Below w.heap.size w w'
theorem ld_3 (w : World) (B j : Nat) (v : Value) (h : w.cell? ⟨B, j, none⟩ = some v) : (loadVar 3 ⟨B, j, none⟩).run Try.prog w = .ok v w := by
  unfold loadVar; simp [isAgg, run_underlying Try.underlying3, h, go_sem]
theorem ld_4 (w : World) (B j : Nat) (v : Value) (h : w.cell? ⟨B, j, none⟩ = some v) : (loadVar 4 ⟨B, j, none⟩).run Try.prog w = .ok v w := by
  unfold loadVar; simp [isAgg, run_underlying Try.underlying4, h, go_sem]
theorem ld_5 (w : World) (B j : Nat) (v : Value) (h : w.cell? ⟨B, j, none⟩ = some v) : (loadVar 5 ⟨B, j, none⟩).run Try.prog w = .ok v w := by
  unfold loadVar; simp [isAgg, run_underlying Try.underlying5, h, go_sem]
theorem ld_22 (w : World) (B j : Nat) (v : Value) (h : w.cell? ⟨B, j, none⟩ = some v) : (loadVar 22 ⟨B, j, none⟩).run Try.prog w = .ok v w := by
  unfold loadVar; simp [isAgg, run_underlying Try.underlying22, h, go_sem]
theorem ld_25 (w : World) (B j : Nat) (v : Value) (h : w.cell? ⟨B, j, none⟩ = some v) : (loadVar 25 ⟨B, j, none⟩).run Try.prog w = .ok v w := by
  unfold loadVar; simp [isAgg, run_underlying Try.underlying25, h, go_sem]
theorem ld_27 (w : World) (B j : Nat) (v : Value) (h : w.cell? ⟨B, j, none⟩ = some v) : (loadVar 27 ⟨B, j, none⟩).run Try.prog w = .ok v w := by
  unfold loadVar; simp [isAgg, run_underlying Try.underlying27, h, go_sem]
theorem ld_26 (w : World) (B j : Nat) (v : Value) (h : w.cell? ⟨B, j, none⟩ = some v) : (loadVar 26 ⟨B, j, none⟩).run Try.prog w = .ok v w := by
  unfold loadVar; simp [isAgg, run_underlying Try.underlying26, h, go_sem]
theorem ext_al {W : World} {j : Nat} {o v : Obj} (h : W.heap[j]? = some v) : (W.alloc o).heap[j]? = some v := (Below.heap_alloc _ _ _ (Array.getElem?_eq_some_iff.1 h).1).trans h
theorem wrapI64 (z : Int) (h0 : -9223372036854775808 ≤ z) (h1 : z < 9223372036854775808) : IntKind.i64.wrap z = z := by rw [IntKind.wrap_i64]; omega
theorem ldPl (w : World) (B : Nat) (i s : Int) (h1 : w.cell? ⟨B, 1, none⟩ = some (.int .u16 i)) (h2 : w.cell? ⟨B, 2, none⟩ = some (.int .u8 s)) : (loadVar 24 ⟨B, 1, none⟩).run Try.prog w = .ok (.agg #[.int .u16 i, .int .u8 s]) w := by
  unfold loadVar; simp [isAgg, run_underlying Try.underlying24, h1, h2, go_sem]
theorem bare_0 (C : Cm) : decide ((⟨C.k, 0, 0, false, 0, false, [], false, false, false, 0, 0, 0, 0, 0⟩ : Cm) = C) = C.only 0 := by rw [Bool.eq_iff_iff, decide_eq_true_iff, only_0]; exact eq_comm
theorem bare_1 (C : Cm) : decide ((⟨C.k, C.i, C.s, false, 0, false, [], false, false, false, 0, 0, 0, 0, 0⟩ : Cm) = C) = C.only 1 := by rw [Bool.eq_iff_iff, decide_eq_true_iff, only_1]; exact eq_comm
theorem bare_32 (C : Cm) : decide ((⟨C.k, 0, 0, false, 0, false, [], C.t, false, false, 0, 0, 0, 0, 0⟩ : Cm) = C) = C.only 32 := by rw [Bool.eq_iff_iff, decide_eq_true_iff, only_32]; exact eq_comm
theorem bare_4097 (C : Cm) : decide ((⟨C.k, C.i, C.s, false, 0, false, [], false, false, false, 0, 0, 0, 0, C.o⟩ : Cm) = C) = C.only 4097 := by rw [Bool.eq_iff_iff, decide_eq_true_iff, only_4097]; exact eq_comm
theorem bare_3072 (C : Cm) : decide ((⟨C.k, 0, 0, false, 0, false, [], false, false, false, 0, 0, C.u, C.m, 0⟩ : Cm) = C) = C.only 3072 := by rw [Bool.eq_iff_iff, decide_eq_true_iff, only_3072]; exact eq_comm
theorem bare_385 (C : Cm) : decide ((⟨C.k, C.i, C.s, false, 0, false, [], false, false, C.c, C.b, 0, 0, 0, 0⟩ : Cm) = C) = C.only 385 := by rw [Bool.eq_iff_iff, decide_eq_true_iff, only_385]; exact eq_comm
theorem bare_768 (C : Cm) : decide ((⟨C.k, 0, 0, false, 0, false, [], false, false, false, C.b, C.e, 0, 0, 0⟩ : Cm) = C) = C.only 768 := by rw [Bool.eq_iff_iff, decide_eq_true_iff, only_768]; exact eq_comm
theorem bare_135 (C : Cm) : decide ((⟨C.k, C.i, C.s, C.z, C.n, false, [], false, false, C.c, 0, 0, 0, 0, 0⟩ : Cm) = C) = C.only 135 := by rw [Bool.eq_iff_iff, decide_eq_true_iff, only_135]; exact eq_comm
theorem bare_112 (C : Cm) : decide ((⟨C.k, 0, 0, false, 0, false, C.d, C.t, C.l, false, 0, 0, 0, 0, 0⟩ : Cm) = C) = C.only 112 := by rw [Bool.eq_iff_iff, decide_eq_true_iff, only_112]; exact eq_comm
end Go.Proofs.Ytlnlejdjekbipaa
