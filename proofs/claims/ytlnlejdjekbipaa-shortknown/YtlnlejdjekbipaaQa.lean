/-
  The walks of the document's number.
  What the document's fields tell.
-/
import Derived.Test.YtlnlejdjekbipaaSc
import Derived.Test.YtlnlejdjekbipaaRe
namespace Go.Proofs.Ytlnlejdjekbipaa
open Go.RowKit

theorem w32 (x : Int) (h0 : 0 ≤ x) (h1 : x < 4294967296) : IntKind.u32.wrap x = x := by simp [IntKind.wrap, IntKind.bits, IntKind.signed]; omega
set_option linter.unusedSimpArgs false in
set_option maxHeartbeats 4000000 in
set_option maxRecDepth 100000 in
theorem number12 (b0 b1 b2 b3 b4 b5 b6 b7 : Int) (h1 : 0 ≤ b1 ∧ b1 < 256) (h2 : 0 ≤ b2 ∧ b2 < 256) (w : World) :
    Calls Try.prog 66 #[arr8 b0 b1 b2 b3 b4 b5 b6 b7, .int .i64 1, .int .i64 2] w fun e w' => e = .returned (.int .u32 (b1 + 256 * b2)) ∧ ∃ o1, w' = w.alloc o1 := by
  have v1 := w32 b1 (by omega) (by omega)
  have v2 := w32 b2 (by omega) (by omega)
  obtain ⟨N0, hN0⟩ : ∃ N, b2 * 256 + b1 = N := ⟨_, rfl⟩
  have p0 := w32 (b2 * 256) (by omega) (by omega)
  have q0 : IntKind.u32.wrap (b2 * 256 + b1) = N0 := by rw [hN0]; exact w32 _ (by omega) (by omega)
  have hR : b1 + 256 * b2 = N0 := by omega
  rw [hR]
  clear hR hN0 h1 h2
  go_enter Try.func66, Try.ntmps66
  go_wp2_with fail
  go_loopw [7, 8] (fun x i wr => (x = .int .u32 0 ∧ i = .int .i64 (1) ∧ wr = (w.alloc (.cells (ar8 b0 b1 b2 b3 b4 b5 b6 b7) 31))) ∨ (x = .int .u32 b2 ∧ i = .int .i64 (0) ∧ wr = (w.alloc (.cells (ar8 b0 b1 b2 b3 b4 b5 b6 b7) 31))) ∨ (x = .int .u32 N0 ∧ i = .int .i64 (-1) ∧ wr = (w.alloc (.cells (ar8 b0 b1 b2 b3 b4 b5 b6 b7) 31)))) (fun _ i _ => (intOf i + 1).toNat)
  case atStart => exact Or.inl ⟨rfl, rfl, rfl⟩
  case round =>
    rcases hrel with ⟨rfl, rfl, rfl⟩ | ⟨rfl, rfl, rfl⟩ | ⟨rfl, rfl, rfl⟩
    · go_wp2_with fail
      exact ⟨by simp, by decide⟩
    · go_wp2_with fail
      exact ⟨by simp, by decide⟩
    · go_wp2_with fail
      go_ret
      exact ⟨rfl, _, rfl⟩
#print axioms number12

set_option linter.unusedSimpArgs false in
set_option maxHeartbeats 4000000 in
set_option maxRecDepth 100000 in
theorem number44 (b0 b1 b2 b3 b4 b5 b6 b7 : Int) (h4 : 0 ≤ b4 ∧ b4 < 256) (h5 : 0 ≤ b5 ∧ b5 < 256) (h6 : 0 ≤ b6 ∧ b6 < 256) (h7 : 0 ≤ b7 ∧ b7 < 256) (w : World) :
    Calls Try.prog 66 #[arr8 b0 b1 b2 b3 b4 b5 b6 b7, .int .i64 4, .int .i64 4] w fun e w' => e = .returned (.int .u32 (b4 + 256 * b5 + 65536 * b6 + 16777216 * b7)) ∧ ∃ o1, w' = w.alloc o1 := by
  have v4 := w32 b4 (by omega) (by omega)
  have v5 := w32 b5 (by omega) (by omega)
  have v6 := w32 b6 (by omega) (by omega)
  have v7 := w32 b7 (by omega) (by omega)
  obtain ⟨N2, hN2⟩ : ∃ N, b7 * 256 + b6 = N := ⟨_, rfl⟩
  have p2 := w32 (b7 * 256) (by omega) (by omega)
  have q2 : IntKind.u32.wrap (b7 * 256 + b6) = N2 := by rw [hN2]; exact w32 _ (by omega) (by omega)
  obtain ⟨N1, hN1⟩ : ∃ N, N2 * 256 + b5 = N := ⟨_, rfl⟩
  have p1 := w32 (N2 * 256) (by omega) (by omega)
  have q1 : IntKind.u32.wrap (N2 * 256 + b5) = N1 := by rw [hN1]; exact w32 _ (by omega) (by omega)
  obtain ⟨N0, hN0⟩ : ∃ N, N1 * 256 + b4 = N := ⟨_, rfl⟩
  have p0 := w32 (N1 * 256) (by omega) (by omega)
  have q0 : IntKind.u32.wrap (N1 * 256 + b4) = N0 := by rw [hN0]; exact w32 _ (by omega) (by omega)
  have hR : b4 + 256 * b5 + 65536 * b6 + 16777216 * b7 = N0 := by omega
  rw [hR]
  clear hR hN0 hN1 hN2 h4 h5 h6 h7
  go_enter Try.func66, Try.ntmps66
  go_wp2_with fail
  go_loopw [7, 8] (fun x i wr => (x = .int .u32 0 ∧ i = .int .i64 (3) ∧ wr = (w.alloc (.cells (ar8 b0 b1 b2 b3 b4 b5 b6 b7) 31))) ∨ (x = .int .u32 b7 ∧ i = .int .i64 (2) ∧ wr = (w.alloc (.cells (ar8 b0 b1 b2 b3 b4 b5 b6 b7) 31))) ∨ (x = .int .u32 N2 ∧ i = .int .i64 (1) ∧ wr = (w.alloc (.cells (ar8 b0 b1 b2 b3 b4 b5 b6 b7) 31))) ∨ (x = .int .u32 N1 ∧ i = .int .i64 (0) ∧ wr = (w.alloc (.cells (ar8 b0 b1 b2 b3 b4 b5 b6 b7) 31))) ∨ (x = .int .u32 N0 ∧ i = .int .i64 (-1) ∧ wr = (w.alloc (.cells (ar8 b0 b1 b2 b3 b4 b5 b6 b7) 31)))) (fun _ i _ => (intOf i + 1).toNat)
  case atStart => exact Or.inl ⟨rfl, rfl, rfl⟩
  case round =>
    rcases hrel with ⟨rfl, rfl, rfl⟩ | ⟨rfl, rfl, rfl⟩ | ⟨rfl, rfl, rfl⟩ | ⟨rfl, rfl, rfl⟩ | ⟨rfl, rfl, rfl⟩
    · go_wp2_with fail
      exact ⟨by simp, by decide⟩
    · go_wp2_with fail
      exact ⟨by simp, by decide⟩
    · go_wp2_with fail
      exact ⟨by simp, by decide⟩
    · go_wp2_with fail
      exact ⟨by simp, by decide⟩
    · go_wp2_with fail
      go_ret
      exact ⟨rfl, _, rfl⟩
#print axioms number44

end Go.Proofs.Ytlnlejdjekbipaa
namespace Go.Proofs.Ytlnlejdjekbipaa
open Go.RowKit

/-- Of a guess the fields that a kind has, in one of its forms. -/
def fieldsP (g : Cm) (y : B8) : Nat → Cm
  | 0 => ⟨g.k, g.i, g.s, false, 0, false, [], false, false, false, 0, 0, 0, 0, 0⟩
  | 1 => ⟨g.k, g.i, g.s, g.z, 0, true, [y.b4, y.b5, y.b6, y.b7].take g.b.toNat, false, false, false, 0, 0, 0, 0, 0⟩
  | 2 => ⟨g.k, g.i, g.s, g.z, g.n, false, [], false, false, g.c, 0, 0, 0, 0, 0⟩
  | 3 => ⟨g.k, 0, 0, false, 0, false, [y.b1, y.b2, y.b3, y.b4, y.b5, y.b6, y.b7].take g.b.toNat, g.t, g.l, false, 0, 0, 0, 0, 0⟩
  | 4 => ⟨g.k, 0, 0, false, 0, false, [], g.t, false, false, 0, 0, 0, 0, 0⟩
  | 5 => ⟨g.k, g.i, g.s, false, 0, false, [], false, false, false, 0, 0, 0, 0, g.o⟩
  | 6 => ⟨g.k, g.i, g.s, false, 0, false, [], false, false, g.c, y.b4, 0, 0, 0, 0⟩
  | 7 => ⟨g.k, 0, 0, false, 0, false, [], false, false, false, y.b2, y.b1, 0, 0, 0⟩
  | 8 => ⟨g.k, 0, 0, false, 0, false, [], false, false, false, 0, 0, y.b1 + 256 * y.b2, y.b0 / 4 % 8, 0⟩
  | _ => ⟨g.k, 0, 0, false, 0, false, [], false, false, false, 0, 0, 0, 0, 0⟩
/-- What it tells: a command, its data a row of bytes. -/
def FPost (w : World) (c : Cm) (r : Ending) (w' : World) : Prop := ∃ a cap, r = .returned (c.v a c.d.length cap) ∧ Row w' a c.d.length c.d ∧ (∀ b off, a = some ⟨b, off, none⟩ → w.heap.size ≤ b) ∧ Below w.heap.size w w'
end Go.Proofs.Ytlnlejdjekbipaa
