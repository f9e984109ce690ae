/-
  The walks of the document's bit, plain, put, placed, filled.
-/
import Derived.Test.YtlnlejdjekbipaaSc
import Derived.Test.YtlnlejdjekbipaaSe
namespace Go.Proofs.Ytlnlejdjekbipaa
open Go.RowKit

/-- A number, if something is so. -/
def bitn (on : Bool) (x : Int) : Int := if on then x else 0
theorem rbit_any (on : Bool) (x : Int) (w : World) : Calls Try.prog 34 #[.bool on, .int .i64 x] w fun e w' => e = .returned (.int .i64 (bitn on x)) ∧ w' = w := by
  cases on
  · go_enter Try.func34, Try.ntmps34
    go_wp2
    go_ret
    exact ⟨rfl, rfl⟩
  · go_enter Try.func34, Try.ntmps34
    go_wp2
    go_ret
    exact ⟨rfl, rfl⟩
set_option linter.unusedSimpArgs false in
set_option maxHeartbeats 4000000 in
set_option maxRecDepth 100000 in
theorem plain_any (x : Int) (w : World) : Calls Try.prog 33 #[.int .i64 x] w fun e w' => e = .returned (arr8 (x % 256) 0 0 0 0 0 0 0) ∧ ∃ o1 o2, w' = (w.alloc o1).alloc o2 := by
  have e1 := wrap8 x
  go_enter Try.func33, Try.ntmps33
  go_wp2_with fail
  exact bodyPost_ret (v := arr8 (x % 256) 0 0 0 0 0 0 0) (by simp [results, Try.results33, go_sem]) rfl ⟨rfl, _, _, rfl⟩

set_option linter.unusedSimpArgs false in
set_option maxHeartbeats 4000000 in
set_option maxRecDepth 100000 in
theorem put12 (b0 b1 b2 b3 b4 b5 b6 b7 x : Int) (hx : 0 ≤ x ∧ x < 65536) (w : World) :
    Calls Try.prog 74 #[arr8 b0 b1 b2 b3 b4 b5 b6 b7, .int .i64 1, .int .i64 2, .int .u32 x] w fun e w' => e = .returned (.agg (ar8 (b0) (x % 256) (x / 256) (b3) (b4) (b5) (b6) (b7))) ∧ ∃ o1 o2, w' = (w.alloc o1).alloc o2 := by
  obtain ⟨x0, x1⟩ := hx
  have e0 : IntKind.u8.wrap x = x % 256 := wrap8 x
  have e1 : IntKind.u8.wrap (x / 256) = x / 256 := by rw [wrap8]; omega
  go_enter Try.func74, Try.ntmps74
  go_wp2_with fail
  go_loopw [9] (fun i wr => (i = .int .i64 0 ∧ wr = (w.alloc (.cells (ar8 (b0) (b1) (b2) (b3) (b4) (b5) (b6) (b7)) 31)).alloc (.cells (ar8 0 0 0 0 0 0 0 0) 31)) ∨ (i = .int .i64 1 ∧ wr = (w.alloc (.cells (ar8 (b0) (x % 256) (b2) (b3) (b4) (b5) (b6) (b7)) 31)).alloc (.cells (ar8 0 0 0 0 0 0 0 0) 31)) ∨ (i = .int .i64 2 ∧ wr = (w.alloc (.cells (ar8 (b0) (x % 256) (x / 256) (b3) (b4) (b5) (b6) (b7)) 31)).alloc (.cells (ar8 0 0 0 0 0 0 0 0) 31))) (fun i _ => 2 - (intOf i).toNat)
  case atStart => exact Or.inl ⟨rfl, rfl⟩
  case round =>
    rcases hrel with ⟨rfl, rfl⟩ | ⟨rfl, rfl⟩ | ⟨rfl, rfl⟩
    · go_wp2_with fail
      exact ⟨by simp, by decide⟩
    · go_wp2_with fail
      exact ⟨by simp, by decide⟩
    · go_wp2_with fail
      exact bodyPost_ret (v := .agg (ar8 (b0) (x % 256) (x / 256) (b3) (b4) (b5) (b6) (b7))) (by simp [results, Try.results74, go_sem]) rfl ⟨rfl, _, _, rfl⟩
#print axioms put12

set_option linter.unusedSimpArgs false in
set_option maxHeartbeats 4000000 in
set_option maxRecDepth 100000 in
theorem put44 (b0 b1 b2 b3 b4 b5 b6 b7 x : Int) (hx : 0 ≤ x ∧ x < 4294967296) (w : World) :
    Calls Try.prog 74 #[arr8 b0 b1 b2 b3 b4 b5 b6 b7, .int .i64 4, .int .i64 4, .int .u32 x] w fun e w' => e = .returned (.agg (ar8 (b0) (b1) (b2) (b3) (x % 256) (x / 256 % 256) (x / 65536 % 256) (x / 16777216))) ∧ ∃ o1 o2, w' = (w.alloc o1).alloc o2 := by
  obtain ⟨x0, x1⟩ := hx
  have e0 : IntKind.u8.wrap x = x % 256 := wrap8 x
  have e1 : IntKind.u8.wrap (x / 256) = x / 256 % 256 := by rw [wrap8]
  have e2 : IntKind.u8.wrap (x / 65536) = x / 65536 % 256 := by rw [wrap8]
  have e3 : IntKind.u8.wrap (x / 16777216) = x / 16777216 := by rw [wrap8]; omega
  go_enter Try.func74, Try.ntmps74
  go_wp2_with fail
  go_loopw [9] (fun i wr => (i = .int .i64 0 ∧ wr = (w.alloc (.cells (ar8 (b0) (b1) (b2) (b3) (b4) (b5) (b6) (b7)) 31)).alloc (.cells (ar8 0 0 0 0 0 0 0 0) 31)) ∨ (i = .int .i64 1 ∧ wr = (w.alloc (.cells (ar8 (b0) (b1) (b2) (b3) (x % 256) (b5) (b6) (b7)) 31)).alloc (.cells (ar8 0 0 0 0 0 0 0 0) 31)) ∨ (i = .int .i64 2 ∧ wr = (w.alloc (.cells (ar8 (b0) (b1) (b2) (b3) (x % 256) (x / 256 % 256) (b6) (b7)) 31)).alloc (.cells (ar8 0 0 0 0 0 0 0 0) 31)) ∨ (i = .int .i64 3 ∧ wr = (w.alloc (.cells (ar8 (b0) (b1) (b2) (b3) (x % 256) (x / 256 % 256) (x / 65536 % 256) (b7)) 31)).alloc (.cells (ar8 0 0 0 0 0 0 0 0) 31)) ∨ (i = .int .i64 4 ∧ wr = (w.alloc (.cells (ar8 (b0) (b1) (b2) (b3) (x % 256) (x / 256 % 256) (x / 65536 % 256) (x / 16777216)) 31)).alloc (.cells (ar8 0 0 0 0 0 0 0 0) 31))) (fun i _ => 4 - (intOf i).toNat)
  case atStart => exact Or.inl ⟨rfl, rfl⟩
  case round =>
    rcases hrel with ⟨rfl, rfl⟩ | ⟨rfl, rfl⟩ | ⟨rfl, rfl⟩ | ⟨rfl, rfl⟩ | ⟨rfl, rfl⟩
    · go_wp2_with fail
      exact ⟨by simp, by decide⟩
    · go_wp2_with fail
      exact ⟨by simp, by decide⟩
    · go_wp2_with fail
      exact ⟨by simp, by decide⟩
    · go_wp2_with fail
      exact ⟨by simp, by decide⟩
    · go_wp2_with fail
      exact bodyPost_ret (v := .agg (ar8 (b0) (b1) (b2) (b3) (x % 256) (x / 256 % 256) (x / 65536 % 256) (x / 16777216))) (by simp [results, Try.results74, go_sem]) rfl ⟨rfl, _, _, rfl⟩
#print axioms put44

set_option linter.unusedSimpArgs false in
set_option maxHeartbeats 4000000 in
set_option maxRecDepth 100000 in
theorem placed_any (x i s : Int) (hi : 0 ≤ i ∧ i < 65536) (w : World) :
    Calls Try.prog 59 #[.int .i64 x, .agg #[.int .u16 i, .int .u8 s]] w fun e w' => e = .returned (arr8 (x % 256) (i % 256) (i / 256) s 0 0 0 0) ∧ ∃ o1 o2 o3 o4 o5, w' = ((((w.alloc o1).alloc o2).alloc o3).alloc o4).alloc o5 := by
  have e1 := wrap8 x
  have i0 := hi.1
  have i1 := hi.2
  have e2 : IntKind.u32.wrap i = i := by simp [IntKind.wrap, IntKind.bits, IntKind.signed]; omega
  go_enter Try.func59, Try.ntmps59
  go_wp2_with fail
  with_reducible refine (put12 _ _ _ _ _ _ _ _ _ hi _).mono ?_
  rintro r w1 ⟨rfl, q1, q2, rfl⟩
  go_wp2_with fail
  exact bodyPost_ret (v := arr8 (x % 256) (i % 256) (i / 256) s 0 0 0 0) (by simp [results, Try.results59, go_sem]) rfl ⟨rfl, _, _, _, _, _, rfl⟩
#print axioms placed_any

end Go.Proofs.Ytlnlejdjekbipaa
