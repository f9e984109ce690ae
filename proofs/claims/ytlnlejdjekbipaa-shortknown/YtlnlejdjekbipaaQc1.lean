/-
  The walks of the document's fields, in forms without data.
  The walks of the document's fields, in forms without data.
  The walks of the document's fields, in forms without data.
  The walks of the document's fields, in forms without data.
-/
import Derived.Test.YtlnlejdjekbipaaQa
namespace Go.Proofs.Ytlnlejdjekbipaa
open Go.RowKit

set_option linter.unusedVariables false in
set_option linter.unusedSimpArgs false in
set_option maxHeartbeats 4000000 in
set_option maxRecDepth 100000 in
theorem fields_0 (k i s : Int) (z : Bool) (n : Int) (q t l c : Bool) (nn o b0 b1 b2 b3 b4 b5 b6 b7 : Int) (w : World) :
    Calls Try.prog 28 #[cmV k i s z n q none 0 0 t l c nn 0 0 0 o, arr8 b0 b1 b2 b3 b4 b5 b6 b7, .int .i64 0] w (FPost w (fieldsP ⟨k, i, s, z, n, q, [], t, l, c, nn, 0, 0, 0, o⟩ ⟨b0, b1, b2, b3, b4, b5, b6, b7⟩ 0)) := by
  go_enter Try.func28, Try.ntmps28
  go_wp2_with fail
  exact bodyPost_ret (v := cmV k i s false 0 false none 0 0 false false false 0 0 0 0 0) (by simp [results, Try.results28, go_sem]) rfl ⟨_, _, rfl, row_nil _, (fun _ _ h => by cases h), (by repeat (first | exact Below.refl _ _ | apply Below.drew | apply Below.al))⟩

set_option linter.unusedVariables false in
set_option linter.unusedSimpArgs false in
set_option maxHeartbeats 4000000 in
set_option maxRecDepth 100000 in
theorem fields_2 (k i s : Int) (z : Bool) (n : Int) (q t l c : Bool) (nn o b0 b1 b2 b3 b4 b5 b6 b7 : Int) (w : World) :
    Calls Try.prog 28 #[cmV k i s z n q none 0 0 t l c nn 0 0 0 o, arr8 b0 b1 b2 b3 b4 b5 b6 b7, .int .i64 2] w (FPost w (fieldsP ⟨k, i, s, z, n, q, [], t, l, c, nn, 0, 0, 0, o⟩ ⟨b0, b1, b2, b3, b4, b5, b6, b7⟩ 2)) := by
  go_enter Try.func28, Try.ntmps28
  go_wp2_with fail
  exact bodyPost_ret (v := cmV k i s z n false none 0 0 false false c 0 0 0 0 0) (by simp [results, Try.results28, go_sem]) rfl ⟨_, _, rfl, row_nil _, (fun _ _ h => by cases h), (by repeat (first | exact Below.refl _ _ | apply Below.drew | apply Below.al))⟩

end Go.Proofs.Ytlnlejdjekbipaa
namespace Go.Proofs.Ytlnlejdjekbipaa
open Go.RowKit

set_option linter.unusedVariables false in
set_option linter.unusedSimpArgs false in
set_option maxHeartbeats 4000000 in
set_option maxRecDepth 100000 in
theorem fields_4 (k i s : Int) (z : Bool) (n : Int) (q t l c : Bool) (nn o b0 b1 b2 b3 b4 b5 b6 b7 : Int) (w : World) :
    Calls Try.prog 28 #[cmV k i s z n q none 0 0 t l c nn 0 0 0 o, arr8 b0 b1 b2 b3 b4 b5 b6 b7, .int .i64 4] w (FPost w (fieldsP ⟨k, i, s, z, n, q, [], t, l, c, nn, 0, 0, 0, o⟩ ⟨b0, b1, b2, b3, b4, b5, b6, b7⟩ 4)) := by
  go_enter Try.func28, Try.ntmps28
  go_wp2_with fail
  exact bodyPost_ret (v := cmV k 0 0 false 0 false none 0 0 t false false 0 0 0 0 0) (by simp [results, Try.results28, go_sem]) rfl ⟨_, _, rfl, row_nil _, (fun _ _ h => by cases h), (by repeat (first | exact Below.refl _ _ | apply Below.drew | apply Below.al))⟩

set_option linter.unusedVariables false in
set_option linter.unusedSimpArgs false in
set_option maxHeartbeats 4000000 in
set_option maxRecDepth 100000 in
theorem fields_5 (k i s : Int) (z : Bool) (n : Int) (q t l c : Bool) (nn o b0 b1 b2 b3 b4 b5 b6 b7 : Int) (w : World) :
    Calls Try.prog 28 #[cmV k i s z n q none 0 0 t l c nn 0 0 0 o, arr8 b0 b1 b2 b3 b4 b5 b6 b7, .int .i64 5] w (FPost w (fieldsP ⟨k, i, s, z, n, q, [], t, l, c, nn, 0, 0, 0, o⟩ ⟨b0, b1, b2, b3, b4, b5, b6, b7⟩ 5)) := by
  go_enter Try.func28, Try.ntmps28
  go_wp2_with fail
  exact bodyPost_ret (v := cmV k i s false 0 false none 0 0 false false false 0 0 0 0 o) (by simp [results, Try.results28, go_sem]) rfl ⟨_, _, rfl, row_nil _, (fun _ _ h => by cases h), (by repeat (first | exact Below.refl _ _ | apply Below.drew | apply Below.al))⟩

end Go.Proofs.Ytlnlejdjekbipaa
namespace Go.Proofs.Ytlnlejdjekbipaa
open Go.RowKit

set_option linter.unusedVariables false in
set_option linter.unusedSimpArgs false in
set_option maxHeartbeats 4000000 in
set_option maxRecDepth 100000 in
theorem fields_6 (k i s : Int) (z : Bool) (n : Int) (q t l c : Bool) (nn o b0 b1 b2 b3 b4 b5 b6 b7 : Int) (h4 : 0 ≤ b4 ∧ b4 < 256) (w : World) :
    Calls Try.prog 28 #[cmV k i s z n q none 0 0 t l c nn 0 0 0 o, arr8 b0 b1 b2 b3 b4 b5 b6 b7, .int .i64 6] w (FPost w (fieldsP ⟨k, i, s, z, n, q, [], t, l, c, nn, 0, 0, 0, o⟩ ⟨b0, b1, b2, b3, b4, b5, b6, b7⟩ 6)) := by
  have e4 : IntKind.i64.wrap b4 = b4 := wrapI64 _ (by omega) (by omega)
  clear h4
  go_enter Try.func28, Try.ntmps28
  go_wp2_with fail
  exact bodyPost_ret (v := cmV k i s false 0 false none 0 0 false false c b4 0 0 0 0) (by simp [results, Try.results28, go_sem]) rfl ⟨_, _, rfl, row_nil _, (fun _ _ h => by cases h), (by repeat (first | exact Below.refl _ _ | apply Below.drew | apply Below.al))⟩

set_option linter.unusedVariables false in
set_option linter.unusedSimpArgs false in
set_option maxHeartbeats 4000000 in
set_option maxRecDepth 100000 in
theorem fields_7 (k i s : Int) (z : Bool) (n : Int) (q t l c : Bool) (nn o b0 b1 b2 b3 b4 b5 b6 b7 : Int) (h1 : 0 ≤ b1 ∧ b1 < 256) (h2 : 0 ≤ b2 ∧ b2 < 256) (w : World) :
    Calls Try.prog 28 #[cmV k i s z n q none 0 0 t l c nn 0 0 0 o, arr8 b0 b1 b2 b3 b4 b5 b6 b7, .int .i64 7] w (FPost w (fieldsP ⟨k, i, s, z, n, q, [], t, l, c, nn, 0, 0, 0, o⟩ ⟨b0, b1, b2, b3, b4, b5, b6, b7⟩ 7)) := by
  have e1 : IntKind.i64.wrap b1 = b1 := wrapI64 _ (by omega) (by omega)
  have e2 : IntKind.i64.wrap b2 = b2 := wrapI64 _ (by omega) (by omega)
  clear h1 h2
  go_enter Try.func28, Try.ntmps28
  go_wp2_with fail
  exact bodyPost_ret (v := cmV k 0 0 false 0 false none 0 0 false false false b2 b1 0 0 0) (by simp [results, Try.results28, go_sem]) rfl ⟨_, _, rfl, row_nil _, (fun _ _ h => by cases h), (by repeat (first | exact Below.refl _ _ | apply Below.drew | apply Below.al))⟩

end Go.Proofs.Ytlnlejdjekbipaa
namespace Go.Proofs.Ytlnlejdjekbipaa
open Go.RowKit

set_option linter.unusedVariables false in
set_option linter.unusedSimpArgs false in
set_option maxHeartbeats 4000000 in
set_option maxRecDepth 100000 in
theorem fields_9 (k i s : Int) (z : Bool) (n : Int) (q t l c : Bool) (nn o b0 b1 b2 b3 b4 b5 b6 b7 : Int) (w : World) :
    Calls Try.prog 28 #[cmV k i s z n q none 0 0 t l c nn 0 0 0 o, arr8 b0 b1 b2 b3 b4 b5 b6 b7, .int .i64 9] w (FPost w (fieldsP ⟨k, i, s, z, n, q, [], t, l, c, nn, 0, 0, 0, o⟩ ⟨b0, b1, b2, b3, b4, b5, b6, b7⟩ 9)) := by
  go_enter Try.func28, Try.ntmps28
  go_wp2_with fail
  exact bodyPost_ret (v := cmV k 0 0 false 0 false none 0 0 false false false 0 0 0 0 0) (by simp [results, Try.results28, go_sem]) rfl ⟨_, _, rfl, row_nil _, (fun _ _ h => by cases h), (by repeat (first | exact Below.refl _ _ | apply Below.drew | apply Below.al))⟩

end Go.Proofs.Ytlnlejdjekbipaa
