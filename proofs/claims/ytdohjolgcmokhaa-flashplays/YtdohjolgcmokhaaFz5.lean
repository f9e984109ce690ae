/-
  The walk of one: a call, of both.
-/
import Derived.Test.YtdohjolgcmokhaaFz3
import Derived.Test.YtdohjolgcmokhaaFz4
import Derived.Test.YtdohjolgcmokhaaFr5
namespace Go.Proofs.Ytdohjolgcmokhaa
open Go.RowKit

/-- A flash and the document's, in one state. -/
structure IsP (w : World) (n p B c q D c' : Nat) (s : FS) : Prop where
  f : IsS w p B n c s
  d : IsD w q D n c' s
  pq : p ≠ q
  pD : p ≠ D
  Bq : B ≠ q
  BD : B ≠ D
theorem IsP.kp {w : World} {n p B c q D c' : Nat} {s : FS} (h : IsP w n p B c q D c' s) {w' : World} {S : List Nat} (k : Kp S w w') (hS : ∀ i ∈ S, i ≠ p ∧ i ≠ B ∧ i ≠ q ∧ i ≠ D) : IsP w' n p B c q D c' s :=
  ⟨h.f.kp k (fun e => (hS _ e).1 rfl) (fun e => (hS _ e).2.1 rfl), h.d.kp k (fun e => (hS _ e).2.2.1 rfl) (fun e => (hS _ e).2.2.2 rfl), h.pq, h.pD, h.Bq, h.BD⟩
theorem IsP.next {w : World} {n p B c q D c' : Nat} {s : FS} (h : IsP w n p B c q D c' s) {w' : World} (k : Below w.heap.size w w') : IsP w' n p B c q D c' s := h.kp (Kp.of (S := []) k) (by simp)
theorem IsP.dz {w : World} {n p B c q D c' : Nat} {s : FS} (h : IsP w n p B c q D c' s) {w1 z : World} (k0 : Kp [] w w1) (k : Kp [p, B] w1 z) : IsD z q D n c' s :=
  (h.d.kp k0 (by simp) (by simp)).kp k (by simp; exact ⟨h.pq.symm, h.Bq.symm⟩) (by simp; exact ⟨h.pD.symm, h.BD.symm⟩)
theorem IsP.mk2 {w : World} {n p B c q D c' : Nat} {s : FS} (h : IsP w n p B c q D c' s) {w1 z y : World} {s2 : FS} (k0 : Kp [] w w1) (kz : Kp [p, B] w1 z) (fz : IsS z p B n c s2) (ky : Kp [q, D] z y) (dy : IsD y q D n c' s2) : IsP y n p B c q D c' s2 ∧ Kp [p, B, q, D] w y :=
  ⟨⟨fz.kp ky (by simp; exact ⟨h.pq, h.pD⟩) (by simp; exact ⟨h.Bq, h.BD⟩), dy, h.pq, h.pD, h.Bq, h.BD⟩, ((k0.more (by simp)).trans (kz.more (by simp))).trans (ky.more (by simp))⟩
theorem word_both (n : Nat) (s : FS) (k d : Int) : ∃ q0 q1 q2 q3 E : Int, (∀ (w : World) (p B c : Nat), IsS w p B n c s → Calls Try.prog 20 #[.pointer (some ⟨p, 0, none⟩), .int .i64 k, .int .i64 d] w fun e w' => e = .returned (.tuple #[.agg (w4 q0 q1 q2 q3), .int .i64 E]) ∧ Below w.heap.size w w') ∧ (∀ (w : World) (q D c : Nat), IsD w q D n c s → Calls Try.prog 34 #[.pointer (some ⟨q, 0, none⟩), .int .i64 k, .int .i64 d] w fun e w' => e = .returned (.tuple #[.agg (w4 q0 q1 q2 q3), .int .i64 E]) ∧ Below w.heap.size w w') := by
  by_cases hb : refE s.of n k d ≠ 0
  · exact ⟨0, 0, 0, 0, refE s.of n k d, fun w p B c h => word_bad h k d hb, fun w q D c h => wordD_bad h k d hb⟩
  · obtain ⟨ho, k', d', rfl, rfl, hk, hd⟩ := refE_zero (Classical.not_not.1 hb)
    exact ⟨_, _, _, _, 0, fun w p B c h => word_ok h k' d' hk hd ho, fun w q D c h => wordD_ok h k' d' hk hd ho⟩

set_option linter.unusedSimpArgs false in
set_option maxHeartbeats 4000000 in
set_option maxRecDepth 100000 in
theorem one3 {w : World} {n p B c q D c' : Nat} {s : FS} (h : IsP w n p B c q D c' s) {m : Nat} (hm : s.Le m) (hm2 : m ≤ 1000) (x : Opv) (hx : x.Ok) (hk : x.k % 9 = 3) :
    Calls Try.prog 14 #[.pointer (some ⟨p, 0, none⟩), .pointer (some ⟨q, 0, none⟩), .agg #[.int .u8 x.k, .int .i64 x.A, .int .i64 x.B, .int .u8 x.w0, .int .u8 x.w1, .int .u8 x.w2, .int .u8 x.w3]] w fun e w' => e = .returned (.bool true) ∧ ∃ s', IsP w' n p B c q D c' s' ∧ s'.Le (m + 1) ∧ Kp [p, B, q, D] w w' := by
  have km := Int.tmod_eq_emod_of_nonneg (b := 9) hx.k0
  have F1 : Hid (∀ z, Kp [] w z → Calls Try.prog 17 #[.pointer (some ⟨p, 0, none⟩), .int .i64 x.A] z fun e w' => e = .returned (.int .i64 (s.erase n x.A).1) ∧ IsS w' p B n c (s.erase n x.A).2 ∧ Kp [p, B] z w') := fun z k => erase_any (h.f.kp k (by simp) (by simp)) (hm.ok (by omega)) x.A
  have F2 : Hid (∀ z1 z, Kp [] w z1 → Kp [p, B] z1 z → Calls Try.prog 31 #[.pointer (some ⟨q, 0, none⟩), .int .i64 x.A] z fun e w' => e = .returned (.int .i64 (s.erase n x.A).1) ∧ IsD w' q D n c' (s.erase n x.A).2 ∧ Kp [q, D] z w') := fun z1 z k0 k => eraseD_any (h.dz k0 k) (hm.ok (by omega)) x.A
  have LE : Hid (FS.Le (s.erase n x.A).2 (m + 1)) := hm.erase n x.A
  have MK : Hid (∀ z1 z y, Kp [] w z1 → Kp [p, B] z1 z → IsS z p B n c (s.erase n x.A).2 → Kp [q, D] z y → IsD y q D n c' (s.erase n x.A).2 → IsP y n p B c q D c' (s.erase n x.A).2 ∧ Kp [p, B, q, D] w y) := fun z1 z y k0 kz fz ky dy => h.mk2 k0 kz fz ky dy
  have NB : w.heap.size ≠ p ∧ w.heap.size ≠ B ∧ w.heap.size ≠ q ∧ w.heap.size ≠ D := by have := h.f.lt; have := h.d.lt; omega
  have K1 : Kp [] w (w.alloc (.cells #[.int .u8 x.k, .int .i64 x.A, .int .i64 x.B, .int .u8 x.w0, .int .u8 x.w1, .int .u8 x.w2, .int .u8 x.w3] 34)) := Kp.al (Kp.refl _ _) _
  generalize s.erase n x.A = RA at *
  obtain ⟨E, T⟩ := RA
  dsimp only at *
  have ee : (E == E) = true := by simp
  have R1 : x.k.tmod 9 = 3 := by rw [km]; exact hk
  clear km hk h hm hx
  have K0 : Kp [] w (w.alloc (.cells #[.int .u8 x.k, .int .i64 x.A, .int .i64 x.B, .int .u8 x.w0, .int .u8 x.w1, .int .u8 x.w2, .int .u8 x.w3] 34)).drew := K1.drew
  have h1 : (w.alloc (.cells #[.int .u8 x.k, .int .i64 x.A, .int .i64 x.B, .int .u8 x.w0, .int .u8 x.w1, .int .u8 x.w2, .int .u8 x.w3] 34)).drew.cell? ⟨w.heap.size, 1, none⟩ = some (.int .i64 x.A) := by simp [go_sem]
  go_enter Try.func14, Try.ntmps14
  go_wp2_with fail
  refine wp_region_held_drew (S := fun y => y.cell? ⟨w.heap.size, 1, none⟩ = some (.int .i64 x.A)) (by kernel_rfl) (h1) (fun hHeld => ?_)
  refine wpAnyH_take (i := 0) (v := (.pointer (some ⟨p, 0, none⟩))) rfl (by kernel_rfl) (by kernel_rfl) (by kernel_rfl) (fun _ _ _ h => h) (Or.inl ⟨by rfl, ?_⟩) (by assumption) ?_
  · intro w9 hSw
    try dsimp only at hSw
    go_simp
    all_goals try decide
    all_goals try assumption
  try simp only [Act.put, List.getElem_toArray, List.getElem_cons_succ, List.getElem_cons_zero, List.setIfInBounds_toArray, List.set_cons_zero, List.set_cons_succ]
  refine wpAnyH_take (i := 1) (v := (.pointer (some ⟨w.heap.size, 1, none⟩))) rfl (by kernel_rfl) (by kernel_rfl) (by kernel_rfl) (fun _ _ _ h => h) (Or.inl ⟨by rfl, ?_⟩) (by assumption) ?_
  · intro w9 hSw
    try dsimp only at hSw
    go_simp
    all_goals try decide
    all_goals try assumption
  try simp only [Act.put, List.getElem_toArray, List.getElem_cons_succ, List.getElem_cons_zero, List.setIfInBounds_toArray, List.set_cons_zero, List.set_cons_succ]
  refine wpAnyH_take (i := 2) (v := (.int .i64 x.A)) rfl (by kernel_rfl) (by kernel_rfl) (by kernel_rfl) (fun _ _ _ h => h) (Or.inl ⟨by rfl, ?_⟩) (by assumption) ?_
  · intro w9 hSw
    try dsimp only at hSw
    go_simp
    all_goals try decide
    all_goals try assumption
  try simp only [Act.put, List.getElem_toArray, List.getElem_cons_succ, List.getElem_cons_zero, List.setIfInBounds_toArray, List.set_cons_zero, List.set_cons_succ]
  refine wpAnyH_take (i := 4) (v := (.pointer (some ⟨q, 0, none⟩))) rfl (by kernel_rfl) (by kernel_rfl) (by kernel_rfl) (fun _ _ _ h => h) (Or.inl ⟨by rfl, ?_⟩) (by assumption) ?_
  · intro w9 hSw
    try dsimp only at hSw
    go_simp
    all_goals try decide
    all_goals try assumption
  try simp only [Act.put, List.getElem_toArray, List.getElem_cons_succ, List.getElem_cons_zero, List.setIfInBounds_toArray, List.set_cons_zero, List.set_cons_succ]
  refine wpAnyH_take (i := 5) (v := (.pointer (some ⟨w.heap.size, 1, none⟩))) rfl (by kernel_rfl) (by kernel_rfl) (by kernel_rfl) (fun _ _ _ h => h) (Or.inl ⟨by rfl, ?_⟩) (by assumption) ?_
  · intro w9 hSw
    try dsimp only at hSw
    go_simp
    all_goals try decide
    all_goals try assumption
  try simp only [Act.put, List.getElem_toArray, List.getElem_cons_succ, List.getElem_cons_zero, List.setIfInBounds_toArray, List.set_cons_zero, List.set_cons_succ]
  refine wpAnyH_take (i := 6) (v := (.int .i64 x.A)) rfl (by kernel_rfl) (by kernel_rfl) (by kernel_rfl) (fun _ _ _ h => h) (Or.inl ⟨by rfl, ?_⟩) (by assumption) ?_
  · intro w9 hSw
    try dsimp only at hSw
    go_simp
    all_goals try decide
    all_goals try assumption
  try simp only [Act.put, List.getElem_toArray, List.getElem_cons_succ, List.getElem_cons_zero, List.setIfInBounds_toArray, List.set_cons_zero, List.set_cons_succ]
  refine wpAnyH_ready (rs := [3]) (by kernel_rfl) (by simp) ?_
  refine AllReadyH.cons rfl (fun K' hK => ?_) AllReadyH.nil
  rw [if_pos (by rfl)]
  simp only [List.getElem_toArray, List.getElem_cons_succ, List.getElem_cons_zero]
  go_wp2_with fail
  refine (F1.out _ K0).mono ?_
  rintro e z ⟨rfl, Sz, kz⟩
  try go_wp2_with fail
  refine hK.out _ _ (kz.cell h1 (by simp; omega)) (fun hHeld => ?_)
  clear hK K'
  try simp only [Act.put, List.getElem_toArray, List.getElem_cons_succ, List.getElem_cons_zero, List.setIfInBounds_toArray, List.set_cons_zero, List.set_cons_succ]
  refine wpAnyH_ready (rs := [7]) (by kernel_rfl) (by simp) ?_
  refine AllReadyH.cons rfl (fun K' hK => ?_) AllReadyH.nil
  rw [if_pos (by rfl)]
  simp only [List.getElem_toArray, List.getElem_cons_succ, List.getElem_cons_zero]
  go_wp2_with fail
  refine (F2.out _ _ K0 kz).mono ?_
  rintro e y ⟨rfl, Dy, ky⟩
  try go_wp2_with fail
  refine hK.out _ _ (ky.cell (kz.cell h1 (by simp; omega)) (by simp; omega)) (fun hHeld => ?_)
  clear hK K'
  try simp only [Act.put, List.getElem_toArray, List.getElem_cons_succ, List.getElem_cons_zero, List.setIfInBounds_toArray, List.set_cons_zero, List.set_cons_succ]
  refine wpAnyH_take (i := 8) (v := (.bool true)) rfl (by kernel_rfl) (by kernel_rfl) (by kernel_rfl) (fun _ _ _ h => h) (Or.inl ⟨by rfl, ?_⟩) (by assumption) ?_
  · intro w9 hSw
    try dsimp only at hSw
    go_simp
    all_goals try decide
    all_goals try assumption
  try simp only [Act.put, List.getElem_toArray, List.getElem_cons_succ, List.getElem_cons_zero, List.setIfInBounds_toArray, List.set_cons_zero, List.set_cons_succ]
  refine wpAnyH_take (i := 9) (v := (.bool true)) rfl (by kernel_rfl) (by kernel_rfl) (by kernel_rfl) (fun _ _ _ h => h) (Or.inl ⟨by rfl, ?_⟩) (by assumption) ?_
  · intro w9 hSw
    try dsimp only at hSw
    go_simp
    all_goals try decide
    all_goals try assumption
  try simp only [Act.put, List.getElem_toArray, List.getElem_cons_succ, List.getElem_cons_zero, List.setIfInBounds_toArray, List.set_cons_zero, List.set_cons_succ]
  refine wpAnyH_done (by kernel_rfl) ?_ _
  have RR := MK.out _ _ _ K0 kz Sz ky Dy
  go_wp2_with fail
  go_ret
  exact ⟨rfl, _, RR.1, LE.out, RR.2⟩

set_option linter.unusedSimpArgs false in
set_option maxHeartbeats 4000000 in
set_option maxRecDepth 100000 in
theorem oneW {w : World} {n p B c q D c' : Nat} {s : FS} (h : IsP w n p B c q D c' s) {m : Nat} (hm : s.Le m) (hm2 : m ≤ 1000) (x : Opv) (hx : x.Ok) (hk : x.k % 9 ≠ 3 ∧ x.k % 9 ≠ 4 ∧ x.k % 9 ≠ 5 ∧ x.k % 9 ≠ 6) :
    Calls Try.prog 14 #[.pointer (some ⟨p, 0, none⟩), .pointer (some ⟨q, 0, none⟩), .agg #[.int .u8 x.k, .int .i64 x.A, .int .i64 x.B, .int .u8 x.w0, .int .u8 x.w1, .int .u8 x.w2, .int .u8 x.w3]] w fun e w' => e = .returned (.bool true) ∧ ∃ s', IsP w' n p B c q D c' s' ∧ s'.Le (m + 1) ∧ Kp [p, B, q, D] w w' := by
  have km := Int.tmod_eq_emod_of_nonneg (b := 9) hx.k0
  have F1 : Hid (∀ z, Kp [] w z → Calls Try.prog 21 #[.pointer (some ⟨p, 0, none⟩), .int .i64 x.A, .int .i64 x.B, .agg #[.int .u8 x.w0, .int .u8 x.w1, .int .u8 x.w2, .int .u8 x.w3]] z fun e w' => e = .returned (.int .i64 (s.write n x.A x.B x.w0 x.w1 x.w2 x.w3).1) ∧ IsS w' p B n c (s.write n x.A x.B x.w0 x.w1 x.w2 x.w3).2 ∧ Kp [p, B] z w') := fun z k => write_any (h.f.kp k (by simp) (by simp)) (hm.ok (by omega)) x.A x.B x.w0 x.w1 x.w2 x.w3 hx.ow
  have F2 : Hid (∀ z1 z, Kp [] w z1 → Kp [p, B] z1 z → Calls Try.prog 35 #[.pointer (some ⟨q, 0, none⟩), .int .i64 x.A, .int .i64 x.B, .agg #[.int .u8 x.w0, .int .u8 x.w1, .int .u8 x.w2, .int .u8 x.w3]] z fun e w' => e = .returned (.int .i64 (s.write n x.A x.B x.w0 x.w1 x.w2 x.w3).1) ∧ IsD w' q D n c' (s.write n x.A x.B x.w0 x.w1 x.w2 x.w3).2 ∧ Kp [q, D] z w') := fun z1 z k0 k => writeD_any (h.dz k0 k) (hm.ok (by omega)) x.A x.B x.w0 x.w1 x.w2 x.w3 hx.ow
  have LE : Hid (FS.Le (s.write n x.A x.B x.w0 x.w1 x.w2 x.w3).2 (m + 1)) := hm.write n x.A x.B x.w0 x.w1 x.w2 x.w3
  have MK : Hid (∀ z1 z y, Kp [] w z1 → Kp [p, B] z1 z → IsS z p B n c (s.write n x.A x.B x.w0 x.w1 x.w2 x.w3).2 → Kp [q, D] z y → IsD y q D n c' (s.write n x.A x.B x.w0 x.w1 x.w2 x.w3).2 → IsP y n p B c q D c' (s.write n x.A x.B x.w0 x.w1 x.w2 x.w3).2 ∧ Kp [p, B, q, D] w y) := fun z1 z y k0 kz fz ky dy => h.mk2 k0 kz fz ky dy
  have NB : w.heap.size ≠ p ∧ w.heap.size ≠ B ∧ w.heap.size ≠ q ∧ w.heap.size ≠ D := by have := h.f.lt; have := h.d.lt; omega
  have K1 : Kp [] w (w.alloc (.cells #[.int .u8 x.k, .int .i64 x.A, .int .i64 x.B, .int .u8 x.w0, .int .u8 x.w1, .int .u8 x.w2, .int .u8 x.w3] 34)) := Kp.al (Kp.refl _ _) _
  generalize s.write n x.A x.B x.w0 x.w1 x.w2 x.w3 = RA at *
  obtain ⟨E, T⟩ := RA
  dsimp only at *
  have ee : (E == E) = true := by simp
  obtain ⟨n3, n4, n5, n6⟩ := hk
  have r3' : (x.k % 9 == 3) = false := by simp [n3]
  have r4' : (x.k % 9 == 4) = false := by simp [n4]
  have r5' : (x.k % 9 == 5) = false := by simp [n5]
  have r6' : (x.k % 9 == 6) = false := by simp [n6]
  clear n3 n4 n5 n6
  generalize x.k % 9 = RK at *
  clear h hm hx
  have K0 : Kp [] w (w.alloc (.cells #[.int .u8 x.k, .int .i64 x.A, .int .i64 x.B, .int .u8 x.w0, .int .u8 x.w1, .int .u8 x.w2, .int .u8 x.w3] 34)).drew := K1.drew
  have h1 : (w.alloc (.cells #[.int .u8 x.k, .int .i64 x.A, .int .i64 x.B, .int .u8 x.w0, .int .u8 x.w1, .int .u8 x.w2, .int .u8 x.w3] 34)).drew.cell? ⟨w.heap.size, 1, none⟩ = some (.int .i64 x.A) := by simp [go_sem]
  have h2 : (w.alloc (.cells #[.int .u8 x.k, .int .i64 x.A, .int .i64 x.B, .int .u8 x.w0, .int .u8 x.w1, .int .u8 x.w2, .int .u8 x.w3] 34)).drew.cell? ⟨w.heap.size, 2, none⟩ = some (.int .i64 x.B) := by simp [go_sem]
  have h3 : (w.alloc (.cells #[.int .u8 x.k, .int .i64 x.A, .int .i64 x.B, .int .u8 x.w0, .int .u8 x.w1, .int .u8 x.w2, .int .u8 x.w3] 34)).drew.cell? ⟨w.heap.size, 3, none⟩ = some (.int .u8 x.w0) := by simp [go_sem]
  have h4 : (w.alloc (.cells #[.int .u8 x.k, .int .i64 x.A, .int .i64 x.B, .int .u8 x.w0, .int .u8 x.w1, .int .u8 x.w2, .int .u8 x.w3] 34)).drew.cell? ⟨w.heap.size, 4, none⟩ = some (.int .u8 x.w1) := by simp [go_sem]
  have h5 : (w.alloc (.cells #[.int .u8 x.k, .int .i64 x.A, .int .i64 x.B, .int .u8 x.w0, .int .u8 x.w1, .int .u8 x.w2, .int .u8 x.w3] 34)).drew.cell? ⟨w.heap.size, 5, none⟩ = some (.int .u8 x.w2) := by simp [go_sem]
  have h6 : (w.alloc (.cells #[.int .u8 x.k, .int .i64 x.A, .int .i64 x.B, .int .u8 x.w0, .int .u8 x.w1, .int .u8 x.w2, .int .u8 x.w3] 34)).drew.cell? ⟨w.heap.size, 6, none⟩ = some (.int .u8 x.w3) := by simp [go_sem]
  go_enter Try.func14, Try.ntmps14
  go_wp2_with fail
  refine wp_region_held_drew (S := fun y => y.cell? ⟨w.heap.size, 1, none⟩ = some (.int .i64 x.A) ∧ y.cell? ⟨w.heap.size, 2, none⟩ = some (.int .i64 x.B) ∧ y.cell? ⟨w.heap.size, 3, none⟩ = some (.int .u8 x.w0) ∧ y.cell? ⟨w.heap.size, 4, none⟩ = some (.int .u8 x.w1) ∧ y.cell? ⟨w.heap.size, 5, none⟩ = some (.int .u8 x.w2) ∧ y.cell? ⟨w.heap.size, 6, none⟩ = some (.int .u8 x.w3)) (by kernel_rfl) (⟨h1, h2, h3, h4, h5, h6⟩) (fun hHeld => ?_)
  refine wpAnyH_take (i := 0) (v := (.pointer (some ⟨p, 0, none⟩))) rfl (by kernel_rfl) (by kernel_rfl) (by kernel_rfl) (fun _ _ _ h => h) (Or.inl ⟨by rfl, ?_⟩) (by assumption) ?_
  · intro w9 hSw
    try dsimp only at hSw
    go_simp
    all_goals try decide
    all_goals try assumption
  try simp only [Act.put, List.getElem_toArray, List.getElem_cons_succ, List.getElem_cons_zero, List.setIfInBounds_toArray, List.set_cons_zero, List.set_cons_succ]
  refine wpAnyH_take (i := 1) (v := (.pointer (some ⟨w.heap.size, 1, none⟩))) rfl (by kernel_rfl) (by kernel_rfl) (by kernel_rfl) (fun _ _ _ h => h) (Or.inl ⟨by rfl, ?_⟩) (by assumption) ?_
  · intro w9 hSw
    try dsimp only at hSw
    go_simp
    all_goals try decide
    all_goals try assumption
  try simp only [Act.put, List.getElem_toArray, List.getElem_cons_succ, List.getElem_cons_zero, List.setIfInBounds_toArray, List.set_cons_zero, List.set_cons_succ]
  refine wpAnyH_take (i := 2) (v := (.int .i64 x.A)) rfl (by kernel_rfl) (by kernel_rfl) (by kernel_rfl) (fun _ _ _ h => h) (Or.inl ⟨by rfl, ?_⟩) (by assumption) ?_
  · intro w9 hSw
    try dsimp only at hSw
    go_simp
    all_goals try decide
    all_goals try assumption
  try simp only [Act.put, List.getElem_toArray, List.getElem_cons_succ, List.getElem_cons_zero, List.setIfInBounds_toArray, List.set_cons_zero, List.set_cons_succ]
  refine wpAnyH_take (i := 3) (v := (.pointer (some ⟨w.heap.size, 2, none⟩))) rfl (by kernel_rfl) (by kernel_rfl) (by kernel_rfl) (fun _ _ _ h => h) (Or.inl ⟨by rfl, ?_⟩) (by assumption) ?_
  · intro w9 hSw
    try dsimp only at hSw
    go_simp
    all_goals try decide
    all_goals try assumption
  try simp only [Act.put, List.getElem_toArray, List.getElem_cons_succ, List.getElem_cons_zero, List.setIfInBounds_toArray, List.set_cons_zero, List.set_cons_succ]
  refine wpAnyH_take (i := 4) (v := (.int .i64 x.B)) rfl (by kernel_rfl) (by kernel_rfl) (by kernel_rfl) (fun _ _ _ h => h) (Or.inl ⟨by rfl, ?_⟩) (by assumption) ?_
  · intro w9 hSw
    try dsimp only at hSw
    go_simp
    all_goals try decide
    all_goals try assumption
  try simp only [Act.put, List.getElem_toArray, List.getElem_cons_succ, List.getElem_cons_zero, List.setIfInBounds_toArray, List.set_cons_zero, List.set_cons_succ]
  refine wpAnyH_take (i := 5) (v := (.pointer (some ⟨w.heap.size, 3, none⟩))) rfl (by kernel_rfl) (by kernel_rfl) (by kernel_rfl) (fun _ _ _ h => h) (Or.inl ⟨by rfl, ?_⟩) (by assumption) ?_
  · intro w9 hSw
    try dsimp only at hSw
    go_simp
    all_goals try decide
    all_goals try assumption
  try simp only [Act.put, List.getElem_toArray, List.getElem_cons_succ, List.getElem_cons_zero, List.setIfInBounds_toArray, List.set_cons_zero, List.set_cons_succ]
  refine wpAnyH_take (i := 6) (v := (.agg #[.int .u8 x.w0, .int .u8 x.w1, .int .u8 x.w2, .int .u8 x.w3])) rfl (by kernel_rfl) (by kernel_rfl) (by kernel_rfl) (fun _ _ _ h => h) (Or.inl ⟨by rfl, ?_⟩) (by assumption) ?_
  · intro w9 hSw
    try dsimp only at hSw
    go_simp
    all_goals try decide
    all_goals try assumption
  try simp only [Act.put, List.getElem_toArray, List.getElem_cons_succ, List.getElem_cons_zero, List.setIfInBounds_toArray, List.set_cons_zero, List.set_cons_succ]
  refine wpAnyH_take (i := 8) (v := (.pointer (some ⟨q, 0, none⟩))) rfl (by kernel_rfl) (by kernel_rfl) (by kernel_rfl) (fun _ _ _ h => h) (Or.inl ⟨by rfl, ?_⟩) (by assumption) ?_
  · intro w9 hSw
    try dsimp only at hSw
    go_simp
    all_goals try decide
    all_goals try assumption
  try simp only [Act.put, List.getElem_toArray, List.getElem_cons_succ, List.getElem_cons_zero, List.setIfInBounds_toArray, List.set_cons_zero, List.set_cons_succ]
  refine wpAnyH_take (i := 9) (v := (.pointer (some ⟨w.heap.size, 1, none⟩))) rfl (by kernel_rfl) (by kernel_rfl) (by kernel_rfl) (fun _ _ _ h => h) (Or.inl ⟨by rfl, ?_⟩) (by assumption) ?_
  · intro w9 hSw
    try dsimp only at hSw
    go_simp
    all_goals try decide
    all_goals try assumption
  try simp only [Act.put, List.getElem_toArray, List.getElem_cons_succ, List.getElem_cons_zero, List.setIfInBounds_toArray, List.set_cons_zero, List.set_cons_succ]
  refine wpAnyH_take (i := 10) (v := (.int .i64 x.A)) rfl (by kernel_rfl) (by kernel_rfl) (by kernel_rfl) (fun _ _ _ h => h) (Or.inl ⟨by rfl, ?_⟩) (by assumption) ?_
  · intro w9 hSw
    try dsimp only at hSw
    go_simp
    all_goals try decide
    all_goals try assumption
  try simp only [Act.put, List.getElem_toArray, List.getElem_cons_succ, List.getElem_cons_zero, List.setIfInBounds_toArray, List.set_cons_zero, List.set_cons_succ]
  refine wpAnyH_take (i := 11) (v := (.pointer (some ⟨w.heap.size, 2, none⟩))) rfl (by kernel_rfl) (by kernel_rfl) (by kernel_rfl) (fun _ _ _ h => h) (Or.inl ⟨by rfl, ?_⟩) (by assumption) ?_
  · intro w9 hSw
    try dsimp only at hSw
    go_simp
    all_goals try decide
    all_goals try assumption
  try simp only [Act.put, List.getElem_toArray, List.getElem_cons_succ, List.getElem_cons_zero, List.setIfInBounds_toArray, List.set_cons_zero, List.set_cons_succ]
  refine wpAnyH_take (i := 12) (v := (.int .i64 x.B)) rfl (by kernel_rfl) (by kernel_rfl) (by kernel_rfl) (fun _ _ _ h => h) (Or.inl ⟨by rfl, ?_⟩) (by assumption) ?_
  · intro w9 hSw
    try dsimp only at hSw
    go_simp
    all_goals try decide
    all_goals try assumption
  try simp only [Act.put, List.getElem_toArray, List.getElem_cons_succ, List.getElem_cons_zero, List.setIfInBounds_toArray, List.set_cons_zero, List.set_cons_succ]
  refine wpAnyH_take (i := 13) (v := (.pointer (some ⟨w.heap.size, 3, none⟩))) rfl (by kernel_rfl) (by kernel_rfl) (by kernel_rfl) (fun _ _ _ h => h) (Or.inl ⟨by rfl, ?_⟩) (by assumption) ?_
  · intro w9 hSw
    try dsimp only at hSw
    go_simp
    all_goals try decide
    all_goals try assumption
  try simp only [Act.put, List.getElem_toArray, List.getElem_cons_succ, List.getElem_cons_zero, List.setIfInBounds_toArray, List.set_cons_zero, List.set_cons_succ]
  refine wpAnyH_take (i := 14) (v := (.agg #[.int .u8 x.w0, .int .u8 x.w1, .int .u8 x.w2, .int .u8 x.w3])) rfl (by kernel_rfl) (by kernel_rfl) (by kernel_rfl) (fun _ _ _ h => h) (Or.inl ⟨by rfl, ?_⟩) (by assumption) ?_
  · intro w9 hSw
    try dsimp only at hSw
    go_simp
    all_goals try decide
    all_goals try assumption
  try simp only [Act.put, List.getElem_toArray, List.getElem_cons_succ, List.getElem_cons_zero, List.setIfInBounds_toArray, List.set_cons_zero, List.set_cons_succ]
  refine wpAnyH_ready (rs := [7]) (by kernel_rfl) (by simp) ?_
  refine AllReadyH.cons rfl (fun K' hK => ?_) AllReadyH.nil
  rw [if_pos (by rfl)]
  simp only [List.getElem_toArray, List.getElem_cons_succ, List.getElem_cons_zero]
  go_wp2_with fail
  refine (F1.out _ K0).mono ?_
  rintro e z ⟨rfl, Sz, kz⟩
  try go_wp2_with fail
  refine hK.out _ _ (⟨kz.cell h1 (by simp; omega), kz.cell h2 (by simp; omega), kz.cell h3 (by simp; omega), kz.cell h4 (by simp; omega), kz.cell h5 (by simp; omega), kz.cell h6 (by simp; omega)⟩) (fun hHeld => ?_)
  clear hK K'
  try simp only [Act.put, List.getElem_toArray, List.getElem_cons_succ, List.getElem_cons_zero, List.setIfInBounds_toArray, List.set_cons_zero, List.set_cons_succ]
  refine wpAnyH_ready (rs := [15]) (by kernel_rfl) (by simp) ?_
  refine AllReadyH.cons rfl (fun K' hK => ?_) AllReadyH.nil
  rw [if_pos (by rfl)]
  simp only [List.getElem_toArray, List.getElem_cons_succ, List.getElem_cons_zero]
  go_wp2_with fail
  refine (F2.out _ _ K0 kz).mono ?_
  rintro e y ⟨rfl, Dy, ky⟩
  try go_wp2_with fail
  refine hK.out _ _ (⟨ky.cell (kz.cell h1 (by simp; omega)) (by simp; omega), ky.cell (kz.cell h2 (by simp; omega)) (by simp; omega), ky.cell (kz.cell h3 (by simp; omega)) (by simp; omega), ky.cell (kz.cell h4 (by simp; omega)) (by simp; omega), ky.cell (kz.cell h5 (by simp; omega)) (by simp; omega), ky.cell (kz.cell h6 (by simp; omega)) (by simp; omega)⟩) (fun hHeld => ?_)
  clear hK K'
  try simp only [Act.put, List.getElem_toArray, List.getElem_cons_succ, List.getElem_cons_zero, List.setIfInBounds_toArray, List.set_cons_zero, List.set_cons_succ]
  refine wpAnyH_take (i := 16) (v := (.bool true)) rfl (by kernel_rfl) (by kernel_rfl) (by kernel_rfl) (fun _ _ _ h => h) (Or.inl ⟨by rfl, ?_⟩) (by assumption) ?_
  · intro w9 hSw
    try dsimp only at hSw
    go_simp
    all_goals try decide
    all_goals try assumption
  try simp only [Act.put, List.getElem_toArray, List.getElem_cons_succ, List.getElem_cons_zero, List.setIfInBounds_toArray, List.set_cons_zero, List.set_cons_succ]
  refine wpAnyH_take (i := 17) (v := (.bool true)) rfl (by kernel_rfl) (by kernel_rfl) (by kernel_rfl) (fun _ _ _ h => h) (Or.inl ⟨by rfl, ?_⟩) (by assumption) ?_
  · intro w9 hSw
    try dsimp only at hSw
    go_simp
    all_goals try decide
    all_goals try assumption
  try simp only [Act.put, List.getElem_toArray, List.getElem_cons_succ, List.getElem_cons_zero, List.setIfInBounds_toArray, List.set_cons_zero, List.set_cons_succ]
  refine wpAnyH_done (by kernel_rfl) ?_ _
  have RR := MK.out _ _ _ K0 kz Sz ky Dy
  go_wp2_with fail
  go_ret
  exact ⟨rfl, _, RR.1, LE.out, RR.2⟩

set_option linter.unusedSimpArgs false in
set_option maxHeartbeats 4000000 in
set_option maxRecDepth 100000 in
theorem one4 {w : World} {n p B c q D c' : Nat} {s : FS} (h : IsP w n p B c q D c' s) {m : Nat} (hm : s.Le m) (_hm2 : m ≤ 1000) (x : Opv) (hx : x.Ok) (hk : x.k % 9 = 4) :
    Calls Try.prog 14 #[.pointer (some ⟨p, 0, none⟩), .pointer (some ⟨q, 0, none⟩), .agg #[.int .u8 x.k, .int .i64 x.A, .int .i64 x.B, .int .u8 x.w0, .int .u8 x.w1, .int .u8 x.w2, .int .u8 x.w3]] w fun e w' => e = .returned (.bool true) ∧ ∃ s', IsP w' n p B c q D c' s' ∧ s'.Le (m + 1) ∧ Kp [p, B, q, D] w w' := by
  have km := Int.tmod_eq_emod_of_nonneg (b := 9) hx.k0
  have F1 : Hid (∀ z, Kp [] w z → Calls Try.prog 18 #[.pointer (some ⟨p, 0, none⟩), .int .i64 x.A] z fun e w' => e = .returned (.tuple #[]) ∧ IsS w' p B n c ⟨s.cs, s.st, decide (0 ≤ x.A), max x.A 0, s.of⟩ ∧ Kp [p, B] z w') := fun z k => (cut_any (h.f.kp k (by simp) (by simp)) x.A).mono (fun e w' hh => ⟨hh.1, hh.2.1, hh.2.2.more (by simp)⟩)
  have F2 : Hid (∀ z1 z, Kp [] w z1 → Kp [p, B] z1 z → Calls Try.prog 32 #[.pointer (some ⟨q, 0, none⟩), .int .i64 x.A] z fun e w' => e = .returned (.tuple #[]) ∧ IsD w' q D n c' ⟨s.cs, s.st, decide (0 ≤ x.A), max x.A 0, s.of⟩ ∧ Kp [q, D] z w') := fun z1 z k0 k => (cutD (h.dz k0 k) x.A).mono (fun e w' hh => ⟨hh.1, hh.2.1, hh.2.2.more (by simp)⟩)
  have LE : Hid (FS.Le ⟨s.cs, s.st, decide (0 ≤ x.A), max x.A 0, s.of⟩ (m + 1)) := ⟨hm.st0, by have := hm.st1; show s.st ≤ _; omega, by show 0 ≤ max x.A 0; omega, by have := hx.a1; show max x.A 0 < _; omega⟩
  have MK : Hid (∀ z1 z y, Kp [] w z1 → Kp [p, B] z1 z → IsS z p B n c ⟨s.cs, s.st, decide (0 ≤ x.A), max x.A 0, s.of⟩ → Kp [q, D] z y → IsD y q D n c' ⟨s.cs, s.st, decide (0 ≤ x.A), max x.A 0, s.of⟩ → IsP y n p B c q D c' ⟨s.cs, s.st, decide (0 ≤ x.A), max x.A 0, s.of⟩ ∧ Kp [p, B, q, D] w y) := fun z1 z y k0 kz fz ky dy => h.mk2 k0 kz fz ky dy
  have NB : w.heap.size ≠ p ∧ w.heap.size ≠ B ∧ w.heap.size ≠ q ∧ w.heap.size ≠ D := by have := h.f.lt; have := h.d.lt; omega
  have K1 : Kp [] w (w.alloc (.cells #[.int .u8 x.k, .int .i64 x.A, .int .i64 x.B, .int .u8 x.w0, .int .u8 x.w1, .int .u8 x.w2, .int .u8 x.w3] 34)) := Kp.al (Kp.refl _ _) _
  have R1 : x.k.tmod 9 = 4 := by rw [km]; exact hk
  have h1 : (w.alloc (.cells #[.int .u8 x.k, .int .i64 x.A, .int .i64 x.B, .int .u8 x.w0, .int .u8 x.w1, .int .u8 x.w2, .int .u8 x.w3] 34)).cell? ⟨w.heap.size, 1, none⟩ = some (.int .i64 x.A) := by simp [go_sem]
  clear km hk h hm
  go_enter Try.func14, Try.ntmps14
  go_wp2_with fail
  refine (F1.out _ K1).mono ?_
  rintro e z ⟨rfl, Sz, kz⟩
  have hz1 := kz.cell h1 (by simp; omega)
  clear F1 h1
  go_wp2_with fail
  refine (F2.out _ _ K1 kz).mono ?_
  rintro e y ⟨rfl, Dy, ky⟩
  clear F2 hz1
  have RR := MK.out _ _ _ K1 kz Sz ky Dy
  go_wp2_with fail
  go_ret
  exact ⟨rfl, _, RR.1, LE.out, RR.2⟩

set_option linter.unusedSimpArgs false in
set_option maxHeartbeats 4000000 in
set_option maxRecDepth 100000 in
theorem one5 {w : World} {n p B c q D c' : Nat} {s : FS} (h : IsP w n p B c q D c' s) {m : Nat} (hm : s.Le m) (_hm2 : m ≤ 1000) (x : Opv) (hx : x.Ok) (hk : x.k % 9 = 5) :
    Calls Try.prog 14 #[.pointer (some ⟨p, 0, none⟩), .pointer (some ⟨q, 0, none⟩), .agg #[.int .u8 x.k, .int .i64 x.A, .int .i64 x.B, .int .u8 x.w0, .int .u8 x.w1, .int .u8 x.w2, .int .u8 x.w3]] w fun e w' => e = .returned (.bool true) ∧ ∃ s', IsP w' n p B c q D c' s' ∧ s'.Le (m + 1) ∧ Kp [p, B, q, D] w w' := by
  have km := Int.tmod_eq_emod_of_nonneg (b := 9) hx.k0
  have F1 : Hid (∀ z, Kp [] w z → Calls Try.prog 19 #[.pointer (some ⟨p, 0, none⟩)] z fun e w' => e = .returned (.tuple #[]) ∧ IsS w' p B n c ⟨s.cs, s.st, false, 0, false⟩ ∧ Kp [p, B] z w') := fun z k => (on_any (h.f.kp k (by simp) (by simp))).mono (fun e w' hh => ⟨hh.1, hh.2.1, hh.2.2.more (by simp)⟩)
  have F2 : Hid (∀ z1 z, Kp [] w z1 → Kp [p, B] z1 z → Calls Try.prog 33 #[.pointer (some ⟨q, 0, none⟩)] z fun e w' => e = .returned (.tuple #[]) ∧ IsD w' q D n c' ⟨s.cs, s.st, false, 0, false⟩ ∧ Kp [q, D] z w') := fun z1 z k0 k => (onD (h.dz k0 k)).mono (fun e w' hh => ⟨hh.1, hh.2.1, hh.2.2.more (by simp)⟩)
  have LE : Hid (FS.Le ⟨s.cs, s.st, false, 0, false⟩ (m + 1)) := ⟨hm.st0, by have := hm.st1; show s.st ≤ _; omega, by show (0 : Int) ≤ 0; omega, by show (0 : Int) < _; omega⟩
  have MK : Hid (∀ z1 z y, Kp [] w z1 → Kp [p, B] z1 z → IsS z p B n c ⟨s.cs, s.st, false, 0, false⟩ → Kp [q, D] z y → IsD y q D n c' ⟨s.cs, s.st, false, 0, false⟩ → IsP y n p B c q D c' ⟨s.cs, s.st, false, 0, false⟩ ∧ Kp [p, B, q, D] w y) := fun z1 z y k0 kz fz ky dy => h.mk2 k0 kz fz ky dy
  have NB : w.heap.size ≠ p ∧ w.heap.size ≠ B ∧ w.heap.size ≠ q ∧ w.heap.size ≠ D := by have := h.f.lt; have := h.d.lt; omega
  have K1 : Kp [] w (w.alloc (.cells #[.int .u8 x.k, .int .i64 x.A, .int .i64 x.B, .int .u8 x.w0, .int .u8 x.w1, .int .u8 x.w2, .int .u8 x.w3] 34)) := Kp.al (Kp.refl _ _) _
  have R1 : x.k.tmod 9 = 5 := by rw [km]; exact hk
  have h1 : (w.alloc (.cells #[.int .u8 x.k, .int .i64 x.A, .int .i64 x.B, .int .u8 x.w0, .int .u8 x.w1, .int .u8 x.w2, .int .u8 x.w3] 34)).cell? ⟨w.heap.size, 1, none⟩ = some (.int .i64 x.A) := by simp [go_sem]
  clear km hk h hm
  go_enter Try.func14, Try.ntmps14
  go_wp2_with fail
  refine (F1.out _ K1).mono ?_
  rintro e z ⟨rfl, Sz, kz⟩
  have hz1 := kz.cell h1 (by simp; omega)
  clear F1 h1
  go_wp2_with fail
  refine (F2.out _ _ K1 kz).mono ?_
  rintro e y ⟨rfl, Dy, ky⟩
  clear F2 hz1
  have RR := MK.out _ _ _ K1 kz Sz ky Dy
  go_wp2_with fail
  go_ret
  exact ⟨rfl, _, RR.1, LE.out, RR.2⟩

set_option linter.unusedSimpArgs false in
set_option maxHeartbeats 4000000 in
set_option maxRecDepth 100000 in
theorem one6 {w : World} {n p B c q D c' : Nat} {s : FS} (h : IsP w n p B c q D c' s) {m : Nat} (hm : s.Le m) (_hm2 : m ≤ 1000) (x : Opv) (hx : x.Ok) (hk : x.k % 9 = 6) :
    Calls Try.prog 14 #[.pointer (some ⟨p, 0, none⟩), .pointer (some ⟨q, 0, none⟩), .agg #[.int .u8 x.k, .int .i64 x.A, .int .i64 x.B, .int .u8 x.w0, .int .u8 x.w1, .int .u8 x.w2, .int .u8 x.w3]] w fun e w' => e = .returned (.bool true) ∧ ∃ s', IsP w' n p B c q D c' s' ∧ s'.Le (m + 1) ∧ Kp [p, B, q, D] w w' := by
  have km := Int.tmod_eq_emod_of_nonneg (b := 9) hx.k0
  obtain ⟨q0, q1, q2, q3, E, W1, W2⟩ := word_both n s x.A x.B
  have G1 : Hid (∀ z, Below w.heap.size w z → Calls Try.prog 20 #[.pointer (some ⟨p, 0, none⟩), .int .i64 x.A, .int .i64 x.B] z fun e w' => e = .returned (.tuple #[.agg #[.int .u8 q0, .int .u8 q1, .int .u8 q2, .int .u8 q3], .int .i64 E]) ∧ Below z.heap.size z w') := fun z k => W1 _ _ _ _ (h.next k).f
  have G2 : Hid (∀ z, Below w.heap.size w z → Calls Try.prog 34 #[.pointer (some ⟨q, 0, none⟩), .int .i64 x.A, .int .i64 x.B] z fun e w' => e = .returned (.tuple #[.agg #[.int .u8 q0, .int .u8 q1, .int .u8 q2, .int .u8 q3], .int .i64 E]) ∧ Below z.heap.size z w') := fun z k => W2 _ _ _ _ (h.next k).d
  have EQ : ∀ w, (binOp .eql 32 (.agg #[.int .u8 q0, .int .u8 q1, .int .u8 q2, .int .u8 q3]) (.agg #[.int .u8 q0, .int .u8 q1, .int .u8 q2, .int .u8 q3])).run Try.prog w = .ok (.bool true) w := fun w => by
    have := eql4 w q0 q1 q2 q3 q0 q1 q2 q3
    rw [(same4_iff q0 q1 q2 q3 q0 q1 q2 q3).2 ⟨rfl, rfl, rfl, rfl⟩] at this
    exact this
  have ee : (E == E) = true := by simp
  have FIN : Hid (∀ z, Below w.heap.size w z → ∃ s', IsP z n p B c q D c' s' ∧ s'.Le (m + 1) ∧ Kp [p, B, q, D] w z) := fun z k => ⟨s, h.next k, hm.more (by omega), Kp.of k⟩
  have R1 : x.k.tmod 9 = 6 := by rw [km]; exact hk
  have B1 : Below w.heap.size w (w.alloc (.cells #[.int .u8 x.k, .int .i64 x.A, .int .i64 x.B, .int .u8 x.w0, .int .u8 x.w1, .int .u8 x.w2, .int .u8 x.w3] 34)) := Below.al (Below.refl _ _) _
  clear km hk h hm W1 W2
  go_enter Try.func14, Try.ntmps14
  go_wp2_with fail
  refine (G1.out _ B1).mono ?_
  rintro e z ⟨rfl, bz⟩
  have kz : Kp [] _ z := Kp.of bz
  have x1 := kz.cell (b := w.heap.size) (o := 1) (v := .int .i64 x.A) (by simp [go_sem]) (by simp)
  have x2 := kz.cell (b := w.heap.size) (o := 2) (v := .int .i64 x.B) (by simp [go_sem]) (by simp)
  have B2 : Below w.heap.size w z := Below.andThen B1 bz
  have lt1 : w.heap.size < z.heap.size := by have := bz.size; simp at this; omega
  have k3 : ∀ o, Kp [] z (z.alloc o) := fun o => Kp.al (Kp.refl _ _) o
  have x1' : ∀ o, (z.alloc o).cell? ⟨w.heap.size, 1, none⟩ = some (.int .i64 x.A) := fun o => (k3 o).cell x1 (by simp)
  have x2' : ∀ o, (z.alloc o).cell? ⟨w.heap.size, 2, none⟩ = some (.int .i64 x.B) := fun o => (k3 o).cell x2 (by simp)
  clear bz kz x1 x2 k3
  go_wp2_with fail
  refine (G2.out _ (Below.al B2 _)).mono ?_
  rintro e y ⟨rfl, by0⟩
  have ky : Kp [] _ y := Kp.of by0
  have y0 := ky.cell (b := z.heap.size) (o := 0) (v := .int .u8 q0) (by simp [go_sem]) (by simp)
  have y1 := ky.cell (b := z.heap.size) (o := 1) (v := .int .u8 q1) (by simp [go_sem]) (by simp)
  have y2 := ky.cell (b := z.heap.size) (o := 2) (v := .int .u8 q2) (by simp [go_sem]) (by simp)
  have y3 := ky.cell (b := z.heap.size) (o := 3) (v := .int .u8 q3) (by simp [go_sem]) (by simp)
  have B3 : Below w.heap.size w y := Below.andThen (Below.al B2 _) by0
  have k4 : ∀ o, Kp [] y (y.alloc o) := fun o => Kp.al (Kp.refl _ _) o
  have y0' : ∀ o, (y.alloc o).cell? ⟨z.heap.size, 0, none⟩ = some (.int .u8 q0) := fun o => (k4 o).cell y0 (by simp)
  have y1' : ∀ o, (y.alloc o).cell? ⟨z.heap.size, 1, none⟩ = some (.int .u8 q1) := fun o => (k4 o).cell y1 (by simp)
  have y2' : ∀ o, (y.alloc o).cell? ⟨z.heap.size, 2, none⟩ = some (.int .u8 q2) := fun o => (k4 o).cell y2 (by simp)
  have y3' : ∀ o, (y.alloc o).cell? ⟨z.heap.size, 3, none⟩ = some (.int .u8 q3) := fun o => (k4 o).cell y3 (by simp)
  clear by0 ky y0 y1 y2 y3 k4 x1' x2' G1 G2 B2 B1
  go_wp2_with fail
  go_ret
  exact ⟨rfl, FIN.out _ (Below.al B3 _)⟩

theorem one_any {w : World} {n p B c q D c' : Nat} {s : FS} (h : IsP w n p B c q D c' s) {m : Nat} (hm : s.Le m) (hm2 : m ≤ 1000) (x : Opv) (hx : x.Ok) :
    Calls Try.prog 14 #[.pointer (some ⟨p, 0, none⟩), .pointer (some ⟨q, 0, none⟩), .agg #[.int .u8 x.k, .int .i64 x.A, .int .i64 x.B, .int .u8 x.w0, .int .u8 x.w1, .int .u8 x.w2, .int .u8 x.w3]] w fun e w' => e = .returned (.bool true) ∧ ∃ s', IsP w' n p B c q D c' s' ∧ s'.Le (m + 1) ∧ Kp [p, B, q, D] w w' := by
  by_cases h3 : x.k % 9 = 3
  · exact one3 h hm hm2 x hx h3
  by_cases h4 : x.k % 9 = 4
  · exact one4 h hm hm2 x hx h4
  by_cases h5 : x.k % 9 = 5
  · exact one5 h hm hm2 x hx h5
  by_cases h6 : x.k % 9 = 6
  · exact one6 h hm hm2 x hx h6
  exact oneW h hm hm2 x hx ⟨h3, h4, h5, h6⟩
#print axioms one_any
end Go.Proofs.Ytdohjolgcmokhaa
