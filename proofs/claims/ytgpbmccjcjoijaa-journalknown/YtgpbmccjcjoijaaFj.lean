/-
  The walks of Write and Erase.
-/
import Derived.Test.YtgpbmccjcjoijaaFi
namespace Go.Proofs.Ytgpbmccjcjoijaa
open Go.RowKit

/-- Write: what it answers, what is behind it. -/
def FS.write (s : FS) (n : Nat) (k d b0 b1 b2 b3 : Int) : Int × FS :=
  if refE s.of n k d ≠ 0 then (refE s.of n k d, s) else
  if fallB (s.cs.getD (k.toNat * 1024 + d.toNat * 4) 0) (s.cs.getD (k.toNat * 1024 + d.toNat * 4 + 1) 0) (s.cs.getD (k.toNat * 1024 + d.toNat * 4 + 2) 0) (s.cs.getD (k.toNat * 1024 + d.toNat * 4 + 3) 0) b0 b1 b2 b3 = true
  then s.step (put s.cs (k.toNat * 1024 + d.toNat * 4) [b0, b1, b2, b3]) else (51, s)
/-- Erase. -/
def FS.erase (s : FS) (n : Nat) (k : Int) : Int × FS :=
  if refE s.of n k 0 ≠ 0 then (refE s.of n k 0, s) else s.step (put s.cs (k.toNat * 1024) ff)
theorem refE_zero {of : Bool} {n : Nat} {s d : Int} (h : refE of n s d = 0) : of = false ∧ ∃ k e : Nat, s = k ∧ d = e ∧ k < n ∧ e < 256 := by
  unfold refE at h
  cases of with
  | true => simp at h
  | false =>
    rw [if_neg (by decide)] at h
    by_cases c : s < 0 ∨ (n : Int) ≤ s ∨ d < 0 ∨ 256 ≤ d
    · rw [if_pos c] at h; cases h
    · exact ⟨rfl, s.toNat, d.toNat, by omega, by omega, by omega, by omega⟩
theorem IsF.byte {w : World} {p B n cap : Nat} {cs : List Int} {st : Int} {ar : Bool} {lf : Int} {of : Bool} (h : IsF w p B n cap cs st ar lf of) (j : Nat) (hj : j < 1024 * n) : w.cell? ⟨B, j, none⟩ = some (.int .u8 (cs.getD j 0)) := by
  obtain ⟨t, ex, hr⟩ := h.row
  have hl := h.len
  rw [cell_of_row w B j _ _ _ hr]
  simp [List.getD_eq_getElem?_getD, List.getElem?_append, hl, hj]

set_option linter.unusedSimpArgs false in
set_option maxHeartbeats 4000000 in
set_option maxRecDepth 100000 in
theorem write_bad {w : World} {p B n cap : Nat} {s : FS} (h : IsS w p B n cap s) (k d b0 b1 b2 b3 : Int) (hb : refE s.of n k d ≠ 0) :
    Calls Try.prog 27 #[.pointer (some ⟨p, 0, none⟩), .int .i64 k, .int .i64 d, .agg (w4 b0 b1 b2 b3)] w fun e w' => e = .returned (.int .i64 (refE s.of n k d)) ∧ Below w.heap.size w w' := by
  have hr := fun x hx => refuses_any (h.next (w' := x) hx) k d
  have gb : (refE s.of n k d != 0) = true := by simp [hb]
  generalize refE s.of n k d = E at *
  clear h hb
  go_enter Try.func27, Try.ntmps27
  go_wp2_with fail
  refine (hr _ (Below.al (Below.al (Below.al (Below.al (Below.refl _ _) _) _) _) _)).mono ?_
  rintro e x ⟨rfl, hx⟩
  have hbx : Below w.heap.size w x := by rw [hx]; exact (Below.al (Below.al (Below.al (Below.al (Below.refl _ _) _) _) _) _)
  clear hr hx
  go_wp2_with fail
  go_ret
  exact ⟨rfl, hbx⟩

set_option linter.unusedSimpArgs false in
set_option maxHeartbeats 4000000 in
set_option maxRecDepth 100000 in
theorem write_nil (w : World) (k d b0 b1 b2 b3 : Int) :
    Calls Try.prog 27 #[.pointer none, .int .i64 k, .int .i64 d, .agg (w4 b0 b1 b2 b3)] w fun e w' => e = .returned (.int .i64 1) ∧ Below w.heap.size w w' := by
  go_enter Try.func27, Try.ntmps27
  go_wp2_with fail
  refine (refuses_nil _ k d).mono ?_
  rintro e x ⟨rfl, hx⟩
  have hbx : Below w.heap.size w x := by rw [hx]; exact (Below.al (Below.al (Below.al (Below.al (Below.refl _ _) _) _) _) _)
  clear hx
  go_wp2_with fail
  go_ret
  exact ⟨rfl, hbx⟩

set_option linter.unusedSimpArgs false in
set_option maxHeartbeats 4000000 in
set_option maxRecDepth 100000 in
theorem write_ok {w : World} {p B n cap : Nat} {s : FS} (h : IsS w p B n cap s) (hs : s.Ok) (k d : Nat) (hk : k < n) (hd : d < 256) (ho : s.of = false) (b0 b1 b2 b3 : Int) (hw : Oct [b0, b1, b2, b3]) :
    Calls Try.prog 27 #[.pointer (some ⟨p, 0, none⟩), .int .i64 k, .int .i64 d, .agg (w4 b0 b1 b2 b3)] w fun e w' => e = .returned (.int .i64 (s.write n k d b0 b1 b2 b3).1) ∧ IsS w' p B n cap (s.write n k d b0 b1 b2 b3).2 ∧ Kp [p, B] w w' := by
  have r0 : refE s.of n k d = 0 := refE_ok ho n k d (by omega) (by omega) (by omega) (by omega)
  unfold FS.write
  rw [if_neg (by rw [r0]; decide)]
  simp only [Int.toNat_natCast]
  have hr := fun x hx => refuses_any (h.next (w' := x) hx) k d
  rw [r0] at hr
  have hlt := h.lt
  have hbx : Below w.heap.size w ((((w.alloc (.cells #[.pointer (some ⟨p, 0, none⟩)] 25)).alloc (.cells #[.int .i64 (k : Int)] 3)).alloc (.cells #[.int .i64 (d : Int)] 3)).alloc (.cells (w4 b0 b1 b2 b3) 53)) := Below.al (Below.al (Below.al (Below.al (Below.refl _ _) _) _) _) _
  have h4 := h.next hbx
  have F0 : ((((w.alloc (.cells #[.pointer (some ⟨p, 0, none⟩)] 25)).alloc (.cells #[.int .i64 (k : Int)] 3)).alloc (.cells #[.int .i64 (d : Int)] 3)).alloc (.cells (w4 b0 b1 b2 b3) 53)).cell? ⟨w.heap.size, 0, none⟩ = some (.pointer (some ⟨p, 0, none⟩)) := by simp [go_sem]
  have F1 : ((((w.alloc (.cells #[.pointer (some ⟨p, 0, none⟩)] 25)).alloc (.cells #[.int .i64 (k : Int)] 3)).alloc (.cells #[.int .i64 (d : Int)] 3)).alloc (.cells (w4 b0 b1 b2 b3) 53)).cell? ⟨w.heap.size + 1, 0, none⟩ = some (.int .i64 (k : Int)) := by simp [go_sem]
  have F2 : ((((w.alloc (.cells #[.pointer (some ⟨p, 0, none⟩)] 25)).alloc (.cells #[.int .i64 (k : Int)] 3)).alloc (.cells #[.int .i64 (d : Int)] 3)).alloc (.cells (w4 b0 b1 b2 b3) 53)).cell? ⟨w.heap.size + 1 + 1, 0, none⟩ = some (.int .i64 (d : Int)) := by simp [go_sem]
  have F3 : ((((w.alloc (.cells #[.pointer (some ⟨p, 0, none⟩)] 25)).alloc (.cells #[.int .i64 (k : Int)] 3)).alloc (.cells #[.int .i64 (d : Int)] 3)).alloc (.cells (w4 b0 b1 b2 b3) 53)).heap[w.heap.size + 1 + 1 + 1]? = some (.cells (w4 b0 b1 b2 b3) 53 (0, 0)) := by
    have := heap_alloc_last (((w.alloc (.cells #[.pointer (some ⟨p, 0, none⟩)] 25)).alloc (.cells #[.int .i64 (k : Int)] 3)).alloc (.cells #[.int .i64 (d : Int)] 3)) (.cells (w4 b0 b1 b2 b3) 53)
    rwa [show (((w.alloc (.cells #[.pointer (some ⟨p, 0, none⟩)] 25)).alloc (.cells #[.int .i64 (k : Int)] 3)).alloc (.cells #[.int .i64 (d : Int)] 3)).heap.size = w.heap.size + 1 + 1 + 1 from by simp] at this
  obtain ⟨x, hx⟩ : ∃ x, x = (((w.alloc (.cells #[.pointer (some ⟨p, 0, none⟩)] 25)).alloc (.cells #[.int .i64 (k : Int)] 3)).alloc (.cells #[.int .i64 (d : Int)] 3)).alloc (.cells (w4 b0 b1 b2 b3) 53) := ⟨_, rfl⟩
  rw [← hx] at hbx h4 F0 F1 F2 F3
  have B0 := h4.byte (k * 1024 + d * 4) (by omega)
  have B1 := h4.byte (k * 1024 + d * 4 + 1) (by omega)
  have B2 := h4.byte (k * 1024 + d * 4 + 2) (by omega)
  have B3 := h4.byte (k * 1024 + d * 4 + 3) (by omega)
  generalize s.cs.getD (k * 1024 + d * 4) 0 = q0 at *
  generalize s.cs.getD (k * 1024 + d * 4 + 1) 0 = q1 at *
  generalize s.cs.getD (k * 1024 + d * 4 + 2) 0 = q2 at *
  generalize s.cs.getD (k * 1024 + d * 4 + 3) 0 = q3 at *
  have FX : x.cell? ⟨w.heap.size, 0, none⟩ = some (.pointer (some ⟨p, 0, none⟩)) ∧ x.cell? ⟨w.heap.size + 1, 0, none⟩ = some (.int .i64 (k : Int)) ∧ x.cell? ⟨w.heap.size + 1 + 1, 0, none⟩ = some (.int .i64 (d : Int)) ∧ x.cell? ⟨w.heap.size + 1 + 1 + 1, 0, none⟩ = some (.int .u8 b0) ∧ x.cell? ⟨w.heap.size + 1 + 1 + 1, 1, none⟩ = some (.int .u8 b1) ∧ x.cell? ⟨w.heap.size + 1 + 1 + 1, 2, none⟩ = some (.int .u8 b2) ∧ x.cell? ⟨w.heap.size + 1 + 1 + 1, 3, none⟩ = some (.int .u8 b3) ∧ x.cell? ⟨p, 0, none⟩ = some (.slice (some ⟨B, 0, none⟩) n cap) ∧ x.cell? ⟨B, k * 1024 + d * 4, none⟩ = some (.int .u8 q0) ∧ x.cell? ⟨B, k * 1024 + d * 4 + 1, none⟩ = some (.int .u8 q1) ∧ x.cell? ⟨B, k * 1024 + d * 4 + 2, none⟩ = some (.int .u8 q2) ∧ x.cell? ⟨B, k * 1024 + d * 4 + 3, none⟩ = some (.int .u8 q3) := ⟨F0, F1, F2, by rw [cell_of_row x _ _ _ _ _ F3]; rfl, by rw [cell_of_row x _ _ _ _ _ F3]; rfl, by rw [cell_of_row x _ _ _ _ _ F3]; rfl, by rw [cell_of_row x _ _ _ _ _ F3]; rfl, h4.c0, B0, B1, B2, B3⟩
  have KZ : Hid (∀ z, Below x.drew.heap.size x.drew z → z.cell? ⟨w.heap.size, 0, none⟩ = some (.pointer (some ⟨p, 0, none⟩)) ∧ z.cell? ⟨w.heap.size + 1, 0, none⟩ = some (.int .i64 (k : Int)) ∧ z.cell? ⟨w.heap.size + 1 + 1, 0, none⟩ = some (.int .i64 (d : Int)) ∧ z.cell? ⟨w.heap.size + 1 + 1 + 1, 0, none⟩ = some (.int .u8 b0) ∧ z.cell? ⟨w.heap.size + 1 + 1 + 1, 1, none⟩ = some (.int .u8 b1) ∧ z.cell? ⟨w.heap.size + 1 + 1 + 1, 2, none⟩ = some (.int .u8 b2) ∧ z.cell? ⟨w.heap.size + 1 + 1 + 1, 3, none⟩ = some (.int .u8 b3) ∧ z.cell? ⟨p, 0, none⟩ = some (.slice (some ⟨B, 0, none⟩) n cap) ∧ z.cell? ⟨B, k * 1024 + d * 4, none⟩ = some (.int .u8 q0) ∧ z.cell? ⟨B, k * 1024 + d * 4 + 1, none⟩ = some (.int .u8 q1) ∧ z.cell? ⟨B, k * 1024 + d * 4 + 2, none⟩ = some (.int .u8 q2) ∧ z.cell? ⟨B, k * 1024 + d * 4 + 3, none⟩ = some (.int .u8 q3)) := fun z hz => by
    have hk2 : Kp [] x z := (Kp.refl _ _).drew.trans (Kp.of hz)
    obtain ⟨a0, a1, a2, a3, a4, a5, a6, a7, a8, a9, a10, a11⟩ := FX
    exact ⟨hk2.cell a0 (by simp), hk2.cell a1 (by simp), hk2.cell a2 (by simp), hk2.cell a3 (by simp), hk2.cell a4 (by simp), hk2.cell a5 (by simp), hk2.cell a6 (by simp), hk2.cell a7 (by simp), hk2.cell a8 (by simp), hk2.cell a9 (by simp), hk2.cell a10 (by simp), hk2.cell a11 (by simp)⟩
  have FZ : Hid (x.drew.cell? ⟨w.heap.size, 0, none⟩ = some (.pointer (some ⟨p, 0, none⟩)) ∧ x.drew.cell? ⟨w.heap.size + 1, 0, none⟩ = some (.int .i64 (k : Int)) ∧ x.drew.cell? ⟨w.heap.size + 1 + 1, 0, none⟩ = some (.int .i64 (d : Int)) ∧ x.drew.cell? ⟨w.heap.size + 1 + 1 + 1, 0, none⟩ = some (.int .u8 b0) ∧ x.drew.cell? ⟨w.heap.size + 1 + 1 + 1, 1, none⟩ = some (.int .u8 b1) ∧ x.drew.cell? ⟨w.heap.size + 1 + 1 + 1, 2, none⟩ = some (.int .u8 b2) ∧ x.drew.cell? ⟨w.heap.size + 1 + 1 + 1, 3, none⟩ = some (.int .u8 b3) ∧ x.drew.cell? ⟨p, 0, none⟩ = some (.slice (some ⟨B, 0, none⟩) n cap) ∧ x.drew.cell? ⟨B, k * 1024 + d * 4, none⟩ = some (.int .u8 q0) ∧ x.drew.cell? ⟨B, k * 1024 + d * 4 + 1, none⟩ = some (.int .u8 q1) ∧ x.drew.cell? ⟨B, k * 1024 + d * 4 + 2, none⟩ = some (.int .u8 q2) ∧ x.drew.cell? ⟨B, k * 1024 + d * 4 + 3, none⟩ = some (.int .u8 q3)) := FX
  have ST : Hid (∀ z, Below x.drew.heap.size x.drew z → (Kp [p, B] w z ∧ IsS z p B n cap s) ∧ Calls Try.prog 49 #[.pointer (some ⟨p, 0, none⟩), .func (.func 50) #[] #[.pointer (some ⟨w.heap.size + 1 + 1 + 1, 0, none⟩), .pointer (some ⟨w.heap.size, 0, none⟩), .pointer (some ⟨w.heap.size + 1, 0, none⟩), .pointer (some ⟨w.heap.size + 1 + 1, 0, none⟩)]] z fun e w' => e = .returned (.int .i64 (s.step (put s.cs (k * 1024 + d * 4) [b0, b1, b2, b3])).1) ∧ IsS w' p B n cap (s.step (put s.cs (k * 1024 + d * 4) [b0, b1, b2, b3])).2 ∧ Kp [p, B] z w') := fun z hz => by
    have hk2 : Kp [] x z := (Kp.refl _ _).drew.trans (Kp.of hz)
    have hz4 : IsS z p B n cap s := h4.kp hk2 (by simp) (by simp)
    exact ⟨⟨(Kp.of hbx).trans (hk2.more (by simp)), hz4⟩, stepW_any hz4 hs k d hk hd b0 b1 b2 b3 hw _ _ _ _ (by omega) (by omega) (by omega) (by omega) (by omega) (by omega) (by omega) (by omega) ((hk2.block _ (lt_of_heap F3) (by simp)).trans F3) (hk2.cell F0 (by simp)) (hk2.cell F1 (by simp)) (hk2.cell F2 (by simp))⟩
  have gk : (k : Int) < n := by omega
  have gd : (d : Int) < 256 := by omega
  obtain ⟨FB, hFB⟩ : ∃ FB, Hid (FB = fallB q0 q1 q2 q3 b0 b1 b2 b3) := ⟨_, rfl⟩
  rw [← hFB.out]
  have FA := fun z => falls_any q0 q1 q2 q3 b0 b1 b2 b3 z
  rw [← hFB.out] at FA
  generalize s.step (put s.cs (k * 1024 + d * 4) [b0, b1, b2, b3]) = R at *
  have hbx' : Hid (Below w.heap.size w x) := hbx
  have hr2 := hr _ hbx
  clear hr h h4 F0 F1 F2 F3 B0 B1 B2 B3 hs r0 hFB FX hlt hbx
  go_enter Try.func27, Try.ntmps27
  go_wp2_with fail
  rw [← hx]
  refine hr2.mono ?_
  rintro e x ⟨rfl, rfl⟩
  clear hr2 hx
  go_wp2_with fail
  refine wp_region_held_drew (S := fun z => z.cell? ⟨w.heap.size, 0, none⟩ = some (.pointer (some ⟨p, 0, none⟩)) ∧ z.cell? ⟨w.heap.size + 1, 0, none⟩ = some (.int .i64 (k : Int)) ∧ z.cell? ⟨w.heap.size + 1 + 1, 0, none⟩ = some (.int .i64 (d : Int)) ∧ z.cell? ⟨w.heap.size + 1 + 1 + 1, 0, none⟩ = some (.int .u8 b0) ∧ z.cell? ⟨w.heap.size + 1 + 1 + 1, 1, none⟩ = some (.int .u8 b1) ∧ z.cell? ⟨w.heap.size + 1 + 1 + 1, 2, none⟩ = some (.int .u8 b2) ∧ z.cell? ⟨w.heap.size + 1 + 1 + 1, 3, none⟩ = some (.int .u8 b3) ∧ z.cell? ⟨p, 0, none⟩ = some (.slice (some ⟨B, 0, none⟩) n cap) ∧ z.cell? ⟨B, k * 1024 + d * 4, none⟩ = some (.int .u8 q0) ∧ z.cell? ⟨B, k * 1024 + d * 4 + 1, none⟩ = some (.int .u8 q1) ∧ z.cell? ⟨B, k * 1024 + d * 4 + 2, none⟩ = some (.int .u8 q2) ∧ z.cell? ⟨B, k * 1024 + d * 4 + 3, none⟩ = some (.int .u8 q3)) (by kernel_rfl) (FZ.out) (fun hHeld => ?_)
  refine wpAnyH_take (i := 0) (v := (.pointer (some ⟨p, 0, none⟩))) rfl (by kernel_rfl) (by kernel_rfl) (by kernel_rfl) (fun _ _ _ h => h) (Or.inl ⟨by rfl, ?_⟩) (by assumption) ?_
  · intro w9 hSw
    try dsimp only at hSw
    go_simp
    all_goals try decide
    all_goals try assumption
  try simp only [Act.put, List.getElem_toArray, List.getElem_cons_succ, List.getElem_cons_zero, List.setIfInBounds_toArray, List.set_cons_zero, List.set_cons_succ]
  refine wpAnyH_take (i := 1) (v := (.pointer (some ⟨p, 0, none⟩))) rfl (by kernel_rfl) (by kernel_rfl) (by kernel_rfl) (fun _ _ _ h => h) (Or.inl ⟨by rfl, ?_⟩) (by assumption) ?_
  · intro w9 hSw
    try dsimp only at hSw
    go_simp
    all_goals try decide
    all_goals try assumption
  try simp only [Act.put, List.getElem_toArray, List.getElem_cons_succ, List.getElem_cons_zero, List.setIfInBounds_toArray, List.set_cons_zero, List.set_cons_succ]
  refine wpAnyH_take (i := 2) (v := (.pointer (some ⟨p, 0, none⟩))) rfl (by kernel_rfl) (by kernel_rfl) (by kernel_rfl) (fun _ _ _ h => h) (Or.inl ⟨by rfl, ?_⟩) (by assumption) ?_
  · intro w9 hSw
    try dsimp only at hSw
    go_simp
    all_goals try decide
    all_goals try assumption
  try simp only [Act.put, List.getElem_toArray, List.getElem_cons_succ, List.getElem_cons_zero, List.setIfInBounds_toArray, List.set_cons_zero, List.set_cons_succ]
  refine wpAnyH_take (i := 3) (v := (.slice (some ⟨B, 0, none⟩) n cap)) rfl (by kernel_rfl) (by kernel_rfl) (by kernel_rfl) (fun _ _ _ h => h) (Or.inl ⟨by rfl, ?_⟩) (by assumption) ?_
  · intro w9 hSw
    try dsimp only at hSw
    go_simp
    all_goals try decide
    all_goals try assumption
  try simp only [Act.put, List.getElem_toArray, List.getElem_cons_succ, List.getElem_cons_zero, List.setIfInBounds_toArray, List.set_cons_zero, List.set_cons_succ]
  refine wpAnyH_take (i := 4) (v := (.int .i64 (k : Int))) rfl (by kernel_rfl) (by kernel_rfl) (by kernel_rfl) (fun _ _ _ h => h) (Or.inl ⟨by rfl, ?_⟩) (by assumption) ?_
  · intro w9 hSw
    try dsimp only at hSw
    go_simp
    all_goals try decide
    all_goals try assumption
  try simp only [Act.put, List.getElem_toArray, List.getElem_cons_succ, List.getElem_cons_zero, List.setIfInBounds_toArray, List.set_cons_zero, List.set_cons_succ]
  refine wpAnyH_take (i := 5) (v := (.int .i64 (d : Int))) rfl (by kernel_rfl) (by kernel_rfl) (by kernel_rfl) (fun _ _ _ h => h) (Or.inl ⟨by rfl, ?_⟩) (by assumption) ?_
  · intro w9 hSw
    try dsimp only at hSw
    go_simp
    all_goals try decide
    all_goals try assumption
  try simp only [Act.put, List.getElem_toArray, List.getElem_cons_succ, List.getElem_cons_zero, List.setIfInBounds_toArray, List.set_cons_zero, List.set_cons_succ]
  refine wpAnyH_take (i := 6) (v := (.pointer (some ⟨B, k * 1024, none⟩))) rfl (by kernel_rfl) (by kernel_rfl) (by kernel_rfl) (fun _ _ _ h => h) (Or.inl ⟨by rfl, ?_⟩) (by assumption) ?_
  · intro w9 hSw
    try dsimp only at hSw
    go_simp
    all_goals try decide
    all_goals try assumption
  try simp only [Act.put, List.getElem_toArray, List.getElem_cons_succ, List.getElem_cons_zero, List.setIfInBounds_toArray, List.set_cons_zero, List.set_cons_succ]
  refine wpAnyH_take (i := 7) (v := (.pointer (some ⟨B, k * 1024 + d * 4, none⟩))) rfl (by kernel_rfl) (by kernel_rfl) (by kernel_rfl) (fun _ _ _ h => h) (Or.inl ⟨by rfl, ?_⟩) (by assumption) ?_
  · intro w9 hSw
    try dsimp only at hSw
    go_simp
    all_goals try decide
    all_goals try assumption
  try simp only [Act.put, List.getElem_toArray, List.getElem_cons_succ, List.getElem_cons_zero, List.setIfInBounds_toArray, List.set_cons_zero, List.set_cons_succ]
  refine wpAnyH_take (i := 8) (v := (.agg (w4 q0 q1 q2 q3))) rfl (by kernel_rfl) (by kernel_rfl) (by kernel_rfl) (fun _ _ _ h => h) (Or.inl ⟨by rfl, ?_⟩) (by assumption) ?_
  · intro w9 hSw
    try dsimp only at hSw
    go_simp
    all_goals try decide
    all_goals try assumption
  try simp only [Act.put, List.getElem_toArray, List.getElem_cons_succ, List.getElem_cons_zero, List.setIfInBounds_toArray, List.set_cons_zero, List.set_cons_succ]
  refine wpAnyH_take (i := 9) (v := (.agg (w4 b0 b1 b2 b3))) rfl (by kernel_rfl) (by kernel_rfl) (by kernel_rfl) (fun _ _ _ h => h) (Or.inl ⟨by rfl, ?_⟩) (by assumption) ?_
  · intro w9 hSw
    try dsimp only at hSw
    go_simp
    all_goals try decide
    all_goals try assumption
  try simp only [Act.put, List.getElem_toArray, List.getElem_cons_succ, List.getElem_cons_zero, List.setIfInBounds_toArray, List.set_cons_zero, List.set_cons_succ]
  refine wpAnyH_ready (rs := [10]) (by kernel_rfl) (by simp) ?_
  refine AllReadyH.cons rfl (fun K' hK => ?_) AllReadyH.nil
  rw [if_pos (by rfl)]
  simp only [List.getElem_toArray, List.getElem_cons_succ, List.getElem_cons_zero]
  go_wp2_with fail
  refine (FA _).mono ?_
  rintro e z ⟨rfl, hz⟩
  try go_wp2_with fail
  refine hK.out _ _ (KZ.out z hz) (fun hHeld => ?_)
  clear hK K'
  try simp only [Act.put, List.getElem_toArray, List.getElem_cons_succ, List.getElem_cons_zero, List.setIfInBounds_toArray, List.set_cons_zero, List.set_cons_succ]
  refine wpAnyH_take (i := 11) (v := (.bool (!FB))) rfl (by kernel_rfl) (by kernel_rfl) (by kernel_rfl) (fun _ _ _ h => h) (Or.inl ⟨by rfl, ?_⟩) (by assumption) ?_
  · intro w9 hSw
    try dsimp only at hSw
    go_simp
    all_goals try decide
    all_goals try assumption
  try simp only [Act.put, List.getElem_toArray, List.getElem_cons_succ, List.getElem_cons_zero, List.setIfInBounds_toArray, List.set_cons_zero, List.set_cons_succ]
  refine wpAnyH_done (by kernel_rfl) ?_ _
  obtain ⟨⟨hkz, hiz⟩, hcz⟩ := ST.out z hz
  clear ST KZ FZ FA
  cases FB with
  | false =>
    go_wp2_with fail
    go_ret
    exact ⟨rfl, hiz, hkz⟩
  | true =>
    go_wp2_with fail
    refine hcz.mono ?_
    rintro e z2 ⟨rfl, h2, k2⟩
    clear hcz
    go_wp2_with fail
    go_ret
    exact ⟨rfl, h2, hkz.trans k2⟩

theorem write_any {w : World} {p B n cap : Nat} {s : FS} (h : IsS w p B n cap s) (hs : s.Ok) (k d b0 b1 b2 b3 : Int) (hw : Oct [b0, b1, b2, b3]) :
    Calls Try.prog 27 #[.pointer (some ⟨p, 0, none⟩), .int .i64 k, .int .i64 d, .agg (w4 b0 b1 b2 b3)] w fun e w' => e = .returned (.int .i64 (s.write n k d b0 b1 b2 b3).1) ∧ IsS w' p B n cap (s.write n k d b0 b1 b2 b3).2 ∧ Kp [p, B] w w' := by
  by_cases hb : refE s.of n k d = 0
  · obtain ⟨ho, k, d, rfl, rfl, hk, hd⟩ := refE_zero hb
    exact write_ok h hs k d hk hd ho b0 b1 b2 b3 hw
  · refine (write_bad h k d b0 b1 b2 b3 hb).mono fun e w' ⟨he, hb'⟩ => ?_
    unfold FS.write
    rw [if_pos hb]
    exact ⟨he, h.next hb', Kp.of hb'⟩
#print axioms write_any
end Go.Proofs.Ytgpbmccjcjoijaa
