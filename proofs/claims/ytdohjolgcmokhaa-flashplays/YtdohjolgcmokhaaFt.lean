/-
  The walk of alike.
-/
import Derived.Test.YtdohjolgcmokhaaFm
import Derived.Deep.RegionHeld3
namespace Go.Proofs.Ytdohjolgcmokhaa
open Go.RowKit

theorem wp_conv_by {o : Oper} {a : Act} {w : World} {K : Act → World → Prop} {Q : Exit → Act → World → Prop} (x : Operand) (ho : o.op = .convert 39 9 x)
    (vx v : Value) (hx : a.eval x = vx) (hr : (convert 39 9 vx).run Try.prog w = .ok v w) (h : K (a.put o.dst v) w) : o.wp Try.prog a w K Q := by
  unfold Oper.wp execOp
  simp only [ho, hx, hr, Sem.run_bind, Sem.run_pure, Result.andThen_ok]
  exact h

set_option linter.unusedSimpArgs false in
set_option maxHeartbeats 8000000 in
set_option maxRecDepth 100000 in
theorem alike_any {w : World} {p B n cap p2 B2 c2 : Nat} {s : FS} (h : IsS w p B n cap s) (h2 : IsS w p2 B2 n c2 s) (n1 : p ≠ p2) (n2 : p ≠ B2) (n3 : B ≠ p2) (n4 : B ≠ B2) :
    Calls Try.prog 25 #[.pointer (some ⟨p, 0, none⟩), .pointer (some ⟨p2, 0, none⟩)] w fun e w' => e = .returned (.bool true) ∧ Kp [p, B, p2, B2] w w' := by
  have O1 := off_any h
  have O2 := off_any h2
  have S1 := steps_any h
  have S2 := steps_any h2
  have N1 := sectors_any h
  have N2 := sectors_any h2
  have ON : Hid (Calls Try.prog 19 #[.pointer (some ⟨p, 0, none⟩)] w fun e w' => e = .returned (.tuple #[]) ∧ IsF w' p B n cap s.cs s.st false 0 false ∧ Kp [p] w w') := on_any h
  have H2 : Hid (IsS w p2 B2 n c2 s) := h2
  clear h h2
  obtain ⟨C, st, ar, lf, of⟩ := s
  dsimp only at *
  have b1 : (of != of) = false := by simp
  have b2 : (st != st) = false := by simp
  have b3 : ((n : Int) != (n : Int)) = false := by simp
  go_enter Try.func25, Try.ntmps25
  go_wp2_with fail
  refine O1.mono ?_
  rintro e w ⟨rfl, rfl⟩
  go_wp2_with fail
  refine O2.mono ?_
  rintro e w ⟨rfl, rfl⟩
  go_wp2_with fail
  refine S1.mono ?_
  rintro e w ⟨rfl, rfl⟩
  go_wp2_with fail
  refine S2.mono ?_
  rintro e w ⟨rfl, rfl⟩
  go_wp2_with fail
  refine N1.mono ?_
  rintro e w ⟨rfl, rfl⟩
  go_wp2_with fail
  refine N2.mono ?_
  rintro e w ⟨rfl, rfl⟩
  clear O1 O2 S1 S2 N1 N2
  go_wp2_with fail
  refine ON.out.mono ?_
  rintro e w1 ⟨rfl, h1, k1⟩
  have h2 := H2.out.kp k1 (by simp; omega) (by simp; omega)
  have ON2 := on_any h2
  clear ON H2
  go_wp2_with fail
  refine ON2.mono ?_
  rintro e w2 ⟨rfl, h3, k2⟩
  have h4 := h1.kp k2 (by simp; omega) (by simp; omega)
  clear ON2 h1 h2
  have A1 : Hid (∀ z, Below w2.drew.heap.size w2.drew z → Calls Try.prog 16 #[.pointer (some ⟨p, 0, none⟩)] z fun e w' => (∃ a c, e = .returned (.slice a (1024 * n) c) ∧ Told z w' a (1024 * n) c C) ∧ Below z.heap.size z w') := fun z hz => all_any (s := ⟨C, st, false, 0, false⟩) ((IsF.keep (w' := w2.drew) h4 rfl rfl).next hz) rfl
  have A2 : Hid (∀ z, Below w2.drew.heap.size w2.drew z → Calls Try.prog 16 #[.pointer (some ⟨p2, 0, none⟩)] z fun e w' => (∃ a c, e = .returned (.slice a (1024 * n) c) ∧ Told z w' a (1024 * n) c C) ∧ Below z.heap.size z w') := fun z hz => all_any (s := ⟨C, st, false, 0, false⟩) ((IsF.keep (w' := w2.drew) h3 rfl rfl).next hz) rfl
  have FIN : Hid (∀ z, Below w2.drew.heap.size w2.drew z → Kp [p, B, p2, B2] w z) := fun z hz => (((k1.more (by simp)).trans (k2.more (by simp))).drew).trans (Kp.of hz)
  clear h3 h4 k1 k2
  obtain ⟨z, hz⟩ : ∃ z, z = w2.drew := ⟨_, rfl⟩
  have Bz : Below w2.drew.heap.size w2.drew z := by rw [hz]; exact Below.refl _ _
  go_wp2_with fail
  refine wp_region_held_drew (S := fun _ => True) (by kernel_rfl) trivial (fun hHeld => ?_)
  rw [← hz]
  rw [← hz] at A1 A2 FIN Bz
  clear hz
  refine wpAnyH_take (i := 0) (v := .pointer (some ⟨p, 0, none⟩)) rfl (by kernel_rfl) (by kernel_rfl) (by kernel_rfl) (fun _ _ _ h => h) (Or.inl ⟨by rfl, ?_⟩) trivial ?_
  · intro w9 hSw
    go_simp
  try simp only [Act.put, List.getElem_toArray, List.getElem_cons_succ, List.getElem_cons_zero, List.setIfInBounds_toArray, List.set_cons_zero, List.set_cons_succ]
  refine wpAnyH_take (i := 3) (v := .pointer (some ⟨p2, 0, none⟩)) rfl (by kernel_rfl) (by kernel_rfl) (by kernel_rfl) (fun _ _ _ h => h) (Or.inl ⟨by rfl, ?_⟩) trivial ?_
  · intro w9 hSw
    go_simp
  try simp only [Act.put, List.getElem_toArray, List.getElem_cons_succ, List.getElem_cons_zero, List.setIfInBounds_toArray, List.set_cons_zero, List.set_cons_succ]
  refine wpAnyH_ready (rs := [1]) (by kernel_rfl) (by simp) ?_
  refine AllReadyH.cons rfl (fun K' hK => ?_) AllReadyH.nil
  rw [if_pos (by rfl)]
  simp only [List.getElem_toArray, List.getElem_cons_succ, List.getElem_cons_zero]
  go_wp2_with fail
  refine (A1.out _ (Bz)).mono ?_
  rintro e z1 ⟨⟨a1, c1, rfl, T1⟩, b1⟩
  try go_wp2_with fail
  have Bz1 := Below.andThen Bz b1
  refine hK.out _ _ trivial (fun hHeld => ?_)
  clear hK K'
  try simp only [Act.put, List.getElem_toArray, List.getElem_cons_succ, List.getElem_cons_zero, List.setIfInBounds_toArray, List.set_cons_zero, List.set_cons_succ]
  have R1 := T1.row
  refine wpAnyH_ready (rs := [2, 4]) (by kernel_rfl) (by simp) ?_
  refine AllReadyH.cons rfl (fun K' hK => ?_) ?_
  · rw [if_pos (by rfl)]
    simp only [List.getElem_toArray, List.getElem_cons_succ, List.getElem_cons_zero]
    refine wp_conv_by (.tmp 29) rfl _ _ rfl (R1.str _) ?_
    refine hK.out _ _ trivial (fun hHeld => ?_)
    clear hK K'
    try simp only [Act.put, List.getElem_toArray, List.getElem_cons_succ, List.getElem_cons_zero, List.setIfInBounds_toArray, List.set_cons_zero, List.set_cons_succ]
    refine wpAnyH_ready (rs := [4]) (by kernel_rfl) (by simp) ?_
    refine AllReadyH.cons rfl (fun K' hK => ?_) AllReadyH.nil
    rw [if_pos (by rfl)]
    simp only [List.getElem_toArray, List.getElem_cons_succ, List.getElem_cons_zero]
    go_wp2_with fail
    refine (A2.out _ (Bz1)).mono ?_
    rintro e z14 ⟨⟨a4, c4, rfl, T4⟩, b4⟩
    try go_wp2_with fail
    have Bz14 := Below.andThen Bz1 b4
    refine hK.out _ _ trivial (fun hHeld => ?_)
    clear hK K'
    try simp only [Act.put, List.getElem_toArray, List.getElem_cons_succ, List.getElem_cons_zero, List.setIfInBounds_toArray, List.set_cons_zero, List.set_cons_succ]
    have R1 := R1.next b4
    have R4 := T4.row
    refine wpAnyH_ready (rs := [5]) (by kernel_rfl) (by simp) ?_
    refine AllReadyH.cons rfl (fun K' hK => ?_) AllReadyH.nil
    rw [if_pos (by rfl)]
    simp only [List.getElem_toArray, List.getElem_cons_succ, List.getElem_cons_zero]
    refine wp_conv_by (.tmp 32) rfl _ _ rfl (R4.str _) ?_
    refine hK.out _ _ trivial (fun hHeld => ?_)
    clear hK K'
    try simp only [Act.put, List.getElem_toArray, List.getElem_cons_succ, List.getElem_cons_zero, List.setIfInBounds_toArray, List.set_cons_zero, List.set_cons_succ]
    refine wpAnyH_take (i := 6) (v := .bool true) rfl (by kernel_rfl) (by kernel_rfl) (by kernel_rfl) (fun _ _ _ h => h) (Or.inl ⟨by rfl, ?_⟩) trivial ?_
    · intro w9 hSw
      go_simp
    try simp only [Act.put, List.getElem_toArray, List.getElem_cons_succ, List.getElem_cons_zero, List.setIfInBounds_toArray, List.set_cons_zero, List.set_cons_succ]
    refine wpAnyH_take (i := 7) (v := .bool true) rfl (by kernel_rfl) (by kernel_rfl) (by kernel_rfl) (fun _ _ _ h => h) (Or.inl ⟨by rfl, ?_⟩) trivial ?_
    · intro w9 hSw
      go_simp
    try simp only [Act.put, List.getElem_toArray, List.getElem_cons_succ, List.getElem_cons_zero, List.setIfInBounds_toArray, List.set_cons_zero, List.set_cons_succ]
    refine wpAnyH_done (by kernel_rfl) ?_ _
    go_wp2_with fail
    go_ret
    exact ⟨rfl, FIN.out _ Bz14⟩
  refine AllReadyH.cons rfl (fun K' hK => ?_) AllReadyH.nil
  rw [if_pos (by rfl)]
  simp only [List.getElem_toArray, List.getElem_cons_succ, List.getElem_cons_zero]
  go_wp2_with fail
  refine (A2.out _ (Bz1)).mono ?_
  rintro e z14 ⟨⟨a4, c4, rfl, T4⟩, b4⟩
  try go_wp2_with fail
  have Bz14 := Below.andThen Bz1 b4
  refine hK.out _ _ trivial (fun hHeld => ?_)
  clear hK K'
  try simp only [Act.put, List.getElem_toArray, List.getElem_cons_succ, List.getElem_cons_zero, List.setIfInBounds_toArray, List.set_cons_zero, List.set_cons_succ]
  have R1 := R1.next b4
  have R4 := T4.row
  refine wpAnyH_ready (rs := [2, 5]) (by kernel_rfl) (by simp) ?_
  refine AllReadyH.cons rfl (fun K' hK => ?_) ?_
  · rw [if_pos (by rfl)]
    simp only [List.getElem_toArray, List.getElem_cons_succ, List.getElem_cons_zero]
    refine wp_conv_by (.tmp 29) rfl _ _ rfl (R1.str _) ?_
    refine hK.out _ _ trivial (fun hHeld => ?_)
    clear hK K'
    try simp only [Act.put, List.getElem_toArray, List.getElem_cons_succ, List.getElem_cons_zero, List.setIfInBounds_toArray, List.set_cons_zero, List.set_cons_succ]
    refine wpAnyH_ready (rs := [5]) (by kernel_rfl) (by simp) ?_
    refine AllReadyH.cons rfl (fun K' hK => ?_) AllReadyH.nil
    rw [if_pos (by rfl)]
    simp only [List.getElem_toArray, List.getElem_cons_succ, List.getElem_cons_zero]
    refine wp_conv_by (.tmp 32) rfl _ _ rfl (R4.str _) ?_
    refine hK.out _ _ trivial (fun hHeld => ?_)
    clear hK K'
    try simp only [Act.put, List.getElem_toArray, List.getElem_cons_succ, List.getElem_cons_zero, List.setIfInBounds_toArray, List.set_cons_zero, List.set_cons_succ]
    refine wpAnyH_take (i := 6) (v := .bool true) rfl (by kernel_rfl) (by kernel_rfl) (by kernel_rfl) (fun _ _ _ h => h) (Or.inl ⟨by rfl, ?_⟩) trivial ?_
    · intro w9 hSw
      go_simp
    try simp only [Act.put, List.getElem_toArray, List.getElem_cons_succ, List.getElem_cons_zero, List.setIfInBounds_toArray, List.set_cons_zero, List.set_cons_succ]
    refine wpAnyH_take (i := 7) (v := .bool true) rfl (by kernel_rfl) (by kernel_rfl) (by kernel_rfl) (fun _ _ _ h => h) (Or.inl ⟨by rfl, ?_⟩) trivial ?_
    · intro w9 hSw
      go_simp
    try simp only [Act.put, List.getElem_toArray, List.getElem_cons_succ, List.getElem_cons_zero, List.setIfInBounds_toArray, List.set_cons_zero, List.set_cons_succ]
    refine wpAnyH_done (by kernel_rfl) ?_ _
    go_wp2_with fail
    go_ret
    exact ⟨rfl, FIN.out _ Bz14⟩
  refine AllReadyH.cons rfl (fun K' hK => ?_) AllReadyH.nil
  rw [if_pos (by rfl)]
  simp only [List.getElem_toArray, List.getElem_cons_succ, List.getElem_cons_zero]
  refine wp_conv_by (.tmp 32) rfl _ _ rfl (R4.str _) ?_
  refine hK.out _ _ trivial (fun hHeld => ?_)
  clear hK K'
  try simp only [Act.put, List.getElem_toArray, List.getElem_cons_succ, List.getElem_cons_zero, List.setIfInBounds_toArray, List.set_cons_zero, List.set_cons_succ]
  refine wpAnyH_ready (rs := [2]) (by kernel_rfl) (by simp) ?_
  refine AllReadyH.cons rfl (fun K' hK => ?_) AllReadyH.nil
  rw [if_pos (by rfl)]
  simp only [List.getElem_toArray, List.getElem_cons_succ, List.getElem_cons_zero]
  refine wp_conv_by (.tmp 29) rfl _ _ rfl (R1.str _) ?_
  refine hK.out _ _ trivial (fun hHeld => ?_)
  clear hK K'
  try simp only [Act.put, List.getElem_toArray, List.getElem_cons_succ, List.getElem_cons_zero, List.setIfInBounds_toArray, List.set_cons_zero, List.set_cons_succ]
  refine wpAnyH_take (i := 6) (v := .bool true) rfl (by kernel_rfl) (by kernel_rfl) (by kernel_rfl) (fun _ _ _ h => h) (Or.inl ⟨by rfl, ?_⟩) trivial ?_
  · intro w9 hSw
    go_simp
  try simp only [Act.put, List.getElem_toArray, List.getElem_cons_succ, List.getElem_cons_zero, List.setIfInBounds_toArray, List.set_cons_zero, List.set_cons_succ]
  refine wpAnyH_take (i := 7) (v := .bool true) rfl (by kernel_rfl) (by kernel_rfl) (by kernel_rfl) (fun _ _ _ h => h) (Or.inl ⟨by rfl, ?_⟩) trivial ?_
  · intro w9 hSw
    go_simp
  try simp only [Act.put, List.getElem_toArray, List.getElem_cons_succ, List.getElem_cons_zero, List.setIfInBounds_toArray, List.set_cons_zero, List.set_cons_succ]
  refine wpAnyH_done (by kernel_rfl) ?_ _
  go_wp2_with fail
  go_ret
  exact ⟨rfl, FIN.out _ Bz14⟩
#print axioms alike_any
end Go.Proofs.Ytdohjolgcmokhaa
