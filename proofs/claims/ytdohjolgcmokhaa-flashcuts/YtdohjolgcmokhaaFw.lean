/-
  FlashCuts of any number, row of calls and cut.
-/
import Derived.Test.YtdohjolgcmokhaaFv
namespace Go.Proofs.Ytdohjolgcmokhaa
open Go.RowKit

/-- Two flashes, one of which is armed. -/
structure CR (t : Int) (sa sb : FS) : Prop where
  cs : sa.cs = sb.cs
  st : sa.st = sb.st
  a1 : sa.ar = true
  a2 : sa.of = false
  b1 : sb.ar = false
  b2 : sb.of = false
  lf : sa.lf = t - sa.st
  l0 : 0 ≤ sa.lf
  s0 : 0 ≤ sa.st
  lb : sb.lf = 0
/-- Behind a step: cut, or both did it. -/
def CB (t : Int) (sa sb sa' sb' : FS) : Prop := (sa'.of = true → sa'.cs = sb.cs ∧ sa'.st = sb.st ∧ sa'.st = t) ∧ (sa'.of = false → CR t sa' sb' ∧ sa'.st ≤ sa.st + 1)
theorem CR.same {t : Int} {sa sb : FS} (h : CR t sa sb) : CB t sa sb sa sb := ⟨(fun e => by rw [h.a2] at e; cases e), fun _ => ⟨h, by omega⟩⟩
theorem CR.step {t : Int} {sa sb : FS} (h : CR t sa sb) (cs : List Int) : CB t sa sb (sa.step cs).2 (sb.step cs).2 := by
  by_cases hz : sa.lf = 0
  · rw [FS.step_cut h.a1 hz]
    refine ⟨fun _ => ⟨h.cs, h.st, ?_⟩, fun e => by cases e⟩
    have := h.lf
    show sa.st = t
    omega
  · rw [FS.step_armed h.a1 hz, FS.step_free h.b1]
    refine ⟨fun e => ?_, fun _ => ⟨⟨rfl, ?_, h.a1, h.a2, h.b1, h.b2, ?_, ?_, ?_, h.lb⟩, ?_⟩⟩
    · have e' : sa.of = true := e
      rw [h.a2] at e'; cases e'
    · show sa.st + 1 = sb.st + 1; rw [h.st]
    · show sa.lf - 1 = t - (sa.st + 1); have := h.lf; omega
    · show 0 ≤ sa.lf - 1; have := h.l0; omega
    · show 0 ≤ sa.st + 1; have := h.s0; omega
    · show sa.st + 1 ≤ sa.st + 1; omega
theorem CR.erase {t : Int} {sa sb : FS} (h : CR t sa sb) (n : Nat) (k : Int) : CB t sa sb (sa.erase n k).2 (sb.erase n k).2 := by
  unfold FS.erase
  rw [h.a2, h.b2, ← h.cs]
  split
  · exact h.same
  · exact h.step _
theorem CR.write {t : Int} {sa sb : FS} (h : CR t sa sb) (n : Nat) (k d b0 b1 b2 b3 : Int) : CB t sa sb (sa.write n k d b0 b1 b2 b3).2 (sb.write n k d b0 b1 b2 b3).2 := by
  unfold FS.write
  rw [h.a2, h.b2, ← h.cs]
  split
  · exact h.same
  · split
    · exact h.step _
    · exact h.same
theorem CR.oka {t : Int} {sa sb : FS} (h : CR t sa sb) (ht : t < 9223372036854775808) {i : Nat} (hi : sa.st ≤ i) (h2 : i ≤ 1000) : sa.Ok := ⟨h.s0, by omega, h.l0, by have := h.lf; have := h.s0; omega⟩
theorem CR.okb {t : Int} {sa sb : FS} (h : CR t sa sb) {i : Nat} (hi : sa.st ≤ i) (h2 : i ≤ 1000) : sb.Ok := ⟨by rw [← h.st]; exact h.s0, by rw [← h.st]; omega, by rw [h.lb]; decide, by rw [h.lb]; decide⟩

set_option linter.unusedSimpArgs false in
set_option maxHeartbeats 8000000 in
set_option maxRecDepth 100000 in
theorem cutsL (z : Int) (a1 : Option Addr) (n1 c1 : Nat) (t : Int) (w : World) (h1 : largeB z n1 = true) :
    Calls Try.prog 5 #[.int .i64 z, .slice a1 n1 c1, .int .i64 t] w fun e w' => e = .returned (.bool true) ∧ Below w.heap.size w w' := by
  have G1 := fun w => large_any z a1 n1 c1 w
  rw [h1] at G1
  go_enter Try.func5, Try.ntmps5
  go_wp2_with fail
  refine (G1 _).mono ?_
  rintro e w ⟨rfl, rfl⟩
  go_wp2_with fail
  refine (works_any _).mono ?_
  rintro e w' ⟨rfl, hb⟩
  go_wp2_with fail
  go_ret
  exact ⟨rfl, hb⟩

set_option linter.unusedSimpArgs false in
set_option maxHeartbeats 8000000 in
set_option maxRecDepth 100000 in
theorem cutsN (z : Int) (a1 : Option Addr) (n1 c1 : Nat) (t : Int) (w : World) (h1 : largeB z n1 = false) (ht : t < 0) :
    Calls Try.prog 5 #[.int .i64 z, .slice a1 n1 c1, .int .i64 t] w fun e w' => e = .returned (.bool true) ∧ Below w.heap.size w w' := by
  have G1 := fun w => large_any z a1 n1 c1 w
  rw [h1] at G1
  go_enter Try.func5, Try.ntmps5
  go_wp2_with fail
  refine (G1 _).mono ?_
  rintro e w ⟨rfl, rfl⟩
  go_wp2_with fail
  refine (works_any _).mono ?_
  rintro e w' ⟨rfl, hb⟩
  go_wp2_with fail
  go_ret
  exact ⟨rfl, hb⟩

set_option linter.unusedSimpArgs false in
set_option maxHeartbeats 8000000 in
set_option maxRecDepth 100000 in
theorem cutsB (z : Int) (a1 : Option Addr) (n1 c1 : Nat) (t : Int) (w : World) (h1 : largeB z n1 = false) (ht : ¬ t < 0) (hz : z < 1 ∨ 64 < z) :
    Calls Try.prog 5 #[.int .i64 z, .slice a1 n1 c1, .int .i64 t] w fun e w' => e = .returned (.bool true) ∧ Below w.heap.size w w' := by
  have G1 := fun w => large_any z a1 n1 c1 w
  rw [h1] at G1
  have NB := fun w => new_bad z w hz
  clear hz
  go_enter Try.func5, Try.ntmps5
  go_wp2_with fail
  refine (G1 _).mono ?_
  rintro e w ⟨rfl, rfl⟩
  go_wp2_with fail
  refine (NB _).mono ?_
  rintro e w ⟨rfl, rfl⟩
  go_wp2_with fail
  refine (NB _).mono ?_
  rintro e w ⟨rfl, rfl⟩
  go_wp2_with fail
  refine (works_any _).mono ?_
  rintro e w' ⟨rfl, hb⟩
  go_wp2_with fail
  go_ret
  exact ⟨rfl, hb⟩

set_option linter.unusedSimpArgs false in
set_option maxHeartbeats 8000000 in
set_option maxRecDepth 100000 in
theorem cutsG (n : Nat) (hn1 : 1 ≤ n) (hn4 : n ≤ 64) (a1 : Option Addr) (n1 c1 : Nat) (t : Int) (w : World) (L : List Opv) (o : IsOps w a1 n1 L) (m1 : n1 ≤ 200) (h1 : largeB n n1 = false) (ht0 : 0 ≤ t) (ht1 : Hid (t < 9223372036854775808)) :
    Calls Try.prog 5 #[.int .i64 (n : Int), .slice a1 n1 c1, .int .i64 t] w fun e w' => e = .returned (.bool true) ∧ Below w.heap.size w w' := by
  have G1 := fun w => large_any n a1 n1 c1 w
  rw [h1] at G1
  have NO := fun w => new_ok n hn1 hn4 w
  have gt : ¬ t < 0 := by omega
  go_enter Try.func5, Try.ntmps5
  go_wp2_with fail
  refine (G1 _).mono ?_
  rintro e w ⟨rfl, rfl⟩
  clear h1 G1
  go_wp2_with fail
  refine (NO w).mono ?_
  rintro e w11 ⟨⟨p, B, rfl, hp, hB, S⟩, b11⟩
  have lt11 := S.lt
  go_wp2_with fail
  refine (NO w11).mono ?_
  rintro e w12 ⟨⟨px, Bx, rfl, hpx, hBx, Sx⟩, b12⟩
  have lt12 := Sx.lt
  have S := S.next b12
  have bb12 : Below w.heap.size w w12 := Below.andThen b11 b12
  have z11 := b11.size
  have z12 := b12.size
  have CU := cut_any S t
  rw [decide_eq_true ht0, show max t 0 = t from by omega] at CU
  go_wp2_with fail
  refine CU.mono ?_
  rintro e w13 ⟨rfl, T, k13⟩
  clear CU
  have Tx := Sx.kp k13 (by simp; omega) (by simp; omega)
  have bb13 : Below w.heap.size w w13 := Kp.below bb12 k13 bb12.size (by intro j hj; simp at hj; omega)
  have INI : Hid (∃ sa sb : FS, Below w.heap.size w w13 ∧ IsS w13 p B n n sa ∧ IsS w13 px Bx n n sb ∧ CR t sa sb ∧ sa.st ≤ ((0 : Nat) : Int)) := ⟨⟨(newS n).cs, 0, true, t, false⟩, newS n, bb13, T, Tx, ⟨rfl, rfl, rfl, rfl, rfl, rfl, by show t = t - 0; omega, ht0, Int.le_refl 0, rfl⟩, Int.le_refl 0⟩
  have ORD : Hid (w.heap.size ≤ p ∧ w.heap.size ≤ B ∧ p < w11.heap.size ∧ B < w11.heap.size ∧ w11.heap.size ≤ px ∧ w11.heap.size ≤ Bx ∧ px < w12.heap.size ∧ Bx < w12.heap.size ∧ w.heap.size ≤ w11.heap.size) := ⟨by omega, by omega, by omega, by omega, by omega, by omega, by omega, by omega, by omega⟩
  have SZ : Hid (w12.heap.size ≤ w13.heap.size) := k13.size
  clear S Sx T Tx k13 bb12 bb13 b11 b12 lt11 lt12 hp hB hpx hBx z11 z12 NO
  have lsz := o.size
  go_wp2_with fail
  go_loopw [11] (fun u wr => ∃ i : Nat, i ≤ n1 ∧ u = .int .i64 i ∧ w13.heap.size ≤ wr.heap.size ∧ ∃ sa sb : FS, Below w.heap.size w wr ∧ IsS wr p B n n sa ∧ IsS wr px Bx n n sb ∧ CR t sa sb ∧ sa.st ≤ (i : Int))
    (fun u _ => n1 - (intOf u).toNat)
  case atStart => exact ⟨0, Nat.zero_le _, rfl, Nat.le_refl _, INI.out⟩
  case round =>
    clear INI
    obtain ⟨i, hi, rfl, hsz, sa, sbx, uy, Ta0, Tb0, CC, hle⟩ := hrel
    have Ta : Hid (IsS wr p B n n sa) := Ta0
    have Tb : Hid (IsS wr px Bx n n sbx) := Tb0
    have C1 : Hid (CR t sa sbx) := CC
    have HL : Hid (sa.st ≤ (i : Int)) := hle
    have HZ : Hid (w13.heap.size ≤ wr.heap.size) := hsz
    clear Ta0 Tb0 CC hle hsz
    by_cases hlt : i < n1
    rotate_left
    · have g1 : ¬ (i : Int) < (n1 : Int) := by omega
      have hof : Hid (sa.of = false) := C1.out.a2
      have hofb : Hid (sbx.of = false) := C1.out.b2
      have hcs : Hid (sa.cs = sbx.cs) := C1.out.cs
      have hst : Hid (sa.st = sbx.st) := C1.out.st
      clear C1 HL o
      have OF := off_any Ta.out
      rw [hof.out] at OF
      go_wp2_with fail
      refine OF.mono ?_
      rintro e wr ⟨rfl, rfl⟩
      clear OF
      have ONN := on_any Ta.out
      go_wp2_with fail
      refine ONN.mono ?_
      rintro e v1 ⟨rfl, U1, k1⟩
      clear ONN
      obtain ⟨r1, r2, r3, r4, r5, r6, r7, r8, r9⟩ := ORD.out
      have V1 := Tb.out.kp k1 (by simp; omega) (by simp; omega)
      rw [hcs.out, hst.out] at U1
      have SA : Hid (∀ z, Below v1.drew.heap.size v1.drew z → Calls Try.prog 23 #[.pointer (some ⟨p, 0, none⟩)] z fun e w' => e = .returned (.int .i64 sbx.st) ∧ w' = z) := fun z hz => steps_any ((IsF.keep (w' := v1.drew) U1 rfl rfl).next hz)
      have SB : Hid (∀ z, Below v1.drew.heap.size v1.drew z → Calls Try.prog 23 #[.pointer (some ⟨px, 0, none⟩)] z fun e w' => e = .returned (.int .i64 sbx.st) ∧ w' = z) := fun z hz => steps_any ((IsF.keep (w' := v1.drew) V1 rfl rfl).next hz)
      have A1 : Hid (∀ z, Below v1.drew.heap.size v1.drew z → Calls Try.prog 16 #[.pointer (some ⟨p, 0, none⟩)] z fun e w' => (∃ a c, e = .returned (.slice a (1024 * n) c) ∧ Told z w' a (1024 * n) c sbx.cs) ∧ Below z.heap.size z w') := fun z hz => all_any (s := ⟨sbx.cs, sbx.st, false, 0, false⟩) ((IsF.keep (w' := v1.drew) U1 rfl rfl).next hz) rfl
      have A2 : Hid (∀ z, Below v1.drew.heap.size v1.drew z → Calls Try.prog 16 #[.pointer (some ⟨px, 0, none⟩)] z fun e w' => (∃ a c, e = .returned (.slice a (1024 * n) c) ∧ Told z w' a (1024 * n) c sbx.cs) ∧ Below z.heap.size z w') := fun z hz => all_any (s := sbx) ((IsF.keep (w' := v1.drew) V1 rfl rfl).next hz) hofb.out
      have FIN : Hid (∀ z, Below v1.drew.heap.size v1.drew z → Below w.heap.size w z) := fun z hz => (Kp.below uy (k1.drew.trans (Kp.of hz)) uy.size (by intro j hj; simp at hj; omega))
      clear U1 V1 k1 Ta Tb r1 r2 r3 r4 r5 r6 r7 r8 r9
      obtain ⟨C, hC⟩ : ∃ C, Hid (C = sbx.cs) := ⟨_, rfl⟩
      obtain ⟨T0, hT⟩ : ∃ T0, Hid (T0 = sbx.st) := ⟨_, rfl⟩
      rw [← hC.out] at A1 A2
      rw [← hT.out] at SA SB
      go_wp2_with fail
      obtain ⟨z, hz⟩ : ∃ z, z = v1.drew := ⟨_, rfl⟩
      have Bz : Below v1.drew.heap.size v1.drew z := by rw [hz]; exact Below.refl _ _
      refine wp_region_held_drew (S := fun _ => True) (by kernel_rfl) trivial (fun hHeld => ?_)
      rw [← hz]
      rw [← hz] at SA SB A1 A2 FIN Bz
      clear hz
      refine wpAnyH_take (i := 0) (v := .pointer (some ⟨p, 0, none⟩)) rfl (by kernel_rfl) (by kernel_rfl) (by kernel_rfl) (fun _ _ _ h => h) (Or.inl ⟨by rfl, ?_⟩) trivial ?_
      · intro w9 hSw
        go_simp
      try simp only [Act.put, List.getElem_toArray, List.getElem_cons_succ, List.getElem_cons_zero, List.setIfInBounds_toArray, List.set_cons_zero, List.set_cons_succ]
      refine wpAnyH_take (i := 2) (v := .pointer (some ⟨px, 0, none⟩)) rfl (by kernel_rfl) (by kernel_rfl) (by kernel_rfl) (fun _ _ _ h => h) (Or.inl ⟨by rfl, ?_⟩) trivial ?_
      · intro w9 hSw
        go_simp
      try simp only [Act.put, List.getElem_toArray, List.getElem_cons_succ, List.getElem_cons_zero, List.setIfInBounds_toArray, List.set_cons_zero, List.set_cons_succ]
      refine wpAnyH_ready (rs := [1]) (by kernel_rfl) (by simp) ?_
      refine AllReadyH.cons rfl (fun K' hK => ?_) AllReadyH.nil
      rw [if_pos (by rfl)]
      simp only [List.getElem_toArray, List.getElem_cons_succ, List.getElem_cons_zero]
      go_wp2_with fail
      refine (SA.out _ Bz).mono ?_
      rintro e z ⟨rfl, rfl⟩
      try go_wp2_with fail
      refine hK.out _ _ trivial (fun hHeld => ?_)
      clear hK K'
      try simp only [Act.put, List.getElem_toArray, List.getElem_cons_succ, List.getElem_cons_zero, List.setIfInBounds_toArray, List.set_cons_zero, List.set_cons_succ]
      refine wpAnyH_ready (rs := [3]) (by kernel_rfl) (by simp) ?_
      refine AllReadyH.cons rfl (fun K' hK => ?_) AllReadyH.nil
      rw [if_pos (by rfl)]
      simp only [List.getElem_toArray, List.getElem_cons_succ, List.getElem_cons_zero]
      go_wp2_with fail
      refine (SB.out _ Bz).mono ?_
      rintro e z ⟨rfl, rfl⟩
      try go_wp2_with fail
      refine hK.out _ _ trivial (fun hHeld => ?_)
      clear hK K'
      try simp only [Act.put, List.getElem_toArray, List.getElem_cons_succ, List.getElem_cons_zero, List.setIfInBounds_toArray, List.set_cons_zero, List.set_cons_succ]
      refine wpAnyH_take (i := 4) (v := .bool true) rfl (by kernel_rfl) (by kernel_rfl) (by kernel_rfl) (fun _ _ _ h => h) (Or.inl ⟨by rfl, ?_⟩) trivial ?_
      · intro w9 hSw
        go_simp
      try simp only [Act.put, List.getElem_toArray, List.getElem_cons_succ, List.getElem_cons_zero, List.setIfInBounds_toArray, List.set_cons_zero, List.set_cons_succ]
      refine wpAnyH_take (i := 5) (v := .bool true) rfl (by kernel_rfl) (by kernel_rfl) (by kernel_rfl) (fun _ _ _ h => h) (Or.inl ⟨by rfl, ?_⟩) trivial ?_
      · intro w9 hSw
        go_simp
      try simp only [Act.put, List.getElem_toArray, List.getElem_cons_succ, List.getElem_cons_zero, List.setIfInBounds_toArray, List.set_cons_zero, List.set_cons_succ]
      refine wpAnyH_take (i := 6) (v := .pointer (some ⟨p, 0, none⟩)) rfl (by kernel_rfl) (by kernel_rfl) (by kernel_rfl) (fun _ _ _ h => h) (Or.inl ⟨by rfl, ?_⟩) trivial ?_
      · intro w9 hSw
        go_simp
      try simp only [Act.put, List.getElem_toArray, List.getElem_cons_succ, List.getElem_cons_zero, List.setIfInBounds_toArray, List.set_cons_zero, List.set_cons_succ]
      refine wpAnyH_take (i := 9) (v := .pointer (some ⟨px, 0, none⟩)) rfl (by kernel_rfl) (by kernel_rfl) (by kernel_rfl) (fun _ _ _ h => h) (Or.inl ⟨by rfl, ?_⟩) trivial ?_
      · intro w9 hSw
        go_simp
      try simp only [Act.put, List.getElem_toArray, List.getElem_cons_succ, List.getElem_cons_zero, List.setIfInBounds_toArray, List.set_cons_zero, List.set_cons_succ]
      refine wpAnyH_ready (rs := [7]) (by kernel_rfl) (by simp) ?_
      refine AllReadyH.cons rfl (fun K' hK => ?_) AllReadyH.nil
      rw [if_pos (by rfl)]
      simp only [List.getElem_toArray, List.getElem_cons_succ, List.getElem_cons_zero]
      go_wp2_with fail
      refine (A1.out _ Bz).mono ?_
      rintro e za ⟨⟨a7, c7, rfl, T7⟩, b7⟩
      try go_wp2_with fail
      have Bza := Below.andThen Bz b7
      refine hK.out _ _ trivial (fun hHeld => ?_)
      clear hK K'
      try simp only [Act.put, List.getElem_toArray, List.getElem_cons_succ, List.getElem_cons_zero, List.setIfInBounds_toArray, List.set_cons_zero, List.set_cons_succ]
      have R7 := T7.row
      refine wpAnyH_ready (rs := [8, 10]) (by kernel_rfl) (by simp) ?_
      refine AllReadyH.cons rfl (fun K' hK => ?_) ?_
      · rw [if_pos (by rfl)]
        simp only [List.getElem_toArray, List.getElem_cons_succ, List.getElem_cons_zero]
        refine wp_conv_by (.tmp 106) rfl _ _ rfl (R7.str _) ?_
        refine hK.out _ _ trivial (fun hHeld => ?_)
        clear hK K'
        try simp only [Act.put, List.getElem_toArray, List.getElem_cons_succ, List.getElem_cons_zero, List.setIfInBounds_toArray, List.set_cons_zero, List.set_cons_succ]
        refine wpAnyH_ready (rs := [10]) (by kernel_rfl) (by simp) ?_
        refine AllReadyH.cons rfl (fun K' hK => ?_) AllReadyH.nil
        rw [if_pos (by rfl)]
        simp only [List.getElem_toArray, List.getElem_cons_succ, List.getElem_cons_zero]
        go_wp2_with fail
        refine (A2.out _ Bza).mono ?_
        rintro e zab ⟨⟨a10, c10, rfl, T10⟩, b10⟩
        try go_wp2_with fail
        have Bzab := Below.andThen Bza b10
        refine hK.out _ _ trivial (fun hHeld => ?_)
        clear hK K'
        try simp only [Act.put, List.getElem_toArray, List.getElem_cons_succ, List.getElem_cons_zero, List.setIfInBounds_toArray, List.set_cons_zero, List.set_cons_succ]
        have R7 := R7.next b10
        have R10 := T10.row
        refine wpAnyH_ready (rs := [11]) (by kernel_rfl) (by simp) ?_
        refine AllReadyH.cons rfl (fun K' hK => ?_) AllReadyH.nil
        rw [if_pos (by rfl)]
        simp only [List.getElem_toArray, List.getElem_cons_succ, List.getElem_cons_zero]
        refine wp_conv_by (.tmp 109) rfl _ _ rfl (R10.str _) ?_
        refine hK.out _ _ trivial (fun hHeld => ?_)
        clear hK K'
        try simp only [Act.put, List.getElem_toArray, List.getElem_cons_succ, List.getElem_cons_zero, List.setIfInBounds_toArray, List.set_cons_zero, List.set_cons_succ]
        refine wpAnyH_take (i := 12) (v := .bool true) rfl (by kernel_rfl) (by kernel_rfl) (by kernel_rfl) (fun _ _ _ h => h) (Or.inl ⟨by rfl, ?_⟩) trivial ?_
        · intro w9 hSw
          go_simp
        try simp only [Act.put, List.getElem_toArray, List.getElem_cons_succ, List.getElem_cons_zero, List.setIfInBounds_toArray, List.set_cons_zero, List.set_cons_succ]
        refine wpAnyH_take (i := 13) (v := .bool true) rfl (by kernel_rfl) (by kernel_rfl) (by kernel_rfl) (fun _ _ _ h => h) (Or.inl ⟨by rfl, ?_⟩) trivial ?_
        · intro w9 hSw
          go_simp
        try simp only [Act.put, List.getElem_toArray, List.getElem_cons_succ, List.getElem_cons_zero, List.setIfInBounds_toArray, List.set_cons_zero, List.set_cons_succ]
        refine wpAnyH_take (i := 14) (v := .bool true) rfl (by kernel_rfl) (by kernel_rfl) (by kernel_rfl) (fun _ _ _ h => h) (Or.inl ⟨by rfl, ?_⟩) trivial ?_
        · intro w9 hSw
          go_simp
        try simp only [Act.put, List.getElem_toArray, List.getElem_cons_succ, List.getElem_cons_zero, List.setIfInBounds_toArray, List.set_cons_zero, List.set_cons_succ]
        refine wpAnyH_ready (rs := [15]) (by kernel_rfl) (by simp) ?_
        refine AllReadyH.cons rfl (fun K' hK => ?_) AllReadyH.nil
        rw [if_pos (by rfl)]
        simp only [List.getElem_toArray, List.getElem_cons_succ, List.getElem_cons_zero]
        go_wp2_with fail
        refine (works_any _).mono ?_
        rintro e zz ⟨rfl, bw⟩
        try go_wp2_with fail
        have BW := Below.andThen Bzab bw
        refine hK.out _ _ trivial (fun hHeld => ?_)
        clear hK K'
        try simp only [Act.put, List.getElem_toArray, List.getElem_cons_succ, List.getElem_cons_zero, List.setIfInBounds_toArray, List.set_cons_zero, List.set_cons_succ]
        refine wpAnyH_take (i := 16) (v := .bool true) rfl (by kernel_rfl) (by kernel_rfl) (by kernel_rfl) (fun _ _ _ h => h) (Or.inl ⟨by rfl, ?_⟩) trivial ?_
        · intro w9 hSw
          go_simp
        try simp only [Act.put, List.getElem_toArray, List.getElem_cons_succ, List.getElem_cons_zero, List.setIfInBounds_toArray, List.set_cons_zero, List.set_cons_succ]
        refine wpAnyH_take (i := 17) (v := .bool true) rfl (by kernel_rfl) (by kernel_rfl) (by kernel_rfl) (fun _ _ _ h => h) (Or.inl ⟨by rfl, ?_⟩) trivial ?_
        · intro w9 hSw
          go_simp
        try simp only [Act.put, List.getElem_toArray, List.getElem_cons_succ, List.getElem_cons_zero, List.setIfInBounds_toArray, List.set_cons_zero, List.set_cons_succ]
        refine wpAnyH_done (by kernel_rfl) ?_ _
        go_wp2_with fail
        go_ret
        exact ⟨rfl, FIN.out _ BW⟩
      refine AllReadyH.cons rfl (fun K' hK => ?_) AllReadyH.nil
      rw [if_pos (by rfl)]
      simp only [List.getElem_toArray, List.getElem_cons_succ, List.getElem_cons_zero]
      go_wp2_with fail
      refine (A2.out _ Bza).mono ?_
      rintro e zab ⟨⟨a10, c10, rfl, T10⟩, b10⟩
      try go_wp2_with fail
      have Bzab := Below.andThen Bza b10
      refine hK.out _ _ trivial (fun hHeld => ?_)
      clear hK K'
      try simp only [Act.put, List.getElem_toArray, List.getElem_cons_succ, List.getElem_cons_zero, List.setIfInBounds_toArray, List.set_cons_zero, List.set_cons_succ]
      have R7 := R7.next b10
      have R10 := T10.row
      refine wpAnyH_ready (rs := [8, 11]) (by kernel_rfl) (by simp) ?_
      refine AllReadyH.cons rfl (fun K' hK => ?_) ?_
      · rw [if_pos (by rfl)]
        simp only [List.getElem_toArray, List.getElem_cons_succ, List.getElem_cons_zero]
        refine wp_conv_by (.tmp 106) rfl _ _ rfl (R7.str _) ?_
        refine hK.out _ _ trivial (fun hHeld => ?_)
        clear hK K'
        try simp only [Act.put, List.getElem_toArray, List.getElem_cons_succ, List.getElem_cons_zero, List.setIfInBounds_toArray, List.set_cons_zero, List.set_cons_succ]
        refine wpAnyH_ready (rs := [11]) (by kernel_rfl) (by simp) ?_
        refine AllReadyH.cons rfl (fun K' hK => ?_) AllReadyH.nil
        rw [if_pos (by rfl)]
        simp only [List.getElem_toArray, List.getElem_cons_succ, List.getElem_cons_zero]
        refine wp_conv_by (.tmp 109) rfl _ _ rfl (R10.str _) ?_
        refine hK.out _ _ trivial (fun hHeld => ?_)
        clear hK K'
        try simp only [Act.put, List.getElem_toArray, List.getElem_cons_succ, List.getElem_cons_zero, List.setIfInBounds_toArray, List.set_cons_zero, List.set_cons_succ]
        refine wpAnyH_take (i := 12) (v := .bool true) rfl (by kernel_rfl) (by kernel_rfl) (by kernel_rfl) (fun _ _ _ h => h) (Or.inl ⟨by rfl, ?_⟩) trivial ?_
        · intro w9 hSw
          go_simp
        try simp only [Act.put, List.getElem_toArray, List.getElem_cons_succ, List.getElem_cons_zero, List.setIfInBounds_toArray, List.set_cons_zero, List.set_cons_succ]
        refine wpAnyH_take (i := 13) (v := .bool true) rfl (by kernel_rfl) (by kernel_rfl) (by kernel_rfl) (fun _ _ _ h => h) (Or.inl ⟨by rfl, ?_⟩) trivial ?_
        · intro w9 hSw
          go_simp
        try simp only [Act.put, List.getElem_toArray, List.getElem_cons_succ, List.getElem_cons_zero, List.setIfInBounds_toArray, List.set_cons_zero, List.set_cons_succ]
        refine wpAnyH_take (i := 14) (v := .bool true) rfl (by kernel_rfl) (by kernel_rfl) (by kernel_rfl) (fun _ _ _ h => h) (Or.inl ⟨by rfl, ?_⟩) trivial ?_
        · intro w9 hSw
          go_simp
        try simp only [Act.put, List.getElem_toArray, List.getElem_cons_succ, List.getElem_cons_zero, List.setIfInBounds_toArray, List.set_cons_zero, List.set_cons_succ]
        refine wpAnyH_ready (rs := [15]) (by kernel_rfl) (by simp) ?_
        refine AllReadyH.cons rfl (fun K' hK => ?_) AllReadyH.nil
        rw [if_pos (by rfl)]
        simp only [List.getElem_toArray, List.getElem_cons_succ, List.getElem_cons_zero]
        go_wp2_with fail
        refine (works_any _).mono ?_
        rintro e zz ⟨rfl, bw⟩
        try go_wp2_with fail
        have BW := Below.andThen Bzab bw
        refine hK.out _ _ trivial (fun hHeld => ?_)
        clear hK K'
        try simp only [Act.put, List.getElem_toArray, List.getElem_cons_succ, List.getElem_cons_zero, List.setIfInBounds_toArray, List.set_cons_zero, List.set_cons_succ]
        refine wpAnyH_take (i := 16) (v := .bool true) rfl (by kernel_rfl) (by kernel_rfl) (by kernel_rfl) (fun _ _ _ h => h) (Or.inl ⟨by rfl, ?_⟩) trivial ?_
        · intro w9 hSw
          go_simp
        try simp only [Act.put, List.getElem_toArray, List.getElem_cons_succ, List.getElem_cons_zero, List.setIfInBounds_toArray, List.set_cons_zero, List.set_cons_succ]
        refine wpAnyH_take (i := 17) (v := .bool true) rfl (by kernel_rfl) (by kernel_rfl) (by kernel_rfl) (fun _ _ _ h => h) (Or.inl ⟨by rfl, ?_⟩) trivial ?_
        · intro w9 hSw
          go_simp
        try simp only [Act.put, List.getElem_toArray, List.getElem_cons_succ, List.getElem_cons_zero, List.setIfInBounds_toArray, List.set_cons_zero, List.set_cons_succ]
        refine wpAnyH_done (by kernel_rfl) ?_ _
        go_wp2_with fail
        go_ret
        exact ⟨rfl, FIN.out _ BW⟩
      refine AllReadyH.cons rfl (fun K' hK => ?_) AllReadyH.nil
      rw [if_pos (by rfl)]
      simp only [List.getElem_toArray, List.getElem_cons_succ, List.getElem_cons_zero]
      refine wp_conv_by (.tmp 109) rfl _ _ rfl (R10.str _) ?_
      refine hK.out _ _ trivial (fun hHeld => ?_)
      clear hK K'
      try simp only [Act.put, List.getElem_toArray, List.getElem_cons_succ, List.getElem_cons_zero, List.setIfInBounds_toArray, List.set_cons_zero, List.set_cons_succ]
      refine wpAnyH_ready (rs := [8]) (by kernel_rfl) (by simp) ?_
      refine AllReadyH.cons rfl (fun K' hK => ?_) AllReadyH.nil
      rw [if_pos (by rfl)]
      simp only [List.getElem_toArray, List.getElem_cons_succ, List.getElem_cons_zero]
      refine wp_conv_by (.tmp 106) rfl _ _ rfl (R7.str _) ?_
      refine hK.out _ _ trivial (fun hHeld => ?_)
      clear hK K'
      try simp only [Act.put, List.getElem_toArray, List.getElem_cons_succ, List.getElem_cons_zero, List.setIfInBounds_toArray, List.set_cons_zero, List.set_cons_succ]
      refine wpAnyH_take (i := 12) (v := .bool true) rfl (by kernel_rfl) (by kernel_rfl) (by kernel_rfl) (fun _ _ _ h => h) (Or.inl ⟨by rfl, ?_⟩) trivial ?_
      · intro w9 hSw
        go_simp
      try simp only [Act.put, List.getElem_toArray, List.getElem_cons_succ, List.getElem_cons_zero, List.setIfInBounds_toArray, List.set_cons_zero, List.set_cons_succ]
      refine wpAnyH_take (i := 13) (v := .bool true) rfl (by kernel_rfl) (by kernel_rfl) (by kernel_rfl) (fun _ _ _ h => h) (Or.inl ⟨by rfl, ?_⟩) trivial ?_
      · intro w9 hSw
        go_simp
      try simp only [Act.put, List.getElem_toArray, List.getElem_cons_succ, List.getElem_cons_zero, List.setIfInBounds_toArray, List.set_cons_zero, List.set_cons_succ]
      refine wpAnyH_take (i := 14) (v := .bool true) rfl (by kernel_rfl) (by kernel_rfl) (by kernel_rfl) (fun _ _ _ h => h) (Or.inl ⟨by rfl, ?_⟩) trivial ?_
      · intro w9 hSw
        go_simp
      try simp only [Act.put, List.getElem_toArray, List.getElem_cons_succ, List.getElem_cons_zero, List.setIfInBounds_toArray, List.set_cons_zero, List.set_cons_succ]
      refine wpAnyH_ready (rs := [15]) (by kernel_rfl) (by simp) ?_
      refine AllReadyH.cons rfl (fun K' hK => ?_) AllReadyH.nil
      rw [if_pos (by rfl)]
      simp only [List.getElem_toArray, List.getElem_cons_succ, List.getElem_cons_zero]
      go_wp2_with fail
      refine (works_any _).mono ?_
      rintro e zz ⟨rfl, bw⟩
      try go_wp2_with fail
      have BW := Below.andThen Bzab bw
      refine hK.out _ _ trivial (fun hHeld => ?_)
      clear hK K'
      try simp only [Act.put, List.getElem_toArray, List.getElem_cons_succ, List.getElem_cons_zero, List.setIfInBounds_toArray, List.set_cons_zero, List.set_cons_succ]
      refine wpAnyH_take (i := 16) (v := .bool true) rfl (by kernel_rfl) (by kernel_rfl) (by kernel_rfl) (fun _ _ _ h => h) (Or.inl ⟨by rfl, ?_⟩) trivial ?_
      · intro w9 hSw
        go_simp
      try simp only [Act.put, List.getElem_toArray, List.getElem_cons_succ, List.getElem_cons_zero, List.setIfInBounds_toArray, List.set_cons_zero, List.set_cons_succ]
      refine wpAnyH_take (i := 17) (v := .bool true) rfl (by kernel_rfl) (by kernel_rfl) (by kernel_rfl) (fun _ _ _ h => h) (Or.inl ⟨by rfl, ?_⟩) trivial ?_
      · intro w9 hSw
        go_simp
      try simp only [Act.put, List.getElem_toArray, List.getElem_cons_succ, List.getElem_cons_zero, List.setIfInBounds_toArray, List.set_cons_zero, List.set_cons_succ]
      refine wpAnyH_done (by kernel_rfl) ?_ _
      go_wp2_with fail
      go_ret
      exact ⟨rfl, FIN.out _ BW⟩
    have g1 : (i : Int) < (n1 : Int) := by omega
    obtain ⟨x, hx⟩ : ∃ x, L[i]? = some x := ⟨L[i]'(by omega), List.getElem?_eq_getElem _⟩
    have hok2 : x.Ok := o.good x (List.mem_of_getElem? hx)
    obtain ⟨b, off, e2, hc⟩ := (o.next uy).at_ (by omega)
    have old := o.old (by omega) b off e2
    subst e2
    obtain ⟨c0, c1, c2, c3, c4, c5, c6⟩ := hc i x hx
    clear hc
    have c4' : wr.cell? ⟨b, off + i * 7 + 4, none⟩ = some (.int .u8 x.w1) := c4
    have c5' : wr.cell? ⟨b, off + i * 7 + 5, none⟩ = some (.int .u8 x.w2) := c5
    have c6' : wr.cell? ⟨b, off + i * 7 + 6, none⟩ = some (.int .u8 x.w3) := c6
    clear c4 c5 c6
    have d0 : ∀ o, (wr.alloc o).cell? ⟨b, off + i * 7, none⟩ = some (.int .u8 x.k) := fun o => (Kp.of (S := []) (Below.al (Below.refl _ _) o)).cell c0 (by simp)
    have d1 : ∀ o, (wr.alloc o).cell? ⟨b, off + i * 7 + 1, none⟩ = some (.int .i64 x.A) := fun o => (Kp.of (S := []) (Below.al (Below.refl _ _) o)).cell c1 (by simp)
    have d2 : ∀ o, (wr.alloc o).cell? ⟨b, off + i * 7 + 2, none⟩ = some (.int .i64 x.B) := fun o => (Kp.of (S := []) (Below.al (Below.refl _ _) o)).cell c2 (by simp)
    have d3 : ∀ o, (wr.alloc o).cell? ⟨b, off + i * 7 + 3, none⟩ = some (.int .u8 x.w0) := fun o => (Kp.of (S := []) (Below.al (Below.refl _ _) o)).cell c3 (by simp)
    have d4 : ∀ o, (wr.alloc o).cell? ⟨b, off + i * 7 + 4, none⟩ = some (.int .u8 x.w1) := fun o => (Kp.of (S := []) (Below.al (Below.refl _ _) o)).cell c4' (by simp)
    have d5 : ∀ o, (wr.alloc o).cell? ⟨b, off + i * 7 + 5, none⟩ = some (.int .u8 x.w2) := fun o => (Kp.of (S := []) (Below.al (Below.refl _ _) o)).cell c5' (by simp)
    have d6 : ∀ o, (wr.alloc o).cell? ⟨b, off + i * 7 + 6, none⟩ = some (.int .u8 x.w3) := fun o => (Kp.of (S := []) (Below.al (Below.refl _ _) o)).cell c6' (by simp)
    have hrr : x.k % 9 = 0 ∨ x.k % 9 = 1 ∨ x.k % 9 = 2 ∨ x.k % 9 = 3 ∨ 4 ≤ x.k % 9 := by omega
    have km := Int.tmod_eq_emod_of_nonneg (b := 9) hok2.k0
    rcases hrr with hrr | hrr | hrr | hrr | hrr
    · have R1 : x.k.tmod 9 = 0 := by rw [km]; exact hrr
      have EA : Hid (∀ y, Below wr.heap.size wr y → Calls Try.prog 21 #[.pointer (some ⟨p, 0, none⟩), .int .i64 x.A, .int .i64 x.B, .agg (w4 x.w0 x.w1 x.w2 x.w3)] y fun e w' => e = .returned (.int .i64 (sa.write n x.A x.B x.w0 x.w1 x.w2 x.w3).1) ∧ IsS w' p B n n (sa.write n x.A x.B x.w0 x.w1 x.w2 x.w3).2 ∧ Kp [p, B] y w') := fun y hy => write_any (Ta.out.next hy) (C1.out.oka ht1.out HL.out (by omega)) x.A x.B x.w0 x.w1 x.w2 x.w3 hok2.ow
      have EB : Hid (∀ y, IsS y px Bx n n sbx → Calls Try.prog 21 #[.pointer (some ⟨px, 0, none⟩), .int .i64 x.A, .int .i64 x.B, .agg (w4 x.w0 x.w1 x.w2 x.w3)] y fun e w' => e = .returned (.int .i64 (sbx.write n x.A x.B x.w0 x.w1 x.w2 x.w3).1) ∧ IsS w' px Bx n n (sbx.write n x.A x.B x.w0 x.w1 x.w2 x.w3).2 ∧ Kp [px, Bx] y w') := fun y hy => write_any (hy) (C1.out.okb HL.out (by omega)) x.A x.B x.w0 x.w1 x.w2 x.w3 hok2.ow
      have CX : Hid (CB t sa sbx (sa.write n x.A x.B x.w0 x.w1 x.w2 x.w3).2 (sbx.write n x.A x.B x.w0 x.w1 x.w2 x.w3).2) := C1.out.write n x.A x.B x.w0 x.w1 x.w2 x.w3
      have hofb : Hid (sbx.of = false) := C1.out.b2
      generalize sa.write n x.A x.B x.w0 x.w1 x.w2 x.w3 = RA at *
      generalize sbx.write n x.A x.B x.w0 x.w1 x.w2 x.w3 = RB at *
      clear km hrr hok2 C1 o
      go_wp2_with fail
      go_region
      go_wp2_with fail
      refine (EA.out _ (by first | exact Below.drew (Below.al (Below.refl _ _) _) | exact Below.al (Below.drew (Below.refl _ _)) _ | exact Below.drew (Below.al (Below.drew (Below.refl _ _)) _))).mono ?_
      rintro e y ⟨rfl, Ya, ky⟩
      obtain ⟨r1, r2, r3, r4, r5, r6, r7, r8, r9⟩ := ORD.out
      have sz := SZ.out
      have sz2 := HZ.out
      have y1 := ky.cell (b := wr.heap.size) (o := 1) (v := .int .i64 x.A) (by simp [go_sem]) (by simp; omega)
      have y2 := ky.cell (b := wr.heap.size) (o := 2) (v := .int .i64 x.B) (by simp [go_sem]) (by simp; omega)
      have y3 := ky.cell (b := wr.heap.size) (o := 3) (v := .int .u8 x.w0) (by simp [go_sem]) (by simp; omega)
      have y4 := ky.cell (b := wr.heap.size) (o := 4) (v := .int .u8 x.w1) (by simp [go_sem]) (by simp; omega)
      have y5 := ky.cell (b := wr.heap.size) (o := 5) (v := .int .u8 x.w2) (by simp [go_sem]) (by simp; omega)
      have y6 := ky.cell (b := wr.heap.size) (o := 6) (v := .int .u8 x.w3) (by simp [go_sem]) (by simp; omega)
      have kk : Kp [p, B] wr y := (Kp.of (S := [p, B]) (a := wr) (by first | exact Below.drew (Below.al (Below.refl _ _) _) | exact Below.al (Below.drew (Below.refl _ _)) _ | exact Below.drew (Below.al (Below.drew (Below.refl _ _)) _))).trans ky
      have Tb2 : Hid (IsS y px Bx n n sbx) := Tb.out.kp kk (by simp; omega) (by simp; omega)
      have uy2 : Below w.heap.size w y := Kp.below uy kk uy.size (by intro j hj; simp at hj; omega)
      have ysz : Hid (wr.heap.size ≤ y.heap.size) := kk.size
      have OFA := off_any Ya
      have Ya2 : Hid (IsS y p B n n RA.2) := Ya
      clear EA Ta Tb ky kk uy c0 c1 c2 c3 c4' c5' c6' d0 d1 d2 d3 d4 d5 d6 Ya sz sz2 r1 r2 r3 r4 r5 r6 r7 r8 r9
      cases hq : RA.2.of with
      | true =>
        rw [hq] at OFA
        go_wp2_with fail
        refine OFA.mono ?_
        rintro e y ⟨rfl, rfl⟩
        obtain ⟨q1, q2, q3⟩ := CX.out.1 hq
        have hof : Hid (RA.2.of = true) := hq
        have hstt : Hid (RA.2.st = t) := q3
        have hcs : Hid (RA.2.cs = sbx.cs) := q1
        have hst : Hid (RA.2.st = sbx.st) := q2
        have Ta := Ya2
        have Tb := Tb2
        have uy := uy2
        clear q1 q2 q3 CX EB OFA Ya2 Tb2 y1 y2 y3 y4 y5 y6 uy2 hq HL
        have OF := off_any Ta.out
        rw [hof.out] at OF
        go_wp2_with fail
        refine OF.mono ?_
        rintro e y ⟨rfl, rfl⟩
        clear OF
        have ST := steps_any Ta.out
        rw [hstt.out] at ST
        have tt : (t != t) = false := by simp
        go_wp2_with fail
        refine ST.mono ?_
        rintro e y ⟨rfl, rfl⟩
        clear ST tt
        have ONN := on_any Ta.out
        go_wp2_with fail
        refine ONN.mono ?_
        rintro e v1 ⟨rfl, U1, k1⟩
        clear ONN
        obtain ⟨r1, r2, r3, r4, r5, r6, r7, r8, r9⟩ := ORD.out
        have V1 := Tb.out.kp k1 (by simp; omega) (by simp; omega)
        rw [hcs.out, hst.out] at U1
        have SA : Hid (∀ z, Below v1.drew.heap.size v1.drew z → Calls Try.prog 23 #[.pointer (some ⟨p, 0, none⟩)] z fun e w' => e = .returned (.int .i64 sbx.st) ∧ w' = z) := fun z hz => steps_any ((IsF.keep (w' := v1.drew) U1 rfl rfl).next hz)
        have SB : Hid (∀ z, Below v1.drew.heap.size v1.drew z → Calls Try.prog 23 #[.pointer (some ⟨px, 0, none⟩)] z fun e w' => e = .returned (.int .i64 sbx.st) ∧ w' = z) := fun z hz => steps_any ((IsF.keep (w' := v1.drew) V1 rfl rfl).next hz)
        have A1 : Hid (∀ z, Below v1.drew.heap.size v1.drew z → Calls Try.prog 16 #[.pointer (some ⟨p, 0, none⟩)] z fun e w' => (∃ a c, e = .returned (.slice a (1024 * n) c) ∧ Told z w' a (1024 * n) c sbx.cs) ∧ Below z.heap.size z w') := fun z hz => all_any (s := ⟨sbx.cs, sbx.st, false, 0, false⟩) ((IsF.keep (w' := v1.drew) U1 rfl rfl).next hz) rfl
        have A2 : Hid (∀ z, Below v1.drew.heap.size v1.drew z → Calls Try.prog 16 #[.pointer (some ⟨px, 0, none⟩)] z fun e w' => (∃ a c, e = .returned (.slice a (1024 * n) c) ∧ Told z w' a (1024 * n) c sbx.cs) ∧ Below z.heap.size z w') := fun z hz => all_any (s := sbx) ((IsF.keep (w' := v1.drew) V1 rfl rfl).next hz) hofb.out
        have FIN : Hid (∀ z, Below v1.drew.heap.size v1.drew z → Below w.heap.size w z) := fun z hz => (Kp.below uy (k1.drew.trans (Kp.of hz)) uy.size (by intro j hj; simp at hj; omega))
        clear U1 V1 k1 Ta Tb r1 r2 r3 r4 r5 r6 r7 r8 r9
        obtain ⟨C, hC⟩ : ∃ C, Hid (C = sbx.cs) := ⟨_, rfl⟩
        obtain ⟨T0, hT⟩ : ∃ T0, Hid (T0 = sbx.st) := ⟨_, rfl⟩
        rw [← hC.out] at A1 A2
        rw [← hT.out] at SA SB
        go_wp2_with fail
        obtain ⟨z, hz⟩ : ∃ z, z = v1.drew := ⟨_, rfl⟩
        have Bz : Below v1.drew.heap.size v1.drew z := by rw [hz]; exact Below.refl _ _
        refine wp_region_held_drew (S := fun _ => True) (by kernel_rfl) trivial (fun hHeld => ?_)
        rw [← hz]
        rw [← hz] at SA SB A1 A2 FIN Bz
        clear hz
        refine wpAnyH_take (i := 0) (v := .pointer (some ⟨p, 0, none⟩)) rfl (by kernel_rfl) (by kernel_rfl) (by kernel_rfl) (fun _ _ _ h => h) (Or.inl ⟨by rfl, ?_⟩) trivial ?_
        · intro w9 hSw
          go_simp
        try simp only [Act.put, List.getElem_toArray, List.getElem_cons_succ, List.getElem_cons_zero, List.setIfInBounds_toArray, List.set_cons_zero, List.set_cons_succ]
        refine wpAnyH_take (i := 2) (v := .pointer (some ⟨px, 0, none⟩)) rfl (by kernel_rfl) (by kernel_rfl) (by kernel_rfl) (fun _ _ _ h => h) (Or.inl ⟨by rfl, ?_⟩) trivial ?_
        · intro w9 hSw
          go_simp
        try simp only [Act.put, List.getElem_toArray, List.getElem_cons_succ, List.getElem_cons_zero, List.setIfInBounds_toArray, List.set_cons_zero, List.set_cons_succ]
        refine wpAnyH_ready (rs := [1]) (by kernel_rfl) (by simp) ?_
        refine AllReadyH.cons rfl (fun K' hK => ?_) AllReadyH.nil
        rw [if_pos (by rfl)]
        simp only [List.getElem_toArray, List.getElem_cons_succ, List.getElem_cons_zero]
        go_wp2_with fail
        refine (SA.out _ Bz).mono ?_
        rintro e z ⟨rfl, rfl⟩
        try go_wp2_with fail
        refine hK.out _ _ trivial (fun hHeld => ?_)
        clear hK K'
        try simp only [Act.put, List.getElem_toArray, List.getElem_cons_succ, List.getElem_cons_zero, List.setIfInBounds_toArray, List.set_cons_zero, List.set_cons_succ]
        refine wpAnyH_ready (rs := [3]) (by kernel_rfl) (by simp) ?_
        refine AllReadyH.cons rfl (fun K' hK => ?_) AllReadyH.nil
        rw [if_pos (by rfl)]
        simp only [List.getElem_toArray, List.getElem_cons_succ, List.getElem_cons_zero]
        go_wp2_with fail
        refine (SB.out _ Bz).mono ?_
        rintro e z ⟨rfl, rfl⟩
        try go_wp2_with fail
        refine hK.out _ _ trivial (fun hHeld => ?_)
        clear hK K'
        try simp only [Act.put, List.getElem_toArray, List.getElem_cons_succ, List.getElem_cons_zero, List.setIfInBounds_toArray, List.set_cons_zero, List.set_cons_succ]
        refine wpAnyH_take (i := 4) (v := .bool true) rfl (by kernel_rfl) (by kernel_rfl) (by kernel_rfl) (fun _ _ _ h => h) (Or.inl ⟨by rfl, ?_⟩) trivial ?_
        · intro w9 hSw
          go_simp
        try simp only [Act.put, List.getElem_toArray, List.getElem_cons_succ, List.getElem_cons_zero, List.setIfInBounds_toArray, List.set_cons_zero, List.set_cons_succ]
        refine wpAnyH_take (i := 5) (v := .bool true) rfl (by kernel_rfl) (by kernel_rfl) (by kernel_rfl) (fun _ _ _ h => h) (Or.inl ⟨by rfl, ?_⟩) trivial ?_
        · intro w9 hSw
          go_simp
        try simp only [Act.put, List.getElem_toArray, List.getElem_cons_succ, List.getElem_cons_zero, List.setIfInBounds_toArray, List.set_cons_zero, List.set_cons_succ]
        refine wpAnyH_take (i := 6) (v := .pointer (some ⟨p, 0, none⟩)) rfl (by kernel_rfl) (by kernel_rfl) (by kernel_rfl) (fun _ _ _ h => h) (Or.inl ⟨by rfl, ?_⟩) trivial ?_
        · intro w9 hSw
          go_simp
        try simp only [Act.put, List.getElem_toArray, List.getElem_cons_succ, List.getElem_cons_zero, List.setIfInBounds_toArray, List.set_cons_zero, List.set_cons_succ]
        refine wpAnyH_take (i := 9) (v := .pointer (some ⟨px, 0, none⟩)) rfl (by kernel_rfl) (by kernel_rfl) (by kernel_rfl) (fun _ _ _ h => h) (Or.inl ⟨by rfl, ?_⟩) trivial ?_
        · intro w9 hSw
          go_simp
        try simp only [Act.put, List.getElem_toArray, List.getElem_cons_succ, List.getElem_cons_zero, List.setIfInBounds_toArray, List.set_cons_zero, List.set_cons_succ]
        refine wpAnyH_ready (rs := [7]) (by kernel_rfl) (by simp) ?_
        refine AllReadyH.cons rfl (fun K' hK => ?_) AllReadyH.nil
        rw [if_pos (by rfl)]
        simp only [List.getElem_toArray, List.getElem_cons_succ, List.getElem_cons_zero]
        go_wp2_with fail
        refine (A1.out _ Bz).mono ?_
        rintro e za ⟨⟨a7, c7, rfl, T7⟩, b7⟩
        try go_wp2_with fail
        have Bza := Below.andThen Bz b7
        refine hK.out _ _ trivial (fun hHeld => ?_)
        clear hK K'
        try simp only [Act.put, List.getElem_toArray, List.getElem_cons_succ, List.getElem_cons_zero, List.setIfInBounds_toArray, List.set_cons_zero, List.set_cons_succ]
        have R7 := T7.row
        refine wpAnyH_ready (rs := [8, 10]) (by kernel_rfl) (by simp) ?_
        refine AllReadyH.cons rfl (fun K' hK => ?_) ?_
        · rw [if_pos (by rfl)]
          simp only [List.getElem_toArray, List.getElem_cons_succ, List.getElem_cons_zero]
          refine wp_conv_by (.tmp 106) rfl _ _ rfl (R7.str _) ?_
          refine hK.out _ _ trivial (fun hHeld => ?_)
          clear hK K'
          try simp only [Act.put, List.getElem_toArray, List.getElem_cons_succ, List.getElem_cons_zero, List.setIfInBounds_toArray, List.set_cons_zero, List.set_cons_succ]
          refine wpAnyH_ready (rs := [10]) (by kernel_rfl) (by simp) ?_
          refine AllReadyH.cons rfl (fun K' hK => ?_) AllReadyH.nil
          rw [if_pos (by rfl)]
          simp only [List.getElem_toArray, List.getElem_cons_succ, List.getElem_cons_zero]
          go_wp2_with fail
          refine (A2.out _ Bza).mono ?_
          rintro e zab ⟨⟨a10, c10, rfl, T10⟩, b10⟩
          try go_wp2_with fail
          have Bzab := Below.andThen Bza b10
          refine hK.out _ _ trivial (fun hHeld => ?_)
          clear hK K'
          try simp only [Act.put, List.getElem_toArray, List.getElem_cons_succ, List.getElem_cons_zero, List.setIfInBounds_toArray, List.set_cons_zero, List.set_cons_succ]
          have R7 := R7.next b10
          have R10 := T10.row
          refine wpAnyH_ready (rs := [11]) (by kernel_rfl) (by simp) ?_
          refine AllReadyH.cons rfl (fun K' hK => ?_) AllReadyH.nil
          rw [if_pos (by rfl)]
          simp only [List.getElem_toArray, List.getElem_cons_succ, List.getElem_cons_zero]
          refine wp_conv_by (.tmp 109) rfl _ _ rfl (R10.str _) ?_
          refine hK.out _ _ trivial (fun hHeld => ?_)
          clear hK K'
          try simp only [Act.put, List.getElem_toArray, List.getElem_cons_succ, List.getElem_cons_zero, List.setIfInBounds_toArray, List.set_cons_zero, List.set_cons_succ]
          refine wpAnyH_take (i := 12) (v := .bool true) rfl (by kernel_rfl) (by kernel_rfl) (by kernel_rfl) (fun _ _ _ h => h) (Or.inl ⟨by rfl, ?_⟩) trivial ?_
          · intro w9 hSw
            go_simp
          try simp only [Act.put, List.getElem_toArray, List.getElem_cons_succ, List.getElem_cons_zero, List.setIfInBounds_toArray, List.set_cons_zero, List.set_cons_succ]
          refine wpAnyH_take (i := 13) (v := .bool true) rfl (by kernel_rfl) (by kernel_rfl) (by kernel_rfl) (fun _ _ _ h => h) (Or.inl ⟨by rfl, ?_⟩) trivial ?_
          · intro w9 hSw
            go_simp
          try simp only [Act.put, List.getElem_toArray, List.getElem_cons_succ, List.getElem_cons_zero, List.setIfInBounds_toArray, List.set_cons_zero, List.set_cons_succ]
          refine wpAnyH_take (i := 14) (v := .bool true) rfl (by kernel_rfl) (by kernel_rfl) (by kernel_rfl) (fun _ _ _ h => h) (Or.inl ⟨by rfl, ?_⟩) trivial ?_
          · intro w9 hSw
            go_simp
          try simp only [Act.put, List.getElem_toArray, List.getElem_cons_succ, List.getElem_cons_zero, List.setIfInBounds_toArray, List.set_cons_zero, List.set_cons_succ]
          refine wpAnyH_ready (rs := [15]) (by kernel_rfl) (by simp) ?_
          refine AllReadyH.cons rfl (fun K' hK => ?_) AllReadyH.nil
          rw [if_pos (by rfl)]
          simp only [List.getElem_toArray, List.getElem_cons_succ, List.getElem_cons_zero]
          go_wp2_with fail
          refine (works_any _).mono ?_
          rintro e zz ⟨rfl, bw⟩
          try go_wp2_with fail
          have BW := Below.andThen Bzab bw
          refine hK.out _ _ trivial (fun hHeld => ?_)
          clear hK K'
          try simp only [Act.put, List.getElem_toArray, List.getElem_cons_succ, List.getElem_cons_zero, List.setIfInBounds_toArray, List.set_cons_zero, List.set_cons_succ]
          refine wpAnyH_take (i := 16) (v := .bool true) rfl (by kernel_rfl) (by kernel_rfl) (by kernel_rfl) (fun _ _ _ h => h) (Or.inl ⟨by rfl, ?_⟩) trivial ?_
          · intro w9 hSw
            go_simp
          try simp only [Act.put, List.getElem_toArray, List.getElem_cons_succ, List.getElem_cons_zero, List.setIfInBounds_toArray, List.set_cons_zero, List.set_cons_succ]
          refine wpAnyH_take (i := 17) (v := .bool true) rfl (by kernel_rfl) (by kernel_rfl) (by kernel_rfl) (fun _ _ _ h => h) (Or.inl ⟨by rfl, ?_⟩) trivial ?_
          · intro w9 hSw
            go_simp
          try simp only [Act.put, List.getElem_toArray, List.getElem_cons_succ, List.getElem_cons_zero, List.setIfInBounds_toArray, List.set_cons_zero, List.set_cons_succ]
          refine wpAnyH_done (by kernel_rfl) ?_ _
          go_wp2_with fail
          go_ret
          exact ⟨rfl, FIN.out _ BW⟩
        refine AllReadyH.cons rfl (fun K' hK => ?_) AllReadyH.nil
        rw [if_pos (by rfl)]
        simp only [List.getElem_toArray, List.getElem_cons_succ, List.getElem_cons_zero]
        go_wp2_with fail
        refine (A2.out _ Bza).mono ?_
        rintro e zab ⟨⟨a10, c10, rfl, T10⟩, b10⟩
        try go_wp2_with fail
        have Bzab := Below.andThen Bza b10
        refine hK.out _ _ trivial (fun hHeld => ?_)
        clear hK K'
        try simp only [Act.put, List.getElem_toArray, List.getElem_cons_succ, List.getElem_cons_zero, List.setIfInBounds_toArray, List.set_cons_zero, List.set_cons_succ]
        have R7 := R7.next b10
        have R10 := T10.row
        refine wpAnyH_ready (rs := [8, 11]) (by kernel_rfl) (by simp) ?_
        refine AllReadyH.cons rfl (fun K' hK => ?_) ?_
        · rw [if_pos (by rfl)]
          simp only [List.getElem_toArray, List.getElem_cons_succ, List.getElem_cons_zero]
          refine wp_conv_by (.tmp 106) rfl _ _ rfl (R7.str _) ?_
          refine hK.out _ _ trivial (fun hHeld => ?_)
          clear hK K'
          try simp only [Act.put, List.getElem_toArray, List.getElem_cons_succ, List.getElem_cons_zero, List.setIfInBounds_toArray, List.set_cons_zero, List.set_cons_succ]
          refine wpAnyH_ready (rs := [11]) (by kernel_rfl) (by simp) ?_
          refine AllReadyH.cons rfl (fun K' hK => ?_) AllReadyH.nil
          rw [if_pos (by rfl)]
          simp only [List.getElem_toArray, List.getElem_cons_succ, List.getElem_cons_zero]
          refine wp_conv_by (.tmp 109) rfl _ _ rfl (R10.str _) ?_
          refine hK.out _ _ trivial (fun hHeld => ?_)
          clear hK K'
          try simp only [Act.put, List.getElem_toArray, List.getElem_cons_succ, List.getElem_cons_zero, List.setIfInBounds_toArray, List.set_cons_zero, List.set_cons_succ]
          refine wpAnyH_take (i := 12) (v := .bool true) rfl (by kernel_rfl) (by kernel_rfl) (by kernel_rfl) (fun _ _ _ h => h) (Or.inl ⟨by rfl, ?_⟩) trivial ?_
          · intro w9 hSw
            go_simp
          try simp only [Act.put, List.getElem_toArray, List.getElem_cons_succ, List.getElem_cons_zero, List.setIfInBounds_toArray, List.set_cons_zero, List.set_cons_succ]
          refine wpAnyH_take (i := 13) (v := .bool true) rfl (by kernel_rfl) (by kernel_rfl) (by kernel_rfl) (fun _ _ _ h => h) (Or.inl ⟨by rfl, ?_⟩) trivial ?_
          · intro w9 hSw
            go_simp
          try simp only [Act.put, List.getElem_toArray, List.getElem_cons_succ, List.getElem_cons_zero, List.setIfInBounds_toArray, List.set_cons_zero, List.set_cons_succ]
          refine wpAnyH_take (i := 14) (v := .bool true) rfl (by kernel_rfl) (by kernel_rfl) (by kernel_rfl) (fun _ _ _ h => h) (Or.inl ⟨by rfl, ?_⟩) trivial ?_
          · intro w9 hSw
            go_simp
          try simp only [Act.put, List.getElem_toArray, List.getElem_cons_succ, List.getElem_cons_zero, List.setIfInBounds_toArray, List.set_cons_zero, List.set_cons_succ]
          refine wpAnyH_ready (rs := [15]) (by kernel_rfl) (by simp) ?_
          refine AllReadyH.cons rfl (fun K' hK => ?_) AllReadyH.nil
          rw [if_pos (by rfl)]
          simp only [List.getElem_toArray, List.getElem_cons_succ, List.getElem_cons_zero]
          go_wp2_with fail
          refine (works_any _).mono ?_
          rintro e zz ⟨rfl, bw⟩
          try go_wp2_with fail
          have BW := Below.andThen Bzab bw
          refine hK.out _ _ trivial (fun hHeld => ?_)
          clear hK K'
          try simp only [Act.put, List.getElem_toArray, List.getElem_cons_succ, List.getElem_cons_zero, List.setIfInBounds_toArray, List.set_cons_zero, List.set_cons_succ]
          refine wpAnyH_take (i := 16) (v := .bool true) rfl (by kernel_rfl) (by kernel_rfl) (by kernel_rfl) (fun _ _ _ h => h) (Or.inl ⟨by rfl, ?_⟩) trivial ?_
          · intro w9 hSw
            go_simp
          try simp only [Act.put, List.getElem_toArray, List.getElem_cons_succ, List.getElem_cons_zero, List.setIfInBounds_toArray, List.set_cons_zero, List.set_cons_succ]
          refine wpAnyH_take (i := 17) (v := .bool true) rfl (by kernel_rfl) (by kernel_rfl) (by kernel_rfl) (fun _ _ _ h => h) (Or.inl ⟨by rfl, ?_⟩) trivial ?_
          · intro w9 hSw
            go_simp
          try simp only [Act.put, List.getElem_toArray, List.getElem_cons_succ, List.getElem_cons_zero, List.setIfInBounds_toArray, List.set_cons_zero, List.set_cons_succ]
          refine wpAnyH_done (by kernel_rfl) ?_ _
          go_wp2_with fail
          go_ret
          exact ⟨rfl, FIN.out _ BW⟩
        refine AllReadyH.cons rfl (fun K' hK => ?_) AllReadyH.nil
        rw [if_pos (by rfl)]
        simp only [List.getElem_toArray, List.getElem_cons_succ, List.getElem_cons_zero]
        refine wp_conv_by (.tmp 109) rfl _ _ rfl (R10.str _) ?_
        refine hK.out _ _ trivial (fun hHeld => ?_)
        clear hK K'
        try simp only [Act.put, List.getElem_toArray, List.getElem_cons_succ, List.getElem_cons_zero, List.setIfInBounds_toArray, List.set_cons_zero, List.set_cons_succ]
        refine wpAnyH_ready (rs := [8]) (by kernel_rfl) (by simp) ?_
        refine AllReadyH.cons rfl (fun K' hK => ?_) AllReadyH.nil
        rw [if_pos (by rfl)]
        simp only [List.getElem_toArray, List.getElem_cons_succ, List.getElem_cons_zero]
        refine wp_conv_by (.tmp 106) rfl _ _ rfl (R7.str _) ?_
        refine hK.out _ _ trivial (fun hHeld => ?_)
        clear hK K'
        try simp only [Act.put, List.getElem_toArray, List.getElem_cons_succ, List.getElem_cons_zero, List.setIfInBounds_toArray, List.set_cons_zero, List.set_cons_succ]
        refine wpAnyH_take (i := 12) (v := .bool true) rfl (by kernel_rfl) (by kernel_rfl) (by kernel_rfl) (fun _ _ _ h => h) (Or.inl ⟨by rfl, ?_⟩) trivial ?_
        · intro w9 hSw
          go_simp
        try simp only [Act.put, List.getElem_toArray, List.getElem_cons_succ, List.getElem_cons_zero, List.setIfInBounds_toArray, List.set_cons_zero, List.set_cons_succ]
        refine wpAnyH_take (i := 13) (v := .bool true) rfl (by kernel_rfl) (by kernel_rfl) (by kernel_rfl) (fun _ _ _ h => h) (Or.inl ⟨by rfl, ?_⟩) trivial ?_
        · intro w9 hSw
          go_simp
        try simp only [Act.put, List.getElem_toArray, List.getElem_cons_succ, List.getElem_cons_zero, List.setIfInBounds_toArray, List.set_cons_zero, List.set_cons_succ]
        refine wpAnyH_take (i := 14) (v := .bool true) rfl (by kernel_rfl) (by kernel_rfl) (by kernel_rfl) (fun _ _ _ h => h) (Or.inl ⟨by rfl, ?_⟩) trivial ?_
        · intro w9 hSw
          go_simp
        try simp only [Act.put, List.getElem_toArray, List.getElem_cons_succ, List.getElem_cons_zero, List.setIfInBounds_toArray, List.set_cons_zero, List.set_cons_succ]
        refine wpAnyH_ready (rs := [15]) (by kernel_rfl) (by simp) ?_
        refine AllReadyH.cons rfl (fun K' hK => ?_) AllReadyH.nil
        rw [if_pos (by rfl)]
        simp only [List.getElem_toArray, List.getElem_cons_succ, List.getElem_cons_zero]
        go_wp2_with fail
        refine (works_any _).mono ?_
        rintro e zz ⟨rfl, bw⟩
        try go_wp2_with fail
        have BW := Below.andThen Bzab bw
        refine hK.out _ _ trivial (fun hHeld => ?_)
        clear hK K'
        try simp only [Act.put, List.getElem_toArray, List.getElem_cons_succ, List.getElem_cons_zero, List.setIfInBounds_toArray, List.set_cons_zero, List.set_cons_succ]
        refine wpAnyH_take (i := 16) (v := .bool true) rfl (by kernel_rfl) (by kernel_rfl) (by kernel_rfl) (fun _ _ _ h => h) (Or.inl ⟨by rfl, ?_⟩) trivial ?_
        · intro w9 hSw
          go_simp
        try simp only [Act.put, List.getElem_toArray, List.getElem_cons_succ, List.getElem_cons_zero, List.setIfInBounds_toArray, List.set_cons_zero, List.set_cons_succ]
        refine wpAnyH_take (i := 17) (v := .bool true) rfl (by kernel_rfl) (by kernel_rfl) (by kernel_rfl) (fun _ _ _ h => h) (Or.inl ⟨by rfl, ?_⟩) trivial ?_
        · intro w9 hSw
          go_simp
        try simp only [Act.put, List.getElem_toArray, List.getElem_cons_succ, List.getElem_cons_zero, List.setIfInBounds_toArray, List.set_cons_zero, List.set_cons_succ]
        refine wpAnyH_done (by kernel_rfl) ?_ _
        go_wp2_with fail
        go_ret
        exact ⟨rfl, FIN.out _ BW⟩
      | false =>
        rw [hq] at OFA
        go_wp2_with fail
        refine OFA.mono ?_
        rintro e y ⟨rfl, rfl⟩
        obtain ⟨q1, q2⟩ := CX.out.2 hq
        clear OFA hq
        go_wp2_with fail
        refine (EB.out _ Tb2.out).mono ?_
        rintro e v ⟨rfl, Vb, kv⟩
        obtain ⟨r1, r2, r3, r4, r5, r6, r7, r8, r9⟩ := ORD.out
        have Va := Ya2.out.kp kv (by simp; omega) (by simp; omega)
        have uv : Below w.heap.size w v := Kp.below uy2 kv uy2.size (by intro j hj; simp at hj; omega)
        have DONE : Hid (w13.heap.size ≤ v.heap.size ∧ ∃ sa sb : FS, Below w.heap.size w v ∧ IsS v p B n n sa ∧ IsS v px Bx n n sb ∧ CR t sa sb ∧ sa.st ≤ ((i + 1 : Nat) : Int)) := ⟨by have := kv.size; have := ysz.out; have := HZ.out; omega, _, _, uv, Va, Vb, q1, by have := HL.out; rw [Int.natCast_add]; omega⟩
        clear Va Vb kv uv q1 q2 EB CX Ya2 Tb2 y1 y2 y3 y4 y5 y6 uy2 r1 r2 r3 r4 r5 r6 r7 r8 r9
        go_wp2_with fail
        exact ⟨⟨i + 1, by omega, by go_num, DONE.out⟩, by simp [intOf]; omega⟩
    · have R1 : x.k.tmod 9 = 1 := by rw [km]; exact hrr
      have EA : Hid (∀ y, Below wr.heap.size wr y → Calls Try.prog 21 #[.pointer (some ⟨p, 0, none⟩), .int .i64 x.A, .int .i64 x.B, .agg (w4 x.w0 x.w1 x.w2 x.w3)] y fun e w' => e = .returned (.int .i64 (sa.write n x.A x.B x.w0 x.w1 x.w2 x.w3).1) ∧ IsS w' p B n n (sa.write n x.A x.B x.w0 x.w1 x.w2 x.w3).2 ∧ Kp [p, B] y w') := fun y hy => write_any (Ta.out.next hy) (C1.out.oka ht1.out HL.out (by omega)) x.A x.B x.w0 x.w1 x.w2 x.w3 hok2.ow
      have EB : Hid (∀ y, IsS y px Bx n n sbx → Calls Try.prog 21 #[.pointer (some ⟨px, 0, none⟩), .int .i64 x.A, .int .i64 x.B, .agg (w4 x.w0 x.w1 x.w2 x.w3)] y fun e w' => e = .returned (.int .i64 (sbx.write n x.A x.B x.w0 x.w1 x.w2 x.w3).1) ∧ IsS w' px Bx n n (sbx.write n x.A x.B x.w0 x.w1 x.w2 x.w3).2 ∧ Kp [px, Bx] y w') := fun y hy => write_any (hy) (C1.out.okb HL.out (by omega)) x.A x.B x.w0 x.w1 x.w2 x.w3 hok2.ow
      have CX : Hid (CB t sa sbx (sa.write n x.A x.B x.w0 x.w1 x.w2 x.w3).2 (sbx.write n x.A x.B x.w0 x.w1 x.w2 x.w3).2) := C1.out.write n x.A x.B x.w0 x.w1 x.w2 x.w3
      have hofb : Hid (sbx.of = false) := C1.out.b2
      generalize sa.write n x.A x.B x.w0 x.w1 x.w2 x.w3 = RA at *
      generalize sbx.write n x.A x.B x.w0 x.w1 x.w2 x.w3 = RB at *
      clear km hrr hok2 C1 o
      go_wp2_with fail
      go_region
      go_wp2_with fail
      refine (EA.out _ (by first | exact Below.drew (Below.al (Below.refl _ _) _) | exact Below.al (Below.drew (Below.refl _ _)) _ | exact Below.drew (Below.al (Below.drew (Below.refl _ _)) _))).mono ?_
      rintro e y ⟨rfl, Ya, ky⟩
      obtain ⟨r1, r2, r3, r4, r5, r6, r7, r8, r9⟩ := ORD.out
      have sz := SZ.out
      have sz2 := HZ.out
      have y1 := ky.cell (b := wr.heap.size) (o := 1) (v := .int .i64 x.A) (by simp [go_sem]) (by simp; omega)
      have y2 := ky.cell (b := wr.heap.size) (o := 2) (v := .int .i64 x.B) (by simp [go_sem]) (by simp; omega)
      have y3 := ky.cell (b := wr.heap.size) (o := 3) (v := .int .u8 x.w0) (by simp [go_sem]) (by simp; omega)
      have y4 := ky.cell (b := wr.heap.size) (o := 4) (v := .int .u8 x.w1) (by simp [go_sem]) (by simp; omega)
      have y5 := ky.cell (b := wr.heap.size) (o := 5) (v := .int .u8 x.w2) (by simp [go_sem]) (by simp; omega)
      have y6 := ky.cell (b := wr.heap.size) (o := 6) (v := .int .u8 x.w3) (by simp [go_sem]) (by simp; omega)
      have kk : Kp [p, B] wr y := (Kp.of (S := [p, B]) (a := wr) (by first | exact Below.drew (Below.al (Below.refl _ _) _) | exact Below.al (Below.drew (Below.refl _ _)) _ | exact Below.drew (Below.al (Below.drew (Below.refl _ _)) _))).trans ky
      have Tb2 : Hid (IsS y px Bx n n sbx) := Tb.out.kp kk (by simp; omega) (by simp; omega)
      have uy2 : Below w.heap.size w y := Kp.below uy kk uy.size (by intro j hj; simp at hj; omega)
      have ysz : Hid (wr.heap.size ≤ y.heap.size) := kk.size
      have OFA := off_any Ya
      have Ya2 : Hid (IsS y p B n n RA.2) := Ya
      clear EA Ta Tb ky kk uy c0 c1 c2 c3 c4' c5' c6' d0 d1 d2 d3 d4 d5 d6 Ya sz sz2 r1 r2 r3 r4 r5 r6 r7 r8 r9
      cases hq : RA.2.of with
      | true =>
        rw [hq] at OFA
        go_wp2_with fail
        refine OFA.mono ?_
        rintro e y ⟨rfl, rfl⟩
        obtain ⟨q1, q2, q3⟩ := CX.out.1 hq
        have hof : Hid (RA.2.of = true) := hq
        have hstt : Hid (RA.2.st = t) := q3
        have hcs : Hid (RA.2.cs = sbx.cs) := q1
        have hst : Hid (RA.2.st = sbx.st) := q2
        have Ta := Ya2
        have Tb := Tb2
        have uy := uy2
        clear q1 q2 q3 CX EB OFA Ya2 Tb2 y1 y2 y3 y4 y5 y6 uy2 hq HL
        have OF := off_any Ta.out
        rw [hof.out] at OF
        go_wp2_with fail
        refine OF.mono ?_
        rintro e y ⟨rfl, rfl⟩
        clear OF
        have ST := steps_any Ta.out
        rw [hstt.out] at ST
        have tt : (t != t) = false := by simp
        go_wp2_with fail
        refine ST.mono ?_
        rintro e y ⟨rfl, rfl⟩
        clear ST tt
        have ONN := on_any Ta.out
        go_wp2_with fail
        refine ONN.mono ?_
        rintro e v1 ⟨rfl, U1, k1⟩
        clear ONN
        obtain ⟨r1, r2, r3, r4, r5, r6, r7, r8, r9⟩ := ORD.out
        have V1 := Tb.out.kp k1 (by simp; omega) (by simp; omega)
        rw [hcs.out, hst.out] at U1
        have SA : Hid (∀ z, Below v1.drew.heap.size v1.drew z → Calls Try.prog 23 #[.pointer (some ⟨p, 0, none⟩)] z fun e w' => e = .returned (.int .i64 sbx.st) ∧ w' = z) := fun z hz => steps_any ((IsF.keep (w' := v1.drew) U1 rfl rfl).next hz)
        have SB : Hid (∀ z, Below v1.drew.heap.size v1.drew z → Calls Try.prog 23 #[.pointer (some ⟨px, 0, none⟩)] z fun e w' => e = .returned (.int .i64 sbx.st) ∧ w' = z) := fun z hz => steps_any ((IsF.keep (w' := v1.drew) V1 rfl rfl).next hz)
        have A1 : Hid (∀ z, Below v1.drew.heap.size v1.drew z → Calls Try.prog 16 #[.pointer (some ⟨p, 0, none⟩)] z fun e w' => (∃ a c, e = .returned (.slice a (1024 * n) c) ∧ Told z w' a (1024 * n) c sbx.cs) ∧ Below z.heap.size z w') := fun z hz => all_any (s := ⟨sbx.cs, sbx.st, false, 0, false⟩) ((IsF.keep (w' := v1.drew) U1 rfl rfl).next hz) rfl
        have A2 : Hid (∀ z, Below v1.drew.heap.size v1.drew z → Calls Try.prog 16 #[.pointer (some ⟨px, 0, none⟩)] z fun e w' => (∃ a c, e = .returned (.slice a (1024 * n) c) ∧ Told z w' a (1024 * n) c sbx.cs) ∧ Below z.heap.size z w') := fun z hz => all_any (s := sbx) ((IsF.keep (w' := v1.drew) V1 rfl rfl).next hz) hofb.out
        have FIN : Hid (∀ z, Below v1.drew.heap.size v1.drew z → Below w.heap.size w z) := fun z hz => (Kp.below uy (k1.drew.trans (Kp.of hz)) uy.size (by intro j hj; simp at hj; omega))
        clear U1 V1 k1 Ta Tb r1 r2 r3 r4 r5 r6 r7 r8 r9
        obtain ⟨C, hC⟩ : ∃ C, Hid (C = sbx.cs) := ⟨_, rfl⟩
        obtain ⟨T0, hT⟩ : ∃ T0, Hid (T0 = sbx.st) := ⟨_, rfl⟩
        rw [← hC.out] at A1 A2
        rw [← hT.out] at SA SB
        go_wp2_with fail
        obtain ⟨z, hz⟩ : ∃ z, z = v1.drew := ⟨_, rfl⟩
        have Bz : Below v1.drew.heap.size v1.drew z := by rw [hz]; exact Below.refl _ _
        refine wp_region_held_drew (S := fun _ => True) (by kernel_rfl) trivial (fun hHeld => ?_)
        rw [← hz]
        rw [← hz] at SA SB A1 A2 FIN Bz
        clear hz
        refine wpAnyH_take (i := 0) (v := .pointer (some ⟨p, 0, none⟩)) rfl (by kernel_rfl) (by kernel_rfl) (by kernel_rfl) (fun _ _ _ h => h) (Or.inl ⟨by rfl, ?_⟩) trivial ?_
        · intro w9 hSw
          go_simp
        try simp only [Act.put, List.getElem_toArray, List.getElem_cons_succ, List.getElem_cons_zero, List.setIfInBounds_toArray, List.set_cons_zero, List.set_cons_succ]
        refine wpAnyH_take (i := 2) (v := .pointer (some ⟨px, 0, none⟩)) rfl (by kernel_rfl) (by kernel_rfl) (by kernel_rfl) (fun _ _ _ h => h) (Or.inl ⟨by rfl, ?_⟩) trivial ?_
        · intro w9 hSw
          go_simp
        try simp only [Act.put, List.getElem_toArray, List.getElem_cons_succ, List.getElem_cons_zero, List.setIfInBounds_toArray, List.set_cons_zero, List.set_cons_succ]
        refine wpAnyH_ready (rs := [1]) (by kernel_rfl) (by simp) ?_
        refine AllReadyH.cons rfl (fun K' hK => ?_) AllReadyH.nil
        rw [if_pos (by rfl)]
        simp only [List.getElem_toArray, List.getElem_cons_succ, List.getElem_cons_zero]
        go_wp2_with fail
        refine (SA.out _ Bz).mono ?_
        rintro e z ⟨rfl, rfl⟩
        try go_wp2_with fail
        refine hK.out _ _ trivial (fun hHeld => ?_)
        clear hK K'
        try simp only [Act.put, List.getElem_toArray, List.getElem_cons_succ, List.getElem_cons_zero, List.setIfInBounds_toArray, List.set_cons_zero, List.set_cons_succ]
        refine wpAnyH_ready (rs := [3]) (by kernel_rfl) (by simp) ?_
        refine AllReadyH.cons rfl (fun K' hK => ?_) AllReadyH.nil
        rw [if_pos (by rfl)]
        simp only [List.getElem_toArray, List.getElem_cons_succ, List.getElem_cons_zero]
        go_wp2_with fail
        refine (SB.out _ Bz).mono ?_
        rintro e z ⟨rfl, rfl⟩
        try go_wp2_with fail
        refine hK.out _ _ trivial (fun hHeld => ?_)
        clear hK K'
        try simp only [Act.put, List.getElem_toArray, List.getElem_cons_succ, List.getElem_cons_zero, List.setIfInBounds_toArray, List.set_cons_zero, List.set_cons_succ]
        refine wpAnyH_take (i := 4) (v := .bool true) rfl (by kernel_rfl) (by kernel_rfl) (by kernel_rfl) (fun _ _ _ h => h) (Or.inl ⟨by rfl, ?_⟩) trivial ?_
        · intro w9 hSw
          go_simp
        try simp only [Act.put, List.getElem_toArray, List.getElem_cons_succ, List.getElem_cons_zero, List.setIfInBounds_toArray, List.set_cons_zero, List.set_cons_succ]
        refine wpAnyH_take (i := 5) (v := .bool true) rfl (by kernel_rfl) (by kernel_rfl) (by kernel_rfl) (fun _ _ _ h => h) (Or.inl ⟨by rfl, ?_⟩) trivial ?_
        · intro w9 hSw
          go_simp
        try simp only [Act.put, List.getElem_toArray, List.getElem_cons_succ, List.getElem_cons_zero, List.setIfInBounds_toArray, List.set_cons_zero, List.set_cons_succ]
        refine wpAnyH_take (i := 6) (v := .pointer (some ⟨p, 0, none⟩)) rfl (by kernel_rfl) (by kernel_rfl) (by kernel_rfl) (fun _ _ _ h => h) (Or.inl ⟨by rfl, ?_⟩) trivial ?_
        · intro w9 hSw
          go_simp
        try simp only [Act.put, List.getElem_toArray, List.getElem_cons_succ, List.getElem_cons_zero, List.setIfInBounds_toArray, List.set_cons_zero, List.set_cons_succ]
        refine wpAnyH_take (i := 9) (v := .pointer (some ⟨px, 0, none⟩)) rfl (by kernel_rfl) (by kernel_rfl) (by kernel_rfl) (fun _ _ _ h => h) (Or.inl ⟨by rfl, ?_⟩) trivial ?_
        · intro w9 hSw
          go_simp
        try simp only [Act.put, List.getElem_toArray, List.getElem_cons_succ, List.getElem_cons_zero, List.setIfInBounds_toArray, List.set_cons_zero, List.set_cons_succ]
        refine wpAnyH_ready (rs := [7]) (by kernel_rfl) (by simp) ?_
        refine AllReadyH.cons rfl (fun K' hK => ?_) AllReadyH.nil
        rw [if_pos (by rfl)]
        simp only [List.getElem_toArray, List.getElem_cons_succ, List.getElem_cons_zero]
        go_wp2_with fail
        refine (A1.out _ Bz).mono ?_
        rintro e za ⟨⟨a7, c7, rfl, T7⟩, b7⟩
        try go_wp2_with fail
        have Bza := Below.andThen Bz b7
        refine hK.out _ _ trivial (fun hHeld => ?_)
        clear hK K'
        try simp only [Act.put, List.getElem_toArray, List.getElem_cons_succ, List.getElem_cons_zero, List.setIfInBounds_toArray, List.set_cons_zero, List.set_cons_succ]
        have R7 := T7.row
        refine wpAnyH_ready (rs := [8, 10]) (by kernel_rfl) (by simp) ?_
        refine AllReadyH.cons rfl (fun K' hK => ?_) ?_
        · rw [if_pos (by rfl)]
          simp only [List.getElem_toArray, List.getElem_cons_succ, List.getElem_cons_zero]
          refine wp_conv_by (.tmp 106) rfl _ _ rfl (R7.str _) ?_
          refine hK.out _ _ trivial (fun hHeld => ?_)
          clear hK K'
          try simp only [Act.put, List.getElem_toArray, List.getElem_cons_succ, List.getElem_cons_zero, List.setIfInBounds_toArray, List.set_cons_zero, List.set_cons_succ]
          refine wpAnyH_ready (rs := [10]) (by kernel_rfl) (by simp) ?_
          refine AllReadyH.cons rfl (fun K' hK => ?_) AllReadyH.nil
          rw [if_pos (by rfl)]
          simp only [List.getElem_toArray, List.getElem_cons_succ, List.getElem_cons_zero]
          go_wp2_with fail
          refine (A2.out _ Bza).mono ?_
          rintro e zab ⟨⟨a10, c10, rfl, T10⟩, b10⟩
          try go_wp2_with fail
          have Bzab := Below.andThen Bza b10
          refine hK.out _ _ trivial (fun hHeld => ?_)
          clear hK K'
          try simp only [Act.put, List.getElem_toArray, List.getElem_cons_succ, List.getElem_cons_zero, List.setIfInBounds_toArray, List.set_cons_zero, List.set_cons_succ]
          have R7 := R7.next b10
          have R10 := T10.row
          refine wpAnyH_ready (rs := [11]) (by kernel_rfl) (by simp) ?_
          refine AllReadyH.cons rfl (fun K' hK => ?_) AllReadyH.nil
          rw [if_pos (by rfl)]
          simp only [List.getElem_toArray, List.getElem_cons_succ, List.getElem_cons_zero]
          refine wp_conv_by (.tmp 109) rfl _ _ rfl (R10.str _) ?_
          refine hK.out _ _ trivial (fun hHeld => ?_)
          clear hK K'
          try simp only [Act.put, List.getElem_toArray, List.getElem_cons_succ, List.getElem_cons_zero, List.setIfInBounds_toArray, List.set_cons_zero, List.set_cons_succ]
          refine wpAnyH_take (i := 12) (v := .bool true) rfl (by kernel_rfl) (by kernel_rfl) (by kernel_rfl) (fun _ _ _ h => h) (Or.inl ⟨by rfl, ?_⟩) trivial ?_
          · intro w9 hSw
            go_simp
          try simp only [Act.put, List.getElem_toArray, List.getElem_cons_succ, List.getElem_cons_zero, List.setIfInBounds_toArray, List.set_cons_zero, List.set_cons_succ]
          refine wpAnyH_take (i := 13) (v := .bool true) rfl (by kernel_rfl) (by kernel_rfl) (by kernel_rfl) (fun _ _ _ h => h) (Or.inl ⟨by rfl, ?_⟩) trivial ?_
          · intro w9 hSw
            go_simp
          try simp only [Act.put, List.getElem_toArray, List.getElem_cons_succ, List.getElem_cons_zero, List.setIfInBounds_toArray, List.set_cons_zero, List.set_cons_succ]
          refine wpAnyH_take (i := 14) (v := .bool true) rfl (by kernel_rfl) (by kernel_rfl) (by kernel_rfl) (fun _ _ _ h => h) (Or.inl ⟨by rfl, ?_⟩) trivial ?_
          · intro w9 hSw
            go_simp
          try simp only [Act.put, List.getElem_toArray, List.getElem_cons_succ, List.getElem_cons_zero, List.setIfInBounds_toArray, List.set_cons_zero, List.set_cons_succ]
          refine wpAnyH_ready (rs := [15]) (by kernel_rfl) (by simp) ?_
          refine AllReadyH.cons rfl (fun K' hK => ?_) AllReadyH.nil
          rw [if_pos (by rfl)]
          simp only [List.getElem_toArray, List.getElem_cons_succ, List.getElem_cons_zero]
          go_wp2_with fail
          refine (works_any _).mono ?_
          rintro e zz ⟨rfl, bw⟩
          try go_wp2_with fail
          have BW := Below.andThen Bzab bw
          refine hK.out _ _ trivial (fun hHeld => ?_)
          clear hK K'
          try simp only [Act.put, List.getElem_toArray, List.getElem_cons_succ, List.getElem_cons_zero, List.setIfInBounds_toArray, List.set_cons_zero, List.set_cons_succ]
          refine wpAnyH_take (i := 16) (v := .bool true) rfl (by kernel_rfl) (by kernel_rfl) (by kernel_rfl) (fun _ _ _ h => h) (Or.inl ⟨by rfl, ?_⟩) trivial ?_
          · intro w9 hSw
            go_simp
          try simp only [Act.put, List.getElem_toArray, List.getElem_cons_succ, List.getElem_cons_zero, List.setIfInBounds_toArray, List.set_cons_zero, List.set_cons_succ]
          refine wpAnyH_take (i := 17) (v := .bool true) rfl (by kernel_rfl) (by kernel_rfl) (by kernel_rfl) (fun _ _ _ h => h) (Or.inl ⟨by rfl, ?_⟩) trivial ?_
          · intro w9 hSw
            go_simp
          try simp only [Act.put, List.getElem_toArray, List.getElem_cons_succ, List.getElem_cons_zero, List.setIfInBounds_toArray, List.set_cons_zero, List.set_cons_succ]
          refine wpAnyH_done (by kernel_rfl) ?_ _
          go_wp2_with fail
          go_ret
          exact ⟨rfl, FIN.out _ BW⟩
        refine AllReadyH.cons rfl (fun K' hK => ?_) AllReadyH.nil
        rw [if_pos (by rfl)]
        simp only [List.getElem_toArray, List.getElem_cons_succ, List.getElem_cons_zero]
        go_wp2_with fail
        refine (A2.out _ Bza).mono ?_
        rintro e zab ⟨⟨a10, c10, rfl, T10⟩, b10⟩
        try go_wp2_with fail
        have Bzab := Below.andThen Bza b10
        refine hK.out _ _ trivial (fun hHeld => ?_)
        clear hK K'
        try simp only [Act.put, List.getElem_toArray, List.getElem_cons_succ, List.getElem_cons_zero, List.setIfInBounds_toArray, List.set_cons_zero, List.set_cons_succ]
        have R7 := R7.next b10
        have R10 := T10.row
        refine wpAnyH_ready (rs := [8, 11]) (by kernel_rfl) (by simp) ?_
        refine AllReadyH.cons rfl (fun K' hK => ?_) ?_
        · rw [if_pos (by rfl)]
          simp only [List.getElem_toArray, List.getElem_cons_succ, List.getElem_cons_zero]
          refine wp_conv_by (.tmp 106) rfl _ _ rfl (R7.str _) ?_
          refine hK.out _ _ trivial (fun hHeld => ?_)
          clear hK K'
          try simp only [Act.put, List.getElem_toArray, List.getElem_cons_succ, List.getElem_cons_zero, List.setIfInBounds_toArray, List.set_cons_zero, List.set_cons_succ]
          refine wpAnyH_ready (rs := [11]) (by kernel_rfl) (by simp) ?_
          refine AllReadyH.cons rfl (fun K' hK => ?_) AllReadyH.nil
          rw [if_pos (by rfl)]
          simp only [List.getElem_toArray, List.getElem_cons_succ, List.getElem_cons_zero]
          refine wp_conv_by (.tmp 109) rfl _ _ rfl (R10.str _) ?_
          refine hK.out _ _ trivial (fun hHeld => ?_)
          clear hK K'
          try simp only [Act.put, List.getElem_toArray, List.getElem_cons_succ, List.getElem_cons_zero, List.setIfInBounds_toArray, List.set_cons_zero, List.set_cons_succ]
          refine wpAnyH_take (i := 12) (v := .bool true) rfl (by kernel_rfl) (by kernel_rfl) (by kernel_rfl) (fun _ _ _ h => h) (Or.inl ⟨by rfl, ?_⟩) trivial ?_
          · intro w9 hSw
            go_simp
          try simp only [Act.put, List.getElem_toArray, List.getElem_cons_succ, List.getElem_cons_zero, List.setIfInBounds_toArray, List.set_cons_zero, List.set_cons_succ]
          refine wpAnyH_take (i := 13) (v := .bool true) rfl (by kernel_rfl) (by kernel_rfl) (by kernel_rfl) (fun _ _ _ h => h) (Or.inl ⟨by rfl, ?_⟩) trivial ?_
          · intro w9 hSw
            go_simp
          try simp only [Act.put, List.getElem_toArray, List.getElem_cons_succ, List.getElem_cons_zero, List.setIfInBounds_toArray, List.set_cons_zero, List.set_cons_succ]
          refine wpAnyH_take (i := 14) (v := .bool true) rfl (by kernel_rfl) (by kernel_rfl) (by kernel_rfl) (fun _ _ _ h => h) (Or.inl ⟨by rfl, ?_⟩) trivial ?_
          · intro w9 hSw
            go_simp
          try simp only [Act.put, List.getElem_toArray, List.getElem_cons_succ, List.getElem_cons_zero, List.setIfInBounds_toArray, List.set_cons_zero, List.set_cons_succ]
          refine wpAnyH_ready (rs := [15]) (by kernel_rfl) (by simp) ?_
          refine AllReadyH.cons rfl (fun K' hK => ?_) AllReadyH.nil
          rw [if_pos (by rfl)]
          simp only [List.getElem_toArray, List.getElem_cons_succ, List.getElem_cons_zero]
          go_wp2_with fail
          refine (works_any _).mono ?_
          rintro e zz ⟨rfl, bw⟩
          try go_wp2_with fail
          have BW := Below.andThen Bzab bw
          refine hK.out _ _ trivial (fun hHeld => ?_)
          clear hK K'
          try simp only [Act.put, List.getElem_toArray, List.getElem_cons_succ, List.getElem_cons_zero, List.setIfInBounds_toArray, List.set_cons_zero, List.set_cons_succ]
          refine wpAnyH_take (i := 16) (v := .bool true) rfl (by kernel_rfl) (by kernel_rfl) (by kernel_rfl) (fun _ _ _ h => h) (Or.inl ⟨by rfl, ?_⟩) trivial ?_
          · intro w9 hSw
            go_simp
          try simp only [Act.put, List.getElem_toArray, List.getElem_cons_succ, List.getElem_cons_zero, List.setIfInBounds_toArray, List.set_cons_zero, List.set_cons_succ]
          refine wpAnyH_take (i := 17) (v := .bool true) rfl (by kernel_rfl) (by kernel_rfl) (by kernel_rfl) (fun _ _ _ h => h) (Or.inl ⟨by rfl, ?_⟩) trivial ?_
          · intro w9 hSw
            go_simp
          try simp only [Act.put, List.getElem_toArray, List.getElem_cons_succ, List.getElem_cons_zero, List.setIfInBounds_toArray, List.set_cons_zero, List.set_cons_succ]
          refine wpAnyH_done (by kernel_rfl) ?_ _
          go_wp2_with fail
          go_ret
          exact ⟨rfl, FIN.out _ BW⟩
        refine AllReadyH.cons rfl (fun K' hK => ?_) AllReadyH.nil
        rw [if_pos (by rfl)]
        simp only [List.getElem_toArray, List.getElem_cons_succ, List.getElem_cons_zero]
        refine wp_conv_by (.tmp 109) rfl _ _ rfl (R10.str _) ?_
        refine hK.out _ _ trivial (fun hHeld => ?_)
        clear hK K'
        try simp only [Act.put, List.getElem_toArray, List.getElem_cons_succ, List.getElem_cons_zero, List.setIfInBounds_toArray, List.set_cons_zero, List.set_cons_succ]
        refine wpAnyH_ready (rs := [8]) (by kernel_rfl) (by simp) ?_
        refine AllReadyH.cons rfl (fun K' hK => ?_) AllReadyH.nil
        rw [if_pos (by rfl)]
        simp only [List.getElem_toArray, List.getElem_cons_succ, List.getElem_cons_zero]
        refine wp_conv_by (.tmp 106) rfl _ _ rfl (R7.str _) ?_
        refine hK.out _ _ trivial (fun hHeld => ?_)
        clear hK K'
        try simp only [Act.put, List.getElem_toArray, List.getElem_cons_succ, List.getElem_cons_zero, List.setIfInBounds_toArray, List.set_cons_zero, List.set_cons_succ]
        refine wpAnyH_take (i := 12) (v := .bool true) rfl (by kernel_rfl) (by kernel_rfl) (by kernel_rfl) (fun _ _ _ h => h) (Or.inl ⟨by rfl, ?_⟩) trivial ?_
        · intro w9 hSw
          go_simp
        try simp only [Act.put, List.getElem_toArray, List.getElem_cons_succ, List.getElem_cons_zero, List.setIfInBounds_toArray, List.set_cons_zero, List.set_cons_succ]
        refine wpAnyH_take (i := 13) (v := .bool true) rfl (by kernel_rfl) (by kernel_rfl) (by kernel_rfl) (fun _ _ _ h => h) (Or.inl ⟨by rfl, ?_⟩) trivial ?_
        · intro w9 hSw
          go_simp
        try simp only [Act.put, List.getElem_toArray, List.getElem_cons_succ, List.getElem_cons_zero, List.setIfInBounds_toArray, List.set_cons_zero, List.set_cons_succ]
        refine wpAnyH_take (i := 14) (v := .bool true) rfl (by kernel_rfl) (by kernel_rfl) (by kernel_rfl) (fun _ _ _ h => h) (Or.inl ⟨by rfl, ?_⟩) trivial ?_
        · intro w9 hSw
          go_simp
        try simp only [Act.put, List.getElem_toArray, List.getElem_cons_succ, List.getElem_cons_zero, List.setIfInBounds_toArray, List.set_cons_zero, List.set_cons_succ]
        refine wpAnyH_ready (rs := [15]) (by kernel_rfl) (by simp) ?_
        refine AllReadyH.cons rfl (fun K' hK => ?_) AllReadyH.nil
        rw [if_pos (by rfl)]
        simp only [List.getElem_toArray, List.getElem_cons_succ, List.getElem_cons_zero]
        go_wp2_with fail
        refine (works_any _).mono ?_
        rintro e zz ⟨rfl, bw⟩
        try go_wp2_with fail
        have BW := Below.andThen Bzab bw
        refine hK.out _ _ trivial (fun hHeld => ?_)
        clear hK K'
        try simp only [Act.put, List.getElem_toArray, List.getElem_cons_succ, List.getElem_cons_zero, List.setIfInBounds_toArray, List.set_cons_zero, List.set_cons_succ]
        refine wpAnyH_take (i := 16) (v := .bool true) rfl (by kernel_rfl) (by kernel_rfl) (by kernel_rfl) (fun _ _ _ h => h) (Or.inl ⟨by rfl, ?_⟩) trivial ?_
        · intro w9 hSw
          go_simp
        try simp only [Act.put, List.getElem_toArray, List.getElem_cons_succ, List.getElem_cons_zero, List.setIfInBounds_toArray, List.set_cons_zero, List.set_cons_succ]
        refine wpAnyH_take (i := 17) (v := .bool true) rfl (by kernel_rfl) (by kernel_rfl) (by kernel_rfl) (fun _ _ _ h => h) (Or.inl ⟨by rfl, ?_⟩) trivial ?_
        · intro w9 hSw
          go_simp
        try simp only [Act.put, List.getElem_toArray, List.getElem_cons_succ, List.getElem_cons_zero, List.setIfInBounds_toArray, List.set_cons_zero, List.set_cons_succ]
        refine wpAnyH_done (by kernel_rfl) ?_ _
        go_wp2_with fail
        go_ret
        exact ⟨rfl, FIN.out _ BW⟩
      | false =>
        rw [hq] at OFA
        go_wp2_with fail
        refine OFA.mono ?_
        rintro e y ⟨rfl, rfl⟩
        obtain ⟨q1, q2⟩ := CX.out.2 hq
        clear OFA hq
        go_wp2_with fail
        refine (EB.out _ Tb2.out).mono ?_
        rintro e v ⟨rfl, Vb, kv⟩
        obtain ⟨r1, r2, r3, r4, r5, r6, r7, r8, r9⟩ := ORD.out
        have Va := Ya2.out.kp kv (by simp; omega) (by simp; omega)
        have uv : Below w.heap.size w v := Kp.below uy2 kv uy2.size (by intro j hj; simp at hj; omega)
        have DONE : Hid (w13.heap.size ≤ v.heap.size ∧ ∃ sa sb : FS, Below w.heap.size w v ∧ IsS v p B n n sa ∧ IsS v px Bx n n sb ∧ CR t sa sb ∧ sa.st ≤ ((i + 1 : Nat) : Int)) := ⟨by have := kv.size; have := ysz.out; have := HZ.out; omega, _, _, uv, Va, Vb, q1, by have := HL.out; rw [Int.natCast_add]; omega⟩
        clear Va Vb kv uv q1 q2 EB CX Ya2 Tb2 y1 y2 y3 y4 y5 y6 uy2 r1 r2 r3 r4 r5 r6 r7 r8 r9
        go_wp2_with fail
        exact ⟨⟨i + 1, by omega, by go_num, DONE.out⟩, by simp [intOf]; omega⟩
    · have R1 : x.k.tmod 9 = 2 := by rw [km]; exact hrr
      have EA : Hid (∀ y, Below wr.heap.size wr y → Calls Try.prog 21 #[.pointer (some ⟨p, 0, none⟩), .int .i64 x.A, .int .i64 x.B, .agg (w4 x.w0 x.w1 x.w2 x.w3)] y fun e w' => e = .returned (.int .i64 (sa.write n x.A x.B x.w0 x.w1 x.w2 x.w3).1) ∧ IsS w' p B n n (sa.write n x.A x.B x.w0 x.w1 x.w2 x.w3).2 ∧ Kp [p, B] y w') := fun y hy => write_any (Ta.out.next hy) (C1.out.oka ht1.out HL.out (by omega)) x.A x.B x.w0 x.w1 x.w2 x.w3 hok2.ow
      have EB : Hid (∀ y, IsS y px Bx n n sbx → Calls Try.prog 21 #[.pointer (some ⟨px, 0, none⟩), .int .i64 x.A, .int .i64 x.B, .agg (w4 x.w0 x.w1 x.w2 x.w3)] y fun e w' => e = .returned (.int .i64 (sbx.write n x.A x.B x.w0 x.w1 x.w2 x.w3).1) ∧ IsS w' px Bx n n (sbx.write n x.A x.B x.w0 x.w1 x.w2 x.w3).2 ∧ Kp [px, Bx] y w') := fun y hy => write_any (hy) (C1.out.okb HL.out (by omega)) x.A x.B x.w0 x.w1 x.w2 x.w3 hok2.ow
      have CX : Hid (CB t sa sbx (sa.write n x.A x.B x.w0 x.w1 x.w2 x.w3).2 (sbx.write n x.A x.B x.w0 x.w1 x.w2 x.w3).2) := C1.out.write n x.A x.B x.w0 x.w1 x.w2 x.w3
      have hofb : Hid (sbx.of = false) := C1.out.b2
      generalize sa.write n x.A x.B x.w0 x.w1 x.w2 x.w3 = RA at *
      generalize sbx.write n x.A x.B x.w0 x.w1 x.w2 x.w3 = RB at *
      clear km hrr hok2 C1 o
      go_wp2_with fail
      go_region
      go_wp2_with fail
      refine (EA.out _ (by first | exact Below.drew (Below.al (Below.refl _ _) _) | exact Below.al (Below.drew (Below.refl _ _)) _ | exact Below.drew (Below.al (Below.drew (Below.refl _ _)) _))).mono ?_
      rintro e y ⟨rfl, Ya, ky⟩
      obtain ⟨r1, r2, r3, r4, r5, r6, r7, r8, r9⟩ := ORD.out
      have sz := SZ.out
      have sz2 := HZ.out
      have y1 := ky.cell (b := wr.heap.size) (o := 1) (v := .int .i64 x.A) (by simp [go_sem]) (by simp; omega)
      have y2 := ky.cell (b := wr.heap.size) (o := 2) (v := .int .i64 x.B) (by simp [go_sem]) (by simp; omega)
      have y3 := ky.cell (b := wr.heap.size) (o := 3) (v := .int .u8 x.w0) (by simp [go_sem]) (by simp; omega)
      have y4 := ky.cell (b := wr.heap.size) (o := 4) (v := .int .u8 x.w1) (by simp [go_sem]) (by simp; omega)
      have y5 := ky.cell (b := wr.heap.size) (o := 5) (v := .int .u8 x.w2) (by simp [go_sem]) (by simp; omega)
      have y6 := ky.cell (b := wr.heap.size) (o := 6) (v := .int .u8 x.w3) (by simp [go_sem]) (by simp; omega)
      have kk : Kp [p, B] wr y := (Kp.of (S := [p, B]) (a := wr) (by first | exact Below.drew (Below.al (Below.refl _ _) _) | exact Below.al (Below.drew (Below.refl _ _)) _ | exact Below.drew (Below.al (Below.drew (Below.refl _ _)) _))).trans ky
      have Tb2 : Hid (IsS y px Bx n n sbx) := Tb.out.kp kk (by simp; omega) (by simp; omega)
      have uy2 : Below w.heap.size w y := Kp.below uy kk uy.size (by intro j hj; simp at hj; omega)
      have ysz : Hid (wr.heap.size ≤ y.heap.size) := kk.size
      have OFA := off_any Ya
      have Ya2 : Hid (IsS y p B n n RA.2) := Ya
      clear EA Ta Tb ky kk uy c0 c1 c2 c3 c4' c5' c6' d0 d1 d2 d3 d4 d5 d6 Ya sz sz2 r1 r2 r3 r4 r5 r6 r7 r8 r9
      cases hq : RA.2.of with
      | true =>
        rw [hq] at OFA
        go_wp2_with fail
        refine OFA.mono ?_
        rintro e y ⟨rfl, rfl⟩
        obtain ⟨q1, q2, q3⟩ := CX.out.1 hq
        have hof : Hid (RA.2.of = true) := hq
        have hstt : Hid (RA.2.st = t) := q3
        have hcs : Hid (RA.2.cs = sbx.cs) := q1
        have hst : Hid (RA.2.st = sbx.st) := q2
        have Ta := Ya2
        have Tb := Tb2
        have uy := uy2
        clear q1 q2 q3 CX EB OFA Ya2 Tb2 y1 y2 y3 y4 y5 y6 uy2 hq HL
        have OF := off_any Ta.out
        rw [hof.out] at OF
        go_wp2_with fail
        refine OF.mono ?_
        rintro e y ⟨rfl, rfl⟩
        clear OF
        have ST := steps_any Ta.out
        rw [hstt.out] at ST
        have tt : (t != t) = false := by simp
        go_wp2_with fail
        refine ST.mono ?_
        rintro e y ⟨rfl, rfl⟩
        clear ST tt
        have ONN := on_any Ta.out
        go_wp2_with fail
        refine ONN.mono ?_
        rintro e v1 ⟨rfl, U1, k1⟩
        clear ONN
        obtain ⟨r1, r2, r3, r4, r5, r6, r7, r8, r9⟩ := ORD.out
        have V1 := Tb.out.kp k1 (by simp; omega) (by simp; omega)
        rw [hcs.out, hst.out] at U1
        have SA : Hid (∀ z, Below v1.drew.heap.size v1.drew z → Calls Try.prog 23 #[.pointer (some ⟨p, 0, none⟩)] z fun e w' => e = .returned (.int .i64 sbx.st) ∧ w' = z) := fun z hz => steps_any ((IsF.keep (w' := v1.drew) U1 rfl rfl).next hz)
        have SB : Hid (∀ z, Below v1.drew.heap.size v1.drew z → Calls Try.prog 23 #[.pointer (some ⟨px, 0, none⟩)] z fun e w' => e = .returned (.int .i64 sbx.st) ∧ w' = z) := fun z hz => steps_any ((IsF.keep (w' := v1.drew) V1 rfl rfl).next hz)
        have A1 : Hid (∀ z, Below v1.drew.heap.size v1.drew z → Calls Try.prog 16 #[.pointer (some ⟨p, 0, none⟩)] z fun e w' => (∃ a c, e = .returned (.slice a (1024 * n) c) ∧ Told z w' a (1024 * n) c sbx.cs) ∧ Below z.heap.size z w') := fun z hz => all_any (s := ⟨sbx.cs, sbx.st, false, 0, false⟩) ((IsF.keep (w' := v1.drew) U1 rfl rfl).next hz) rfl
        have A2 : Hid (∀ z, Below v1.drew.heap.size v1.drew z → Calls Try.prog 16 #[.pointer (some ⟨px, 0, none⟩)] z fun e w' => (∃ a c, e = .returned (.slice a (1024 * n) c) ∧ Told z w' a (1024 * n) c sbx.cs) ∧ Below z.heap.size z w') := fun z hz => all_any (s := sbx) ((IsF.keep (w' := v1.drew) V1 rfl rfl).next hz) hofb.out
        have FIN : Hid (∀ z, Below v1.drew.heap.size v1.drew z → Below w.heap.size w z) := fun z hz => (Kp.below uy (k1.drew.trans (Kp.of hz)) uy.size (by intro j hj; simp at hj; omega))
        clear U1 V1 k1 Ta Tb r1 r2 r3 r4 r5 r6 r7 r8 r9
        obtain ⟨C, hC⟩ : ∃ C, Hid (C = sbx.cs) := ⟨_, rfl⟩
        obtain ⟨T0, hT⟩ : ∃ T0, Hid (T0 = sbx.st) := ⟨_, rfl⟩
        rw [← hC.out] at A1 A2
        rw [← hT.out] at SA SB
        go_wp2_with fail
        obtain ⟨z, hz⟩ : ∃ z, z = v1.drew := ⟨_, rfl⟩
        have Bz : Below v1.drew.heap.size v1.drew z := by rw [hz]; exact Below.refl _ _
        refine wp_region_held_drew (S := fun _ => True) (by kernel_rfl) trivial (fun hHeld => ?_)
        rw [← hz]
        rw [← hz] at SA SB A1 A2 FIN Bz
        clear hz
        refine wpAnyH_take (i := 0) (v := .pointer (some ⟨p, 0, none⟩)) rfl (by kernel_rfl) (by kernel_rfl) (by kernel_rfl) (fun _ _ _ h => h) (Or.inl ⟨by rfl, ?_⟩) trivial ?_
        · intro w9 hSw
          go_simp
        try simp only [Act.put, List.getElem_toArray, List.getElem_cons_succ, List.getElem_cons_zero, List.setIfInBounds_toArray, List.set_cons_zero, List.set_cons_succ]
        refine wpAnyH_take (i := 2) (v := .pointer (some ⟨px, 0, none⟩)) rfl (by kernel_rfl) (by kernel_rfl) (by kernel_rfl) (fun _ _ _ h => h) (Or.inl ⟨by rfl, ?_⟩) trivial ?_
        · intro w9 hSw
          go_simp
        try simp only [Act.put, List.getElem_toArray, List.getElem_cons_succ, List.getElem_cons_zero, List.setIfInBounds_toArray, List.set_cons_zero, List.set_cons_succ]
        refine wpAnyH_ready (rs := [1]) (by kernel_rfl) (by simp) ?_
        refine AllReadyH.cons rfl (fun K' hK => ?_) AllReadyH.nil
        rw [if_pos (by rfl)]
        simp only [List.getElem_toArray, List.getElem_cons_succ, List.getElem_cons_zero]
        go_wp2_with fail
        refine (SA.out _ Bz).mono ?_
        rintro e z ⟨rfl, rfl⟩
        try go_wp2_with fail
        refine hK.out _ _ trivial (fun hHeld => ?_)
        clear hK K'
        try simp only [Act.put, List.getElem_toArray, List.getElem_cons_succ, List.getElem_cons_zero, List.setIfInBounds_toArray, List.set_cons_zero, List.set_cons_succ]
        refine wpAnyH_ready (rs := [3]) (by kernel_rfl) (by simp) ?_
        refine AllReadyH.cons rfl (fun K' hK => ?_) AllReadyH.nil
        rw [if_pos (by rfl)]
        simp only [List.getElem_toArray, List.getElem_cons_succ, List.getElem_cons_zero]
        go_wp2_with fail
        refine (SB.out _ Bz).mono ?_
        rintro e z ⟨rfl, rfl⟩
        try go_wp2_with fail
        refine hK.out _ _ trivial (fun hHeld => ?_)
        clear hK K'
        try simp only [Act.put, List.getElem_toArray, List.getElem_cons_succ, List.getElem_cons_zero, List.setIfInBounds_toArray, List.set_cons_zero, List.set_cons_succ]
        refine wpAnyH_take (i := 4) (v := .bool true) rfl (by kernel_rfl) (by kernel_rfl) (by kernel_rfl) (fun _ _ _ h => h) (Or.inl ⟨by rfl, ?_⟩) trivial ?_
        · intro w9 hSw
          go_simp
        try simp only [Act.put, List.getElem_toArray, List.getElem_cons_succ, List.getElem_cons_zero, List.setIfInBounds_toArray, List.set_cons_zero, List.set_cons_succ]
        refine wpAnyH_take (i := 5) (v := .bool true) rfl (by kernel_rfl) (by kernel_rfl) (by kernel_rfl) (fun _ _ _ h => h) (Or.inl ⟨by rfl, ?_⟩) trivial ?_
        · intro w9 hSw
          go_simp
        try simp only [Act.put, List.getElem_toArray, List.getElem_cons_succ, List.getElem_cons_zero, List.setIfInBounds_toArray, List.set_cons_zero, List.set_cons_succ]
        refine wpAnyH_take (i := 6) (v := .pointer (some ⟨p, 0, none⟩)) rfl (by kernel_rfl) (by kernel_rfl) (by kernel_rfl) (fun _ _ _ h => h) (Or.inl ⟨by rfl, ?_⟩) trivial ?_
        · intro w9 hSw
          go_simp
        try simp only [Act.put, List.getElem_toArray, List.getElem_cons_succ, List.getElem_cons_zero, List.setIfInBounds_toArray, List.set_cons_zero, List.set_cons_succ]
        refine wpAnyH_take (i := 9) (v := .pointer (some ⟨px, 0, none⟩)) rfl (by kernel_rfl) (by kernel_rfl) (by kernel_rfl) (fun _ _ _ h => h) (Or.inl ⟨by rfl, ?_⟩) trivial ?_
        · intro w9 hSw
          go_simp
        try simp only [Act.put, List.getElem_toArray, List.getElem_cons_succ, List.getElem_cons_zero, List.setIfInBounds_toArray, List.set_cons_zero, List.set_cons_succ]
        refine wpAnyH_ready (rs := [7]) (by kernel_rfl) (by simp) ?_
        refine AllReadyH.cons rfl (fun K' hK => ?_) AllReadyH.nil
        rw [if_pos (by rfl)]
        simp only [List.getElem_toArray, List.getElem_cons_succ, List.getElem_cons_zero]
        go_wp2_with fail
        refine (A1.out _ Bz).mono ?_
        rintro e za ⟨⟨a7, c7, rfl, T7⟩, b7⟩
        try go_wp2_with fail
        have Bza := Below.andThen Bz b7
        refine hK.out _ _ trivial (fun hHeld => ?_)
        clear hK K'
        try simp only [Act.put, List.getElem_toArray, List.getElem_cons_succ, List.getElem_cons_zero, List.setIfInBounds_toArray, List.set_cons_zero, List.set_cons_succ]
        have R7 := T7.row
        refine wpAnyH_ready (rs := [8, 10]) (by kernel_rfl) (by simp) ?_
        refine AllReadyH.cons rfl (fun K' hK => ?_) ?_
        · rw [if_pos (by rfl)]
          simp only [List.getElem_toArray, List.getElem_cons_succ, List.getElem_cons_zero]
          refine wp_conv_by (.tmp 106) rfl _ _ rfl (R7.str _) ?_
          refine hK.out _ _ trivial (fun hHeld => ?_)
          clear hK K'
          try simp only [Act.put, List.getElem_toArray, List.getElem_cons_succ, List.getElem_cons_zero, List.setIfInBounds_toArray, List.set_cons_zero, List.set_cons_succ]
          refine wpAnyH_ready (rs := [10]) (by kernel_rfl) (by simp) ?_
          refine AllReadyH.cons rfl (fun K' hK => ?_) AllReadyH.nil
          rw [if_pos (by rfl)]
          simp only [List.getElem_toArray, List.getElem_cons_succ, List.getElem_cons_zero]
          go_wp2_with fail
          refine (A2.out _ Bza).mono ?_
          rintro e zab ⟨⟨a10, c10, rfl, T10⟩, b10⟩
          try go_wp2_with fail
          have Bzab := Below.andThen Bza b10
          refine hK.out _ _ trivial (fun hHeld => ?_)
          clear hK K'
          try simp only [Act.put, List.getElem_toArray, List.getElem_cons_succ, List.getElem_cons_zero, List.setIfInBounds_toArray, List.set_cons_zero, List.set_cons_succ]
          have R7 := R7.next b10
          have R10 := T10.row
          refine wpAnyH_ready (rs := [11]) (by kernel_rfl) (by simp) ?_
          refine AllReadyH.cons rfl (fun K' hK => ?_) AllReadyH.nil
          rw [if_pos (by rfl)]
          simp only [List.getElem_toArray, List.getElem_cons_succ, List.getElem_cons_zero]
          refine wp_conv_by (.tmp 109) rfl _ _ rfl (R10.str _) ?_
          refine hK.out _ _ trivial (fun hHeld => ?_)
          clear hK K'
          try simp only [Act.put, List.getElem_toArray, List.getElem_cons_succ, List.getElem_cons_zero, List.setIfInBounds_toArray, List.set_cons_zero, List.set_cons_succ]
          refine wpAnyH_take (i := 12) (v := .bool true) rfl (by kernel_rfl) (by kernel_rfl) (by kernel_rfl) (fun _ _ _ h => h) (Or.inl ⟨by rfl, ?_⟩) trivial ?_
          · intro w9 hSw
            go_simp
          try simp only [Act.put, List.getElem_toArray, List.getElem_cons_succ, List.getElem_cons_zero, List.setIfInBounds_toArray, List.set_cons_zero, List.set_cons_succ]
          refine wpAnyH_take (i := 13) (v := .bool true) rfl (by kernel_rfl) (by kernel_rfl) (by kernel_rfl) (fun _ _ _ h => h) (Or.inl ⟨by rfl, ?_⟩) trivial ?_
          · intro w9 hSw
            go_simp
          try simp only [Act.put, List.getElem_toArray, List.getElem_cons_succ, List.getElem_cons_zero, List.setIfInBounds_toArray, List.set_cons_zero, List.set_cons_succ]
          refine wpAnyH_take (i := 14) (v := .bool true) rfl (by kernel_rfl) (by kernel_rfl) (by kernel_rfl) (fun _ _ _ h => h) (Or.inl ⟨by rfl, ?_⟩) trivial ?_
          · intro w9 hSw
            go_simp
          try simp only [Act.put, List.getElem_toArray, List.getElem_cons_succ, List.getElem_cons_zero, List.setIfInBounds_toArray, List.set_cons_zero, List.set_cons_succ]
          refine wpAnyH_ready (rs := [15]) (by kernel_rfl) (by simp) ?_
          refine AllReadyH.cons rfl (fun K' hK => ?_) AllReadyH.nil
          rw [if_pos (by rfl)]
          simp only [List.getElem_toArray, List.getElem_cons_succ, List.getElem_cons_zero]
          go_wp2_with fail
          refine (works_any _).mono ?_
          rintro e zz ⟨rfl, bw⟩
          try go_wp2_with fail
          have BW := Below.andThen Bzab bw
          refine hK.out _ _ trivial (fun hHeld => ?_)
          clear hK K'
          try simp only [Act.put, List.getElem_toArray, List.getElem_cons_succ, List.getElem_cons_zero, List.setIfInBounds_toArray, List.set_cons_zero, List.set_cons_succ]
          refine wpAnyH_take (i := 16) (v := .bool true) rfl (by kernel_rfl) (by kernel_rfl) (by kernel_rfl) (fun _ _ _ h => h) (Or.inl ⟨by rfl, ?_⟩) trivial ?_
          · intro w9 hSw
            go_simp
          try simp only [Act.put, List.getElem_toArray, List.getElem_cons_succ, List.getElem_cons_zero, List.setIfInBounds_toArray, List.set_cons_zero, List.set_cons_succ]
          refine wpAnyH_take (i := 17) (v := .bool true) rfl (by kernel_rfl) (by kernel_rfl) (by kernel_rfl) (fun _ _ _ h => h) (Or.inl ⟨by rfl, ?_⟩) trivial ?_
          · intro w9 hSw
            go_simp
          try simp only [Act.put, List.getElem_toArray, List.getElem_cons_succ, List.getElem_cons_zero, List.setIfInBounds_toArray, List.set_cons_zero, List.set_cons_succ]
          refine wpAnyH_done (by kernel_rfl) ?_ _
          go_wp2_with fail
          go_ret
          exact ⟨rfl, FIN.out _ BW⟩
        refine AllReadyH.cons rfl (fun K' hK => ?_) AllReadyH.nil
        rw [if_pos (by rfl)]
        simp only [List.getElem_toArray, List.getElem_cons_succ, List.getElem_cons_zero]
        go_wp2_with fail
        refine (A2.out _ Bza).mono ?_
        rintro e zab ⟨⟨a10, c10, rfl, T10⟩, b10⟩
        try go_wp2_with fail
        have Bzab := Below.andThen Bza b10
        refine hK.out _ _ trivial (fun hHeld => ?_)
        clear hK K'
        try simp only [Act.put, List.getElem_toArray, List.getElem_cons_succ, List.getElem_cons_zero, List.setIfInBounds_toArray, List.set_cons_zero, List.set_cons_succ]
        have R7 := R7.next b10
        have R10 := T10.row
        refine wpAnyH_ready (rs := [8, 11]) (by kernel_rfl) (by simp) ?_
        refine AllReadyH.cons rfl (fun K' hK => ?_) ?_
        · rw [if_pos (by rfl)]
          simp only [List.getElem_toArray, List.getElem_cons_succ, List.getElem_cons_zero]
          refine wp_conv_by (.tmp 106) rfl _ _ rfl (R7.str _) ?_
          refine hK.out _ _ trivial (fun hHeld => ?_)
          clear hK K'
          try simp only [Act.put, List.getElem_toArray, List.getElem_cons_succ, List.getElem_cons_zero, List.setIfInBounds_toArray, List.set_cons_zero, List.set_cons_succ]
          refine wpAnyH_ready (rs := [11]) (by kernel_rfl) (by simp) ?_
          refine AllReadyH.cons rfl (fun K' hK => ?_) AllReadyH.nil
          rw [if_pos (by rfl)]
          simp only [List.getElem_toArray, List.getElem_cons_succ, List.getElem_cons_zero]
          refine wp_conv_by (.tmp 109) rfl _ _ rfl (R10.str _) ?_
          refine hK.out _ _ trivial (fun hHeld => ?_)
          clear hK K'
          try simp only [Act.put, List.getElem_toArray, List.getElem_cons_succ, List.getElem_cons_zero, List.setIfInBounds_toArray, List.set_cons_zero, List.set_cons_succ]
          refine wpAnyH_take (i := 12) (v := .bool true) rfl (by kernel_rfl) (by kernel_rfl) (by kernel_rfl) (fun _ _ _ h => h) (Or.inl ⟨by rfl, ?_⟩) trivial ?_
          · intro w9 hSw
            go_simp
          try simp only [Act.put, List.getElem_toArray, List.getElem_cons_succ, List.getElem_cons_zero, List.setIfInBounds_toArray, List.set_cons_zero, List.set_cons_succ]
          refine wpAnyH_take (i := 13) (v := .bool true) rfl (by kernel_rfl) (by kernel_rfl) (by kernel_rfl) (fun _ _ _ h => h) (Or.inl ⟨by rfl, ?_⟩) trivial ?_
          · intro w9 hSw
            go_simp
          try simp only [Act.put, List.getElem_toArray, List.getElem_cons_succ, List.getElem_cons_zero, List.setIfInBounds_toArray, List.set_cons_zero, List.set_cons_succ]
          refine wpAnyH_take (i := 14) (v := .bool true) rfl (by kernel_rfl) (by kernel_rfl) (by kernel_rfl) (fun _ _ _ h => h) (Or.inl ⟨by rfl, ?_⟩) trivial ?_
          · intro w9 hSw
            go_simp
          try simp only [Act.put, List.getElem_toArray, List.getElem_cons_succ, List.getElem_cons_zero, List.setIfInBounds_toArray, List.set_cons_zero, List.set_cons_succ]
          refine wpAnyH_ready (rs := [15]) (by kernel_rfl) (by simp) ?_
          refine AllReadyH.cons rfl (fun K' hK => ?_) AllReadyH.nil
          rw [if_pos (by rfl)]
          simp only [List.getElem_toArray, List.getElem_cons_succ, List.getElem_cons_zero]
          go_wp2_with fail
          refine (works_any _).mono ?_
          rintro e zz ⟨rfl, bw⟩
          try go_wp2_with fail
          have BW := Below.andThen Bzab bw
          refine hK.out _ _ trivial (fun hHeld => ?_)
          clear hK K'
          try simp only [Act.put, List.getElem_toArray, List.getElem_cons_succ, List.getElem_cons_zero, List.setIfInBounds_toArray, List.set_cons_zero, List.set_cons_succ]
          refine wpAnyH_take (i := 16) (v := .bool true) rfl (by kernel_rfl) (by kernel_rfl) (by kernel_rfl) (fun _ _ _ h => h) (Or.inl ⟨by rfl, ?_⟩) trivial ?_
          · intro w9 hSw
            go_simp
          try simp only [Act.put, List.getElem_toArray, List.getElem_cons_succ, List.getElem_cons_zero, List.setIfInBounds_toArray, List.set_cons_zero, List.set_cons_succ]
          refine wpAnyH_take (i := 17) (v := .bool true) rfl (by kernel_rfl) (by kernel_rfl) (by kernel_rfl) (fun _ _ _ h => h) (Or.inl ⟨by rfl, ?_⟩) trivial ?_
          · intro w9 hSw
            go_simp
          try simp only [Act.put, List.getElem_toArray, List.getElem_cons_succ, List.getElem_cons_zero, List.setIfInBounds_toArray, List.set_cons_zero, List.set_cons_succ]
          refine wpAnyH_done (by kernel_rfl) ?_ _
          go_wp2_with fail
          go_ret
          exact ⟨rfl, FIN.out _ BW⟩
        refine AllReadyH.cons rfl (fun K' hK => ?_) AllReadyH.nil
        rw [if_pos (by rfl)]
        simp only [List.getElem_toArray, List.getElem_cons_succ, List.getElem_cons_zero]
        refine wp_conv_by (.tmp 109) rfl _ _ rfl (R10.str _) ?_
        refine hK.out _ _ trivial (fun hHeld => ?_)
        clear hK K'
        try simp only [Act.put, List.getElem_toArray, List.getElem_cons_succ, List.getElem_cons_zero, List.setIfInBounds_toArray, List.set_cons_zero, List.set_cons_succ]
        refine wpAnyH_ready (rs := [8]) (by kernel_rfl) (by simp) ?_
        refine AllReadyH.cons rfl (fun K' hK => ?_) AllReadyH.nil
        rw [if_pos (by rfl)]
        simp only [List.getElem_toArray, List.getElem_cons_succ, List.getElem_cons_zero]
        refine wp_conv_by (.tmp 106) rfl _ _ rfl (R7.str _) ?_
        refine hK.out _ _ trivial (fun hHeld => ?_)
        clear hK K'
        try simp only [Act.put, List.getElem_toArray, List.getElem_cons_succ, List.getElem_cons_zero, List.setIfInBounds_toArray, List.set_cons_zero, List.set_cons_succ]
        refine wpAnyH_take (i := 12) (v := .bool true) rfl (by kernel_rfl) (by kernel_rfl) (by kernel_rfl) (fun _ _ _ h => h) (Or.inl ⟨by rfl, ?_⟩) trivial ?_
        · intro w9 hSw
          go_simp
        try simp only [Act.put, List.getElem_toArray, List.getElem_cons_succ, List.getElem_cons_zero, List.setIfInBounds_toArray, List.set_cons_zero, List.set_cons_succ]
        refine wpAnyH_take (i := 13) (v := .bool true) rfl (by kernel_rfl) (by kernel_rfl) (by kernel_rfl) (fun _ _ _ h => h) (Or.inl ⟨by rfl, ?_⟩) trivial ?_
        · intro w9 hSw
          go_simp
        try simp only [Act.put, List.getElem_toArray, List.getElem_cons_succ, List.getElem_cons_zero, List.setIfInBounds_toArray, List.set_cons_zero, List.set_cons_succ]
        refine wpAnyH_take (i := 14) (v := .bool true) rfl (by kernel_rfl) (by kernel_rfl) (by kernel_rfl) (fun _ _ _ h => h) (Or.inl ⟨by rfl, ?_⟩) trivial ?_
        · intro w9 hSw
          go_simp
        try simp only [Act.put, List.getElem_toArray, List.getElem_cons_succ, List.getElem_cons_zero, List.setIfInBounds_toArray, List.set_cons_zero, List.set_cons_succ]
        refine wpAnyH_ready (rs := [15]) (by kernel_rfl) (by simp) ?_
        refine AllReadyH.cons rfl (fun K' hK => ?_) AllReadyH.nil
        rw [if_pos (by rfl)]
        simp only [List.getElem_toArray, List.getElem_cons_succ, List.getElem_cons_zero]
        go_wp2_with fail
        refine (works_any _).mono ?_
        rintro e zz ⟨rfl, bw⟩
        try go_wp2_with fail
        have BW := Below.andThen Bzab bw
        refine hK.out _ _ trivial (fun hHeld => ?_)
        clear hK K'
        try simp only [Act.put, List.getElem_toArray, List.getElem_cons_succ, List.getElem_cons_zero, List.setIfInBounds_toArray, List.set_cons_zero, List.set_cons_succ]
        refine wpAnyH_take (i := 16) (v := .bool true) rfl (by kernel_rfl) (by kernel_rfl) (by kernel_rfl) (fun _ _ _ h => h) (Or.inl ⟨by rfl, ?_⟩) trivial ?_
        · intro w9 hSw
          go_simp
        try simp only [Act.put, List.getElem_toArray, List.getElem_cons_succ, List.getElem_cons_zero, List.setIfInBounds_toArray, List.set_cons_zero, List.set_cons_succ]
        refine wpAnyH_take (i := 17) (v := .bool true) rfl (by kernel_rfl) (by kernel_rfl) (by kernel_rfl) (fun _ _ _ h => h) (Or.inl ⟨by rfl, ?_⟩) trivial ?_
        · intro w9 hSw
          go_simp
        try simp only [Act.put, List.getElem_toArray, List.getElem_cons_succ, List.getElem_cons_zero, List.setIfInBounds_toArray, List.set_cons_zero, List.set_cons_succ]
        refine wpAnyH_done (by kernel_rfl) ?_ _
        go_wp2_with fail
        go_ret
        exact ⟨rfl, FIN.out _ BW⟩
      | false =>
        rw [hq] at OFA
        go_wp2_with fail
        refine OFA.mono ?_
        rintro e y ⟨rfl, rfl⟩
        obtain ⟨q1, q2⟩ := CX.out.2 hq
        clear OFA hq
        go_wp2_with fail
        refine (EB.out _ Tb2.out).mono ?_
        rintro e v ⟨rfl, Vb, kv⟩
        obtain ⟨r1, r2, r3, r4, r5, r6, r7, r8, r9⟩ := ORD.out
        have Va := Ya2.out.kp kv (by simp; omega) (by simp; omega)
        have uv : Below w.heap.size w v := Kp.below uy2 kv uy2.size (by intro j hj; simp at hj; omega)
        have DONE : Hid (w13.heap.size ≤ v.heap.size ∧ ∃ sa sb : FS, Below w.heap.size w v ∧ IsS v p B n n sa ∧ IsS v px Bx n n sb ∧ CR t sa sb ∧ sa.st ≤ ((i + 1 : Nat) : Int)) := ⟨by have := kv.size; have := ysz.out; have := HZ.out; omega, _, _, uv, Va, Vb, q1, by have := HL.out; rw [Int.natCast_add]; omega⟩
        clear Va Vb kv uv q1 q2 EB CX Ya2 Tb2 y1 y2 y3 y4 y5 y6 uy2 r1 r2 r3 r4 r5 r6 r7 r8 r9
        go_wp2_with fail
        exact ⟨⟨i + 1, by omega, by go_num, DONE.out⟩, by simp [intOf]; omega⟩
    · have R1 : x.k.tmod 9 = 3 := by rw [km]; exact hrr
      have EA : Hid (∀ y, Below wr.heap.size wr y → Calls Try.prog 17 #[.pointer (some ⟨p, 0, none⟩), .int .i64 x.A] y fun e w' => e = .returned (.int .i64 (sa.erase n x.A).1) ∧ IsS w' p B n n (sa.erase n x.A).2 ∧ Kp [p, B] y w') := fun y hy => erase_any (Ta.out.next hy) (C1.out.oka ht1.out HL.out (by omega)) x.A
      have EB : Hid (∀ y, IsS y px Bx n n sbx → Calls Try.prog 17 #[.pointer (some ⟨px, 0, none⟩), .int .i64 x.A] y fun e w' => e = .returned (.int .i64 (sbx.erase n x.A).1) ∧ IsS w' px Bx n n (sbx.erase n x.A).2 ∧ Kp [px, Bx] y w') := fun y hy => erase_any (hy) (C1.out.okb HL.out (by omega)) x.A
      have CX : Hid (CB t sa sbx (sa.erase n x.A).2 (sbx.erase n x.A).2) := C1.out.erase n x.A
      have hofb : Hid (sbx.of = false) := C1.out.b2
      generalize sa.erase n x.A = RA at *
      generalize sbx.erase n x.A = RB at *
      clear km hrr hok2 C1 o
      go_wp2_with fail
      go_region
      go_wp2_with fail
      refine (EA.out _ (by first | exact Below.drew (Below.al (Below.refl _ _) _) | exact Below.al (Below.drew (Below.refl _ _)) _ | exact Below.drew (Below.al (Below.drew (Below.refl _ _)) _))).mono ?_
      rintro e y ⟨rfl, Ya, ky⟩
      obtain ⟨r1, r2, r3, r4, r5, r6, r7, r8, r9⟩ := ORD.out
      have sz := SZ.out
      have sz2 := HZ.out
      have y1 := ky.cell (b := wr.heap.size) (o := 1) (v := .int .i64 x.A) (by simp [go_sem]) (by simp; omega)
      have y2 := ky.cell (b := wr.heap.size) (o := 2) (v := .int .i64 x.B) (by simp [go_sem]) (by simp; omega)
      have y3 := ky.cell (b := wr.heap.size) (o := 3) (v := .int .u8 x.w0) (by simp [go_sem]) (by simp; omega)
      have y4 := ky.cell (b := wr.heap.size) (o := 4) (v := .int .u8 x.w1) (by simp [go_sem]) (by simp; omega)
      have y5 := ky.cell (b := wr.heap.size) (o := 5) (v := .int .u8 x.w2) (by simp [go_sem]) (by simp; omega)
      have y6 := ky.cell (b := wr.heap.size) (o := 6) (v := .int .u8 x.w3) (by simp [go_sem]) (by simp; omega)
      have kk : Kp [p, B] wr y := (Kp.of (S := [p, B]) (a := wr) (by first | exact Below.drew (Below.al (Below.refl _ _) _) | exact Below.al (Below.drew (Below.refl _ _)) _ | exact Below.drew (Below.al (Below.drew (Below.refl _ _)) _))).trans ky
      have Tb2 : Hid (IsS y px Bx n n sbx) := Tb.out.kp kk (by simp; omega) (by simp; omega)
      have uy2 : Below w.heap.size w y := Kp.below uy kk uy.size (by intro j hj; simp at hj; omega)
      have ysz : Hid (wr.heap.size ≤ y.heap.size) := kk.size
      have OFA := off_any Ya
      have Ya2 : Hid (IsS y p B n n RA.2) := Ya
      clear EA Ta Tb ky kk uy c0 c1 c2 c3 c4' c5' c6' d0 d1 d2 d3 d4 d5 d6 Ya sz sz2 r1 r2 r3 r4 r5 r6 r7 r8 r9
      cases hq : RA.2.of with
      | true =>
        rw [hq] at OFA
        go_wp2_with fail
        refine OFA.mono ?_
        rintro e y ⟨rfl, rfl⟩
        obtain ⟨q1, q2, q3⟩ := CX.out.1 hq
        have hof : Hid (RA.2.of = true) := hq
        have hstt : Hid (RA.2.st = t) := q3
        have hcs : Hid (RA.2.cs = sbx.cs) := q1
        have hst : Hid (RA.2.st = sbx.st) := q2
        have Ta := Ya2
        have Tb := Tb2
        have uy := uy2
        clear q1 q2 q3 CX EB OFA Ya2 Tb2 y1 y2 y3 y4 y5 y6 uy2 hq HL
        have OF := off_any Ta.out
        rw [hof.out] at OF
        go_wp2_with fail
        refine OF.mono ?_
        rintro e y ⟨rfl, rfl⟩
        clear OF
        have ST := steps_any Ta.out
        rw [hstt.out] at ST
        have tt : (t != t) = false := by simp
        go_wp2_with fail
        refine ST.mono ?_
        rintro e y ⟨rfl, rfl⟩
        clear ST tt
        have ONN := on_any Ta.out
        go_wp2_with fail
        refine ONN.mono ?_
        rintro e v1 ⟨rfl, U1, k1⟩
        clear ONN
        obtain ⟨r1, r2, r3, r4, r5, r6, r7, r8, r9⟩ := ORD.out
        have V1 := Tb.out.kp k1 (by simp; omega) (by simp; omega)
        rw [hcs.out, hst.out] at U1
        have SA : Hid (∀ z, Below v1.drew.heap.size v1.drew z → Calls Try.prog 23 #[.pointer (some ⟨p, 0, none⟩)] z fun e w' => e = .returned (.int .i64 sbx.st) ∧ w' = z) := fun z hz => steps_any ((IsF.keep (w' := v1.drew) U1 rfl rfl).next hz)
        have SB : Hid (∀ z, Below v1.drew.heap.size v1.drew z → Calls Try.prog 23 #[.pointer (some ⟨px, 0, none⟩)] z fun e w' => e = .returned (.int .i64 sbx.st) ∧ w' = z) := fun z hz => steps_any ((IsF.keep (w' := v1.drew) V1 rfl rfl).next hz)
        have A1 : Hid (∀ z, Below v1.drew.heap.size v1.drew z → Calls Try.prog 16 #[.pointer (some ⟨p, 0, none⟩)] z fun e w' => (∃ a c, e = .returned (.slice a (1024 * n) c) ∧ Told z w' a (1024 * n) c sbx.cs) ∧ Below z.heap.size z w') := fun z hz => all_any (s := ⟨sbx.cs, sbx.st, false, 0, false⟩) ((IsF.keep (w' := v1.drew) U1 rfl rfl).next hz) rfl
        have A2 : Hid (∀ z, Below v1.drew.heap.size v1.drew z → Calls Try.prog 16 #[.pointer (some ⟨px, 0, none⟩)] z fun e w' => (∃ a c, e = .returned (.slice a (1024 * n) c) ∧ Told z w' a (1024 * n) c sbx.cs) ∧ Below z.heap.size z w') := fun z hz => all_any (s := sbx) ((IsF.keep (w' := v1.drew) V1 rfl rfl).next hz) hofb.out
        have FIN : Hid (∀ z, Below v1.drew.heap.size v1.drew z → Below w.heap.size w z) := fun z hz => (Kp.below uy (k1.drew.trans (Kp.of hz)) uy.size (by intro j hj; simp at hj; omega))
        clear U1 V1 k1 Ta Tb r1 r2 r3 r4 r5 r6 r7 r8 r9
        obtain ⟨C, hC⟩ : ∃ C, Hid (C = sbx.cs) := ⟨_, rfl⟩
        obtain ⟨T0, hT⟩ : ∃ T0, Hid (T0 = sbx.st) := ⟨_, rfl⟩
        rw [← hC.out] at A1 A2
        rw [← hT.out] at SA SB
        go_wp2_with fail
        obtain ⟨z, hz⟩ : ∃ z, z = v1.drew := ⟨_, rfl⟩
        have Bz : Below v1.drew.heap.size v1.drew z := by rw [hz]; exact Below.refl _ _
        refine wp_region_held_drew (S := fun _ => True) (by kernel_rfl) trivial (fun hHeld => ?_)
        rw [← hz]
        rw [← hz] at SA SB A1 A2 FIN Bz
        clear hz
        refine wpAnyH_take (i := 0) (v := .pointer (some ⟨p, 0, none⟩)) rfl (by kernel_rfl) (by kernel_rfl) (by kernel_rfl) (fun _ _ _ h => h) (Or.inl ⟨by rfl, ?_⟩) trivial ?_
        · intro w9 hSw
          go_simp
        try simp only [Act.put, List.getElem_toArray, List.getElem_cons_succ, List.getElem_cons_zero, List.setIfInBounds_toArray, List.set_cons_zero, List.set_cons_succ]
        refine wpAnyH_take (i := 2) (v := .pointer (some ⟨px, 0, none⟩)) rfl (by kernel_rfl) (by kernel_rfl) (by kernel_rfl) (fun _ _ _ h => h) (Or.inl ⟨by rfl, ?_⟩) trivial ?_
        · intro w9 hSw
          go_simp
        try simp only [Act.put, List.getElem_toArray, List.getElem_cons_succ, List.getElem_cons_zero, List.setIfInBounds_toArray, List.set_cons_zero, List.set_cons_succ]
        refine wpAnyH_ready (rs := [1]) (by kernel_rfl) (by simp) ?_
        refine AllReadyH.cons rfl (fun K' hK => ?_) AllReadyH.nil
        rw [if_pos (by rfl)]
        simp only [List.getElem_toArray, List.getElem_cons_succ, List.getElem_cons_zero]
        go_wp2_with fail
        refine (SA.out _ Bz).mono ?_
        rintro e z ⟨rfl, rfl⟩
        try go_wp2_with fail
        refine hK.out _ _ trivial (fun hHeld => ?_)
        clear hK K'
        try simp only [Act.put, List.getElem_toArray, List.getElem_cons_succ, List.getElem_cons_zero, List.setIfInBounds_toArray, List.set_cons_zero, List.set_cons_succ]
        refine wpAnyH_ready (rs := [3]) (by kernel_rfl) (by simp) ?_
        refine AllReadyH.cons rfl (fun K' hK => ?_) AllReadyH.nil
        rw [if_pos (by rfl)]
        simp only [List.getElem_toArray, List.getElem_cons_succ, List.getElem_cons_zero]
        go_wp2_with fail
        refine (SB.out _ Bz).mono ?_
        rintro e z ⟨rfl, rfl⟩
        try go_wp2_with fail
        refine hK.out _ _ trivial (fun hHeld => ?_)
        clear hK K'
        try simp only [Act.put, List.getElem_toArray, List.getElem_cons_succ, List.getElem_cons_zero, List.setIfInBounds_toArray, List.set_cons_zero, List.set_cons_succ]
        refine wpAnyH_take (i := 4) (v := .bool true) rfl (by kernel_rfl) (by kernel_rfl) (by kernel_rfl) (fun _ _ _ h => h) (Or.inl ⟨by rfl, ?_⟩) trivial ?_
        · intro w9 hSw
          go_simp
        try simp only [Act.put, List.getElem_toArray, List.getElem_cons_succ, List.getElem_cons_zero, List.setIfInBounds_toArray, List.set_cons_zero, List.set_cons_succ]
        refine wpAnyH_take (i := 5) (v := .bool true) rfl (by kernel_rfl) (by kernel_rfl) (by kernel_rfl) (fun _ _ _ h => h) (Or.inl ⟨by rfl, ?_⟩) trivial ?_
        · intro w9 hSw
          go_simp
        try simp only [Act.put, List.getElem_toArray, List.getElem_cons_succ, List.getElem_cons_zero, List.setIfInBounds_toArray, List.set_cons_zero, List.set_cons_succ]
        refine wpAnyH_take (i := 6) (v := .pointer (some ⟨p, 0, none⟩)) rfl (by kernel_rfl) (by kernel_rfl) (by kernel_rfl) (fun _ _ _ h => h) (Or.inl ⟨by rfl, ?_⟩) trivial ?_
        · intro w9 hSw
          go_simp
        try simp only [Act.put, List.getElem_toArray, List.getElem_cons_succ, List.getElem_cons_zero, List.setIfInBounds_toArray, List.set_cons_zero, List.set_cons_succ]
        refine wpAnyH_take (i := 9) (v := .pointer (some ⟨px, 0, none⟩)) rfl (by kernel_rfl) (by kernel_rfl) (by kernel_rfl) (fun _ _ _ h => h) (Or.inl ⟨by rfl, ?_⟩) trivial ?_
        · intro w9 hSw
          go_simp
        try simp only [Act.put, List.getElem_toArray, List.getElem_cons_succ, List.getElem_cons_zero, List.setIfInBounds_toArray, List.set_cons_zero, List.set_cons_succ]
        refine wpAnyH_ready (rs := [7]) (by kernel_rfl) (by simp) ?_
        refine AllReadyH.cons rfl (fun K' hK => ?_) AllReadyH.nil
        rw [if_pos (by rfl)]
        simp only [List.getElem_toArray, List.getElem_cons_succ, List.getElem_cons_zero]
        go_wp2_with fail
        refine (A1.out _ Bz).mono ?_
        rintro e za ⟨⟨a7, c7, rfl, T7⟩, b7⟩
        try go_wp2_with fail
        have Bza := Below.andThen Bz b7
        refine hK.out _ _ trivial (fun hHeld => ?_)
        clear hK K'
        try simp only [Act.put, List.getElem_toArray, List.getElem_cons_succ, List.getElem_cons_zero, List.setIfInBounds_toArray, List.set_cons_zero, List.set_cons_succ]
        have R7 := T7.row
        refine wpAnyH_ready (rs := [8, 10]) (by kernel_rfl) (by simp) ?_
        refine AllReadyH.cons rfl (fun K' hK => ?_) ?_
        · rw [if_pos (by rfl)]
          simp only [List.getElem_toArray, List.getElem_cons_succ, List.getElem_cons_zero]
          refine wp_conv_by (.tmp 106) rfl _ _ rfl (R7.str _) ?_
          refine hK.out _ _ trivial (fun hHeld => ?_)
          clear hK K'
          try simp only [Act.put, List.getElem_toArray, List.getElem_cons_succ, List.getElem_cons_zero, List.setIfInBounds_toArray, List.set_cons_zero, List.set_cons_succ]
          refine wpAnyH_ready (rs := [10]) (by kernel_rfl) (by simp) ?_
          refine AllReadyH.cons rfl (fun K' hK => ?_) AllReadyH.nil
          rw [if_pos (by rfl)]
          simp only [List.getElem_toArray, List.getElem_cons_succ, List.getElem_cons_zero]
          go_wp2_with fail
          refine (A2.out _ Bza).mono ?_
          rintro e zab ⟨⟨a10, c10, rfl, T10⟩, b10⟩
          try go_wp2_with fail
          have Bzab := Below.andThen Bza b10
          refine hK.out _ _ trivial (fun hHeld => ?_)
          clear hK K'
          try simp only [Act.put, List.getElem_toArray, List.getElem_cons_succ, List.getElem_cons_zero, List.setIfInBounds_toArray, List.set_cons_zero, List.set_cons_succ]
          have R7 := R7.next b10
          have R10 := T10.row
          refine wpAnyH_ready (rs := [11]) (by kernel_rfl) (by simp) ?_
          refine AllReadyH.cons rfl (fun K' hK => ?_) AllReadyH.nil
          rw [if_pos (by rfl)]
          simp only [List.getElem_toArray, List.getElem_cons_succ, List.getElem_cons_zero]
          refine wp_conv_by (.tmp 109) rfl _ _ rfl (R10.str _) ?_
          refine hK.out _ _ trivial (fun hHeld => ?_)
          clear hK K'
          try simp only [Act.put, List.getElem_toArray, List.getElem_cons_succ, List.getElem_cons_zero, List.setIfInBounds_toArray, List.set_cons_zero, List.set_cons_succ]
          refine wpAnyH_take (i := 12) (v := .bool true) rfl (by kernel_rfl) (by kernel_rfl) (by kernel_rfl) (fun _ _ _ h => h) (Or.inl ⟨by rfl, ?_⟩) trivial ?_
          · intro w9 hSw
            go_simp
          try simp only [Act.put, List.getElem_toArray, List.getElem_cons_succ, List.getElem_cons_zero, List.setIfInBounds_toArray, List.set_cons_zero, List.set_cons_succ]
          refine wpAnyH_take (i := 13) (v := .bool true) rfl (by kernel_rfl) (by kernel_rfl) (by kernel_rfl) (fun _ _ _ h => h) (Or.inl ⟨by rfl, ?_⟩) trivial ?_
          · intro w9 hSw
            go_simp
          try simp only [Act.put, List.getElem_toArray, List.getElem_cons_succ, List.getElem_cons_zero, List.setIfInBounds_toArray, List.set_cons_zero, List.set_cons_succ]
          refine wpAnyH_take (i := 14) (v := .bool true) rfl (by kernel_rfl) (by kernel_rfl) (by kernel_rfl) (fun _ _ _ h => h) (Or.inl ⟨by rfl, ?_⟩) trivial ?_
          · intro w9 hSw
            go_simp
          try simp only [Act.put, List.getElem_toArray, List.getElem_cons_succ, List.getElem_cons_zero, List.setIfInBounds_toArray, List.set_cons_zero, List.set_cons_succ]
          refine wpAnyH_ready (rs := [15]) (by kernel_rfl) (by simp) ?_
          refine AllReadyH.cons rfl (fun K' hK => ?_) AllReadyH.nil
          rw [if_pos (by rfl)]
          simp only [List.getElem_toArray, List.getElem_cons_succ, List.getElem_cons_zero]
          go_wp2_with fail
          refine (works_any _).mono ?_
          rintro e zz ⟨rfl, bw⟩
          try go_wp2_with fail
          have BW := Below.andThen Bzab bw
          refine hK.out _ _ trivial (fun hHeld => ?_)
          clear hK K'
          try simp only [Act.put, List.getElem_toArray, List.getElem_cons_succ, List.getElem_cons_zero, List.setIfInBounds_toArray, List.set_cons_zero, List.set_cons_succ]
          refine wpAnyH_take (i := 16) (v := .bool true) rfl (by kernel_rfl) (by kernel_rfl) (by kernel_rfl) (fun _ _ _ h => h) (Or.inl ⟨by rfl, ?_⟩) trivial ?_
          · intro w9 hSw
            go_simp
          try simp only [Act.put, List.getElem_toArray, List.getElem_cons_succ, List.getElem_cons_zero, List.setIfInBounds_toArray, List.set_cons_zero, List.set_cons_succ]
          refine wpAnyH_take (i := 17) (v := .bool true) rfl (by kernel_rfl) (by kernel_rfl) (by kernel_rfl) (fun _ _ _ h => h) (Or.inl ⟨by rfl, ?_⟩) trivial ?_
          · intro w9 hSw
            go_simp
          try simp only [Act.put, List.getElem_toArray, List.getElem_cons_succ, List.getElem_cons_zero, List.setIfInBounds_toArray, List.set_cons_zero, List.set_cons_succ]
          refine wpAnyH_done (by kernel_rfl) ?_ _
          go_wp2_with fail
          go_ret
          exact ⟨rfl, FIN.out _ BW⟩
        refine AllReadyH.cons rfl (fun K' hK => ?_) AllReadyH.nil
        rw [if_pos (by rfl)]
        simp only [List.getElem_toArray, List.getElem_cons_succ, List.getElem_cons_zero]
        go_wp2_with fail
        refine (A2.out _ Bza).mono ?_
        rintro e zab ⟨⟨a10, c10, rfl, T10⟩, b10⟩
        try go_wp2_with fail
        have Bzab := Below.andThen Bza b10
        refine hK.out _ _ trivial (fun hHeld => ?_)
        clear hK K'
        try simp only [Act.put, List.getElem_toArray, List.getElem_cons_succ, List.getElem_cons_zero, List.setIfInBounds_toArray, List.set_cons_zero, List.set_cons_succ]
        have R7 := R7.next b10
        have R10 := T10.row
        refine wpAnyH_ready (rs := [8, 11]) (by kernel_rfl) (by simp) ?_
        refine AllReadyH.cons rfl (fun K' hK => ?_) ?_
        · rw [if_pos (by rfl)]
          simp only [List.getElem_toArray, List.getElem_cons_succ, List.getElem_cons_zero]
          refine wp_conv_by (.tmp 106) rfl _ _ rfl (R7.str _) ?_
          refine hK.out _ _ trivial (fun hHeld => ?_)
          clear hK K'
          try simp only [Act.put, List.getElem_toArray, List.getElem_cons_succ, List.getElem_cons_zero, List.setIfInBounds_toArray, List.set_cons_zero, List.set_cons_succ]
          refine wpAnyH_ready (rs := [11]) (by kernel_rfl) (by simp) ?_
          refine AllReadyH.cons rfl (fun K' hK => ?_) AllReadyH.nil
          rw [if_pos (by rfl)]
          simp only [List.getElem_toArray, List.getElem_cons_succ, List.getElem_cons_zero]
          refine wp_conv_by (.tmp 109) rfl _ _ rfl (R10.str _) ?_
          refine hK.out _ _ trivial (fun hHeld => ?_)
          clear hK K'
          try simp only [Act.put, List.getElem_toArray, List.getElem_cons_succ, List.getElem_cons_zero, List.setIfInBounds_toArray, List.set_cons_zero, List.set_cons_succ]
          refine wpAnyH_take (i := 12) (v := .bool true) rfl (by kernel_rfl) (by kernel_rfl) (by kernel_rfl) (fun _ _ _ h => h) (Or.inl ⟨by rfl, ?_⟩) trivial ?_
          · intro w9 hSw
            go_simp
          try simp only [Act.put, List.getElem_toArray, List.getElem_cons_succ, List.getElem_cons_zero, List.setIfInBounds_toArray, List.set_cons_zero, List.set_cons_succ]
          refine wpAnyH_take (i := 13) (v := .bool true) rfl (by kernel_rfl) (by kernel_rfl) (by kernel_rfl) (fun _ _ _ h => h) (Or.inl ⟨by rfl, ?_⟩) trivial ?_
          · intro w9 hSw
            go_simp
          try simp only [Act.put, List.getElem_toArray, List.getElem_cons_succ, List.getElem_cons_zero, List.setIfInBounds_toArray, List.set_cons_zero, List.set_cons_succ]
          refine wpAnyH_take (i := 14) (v := .bool true) rfl (by kernel_rfl) (by kernel_rfl) (by kernel_rfl) (fun _ _ _ h => h) (Or.inl ⟨by rfl, ?_⟩) trivial ?_
          · intro w9 hSw
            go_simp
          try simp only [Act.put, List.getElem_toArray, List.getElem_cons_succ, List.getElem_cons_zero, List.setIfInBounds_toArray, List.set_cons_zero, List.set_cons_succ]
          refine wpAnyH_ready (rs := [15]) (by kernel_rfl) (by simp) ?_
          refine AllReadyH.cons rfl (fun K' hK => ?_) AllReadyH.nil
          rw [if_pos (by rfl)]
          simp only [List.getElem_toArray, List.getElem_cons_succ, List.getElem_cons_zero]
          go_wp2_with fail
          refine (works_any _).mono ?_
          rintro e zz ⟨rfl, bw⟩
          try go_wp2_with fail
          have BW := Below.andThen Bzab bw
          refine hK.out _ _ trivial (fun hHeld => ?_)
          clear hK K'
          try simp only [Act.put, List.getElem_toArray, List.getElem_cons_succ, List.getElem_cons_zero, List.setIfInBounds_toArray, List.set_cons_zero, List.set_cons_succ]
          refine wpAnyH_take (i := 16) (v := .bool true) rfl (by kernel_rfl) (by kernel_rfl) (by kernel_rfl) (fun _ _ _ h => h) (Or.inl ⟨by rfl, ?_⟩) trivial ?_
          · intro w9 hSw
            go_simp
          try simp only [Act.put, List.getElem_toArray, List.getElem_cons_succ, List.getElem_cons_zero, List.setIfInBounds_toArray, List.set_cons_zero, List.set_cons_succ]
          refine wpAnyH_take (i := 17) (v := .bool true) rfl (by kernel_rfl) (by kernel_rfl) (by kernel_rfl) (fun _ _ _ h => h) (Or.inl ⟨by rfl, ?_⟩) trivial ?_
          · intro w9 hSw
            go_simp
          try simp only [Act.put, List.getElem_toArray, List.getElem_cons_succ, List.getElem_cons_zero, List.setIfInBounds_toArray, List.set_cons_zero, List.set_cons_succ]
          refine wpAnyH_done (by kernel_rfl) ?_ _
          go_wp2_with fail
          go_ret
          exact ⟨rfl, FIN.out _ BW⟩
        refine AllReadyH.cons rfl (fun K' hK => ?_) AllReadyH.nil
        rw [if_pos (by rfl)]
        simp only [List.getElem_toArray, List.getElem_cons_succ, List.getElem_cons_zero]
        refine wp_conv_by (.tmp 109) rfl _ _ rfl (R10.str _) ?_
        refine hK.out _ _ trivial (fun hHeld => ?_)
        clear hK K'
        try simp only [Act.put, List.getElem_toArray, List.getElem_cons_succ, List.getElem_cons_zero, List.setIfInBounds_toArray, List.set_cons_zero, List.set_cons_succ]
        refine wpAnyH_ready (rs := [8]) (by kernel_rfl) (by simp) ?_
        refine AllReadyH.cons rfl (fun K' hK => ?_) AllReadyH.nil
        rw [if_pos (by rfl)]
        simp only [List.getElem_toArray, List.getElem_cons_succ, List.getElem_cons_zero]
        refine wp_conv_by (.tmp 106) rfl _ _ rfl (R7.str _) ?_
        refine hK.out _ _ trivial (fun hHeld => ?_)
        clear hK K'
        try simp only [Act.put, List.getElem_toArray, List.getElem_cons_succ, List.getElem_cons_zero, List.setIfInBounds_toArray, List.set_cons_zero, List.set_cons_succ]
        refine wpAnyH_take (i := 12) (v := .bool true) rfl (by kernel_rfl) (by kernel_rfl) (by kernel_rfl) (fun _ _ _ h => h) (Or.inl ⟨by rfl, ?_⟩) trivial ?_
        · intro w9 hSw
          go_simp
        try simp only [Act.put, List.getElem_toArray, List.getElem_cons_succ, List.getElem_cons_zero, List.setIfInBounds_toArray, List.set_cons_zero, List.set_cons_succ]
        refine wpAnyH_take (i := 13) (v := .bool true) rfl (by kernel_rfl) (by kernel_rfl) (by kernel_rfl) (fun _ _ _ h => h) (Or.inl ⟨by rfl, ?_⟩) trivial ?_
        · intro w9 hSw
          go_simp
        try simp only [Act.put, List.getElem_toArray, List.getElem_cons_succ, List.getElem_cons_zero, List.setIfInBounds_toArray, List.set_cons_zero, List.set_cons_succ]
        refine wpAnyH_take (i := 14) (v := .bool true) rfl (by kernel_rfl) (by kernel_rfl) (by kernel_rfl) (fun _ _ _ h => h) (Or.inl ⟨by rfl, ?_⟩) trivial ?_
        · intro w9 hSw
          go_simp
        try simp only [Act.put, List.getElem_toArray, List.getElem_cons_succ, List.getElem_cons_zero, List.setIfInBounds_toArray, List.set_cons_zero, List.set_cons_succ]
        refine wpAnyH_ready (rs := [15]) (by kernel_rfl) (by simp) ?_
        refine AllReadyH.cons rfl (fun K' hK => ?_) AllReadyH.nil
        rw [if_pos (by rfl)]
        simp only [List.getElem_toArray, List.getElem_cons_succ, List.getElem_cons_zero]
        go_wp2_with fail
        refine (works_any _).mono ?_
        rintro e zz ⟨rfl, bw⟩
        try go_wp2_with fail
        have BW := Below.andThen Bzab bw
        refine hK.out _ _ trivial (fun hHeld => ?_)
        clear hK K'
        try simp only [Act.put, List.getElem_toArray, List.getElem_cons_succ, List.getElem_cons_zero, List.setIfInBounds_toArray, List.set_cons_zero, List.set_cons_succ]
        refine wpAnyH_take (i := 16) (v := .bool true) rfl (by kernel_rfl) (by kernel_rfl) (by kernel_rfl) (fun _ _ _ h => h) (Or.inl ⟨by rfl, ?_⟩) trivial ?_
        · intro w9 hSw
          go_simp
        try simp only [Act.put, List.getElem_toArray, List.getElem_cons_succ, List.getElem_cons_zero, List.setIfInBounds_toArray, List.set_cons_zero, List.set_cons_succ]
        refine wpAnyH_take (i := 17) (v := .bool true) rfl (by kernel_rfl) (by kernel_rfl) (by kernel_rfl) (fun _ _ _ h => h) (Or.inl ⟨by rfl, ?_⟩) trivial ?_
        · intro w9 hSw
          go_simp
        try simp only [Act.put, List.getElem_toArray, List.getElem_cons_succ, List.getElem_cons_zero, List.setIfInBounds_toArray, List.set_cons_zero, List.set_cons_succ]
        refine wpAnyH_done (by kernel_rfl) ?_ _
        go_wp2_with fail
        go_ret
        exact ⟨rfl, FIN.out _ BW⟩
      | false =>
        rw [hq] at OFA
        go_wp2_with fail
        refine OFA.mono ?_
        rintro e y ⟨rfl, rfl⟩
        obtain ⟨q1, q2⟩ := CX.out.2 hq
        clear OFA hq
        go_wp2_with fail
        refine (EB.out _ Tb2.out).mono ?_
        rintro e v ⟨rfl, Vb, kv⟩
        obtain ⟨r1, r2, r3, r4, r5, r6, r7, r8, r9⟩ := ORD.out
        have Va := Ya2.out.kp kv (by simp; omega) (by simp; omega)
        have uv : Below w.heap.size w v := Kp.below uy2 kv uy2.size (by intro j hj; simp at hj; omega)
        have DONE : Hid (w13.heap.size ≤ v.heap.size ∧ ∃ sa sb : FS, Below w.heap.size w v ∧ IsS v p B n n sa ∧ IsS v px Bx n n sb ∧ CR t sa sb ∧ sa.st ≤ ((i + 1 : Nat) : Int)) := ⟨by have := kv.size; have := ysz.out; have := HZ.out; omega, _, _, uv, Va, Vb, q1, by have := HL.out; rw [Int.natCast_add]; omega⟩
        clear Va Vb kv uv q1 q2 EB CX Ya2 Tb2 y1 y2 y3 y4 y5 y6 uy2 r1 r2 r3 r4 r5 r6 r7 r8 r9
        go_wp2_with fail
        exact ⟨⟨i + 1, by omega, by go_num, DONE.out⟩, by simp [intOf]; omega⟩
    · have g3 : (3 : Int) < x.k % 9 := by omega
      have DONE : Hid (∀ y, Below wr.heap.size wr y → w13.heap.size ≤ y.heap.size ∧ ∃ sa sb : FS, Below w.heap.size w y ∧ IsS y p B n n sa ∧ IsS y px Bx n n sb ∧ CR t sa sb ∧ sa.st ≤ ((i + 1 : Nat) : Int)) := fun y hy => ⟨by have := hy.size; have := HZ.out; omega, sa, sbx, Below.andThen uy hy, Ta.out.next hy, Tb.out.next hy, C1.out, by have := HL.out; rw [Int.natCast_add]; omega⟩
      clear hrr hok2 C1 o Ta Tb HL
      generalize x.k % 9 = R at *
      go_wp2_with fail
      go_region
      go_wp2_with fail
      exact ⟨⟨i + 1, by omega, by go_num, DONE.out _ (by first | exact Below.drew (Below.al (Below.refl _ _) _) | exact Below.al (Below.drew (Below.refl _ _)) _ | exact Below.drew (Below.al (Below.drew (Below.refl _ _)) _))⟩, by simp [intOf]; omega⟩
#print axioms cutsG

theorem flashCuts_any (z : Int) (a1 : Option Addr) (n1 c1 : Nat) (t : Int) (w : World) (L : List Opv) (o : IsOps w a1 n1 L) (ht : t < 9223372036854775808) :
    Calls Try.prog 5 #[.int .i64 z, .slice a1 n1 c1, .int .i64 t] w fun e w' => e = .returned (.bool true) ∧ Below w.heap.size w w' := by
  cases h1 : largeB z n1 with
  | true => exact cutsL z a1 n1 c1 t w h1
  | false =>
    by_cases h2 : t < 0
    · exact cutsN z a1 n1 c1 t w h1 h2
    · by_cases hz : z < 1 ∨ 64 < z
      · exact cutsB z a1 n1 c1 t w h1 h2 hz
      · obtain ⟨n, rfl⟩ : ∃ n : Nat, z = n := ⟨z.toNat, by omega⟩
        exact cutsG n (by omega) (by omega) a1 n1 c1 t w L o (large_not h1) h1 (by omega) ht
#print axioms flashCuts_any
end Go.Proofs.Ytdohjolgcmokhaa
