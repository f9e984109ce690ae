/-
  FrameBack's walk: the first frame is not right, the text is a frame's.
-/
import Derived.Test.YtbjbnfhmehkkpaaBh
namespace Go.Proofs.Ytbjbnfhmehkkpaa
open Go.RowKit

set_option linter.unusedSimpArgs false in
set_option linter.unusedVariables false in
set_option maxHeartbeats 16000000 in
set_option maxRecDepth 100000 in
theorem back_C (i n d0 d1 d2 d3 d4 d5 d6 d7 : Int) (r : Bool) (j m e0 e1 e2 e3 e4 e5 e6 e7 : Int) (s : Bool) (k o g0 g1 g2 g3 g4 g5 g6 g7 : Int) (t : Bool) (S1 S2 S3 : ByteArray) (yi yn y0 y1 y2 y3 y4 y5 y6 y7 : Int) (yr : Bool) (w : World) (hs : ¬ (1000 : Int) < (S2.size : Int))
    (hW1 : ∀ w, Calls Try.prog 12 #[frV i n d0 d1 d2 d3 d4 d5 d6 d7 r] w fun e w' => e = .returned (.tuple #[.string S1, .int .i64 30]) ∧ Below w.heap.size w w')
    (hR1 : ∀ w, Calls Try.prog 19 #[.string S1] w fun e w' => e = .returned (.tuple #[frV 0 0 0 0 0 0 0 0 0 0 false, .int .i64 30]) ∧ Below w.heap.size w w')
    (hT1 : ∀ w, Calls Try.prog 15 #[frV i n d0 d1 d2 d3 d4 d5 d6 d7 r] w fun e w' => e = .returned (.bool false) ∧ Below w.heap.size w w')
    (hR2 : ∀ w, Calls Try.prog 19 #[.string S2] w fun e w' => e = .returned (.tuple #[frV yi yn y0 y1 y2 y3 y4 y5 y6 y7 yr, .int .i64 0]) ∧ Below w.heap.size w w')
    (hW2 : ∀ w, Calls Try.prog 12 #[frV yi yn y0 y1 y2 y3 y4 y5 y6 y7 yr] w fun e w' => e = .returned (.tuple #[.string S2, .int .i64 0]) ∧ Below w.heap.size w w')
    (hT2 : ∀ w, Calls Try.prog 15 #[frV yi yn y0 y1 y2 y3 y4 y5 y6 y7 yr] w fun e w' => e = .returned (.bool true) ∧ Below w.heap.size w w')
    (hff : befB i r i r = false)
    (hcase : befB i r j s = false ∨ (befB i r j s = true ∧ befB j s i r = false ∧ befB j s k t = false) ∨ (befB i r j s = true ∧ befB j s i r = false ∧ befB j s k t = true ∧ befB i r k t = true)) :
    Calls Try.prog 5 #[frV i n d0 d1 d2 d3 d4 d5 d6 d7 r, frV j m e0 e1 e2 e3 e4 e5 e6 e7 s, frV k o g0 g1 g2 g3 g4 g5 g6 g7 t, .string S2] w fun e w' => e = .returned (.bool true) ∧ Below w.heap.size w w' := by
  have hq := fun w => neqF w i n d0 d1 d2 d3 d4 d5 d6 d7 r i n d0 d1 d2 d3 d4 d5 d6 d7 r
  rw [sameF_self] at hq
  go_enter Try.func5, Try.ntmps5
  go_wp2_with fail
  refine (hW1 _).mono ?_
  rintro e w1 ⟨rfl, hb1⟩
  have h1 := hold3_next (boxed3 w i n d0 d1 d2 d3 d4 d5 d6 d7 r j m e0 e1 e2 e3 e4 e5 e6 e7 s k o g0 g1 g2 g3 g4 g5 g6 g7 t) hb1
  have H1 : Hid (_) := h1
  obtain ⟨B1, a0, a1, a2, a3, a4, a5, a6, a7, a8, a9, a10, b0, b1, b2, b3, b4, b5, b6, b7, b8, b9, b10, c0, c1, c2, c3, c4, c5, c6, c7, c8, c9, c10⟩ := h1
  clear hb1
  go_wp2_with fail
  refine (hR1 _).mono ?_
  rintro e w2 ⟨rfl, hb2⟩
  have h2 := hold3_next H1.out hb2
  clear a0 a1 a2 a3 a4 a5 a6 a7 a8 a9 a10 b0 b1 b2 b3 b4 b5 b6 b7 b8 b9 b10 c0 c1 c2 c3 c4 c5 c6 c7 c8 c9 c10 B1 H1 hb2
  have H2 : Hid (_) := h2
  obtain ⟨B2, a0, a1, a2, a3, a4, a5, a6, a7, a8, a9, a10, b0, b1, b2, b3, b4, b5, b6, b7, b8, b9, b10, c0, c1, c2, c3, c4, c5, c6, c7, c8, c9, c10⟩ := h2
  have L2c : w.heap.size + 1 + 1 < w2.heap.size := block_lt_of_cell c0
  have L2b : w.heap.size + 1 < w2.heap.size := block_lt_of_cell b0
  have L2a : w.heap.size < w2.heap.size := block_lt_of_cell a0
  go_wp2_with fail
  refine (hT1 _).mono ?_
  rintro e w3 ⟨rfl, hb3⟩
  have q3 := hold_next (boxed w2 0 0 0 0 0 0 0 0 0 0 false) hb3
  have h3 := hold3_next H2.out q3.1
  clear a0 a1 a2 a3 a4 a5 a6 a7 a8 a9 a10 b0 b1 b2 b3 b4 b5 b6 b7 b8 b9 b10 c0 c1 c2 c3 c4 c5 c6 c7 c8 c9 c10 B2 H2 hb3
  have H3 : Hid (_) := h3
  obtain ⟨B3, a0, a1, a2, a3, a4, a5, a6, a7, a8, a9, a10, b0, b1, b2, b3, b4, b5, b6, b7, b8, b9, b10, c0, c1, c2, c3, c4, c5, c6, c7, c8, c9, c10⟩ := h3
  obtain ⟨_, q0, q1, q2, q4, q5, q6, q7, q8, q9, q10, q11⟩ := q3
  go_wp2_with fail
  refine (hR2 _).mono ?_
  rintro e w4 ⟨rfl, hb4⟩
  have h4 := hold3_next H3.out hb4
  have L4 : w2.heap.size < w4.heap.size := Nat.lt_of_lt_of_le (block_lt_of_cell q0) hb4.size
  clear a0 a1 a2 a3 a4 a5 a6 a7 a8 a9 a10 b0 b1 b2 b3 b4 b5 b6 b7 b8 b9 b10 c0 c1 c2 c3 c4 c5 c6 c7 c8 c9 c10 B3 H3 hb4
  clear q0 q1 q2 q4 q5 q6 q7 q8 q9 q10 q11
  have H4 : Hid (_) := h4
  have L4c : w.heap.size + 1 + 1 < w4.heap.size := by omega
  have L4b : w.heap.size + 1 < w4.heap.size := by omega
  have L4a : w.heap.size < w4.heap.size := by omega
  go_wp2_with fail
  refine (hW2 _).mono ?_
  rintro e w5 ⟨rfl, hb5⟩
  have q5 := hold_next (boxed w4 yi yn y0 y1 y2 y3 y4 y5 y6 y7 yr) hb5
  have h5 := hold3_next H4.out q5.1
  clear H4 hb5 h4
  have H5 : Hid (_) := h5
  obtain ⟨_, q0, q1, q2, q3, q4, q6, q7, q8, q9, q10, q11⟩ := q5
  go_wp2_with fail
  refine (hT2 _).mono ?_
  rintro e w6 ⟨rfl, hb6⟩
  have h6 := hold3_next H5.out hb6
  clear H5 hb6
  go_wp2_with fail
  clear q0 q1 q2 q3 q4 q6 q7 q8 q9 q10 q11 h5
  obtain ⟨B6, a0, a1, a2, a3, a4, a5, a6, a7, a8, a9, a10, b0, b1, b2, b3, b4, b5, b6, b7, b8, b9, b10, c0, c1, c2, c3, c4, c5, c6, c7, c8, c9, c10⟩ := h6
  go_wp2_with fail
  have crg := fun w => refBefore_any i n d0 d1 d2 d3 d4 d5 d6 d7 r j m e0 e1 e2 e3 e4 e5 e6 e7 s w
  have cfg := fun w => before_any i n d0 d1 d2 d3 d4 d5 d6 d7 r j m e0 e1 e2 e3 e4 e5 e6 e7 s w
  have cff := fun w => before_any i n d0 d1 d2 d3 d4 d5 d6 d7 r i n d0 d1 d2 d3 d4 d5 d6 d7 r w
  have cgf := fun w => before_any j m e0 e1 e2 e3 e4 e5 e6 e7 s i n d0 d1 d2 d3 d4 d5 d6 d7 r w
  have cgh := fun w => before_any j m e0 e1 e2 e3 e4 e5 e6 e7 s k o g0 g1 g2 g3 g4 g5 g6 g7 t w
  have cfh := fun w => before_any i n d0 d1 d2 d3 d4 d5 d6 d7 r k o g0 g1 g2 g3 g4 g5 g6 g7 t w
  rw [hff] at cff
  rcases hcase with hfg | ⟨hfg, hgf, hgh⟩ | ⟨hfg, hgf, hgh, hfh⟩
  · rw [hfg] at cfg crg
    refine wp_region_held_drew (S := fun x => Below w.heap.size w x ∧ x.cell? ⟨w.heap.size, 0, none⟩ = some (.int .u16 i) ∧ x.cell? ⟨w.heap.size, 1, none⟩ = some (.int .i64 n) ∧ x.cell? ⟨w.heap.size, 2, none⟩ = some (.int .u8 d0) ∧ x.cell? ⟨w.heap.size, 3, none⟩ = some (.int .u8 d1) ∧ x.cell? ⟨w.heap.size, 4, none⟩ = some (.int .u8 d2) ∧ x.cell? ⟨w.heap.size, 5, none⟩ = some (.int .u8 d3) ∧ x.cell? ⟨w.heap.size, 6, none⟩ = some (.int .u8 d4) ∧ x.cell? ⟨w.heap.size, 7, none⟩ = some (.int .u8 d5) ∧ x.cell? ⟨w.heap.size, 8, none⟩ = some (.int .u8 d6) ∧ x.cell? ⟨w.heap.size, 9, none⟩ = some (.int .u8 d7) ∧ x.cell? ⟨w.heap.size, 10, none⟩ = some (.bool r) ∧ x.cell? ⟨w.heap.size + 1, 0, none⟩ = some (.int .u16 j) ∧ x.cell? ⟨w.heap.size + 1, 1, none⟩ = some (.int .i64 m) ∧ x.cell? ⟨w.heap.size + 1, 2, none⟩ = some (.int .u8 e0) ∧ x.cell? ⟨w.heap.size + 1, 3, none⟩ = some (.int .u8 e1) ∧ x.cell? ⟨w.heap.size + 1, 4, none⟩ = some (.int .u8 e2) ∧ x.cell? ⟨w.heap.size + 1, 5, none⟩ = some (.int .u8 e3) ∧ x.cell? ⟨w.heap.size + 1, 6, none⟩ = some (.int .u8 e4) ∧ x.cell? ⟨w.heap.size + 1, 7, none⟩ = some (.int .u8 e5) ∧ x.cell? ⟨w.heap.size + 1, 8, none⟩ = some (.int .u8 e6) ∧ x.cell? ⟨w.heap.size + 1, 9, none⟩ = some (.int .u8 e7) ∧ x.cell? ⟨w.heap.size + 1, 10, none⟩ = some (.bool s) ∧ x.cell? ⟨w.heap.size + 1 + 1, 0, none⟩ = some (.int .u16 k) ∧ x.cell? ⟨w.heap.size + 1 + 1, 1, none⟩ = some (.int .i64 o) ∧ x.cell? ⟨w.heap.size + 1 + 1, 2, none⟩ = some (.int .u8 g0) ∧ x.cell? ⟨w.heap.size + 1 + 1, 3, none⟩ = some (.int .u8 g1) ∧ x.cell? ⟨w.heap.size + 1 + 1, 4, none⟩ = some (.int .u8 g2) ∧ x.cell? ⟨w.heap.size + 1 + 1, 5, none⟩ = some (.int .u8 g3) ∧ x.cell? ⟨w.heap.size + 1 + 1, 6, none⟩ = some (.int .u8 g4) ∧ x.cell? ⟨w.heap.size + 1 + 1, 7, none⟩ = some (.int .u8 g5) ∧ x.cell? ⟨w.heap.size + 1 + 1, 8, none⟩ = some (.int .u8 g6) ∧ x.cell? ⟨w.heap.size + 1 + 1, 9, none⟩ = some (.int .u8 g7) ∧ x.cell? ⟨w.heap.size + 1 + 1, 10, none⟩ = some (.bool t)) (by kernel_rfl) ⟨Below.drew B6, a0, a1, a2, a3, a4, a5, a6, a7, a8, a9, a10, b0, b1, b2, b3, b4, b5, b6, b7, b8, b9, b10, c0, c1, c2, c3, c4, c5, c6, c7, c8, c9, c10⟩ (fun hHeld => ?_)
    refine wpAnyH_take (i := 0) (v := (frV i n d0 d1 d2 d3 d4 d5 d6 d7 r)) rfl (by kernel_rfl) (by kernel_rfl) (by kernel_rfl) (fun _ _ _ h => h) (Or.inl ⟨by rfl, ?_⟩) (by assumption) ?_
    · intro w9 hSw
      try dsimp only at hSw
      go_simp
    try simp only [Act.put, List.setIfInBounds_toArray, List.set_cons_zero, List.set_cons_succ]
    refine wpAnyH_take (i := 1) (v := (frV j m e0 e1 e2 e3 e4 e5 e6 e7 s)) rfl (by kernel_rfl) (by kernel_rfl) (by kernel_rfl) (fun _ _ _ h => h) (Or.inl ⟨by rfl, ?_⟩) (by assumption) ?_
    · intro w9 hSw
      try dsimp only at hSw
      go_simp
    try simp only [Act.put, List.setIfInBounds_toArray, List.set_cons_zero, List.set_cons_succ]
    refine wpAnyH_take (i := 3) (v := (frV i n d0 d1 d2 d3 d4 d5 d6 d7 r)) rfl (by kernel_rfl) (by kernel_rfl) (by kernel_rfl) (fun _ _ _ h => h) (Or.inl ⟨by rfl, ?_⟩) (by assumption) ?_
    · intro w9 hSw
      try dsimp only at hSw
      go_simp
    try simp only [Act.put, List.setIfInBounds_toArray, List.set_cons_zero, List.set_cons_succ]
    refine wpAnyH_take (i := 4) (v := (frV j m e0 e1 e2 e3 e4 e5 e6 e7 s)) rfl (by kernel_rfl) (by kernel_rfl) (by kernel_rfl) (fun _ _ _ h => h) (Or.inl ⟨by rfl, ?_⟩) (by assumption) ?_
    · intro w9 hSw
      try dsimp only at hSw
      go_simp
    try simp only [Act.put, List.setIfInBounds_toArray, List.set_cons_zero, List.set_cons_succ]
    refine wpAnyH_ready (rs := [2]) (by kernel_rfl) (by simp) ?_
    refine AllReadyH.cons rfl (fun K' hK => ?_) AllReadyH.nil
    go_simp
    refine (cfg _).mono ?_
    rintro e x ⟨rfl, hbx⟩
    try go_wp2_with fail
    refine hK.out _ _ (hold3_next (by assumption) hbx) (fun hHeld => ?_)
    clear hK K'
    try simp only [Act.put, List.setIfInBounds_toArray, List.set_cons_zero, List.set_cons_succ]
    refine wpAnyH_ready (rs := [5]) (by kernel_rfl) (by simp) ?_
    refine AllReadyH.cons rfl (fun K' hK => ?_) AllReadyH.nil
    go_simp
    refine (crg _).mono ?_
    rintro e x ⟨rfl, hbx⟩
    try go_wp2_with fail
    refine hK.out _ _ (hold3_next (by assumption) hbx) (fun hHeld => ?_)
    clear hK K'
    try simp only [Act.put, List.setIfInBounds_toArray, List.set_cons_zero, List.set_cons_succ]
    refine wpAnyH_take (i := 6) (v := (.bool false)) rfl (by kernel_rfl) (by kernel_rfl) (by kernel_rfl) (fun _ _ _ h => h) (Or.inl ⟨by rfl, ?_⟩) (by assumption) ?_
    · intro w9 hSw
      try dsimp only at hSw
      go_simp
    try simp only [Act.put, List.setIfInBounds_toArray, List.set_cons_zero, List.set_cons_succ]
    refine wpAnyH_take (i := 7) (v := (.bool false)) rfl (by kernel_rfl) (by kernel_rfl) (by kernel_rfl) (fun _ _ _ h => h) (Or.inl ⟨by rfl, ?_⟩) (by assumption) ?_
    · intro w9 hSw
      try dsimp only at hSw
      go_simp
    try simp only [Act.put, List.setIfInBounds_toArray, List.set_cons_zero, List.set_cons_succ]
    refine wpAnyH_take (i := 8) (v := (frV i n d0 d1 d2 d3 d4 d5 d6 d7 r)) rfl (by kernel_rfl) (by kernel_rfl) (by kernel_rfl) (fun _ _ _ h => h) (Or.inl ⟨by rfl, ?_⟩) (by assumption) ?_
    · intro w9 hSw
      try dsimp only at hSw
      go_simp
    try simp only [Act.put, List.setIfInBounds_toArray, List.set_cons_zero, List.set_cons_succ]
    refine wpAnyH_take (i := 9) (v := (frV i n d0 d1 d2 d3 d4 d5 d6 d7 r)) rfl (by kernel_rfl) (by kernel_rfl) (by kernel_rfl) (fun _ _ _ h => h) (Or.inl ⟨by rfl, ?_⟩) (by assumption) ?_
    · intro w9 hSw
      try dsimp only at hSw
      go_simp
    try simp only [Act.put, List.setIfInBounds_toArray, List.set_cons_zero, List.set_cons_succ]
    refine wpAnyH_ready (rs := [10]) (by kernel_rfl) (by simp) ?_
    refine AllReadyH.cons rfl (fun K' hK => ?_) AllReadyH.nil
    go_simp
    refine (cff _).mono ?_
    rintro e x ⟨rfl, hbx⟩
    try go_wp2_with fail
    refine hK.out _ _ (hold3_next (by assumption) hbx) (fun hHeld => ?_)
    clear hK K'
    try simp only [Act.put, List.setIfInBounds_toArray, List.set_cons_zero, List.set_cons_succ]
    refine wpAnyH_take (i := 11) (v := (.bool false)) rfl (by kernel_rfl) (by kernel_rfl) (by kernel_rfl) (fun _ _ _ h => h) (Or.inl ⟨by rfl, ?_⟩) (by assumption) ?_
    · intro w9 hSw
      try dsimp only at hSw
      go_simp
    try simp only [Act.put, List.setIfInBounds_toArray, List.set_cons_zero, List.set_cons_succ]
    refine wpAnyH_take (i := 12) (v := (.bool false)) rfl (by kernel_rfl) (by kernel_rfl) (by kernel_rfl) (fun _ _ _ h => h) (Or.inl ⟨by rfl, ?_⟩) (by assumption) ?_
    · intro w9 hSw
      try dsimp only at hSw
      go_simp
    try simp only [Act.put, List.setIfInBounds_toArray, List.set_cons_zero, List.set_cons_succ]
    refine wpAnyH_take (i := 13) (v := (frV i n d0 d1 d2 d3 d4 d5 d6 d7 r)) rfl (by kernel_rfl) (by kernel_rfl) (by kernel_rfl) (fun _ _ _ h => h) (Or.inl ⟨by rfl, ?_⟩) (by assumption) ?_
    · intro w9 hSw
      try dsimp only at hSw
      go_simp
    try simp only [Act.put, List.setIfInBounds_toArray, List.set_cons_zero, List.set_cons_succ]
    refine wpAnyH_take (i := 14) (v := (frV j m e0 e1 e2 e3 e4 e5 e6 e7 s)) rfl (by kernel_rfl) (by kernel_rfl) (by kernel_rfl) (fun _ _ _ h => h) (Or.inl ⟨by rfl, ?_⟩) (by assumption) ?_
    · intro w9 hSw
      try dsimp only at hSw
      go_simp
    try simp only [Act.put, List.setIfInBounds_toArray, List.set_cons_zero, List.set_cons_succ]
    refine wpAnyH_ready (rs := [15]) (by kernel_rfl) (by simp) ?_
    refine AllReadyH.cons rfl (fun K' hK => ?_) AllReadyH.nil
    go_simp
    refine (cfg _).mono ?_
    rintro e x ⟨rfl, hbx⟩
    try go_wp2_with fail
    refine hK.out _ _ (hold3_next (by assumption) hbx) (fun hHeld => ?_)
    clear hK K'
    try simp only [Act.put, List.setIfInBounds_toArray, List.set_cons_zero, List.set_cons_succ]
    refine wpAnyH_take (i := 16) (v := (.bool false)) rfl (by kernel_rfl) (by kernel_rfl) (by kernel_rfl) (fun _ _ _ h => h) (Or.inl ⟨by rfl, ?_⟩) (by assumption) ?_
    · intro w9 hSw
      try dsimp only at hSw
      go_simp
    try simp only [Act.put, List.setIfInBounds_toArray, List.set_cons_zero, List.set_cons_succ]
    refine wpAnyH_take (i := 17) (v := undef) rfl (by kernel_rfl) (by kernel_rfl) (by kernel_rfl) (fun _ _ _ h => h) (Or.inr ⟨by rfl, rfl⟩) (by assumption) ?_
    try simp only [Act.put, List.setIfInBounds_toArray, List.set_cons_zero, List.set_cons_succ]
    refine wpAnyH_take (i := 18) (v := undef) rfl (by kernel_rfl) (by kernel_rfl) (by kernel_rfl) (fun _ _ _ h => h) (Or.inr ⟨by rfl, rfl⟩) (by assumption) ?_
    try simp only [Act.put, List.setIfInBounds_toArray, List.set_cons_zero, List.set_cons_succ]
    refine wpAnyH_ready (rs := [19]) (by kernel_rfl) (by simp) ?_
    refine AllReadyH.cons rfl (fun K' hK => ?_) AllReadyH.nil
    go_simp
    refine hK.out _ _ (by assumption) (fun hHeld => ?_)
    clear hK K'
    try simp only [Act.put, List.setIfInBounds_toArray, List.set_cons_zero, List.set_cons_succ]
    refine wpAnyH_take (i := 20) (v := (.bool false)) rfl (by kernel_rfl) (by kernel_rfl) (by kernel_rfl) (fun _ _ _ h => h) (Or.inl ⟨by rfl, ?_⟩) (by assumption) ?_
    · intro w9 hSw
      try dsimp only at hSw
      go_simp
    try simp only [Act.put, List.setIfInBounds_toArray, List.set_cons_zero, List.set_cons_succ]
    refine wpAnyH_take (i := 21) (v := (.bool false)) rfl (by kernel_rfl) (by kernel_rfl) (by kernel_rfl) (fun _ _ _ h => h) (Or.inl ⟨by rfl, ?_⟩) (by assumption) ?_
    · intro w9 hSw
      try dsimp only at hSw
      go_simp
    try simp only [Act.put, List.setIfInBounds_toArray, List.set_cons_zero, List.set_cons_succ]
    refine wpAnyH_take (i := 22) (v := (.bool false)) rfl (by kernel_rfl) (by kernel_rfl) (by kernel_rfl) (fun _ _ _ h => h) (Or.inl ⟨by rfl, ?_⟩) (by assumption) ?_
    · intro w9 hSw
      try dsimp only at hSw
      go_simp
    try simp only [Act.put, List.setIfInBounds_toArray, List.set_cons_zero, List.set_cons_succ]
    refine wpAnyH_take (i := 23) (v := (frV i n d0 d1 d2 d3 d4 d5 d6 d7 r)) rfl (by kernel_rfl) (by kernel_rfl) (by kernel_rfl) (fun _ _ _ h => h) (Or.inl ⟨by rfl, ?_⟩) (by assumption) ?_
    · intro w9 hSw
      try dsimp only at hSw
      go_simp
    try simp only [Act.put, List.setIfInBounds_toArray, List.set_cons_zero, List.set_cons_succ]
    refine wpAnyH_take (i := 24) (v := (frV j m e0 e1 e2 e3 e4 e5 e6 e7 s)) rfl (by kernel_rfl) (by kernel_rfl) (by kernel_rfl) (fun _ _ _ h => h) (Or.inl ⟨by rfl, ?_⟩) (by assumption) ?_
    · intro w9 hSw
      try dsimp only at hSw
      go_simp
    try simp only [Act.put, List.setIfInBounds_toArray, List.set_cons_zero, List.set_cons_succ]
    refine wpAnyH_ready (rs := [25]) (by kernel_rfl) (by simp) ?_
    refine AllReadyH.cons rfl (fun K' hK => ?_) AllReadyH.nil
    go_simp
    refine (cfg _).mono ?_
    rintro e x ⟨rfl, hbx⟩
    try go_wp2_with fail
    refine hK.out _ _ (hold3_next (by assumption) hbx) (fun hHeld => ?_)
    clear hK K'
    try simp only [Act.put, List.setIfInBounds_toArray, List.set_cons_zero, List.set_cons_succ]
    refine wpAnyH_take (i := 26) (v := (.bool false)) rfl (by kernel_rfl) (by kernel_rfl) (by kernel_rfl) (fun _ _ _ h => h) (Or.inl ⟨by rfl, ?_⟩) (by assumption) ?_
    · intro w9 hSw
      try dsimp only at hSw
      go_simp
    try simp only [Act.put, List.setIfInBounds_toArray, List.set_cons_zero, List.set_cons_succ]
    refine wpAnyH_take (i := 27) (v := undef) rfl (by kernel_rfl) (by kernel_rfl) (by kernel_rfl) (fun _ _ _ h => h) (Or.inr ⟨by rfl, rfl⟩) (by assumption) ?_
    try simp only [Act.put, List.setIfInBounds_toArray, List.set_cons_zero, List.set_cons_succ]
    refine wpAnyH_take (i := 28) (v := undef) rfl (by kernel_rfl) (by kernel_rfl) (by kernel_rfl) (fun _ _ _ h => h) (Or.inr ⟨by rfl, rfl⟩) (by assumption) ?_
    try simp only [Act.put, List.setIfInBounds_toArray, List.set_cons_zero, List.set_cons_succ]
    refine wpAnyH_ready (rs := [29]) (by kernel_rfl) (by simp) ?_
    refine AllReadyH.cons rfl (fun K' hK => ?_) AllReadyH.nil
    go_simp
    refine hK.out _ _ (by assumption) (fun hHeld => ?_)
    clear hK K'
    try simp only [Act.put, List.setIfInBounds_toArray, List.set_cons_zero, List.set_cons_succ]
    refine wpAnyH_take (i := 30) (v := (.bool false)) rfl (by kernel_rfl) (by kernel_rfl) (by kernel_rfl) (fun _ _ _ h => h) (Or.inl ⟨by rfl, ?_⟩) (by assumption) ?_
    · intro w9 hSw
      try dsimp only at hSw
      go_simp
    try simp only [Act.put, List.setIfInBounds_toArray, List.set_cons_zero, List.set_cons_succ]
    refine wpAnyH_take (i := 31) (v := (.bool false)) rfl (by kernel_rfl) (by kernel_rfl) (by kernel_rfl) (fun _ _ _ h => h) (Or.inl ⟨by rfl, ?_⟩) (by assumption) ?_
    · intro w9 hSw
      try dsimp only at hSw
      go_simp
    try simp only [Act.put, List.setIfInBounds_toArray, List.set_cons_zero, List.set_cons_succ]
    refine wpAnyH_take (i := 32) (v := undef) rfl (by kernel_rfl) (by kernel_rfl) (by kernel_rfl) (fun _ _ _ h => h) (Or.inr ⟨by rfl, rfl⟩) (by assumption) ?_
    try simp only [Act.put, List.setIfInBounds_toArray, List.set_cons_zero, List.set_cons_succ]
    refine wpAnyH_take (i := 33) (v := undef) rfl (by kernel_rfl) (by kernel_rfl) (by kernel_rfl) (fun _ _ _ h => h) (Or.inr ⟨by rfl, rfl⟩) (by assumption) ?_
    try simp only [Act.put, List.setIfInBounds_toArray, List.set_cons_zero, List.set_cons_succ]
    refine wpAnyH_ready (rs := [34]) (by kernel_rfl) (by simp) ?_
    refine AllReadyH.cons rfl (fun K' hK => ?_) AllReadyH.nil
    go_simp
    refine hK.out _ _ (by assumption) (fun hHeld => ?_)
    clear hK K'
    try simp only [Act.put, List.setIfInBounds_toArray, List.set_cons_zero, List.set_cons_succ]
    refine wpAnyH_take (i := 35) (v := undef) rfl (by kernel_rfl) (by kernel_rfl) (by kernel_rfl) (fun _ _ _ h => h) (Or.inr ⟨by rfl, rfl⟩) (by assumption) ?_
    try simp only [Act.put, List.setIfInBounds_toArray, List.set_cons_zero, List.set_cons_succ]
    refine wpAnyH_take (i := 36) (v := (.bool false)) rfl (by kernel_rfl) (by kernel_rfl) (by kernel_rfl) (fun _ _ _ h => h) (Or.inl ⟨by rfl, ?_⟩) (by assumption) ?_
    · intro w9 hSw
      try dsimp only at hSw
      go_simp
    try simp only [Act.put, List.setIfInBounds_toArray, List.set_cons_zero, List.set_cons_succ]
    refine wpAnyH_take (i := 37) (v := (.bool false)) rfl (by kernel_rfl) (by kernel_rfl) (by kernel_rfl) (fun _ _ _ h => h) (Or.inl ⟨by rfl, ?_⟩) (by assumption) ?_
    · intro w9 hSw
      try dsimp only at hSw
      go_simp
    try simp only [Act.put, List.setIfInBounds_toArray, List.set_cons_zero, List.set_cons_succ]
    refine wpAnyH_done (by kernel_rfl) ?_ _
    have hfin := And.left hHeld
    go_wp2_with fail
    refine (works_any _).mono ?_
    rintro e w9 ⟨rfl, hb9⟩
    go_wp2_with fail
    go_ret
    exact ⟨rfl, Below.andThen hfin hb9⟩
  · rw [hfg] at cfg crg
    rw [hgf] at cgf
    rw [hgh] at cgh
    refine wp_region_held_drew (S := fun x => Below w.heap.size w x ∧ x.cell? ⟨w.heap.size, 0, none⟩ = some (.int .u16 i) ∧ x.cell? ⟨w.heap.size, 1, none⟩ = some (.int .i64 n) ∧ x.cell? ⟨w.heap.size, 2, none⟩ = some (.int .u8 d0) ∧ x.cell? ⟨w.heap.size, 3, none⟩ = some (.int .u8 d1) ∧ x.cell? ⟨w.heap.size, 4, none⟩ = some (.int .u8 d2) ∧ x.cell? ⟨w.heap.size, 5, none⟩ = some (.int .u8 d3) ∧ x.cell? ⟨w.heap.size, 6, none⟩ = some (.int .u8 d4) ∧ x.cell? ⟨w.heap.size, 7, none⟩ = some (.int .u8 d5) ∧ x.cell? ⟨w.heap.size, 8, none⟩ = some (.int .u8 d6) ∧ x.cell? ⟨w.heap.size, 9, none⟩ = some (.int .u8 d7) ∧ x.cell? ⟨w.heap.size, 10, none⟩ = some (.bool r) ∧ x.cell? ⟨w.heap.size + 1, 0, none⟩ = some (.int .u16 j) ∧ x.cell? ⟨w.heap.size + 1, 1, none⟩ = some (.int .i64 m) ∧ x.cell? ⟨w.heap.size + 1, 2, none⟩ = some (.int .u8 e0) ∧ x.cell? ⟨w.heap.size + 1, 3, none⟩ = some (.int .u8 e1) ∧ x.cell? ⟨w.heap.size + 1, 4, none⟩ = some (.int .u8 e2) ∧ x.cell? ⟨w.heap.size + 1, 5, none⟩ = some (.int .u8 e3) ∧ x.cell? ⟨w.heap.size + 1, 6, none⟩ = some (.int .u8 e4) ∧ x.cell? ⟨w.heap.size + 1, 7, none⟩ = some (.int .u8 e5) ∧ x.cell? ⟨w.heap.size + 1, 8, none⟩ = some (.int .u8 e6) ∧ x.cell? ⟨w.heap.size + 1, 9, none⟩ = some (.int .u8 e7) ∧ x.cell? ⟨w.heap.size + 1, 10, none⟩ = some (.bool s) ∧ x.cell? ⟨w.heap.size + 1 + 1, 0, none⟩ = some (.int .u16 k) ∧ x.cell? ⟨w.heap.size + 1 + 1, 1, none⟩ = some (.int .i64 o) ∧ x.cell? ⟨w.heap.size + 1 + 1, 2, none⟩ = some (.int .u8 g0) ∧ x.cell? ⟨w.heap.size + 1 + 1, 3, none⟩ = some (.int .u8 g1) ∧ x.cell? ⟨w.heap.size + 1 + 1, 4, none⟩ = some (.int .u8 g2) ∧ x.cell? ⟨w.heap.size + 1 + 1, 5, none⟩ = some (.int .u8 g3) ∧ x.cell? ⟨w.heap.size + 1 + 1, 6, none⟩ = some (.int .u8 g4) ∧ x.cell? ⟨w.heap.size + 1 + 1, 7, none⟩ = some (.int .u8 g5) ∧ x.cell? ⟨w.heap.size + 1 + 1, 8, none⟩ = some (.int .u8 g6) ∧ x.cell? ⟨w.heap.size + 1 + 1, 9, none⟩ = some (.int .u8 g7) ∧ x.cell? ⟨w.heap.size + 1 + 1, 10, none⟩ = some (.bool t)) (by kernel_rfl) ⟨Below.drew B6, a0, a1, a2, a3, a4, a5, a6, a7, a8, a9, a10, b0, b1, b2, b3, b4, b5, b6, b7, b8, b9, b10, c0, c1, c2, c3, c4, c5, c6, c7, c8, c9, c10⟩ (fun hHeld => ?_)
    refine wpAnyH_take (i := 0) (v := (frV i n d0 d1 d2 d3 d4 d5 d6 d7 r)) rfl (by kernel_rfl) (by kernel_rfl) (by kernel_rfl) (fun _ _ _ h => h) (Or.inl ⟨by rfl, ?_⟩) (by assumption) ?_
    · intro w9 hSw
      try dsimp only at hSw
      go_simp
    try simp only [Act.put, List.setIfInBounds_toArray, List.set_cons_zero, List.set_cons_succ]
    refine wpAnyH_take (i := 1) (v := (frV j m e0 e1 e2 e3 e4 e5 e6 e7 s)) rfl (by kernel_rfl) (by kernel_rfl) (by kernel_rfl) (fun _ _ _ h => h) (Or.inl ⟨by rfl, ?_⟩) (by assumption) ?_
    · intro w9 hSw
      try dsimp only at hSw
      go_simp
    try simp only [Act.put, List.setIfInBounds_toArray, List.set_cons_zero, List.set_cons_succ]
    refine wpAnyH_take (i := 3) (v := (frV i n d0 d1 d2 d3 d4 d5 d6 d7 r)) rfl (by kernel_rfl) (by kernel_rfl) (by kernel_rfl) (fun _ _ _ h => h) (Or.inl ⟨by rfl, ?_⟩) (by assumption) ?_
    · intro w9 hSw
      try dsimp only at hSw
      go_simp
    try simp only [Act.put, List.setIfInBounds_toArray, List.set_cons_zero, List.set_cons_succ]
    refine wpAnyH_take (i := 4) (v := (frV j m e0 e1 e2 e3 e4 e5 e6 e7 s)) rfl (by kernel_rfl) (by kernel_rfl) (by kernel_rfl) (fun _ _ _ h => h) (Or.inl ⟨by rfl, ?_⟩) (by assumption) ?_
    · intro w9 hSw
      try dsimp only at hSw
      go_simp
    try simp only [Act.put, List.setIfInBounds_toArray, List.set_cons_zero, List.set_cons_succ]
    refine wpAnyH_ready (rs := [2]) (by kernel_rfl) (by simp) ?_
    refine AllReadyH.cons rfl (fun K' hK => ?_) AllReadyH.nil
    go_simp
    refine (cfg _).mono ?_
    rintro e x ⟨rfl, hbx⟩
    try go_wp2_with fail
    refine hK.out _ _ (hold3_next (by assumption) hbx) (fun hHeld => ?_)
    clear hK K'
    try simp only [Act.put, List.setIfInBounds_toArray, List.set_cons_zero, List.set_cons_succ]
    refine wpAnyH_ready (rs := [5]) (by kernel_rfl) (by simp) ?_
    refine AllReadyH.cons rfl (fun K' hK => ?_) AllReadyH.nil
    go_simp
    refine (crg _).mono ?_
    rintro e x ⟨rfl, hbx⟩
    try go_wp2_with fail
    refine hK.out _ _ (hold3_next (by assumption) hbx) (fun hHeld => ?_)
    clear hK K'
    try simp only [Act.put, List.setIfInBounds_toArray, List.set_cons_zero, List.set_cons_succ]
    refine wpAnyH_take (i := 6) (v := (.bool false)) rfl (by kernel_rfl) (by kernel_rfl) (by kernel_rfl) (fun _ _ _ h => h) (Or.inl ⟨by rfl, ?_⟩) (by assumption) ?_
    · intro w9 hSw
      try dsimp only at hSw
      go_simp
    try simp only [Act.put, List.setIfInBounds_toArray, List.set_cons_zero, List.set_cons_succ]
    refine wpAnyH_take (i := 7) (v := (.bool false)) rfl (by kernel_rfl) (by kernel_rfl) (by kernel_rfl) (fun _ _ _ h => h) (Or.inl ⟨by rfl, ?_⟩) (by assumption) ?_
    · intro w9 hSw
      try dsimp only at hSw
      go_simp
    try simp only [Act.put, List.setIfInBounds_toArray, List.set_cons_zero, List.set_cons_succ]
    refine wpAnyH_take (i := 8) (v := (frV i n d0 d1 d2 d3 d4 d5 d6 d7 r)) rfl (by kernel_rfl) (by kernel_rfl) (by kernel_rfl) (fun _ _ _ h => h) (Or.inl ⟨by rfl, ?_⟩) (by assumption) ?_
    · intro w9 hSw
      try dsimp only at hSw
      go_simp
    try simp only [Act.put, List.setIfInBounds_toArray, List.set_cons_zero, List.set_cons_succ]
    refine wpAnyH_take (i := 9) (v := (frV i n d0 d1 d2 d3 d4 d5 d6 d7 r)) rfl (by kernel_rfl) (by kernel_rfl) (by kernel_rfl) (fun _ _ _ h => h) (Or.inl ⟨by rfl, ?_⟩) (by assumption) ?_
    · intro w9 hSw
      try dsimp only at hSw
      go_simp
    try simp only [Act.put, List.setIfInBounds_toArray, List.set_cons_zero, List.set_cons_succ]
    refine wpAnyH_ready (rs := [10]) (by kernel_rfl) (by simp) ?_
    refine AllReadyH.cons rfl (fun K' hK => ?_) AllReadyH.nil
    go_simp
    refine (cff _).mono ?_
    rintro e x ⟨rfl, hbx⟩
    try go_wp2_with fail
    refine hK.out _ _ (hold3_next (by assumption) hbx) (fun hHeld => ?_)
    clear hK K'
    try simp only [Act.put, List.setIfInBounds_toArray, List.set_cons_zero, List.set_cons_succ]
    refine wpAnyH_take (i := 11) (v := (.bool false)) rfl (by kernel_rfl) (by kernel_rfl) (by kernel_rfl) (fun _ _ _ h => h) (Or.inl ⟨by rfl, ?_⟩) (by assumption) ?_
    · intro w9 hSw
      try dsimp only at hSw
      go_simp
    try simp only [Act.put, List.setIfInBounds_toArray, List.set_cons_zero, List.set_cons_succ]
    refine wpAnyH_take (i := 12) (v := (.bool false)) rfl (by kernel_rfl) (by kernel_rfl) (by kernel_rfl) (fun _ _ _ h => h) (Or.inl ⟨by rfl, ?_⟩) (by assumption) ?_
    · intro w9 hSw
      try dsimp only at hSw
      go_simp
    try simp only [Act.put, List.setIfInBounds_toArray, List.set_cons_zero, List.set_cons_succ]
    refine wpAnyH_take (i := 13) (v := (frV i n d0 d1 d2 d3 d4 d5 d6 d7 r)) rfl (by kernel_rfl) (by kernel_rfl) (by kernel_rfl) (fun _ _ _ h => h) (Or.inl ⟨by rfl, ?_⟩) (by assumption) ?_
    · intro w9 hSw
      try dsimp only at hSw
      go_simp
    try simp only [Act.put, List.setIfInBounds_toArray, List.set_cons_zero, List.set_cons_succ]
    refine wpAnyH_take (i := 14) (v := (frV j m e0 e1 e2 e3 e4 e5 e6 e7 s)) rfl (by kernel_rfl) (by kernel_rfl) (by kernel_rfl) (fun _ _ _ h => h) (Or.inl ⟨by rfl, ?_⟩) (by assumption) ?_
    · intro w9 hSw
      try dsimp only at hSw
      go_simp
    try simp only [Act.put, List.setIfInBounds_toArray, List.set_cons_zero, List.set_cons_succ]
    refine wpAnyH_ready (rs := [15]) (by kernel_rfl) (by simp) ?_
    refine AllReadyH.cons rfl (fun K' hK => ?_) AllReadyH.nil
    go_simp
    refine (cfg _).mono ?_
    rintro e x ⟨rfl, hbx⟩
    try go_wp2_with fail
    refine hK.out _ _ (hold3_next (by assumption) hbx) (fun hHeld => ?_)
    clear hK K'
    try simp only [Act.put, List.setIfInBounds_toArray, List.set_cons_zero, List.set_cons_succ]
    refine wpAnyH_take (i := 16) (v := (.bool true)) rfl (by kernel_rfl) (by kernel_rfl) (by kernel_rfl) (fun _ _ _ h => h) (Or.inl ⟨by rfl, ?_⟩) (by assumption) ?_
    · intro w9 hSw
      try dsimp only at hSw
      go_simp
    try simp only [Act.put, List.setIfInBounds_toArray, List.set_cons_zero, List.set_cons_succ]
    refine wpAnyH_take (i := 17) (v := (frV j m e0 e1 e2 e3 e4 e5 e6 e7 s)) rfl (by kernel_rfl) (by kernel_rfl) (by kernel_rfl) (fun _ _ _ h => h) (Or.inl ⟨by rfl, ?_⟩) (by assumption) ?_
    · intro w9 hSw
      try dsimp only at hSw
      go_simp
    try simp only [Act.put, List.setIfInBounds_toArray, List.set_cons_zero, List.set_cons_succ]
    refine wpAnyH_take (i := 18) (v := (frV i n d0 d1 d2 d3 d4 d5 d6 d7 r)) rfl (by kernel_rfl) (by kernel_rfl) (by kernel_rfl) (fun _ _ _ h => h) (Or.inl ⟨by rfl, ?_⟩) (by assumption) ?_
    · intro w9 hSw
      try dsimp only at hSw
      go_simp
    try simp only [Act.put, List.setIfInBounds_toArray, List.set_cons_zero, List.set_cons_succ]
    refine wpAnyH_ready (rs := [19]) (by kernel_rfl) (by simp) ?_
    refine AllReadyH.cons rfl (fun K' hK => ?_) AllReadyH.nil
    go_simp
    refine (cgf _).mono ?_
    rintro e x ⟨rfl, hbx⟩
    try go_wp2_with fail
    refine hK.out _ _ (hold3_next (by assumption) hbx) (fun hHeld => ?_)
    clear hK K'
    try simp only [Act.put, List.setIfInBounds_toArray, List.set_cons_zero, List.set_cons_succ]
    refine wpAnyH_take (i := 20) (v := (.bool false)) rfl (by kernel_rfl) (by kernel_rfl) (by kernel_rfl) (fun _ _ _ h => h) (Or.inl ⟨by rfl, ?_⟩) (by assumption) ?_
    · intro w9 hSw
      try dsimp only at hSw
      go_simp
    try simp only [Act.put, List.setIfInBounds_toArray, List.set_cons_zero, List.set_cons_succ]
    refine wpAnyH_take (i := 21) (v := (.bool false)) rfl (by kernel_rfl) (by kernel_rfl) (by kernel_rfl) (fun _ _ _ h => h) (Or.inl ⟨by rfl, ?_⟩) (by assumption) ?_
    · intro w9 hSw
      try dsimp only at hSw
      go_simp
    try simp only [Act.put, List.setIfInBounds_toArray, List.set_cons_zero, List.set_cons_succ]
    refine wpAnyH_take (i := 22) (v := (.bool false)) rfl (by kernel_rfl) (by kernel_rfl) (by kernel_rfl) (fun _ _ _ h => h) (Or.inl ⟨by rfl, ?_⟩) (by assumption) ?_
    · intro w9 hSw
      try dsimp only at hSw
      go_simp
    try simp only [Act.put, List.setIfInBounds_toArray, List.set_cons_zero, List.set_cons_succ]
    refine wpAnyH_take (i := 23) (v := (frV i n d0 d1 d2 d3 d4 d5 d6 d7 r)) rfl (by kernel_rfl) (by kernel_rfl) (by kernel_rfl) (fun _ _ _ h => h) (Or.inl ⟨by rfl, ?_⟩) (by assumption) ?_
    · intro w9 hSw
      try dsimp only at hSw
      go_simp
    try simp only [Act.put, List.setIfInBounds_toArray, List.set_cons_zero, List.set_cons_succ]
    refine wpAnyH_take (i := 24) (v := (frV j m e0 e1 e2 e3 e4 e5 e6 e7 s)) rfl (by kernel_rfl) (by kernel_rfl) (by kernel_rfl) (fun _ _ _ h => h) (Or.inl ⟨by rfl, ?_⟩) (by assumption) ?_
    · intro w9 hSw
      try dsimp only at hSw
      go_simp
    try simp only [Act.put, List.setIfInBounds_toArray, List.set_cons_zero, List.set_cons_succ]
    refine wpAnyH_ready (rs := [25]) (by kernel_rfl) (by simp) ?_
    refine AllReadyH.cons rfl (fun K' hK => ?_) AllReadyH.nil
    go_simp
    refine (cfg _).mono ?_
    rintro e x ⟨rfl, hbx⟩
    try go_wp2_with fail
    refine hK.out _ _ (hold3_next (by assumption) hbx) (fun hHeld => ?_)
    clear hK K'
    try simp only [Act.put, List.setIfInBounds_toArray, List.set_cons_zero, List.set_cons_succ]
    refine wpAnyH_take (i := 26) (v := (.bool true)) rfl (by kernel_rfl) (by kernel_rfl) (by kernel_rfl) (fun _ _ _ h => h) (Or.inl ⟨by rfl, ?_⟩) (by assumption) ?_
    · intro w9 hSw
      try dsimp only at hSw
      go_simp
    try simp only [Act.put, List.setIfInBounds_toArray, List.set_cons_zero, List.set_cons_succ]
    refine wpAnyH_take (i := 27) (v := (frV j m e0 e1 e2 e3 e4 e5 e6 e7 s)) rfl (by kernel_rfl) (by kernel_rfl) (by kernel_rfl) (fun _ _ _ h => h) (Or.inl ⟨by rfl, ?_⟩) (by assumption) ?_
    · intro w9 hSw
      try dsimp only at hSw
      go_simp
    try simp only [Act.put, List.setIfInBounds_toArray, List.set_cons_zero, List.set_cons_succ]
    refine wpAnyH_take (i := 28) (v := (frV k o g0 g1 g2 g3 g4 g5 g6 g7 t)) rfl (by kernel_rfl) (by kernel_rfl) (by kernel_rfl) (fun _ _ _ h => h) (Or.inl ⟨by rfl, ?_⟩) (by assumption) ?_
    · intro w9 hSw
      try dsimp only at hSw
      go_simp
    try simp only [Act.put, List.setIfInBounds_toArray, List.set_cons_zero, List.set_cons_succ]
    refine wpAnyH_ready (rs := [29]) (by kernel_rfl) (by simp) ?_
    refine AllReadyH.cons rfl (fun K' hK => ?_) AllReadyH.nil
    go_simp
    refine (cgh _).mono ?_
    rintro e x ⟨rfl, hbx⟩
    try go_wp2_with fail
    refine hK.out _ _ (hold3_next (by assumption) hbx) (fun hHeld => ?_)
    clear hK K'
    try simp only [Act.put, List.setIfInBounds_toArray, List.set_cons_zero, List.set_cons_succ]
    refine wpAnyH_take (i := 30) (v := (.bool false)) rfl (by kernel_rfl) (by kernel_rfl) (by kernel_rfl) (fun _ _ _ h => h) (Or.inl ⟨by rfl, ?_⟩) (by assumption) ?_
    · intro w9 hSw
      try dsimp only at hSw
      go_simp
    try simp only [Act.put, List.setIfInBounds_toArray, List.set_cons_zero, List.set_cons_succ]
    refine wpAnyH_take (i := 31) (v := (.bool false)) rfl (by kernel_rfl) (by kernel_rfl) (by kernel_rfl) (fun _ _ _ h => h) (Or.inl ⟨by rfl, ?_⟩) (by assumption) ?_
    · intro w9 hSw
      try dsimp only at hSw
      go_simp
    try simp only [Act.put, List.setIfInBounds_toArray, List.set_cons_zero, List.set_cons_succ]
    refine wpAnyH_take (i := 32) (v := undef) rfl (by kernel_rfl) (by kernel_rfl) (by kernel_rfl) (fun _ _ _ h => h) (Or.inr ⟨by rfl, rfl⟩) (by assumption) ?_
    try simp only [Act.put, List.setIfInBounds_toArray, List.set_cons_zero, List.set_cons_succ]
    refine wpAnyH_take (i := 33) (v := undef) rfl (by kernel_rfl) (by kernel_rfl) (by kernel_rfl) (fun _ _ _ h => h) (Or.inr ⟨by rfl, rfl⟩) (by assumption) ?_
    try simp only [Act.put, List.setIfInBounds_toArray, List.set_cons_zero, List.set_cons_succ]
    refine wpAnyH_ready (rs := [34]) (by kernel_rfl) (by simp) ?_
    refine AllReadyH.cons rfl (fun K' hK => ?_) AllReadyH.nil
    go_simp
    refine hK.out _ _ (by assumption) (fun hHeld => ?_)
    clear hK K'
    try simp only [Act.put, List.setIfInBounds_toArray, List.set_cons_zero, List.set_cons_succ]
    refine wpAnyH_take (i := 35) (v := undef) rfl (by kernel_rfl) (by kernel_rfl) (by kernel_rfl) (fun _ _ _ h => h) (Or.inr ⟨by rfl, rfl⟩) (by assumption) ?_
    try simp only [Act.put, List.setIfInBounds_toArray, List.set_cons_zero, List.set_cons_succ]
    refine wpAnyH_take (i := 36) (v := (.bool false)) rfl (by kernel_rfl) (by kernel_rfl) (by kernel_rfl) (fun _ _ _ h => h) (Or.inl ⟨by rfl, ?_⟩) (by assumption) ?_
    · intro w9 hSw
      try dsimp only at hSw
      go_simp
    try simp only [Act.put, List.setIfInBounds_toArray, List.set_cons_zero, List.set_cons_succ]
    refine wpAnyH_take (i := 37) (v := (.bool false)) rfl (by kernel_rfl) (by kernel_rfl) (by kernel_rfl) (fun _ _ _ h => h) (Or.inl ⟨by rfl, ?_⟩) (by assumption) ?_
    · intro w9 hSw
      try dsimp only at hSw
      go_simp
    try simp only [Act.put, List.setIfInBounds_toArray, List.set_cons_zero, List.set_cons_succ]
    refine wpAnyH_done (by kernel_rfl) ?_ _
    have hfin := And.left hHeld
    go_wp2_with fail
    refine (works_any _).mono ?_
    rintro e w9 ⟨rfl, hb9⟩
    go_wp2_with fail
    go_ret
    exact ⟨rfl, Below.andThen hfin hb9⟩
  · rw [hfg] at cfg crg
    rw [hgf] at cgf
    rw [hgh] at cgh
    rw [hfh] at cfh
    refine wp_region_held_drew (S := fun x => Below w.heap.size w x ∧ x.cell? ⟨w.heap.size, 0, none⟩ = some (.int .u16 i) ∧ x.cell? ⟨w.heap.size, 1, none⟩ = some (.int .i64 n) ∧ x.cell? ⟨w.heap.size, 2, none⟩ = some (.int .u8 d0) ∧ x.cell? ⟨w.heap.size, 3, none⟩ = some (.int .u8 d1) ∧ x.cell? ⟨w.heap.size, 4, none⟩ = some (.int .u8 d2) ∧ x.cell? ⟨w.heap.size, 5, none⟩ = some (.int .u8 d3) ∧ x.cell? ⟨w.heap.size, 6, none⟩ = some (.int .u8 d4) ∧ x.cell? ⟨w.heap.size, 7, none⟩ = some (.int .u8 d5) ∧ x.cell? ⟨w.heap.size, 8, none⟩ = some (.int .u8 d6) ∧ x.cell? ⟨w.heap.size, 9, none⟩ = some (.int .u8 d7) ∧ x.cell? ⟨w.heap.size, 10, none⟩ = some (.bool r) ∧ x.cell? ⟨w.heap.size + 1, 0, none⟩ = some (.int .u16 j) ∧ x.cell? ⟨w.heap.size + 1, 1, none⟩ = some (.int .i64 m) ∧ x.cell? ⟨w.heap.size + 1, 2, none⟩ = some (.int .u8 e0) ∧ x.cell? ⟨w.heap.size + 1, 3, none⟩ = some (.int .u8 e1) ∧ x.cell? ⟨w.heap.size + 1, 4, none⟩ = some (.int .u8 e2) ∧ x.cell? ⟨w.heap.size + 1, 5, none⟩ = some (.int .u8 e3) ∧ x.cell? ⟨w.heap.size + 1, 6, none⟩ = some (.int .u8 e4) ∧ x.cell? ⟨w.heap.size + 1, 7, none⟩ = some (.int .u8 e5) ∧ x.cell? ⟨w.heap.size + 1, 8, none⟩ = some (.int .u8 e6) ∧ x.cell? ⟨w.heap.size + 1, 9, none⟩ = some (.int .u8 e7) ∧ x.cell? ⟨w.heap.size + 1, 10, none⟩ = some (.bool s) ∧ x.cell? ⟨w.heap.size + 1 + 1, 0, none⟩ = some (.int .u16 k) ∧ x.cell? ⟨w.heap.size + 1 + 1, 1, none⟩ = some (.int .i64 o) ∧ x.cell? ⟨w.heap.size + 1 + 1, 2, none⟩ = some (.int .u8 g0) ∧ x.cell? ⟨w.heap.size + 1 + 1, 3, none⟩ = some (.int .u8 g1) ∧ x.cell? ⟨w.heap.size + 1 + 1, 4, none⟩ = some (.int .u8 g2) ∧ x.cell? ⟨w.heap.size + 1 + 1, 5, none⟩ = some (.int .u8 g3) ∧ x.cell? ⟨w.heap.size + 1 + 1, 6, none⟩ = some (.int .u8 g4) ∧ x.cell? ⟨w.heap.size + 1 + 1, 7, none⟩ = some (.int .u8 g5) ∧ x.cell? ⟨w.heap.size + 1 + 1, 8, none⟩ = some (.int .u8 g6) ∧ x.cell? ⟨w.heap.size + 1 + 1, 9, none⟩ = some (.int .u8 g7) ∧ x.cell? ⟨w.heap.size + 1 + 1, 10, none⟩ = some (.bool t)) (by kernel_rfl) ⟨Below.drew B6, a0, a1, a2, a3, a4, a5, a6, a7, a8, a9, a10, b0, b1, b2, b3, b4, b5, b6, b7, b8, b9, b10, c0, c1, c2, c3, c4, c5, c6, c7, c8, c9, c10⟩ (fun hHeld => ?_)
    refine wpAnyH_take (i := 0) (v := (frV i n d0 d1 d2 d3 d4 d5 d6 d7 r)) rfl (by kernel_rfl) (by kernel_rfl) (by kernel_rfl) (fun _ _ _ h => h) (Or.inl ⟨by rfl, ?_⟩) (by assumption) ?_
    · intro w9 hSw
      try dsimp only at hSw
      go_simp
    try simp only [Act.put, List.setIfInBounds_toArray, List.set_cons_zero, List.set_cons_succ]
    refine wpAnyH_take (i := 1) (v := (frV j m e0 e1 e2 e3 e4 e5 e6 e7 s)) rfl (by kernel_rfl) (by kernel_rfl) (by kernel_rfl) (fun _ _ _ h => h) (Or.inl ⟨by rfl, ?_⟩) (by assumption) ?_
    · intro w9 hSw
      try dsimp only at hSw
      go_simp
    try simp only [Act.put, List.setIfInBounds_toArray, List.set_cons_zero, List.set_cons_succ]
    refine wpAnyH_take (i := 3) (v := (frV i n d0 d1 d2 d3 d4 d5 d6 d7 r)) rfl (by kernel_rfl) (by kernel_rfl) (by kernel_rfl) (fun _ _ _ h => h) (Or.inl ⟨by rfl, ?_⟩) (by assumption) ?_
    · intro w9 hSw
      try dsimp only at hSw
      go_simp
    try simp only [Act.put, List.setIfInBounds_toArray, List.set_cons_zero, List.set_cons_succ]
    refine wpAnyH_take (i := 4) (v := (frV j m e0 e1 e2 e3 e4 e5 e6 e7 s)) rfl (by kernel_rfl) (by kernel_rfl) (by kernel_rfl) (fun _ _ _ h => h) (Or.inl ⟨by rfl, ?_⟩) (by assumption) ?_
    · intro w9 hSw
      try dsimp only at hSw
      go_simp
    try simp only [Act.put, List.setIfInBounds_toArray, List.set_cons_zero, List.set_cons_succ]
    refine wpAnyH_ready (rs := [2]) (by kernel_rfl) (by simp) ?_
    refine AllReadyH.cons rfl (fun K' hK => ?_) AllReadyH.nil
    go_simp
    refine (cfg _).mono ?_
    rintro e x ⟨rfl, hbx⟩
    try go_wp2_with fail
    refine hK.out _ _ (hold3_next (by assumption) hbx) (fun hHeld => ?_)
    clear hK K'
    try simp only [Act.put, List.setIfInBounds_toArray, List.set_cons_zero, List.set_cons_succ]
    refine wpAnyH_ready (rs := [5]) (by kernel_rfl) (by simp) ?_
    refine AllReadyH.cons rfl (fun K' hK => ?_) AllReadyH.nil
    go_simp
    refine (crg _).mono ?_
    rintro e x ⟨rfl, hbx⟩
    try go_wp2_with fail
    refine hK.out _ _ (hold3_next (by assumption) hbx) (fun hHeld => ?_)
    clear hK K'
    try simp only [Act.put, List.setIfInBounds_toArray, List.set_cons_zero, List.set_cons_succ]
    refine wpAnyH_take (i := 6) (v := (.bool false)) rfl (by kernel_rfl) (by kernel_rfl) (by kernel_rfl) (fun _ _ _ h => h) (Or.inl ⟨by rfl, ?_⟩) (by assumption) ?_
    · intro w9 hSw
      try dsimp only at hSw
      go_simp
    try simp only [Act.put, List.setIfInBounds_toArray, List.set_cons_zero, List.set_cons_succ]
    refine wpAnyH_take (i := 7) (v := (.bool false)) rfl (by kernel_rfl) (by kernel_rfl) (by kernel_rfl) (fun _ _ _ h => h) (Or.inl ⟨by rfl, ?_⟩) (by assumption) ?_
    · intro w9 hSw
      try dsimp only at hSw
      go_simp
    try simp only [Act.put, List.setIfInBounds_toArray, List.set_cons_zero, List.set_cons_succ]
    refine wpAnyH_take (i := 8) (v := (frV i n d0 d1 d2 d3 d4 d5 d6 d7 r)) rfl (by kernel_rfl) (by kernel_rfl) (by kernel_rfl) (fun _ _ _ h => h) (Or.inl ⟨by rfl, ?_⟩) (by assumption) ?_
    · intro w9 hSw
      try dsimp only at hSw
      go_simp
    try simp only [Act.put, List.setIfInBounds_toArray, List.set_cons_zero, List.set_cons_succ]
    refine wpAnyH_take (i := 9) (v := (frV i n d0 d1 d2 d3 d4 d5 d6 d7 r)) rfl (by kernel_rfl) (by kernel_rfl) (by kernel_rfl) (fun _ _ _ h => h) (Or.inl ⟨by rfl, ?_⟩) (by assumption) ?_
    · intro w9 hSw
      try dsimp only at hSw
      go_simp
    try simp only [Act.put, List.setIfInBounds_toArray, List.set_cons_zero, List.set_cons_succ]
    refine wpAnyH_ready (rs := [10]) (by kernel_rfl) (by simp) ?_
    refine AllReadyH.cons rfl (fun K' hK => ?_) AllReadyH.nil
    go_simp
    refine (cff _).mono ?_
    rintro e x ⟨rfl, hbx⟩
    try go_wp2_with fail
    refine hK.out _ _ (hold3_next (by assumption) hbx) (fun hHeld => ?_)
    clear hK K'
    try simp only [Act.put, List.setIfInBounds_toArray, List.set_cons_zero, List.set_cons_succ]
    refine wpAnyH_take (i := 11) (v := (.bool false)) rfl (by kernel_rfl) (by kernel_rfl) (by kernel_rfl) (fun _ _ _ h => h) (Or.inl ⟨by rfl, ?_⟩) (by assumption) ?_
    · intro w9 hSw
      try dsimp only at hSw
      go_simp
    try simp only [Act.put, List.setIfInBounds_toArray, List.set_cons_zero, List.set_cons_succ]
    refine wpAnyH_take (i := 12) (v := (.bool false)) rfl (by kernel_rfl) (by kernel_rfl) (by kernel_rfl) (fun _ _ _ h => h) (Or.inl ⟨by rfl, ?_⟩) (by assumption) ?_
    · intro w9 hSw
      try dsimp only at hSw
      go_simp
    try simp only [Act.put, List.setIfInBounds_toArray, List.set_cons_zero, List.set_cons_succ]
    refine wpAnyH_take (i := 13) (v := (frV i n d0 d1 d2 d3 d4 d5 d6 d7 r)) rfl (by kernel_rfl) (by kernel_rfl) (by kernel_rfl) (fun _ _ _ h => h) (Or.inl ⟨by rfl, ?_⟩) (by assumption) ?_
    · intro w9 hSw
      try dsimp only at hSw
      go_simp
    try simp only [Act.put, List.setIfInBounds_toArray, List.set_cons_zero, List.set_cons_succ]
    refine wpAnyH_take (i := 14) (v := (frV j m e0 e1 e2 e3 e4 e5 e6 e7 s)) rfl (by kernel_rfl) (by kernel_rfl) (by kernel_rfl) (fun _ _ _ h => h) (Or.inl ⟨by rfl, ?_⟩) (by assumption) ?_
    · intro w9 hSw
      try dsimp only at hSw
      go_simp
    try simp only [Act.put, List.setIfInBounds_toArray, List.set_cons_zero, List.set_cons_succ]
    refine wpAnyH_ready (rs := [15]) (by kernel_rfl) (by simp) ?_
    refine AllReadyH.cons rfl (fun K' hK => ?_) AllReadyH.nil
    go_simp
    refine (cfg _).mono ?_
    rintro e x ⟨rfl, hbx⟩
    try go_wp2_with fail
    refine hK.out _ _ (hold3_next (by assumption) hbx) (fun hHeld => ?_)
    clear hK K'
    try simp only [Act.put, List.setIfInBounds_toArray, List.set_cons_zero, List.set_cons_succ]
    refine wpAnyH_take (i := 16) (v := (.bool true)) rfl (by kernel_rfl) (by kernel_rfl) (by kernel_rfl) (fun _ _ _ h => h) (Or.inl ⟨by rfl, ?_⟩) (by assumption) ?_
    · intro w9 hSw
      try dsimp only at hSw
      go_simp
    try simp only [Act.put, List.setIfInBounds_toArray, List.set_cons_zero, List.set_cons_succ]
    refine wpAnyH_take (i := 17) (v := (frV j m e0 e1 e2 e3 e4 e5 e6 e7 s)) rfl (by kernel_rfl) (by kernel_rfl) (by kernel_rfl) (fun _ _ _ h => h) (Or.inl ⟨by rfl, ?_⟩) (by assumption) ?_
    · intro w9 hSw
      try dsimp only at hSw
      go_simp
    try simp only [Act.put, List.setIfInBounds_toArray, List.set_cons_zero, List.set_cons_succ]
    refine wpAnyH_take (i := 18) (v := (frV i n d0 d1 d2 d3 d4 d5 d6 d7 r)) rfl (by kernel_rfl) (by kernel_rfl) (by kernel_rfl) (fun _ _ _ h => h) (Or.inl ⟨by rfl, ?_⟩) (by assumption) ?_
    · intro w9 hSw
      try dsimp only at hSw
      go_simp
    try simp only [Act.put, List.setIfInBounds_toArray, List.set_cons_zero, List.set_cons_succ]
    refine wpAnyH_ready (rs := [19]) (by kernel_rfl) (by simp) ?_
    refine AllReadyH.cons rfl (fun K' hK => ?_) AllReadyH.nil
    go_simp
    refine (cgf _).mono ?_
    rintro e x ⟨rfl, hbx⟩
    try go_wp2_with fail
    refine hK.out _ _ (hold3_next (by assumption) hbx) (fun hHeld => ?_)
    clear hK K'
    try simp only [Act.put, List.setIfInBounds_toArray, List.set_cons_zero, List.set_cons_succ]
    refine wpAnyH_take (i := 20) (v := (.bool false)) rfl (by kernel_rfl) (by kernel_rfl) (by kernel_rfl) (fun _ _ _ h => h) (Or.inl ⟨by rfl, ?_⟩) (by assumption) ?_
    · intro w9 hSw
      try dsimp only at hSw
      go_simp
    try simp only [Act.put, List.setIfInBounds_toArray, List.set_cons_zero, List.set_cons_succ]
    refine wpAnyH_take (i := 21) (v := (.bool false)) rfl (by kernel_rfl) (by kernel_rfl) (by kernel_rfl) (fun _ _ _ h => h) (Or.inl ⟨by rfl, ?_⟩) (by assumption) ?_
    · intro w9 hSw
      try dsimp only at hSw
      go_simp
    try simp only [Act.put, List.setIfInBounds_toArray, List.set_cons_zero, List.set_cons_succ]
    refine wpAnyH_take (i := 22) (v := (.bool false)) rfl (by kernel_rfl) (by kernel_rfl) (by kernel_rfl) (fun _ _ _ h => h) (Or.inl ⟨by rfl, ?_⟩) (by assumption) ?_
    · intro w9 hSw
      try dsimp only at hSw
      go_simp
    try simp only [Act.put, List.setIfInBounds_toArray, List.set_cons_zero, List.set_cons_succ]
    refine wpAnyH_take (i := 23) (v := (frV i n d0 d1 d2 d3 d4 d5 d6 d7 r)) rfl (by kernel_rfl) (by kernel_rfl) (by kernel_rfl) (fun _ _ _ h => h) (Or.inl ⟨by rfl, ?_⟩) (by assumption) ?_
    · intro w9 hSw
      try dsimp only at hSw
      go_simp
    try simp only [Act.put, List.setIfInBounds_toArray, List.set_cons_zero, List.set_cons_succ]
    refine wpAnyH_take (i := 24) (v := (frV j m e0 e1 e2 e3 e4 e5 e6 e7 s)) rfl (by kernel_rfl) (by kernel_rfl) (by kernel_rfl) (fun _ _ _ h => h) (Or.inl ⟨by rfl, ?_⟩) (by assumption) ?_
    · intro w9 hSw
      try dsimp only at hSw
      go_simp
    try simp only [Act.put, List.setIfInBounds_toArray, List.set_cons_zero, List.set_cons_succ]
    refine wpAnyH_ready (rs := [25]) (by kernel_rfl) (by simp) ?_
    refine AllReadyH.cons rfl (fun K' hK => ?_) AllReadyH.nil
    go_simp
    refine (cfg _).mono ?_
    rintro e x ⟨rfl, hbx⟩
    try go_wp2_with fail
    refine hK.out _ _ (hold3_next (by assumption) hbx) (fun hHeld => ?_)
    clear hK K'
    try simp only [Act.put, List.setIfInBounds_toArray, List.set_cons_zero, List.set_cons_succ]
    refine wpAnyH_take (i := 26) (v := (.bool true)) rfl (by kernel_rfl) (by kernel_rfl) (by kernel_rfl) (fun _ _ _ h => h) (Or.inl ⟨by rfl, ?_⟩) (by assumption) ?_
    · intro w9 hSw
      try dsimp only at hSw
      go_simp
    try simp only [Act.put, List.setIfInBounds_toArray, List.set_cons_zero, List.set_cons_succ]
    refine wpAnyH_take (i := 27) (v := (frV j m e0 e1 e2 e3 e4 e5 e6 e7 s)) rfl (by kernel_rfl) (by kernel_rfl) (by kernel_rfl) (fun _ _ _ h => h) (Or.inl ⟨by rfl, ?_⟩) (by assumption) ?_
    · intro w9 hSw
      try dsimp only at hSw
      go_simp
    try simp only [Act.put, List.setIfInBounds_toArray, List.set_cons_zero, List.set_cons_succ]
    refine wpAnyH_take (i := 28) (v := (frV k o g0 g1 g2 g3 g4 g5 g6 g7 t)) rfl (by kernel_rfl) (by kernel_rfl) (by kernel_rfl) (fun _ _ _ h => h) (Or.inl ⟨by rfl, ?_⟩) (by assumption) ?_
    · intro w9 hSw
      try dsimp only at hSw
      go_simp
    try simp only [Act.put, List.setIfInBounds_toArray, List.set_cons_zero, List.set_cons_succ]
    refine wpAnyH_ready (rs := [29]) (by kernel_rfl) (by simp) ?_
    refine AllReadyH.cons rfl (fun K' hK => ?_) AllReadyH.nil
    go_simp
    refine (cgh _).mono ?_
    rintro e x ⟨rfl, hbx⟩
    try go_wp2_with fail
    refine hK.out _ _ (hold3_next (by assumption) hbx) (fun hHeld => ?_)
    clear hK K'
    try simp only [Act.put, List.setIfInBounds_toArray, List.set_cons_zero, List.set_cons_succ]
    refine wpAnyH_take (i := 30) (v := (.bool true)) rfl (by kernel_rfl) (by kernel_rfl) (by kernel_rfl) (fun _ _ _ h => h) (Or.inl ⟨by rfl, ?_⟩) (by assumption) ?_
    · intro w9 hSw
      try dsimp only at hSw
      go_simp
    try simp only [Act.put, List.setIfInBounds_toArray, List.set_cons_zero, List.set_cons_succ]
    refine wpAnyH_take (i := 31) (v := (.bool true)) rfl (by kernel_rfl) (by kernel_rfl) (by kernel_rfl) (fun _ _ _ h => h) (Or.inl ⟨by rfl, ?_⟩) (by assumption) ?_
    · intro w9 hSw
      try dsimp only at hSw
      go_simp
    try simp only [Act.put, List.setIfInBounds_toArray, List.set_cons_zero, List.set_cons_succ]
    refine wpAnyH_take (i := 32) (v := (frV i n d0 d1 d2 d3 d4 d5 d6 d7 r)) rfl (by kernel_rfl) (by kernel_rfl) (by kernel_rfl) (fun _ _ _ h => h) (Or.inl ⟨by rfl, ?_⟩) (by assumption) ?_
    · intro w9 hSw
      try dsimp only at hSw
      go_simp
    try simp only [Act.put, List.setIfInBounds_toArray, List.set_cons_zero, List.set_cons_succ]
    refine wpAnyH_take (i := 33) (v := (frV k o g0 g1 g2 g3 g4 g5 g6 g7 t)) rfl (by kernel_rfl) (by kernel_rfl) (by kernel_rfl) (fun _ _ _ h => h) (Or.inl ⟨by rfl, ?_⟩) (by assumption) ?_
    · intro w9 hSw
      try dsimp only at hSw
      go_simp
    try simp only [Act.put, List.setIfInBounds_toArray, List.set_cons_zero, List.set_cons_succ]
    refine wpAnyH_ready (rs := [34]) (by kernel_rfl) (by simp) ?_
    refine AllReadyH.cons rfl (fun K' hK => ?_) AllReadyH.nil
    go_simp
    refine (cfh _).mono ?_
    rintro e x ⟨rfl, hbx⟩
    try go_wp2_with fail
    refine hK.out _ _ (hold3_next (by assumption) hbx) (fun hHeld => ?_)
    clear hK K'
    try simp only [Act.put, List.setIfInBounds_toArray, List.set_cons_zero, List.set_cons_succ]
    refine wpAnyH_take (i := 35) (v := (.bool false)) rfl (by kernel_rfl) (by kernel_rfl) (by kernel_rfl) (fun _ _ _ h => h) (Or.inl ⟨by rfl, ?_⟩) (by assumption) ?_
    · intro w9 hSw
      try dsimp only at hSw
      go_simp
    try simp only [Act.put, List.setIfInBounds_toArray, List.set_cons_zero, List.set_cons_succ]
    refine wpAnyH_take (i := 36) (v := (.bool false)) rfl (by kernel_rfl) (by kernel_rfl) (by kernel_rfl) (fun _ _ _ h => h) (Or.inl ⟨by rfl, ?_⟩) (by assumption) ?_
    · intro w9 hSw
      try dsimp only at hSw
      go_simp
    try simp only [Act.put, List.setIfInBounds_toArray, List.set_cons_zero, List.set_cons_succ]
    refine wpAnyH_take (i := 37) (v := (.bool false)) rfl (by kernel_rfl) (by kernel_rfl) (by kernel_rfl) (fun _ _ _ h => h) (Or.inl ⟨by rfl, ?_⟩) (by assumption) ?_
    · intro w9 hSw
      try dsimp only at hSw
      go_simp
    try simp only [Act.put, List.setIfInBounds_toArray, List.set_cons_zero, List.set_cons_succ]
    refine wpAnyH_done (by kernel_rfl) ?_ _
    have hfin := And.left hHeld
    go_wp2_with fail
    refine (works_any _).mono ?_
    rintro e w9 ⟨rfl, hb9⟩
    go_wp2_with fail
    go_ret
    exact ⟨rfl, Below.andThen hfin hb9⟩
end Go.Proofs.Ytbjbnfhmehkkpaa
