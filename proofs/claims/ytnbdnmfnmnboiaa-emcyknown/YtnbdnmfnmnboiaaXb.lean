/-
  The program's Read.
-/
import Derived.Test.YtnbdnmfnmnboiaaXa
import Derived.Test.YtnbdnmfnmnboiaaZg
import Derived.Test.YtnbdnmfnmnboiaaZh
import Derived.Test.YtnbdnmfnmnboiaaTk9
namespace Go.Proofs.Ytnbdnmfnmnboiaa
open Go.RowKit

/-- Is it the frame of an error? -/
def rdB (i n : Int) (r : Bool) : Bool := decide (129 ≤ i) && (decide (i ≤ 255) && (decide (n = 8) && !r))
abbrev z5b : Obj := .cells #[.int .u8 0, .int .u8 0, .int .u8 0, .int .u8 0, .int .u8 0] 33
/-- What Read tells. -/
abbrev rdV (a c g i0 i1 i2 i3 i4 : Int) (b : Bool) : Value := .tuple #[.int .u8 a, .int .u16 c, .int .u8 g, arr5 i0 i1 i2 i3 i4, .bool b]
theorem datL_8 (i n : Int) (ds : List Int) (r : Bool) (hl : ds.length = 8) (h : ¬ (n = 8 ∧ r = false ∧ i ≤ 2047)) : (datL i n ds r).length ≠ 8 := by
  unfold datL
  cases hr : rightB i n ds r with
  | false => simp
  | true =>
    obtain ⟨h1, h2, h3⟩ := rightB_n _ _ _ _ hr
    rw [if_pos rfl]
    unfold carL
    cases r
    · simp only [Bool.false_eq_true, if_false, List.length_take, hl]
      intro e
      exact h ⟨by omega, rfl, h1⟩
    · simp
theorem datL_ok (i : Int) (d0 d1 d2 d3 d4 d5 d6 d7 : Int) (h : i ≤ 2047) : datL i 8 [d0, d1, d2, d3, d4, d5, d6, d7] false = [d0, d1, d2, d3, d4, d5, d6, d7] := by
  unfold datL
  rw [if_pos]
  · rfl
  · rw [rightB_ok _ _ _ _ (by decide)]
    simp [h, okB, List.range, List.range.loop]
theorem store5 (w : World) (B : Nat) (a0 a1 a2 a3 a4 i0 i1 i2 i3 i4 : Int) (h : w.heap[B]? = some (.cells #[.int .u8 a0, .int .u8 a1, .int .u8 a2, .int .u8 a3, .int .u8 a4] 33 (0, 0))) : (storeVar 33 ⟨B, 0, none⟩ (arr5 i0 i1 i2 i3 i4)).run Try.prog w = .ok () (w.setRow B #[.int .u8 i0, .int .u8 i1, .int .u8 i2, .int .u8 i3, .int .u8 i4]) :=
  store_part 33 5 (by kernel_rfl) w B 0 _ 33 h [.int .u8 i0, .int .u8 i1, .int .u8 i2, .int .u8 i3, .int .u8 i4] rfl (by simp) (by simp [Value.oneCell'])
set_option linter.unusedSimpArgs false in
set_option maxHeartbeats 4000000 in
set_option maxRecDepth 100000 in
theorem read_len (i n d0 d1 d2 d3 d4 d5 d6 d7 : Int) (r : Bool) (ho : Oct [d0, d1, d2, d3, d4, d5, d6, d7]) (h : ¬ (n = 8 ∧ r = false ∧ i ≤ 2047)) (w : World) : Calls Try.prog 13 #[frV i n d0 d1 d2 d3 d4 d5 d6 d7 r] w fun e w' => e = .returned (rdV 0 0 0 0 0 0 0 0 false) ∧ Below w.heap.size w w' := by
  have HD := fun W => data_any i n d0 d1 d2 d3 d4 d5 d6 d7 r W ho
  have W0 : Below w.heap.size w (((w.alloc (.cells (frC i n d0 d1 d2 d3 d4 d5 d6 d7 r) 40)).alloc z5b).alloc z5b) := (by repeat (first | exact Below.refl _ _ | apply Below.drew | apply Below.al))
  have p0 := at11 w (.cells (frC i n d0 d1 d2 d3 d4 d5 d6 d7 r) 40) w.heap.size rfl
  have p1 := at11 (w.alloc (.cells (frC i n d0 d1 d2 d3 d4 d5 d6 d7 r) 40)) z5b (w.heap.size + 1) (by simp)
  have p2 := at11 ((w.alloc (.cells (frC i n d0 d1 d2 d3 d4 d5 d6 d7 r) 40)).alloc z5b) z5b (w.heap.size + 1 + 1) (by simp)
  have q0 := ext11 (o := z5b) (ext11 (o := z5b) p0)
  have q1 := ext11 (o := z5b) p1
  obtain ⟨y, hy⟩ : ∃ y, y = ((w.alloc (.cells (frC i n d0 d1 d2 d3 d4 d5 d6 d7 r) 40)).alloc z5b).alloc z5b := ⟨_, rfl⟩
  rw [← hy] at W0 q0 q1 p2
  have HY : Hid (y = ((w.alloc (.cells (frC i n d0 d1 d2 d3 d4 d5 d6 d7 r) 40)).alloc z5b).alloc z5b) := hy
  have HL : Hid ((datL i n [d0, d1, d2, d3, d4, d5, d6, d7] r).length ≠ 8) := datL_8 i n _ r rfl h
  clear h
  have c0 : y.cell? ⟨w.heap.size, 0, none⟩ = some (.int .u16 i) := by rw [cell_of_row y _ 0 _ _ _ q0]; rfl
  have c1 : y.cell? ⟨w.heap.size, 1, none⟩ = some (.int .i64 n) := by rw [cell_of_row y _ 1 _ _ _ q0]; rfl
  have c2 : y.cell? ⟨w.heap.size, 2, none⟩ = some (.int .u8 d0) := by rw [cell_of_row y _ 2 _ _ _ q0]; rfl
  have c3 : y.cell? ⟨w.heap.size, 3, none⟩ = some (.int .u8 d1) := by rw [cell_of_row y _ 3 _ _ _ q0]; rfl
  have c4 : y.cell? ⟨w.heap.size, 4, none⟩ = some (.int .u8 d2) := by rw [cell_of_row y _ 4 _ _ _ q0]; rfl
  have c5 : y.cell? ⟨w.heap.size, 5, none⟩ = some (.int .u8 d3) := by rw [cell_of_row y _ 5 _ _ _ q0]; rfl
  have c6 : y.cell? ⟨w.heap.size, 6, none⟩ = some (.int .u8 d4) := by rw [cell_of_row y _ 6 _ _ _ q0]; rfl
  have c7 : y.cell? ⟨w.heap.size, 7, none⟩ = some (.int .u8 d5) := by rw [cell_of_row y _ 7 _ _ _ q0]; rfl
  have c8 : y.cell? ⟨w.heap.size, 8, none⟩ = some (.int .u8 d6) := by rw [cell_of_row y _ 8 _ _ _ q0]; rfl
  have c9 : y.cell? ⟨w.heap.size, 9, none⟩ = some (.int .u8 d7) := by rw [cell_of_row y _ 9 _ _ _ q0]; rfl
  have c10 : y.cell? ⟨w.heap.size, 10, none⟩ = some (.bool r) := by rw [cell_of_row y _ 10 _ _ _ q0]; rfl
  clear p0 p1 hy ho
  go_enter Try.func13, Try.ntmps13
  go_wp2_with fail
  rw [← HY.out]
  try go_wp2_with fail
  refine (HD _).mono ?_
  rintro e w1 ⟨a, len, cap, rfl, hl8, hlc, hrow, hfz, hb1⟩
  have B1 : Below w.heap.size w w1 := Below.trans W0 (hb1.mono W0.size)
  have r0 := blk11 hb1 q0
  have r1 := blk11 hb1 q1
  have r2 := blk11 hb1 p2
  have f0 : w1.cell? ⟨w.heap.size, 0, none⟩ = some (.int .u16 i) := by rw [cell_of_row w1 _ 0 _ _ _ r0]; rfl
  have f1 : w1.cell? ⟨w.heap.size, 1, none⟩ = some (.int .i64 n) := by rw [cell_of_row w1 _ 1 _ _ _ r0]; rfl
  have f2 : w1.cell? ⟨w.heap.size, 2, none⟩ = some (.int .u8 d0) := by rw [cell_of_row w1 _ 2 _ _ _ r0]; rfl
  have f3 : w1.cell? ⟨w.heap.size, 3, none⟩ = some (.int .u8 d1) := by rw [cell_of_row w1 _ 3 _ _ _ r0]; rfl
  have f4 : w1.cell? ⟨w.heap.size, 4, none⟩ = some (.int .u8 d2) := by rw [cell_of_row w1 _ 4 _ _ _ r0]; rfl
  have f5 : w1.cell? ⟨w.heap.size, 5, none⟩ = some (.int .u8 d3) := by rw [cell_of_row w1 _ 5 _ _ _ r0]; rfl
  have f6 : w1.cell? ⟨w.heap.size, 6, none⟩ = some (.int .u8 d4) := by rw [cell_of_row w1 _ 6 _ _ _ r0]; rfl
  have f7 : w1.cell? ⟨w.heap.size, 7, none⟩ = some (.int .u8 d5) := by rw [cell_of_row w1 _ 7 _ _ _ r0]; rfl
  have f8 : w1.cell? ⟨w.heap.size, 8, none⟩ = some (.int .u8 d6) := by rw [cell_of_row w1 _ 8 _ _ _ r0]; rfl
  have f9 : w1.cell? ⟨w.heap.size, 9, none⟩ = some (.int .u8 d7) := by rw [cell_of_row w1 _ 9 _ _ _ r0]; rfl
  have f10 : w1.cell? ⟨w.heap.size, 10, none⟩ = some (.bool r) := by rw [cell_of_row w1 _ 10 _ _ _ r0]; rfl
  clear c0 c1 c2 c3 c4 c5 c6 c7 c8 c9 c10 q0 q1 p2 hb1 W0 HD
  have l1 := lt_of_heap r0
  have ne : ¬ (len : Int) = 8 := by have := hrow.size; have := HL.out; omega
  clear hrow hfz f1 f2 f3 f4 f5 f6 f7 f8 f9 f10
  go_wp2_with fail
  refine wp_region_held_drew (S := fun x1 => Kp [w.heap.size + 1] w1 x1) (by kernel_rfl) (Kp.drew (Kp.refl _ _)) (fun hHeld => ?_)
  refine tk 0 (arr5 0 0 0 0 0) rfl (.inl ⟨by rfl, ?_⟩) ?_
  · intro w9 hSw
    try dsimp only at hSw
    exact ex_load_by 33 (.tmp 7) rfl _ _ rfl (load5 _ _ 0 0 0 0 0 (Kp.at hSw (by simp) r2))
  try simp only [Act.put, gA, gS, gZ, sA, sZ, sS]
  refine tk 1 (.int .u8 0) rfl (.inl ⟨by rfl, ?_⟩) ?_
  · intro w9 hSw
    try dsimp only at hSw
    go_simp
    all_goals try decide
    all_goals try assumption
    all_goals try omega
  try simp only [Act.put, gA, gS, gZ, sA, sZ, sS]
  refine tk 2 (.int .u16 0) rfl (.inl ⟨by rfl, ?_⟩) ?_
  · intro w9 hSw
    try dsimp only at hSw
    go_simp
    all_goals try decide
    all_goals try assumption
    all_goals try omega
  try simp only [Act.put, gA, gS, gZ, sA, sZ, sS]
  refine tk 3 (.int .u8 0) rfl (.inl ⟨by rfl, ?_⟩) ?_
  · intro w9 hSw
    try dsimp only at hSw
    go_simp
    all_goals try decide
    all_goals try assumption
    all_goals try omega
  try simp only [Act.put, gA, gS, gZ, sA, sZ, sS]
  refine wpAnyH_ready (rs := [4]) (by kernel_rfl) (by simp) ?_
  refine AllReadyH.cons rfl (fun K' hK => ?_) AllReadyH.nil
  rw [if_pos (by rfl)]
  simp only [gA, gS, gZ]
  have S0 := hHeld
  refine wp_store_by 33 _ _ rfl ⟨w.heap.size + 1, 0, none⟩ _ rfl rfl (store5 _ _ _ _ _ _ _ 0 0 0 0 0 r1) ?_
  refine hK.out _ _ (S0.row _ _ (.inl (by simp))) (fun hHeld => ?_)
  clear hK K'
  try simp only [Act.put, gA, gS, gZ, sA, sZ, sS]
  refine tk 5 (.bool false) rfl (.inl ⟨by rfl, ?_⟩) ?_
  · intro w9 hSw
    try dsimp only at hSw
    go_simp
    all_goals try decide
    all_goals try assumption
    all_goals try omega
  try simp only [Act.put, gA, gS, gZ, sA, sZ, sS]
  refine wpAnyH_done (by kernel_rfl) ?_ _
  have hc := fun j => cell_of_row _ (w.heap.size + 1) j _ _ _ (setRow_heap w1.drew (w.heap.size + 1) _ #[.int .u8 0, .int .u8 0, .int .u8 0, .int .u8 0, .int .u8 0] _ _ r1)
  have FIN : Hid (Below w.heap.size w (w1.drew.setRow (w.heap.size + 1) #[.int .u8 0, .int .u8 0, .int .u8 0, .int .u8 0, .int .u8 0])) := below_setRow B1.drew (by omega) _
  clear hHeld
  go_wp2_with fail
  refine bodyPost_ret (v := rdV 0 0 0 0 0 0 0 0 false) ?_ rfl ⟨rfl, FIN.out⟩
  simp [results, Try.results13, go_sem, hc]
set_option linter.unusedSimpArgs false in
set_option maxHeartbeats 4000000 in
set_option maxRecDepth 100000 in
theorem read_far (i n d0 d1 d2 d3 d4 d5 d6 d7 : Int) (r : Bool) (ho : Oct [d0, d1, d2, d3, d4, d5, d6, d7]) (hi : 0 ≤ i) (hn : n = 8) (hr : r = false) (h : i ≤ 2047) (h2 : i < 129 ∨ 255 < i) (w : World) : Calls Try.prog 13 #[frV i n d0 d1 d2 d3 d4 d5 d6 d7 r] w fun e w' => e = .returned (rdV 0 0 0 0 0 0 0 0 false) ∧ Below w.heap.size w w' := by
  have HD := fun W => data_any i n d0 d1 d2 d3 d4 d5 d6 d7 r W ho
  have W0 : Below w.heap.size w (((w.alloc (.cells (frC i n d0 d1 d2 d3 d4 d5 d6 d7 r) 40)).alloc z5b).alloc z5b) := (by repeat (first | exact Below.refl _ _ | apply Below.drew | apply Below.al))
  have p0 := at11 w (.cells (frC i n d0 d1 d2 d3 d4 d5 d6 d7 r) 40) w.heap.size rfl
  have p1 := at11 (w.alloc (.cells (frC i n d0 d1 d2 d3 d4 d5 d6 d7 r) 40)) z5b (w.heap.size + 1) (by simp)
  have p2 := at11 ((w.alloc (.cells (frC i n d0 d1 d2 d3 d4 d5 d6 d7 r) 40)).alloc z5b) z5b (w.heap.size + 1 + 1) (by simp)
  have q0 := ext11 (o := z5b) (ext11 (o := z5b) p0)
  have q1 := ext11 (o := z5b) p1
  obtain ⟨y, hy⟩ : ∃ y, y = ((w.alloc (.cells (frC i n d0 d1 d2 d3 d4 d5 d6 d7 r) 40)).alloc z5b).alloc z5b := ⟨_, rfl⟩
  rw [← hy] at W0 q0 q1 p2
  have HY : Hid (y = ((w.alloc (.cells (frC i n d0 d1 d2 d3 d4 d5 d6 d7 r) 40)).alloc z5b).alloc z5b) := hy
  have HL : Hid ((datL i n [d0, d1, d2, d3, d4, d5, d6, d7] r).length = 8) := by show _ = _; rw [hn, hr, datL_ok _ _ _ _ _ _ _ _ _ h]; rfl
  obtain ⟨ad, had⟩ : ∃ ad, Hid (IntKind.u16.wrap (i - 128) = ad) := ⟨_, rfl⟩
  have hA : ad < 1 ∨ 127 < ad := by rw [← had.out, IntKind.wrap_u16]; omega
  have HA : Hid (ad < 1 ∨ 127 < ad) := hA
  have wA : IntKind.u16.wrap (i - 128) = ad := had.out
  clear hn hr h h2 hA hi
  have c0 : y.cell? ⟨w.heap.size, 0, none⟩ = some (.int .u16 i) := by rw [cell_of_row y _ 0 _ _ _ q0]; rfl
  have c1 : y.cell? ⟨w.heap.size, 1, none⟩ = some (.int .i64 n) := by rw [cell_of_row y _ 1 _ _ _ q0]; rfl
  have c2 : y.cell? ⟨w.heap.size, 2, none⟩ = some (.int .u8 d0) := by rw [cell_of_row y _ 2 _ _ _ q0]; rfl
  have c3 : y.cell? ⟨w.heap.size, 3, none⟩ = some (.int .u8 d1) := by rw [cell_of_row y _ 3 _ _ _ q0]; rfl
  have c4 : y.cell? ⟨w.heap.size, 4, none⟩ = some (.int .u8 d2) := by rw [cell_of_row y _ 4 _ _ _ q0]; rfl
  have c5 : y.cell? ⟨w.heap.size, 5, none⟩ = some (.int .u8 d3) := by rw [cell_of_row y _ 5 _ _ _ q0]; rfl
  have c6 : y.cell? ⟨w.heap.size, 6, none⟩ = some (.int .u8 d4) := by rw [cell_of_row y _ 6 _ _ _ q0]; rfl
  have c7 : y.cell? ⟨w.heap.size, 7, none⟩ = some (.int .u8 d5) := by rw [cell_of_row y _ 7 _ _ _ q0]; rfl
  have c8 : y.cell? ⟨w.heap.size, 8, none⟩ = some (.int .u8 d6) := by rw [cell_of_row y _ 8 _ _ _ q0]; rfl
  have c9 : y.cell? ⟨w.heap.size, 9, none⟩ = some (.int .u8 d7) := by rw [cell_of_row y _ 9 _ _ _ q0]; rfl
  have c10 : y.cell? ⟨w.heap.size, 10, none⟩ = some (.bool r) := by rw [cell_of_row y _ 10 _ _ _ q0]; rfl
  clear p0 p1 hy ho
  go_enter Try.func13, Try.ntmps13
  go_wp2_with fail
  rw [← HY.out]
  try go_wp2_with fail
  refine (HD _).mono ?_
  rintro e w1 ⟨a, len, cap, rfl, hl8, hlc, hrow, hfz, hb1⟩
  have B1 : Below w.heap.size w w1 := Below.trans W0 (hb1.mono W0.size)
  have r0 := blk11 hb1 q0
  have r1 := blk11 hb1 q1
  have r2 := blk11 hb1 p2
  have f0 : w1.cell? ⟨w.heap.size, 0, none⟩ = some (.int .u16 i) := by rw [cell_of_row w1 _ 0 _ _ _ r0]; rfl
  have f1 : w1.cell? ⟨w.heap.size, 1, none⟩ = some (.int .i64 n) := by rw [cell_of_row w1 _ 1 _ _ _ r0]; rfl
  have f2 : w1.cell? ⟨w.heap.size, 2, none⟩ = some (.int .u8 d0) := by rw [cell_of_row w1 _ 2 _ _ _ r0]; rfl
  have f3 : w1.cell? ⟨w.heap.size, 3, none⟩ = some (.int .u8 d1) := by rw [cell_of_row w1 _ 3 _ _ _ r0]; rfl
  have f4 : w1.cell? ⟨w.heap.size, 4, none⟩ = some (.int .u8 d2) := by rw [cell_of_row w1 _ 4 _ _ _ r0]; rfl
  have f5 : w1.cell? ⟨w.heap.size, 5, none⟩ = some (.int .u8 d3) := by rw [cell_of_row w1 _ 5 _ _ _ r0]; rfl
  have f6 : w1.cell? ⟨w.heap.size, 6, none⟩ = some (.int .u8 d4) := by rw [cell_of_row w1 _ 6 _ _ _ r0]; rfl
  have f7 : w1.cell? ⟨w.heap.size, 7, none⟩ = some (.int .u8 d5) := by rw [cell_of_row w1 _ 7 _ _ _ r0]; rfl
  have f8 : w1.cell? ⟨w.heap.size, 8, none⟩ = some (.int .u8 d6) := by rw [cell_of_row w1 _ 8 _ _ _ r0]; rfl
  have f9 : w1.cell? ⟨w.heap.size, 9, none⟩ = some (.int .u8 d7) := by rw [cell_of_row w1 _ 9 _ _ _ r0]; rfl
  have f10 : w1.cell? ⟨w.heap.size, 10, none⟩ = some (.bool r) := by rw [cell_of_row w1 _ 10 _ _ _ r0]; rfl
  clear c0 c1 c2 c3 c4 c5 c6 c7 c8 c9 c10 q0 q1 p2 hb1 W0 HD
  have l1 := lt_of_heap r0
  obtain rfl : len = 8 := by have := hrow.size; have := HL.out; omega
  clear hrow hfz f1 f2 f3 f4 f5 f6 f7 f8 f9 f10
  rcases HA.out with g1 | g1
  all_goals
    go_wp2_with fail
    refine wp_region_held_drew (S := fun x1 => Kp [w.heap.size + 1] w1 x1) (by kernel_rfl) (Kp.drew (Kp.refl _ _)) (fun hHeld => ?_)
    refine tk 0 (arr5 0 0 0 0 0) rfl (.inl ⟨by rfl, ?_⟩) ?_
    · intro w9 hSw
      try dsimp only at hSw
      exact ex_load_by 33 (.tmp 7) rfl _ _ rfl (load5 _ _ 0 0 0 0 0 (Kp.at hSw (by simp) r2))
    try simp only [Act.put, gA, gS, gZ, sA, sZ, sS]
    refine tk 1 (.int .u8 0) rfl (.inl ⟨by rfl, ?_⟩) ?_
    · intro w9 hSw
      try dsimp only at hSw
      go_simp
      all_goals try decide
      all_goals try assumption
      all_goals try omega
    try simp only [Act.put, gA, gS, gZ, sA, sZ, sS]
    refine tk 2 (.int .u16 0) rfl (.inl ⟨by rfl, ?_⟩) ?_
    · intro w9 hSw
      try dsimp only at hSw
      go_simp
      all_goals try decide
      all_goals try assumption
      all_goals try omega
    try simp only [Act.put, gA, gS, gZ, sA, sZ, sS]
    refine tk 3 (.int .u8 0) rfl (.inl ⟨by rfl, ?_⟩) ?_
    · intro w9 hSw
      try dsimp only at hSw
      go_simp
      all_goals try decide
      all_goals try assumption
      all_goals try omega
    try simp only [Act.put, gA, gS, gZ, sA, sZ, sS]
    refine wpAnyH_ready (rs := [4]) (by kernel_rfl) (by simp) ?_
    refine AllReadyH.cons rfl (fun K' hK => ?_) AllReadyH.nil
    rw [if_pos (by rfl)]
    simp only [gA, gS, gZ]
    have S0 := hHeld
    refine wp_store_by 33 _ _ rfl ⟨w.heap.size + 1, 0, none⟩ _ rfl rfl (store5 _ _ _ _ _ _ _ 0 0 0 0 0 r1) ?_
    refine hK.out _ _ (S0.row _ _ (.inl (by simp))) (fun hHeld => ?_)
    clear hK K'
    try simp only [Act.put, gA, gS, gZ, sA, sZ, sS]
    refine tk 5 (.bool false) rfl (.inl ⟨by rfl, ?_⟩) ?_
    · intro w9 hSw
      try dsimp only at hSw
      go_simp
      all_goals try decide
      all_goals try assumption
      all_goals try omega
    try simp only [Act.put, gA, gS, gZ, sA, sZ, sS]
    refine wpAnyH_done (by kernel_rfl) ?_ _
    have hc := fun j => cell_of_row _ (w.heap.size + 1) j _ _ _ (setRow_heap w1.drew (w.heap.size + 1) _ #[.int .u8 0, .int .u8 0, .int .u8 0, .int .u8 0, .int .u8 0] _ _ r1)
    have FIN : Hid (Below w.heap.size w (w1.drew.setRow (w.heap.size + 1) #[.int .u8 0, .int .u8 0, .int .u8 0, .int .u8 0, .int .u8 0])) := below_setRow B1.drew (by omega) _
    clear hHeld
    go_wp2_with fail
    refine bodyPost_ret (v := rdV 0 0 0 0 0 0 0 0 false) ?_ rfl ⟨rfl, FIN.out⟩
    simp [results, Try.results13, go_sem, hc]
set_option linter.unusedSimpArgs false in
set_option maxHeartbeats 4000000 in
set_option maxRecDepth 100000 in
theorem read_ok (i n d0 d1 d2 d3 d4 d5 d6 d7 : Int) (r : Bool) (ho : Oct [d0, d1, d2, d3, d4, d5, d6, d7]) (hn : n = 8) (hr : r = false) (h : 129 ≤ i) (h2 : i ≤ 255) (w : World) : Calls Try.prog 13 #[frV i n d0 d1 d2 d3 d4 d5 d6 d7 r] w fun e w' => e = .returned (rdV (i - 128) (d0 + d1 * 256) d2 d3 d4 d5 d6 d7 true) ∧ Below w.heap.size w w' := by
  subst hn
  subst hr
  have HL : Hid (datL i 8 [d0, d1, d2, d3, d4, d5, d6, d7] false = [d0, d1, d2, d3, d4, d5, d6, d7]) := datL_ok _ _ _ _ _ _ _ _ _ (by omega)
  obtain ⟨ad, had⟩ : ∃ ad, Hid (ad = i - 128) := ⟨_, rfl⟩
  rw [← had.out]
  have a1 : ¬ ad < 1 := by have := had.out; omega
  have a2 : ¬ 127 < ad := by have := had.out; omega
  have wA : IntKind.u16.wrap (i - 128) = ad := by rw [had.out, IntKind.wrap_u16]; omega
  have wB : IntKind.u8.wrap ad = ad := by rw [IntKind.wrap_u8]; omega
  have od0 := ho d0 (by simp)
  have od1 := ho d1 (by simp)
  have OD : Hid (Oct [d3, d4, d5, d6, d7]) := fun n hn => ho n (by simp at hn ⊢; rcases hn with h | h | h | h | h <;> simp [h])
  have w0 : IntKind.u16.wrap d0 = d0 := by rw [IntKind.wrap_u16]; omega
  have w1' : IntKind.u16.wrap d1 = d1 := by rw [IntKind.wrap_u16]; omega
  obtain ⟨D1, hD1⟩ : ∃ D1, D1 = d1 * 256 := ⟨_, rfl⟩
  have wS : IntKind.u16.wrap (d1 * 256) = D1 := by rw [hD1, IntKind.wrap_u16]; omega
  obtain ⟨CC, hCC⟩ : ∃ CC, Hid (CC = d0 + d1 * 256) := ⟨_, rfl⟩
  rw [← hCC.out]
  have oR : bits .or .u16 d0 D1 = CC := by
    rw [hCC.out, hD1]
    have c : bits .or .u16 d0 (d1 * 256) = bits .or .u16 (d1 * 256) d0 := by simp only [bits, BitVec.or_comm]
    rw [c, u16_or _ _ (by omega) (by omega) (by omega) (by omega)]
    have e2 : (d1 * 256).toNat ||| d0.toNat = (d1 * 256).toNat + d0.toNat := by
      have e3 : (d1 * 256).toNat = 2 ^ 8 * d1.toNat := by omega
      rw [e3, Nat.two_pow_add_eq_or_of_lt (by omega)]
    rw [e2]; omega
  clear h h2 hD1 od0 od1
  have HD := fun W => data_any i 8 d0 d1 d2 d3 d4 d5 d6 d7 false W ho
  have W0 : Below w.heap.size w (((w.alloc (.cells (frC i 8 d0 d1 d2 d3 d4 d5 d6 d7 false) 40)).alloc z5b).alloc z5b) := (by repeat (first | exact Below.refl _ _ | apply Below.drew | apply Below.al))
  have p0 := at11 w (.cells (frC i 8 d0 d1 d2 d3 d4 d5 d6 d7 false) 40) w.heap.size rfl
  have p1 := at11 (w.alloc (.cells (frC i 8 d0 d1 d2 d3 d4 d5 d6 d7 false) 40)) z5b (w.heap.size + 1) (by simp)
  have p2 := at11 ((w.alloc (.cells (frC i 8 d0 d1 d2 d3 d4 d5 d6 d7 false) 40)).alloc z5b) z5b (w.heap.size + 1 + 1) (by simp)
  have q0 := ext11 (o := z5b) (ext11 (o := z5b) p0)
  have q1 := ext11 (o := z5b) p1
  obtain ⟨y, hy⟩ : ∃ y, y = ((w.alloc (.cells (frC i 8 d0 d1 d2 d3 d4 d5 d6 d7 false) 40)).alloc z5b).alloc z5b := ⟨_, rfl⟩
  rw [← hy] at W0 q0 q1 p2
  have HY : Hid (y = ((w.alloc (.cells (frC i 8 d0 d1 d2 d3 d4 d5 d6 d7 false) 40)).alloc z5b).alloc z5b) := hy
  have c0 : y.cell? ⟨w.heap.size, 0, none⟩ = some (.int .u16 i) := by rw [cell_of_row y _ 0 _ _ _ q0]; rfl
  have c1 : y.cell? ⟨w.heap.size, 1, none⟩ = some (.int .i64 8) := by rw [cell_of_row y _ 1 _ _ _ q0]; rfl
  have c2 : y.cell? ⟨w.heap.size, 2, none⟩ = some (.int .u8 d0) := by rw [cell_of_row y _ 2 _ _ _ q0]; rfl
  have c3 : y.cell? ⟨w.heap.size, 3, none⟩ = some (.int .u8 d1) := by rw [cell_of_row y _ 3 _ _ _ q0]; rfl
  have c4 : y.cell? ⟨w.heap.size, 4, none⟩ = some (.int .u8 d2) := by rw [cell_of_row y _ 4 _ _ _ q0]; rfl
  have c5 : y.cell? ⟨w.heap.size, 5, none⟩ = some (.int .u8 d3) := by rw [cell_of_row y _ 5 _ _ _ q0]; rfl
  have c6 : y.cell? ⟨w.heap.size, 6, none⟩ = some (.int .u8 d4) := by rw [cell_of_row y _ 6 _ _ _ q0]; rfl
  have c7 : y.cell? ⟨w.heap.size, 7, none⟩ = some (.int .u8 d5) := by rw [cell_of_row y _ 7 _ _ _ q0]; rfl
  have c8 : y.cell? ⟨w.heap.size, 8, none⟩ = some (.int .u8 d6) := by rw [cell_of_row y _ 8 _ _ _ q0]; rfl
  have c9 : y.cell? ⟨w.heap.size, 9, none⟩ = some (.int .u8 d7) := by rw [cell_of_row y _ 9 _ _ _ q0]; rfl
  have c10 : y.cell? ⟨w.heap.size, 10, none⟩ = some (.bool false) := by rw [cell_of_row y _ 10 _ _ _ q0]; rfl
  clear p0 p1 hy ho
  go_enter Try.func13, Try.ntmps13
  go_wp2_with fail
  rw [← HY.out]
  try go_wp2_with fail
  refine (HD _).mono ?_
  rintro e w1 ⟨a, len, cap, rfl, hl8, hlc, hrow, hfz, hb1⟩
  have B1 : Below w.heap.size w w1 := Below.trans W0 (hb1.mono W0.size)
  have r0 := blk11 hb1 q0
  have r1 := blk11 hb1 q1
  have r2 := blk11 hb1 p2
  have f0 : w1.cell? ⟨w.heap.size, 0, none⟩ = some (.int .u16 i) := by rw [cell_of_row w1 _ 0 _ _ _ r0]; rfl
  have f1 : w1.cell? ⟨w.heap.size, 1, none⟩ = some (.int .i64 8) := by rw [cell_of_row w1 _ 1 _ _ _ r0]; rfl
  have f2 : w1.cell? ⟨w.heap.size, 2, none⟩ = some (.int .u8 d0) := by rw [cell_of_row w1 _ 2 _ _ _ r0]; rfl
  have f3 : w1.cell? ⟨w.heap.size, 3, none⟩ = some (.int .u8 d1) := by rw [cell_of_row w1 _ 3 _ _ _ r0]; rfl
  have f4 : w1.cell? ⟨w.heap.size, 4, none⟩ = some (.int .u8 d2) := by rw [cell_of_row w1 _ 4 _ _ _ r0]; rfl
  have f5 : w1.cell? ⟨w.heap.size, 5, none⟩ = some (.int .u8 d3) := by rw [cell_of_row w1 _ 5 _ _ _ r0]; rfl
  have f6 : w1.cell? ⟨w.heap.size, 6, none⟩ = some (.int .u8 d4) := by rw [cell_of_row w1 _ 6 _ _ _ r0]; rfl
  have f7 : w1.cell? ⟨w.heap.size, 7, none⟩ = some (.int .u8 d5) := by rw [cell_of_row w1 _ 7 _ _ _ r0]; rfl
  have f8 : w1.cell? ⟨w.heap.size, 8, none⟩ = some (.int .u8 d6) := by rw [cell_of_row w1 _ 8 _ _ _ r0]; rfl
  have f9 : w1.cell? ⟨w.heap.size, 9, none⟩ = some (.int .u8 d7) := by rw [cell_of_row w1 _ 9 _ _ _ r0]; rfl
  have f10 : w1.cell? ⟨w.heap.size, 10, none⟩ = some (.bool false) := by rw [cell_of_row w1 _ 10 _ _ _ r0]; rfl
  clear c0 c1 c2 c3 c4 c5 c6 c7 c8 c9 c10 q0 q1 p2 hb1 W0 HD
  have l1 := lt_of_heap r0
  rw [HL.out] at hrow
  obtain rfl : len = 8 := by have := hrow.size; simpa using this.symm
  obtain ⟨bD, oD, eA, hcD⟩ := hrow.at_ (by decide)
  subst eA
  obtain ⟨hbD, ho0, _⟩ := hfz bD oD rfl
  subst ho0
  have D0c : w1.cell? ⟨bD, 0, none⟩ = some (.int .u8 d0) := by have := hcD 0 (by decide); simpa using this
  have D1c : w1.cell? ⟨bD, 1, none⟩ = some (.int .u8 d1) := by have := hcD 1 (by decide); simpa using this
  have D2c : w1.cell? ⟨bD, 2, none⟩ = some (.int .u8 d2) := by have := hcD 2 (by decide); simpa using this
  have D3c : w1.cell? ⟨bD, 3, none⟩ = some (.int .u8 d3) := by have := hcD 3 (by decide); simpa using this
  have D4c : w1.cell? ⟨bD, 4, none⟩ = some (.int .u8 d4) := by have := hcD 4 (by decide); simpa using this
  have D5c : w1.cell? ⟨bD, 5, none⟩ = some (.int .u8 d5) := by have := hcD 5 (by decide); simpa using this
  have D6c : w1.cell? ⟨bD, 6, none⟩ = some (.int .u8 d6) := by have := hcD 6 (by decide); simpa using this
  have D7c : w1.cell? ⟨bD, 7, none⟩ = some (.int .u8 d7) := by have := hcD 7 (by decide); simpa using this
  have LD : w.heap.size + 1 + 1 < bD := by have := hbD; rw [HY.out] at this; simp at this; omega
  clear hcD hfz hrow f1 f2 f3 f4 f5 f6 f7 f8 f9 f10
  obtain ⟨i4, hi4⟩ : ∃ t : TypeId, t = 70 := ⟨_, rfl⟩
  clear hi4 i4
  have e8 : Try.prog.underlying 70 = some (.slice (Try.prog.elem 70)) := by kernel_rfl
  have s8 : ∀ W, (sizeOf (Try.prog.elem 70)).run Try.prog W = .ok 1 W := fun W => by kernel_rfl
  have SL : ∀ W, (Instr.sliceAt 70 (.slice (some ⟨bD, 0, none⟩) 8 cap) (some (.int .i64 3)) none none).run Try.prog W = .ok (.slice (some ⟨bD, 3, none⟩) 5 (cap - 3)) W := fun W => by
    rw [run_sliceAt_slice W _ _ _ _ _ e8, run_slice_l W _ _ _ _ e8 .i64 3 (by decide) (by decide), s8]
    have : ¬ cap = 3 := by omega
    simp [Result.andThen, sliced, add_at, this]
  have CP : ∀ ty, (Builtin.copy_ #[70, 70] ty #[.slice (some ⟨w.heap.size + 1 + 1, 0, none⟩) 5 5, .slice (some ⟨bD, 3, none⟩) 5 (cap - 3)]).run Try.prog w1.drew = .ok (.int .i64 5) (w1.drew.setRow (w.heap.size + 1 + 1) #[.int .u8 d3, .int .u8 d4, .int .u8 d5, .int .u8 d6, .int .u8 d7]) := fun ty => by
    have := run_copy_row (P := Try.prog) w1.drew 70 70 ty 5 (w.heap.size + 1 + 1) 0 5 5 ⟨bD, 3, none⟩ 5 (cap - 3) _ _ [.int .u8 d3, .int .u8 d4, .int .u8 d5, .int .u8 d6, .int .u8 d7] Try.underlying70 info8s r2 rfl (fun j u hu => by
      rw [add_at]
      match j, hu with
      | 0, hu => cases hu; exact D3c
      | 1, hu => cases hu; exact D4c
      | 2, hu => cases hu; exact D5c
      | 3, hu => cases hu; exact D6c
      | 4, hu => cases hu; exact D7c) (by simp) (by simp [Value.oneCell'])
    simpa [goInt] using this
  clear e8 s8
  go_wp2_with fail
  refine wp_region_held_drew (S := fun x1 => Kp [w.heap.size + 1 + 1] w1 x1) (by kernel_rfl) (Kp.drew (Kp.refl _ _)) (fun hHeld => ?_)
  refine tk 0 (.slice (some ⟨w.heap.size + 1 + 1, 0, none⟩) 5 5) rfl (.inl ⟨by rfl, ?_⟩) ?_
  · intro w9 hSw
    try dsimp only at hSw
    go_simp
    all_goals try decide
    all_goals try assumption
    all_goals try omega
  try simp only [Act.put, gA, gS, gZ, sA, sZ, sS]
  refine tk 1 (.slice (some ⟨bD, 0, none⟩) 8 cap) rfl (.inl ⟨by rfl, ?_⟩) ?_
  · intro w9 hSw
    try dsimp only at hSw
    go_simp
    all_goals try decide
    all_goals try assumption
    all_goals try omega
  try simp only [Act.put, gA, gS, gZ, sA, sZ, sS]
  refine tk 2 (.slice (some ⟨bD, 3, none⟩) 5 (cap - 3)) rfl (.inl ⟨by rfl, ?_⟩) ?_
  · intro w9 hSw
    try dsimp only at hSw
    go_simp
    all_goals try decide
    all_goals try assumption
    all_goals try omega
  try simp only [Act.put, gA, gS, gZ, sA, sZ, sS]
  refine wpAnyH_ready (rs := [3]) (by kernel_rfl) (by simp) ?_
  refine AllReadyH.cons rfl (fun K' hK => ?_) AllReadyH.nil
  rw [if_pos (by rfl)]
  simp only [gA, gS, gZ]
  have S0 := hHeld
  go_wp2_with fail
  refine hK.out _ _ (S0.row _ _ (.inl (by simp))) (fun hHeld => ?_)
  clear hK K'
  try simp only [Act.put, gA, gS, gZ, sA, sZ, sS]
  refine wpAnyH_done (by kernel_rfl) ?_ _
  clear hHeld CP SL
  have B6 : Below w.heap.size w (w1.drew.setRow (w.heap.size + 1 + 1) #[.int .u8 d3, .int .u8 d4, .int .u8 d5, .int .u8 d6, .int .u8 d7]) := below_setRow B1.drew (by omega) _
  have t2 : (w1.drew.setRow (w.heap.size + 1 + 1) #[.int .u8 d3, .int .u8 d4, .int .u8 d5, .int .u8 d6, .int .u8 d7]).heap[w.heap.size + 1 + 1]? = some (.cells #[.int .u8 d3, .int .u8 d4, .int .u8 d5, .int .u8 d6, .int .u8 d7] 33 (0, 0)) := setRow_heap _ _ _ _ _ _ r2
  have t1 : (w1.drew.setRow (w.heap.size + 1 + 1) #[.int .u8 d3, .int .u8 d4, .int .u8 d5, .int .u8 d6, .int .u8 d7]).heap[w.heap.size + 1]? = some z5b := sh11 (by omega) r1
  have E0 : (w1.drew.setRow (w.heap.size + 1 + 1) #[.int .u8 d3, .int .u8 d4, .int .u8 d5, .int .u8 d6, .int .u8 d7]).cell? ⟨bD, 0, none⟩ = some (.int .u8 d0) := sr11 (by omega) D0c
  have E1 : (w1.drew.setRow (w.heap.size + 1 + 1) #[.int .u8 d3, .int .u8 d4, .int .u8 d5, .int .u8 d6, .int .u8 d7]).cell? ⟨bD, 1, none⟩ = some (.int .u8 d1) := sr11 (by omega) D1c
  have E2 : (w1.drew.setRow (w.heap.size + 1 + 1) #[.int .u8 d3, .int .u8 d4, .int .u8 d5, .int .u8 d6, .int .u8 d7]).cell? ⟨bD, 2, none⟩ = some (.int .u8 d2) := sr11 (by omega) D2c
  generalize hz : ((w1.drew.setRow (w.heap.size + 1 + 1) #[.int .u8 d3, .int .u8 d4, .int .u8 d5, .int .u8 d6, .int .u8 d7]) : World) = z at B6 t2 t1 E0 E1 E2 ⊢
  clear hz r0 r1 r2 B1 f0 l1 D0c D1c D2c D3c D4c D5c D6c D7c
  go_wp2_with fail
  refine wp_region_held_drew (S := fun x1 => Kp [w.heap.size + 1] z x1) (by kernel_rfl) (Kp.drew (Kp.refl _ _)) (fun hHeld => ?_)
  refine tk 0 (.int .u16 ad) rfl (.inl ⟨by rfl, ?_⟩) ?_
  · intro w9 hSw
    try dsimp only at hSw
    go_simp
    all_goals try decide
    all_goals try assumption
    all_goals try omega
  try simp only [Act.put, gA, gS, gZ, sA, sZ, sS]
  refine tk 1 (.int .u8 ad) rfl (.inl ⟨by rfl, ?_⟩) ?_
  · intro w9 hSw
    try dsimp only at hSw
    go_simp
    all_goals try decide
    all_goals try assumption
    all_goals try omega
  try simp only [Act.put, gA, gS, gZ, sA, sZ, sS]
  refine tk 2 (.slice (some ⟨bD, 0, none⟩) 8 cap) rfl (.inl ⟨by rfl, ?_⟩) ?_
  · intro w9 hSw
    try dsimp only at hSw
    go_simp
    all_goals try decide
    all_goals try assumption
    all_goals try omega
  try simp only [Act.put, gA, gS, gZ, sA, sZ, sS]
  refine tk 3 (.pointer (some ⟨bD, 0, none⟩)) rfl (.inl ⟨by rfl, ?_⟩) ?_
  · intro w9 hSw
    try dsimp only at hSw
    go_simp
    all_goals try decide
    all_goals try assumption
    all_goals try omega
  try simp only [Act.put, gA, gS, gZ, sA, sZ, sS]
  refine tk 4 (.int .u8 d0) rfl (.inl ⟨by rfl, ?_⟩) ?_
  · intro w9 hSw
    try dsimp only at hSw
    have hc9 := Kp.cell hSw E0 (by simp; omega)
    go_simp
    all_goals try decide
    all_goals try assumption
    all_goals try omega
  try simp only [Act.put, gA, gS, gZ, sA, sZ, sS]
  refine tk 5 (.int .u16 d0) rfl (.inl ⟨by rfl, ?_⟩) ?_
  · intro w9 hSw
    try dsimp only at hSw
    go_simp
    all_goals try decide
    all_goals try assumption
    all_goals try omega
  try simp only [Act.put, gA, gS, gZ, sA, sZ, sS]
  refine tk 6 (.slice (some ⟨bD, 0, none⟩) 8 cap) rfl (.inl ⟨by rfl, ?_⟩) ?_
  · intro w9 hSw
    try dsimp only at hSw
    go_simp
    all_goals try decide
    all_goals try assumption
    all_goals try omega
  try simp only [Act.put, gA, gS, gZ, sA, sZ, sS]
  refine tk 7 (.pointer (some ⟨bD, 1, none⟩)) rfl (.inl ⟨by rfl, ?_⟩) ?_
  · intro w9 hSw
    try dsimp only at hSw
    go_simp
    all_goals try decide
    all_goals try assumption
    all_goals try omega
  try simp only [Act.put, gA, gS, gZ, sA, sZ, sS]
  refine tk 8 (.int .u8 d1) rfl (.inl ⟨by rfl, ?_⟩) ?_
  · intro w9 hSw
    try dsimp only at hSw
    have hc9 := Kp.cell hSw E1 (by simp; omega)
    go_simp
    all_goals try decide
    all_goals try assumption
    all_goals try omega
  try simp only [Act.put, gA, gS, gZ, sA, sZ, sS]
  refine tk 9 (.int .u16 d1) rfl (.inl ⟨by rfl, ?_⟩) ?_
  · intro w9 hSw
    try dsimp only at hSw
    go_simp
    all_goals try decide
    all_goals try assumption
    all_goals try omega
  try simp only [Act.put, gA, gS, gZ, sA, sZ, sS]
  refine tk 10 (.int .u16 D1) rfl (.inl ⟨by rfl, ?_⟩) ?_
  · intro w9 hSw
    try dsimp only at hSw
    go_simp
    all_goals try decide
    all_goals try assumption
    all_goals try omega
  try simp only [Act.put, gA, gS, gZ, sA, sZ, sS]
  refine tk 11 (.int .u16 CC) rfl (.inl ⟨by rfl, ?_⟩) ?_
  · intro w9 hSw
    try dsimp only at hSw
    go_simp
    all_goals try decide
    all_goals try assumption
    all_goals try omega
  try simp only [Act.put, gA, gS, gZ, sA, sZ, sS]
  refine tk 12 (.slice (some ⟨bD, 0, none⟩) 8 cap) rfl (.inl ⟨by rfl, ?_⟩) ?_
  · intro w9 hSw
    try dsimp only at hSw
    go_simp
    all_goals try decide
    all_goals try assumption
    all_goals try omega
  try simp only [Act.put, gA, gS, gZ, sA, sZ, sS]
  refine tk 13 (.pointer (some ⟨bD, 2, none⟩)) rfl (.inl ⟨by rfl, ?_⟩) ?_
  · intro w9 hSw
    try dsimp only at hSw
    go_simp
    all_goals try decide
    all_goals try assumption
    all_goals try omega
  try simp only [Act.put, gA, gS, gZ, sA, sZ, sS]
  refine tk 14 (.int .u8 d2) rfl (.inl ⟨by rfl, ?_⟩) ?_
  · intro w9 hSw
    try dsimp only at hSw
    have hc9 := Kp.cell hSw E2 (by simp; omega)
    go_simp
    all_goals try decide
    all_goals try assumption
    all_goals try omega
  try simp only [Act.put, gA, gS, gZ, sA, sZ, sS]
  refine tk 15 (arr5 d3 d4 d5 d6 d7) rfl (.inl ⟨by rfl, ?_⟩) ?_
  · intro w9 hSw
    try dsimp only at hSw
    exact ex_load_by 33 (.tmp 7) rfl _ _ rfl (load5 _ _ d3 d4 d5 d6 d7 (Kp.at hSw (by simp) t2))
  try simp only [Act.put, gA, gS, gZ, sA, sZ, sS]
  refine tk 16 (.int .u8 ad) rfl (.inl ⟨by rfl, ?_⟩) ?_
  · intro w9 hSw
    try dsimp only at hSw
    go_simp
    all_goals try decide
    all_goals try assumption
    all_goals try omega
  try simp only [Act.put, gA, gS, gZ, sA, sZ, sS]
  refine tk 17 (.int .u16 CC) rfl (.inl ⟨by rfl, ?_⟩) ?_
  · intro w9 hSw
    try dsimp only at hSw
    go_simp
    all_goals try decide
    all_goals try assumption
    all_goals try omega
  try simp only [Act.put, gA, gS, gZ, sA, sZ, sS]
  refine tk 18 (.int .u8 d2) rfl (.inl ⟨by rfl, ?_⟩) ?_
  · intro w9 hSw
    try dsimp only at hSw
    go_simp
    all_goals try decide
    all_goals try assumption
    all_goals try omega
  try simp only [Act.put, gA, gS, gZ, sA, sZ, sS]
  refine wpAnyH_ready (rs := [19]) (by kernel_rfl) (by simp) ?_
  refine AllReadyH.cons rfl (fun K' hK => ?_) AllReadyH.nil
  rw [if_pos (by rfl)]
  simp only [gA, gS, gZ]
  have S0 := hHeld
  refine wp_store_by 33 _ _ rfl ⟨w.heap.size + 1, 0, none⟩ _ rfl rfl (store5 _ _ _ _ _ _ _ d3 d4 d5 d6 d7 t1) ?_
  refine hK.out _ _ (S0.row _ _ (.inl (by simp))) (fun hHeld => ?_)
  clear hK K'
  try simp only [Act.put, gA, gS, gZ, sA, sZ, sS]
  refine tk 20 (.bool true) rfl (.inl ⟨by rfl, ?_⟩) ?_
  · intro w9 hSw
    try dsimp only at hSw
    go_simp
    all_goals try decide
    all_goals try assumption
    all_goals try omega
  try simp only [Act.put, gA, gS, gZ, sA, sZ, sS]
  refine wpAnyH_done (by kernel_rfl) ?_ _
  have hc := fun j => cell_of_row _ (w.heap.size + 1) j _ _ _ (setRow_heap z.drew (w.heap.size + 1) _ #[.int .u8 d3, .int .u8 d4, .int .u8 d5, .int .u8 d6, .int .u8 d7] _ _ t1)
  have FIN : Hid (Below w.heap.size w (z.drew.setRow (w.heap.size + 1) #[.int .u8 d3, .int .u8 d4, .int .u8 d5, .int .u8 d6, .int .u8 d7])) := below_setRow B6.drew (by omega) _
  clear hHeld
  go_wp2_with fail
  refine bodyPost_ret (v := rdV ad CC d2 d3 d4 d5 d6 d7 true) ?_ rfl ⟨rfl, FIN.out⟩
  simp [results, Try.results13, go_sem, hc]
theorem read_any (i n d0 d1 d2 d3 d4 d5 d6 d7 : Int) (r : Bool) (ho : Oct [d0, d1, d2, d3, d4, d5, d6, d7]) (hi : 0 ≤ i) (w : World) : Calls Try.prog 13 #[frV i n d0 d1 d2 d3 d4 d5 d6 d7 r] w fun e w' => e = .returned (if rdB i n r = true then rdV (i - 128) (d0 + d1 * 256) d2 d3 d4 d5 d6 d7 true else rdV 0 0 0 0 0 0 0 0 false) ∧ Below w.heap.size w w' := by
  cases hb : rdB i n r with
  | true =>
    have h : 129 ≤ i ∧ i ≤ 255 ∧ n = 8 ∧ r = false := by simpa [rdB] using hb
    rw [if_pos rfl]
    exact read_ok i n d0 d1 d2 d3 d4 d5 d6 d7 r ho h.2.2.1 h.2.2.2 h.1 h.2.1 w
  | false =>
    rw [if_neg (by decide)]
    by_cases h1 : n = 8 ∧ r = false ∧ i ≤ 2047
    · exact read_far i n d0 d1 d2 d3 d4 d5 d6 d7 r ho hi h1.1 h1.2.1 h1.2.2 (by
        obtain ⟨rfl, rfl, h3⟩ := h1
        simp [rdB] at hb
        omega) w
    · exact read_len i n d0 d1 d2 d3 d4 d5 d6 d7 r ho h1 w
#print axioms read_any
end Go.Proofs.Ytnbdnmfnmnboiaa
