/-
  The walks of number, of producers (New, Start, Stop, Due).
-/
import Derived.Test.YtlijkgkkoahajaaYc
import Derived.BigQuiet
import Derived.Test.YtlijkgkkoahajaaTk9
namespace Go.Proofs.Ytlijkgkkoahajaa
open Go.RowKit

theorem cl11 {W W' : World} {p : Addr} {v : Value} (hb : Below W.heap.size W W') (h : W.cell? p = some v) : W'.cell? p = some v := (hb.cell (p := p) (block_lt_of_cell h)).trans h
theorem cla11 {W : World} {o : Obj} {p : Addr} {v : Value} (h : W.cell? p = some v) : (W.alloc o).cell? p = some v := cl11 (Below.al (Below.refl _ _) o) h
theorem sizeB : (Try.prog.info? 79).map (·.size) = some 2 := by kernel_rfl

set_option linter.unusedSimpArgs false in
set_option maxHeartbeats 4000000 in
set_option maxRecDepth 100000 in
theorem number_0 (id i n d0 d1 d2 d3 d4 d5 d6 d7 : Int) (r : Bool) (hi : id ≤ 2047) (w : World) : Calls Try.prog 40 #[btV id 0, frV i n d0 d1 d2 d3 d4 d5 d6 d7 r] w fun e w' => e = .returned (.tuple #[.int .u8 0, .bool (sameF i n d0 d1 d2 d3 d4 d5 d6 d7 r id 0 0 0 0 0 0 0 0 0 false)]) ∧ Below w.heap.size w w' := by
  have hq := fun w => eqlF w i n d0 d1 d2 d3 d4 d5 d6 d7 r id 0 0 0 0 0 0 0 0 0 false
  go_enter Try.func40, Try.ntmps40
  go_wp2_with fail
  refine (counted_0 _ _).mono ?_
  rintro e w1 ⟨rfl, rfl⟩
  go_wp2_with fail
  refine wp_region_held_drew (S := fun x => Below w.heap.size w x ∧ x.cell? ⟨w.heap.size + 1, 0, none⟩ = some (.int .u16 i) ∧ x.cell? ⟨w.heap.size + 1, 1, none⟩ = some (.int .i64 n) ∧ x.cell? ⟨w.heap.size + 1, 2, none⟩ = some (.int .u8 d0) ∧ x.cell? ⟨w.heap.size + 1, 3, none⟩ = some (.int .u8 d1) ∧ x.cell? ⟨w.heap.size + 1, 4, none⟩ = some (.int .u8 d2) ∧ x.cell? ⟨w.heap.size + 1, 5, none⟩ = some (.int .u8 d3) ∧ x.cell? ⟨w.heap.size + 1, 6, none⟩ = some (.int .u8 d4) ∧ x.cell? ⟨w.heap.size + 1, 7, none⟩ = some (.int .u8 d5) ∧ x.cell? ⟨w.heap.size + 1, 8, none⟩ = some (.int .u8 d6) ∧ x.cell? ⟨w.heap.size + 1, 9, none⟩ = some (.int .u8 d7) ∧ x.cell? ⟨w.heap.size + 1, 10, none⟩ = some (.bool r) ∧ x.cell? ⟨w.heap.size, 0, none⟩ = some (.int .u16 id) ∧ x.cell? ⟨w.heap.size, 1, none⟩ = some (.int .u8 0)) (by kernel_rfl) (⟨(by repeat (first | exact Below.refl _ _ | apply Below.drew | apply Below.al)), by simp [go_sem], by simp [go_sem], by simp [go_sem], by simp [go_sem], by simp [go_sem], by simp [go_sem], by simp [go_sem], by simp [go_sem], by simp [go_sem], by simp [go_sem], by simp [go_sem], by simp [go_sem], by simp [go_sem]⟩) (fun hHeld => ?_)
  refine tk 0 (frV i n d0 d1 d2 d3 d4 d5 d6 d7 r) rfl (.inl ⟨by rfl, ?_⟩) ?_
  · intro w9 hSw
    try dsimp only at hSw
    go_simp
    all_goals try decide
    all_goals try assumption
    all_goals try omega
  try simp only [Act.put, gA, gS, gZ, sA, sZ, sS]
  refine tk 1 (.agg #[.int .u16 id, .int .u8 0]) rfl (.inl ⟨by rfl, ?_⟩) ?_
  · intro w9 hSw
    try dsimp only at hSw
    go_simp
    all_goals try decide
    all_goals try assumption
    all_goals try omega
  try simp only [Act.put, gA, gS, gZ, sA, sZ, sS]
  refine wpAnyH_ready (rs := [2]) (by kernel_rfl) (by simp) ?_
  refine AllReadyH.cons rfl (fun K' hK => ?_) AllReadyH.nil
  rw [if_pos (by rfl)]
  simp only [gA, gS, gZ]
  obtain ⟨S0, S1, S2, S3, S4, S5, S6, S7, S8, S9, S10, S11, S12, S13⟩ := hHeld
  go_wp2_with fail
  refine (frame_0 _ _ hi _).mono ?_
  rintro e w1 ⟨rfl, hb1⟩
  try go_wp2_with fail
  refine hK.out _ _ (⟨Below.andThen S0 hb1, cl11 hb1 S1, cl11 hb1 S2, cl11 hb1 S3, cl11 hb1 S4, cl11 hb1 S5, cl11 hb1 S6, cl11 hb1 S7, cl11 hb1 S8, cl11 hb1 S9, cl11 hb1 S10, cl11 hb1 S11, cl11 hb1 S12, cl11 hb1 S13⟩) (fun hHeld => ?_)
  clear hK K'
  try simp only [Act.put, gA, gS, gZ, sA, sZ, sS]
  clear S0 S1 S2 S3 S4 S5 S6 S7 S8 S9 S10 S11 S12 S13 hb1
  refine tk 3 (.bool (sameF i n d0 d1 d2 d3 d4 d5 d6 d7 r id 0 0 0 0 0 0 0 0 0 false)) rfl (.inl ⟨by rfl, ?_⟩) ?_
  · intro w9 hSw
    try dsimp only at hSw
    go_simp
    all_goals try decide
    all_goals try assumption
    all_goals try omega
  try simp only [Act.put, gA, gS, gZ, sA, sZ, sS]
  refine tk 4 (.int .u8 0) rfl (.inl ⟨by rfl, ?_⟩) ?_
  · intro w9 hSw
    try dsimp only at hSw
    go_simp
    all_goals try decide
    all_goals try assumption
    all_goals try omega
  try simp only [Act.put, gA, gS, gZ, sA, sZ, sS]
  refine tk 5 (.bool (sameF i n d0 d1 d2 d3 d4 d5 d6 d7 r id 0 0 0 0 0 0 0 0 0 false)) rfl (.inl ⟨by rfl, ?_⟩) ?_
  · intro w9 hSw
    try dsimp only at hSw
    go_simp
    all_goals try decide
    all_goals try assumption
    all_goals try omega
  try simp only [Act.put, gA, gS, gZ, sA, sZ, sS]
  refine wpAnyH_done (by kernel_rfl) ?_ _
  go_wp2_with fail
  go_ret2
  exact ⟨rfl, hHeld.1⟩

set_option linter.unusedSimpArgs false in
set_option maxHeartbeats 4000000 in
set_option maxRecDepth 100000 in
theorem number_1 (id top i n d0 d1 d2 d3 d4 d5 d6 d7 : Int) (r : Bool) (hi : id ≤ 2047) (ht : ¬ top = 0) (hd : 0 ≤ d0 ∧ d0 < 256) (w : World) : Calls Try.prog 40 #[btV id top, frV i n d0 d1 d2 d3 d4 d5 d6 d7 r] w fun e w' => e = .returned (.tuple #[.int .u8 d0, .bool (decide (1 ≤ d0) && (decide (d0 ≤ top) && sameF i n d0 d1 d2 d3 d4 d5 d6 d7 r id 1 d0 0 0 0 0 0 0 0 false))]) ∧ Below w.heap.size w w' := by
  have hq := fun w => eqlF w i n d0 d1 d2 d3 d4 d5 d6 d7 r id 1 d0 0 0 0 0 0 0 0 false
  obtain ⟨q, HQ⟩ : ∃ q, Hid (q = (decide (1 ≤ d0) && (decide (d0 ≤ top) && sameF i n d0 d1 d2 d3 d4 d5 d6 d7 r id 1 d0 0 0 0 0 0 0 0 false))) := ⟨_, rfl⟩
  rw [← HQ.out]
  have HD : Hid (0 ≤ d0 ∧ d0 < 256) := hd
  clear hd
  by_cases h1 : d0 < 1
  · skip
    obtain rfl : q = false := by rw [HQ.out]; simp [*]; try omega
    clear HQ
    go_enter Try.func40, Try.ntmps40
    go_wp2_with fail
    refine (counted_1 _ _ ht _).mono ?_
    rintro e w1 ⟨rfl, rfl⟩
    go_wp2_with fail
    refine wp_region_held_drew (S := fun x => Below w.heap.size w x ∧ x.cell? ⟨w.heap.size + 1, 0, none⟩ = some (.int .u16 i) ∧ x.cell? ⟨w.heap.size + 1, 1, none⟩ = some (.int .i64 n) ∧ x.cell? ⟨w.heap.size + 1, 2, none⟩ = some (.int .u8 d0) ∧ x.cell? ⟨w.heap.size + 1, 3, none⟩ = some (.int .u8 d1) ∧ x.cell? ⟨w.heap.size + 1, 4, none⟩ = some (.int .u8 d2) ∧ x.cell? ⟨w.heap.size + 1, 5, none⟩ = some (.int .u8 d3) ∧ x.cell? ⟨w.heap.size + 1, 6, none⟩ = some (.int .u8 d4) ∧ x.cell? ⟨w.heap.size + 1, 7, none⟩ = some (.int .u8 d5) ∧ x.cell? ⟨w.heap.size + 1, 8, none⟩ = some (.int .u8 d6) ∧ x.cell? ⟨w.heap.size + 1, 9, none⟩ = some (.int .u8 d7) ∧ x.cell? ⟨w.heap.size + 1, 10, none⟩ = some (.bool r) ∧ x.cell? ⟨w.heap.size, 0, none⟩ = some (.int .u16 id) ∧ x.cell? ⟨w.heap.size, 1, none⟩ = some (.int .u8 top)) (by kernel_rfl) (⟨(by repeat (first | exact Below.refl _ _ | apply Below.drew | apply Below.al)), by simp [go_sem], by simp [go_sem], by simp [go_sem], by simp [go_sem], by simp [go_sem], by simp [go_sem], by simp [go_sem], by simp [go_sem], by simp [go_sem], by simp [go_sem], by simp [go_sem], by simp [go_sem], by simp [go_sem]⟩) (fun hHeld => ?_)
    refine tk 0 (.int .u8 d0) rfl (.inl ⟨by rfl, ?_⟩) ?_
    · intro w9 hSw
      try dsimp only at hSw
      go_simp
      all_goals try decide
      all_goals try assumption
      all_goals try omega
    try simp only [Act.put, gA, gS, gZ, sA, sZ, sS]
    refine tk 1 (.int .u8 d0) rfl (.inl ⟨by rfl, ?_⟩) ?_
    · intro w9 hSw
      try dsimp only at hSw
      go_simp
      all_goals try decide
      all_goals try assumption
      all_goals try omega
    try simp only [Act.put, gA, gS, gZ, sA, sZ, sS]
    refine tk 2 (.bool false) rfl (.inl ⟨by rfl, ?_⟩) ?_
    · intro w9 hSw
      try dsimp only at hSw
      go_simp
      all_goals try decide
      all_goals try assumption
      all_goals try omega
    try simp only [Act.put, gA, gS, gZ, sA, sZ, sS]
    refine tk 3 (.bool false) rfl (.inl ⟨by rfl, ?_⟩) ?_
    · intro w9 hSw
      try dsimp only at hSw
      go_simp
      all_goals try decide
      all_goals try assumption
      all_goals try omega
    try simp only [Act.put, gA, gS, gZ, sA, sZ, sS]
    refine tk 4 undef rfl (.inr ⟨by rfl, rfl⟩) ?_
    try simp only [Act.put, gA, gS, gZ, sA, sZ, sS]
    refine tk 5 undef rfl (.inr ⟨by rfl, rfl⟩) ?_
    try simp only [Act.put, gA, gS, gZ, sA, sZ, sS]
    refine tk 6 undef rfl (.inr ⟨by rfl, rfl⟩) ?_
    try simp only [Act.put, gA, gS, gZ, sA, sZ, sS]
    refine tk 7 undef rfl (.inr ⟨by rfl, rfl⟩) ?_
    try simp only [Act.put, gA, gS, gZ, sA, sZ, sS]
    refine tk 8 (.bool false) rfl (.inl ⟨by rfl, ?_⟩) ?_
    · intro w9 hSw
      try dsimp only at hSw
      go_simp
      all_goals try decide
      all_goals try assumption
      all_goals try omega
    try simp only [Act.put, gA, gS, gZ, sA, sZ, sS]
    refine tk 9 (.bool false) rfl (.inl ⟨by rfl, ?_⟩) ?_
    · intro w9 hSw
      try dsimp only at hSw
      go_simp
      all_goals try decide
      all_goals try assumption
      all_goals try omega
    try simp only [Act.put, gA, gS, gZ, sA, sZ, sS]
    refine tk 10 undef rfl (.inr ⟨by rfl, rfl⟩) ?_
    try simp only [Act.put, gA, gS, gZ, sA, sZ, sS]
    refine tk 11 undef rfl (.inr ⟨by rfl, rfl⟩) ?_
    try simp only [Act.put, gA, gS, gZ, sA, sZ, sS]
    refine tk 12 undef rfl (.inr ⟨by rfl, rfl⟩) ?_
    try simp only [Act.put, gA, gS, gZ, sA, sZ, sS]
    refine tk 13 undef rfl (.inr ⟨by rfl, rfl⟩) ?_
    try simp only [Act.put, gA, gS, gZ, sA, sZ, sS]
    refine tk 14 undef rfl (.inr ⟨by rfl, rfl⟩) ?_
    try simp only [Act.put, gA, gS, gZ, sA, sZ, sS]
    refine tk 15 (.bool false) rfl (.inl ⟨by rfl, ?_⟩) ?_
    · intro w9 hSw
      try dsimp only at hSw
      go_simp
      all_goals try decide
      all_goals try assumption
      all_goals try omega
    try simp only [Act.put, gA, gS, gZ, sA, sZ, sS]
    refine tk 16 (.int .u8 d0) rfl (.inl ⟨by rfl, ?_⟩) ?_
    · intro w9 hSw
      try dsimp only at hSw
      go_simp
      all_goals try decide
      all_goals try assumption
      all_goals try omega
    try simp only [Act.put, gA, gS, gZ, sA, sZ, sS]
    refine tk 17 (.bool false) rfl (.inl ⟨by rfl, ?_⟩) ?_
    · intro w9 hSw
      try dsimp only at hSw
      go_simp
      all_goals try decide
      all_goals try assumption
      all_goals try omega
    try simp only [Act.put, gA, gS, gZ, sA, sZ, sS]
    refine wpAnyH_done (by kernel_rfl) ?_ _
    go_wp2_with fail
    go_ret2
    exact ⟨rfl, hHeld.1⟩
  by_cases h2 : top < d0
  · skip
    obtain rfl : q = false := by rw [HQ.out]; simp [*]; try omega
    clear HQ
    go_enter Try.func40, Try.ntmps40
    go_wp2_with fail
    refine (counted_1 _ _ ht _).mono ?_
    rintro e w1 ⟨rfl, rfl⟩
    go_wp2_with fail
    refine wp_region_held_drew (S := fun x => Below w.heap.size w x ∧ x.cell? ⟨w.heap.size + 1, 0, none⟩ = some (.int .u16 i) ∧ x.cell? ⟨w.heap.size + 1, 1, none⟩ = some (.int .i64 n) ∧ x.cell? ⟨w.heap.size + 1, 2, none⟩ = some (.int .u8 d0) ∧ x.cell? ⟨w.heap.size + 1, 3, none⟩ = some (.int .u8 d1) ∧ x.cell? ⟨w.heap.size + 1, 4, none⟩ = some (.int .u8 d2) ∧ x.cell? ⟨w.heap.size + 1, 5, none⟩ = some (.int .u8 d3) ∧ x.cell? ⟨w.heap.size + 1, 6, none⟩ = some (.int .u8 d4) ∧ x.cell? ⟨w.heap.size + 1, 7, none⟩ = some (.int .u8 d5) ∧ x.cell? ⟨w.heap.size + 1, 8, none⟩ = some (.int .u8 d6) ∧ x.cell? ⟨w.heap.size + 1, 9, none⟩ = some (.int .u8 d7) ∧ x.cell? ⟨w.heap.size + 1, 10, none⟩ = some (.bool r) ∧ x.cell? ⟨w.heap.size, 0, none⟩ = some (.int .u16 id) ∧ x.cell? ⟨w.heap.size, 1, none⟩ = some (.int .u8 top)) (by kernel_rfl) (⟨(by repeat (first | exact Below.refl _ _ | apply Below.drew | apply Below.al)), by simp [go_sem], by simp [go_sem], by simp [go_sem], by simp [go_sem], by simp [go_sem], by simp [go_sem], by simp [go_sem], by simp [go_sem], by simp [go_sem], by simp [go_sem], by simp [go_sem], by simp [go_sem], by simp [go_sem]⟩) (fun hHeld => ?_)
    refine tk 0 (.int .u8 d0) rfl (.inl ⟨by rfl, ?_⟩) ?_
    · intro w9 hSw
      try dsimp only at hSw
      go_simp
      all_goals try decide
      all_goals try assumption
      all_goals try omega
    try simp only [Act.put, gA, gS, gZ, sA, sZ, sS]
    refine tk 1 (.int .u8 d0) rfl (.inl ⟨by rfl, ?_⟩) ?_
    · intro w9 hSw
      try dsimp only at hSw
      go_simp
      all_goals try decide
      all_goals try assumption
      all_goals try omega
    try simp only [Act.put, gA, gS, gZ, sA, sZ, sS]
    refine tk 2 (.bool true) rfl (.inl ⟨by rfl, ?_⟩) ?_
    · intro w9 hSw
      try dsimp only at hSw
      go_simp
      all_goals try decide
      all_goals try assumption
      all_goals try omega
    try simp only [Act.put, gA, gS, gZ, sA, sZ, sS]
    refine tk 3 (.bool true) rfl (.inl ⟨by rfl, ?_⟩) ?_
    · intro w9 hSw
      try dsimp only at hSw
      go_simp
      all_goals try decide
      all_goals try assumption
      all_goals try omega
    try simp only [Act.put, gA, gS, gZ, sA, sZ, sS]
    refine tk 4 (.int .u8 d0) rfl (.inl ⟨by rfl, ?_⟩) ?_
    · intro w9 hSw
      try dsimp only at hSw
      go_simp
      all_goals try decide
      all_goals try assumption
      all_goals try omega
    try simp only [Act.put, gA, gS, gZ, sA, sZ, sS]
    refine tk 5 (.pointer (some ⟨w.heap.size, 1, none⟩)) rfl (.inl ⟨by rfl, ?_⟩) ?_
    · intro w9 hSw
      try dsimp only at hSw
      go_simp
      all_goals try decide
      all_goals try assumption
      all_goals try omega
    try simp only [Act.put, gA, gS, gZ, sA, sZ, sS]
    refine tk 6 (.int .u8 top) rfl (.inl ⟨by rfl, ?_⟩) ?_
    · intro w9 hSw
      try dsimp only at hSw
      go_simp
      all_goals try decide
      all_goals try assumption
      all_goals try omega
    try simp only [Act.put, gA, gS, gZ, sA, sZ, sS]
    refine tk 7 (.bool false) rfl (.inl ⟨by rfl, ?_⟩) ?_
    · intro w9 hSw
      try dsimp only at hSw
      go_simp
      all_goals try decide
      all_goals try assumption
      all_goals try omega
    try simp only [Act.put, gA, gS, gZ, sA, sZ, sS]
    refine tk 8 (.bool false) rfl (.inl ⟨by rfl, ?_⟩) ?_
    · intro w9 hSw
      try dsimp only at hSw
      go_simp
      all_goals try decide
      all_goals try assumption
      all_goals try omega
    try simp only [Act.put, gA, gS, gZ, sA, sZ, sS]
    refine tk 9 (.bool false) rfl (.inl ⟨by rfl, ?_⟩) ?_
    · intro w9 hSw
      try dsimp only at hSw
      go_simp
      all_goals try decide
      all_goals try assumption
      all_goals try omega
    try simp only [Act.put, gA, gS, gZ, sA, sZ, sS]
    refine tk 10 undef rfl (.inr ⟨by rfl, rfl⟩) ?_
    try simp only [Act.put, gA, gS, gZ, sA, sZ, sS]
    refine tk 11 undef rfl (.inr ⟨by rfl, rfl⟩) ?_
    try simp only [Act.put, gA, gS, gZ, sA, sZ, sS]
    refine tk 12 undef rfl (.inr ⟨by rfl, rfl⟩) ?_
    try simp only [Act.put, gA, gS, gZ, sA, sZ, sS]
    refine tk 13 undef rfl (.inr ⟨by rfl, rfl⟩) ?_
    try simp only [Act.put, gA, gS, gZ, sA, sZ, sS]
    refine tk 14 undef rfl (.inr ⟨by rfl, rfl⟩) ?_
    try simp only [Act.put, gA, gS, gZ, sA, sZ, sS]
    refine tk 15 (.bool false) rfl (.inl ⟨by rfl, ?_⟩) ?_
    · intro w9 hSw
      try dsimp only at hSw
      go_simp
      all_goals try decide
      all_goals try assumption
      all_goals try omega
    try simp only [Act.put, gA, gS, gZ, sA, sZ, sS]
    refine tk 16 (.int .u8 d0) rfl (.inl ⟨by rfl, ?_⟩) ?_
    · intro w9 hSw
      try dsimp only at hSw
      go_simp
      all_goals try decide
      all_goals try assumption
      all_goals try omega
    try simp only [Act.put, gA, gS, gZ, sA, sZ, sS]
    refine tk 17 (.bool false) rfl (.inl ⟨by rfl, ?_⟩) ?_
    · intro w9 hSw
      try dsimp only at hSw
      go_simp
      all_goals try decide
      all_goals try assumption
      all_goals try omega
    try simp only [Act.put, gA, gS, gZ, sA, sZ, sS]
    refine wpAnyH_done (by kernel_rfl) ?_ _
    go_wp2_with fail
    go_ret2
    exact ⟨rfl, hHeld.1⟩
  have h3 : 1 ≤ d0 := by omega
  have h4 : d0 ≤ top := by omega
  clear h1 h2
  obtain rfl : q = (sameF i n d0 d1 d2 d3 d4 d5 d6 d7 r id 1 d0 0 0 0 0 0 0 0 false) := by rw [HQ.out]; simp [*]; try omega
  clear HQ
  go_enter Try.func40, Try.ntmps40
  go_wp2_with fail
  refine (counted_1 _ _ ht _).mono ?_
  rintro e w1 ⟨rfl, rfl⟩
  go_wp2_with fail
  refine wp_region_held_drew (S := fun x => Below w.heap.size w x ∧ x.cell? ⟨w.heap.size + 1, 0, none⟩ = some (.int .u16 i) ∧ x.cell? ⟨w.heap.size + 1, 1, none⟩ = some (.int .i64 n) ∧ x.cell? ⟨w.heap.size + 1, 2, none⟩ = some (.int .u8 d0) ∧ x.cell? ⟨w.heap.size + 1, 3, none⟩ = some (.int .u8 d1) ∧ x.cell? ⟨w.heap.size + 1, 4, none⟩ = some (.int .u8 d2) ∧ x.cell? ⟨w.heap.size + 1, 5, none⟩ = some (.int .u8 d3) ∧ x.cell? ⟨w.heap.size + 1, 6, none⟩ = some (.int .u8 d4) ∧ x.cell? ⟨w.heap.size + 1, 7, none⟩ = some (.int .u8 d5) ∧ x.cell? ⟨w.heap.size + 1, 8, none⟩ = some (.int .u8 d6) ∧ x.cell? ⟨w.heap.size + 1, 9, none⟩ = some (.int .u8 d7) ∧ x.cell? ⟨w.heap.size + 1, 10, none⟩ = some (.bool r) ∧ x.cell? ⟨w.heap.size, 0, none⟩ = some (.int .u16 id) ∧ x.cell? ⟨w.heap.size, 1, none⟩ = some (.int .u8 top)) (by kernel_rfl) (⟨(by repeat (first | exact Below.refl _ _ | apply Below.drew | apply Below.al)), by simp [go_sem], by simp [go_sem], by simp [go_sem], by simp [go_sem], by simp [go_sem], by simp [go_sem], by simp [go_sem], by simp [go_sem], by simp [go_sem], by simp [go_sem], by simp [go_sem], by simp [go_sem], by simp [go_sem]⟩) (fun hHeld => ?_)
  refine tk 0 (.int .u8 d0) rfl (.inl ⟨by rfl, ?_⟩) ?_
  · intro w9 hSw
    try dsimp only at hSw
    go_simp
    all_goals try decide
    all_goals try assumption
    all_goals try omega
  try simp only [Act.put, gA, gS, gZ, sA, sZ, sS]
  refine tk 1 (.int .u8 d0) rfl (.inl ⟨by rfl, ?_⟩) ?_
  · intro w9 hSw
    try dsimp only at hSw
    go_simp
    all_goals try decide
    all_goals try assumption
    all_goals try omega
  try simp only [Act.put, gA, gS, gZ, sA, sZ, sS]
  refine tk 2 (.bool true) rfl (.inl ⟨by rfl, ?_⟩) ?_
  · intro w9 hSw
    try dsimp only at hSw
    go_simp
    all_goals try decide
    all_goals try assumption
    all_goals try omega
  try simp only [Act.put, gA, gS, gZ, sA, sZ, sS]
  refine tk 3 (.bool true) rfl (.inl ⟨by rfl, ?_⟩) ?_
  · intro w9 hSw
    try dsimp only at hSw
    go_simp
    all_goals try decide
    all_goals try assumption
    all_goals try omega
  try simp only [Act.put, gA, gS, gZ, sA, sZ, sS]
  refine tk 4 (.int .u8 d0) rfl (.inl ⟨by rfl, ?_⟩) ?_
  · intro w9 hSw
    try dsimp only at hSw
    go_simp
    all_goals try decide
    all_goals try assumption
    all_goals try omega
  try simp only [Act.put, gA, gS, gZ, sA, sZ, sS]
  refine tk 5 (.pointer (some ⟨w.heap.size, 1, none⟩)) rfl (.inl ⟨by rfl, ?_⟩) ?_
  · intro w9 hSw
    try dsimp only at hSw
    go_simp
    all_goals try decide
    all_goals try assumption
    all_goals try omega
  try simp only [Act.put, gA, gS, gZ, sA, sZ, sS]
  refine tk 6 (.int .u8 top) rfl (.inl ⟨by rfl, ?_⟩) ?_
  · intro w9 hSw
    try dsimp only at hSw
    go_simp
    all_goals try decide
    all_goals try assumption
    all_goals try omega
  try simp only [Act.put, gA, gS, gZ, sA, sZ, sS]
  refine tk 7 (.bool true) rfl (.inl ⟨by rfl, ?_⟩) ?_
  · intro w9 hSw
    try dsimp only at hSw
    go_simp
    all_goals try decide
    all_goals try assumption
    all_goals try omega
  try simp only [Act.put, gA, gS, gZ, sA, sZ, sS]
  refine tk 8 (.bool true) rfl (.inl ⟨by rfl, ?_⟩) ?_
  · intro w9 hSw
    try dsimp only at hSw
    go_simp
    all_goals try decide
    all_goals try assumption
    all_goals try omega
  try simp only [Act.put, gA, gS, gZ, sA, sZ, sS]
  refine tk 9 (.bool true) rfl (.inl ⟨by rfl, ?_⟩) ?_
  · intro w9 hSw
    try dsimp only at hSw
    go_simp
    all_goals try decide
    all_goals try assumption
    all_goals try omega
  try simp only [Act.put, gA, gS, gZ, sA, sZ, sS]
  refine tk 10 (frV i n d0 d1 d2 d3 d4 d5 d6 d7 r) rfl (.inl ⟨by rfl, ?_⟩) ?_
  · intro w9 hSw
    try dsimp only at hSw
    go_simp
    all_goals try decide
    all_goals try assumption
    all_goals try omega
  try simp only [Act.put, gA, gS, gZ, sA, sZ, sS]
  refine tk 11 (.agg #[.int .u16 id, .int .u8 top]) rfl (.inl ⟨by rfl, ?_⟩) ?_
  · intro w9 hSw
    try dsimp only at hSw
    go_simp
    all_goals try decide
    all_goals try assumption
    all_goals try omega
  try simp only [Act.put, gA, gS, gZ, sA, sZ, sS]
  refine tk 12 (.int .u8 d0) rfl (.inl ⟨by rfl, ?_⟩) ?_
  · intro w9 hSw
    try dsimp only at hSw
    go_simp
    all_goals try decide
    all_goals try assumption
    all_goals try omega
  try simp only [Act.put, gA, gS, gZ, sA, sZ, sS]
  refine wpAnyH_ready (rs := [13]) (by kernel_rfl) (by simp) ?_
  refine AllReadyH.cons rfl (fun K' hK => ?_) AllReadyH.nil
  rw [if_pos (by rfl)]
  simp only [gA, gS, gZ]
  obtain ⟨S0, S1, S2, S3, S4, S5, S6, S7, S8, S9, S10, S11, S12, S13⟩ := hHeld
  go_wp2_with fail
  refine (frame_1 _ _ _ hi ht HD.out _).mono ?_
  rintro e w1 ⟨rfl, hb1⟩
  try go_wp2_with fail
  refine hK.out _ _ (⟨Below.andThen S0 hb1, cl11 hb1 S1, cl11 hb1 S2, cl11 hb1 S3, cl11 hb1 S4, cl11 hb1 S5, cl11 hb1 S6, cl11 hb1 S7, cl11 hb1 S8, cl11 hb1 S9, cl11 hb1 S10, cl11 hb1 S11, cl11 hb1 S12, cl11 hb1 S13⟩) (fun hHeld => ?_)
  clear hK K'
  try simp only [Act.put, gA, gS, gZ, sA, sZ, sS]
  clear S0 S1 S2 S3 S4 S5 S6 S7 S8 S9 S10 S11 S12 S13 hb1
  refine tk 14 (.bool (sameF i n d0 d1 d2 d3 d4 d5 d6 d7 r id 1 d0 0 0 0 0 0 0 0 false)) rfl (.inl ⟨by rfl, ?_⟩) ?_
  · intro w9 hSw
    try dsimp only at hSw
    go_simp
    all_goals try decide
    all_goals try assumption
    all_goals try omega
  try simp only [Act.put, gA, gS, gZ, sA, sZ, sS]
  refine tk 15 (.bool (sameF i n d0 d1 d2 d3 d4 d5 d6 d7 r id 1 d0 0 0 0 0 0 0 0 false)) rfl (.inl ⟨by rfl, ?_⟩) ?_
  · intro w9 hSw
    try dsimp only at hSw
    go_simp
    all_goals try decide
    all_goals try assumption
    all_goals try omega
  try simp only [Act.put, gA, gS, gZ, sA, sZ, sS]
  refine tk 16 (.int .u8 d0) rfl (.inl ⟨by rfl, ?_⟩) ?_
  · intro w9 hSw
    try dsimp only at hSw
    go_simp
    all_goals try decide
    all_goals try assumption
    all_goals try omega
  try simp only [Act.put, gA, gS, gZ, sA, sZ, sS]
  refine tk 17 (.bool (sameF i n d0 d1 d2 d3 d4 d5 d6 d7 r id 1 d0 0 0 0 0 0 0 0 false)) rfl (.inl ⟨by rfl, ?_⟩) ?_
  · intro w9 hSw
    try dsimp only at hSw
    go_simp
    all_goals try decide
    all_goals try assumption
    all_goals try omega
  try simp only [Act.put, gA, gS, gZ, sA, sZ, sS]
  refine wpAnyH_done (by kernel_rfl) ?_ _
  go_wp2_with fail
  go_ret2
  exact ⟨rfl, hHeld.1⟩
end Go.Proofs.Ytlijkgkkoahajaa
