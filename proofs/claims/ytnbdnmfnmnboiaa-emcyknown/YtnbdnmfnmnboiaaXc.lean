/-
  The document's Read; EmcyReads of any frame.
-/
import Derived.Test.YtnbdnmfnmnboiaaXb
import Derived.Test.YtnbdnmfnmnboiaaTk9
namespace Go.Proofs.Ytnbdnmfnmnboiaa
open Go.RowKit

set_option linter.unusedSimpArgs false in
set_option maxHeartbeats 4000000 in
set_option maxRecDepth 100000 in
theorem rread_low (i n d0 d1 d2 d3 d4 d5 d6 d7 : Int) (r : Bool) (h : i ≤ 128) (w : World) : Calls Try.prog 14 #[frV i n d0 d1 d2 d3 d4 d5 d6 d7 r] w fun e w' => e = .returned (rdV 0 0 0 0 0 0 0 0 false) ∧ Below w.heap.size w w' := by
  go_enter Try.func14, Try.ntmps14
  go_wp2_with fail
  exact bodyPost_ret (v := rdV 0 0 0 0 0 0 0 0 false) (by simp [results, Try.results14, go_sem]) rfl ⟨rfl, (by repeat (first | exact Below.refl _ _ | apply Below.drew | apply Below.al))⟩
set_option linter.unusedSimpArgs false in
set_option maxHeartbeats 4000000 in
set_option maxRecDepth 100000 in
theorem rread_high (i n d0 d1 d2 d3 d4 d5 d6 d7 : Int) (r : Bool) (h : ¬ i ≤ 128) (h2 : 255 < i) (w : World) : Calls Try.prog 14 #[frV i n d0 d1 d2 d3 d4 d5 d6 d7 r] w fun e w' => e = .returned (rdV 0 0 0 0 0 0 0 0 false) ∧ Below w.heap.size w w' := by
  go_enter Try.func14, Try.ntmps14
  go_wp2_with fail
  exact bodyPost_ret (v := rdV 0 0 0 0 0 0 0 0 false) (by simp [results, Try.results14, go_sem]) rfl ⟨rfl, (by repeat (first | exact Below.refl _ _ | apply Below.drew | apply Below.al))⟩
set_option linter.unusedSimpArgs false in
set_option maxHeartbeats 4000000 in
set_option maxRecDepth 100000 in
theorem rread_ask (i n d0 d1 d2 d3 d4 d5 d6 d7 : Int) (r : Bool) (h : ¬ i ≤ 128) (h2 : ¬ 255 < i) (hr : r = true) (w : World) : Calls Try.prog 14 #[frV i n d0 d1 d2 d3 d4 d5 d6 d7 r] w fun e w' => e = .returned (rdV 0 0 0 0 0 0 0 0 false) ∧ Below w.heap.size w w' := by
  subst hr
  go_enter Try.func14, Try.ntmps14
  go_wp2_with fail
  exact bodyPost_ret (v := rdV 0 0 0 0 0 0 0 0 false) (by simp [results, Try.results14, go_sem]) rfl ⟨rfl, (by repeat (first | exact Below.refl _ _ | apply Below.drew | apply Below.al))⟩
set_option linter.unusedSimpArgs false in
set_option maxHeartbeats 4000000 in
set_option maxRecDepth 100000 in
theorem rread_len (i n d0 d1 d2 d3 d4 d5 d6 d7 : Int) (r : Bool) (h : ¬ i ≤ 128) (h2 : ¬ 255 < i) (hr : r = false) (hn : ¬ n = 8) (w : World) : Calls Try.prog 14 #[frV i n d0 d1 d2 d3 d4 d5 d6 d7 r] w fun e w' => e = .returned (rdV 0 0 0 0 0 0 0 0 false) ∧ Below w.heap.size w w' := by
  subst hr
  go_enter Try.func14, Try.ntmps14
  go_wp2_with fail
  exact bodyPost_ret (v := rdV 0 0 0 0 0 0 0 0 false) (by simp [results, Try.results14, go_sem]) rfl ⟨rfl, (by repeat (first | exact Below.refl _ _ | apply Below.drew | apply Below.al))⟩
set_option linter.unusedSimpArgs false in
set_option maxHeartbeats 4000000 in
set_option maxRecDepth 100000 in
theorem rread_ok (i n d0 d1 d2 d3 d4 d5 d6 d7 : Int) (r : Bool) (ho : Oct [d0, d1, d2, d3, d4, d5, d6, d7]) (h : ¬ i ≤ 128) (h2 : ¬ 255 < i) (hr : r = false) (hn : n = 8) (w : World) : Calls Try.prog 14 #[frV i n d0 d1 d2 d3 d4 d5 d6 d7 r] w fun e w' => e = .returned (rdV (i - 128) (d0 + d1 * 256) d2 d3 d4 d5 d6 d7 true) ∧ Below w.heap.size w w' := by
  subst hn
  subst hr
  obtain ⟨ad, had⟩ : ∃ ad, Hid (ad = i - 128) := ⟨_, rfl⟩
  rw [← had.out]
  have wA : IntKind.u16.wrap (i - 128) = ad := by rw [had.out, IntKind.wrap_u16]; omega
  have wB : IntKind.u8.wrap ad = ad := by rw [IntKind.wrap_u8]; have := had.out; omega
  have od0 := ho d0 (by simp)
  have od1 := ho d1 (by simp)
  have w0 : IntKind.u16.wrap d0 = d0 := by rw [IntKind.wrap_u16]; omega
  have w1' : IntKind.u16.wrap d1 = d1 := by rw [IntKind.wrap_u16]; omega
  obtain ⟨D1, hD1⟩ : ∃ D1, D1 = d1 * 256 := ⟨_, rfl⟩
  have wS : IntKind.u16.wrap (d1 * 256) = D1 := by rw [hD1, IntKind.wrap_u16]; omega
  obtain ⟨CC, hCC⟩ : ∃ CC, Hid (CC = d0 + d1 * 256) := ⟨_, rfl⟩
  rw [← hCC.out]
  have oR : bits .or .u16 d0 D1 = CC := by
    rw [hCC.out, hD1]
    have c : bits .or .u16 d0 (d1 * 256) = bits .or .u16 (d1 * 256) d0 := by simp only [bits, BitVec.or_comm]
    rw [c, u16_or _ _ (by omega) (by omega) (by omega) (by omega)]
    have e2 : (d1 * 256).toNat ||| d0.toNat = (d1 * 256).toNat + d0.toNat := by
      have e3 : (d1 * 256).toNat = 2 ^ 8 * d1.toNat := by omega
      rw [e3, Nat.two_pow_add_eq_or_of_lt (by omega)]
    rw [e2]; omega
  clear hD1 od0 od1 ho
  go_enter Try.func14, Try.ntmps14
  go_wp2_with fail
  have t0 := ext11 (o := .cells #[.int .u8 d0, .int .u8 d1, .int .u8 d2, .int .u8 d3, .int .u8 d4, .int .u8 d5, .int .u8 d6, .int .u8 d7] 38) (ext11 (o := z5b) (at11 w (.cells (frC i 8 d0 d1 d2 d3 d4 d5 d6 d7 false) 40) w.heap.size rfl))
  have t1 := ext11 (o := .cells #[.int .u8 d0, .int .u8 d1, .int .u8 d2, .int .u8 d3, .int .u8 d4, .int .u8 d5, .int .u8 d6, .int .u8 d7] 38) (at11 (w.alloc (.cells (frC i 8 d0 d1 d2 d3 d4 d5 d6 d7 false) 40)) z5b (w.heap.size + 1) (by simp))
  have t2 := at11 ((w.alloc (.cells (frC i 8 d0 d1 d2 d3 d4 d5 d6 d7 false) 40)).alloc z5b) (.cells #[.int .u8 d0, .int .u8 d1, .int .u8 d2, .int .u8 d3, .int .u8 d4, .int .u8 d5, .int .u8 d6, .int .u8 d7] 38) (w.heap.size + 1 + 1) (by simp)
  have B6 : Below w.heap.size w (((w.alloc (.cells (frC i 8 d0 d1 d2 d3 d4 d5 d6 d7 false) 40)).alloc z5b).alloc (.cells #[.int .u8 d0, .int .u8 d1, .int .u8 d2, .int .u8 d3, .int .u8 d4, .int .u8 d5, .int .u8 d6, .int .u8 d7] 38)) := (by repeat (first | exact Below.refl _ _ | apply Below.drew | apply Below.al))
  generalize hz : ((((w.alloc (.cells (frC i 8 d0 d1 d2 d3 d4 d5 d6 d7 false) 40)).alloc z5b).alloc (.cells #[.int .u8 d0, .int .u8 d1, .int .u8 d2, .int .u8 d3, .int .u8 d4, .int .u8 d5, .int .u8 d6, .int .u8 d7] 38)) : World) = z at B6 t0 t1 t2 ⊢
  clear hz
  have f0 : z.cell? ⟨w.heap.size, 0, none⟩ = some (.int .u16 i) := by rw [cell_of_row z _ 0 _ _ _ t0]; rfl
  have E0 : z.cell? ⟨w.heap.size + 1 + 1, 0, none⟩ = some (.int .u8 d0) := by rw [cell_of_row z _ 0 _ _ _ t2]; rfl
  have E1 : z.cell? ⟨w.heap.size + 1 + 1, 1, none⟩ = some (.int .u8 d1) := by rw [cell_of_row z _ 1 _ _ _ t2]; rfl
  have E2 : z.cell? ⟨w.heap.size + 1 + 1, 2, none⟩ = some (.int .u8 d2) := by rw [cell_of_row z _ 2 _ _ _ t2]; rfl
  have E3 : z.cell? ⟨w.heap.size + 1 + 1, 3, none⟩ = some (.int .u8 d3) := by rw [cell_of_row z _ 3 _ _ _ t2]; rfl
  have E4 : z.cell? ⟨w.heap.size + 1 + 1, 4, none⟩ = some (.int .u8 d4) := by rw [cell_of_row z _ 4 _ _ _ t2]; rfl
  have E5 : z.cell? ⟨w.heap.size + 1 + 1, 5, none⟩ = some (.int .u8 d5) := by rw [cell_of_row z _ 5 _ _ _ t2]; rfl
  have E6 : z.cell? ⟨w.heap.size + 1 + 1, 6, none⟩ = some (.int .u8 d6) := by rw [cell_of_row z _ 6 _ _ _ t2]; rfl
  have E7 : z.cell? ⟨w.heap.size + 1 + 1, 7, none⟩ = some (.int .u8 d7) := by rw [cell_of_row z _ 7 _ _ _ t2]; rfl
  clear t0 t2
  refine wp_region_held_drew (S := fun x1 => Kp [w.heap.size + 1] z x1) (by kernel_rfl) (Kp.drew (Kp.refl _ _)) (fun hHeld => ?_)
  refine tk 0 (.pointer (some ⟨w.heap.size, 0, none⟩)) rfl (.inl ⟨by rfl, ?_⟩) ?_
  · intro w9 hSw
    try dsimp only at hSw
    go_simp
    all_goals try decide
    all_goals try assumption
    all_goals try omega
  try simp only [Act.put, gA, gS, gZ, sA, sZ, sS]
  refine tk 1 (.int .u16 i) rfl (.inl ⟨by rfl, ?_⟩) ?_
  · intro w9 hSw
    try dsimp only at hSw
    have hc9 := Kp.cell hSw f0 (by simp)
    go_simp
    all_goals try decide
    all_goals try assumption
    all_goals try omega
  try simp only [Act.put, gA, gS, gZ, sA, sZ, sS]
  refine tk 2 (.int .u16 ad) rfl (.inl ⟨by rfl, ?_⟩) ?_
  · intro w9 hSw
    try dsimp only at hSw
    go_simp
    all_goals try decide
    all_goals try assumption
    all_goals try omega
  try simp only [Act.put, gA, gS, gZ, sA, sZ, sS]
  refine tk 3 (.int .u8 ad) rfl (.inl ⟨by rfl, ?_⟩) ?_
  · intro w9 hSw
    try dsimp only at hSw
    go_simp
    all_goals try decide
    all_goals try assumption
    all_goals try omega
  try simp only [Act.put, gA, gS, gZ, sA, sZ, sS]
  refine tk 4 (.pointer (some ⟨w.heap.size + 1 + 1, 0, none⟩)) rfl (.inl ⟨by rfl, ?_⟩) ?_
  · intro w9 hSw
    try dsimp only at hSw
    go_simp
    all_goals try decide
    all_goals try assumption
    all_goals try omega
  try simp only [Act.put, gA, gS, gZ, sA, sZ, sS]
  refine tk 5 (.int .u8 d0) rfl (.inl ⟨by rfl, ?_⟩) ?_
  · intro w9 hSw
    try dsimp only at hSw
    have hc9 := Kp.cell hSw E0 (by simp)
    go_simp
    all_goals try decide
    all_goals try assumption
    all_goals try omega
  try simp only [Act.put, gA, gS, gZ, sA, sZ, sS]
  refine tk 6 (.int .u16 d0) rfl (.inl ⟨by rfl, ?_⟩) ?_
  · intro w9 hSw
    try dsimp only at hSw
    go_simp
    all_goals try decide
    all_goals try assumption
    all_goals try omega
  try simp only [Act.put, gA, gS, gZ, sA, sZ, sS]
  refine tk 7 (.pointer (some ⟨w.heap.size + 1 + 1, 1, none⟩)) rfl (.inl ⟨by rfl, ?_⟩) ?_
  · intro w9 hSw
    try dsimp only at hSw
    go_simp
    all_goals try decide
    all_goals try assumption
    all_goals try omega
  try simp only [Act.put, gA, gS, gZ, sA, sZ, sS]
  refine tk 8 (.int .u8 d1) rfl (.inl ⟨by rfl, ?_⟩) ?_
  · intro w9 hSw
    try dsimp only at hSw
    have hc9 := Kp.cell hSw E1 (by simp)
    go_simp
    all_goals try decide
    all_goals try assumption
    all_goals try omega
  try simp only [Act.put, gA, gS, gZ, sA, sZ, sS]
  refine tk 9 (.int .u16 d1) rfl (.inl ⟨by rfl, ?_⟩) ?_
  · intro w9 hSw
    try dsimp only at hSw
    go_simp
    all_goals try decide
    all_goals try assumption
    all_goals try omega
  try simp only [Act.put, gA, gS, gZ, sA, sZ, sS]
  refine tk 10 (.int .u16 D1) rfl (.inl ⟨by rfl, ?_⟩) ?_
  · intro w9 hSw
    try dsimp only at hSw
    go_simp
    all_goals try decide
    all_goals try assumption
    all_goals try omega
  try simp only [Act.put, gA, gS, gZ, sA, sZ, sS]
  refine tk 11 (.int .u16 CC) rfl (.inl ⟨by rfl, ?_⟩) ?_
  · intro w9 hSw
    try dsimp only at hSw
    go_simp
    all_goals try decide
    all_goals try assumption
    all_goals try omega
  try simp only [Act.put, gA, gS, gZ, sA, sZ, sS]
  refine tk 12 (.pointer (some ⟨w.heap.size + 1 + 1, 2, none⟩)) rfl (.inl ⟨by rfl, ?_⟩) ?_
  · intro w9 hSw
    try dsimp only at hSw
    go_simp
    all_goals try decide
    all_goals try assumption
    all_goals try omega
  try simp only [Act.put, gA, gS, gZ, sA, sZ, sS]
  refine tk 13 (.int .u8 d2) rfl (.inl ⟨by rfl, ?_⟩) ?_
  · intro w9 hSw
    try dsimp only at hSw
    have hc9 := Kp.cell hSw E2 (by simp)
    go_simp
    all_goals try decide
    all_goals try assumption
    all_goals try omega
  try simp only [Act.put, gA, gS, gZ, sA, sZ, sS]
  refine tk 14 (.pointer (some ⟨w.heap.size + 1 + 1, 3, none⟩)) rfl (.inl ⟨by rfl, ?_⟩) ?_
  · intro w9 hSw
    try dsimp only at hSw
    go_simp
    all_goals try decide
    all_goals try assumption
    all_goals try omega
  try simp only [Act.put, gA, gS, gZ, sA, sZ, sS]
  refine tk 15 (.int .u8 d3) rfl (.inl ⟨by rfl, ?_⟩) ?_
  · intro w9 hSw
    try dsimp only at hSw
    have hc9 := Kp.cell hSw E3 (by simp)
    go_simp
    all_goals try decide
    all_goals try assumption
    all_goals try omega
  try simp only [Act.put, gA, gS, gZ, sA, sZ, sS]
  refine tk 16 (.pointer (some ⟨w.heap.size + 1 + 1, 4, none⟩)) rfl (.inl ⟨by rfl, ?_⟩) ?_
  · intro w9 hSw
    try dsimp only at hSw
    go_simp
    all_goals try decide
    all_goals try assumption
    all_goals try omega
  try simp only [Act.put, gA, gS, gZ, sA, sZ, sS]
  refine tk 17 (.int .u8 d4) rfl (.inl ⟨by rfl, ?_⟩) ?_
  · intro w9 hSw
    try dsimp only at hSw
    have hc9 := Kp.cell hSw E4 (by simp)
    go_simp
    all_goals try decide
    all_goals try assumption
    all_goals try omega
  try simp only [Act.put, gA, gS, gZ, sA, sZ, sS]
  refine tk 18 (.pointer (some ⟨w.heap.size + 1 + 1, 5, none⟩)) rfl (.inl ⟨by rfl, ?_⟩) ?_
  · intro w9 hSw
    try dsimp only at hSw
    go_simp
    all_goals try decide
    all_goals try assumption
    all_goals try omega
  try simp only [Act.put, gA, gS, gZ, sA, sZ, sS]
  refine tk 19 (.int .u8 d5) rfl (.inl ⟨by rfl, ?_⟩) ?_
  · intro w9 hSw
    try dsimp only at hSw
    have hc9 := Kp.cell hSw E5 (by simp)
    go_simp
    all_goals try decide
    all_goals try assumption
    all_goals try omega
  try simp only [Act.put, gA, gS, gZ, sA, sZ, sS]
  refine tk 20 (.pointer (some ⟨w.heap.size + 1 + 1, 6, none⟩)) rfl (.inl ⟨by rfl, ?_⟩) ?_
  · intro w9 hSw
    try dsimp only at hSw
    go_simp
    all_goals try decide
    all_goals try assumption
    all_goals try omega
  try simp only [Act.put, gA, gS, gZ, sA, sZ, sS]
  refine tk 21 (.int .u8 d6) rfl (.inl ⟨by rfl, ?_⟩) ?_
  · intro w9 hSw
    try dsimp only at hSw
    have hc9 := Kp.cell hSw E6 (by simp)
    go_simp
    all_goals try decide
    all_goals try assumption
    all_goals try omega
  try simp only [Act.put, gA, gS, gZ, sA, sZ, sS]
  refine tk 22 (.pointer (some ⟨w.heap.size + 1 + 1, 7, none⟩)) rfl (.inl ⟨by rfl, ?_⟩) ?_
  · intro w9 hSw
    try dsimp only at hSw
    go_simp
    all_goals try decide
    all_goals try assumption
    all_goals try omega
  try simp only [Act.put, gA, gS, gZ, sA, sZ, sS]
  refine tk 23 (.int .u8 d7) rfl (.inl ⟨by rfl, ?_⟩) ?_
  · intro w9 hSw
    try dsimp only at hSw
    have hc9 := Kp.cell hSw E7 (by simp)
    go_simp
    all_goals try decide
    all_goals try assumption
    all_goals try omega
  try simp only [Act.put, gA, gS, gZ, sA, sZ, sS]
  refine tk 24 (arr5 d3 d4 d5 d6 d7) rfl (.inl ⟨by rfl, ?_⟩) ?_
  · intro w9 hSw
    try dsimp only at hSw
    go_simp
    all_goals try decide
    all_goals try assumption
    all_goals try omega
  try simp only [Act.put, gA, gS, gZ, sA, sZ, sS]
  refine tk 25 (.int .u8 ad) rfl (.inl ⟨by rfl, ?_⟩) ?_
  · intro w9 hSw
    try dsimp only at hSw
    go_simp
    all_goals try decide
    all_goals try assumption
    all_goals try omega
  try simp only [Act.put, gA, gS, gZ, sA, sZ, sS]
  refine tk 26 (.int .u16 CC) rfl (.inl ⟨by rfl, ?_⟩) ?_
  · intro w9 hSw
    try dsimp only at hSw
    go_simp
    all_goals try decide
    all_goals try assumption
    all_goals try omega
  try simp only [Act.put, gA, gS, gZ, sA, sZ, sS]
  refine tk 27 (.int .u8 d2) rfl (.inl ⟨by rfl, ?_⟩) ?_
  · intro w9 hSw
    try dsimp only at hSw
    go_simp
    all_goals try decide
    all_goals try assumption
    all_goals try omega
  try simp only [Act.put, gA, gS, gZ, sA, sZ, sS]
  refine wpAnyH_ready (rs := [28]) (by kernel_rfl) (by simp) ?_
  refine AllReadyH.cons rfl (fun K' hK => ?_) AllReadyH.nil
  rw [if_pos (by rfl)]
  simp only [gA, gS, gZ]
  have S0 := hHeld
  refine wp_store_by 33 _ _ rfl ⟨w.heap.size + 1, 0, none⟩ _ rfl rfl (store5 _ _ _ _ _ _ _ d3 d4 d5 d6 d7 t1) ?_
  refine hK.out _ _ (S0.row _ _ (.inl (by simp))) (fun hHeld => ?_)
  clear hK K'
  try simp only [Act.put, gA, gS, gZ, sA, sZ, sS]
  refine tk 29 (.bool true) rfl (.inl ⟨by rfl, ?_⟩) ?_
  · intro w9 hSw
    try dsimp only at hSw
    go_simp
    all_goals try decide
    all_goals try assumption
    all_goals try omega
  try simp only [Act.put, gA, gS, gZ, sA, sZ, sS]
  refine wpAnyH_done (by kernel_rfl) ?_ _
  have hc := fun j => cell_of_row _ (w.heap.size + 1) j _ _ _ (setRow_heap z.drew (w.heap.size + 1) _ #[.int .u8 d3, .int .u8 d4, .int .u8 d5, .int .u8 d6, .int .u8 d7] _ _ t1)
  have FIN : Hid (Below w.heap.size w (z.drew.setRow (w.heap.size + 1) #[.int .u8 d3, .int .u8 d4, .int .u8 d5, .int .u8 d6, .int .u8 d7])) := below_setRow B6.drew (by omega) _
  clear hHeld
  go_wp2_with fail
  refine bodyPost_ret (v := rdV ad CC d2 d3 d4 d5 d6 d7 true) ?_ rfl ⟨rfl, FIN.out⟩
  simp [results, Try.results14, go_sem, hc]
theorem rread_any (i n d0 d1 d2 d3 d4 d5 d6 d7 : Int) (r : Bool) (ho : Oct [d0, d1, d2, d3, d4, d5, d6, d7]) (w : World) : Calls Try.prog 14 #[frV i n d0 d1 d2 d3 d4 d5 d6 d7 r] w fun e w' => e = .returned (if rdB i n r = true then rdV (i - 128) (d0 + d1 * 256) d2 d3 d4 d5 d6 d7 true else rdV 0 0 0 0 0 0 0 0 false) ∧ Below w.heap.size w w' := by
  have no : rdB i n r = false → Calls Try.prog 14 #[frV i n d0 d1 d2 d3 d4 d5 d6 d7 r] w (fun e w' => e = .returned (rdV 0 0 0 0 0 0 0 0 false) ∧ Below w.heap.size w w') → Calls Try.prog 14 #[frV i n d0 d1 d2 d3 d4 d5 d6 d7 r] w fun e w' => e = .returned (if rdB i n r = true then rdV (i - 128) (d0 + d1 * 256) d2 d3 d4 d5 d6 d7 true else rdV 0 0 0 0 0 0 0 0 false) ∧ Below w.heap.size w w' := by
    intro hb hc
    rw [hb, if_neg (by decide)]
    exact hc
  by_cases h : i ≤ 128
  · exact no (by simp [rdB]; intros; omega) (rread_low i n d0 d1 d2 d3 d4 d5 d6 d7 r h w)
  by_cases h2 : 255 < i
  · exact no (by simp [rdB]; intros; omega) (rread_high i n d0 d1 d2 d3 d4 d5 d6 d7 r h h2 w)
  cases hr : r with
  | true => rw [hr] at no; exact no (by simp [rdB]) (rread_ask i n d0 d1 d2 d3 d4 d5 d6 d7 true h h2 rfl w)
  | false =>
    rw [hr] at no
    by_cases hn : n = 8
    · rw [if_pos (by simp [rdB, hn]; omega)]
      exact rread_ok i n d0 d1 d2 d3 d4 d5 d6 d7 false ho h h2 rfl hn w
    · exact no (by simp [rdB, hn]) (rread_len i n d0 d1 d2 d3 d4 d5 d6 d7 false h h2 rfl hn w)
#print axioms rread_any
end Go.Proofs.Ytnbdnmfnmnboiaa
