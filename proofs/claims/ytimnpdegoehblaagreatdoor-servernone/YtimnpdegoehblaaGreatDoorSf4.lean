/-
  The walk of the reading of a part.
-/
import Derived.Test.YtimnpdegoehblaaGreatDoorSf3
import Derived.Test.YtimnpdegoehblaaGreatDoorTk9
namespace Go.Proofs.YtimnpdegoehblaaGreatDoor
open Go.RowKit

theorem sl1_0 (B : Nat) (w : World) : (Instr.sliceAt 23 (.pointer (some ⟨B, 0, none⟩)) (some (.int .i64 1)) (some (.int .i64 (8 - ((0 : Nat) : Int)))) none).run Tryz.prog w = .ok (.slice (some ⟨B, 1, none⟩) (7 - 0) 7) w := by kernel_rfl
theorem sl1_1 (B : Nat) (w : World) : (Instr.sliceAt 23 (.pointer (some ⟨B, 0, none⟩)) (some (.int .i64 1)) (some (.int .i64 (8 - ((1 : Nat) : Int)))) none).run Tryz.prog w = .ok (.slice (some ⟨B, 1, none⟩) (7 - 1) 7) w := by kernel_rfl
theorem sl1_2 (B : Nat) (w : World) : (Instr.sliceAt 23 (.pointer (some ⟨B, 0, none⟩)) (some (.int .i64 1)) (some (.int .i64 (8 - ((2 : Nat) : Int)))) none).run Tryz.prog w = .ok (.slice (some ⟨B, 1, none⟩) (7 - 2) 7) w := by kernel_rfl
theorem sl1_3 (B : Nat) (w : World) : (Instr.sliceAt 23 (.pointer (some ⟨B, 0, none⟩)) (some (.int .i64 1)) (some (.int .i64 (8 - ((3 : Nat) : Int)))) none).run Tryz.prog w = .ok (.slice (some ⟨B, 1, none⟩) (7 - 3) 7) w := by kernel_rfl
theorem sl1_4 (B : Nat) (w : World) : (Instr.sliceAt 23 (.pointer (some ⟨B, 0, none⟩)) (some (.int .i64 1)) (some (.int .i64 (8 - ((4 : Nat) : Int)))) none).run Tryz.prog w = .ok (.slice (some ⟨B, 1, none⟩) (7 - 4) 7) w := by kernel_rfl
theorem sl1_5 (B : Nat) (w : World) : (Instr.sliceAt 23 (.pointer (some ⟨B, 0, none⟩)) (some (.int .i64 1)) (some (.int .i64 (8 - ((5 : Nat) : Int)))) none).run Tryz.prog w = .ok (.slice (some ⟨B, 1, none⟩) (7 - 5) 7) w := by kernel_rfl
theorem sl1_6 (B : Nat) (w : World) : (Instr.sliceAt 23 (.pointer (some ⟨B, 0, none⟩)) (some (.int .i64 1)) (some (.int .i64 (8 - ((6 : Nat) : Int)))) none).run Tryz.prog w = .ok (.slice (some ⟨B, 1, none⟩) (7 - 6) 7) w := by kernel_rfl
theorem sl1_7 (B : Nat) (w : World) : (Instr.sliceAt 23 (.pointer (some ⟨B, 0, none⟩)) (some (.int .i64 1)) (some (.int .i64 (8 - ((7 : Nat) : Int)))) none).run Tryz.prog w = .ok (.slice (some ⟨B, 1, none⟩) (7 - 7) 7) w := by kernel_rfl
theorem sl_1 (B en : Nat) (h : en ≤ 7) (w : World) : (Instr.sliceAt 23 (.pointer (some ⟨B, 0, none⟩)) (some (.int .i64 1)) (some (.int .i64 (8 - (en : Int)))) none).run Tryz.prog w = .ok (.slice (some ⟨B, 1, none⟩) (7 - en) 7) w := by
  have h9 : en = 0 ∨ en = 1 ∨ en = 2 ∨ en = 3 ∨ en = 4 ∨ en = 5 ∨ en = 6 ∨ en = 7 := by omega
  rcases h9 with rfl | rfl | rfl | rfl | rfl | rfl | rfl | rfl
  · exact sl1_0 B w
  · exact sl1_1 B w
  · exact sl1_2 B w
  · exact sl1_3 B w
  · exact sl1_4 B w
  · exact sl1_5 B w
  · exact sl1_6 B w
  · exact sl1_7 B w
theorem row_1 (w : World) (B en : Nat) (b0 b1 b2 b3 b4 b5 b6 b7 : Int) (T : TypeId) (h1 : 0 ≤ b1 ∧ b1 < 256) (h2 : 0 ≤ b2 ∧ b2 < 256) (h3 : 0 ≤ b3 ∧ b3 < 256) (h4 : 0 ≤ b4 ∧ b4 < 256) (h5 : 0 ≤ b5 ∧ b5 < 256) (h6 : 0 ≤ b6 ∧ b6 < 256) (h7 : 0 ≤ b7 ∧ b7 < 256) (h : w.heap[B]? = some (.cells (ar8 b0 b1 b2 b3 b4 b5 b6 b7) T (0, 0))) : Row w (some ⟨B, 1, none⟩) (7 - en) ([b1, b2, b3, b4, b5, b6, b7].take (7 - en)) := by
  refine ⟨by simp, ?_, fun _ => ⟨B, 1, rfl, fun i hi => ?_⟩⟩
  · intro x hx
    have := List.mem_of_mem_take hx
    simp only [List.mem_cons, List.not_mem_nil, or_false] at this
    rcases this with rfl | rfl | rfl | rfl | rfl | rfl | rfl <;> assumption
  · rw [cell_of_row w B (1 + i) _ _ _ h, List.getD_eq_getElem?_getD, List.getElem?_take, if_pos hi]
    have h9 : i = 0 ∨ i = 1 ∨ i = 2 ∨ i = 3 ∨ i = 4 ∨ i = 5 ∨ i = 6 := by omega
    rcases h9 with rfl | rfl | rfl | rfl | rfl | rfl | rfl <;> rfl
theorem ex_slice {o : Oper} {a : Act} {w : World} (x y z : Operand) (ho : o.op = .slice 23 x (some y) (some z) none) (v u t : Value) (hx : a.eval x = v) (hy : a.eval y = u) (hz : a.eval z = t) (r : Value) (hr : (Instr.sliceAt 23 v (some u) (some t) none).run Tryz.prog w = .ok r w) : (execOp a.eval o).run Tryz.prog w = .ok (.value r) w := by
  unfold execOp
  simp [ho, hx, hy, hz, hr]

/-- What a part tells. -/
def rdPart (b0 b1 b2 b3 b4 b5 b6 b7 : Int) : Cm := ⟨0, 0, 0, false, 0, false, [b1, b2, b3, b4, b5, b6, b7].take (7 - (bits .and .u8 (b0 / 2) 7).toNat), bt b0 16, bt b0 1, false, 0, 0, 0, 0, 0⟩

set_option linter.unusedSimpArgs false in
set_option maxHeartbeats 4000000 in
set_option maxRecDepth 100000 in
theorem readPart_any (b0 b1 b2 b3 b4 b5 b6 b7 : Int) (h0 : 0 ≤ b0 ∧ b0 < 256) (h1 : 0 ≤ b1 ∧ b1 < 256) (h2 : 0 ≤ b2 ∧ b2 < 256) (h3 : 0 ≤ b3 ∧ b3 < 256) (h4 : 0 ≤ b4 ∧ b4 < 256) (h5 : 0 ≤ b5 ∧ b5 < 256) (h6 : 0 ≤ b6 ∧ b6 < 256) (h7 : 0 ≤ b7 ∧ b7 < 256) (w : World) :
    Calls Tryz.prog 63 #[arr8 b0 b1 b2 b3 b4 b5 b6 b7] w (RPost w (rdPart b0 b1 b2 b3 b4 b5 b6 b7)) := by
  have ha := and8 (b0 / 2) 7 (by omega) (by omega)
  obtain ⟨en, hen⟩ := Int.eq_ofNat_of_zero_le ha.1
  have h8 : en ≤ 7 := by have := ha.2; omega
  unfold rdPart
  rw [show (bits .and .u8 (b0 / 2) 7).toNat = en from by rw [hen]; rfl]
  clear ha
  obtain ⟨T, hT⟩ : ∃ T, (bits .and .u8 b0 16 != 0) = T := ⟨_, rfl⟩
  obtain ⟨Z, hZ⟩ : ∃ Z, (bits .and .u8 b0 1 != 0) = Z := ⟨_, rfl⟩
  rw [show bt b0 16 = T from hT, show bt b0 1 = Z from hZ]
  have HS0 : Hid (((w.alloc (.cells (ar8 b0 b1 b2 b3 b4 b5 b6 b7) 23)).alloc (.cells (cmC 0 0 0 false 0 false none 0 0 false false false 0 0 0 0 0) 61)).heap[w.heap.size]? = some (.cells (ar8 b0 b1 b2 b3 b4 b5 b6 b7) 23 (0, 0))) := (Below.heap_alloc _ _ _ (by simp)).trans (heap_new _ _)
  have hrs : ((w.alloc (.cells (ar8 b0 b1 b2 b3 b4 b5 b6 b7) 23)).alloc (.cells (cmC 0 0 0 false 0 false none 0 0 false false false 0 0 0 0 0) 61)).heap[w.heap.size + 1]? = some (.cells (cmC 0 0 0 false 0 false none 0 0 false false false 0 0 0 0 0) 61 (0, 0)) := heap_at _ _ _ (by simp)
  have HRS : Hid (((w.alloc (.cells (ar8 b0 b1 b2 b3 b4 b5 b6 b7) 23)).alloc (.cells (cmC 0 0 0 false 0 false none 0 0 false false false 0 0 0 0 0) 61)).heap[w.heap.size + 1]? = some (.cells (cmC 0 0 0 false 0 false none 0 0 false false false 0 0 0 0 0) 61 (0, 0))) := hrs
  have hrow := row_1 ((w.alloc (.cells (ar8 b0 b1 b2 b3 b4 b5 b6 b7) 23)).alloc (.cells (cmC 0 0 0 false 0 false none 0 0 false false false 0 0 0 0 0) 61)).drew w.heap.size en b0 b1 b2 b3 b4 b5 b6 b7 _ h1 h2 h3 h4 h5 h6 h7 HS0.out
  have HCl : Hid (Calls Tryz.prog 34 #[.slice (some ⟨w.heap.size, 1, none⟩) (7 - en) 7] ((w.alloc (.cells (ar8 b0 b1 b2 b3 b4 b5 b6 b7) 23)).alloc (.cells (cmC 0 0 0 false 0 false none 0 0 false false false 0 0 0 0 0) 61)).drew fun e w' => (∃ a' cap', e = .returned (.slice a' (7 - en) cap') ∧ Told ((w.alloc (.cells (ar8 b0 b1 b2 b3 b4 b5 b6 b7) 23)).alloc (.cells (cmC 0 0 0 false 0 false none 0 0 false false false 0 0 0 0 0) 61)).drew w' a' (7 - en) cap' ([b1, b2, b3, b4, b5, b6, b7].take (7 - en))) ∧ Below ((w.alloc (.cells (ar8 b0 b1 b2 b3 b4 b5 b6 b7) 23)).alloc (.cells (cmC 0 0 0 false 0 false none 0 0 false false false 0 0 0 0 0) 61)).drew.heap.size ((w.alloc (.cells (ar8 b0 b1 b2 b3 b4 b5 b6 b7) 23)).alloc (.cells (cmC 0 0 0 false 0 false none 0 0 false false false 0 0 0 0 0) 61)).drew w') := clone8_any _ _ _ _ _ hrow (by omega)
  have hsl := fun w' => sl_1 w.heap.size en h8 w'
  clear hrow hrs
  have e8 : IntKind.i64.wrap (8 - (en : Int)) = 8 - (en : Int) := by simp [IntKind.wrap, IntKind.bits, IntKind.signed]; omega
  have e9 : IntKind.i64.wrap (en : Int) = (en : Int) := by simp [IntKind.wrap, IntKind.bits, IntKind.signed]; omega
  have hle : (en : Int) ≤ 7 := by omega
  go_enter Tryz.func63, Tryz.ntmps63
  go_wp2_with fail
  refine wp_region_held_drew (S := fun x => x.heap[w.heap.size]? = some (.cells (ar8 b0 b1 b2 b3 b4 b5 b6 b7) 23 (0, 0))) (by kernel_rfl) (HS0.out) (fun hHeld => ?_)
  refine tk 0 (.pointer (some ⟨w.heap.size, 0, none⟩)) rfl (.inl ⟨by rfl, ?_⟩) ?_
  · intro w9 hSw
    try dsimp only at hSw
    go_simp
    all_goals try decide
    all_goals try assumption
    all_goals try omega
  try simp only [Act.put, gA, gS, gZ, sA, sZ, sS]
  refine tk 1 (.int .u8 b0) rfl (.inl ⟨by rfl, ?_⟩) ?_
  · intro w9 hSw
    try dsimp only at hSw
    have e0 : w9.cell? ⟨w.heap.size, 0, none⟩ = some (.int .u8 b0) := (by rw [cell_of_row w9 _ 0 _ _ _ hSw]; rfl)
    go_simp
  try simp only [Act.put, gA, gS, gZ, sA, sZ, sS]
  refine tk 2 (.int .u8 (bits .and .u8 b0 16)) rfl (.inl ⟨by rfl, ?_⟩) ?_
  · intro w9 hSw
    try dsimp only at hSw
    go_simp
    all_goals try decide
    all_goals try assumption
    all_goals try omega
  try simp only [Act.put, gA, gS, gZ, sA, sZ, sS]
  refine tk 3 (.bool T) rfl (.inl ⟨by rfl, ?_⟩) ?_
  · intro w9 hSw
    try dsimp only at hSw
    go_simp
    all_goals try decide
    all_goals try assumption
    all_goals try omega
  try simp only [Act.put, gA, gS, gZ, sA, sZ, sS]
  refine tk 4 (.pointer (some ⟨w.heap.size, 0, none⟩)) rfl (.inl ⟨by rfl, ?_⟩) ?_
  · intro w9 hSw
    try dsimp only at hSw
    go_simp
    all_goals try decide
    all_goals try assumption
    all_goals try omega
  try simp only [Act.put, gA, gS, gZ, sA, sZ, sS]
  refine tk 5 (.int .u8 b0) rfl (.inl ⟨by rfl, ?_⟩) ?_
  · intro w9 hSw
    try dsimp only at hSw
    have e0 : w9.cell? ⟨w.heap.size, 0, none⟩ = some (.int .u8 b0) := (by rw [cell_of_row w9 _ 0 _ _ _ hSw]; rfl)
    go_simp
  try simp only [Act.put, gA, gS, gZ, sA, sZ, sS]
  refine tk 6 (.int .u8 (bits .and .u8 b0 1)) rfl (.inl ⟨by rfl, ?_⟩) ?_
  · intro w9 hSw
    try dsimp only at hSw
    go_simp
    all_goals try decide
    all_goals try assumption
    all_goals try omega
  try simp only [Act.put, gA, gS, gZ, sA, sZ, sS]
  refine tk 7 (.bool Z) rfl (.inl ⟨by rfl, ?_⟩) ?_
  · intro w9 hSw
    try dsimp only at hSw
    go_simp
    all_goals try decide
    all_goals try assumption
    all_goals try omega
  try simp only [Act.put, gA, gS, gZ, sA, sZ, sS]
  refine tk 8 (.int .i64 (en : Int)) rfl (.inl ⟨by rfl, ?_⟩) ?_
  · intro w9 hSw
    try dsimp only at hSw
    go_simp
    all_goals try decide
    all_goals try assumption
    all_goals try omega
  try simp only [Act.put, gA, gS, gZ, sA, sZ, sS]
  refine tk 9 (.int .i64 (8 - (en : Int))) rfl (.inl ⟨by rfl, ?_⟩) ?_
  · intro w9 hSw
    try dsimp only at hSw
    go_simp
    all_goals try decide
    all_goals try assumption
    all_goals try omega
  try simp only [Act.put, gA, gS, gZ, sA, sZ, sS]
  refine tk 10 (.slice (some ⟨w.heap.size, 1, none⟩) (7 - en) 7) rfl (.inl ⟨by rfl, ?_⟩) ?_
  · intro w9 hSw
    try dsimp only at hSw
    exact ex_slice _ _ _ rfl (.pointer (some ⟨w.heap.size, 0, none⟩)) (.int .i64 1) (.int .i64 (8 - (en : Int))) rfl rfl rfl _ (hsl _)
  try simp only [Act.put, gA, gS, gZ, sA, sZ, sS]
  refine wpAnyH_ready (rs := [11]) (by kernel_rfl) (by simp) ?_
  refine AllReadyH.cons rfl (fun K' hK => ?_) AllReadyH.nil
  rw [if_pos (by rfl)]
  simp only [gA, gS, gZ]
  go_wp2_with fail
  refine (HCl.out).mono ?_
  rintro r w1 ⟨⟨a', cap', rfl, ht⟩, hb1⟩
  have g1 : Hid (w1.heap[w.heap.size]? = some (.cells (ar8 b0 b1 b2 b3 b4 b5 b6 b7) 23 (0, 0))) := (hb1.block _ (by show w.heap.size < ((w.alloc (.cells (ar8 b0 b1 b2 b3 b4 b5 b6 b7) 23)).alloc (.cells (cmC 0 0 0 false 0 false none 0 0 false false false 0 0 0 0 0) 61)).heap.size; simp; omega)).trans HS0.out
  have g2 : Hid (w1.heap[w.heap.size + 1]? = some (.cells (cmC 0 0 0 false 0 false none 0 0 false false false 0 0 0 0 0) 61 (0, 0))) := (hb1.block _ (by show w.heap.size + 1 < ((w.alloc (.cells (ar8 b0 b1 b2 b3 b4 b5 b6 b7) 23)).alloc (.cells (cmC 0 0 0 false 0 false none 0 0 false false false 0 0 0 0 0) 61)).heap.size; simp)).trans HRS.out
  have B1 : Hid (Below w.heap.size w w1) := Below.andThen (by repeat (first | exact Below.refl _ _ | apply Below.drew | apply Below.al)) hb1
  have HT : Hid (Told w (w1.setRow (w.heap.size + 1) (cmC 0 0 0 false 0 false a' (7 - en) cap' T Z false 0 0 0 0 0)) a' (7 - en) cap' ([b1, b2, b3, b4, b5, b6, b7].take (7 - en))) := ht.other (by show w.heap.size ≤ ((w.alloc (.cells (ar8 b0 b1 b2 b3 b4 b5 b6 b7) 23)).alloc (.cells (cmC 0 0 0 false 0 false none 0 0 false false false 0 0 0 0 0) 61)).heap.size; simp; omega) (fun g hg => setRow_other _ _ _ _ (by have : ((w.alloc (.cells (ar8 b0 b1 b2 b3 b4 b5 b6 b7) 23)).alloc (.cells (cmC 0 0 0 false 0 false none 0 0 false false false 0 0 0 0 0) 61)).heap.size ≤ g := hg; simp at this; omega))
  clear ht hb1
  try go_wp2_with fail
  refine hK.out _ _ (g1.out) (fun hHeld => ?_)
  clear hK K'
  try simp only [Act.put, gA, gS, gZ, sA, sZ, sS]
  refine tk 12 (cmV 0 0 0 false 0 false a' (7 - en) cap' T Z false 0 0 0 0 0) rfl (.inl ⟨by rfl, ?_⟩) ?_
  · intro w9 hSw
    try dsimp only at hSw
    go_simp
    all_goals try decide
    all_goals try assumption
    all_goals try omega
  try simp only [Act.put, gA, gS, gZ, sA, sZ, sS]
  refine wpAnyH_ready (rs := [13]) (by kernel_rfl) (by simp) ?_
  refine AllReadyH.cons rfl (fun K' hK => ?_) AllReadyH.nil
  rw [if_pos (by rfl)]
  simp only [gA, gS, gZ]
  refine wp_store_by 61 (.tmp 2) (.tmp 21) rfl _ _ rfl rfl (storeCM _ _ _ 0 0 0 false 0 false a' (7 - en) cap' T Z false 0 0 0 0 0 _ g2.out rfl) ?_
  refine hK.out _ _ ((setRow_other _ _ _ _ (by omega)).trans g1.out) (fun hHeld => ?_)
  clear hK K'
  try simp only [Act.put, gA, gS, gZ, sA, sZ, sS]
  refine wpAnyH_done (by kernel_rfl) ?_ _
  go_wp2_with fail
  have hc := fun j => cell_of_row (w1.setRow (w.heap.size + 1) (cmC 0 0 0 false 0 false a' (7 - en) cap' T Z false 0 0 0 0 0)) (w.heap.size + 1) j _ _ _ (setRow_heap _ _ _ _ _ _ g2.out)
  have HL : ([b1, b2, b3, b4, b5, b6, b7].take (7 - en)).length = 7 - en := by simp
  refine bodyPost_ret (v := cmV 0 0 0 false 0 false a' (7 - en) cap' T Z false 0 0 0 0 0) ?_ rfl ⟨a', cap', ?_, ?_, below_setRow B1.out (Nat.le_succ _) _⟩
  · simp [results, Tryz.results63, go_sem, hc]
  · show _ = Ending.returned (cmV _ _ _ _ _ _ _ _ _ _ _ _ _ _ _ _ _)
    rw [HL]
  · show Told _ _ _ _ _ _
    rw [HL]
    exact HT.out
#print axioms readPart_any
end Go.Proofs.YtimnpdegoehblaaGreatDoor
