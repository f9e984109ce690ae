/-
  The walks of the history: add, list.
-/
import Derived.Test.YtnbdnmfnmnboiaaZe
import Derived.Lib.EndianBits
import Derived.Test.YtnbdnmfnmnboiaaTk9
namespace Go.Proofs.Ytnbdnmfnmnboiaa
open Go.RowKit

/-- The field of an error. -/
def fdV (c i0 i1 : Int) : Int := c + i0 * 65536 + i1 * 16777216
/-- One more in the history. -/
def hAdd (hs : List Int) (f : Int) : List Int := f :: hs.take 15
theorem hAdd_len (hs : List Int) (f : Int) (h : hs.length = 16) : (hAdd hs f).length = 16 := by simp [hAdd, h]
abbrev arr5 (i0 i1 i2 i3 i4 : Int) : Value := .agg #[.int .u8 i0, .int .u8 i1, .int .u8 i2, .int .u8 i3, .int .u8 i4]
abbrev row5 (i0 i1 i2 i3 i4 : Int) : Obj := .cells #[.int .u8 i0, .int .u8 i1, .int .u8 i2, .int .u8 i3, .int .u8 i4] 33
/-- The cells behind a new one: what copy leaves. -/
def cpC (S : ES) (m : Nat) (v : Value) : List Value := (esC S m v).take 4 ++ (S.hs.take 15).map (Value.int .u32) ++ (esC S m v).drop 19
theorem info4 : (Try.prog.info? 52).map (·.size) = some 1 := by kernel_rfl
theorem cpC_len (S : ES) (m : Nat) (v : Value) (h : S.hs.length = 16) : (cpC S m v).length = 22 := by
  have := esC_len S m v h
  simp [cpC, this, h]
theorem cpC_set (S : ES) (m : Nat) (v : Value) (h : S.hs.length = 16) (f : Int) (n : Nat) : ((cpC S m v).set 3 (.int .u32 f)).set 19 (.int .i64 (n : Int)) = esC { S with hs := hAdd S.hs f, ln := n } m v := by
  obtain ⟨A, I, st, hs, ln, ws, told, due⟩ := S
  simp only at h
  match hs, h with
  | [a0, a1, a2, a3, a4, a5, a6, a7, a8, a9, b0, b1, b2, b3, b4, b5], _ => rfl
theorem cpC_3 (S : ES) (m : Nat) (v : Value) (h : S.hs.length = 16) (f : Int) : (cpC S m v)[3]? = some (.int .u32 (S.hs.getD 0 0)) ∧ ((cpC S m v).set 3 (.int .u32 f))[19]? = some (.int .i64 (S.ln : Int)) := by
  obtain ⟨A, I, st, hs, ln, ws, told, due⟩ := S
  simp only at h
  match hs, h with
  | [a0, a1, a2, a3, a4, a5, a6, a7, a8, a9, b0, b1, b2, b3, b4, b5], _ => exact ⟨rfl, rfl⟩
theorem copy_run (w : World) (p m : Nat) (v : Value) (S : ES) (ty : TypeId) (hp : w.heap[p]? = some (.cells (esC S m v).toArray 66 (0, 0))) (h : S.hs.length = 16) :
    (Builtin.copy_ #[51, 51] ty #[.slice (some ⟨p, 4, none⟩) 15 15, .slice (some ⟨p, 3, none⟩) 16 16]).run Try.prog w = .ok (.int .i64 15) (w.setRow p (cpC S m v).toArray) := by
  have hl := esC_len S m v h
  have := run_copy_row (P := Try.prog) w 51 51 ty 52 p 4 15 15 ⟨p, 3, none⟩ 16 16 _ _ ((S.hs.take 15).map (Value.int .u32)) Try.underlying51 info4 hp (by simp [h]) (fun j u hu => by
    rw [add_at, cell_of_row w p (3 + j) _ _ _ hp]
    have hj : j < 15 := by have := (List.getElem?_eq_some_iff.1 hu).1; simpa [h] using this
    have e := esC_h S m v j (by omega)
    simp [hj] at hu
    obtain ⟨z, hz, rfl⟩ := hu
    rw [List.getD_eq_getElem?_getD, hz] at e
    simpa using e) (by simp [hl, h]) (fun u hu => by obtain ⟨_, _, rfl⟩ := List.mem_map.1 hu; rfl)
  rw [this]
  simp [h, cpC, goInt]
theorem fd_bits {c i0 i1 : Int} (c0 : 0 ≤ c ∧ c < 65536) (o0 : 0 ≤ i0 ∧ i0 < 256) (o1 : 0 ≤ i1 ∧ i1 < 256) : bits .or .u32 c (i0 * 65536) = c + i0 * 65536 ∧ bits .or .u32 (c + i0 * 65536) (i1 * 16777216) = fdV c i0 i1 := by
  refine ⟨?_, ?_⟩
  · rw [Go.u32_or16 (y := c) (x := i0 * 65536) (by omega) (by omega) (by omega) (by omega) (by omega)]
  · rw [Go.u32_or24 (y := c + i0 * 65536) (x := i1 * 16777216) (by omega) (by omega) (by omega) (by omega) (by omega)]; rfl

set_option linter.unusedSimpArgs false in
set_option maxHeartbeats 4000000 in
set_option maxRecDepth 100000 in
theorem hadd_any (p m : Nat) (v : Value) (S : ES) (w : World) (hp : w.heap[p]? = some (.cells (esC S m v).toArray 66 (0, 0))) (h16 : S.hs.length = 16) (hln : S.ln ≤ 16) (c i0 i1 i2 i3 i4 : Int) (c0 : 0 ≤ c ∧ c < 65536) (o0 : 0 ≤ i0 ∧ i0 < 256) (o1 : 0 ≤ i1 ∧ i1 < 256) :
    Calls Try.prog 36 #[.pointer (some ⟨p, 3, none⟩), .int .u16 c, arr5 i0 i1 i2 i3 i4] w fun e w' => e = .returned (.tuple #[]) ∧ w'.heap[p]? = some (.cells (esC { S with hs := hAdd S.hs (fdV c i0 i1), ln := min (S.ln + 1) 16 } m v).toArray 66 (0, 0)) ∧ Kp [p] w w' := by
  obtain ⟨FB1, FB2⟩ := fd_bits c0 o0 o1
  obtain ⟨F, hF⟩ : ∃ F, Hid (F = fdV c i0 i1) := ⟨_, rfl⟩
  rw [← hF.out] at FB2
  obtain ⟨N2, hN2⟩ : ∃ N2, Hid (N2 = min (S.ln + 1) 16) := ⟨_, rfl⟩
  rw [← hF.out, ← hN2.out]
  obtain ⟨A1, hA1⟩ : ∃ A1, A1 = i0 * 65536 := ⟨_, rfl⟩
  obtain ⟨A2, hA2⟩ : ∃ A2, A2 = i1 * 16777216 := ⟨_, rfl⟩
  rw [← hA1] at FB1 FB2
  rw [← hA2] at FB2
  obtain ⟨O1, hO1⟩ : ∃ O1, O1 = c + A1 := ⟨_, rfl⟩
  rw [← hO1] at FB1 FB2
  have W1 : IntKind.u32.wrap (i0 * 65536) = A1 := by rw [hA1, IntKind.wrap_u32']; omega
  have W2 : IntKind.u32.wrap (i1 * 16777216) = A2 := by rw [hA2, IntKind.wrap_u32']; omega
  have V0 : IntKind.u32.wrap c = c := by rw [IntKind.wrap_u32']; omega
  have V1 : IntKind.u32.wrap i0 = i0 := by rw [IntKind.wrap_u32']; omega
  have V2 : IntKind.u32.wrap i1 = i1 := by rw [IntKind.wrap_u32']; omega
  have HS : Hid (S.hs.length = 16 ∧ S.ln ≤ 16) := ⟨h16, hln⟩
  have lp := lt_of_heap hp
  clear hA1 hA2 hO1 c0 o0 o1 h16 hln
  go_enter Try.func36, Try.ntmps36
  have q0 : ((w.alloc (row5 i0 i1 i2 i3 i4)).drew).heap[p]? = some (.cells (esC S m v).toArray 66 (0, 0)) := ext11 hp
  have b0 : ((w.alloc (row5 i0 i1 i2 i3 i4)).drew).heap[w.heap.size]? = some (row5 i0 i1 i2 i3 i4) := at11 _ _ _ rfl
  have CP := fun ty => copy_run ((w.alloc (row5 i0 i1 i2 i3 i4)).drew) p m v S ty q0 HS.out.1
  go_wp2_with fail
  refine wp_region_held_drew (S := fun x1 => Kp [p] w x1) (by kernel_rfl) ((Kp.al (Kp.refl _ _) _).drew) (fun hHeld => ?_)
  refine tk 0 (.pointer (some ⟨p, 3, none⟩)) rfl (.inl ⟨by rfl, ?_⟩) ?_
  · intro w9 hSw
    try dsimp only at hSw
    go_simp
    all_goals try decide
    all_goals try assumption
    all_goals try omega
  try simp only [Act.put, gA, gS, gZ, sA, sZ, sS]
  refine tk 1 (.pointer (some ⟨p, 3, none⟩)) rfl (.inl ⟨by rfl, ?_⟩) ?_
  · intro w9 hSw
    try dsimp only at hSw
    go_simp
    all_goals try decide
    all_goals try assumption
    all_goals try omega
  try simp only [Act.put, gA, gS, gZ, sA, sZ, sS]
  refine tk 2 (.pointer (some ⟨p, 3, none⟩)) rfl (.inl ⟨by rfl, ?_⟩) ?_
  · intro w9 hSw
    try dsimp only at hSw
    go_simp
    all_goals try decide
    all_goals try assumption
    all_goals try omega
  try simp only [Act.put, gA, gS, gZ, sA, sZ, sS]
  refine tk 3 (.slice (some ⟨p, 4, none⟩) 15 15) rfl (.inl ⟨by rfl, ?_⟩) ?_
  · intro w9 hSw
    try dsimp only at hSw
    go_simp
    all_goals try decide
    all_goals try assumption
    all_goals try omega
  try simp only [Act.put, gA, gS, gZ, sA, sZ, sS]
  refine tk 4 (.pointer (some ⟨p, 3, none⟩)) rfl (.inl ⟨by rfl, ?_⟩) ?_
  · intro w9 hSw
    try dsimp only at hSw
    go_simp
    all_goals try decide
    all_goals try assumption
    all_goals try omega
  try simp only [Act.put, gA, gS, gZ, sA, sZ, sS]
  refine tk 5 (.pointer (some ⟨p, 3, none⟩)) rfl (.inl ⟨by rfl, ?_⟩) ?_
  · intro w9 hSw
    try dsimp only at hSw
    go_simp
    all_goals try decide
    all_goals try assumption
    all_goals try omega
  try simp only [Act.put, gA, gS, gZ, sA, sZ, sS]
  refine tk 6 (.pointer (some ⟨p, 3, none⟩)) rfl (.inl ⟨by rfl, ?_⟩) ?_
  · intro w9 hSw
    try dsimp only at hSw
    go_simp
    all_goals try decide
    all_goals try assumption
    all_goals try omega
  try simp only [Act.put, gA, gS, gZ, sA, sZ, sS]
  refine tk 7 (.slice (some ⟨p, 3, none⟩) 16 16) rfl (.inl ⟨by rfl, ?_⟩) ?_
  · intro w9 hSw
    try dsimp only at hSw
    go_simp
    all_goals try decide
    all_goals try assumption
    all_goals try omega
  try simp only [Act.put, gA, gS, gZ, sA, sZ, sS]
  refine wpAnyH_ready (rs := [8]) (by kernel_rfl) (by simp) ?_
  refine AllReadyH.cons rfl (fun K' hK => ?_) AllReadyH.nil
  rw [if_pos (by rfl)]
  simp only [gA, gS, gZ]
  have S0 := hHeld
  go_wp2_with fail
  refine hK.out _ _ (S0.row _ _ (.inl (by simp))) (fun hHeld => ?_)
  clear hK K'
  try simp only [Act.put, gA, gS, gZ, sA, sZ, sS]
  refine wpAnyH_done (by kernel_rfl) ?_ _
  have q1 : (((w.alloc (row5 i0 i1 i2 i3 i4)).drew).setRow p (cpC S m v).toArray).heap[p]? = some (.cells (cpC S m v).toArray 66 (0, 0)) := setRow_heap _ _ _ _ _ _ q0
  have b1 : (((w.alloc (row5 i0 i1 i2 i3 i4)).drew).setRow p (cpC S m v).toArray).heap[w.heap.size]? = some (row5 i0 i1 i2 i3 i4) := sh11 (by omega) b0
  have kx := hHeld
  clear hHeld CP
  generalize hx : (((w.alloc (row5 i0 i1 i2 i3 i4)).drew).setRow p (cpC S m v).toArray) = x at q1 b1 kx ⊢
  clear hx q0 b0
  have z3 := froz11 x p 3 _ _ q1
  have e3 : x.cell? ⟨p, 3, none⟩ = some (.int .u32 (S.hs.getD 0 0)) := by rw [cell_of_row x _ 3 _ _ _ q1]; simpa using (cpC_3 S m v HS.out.1 F).1
  have lx : p < x.heap.size := lt_of_heap q1
  have lb : w.heap.size < x.heap.size := lt_of_heap b1
  have e0 : x.cell? ⟨w.heap.size, 0, none⟩ = some (.int .u8 i0) := by rw [cell_of_row x _ 0 _ _ _ b1]; rfl
  have e1 : x.cell? ⟨w.heap.size, 1, none⟩ = some (.int .u8 i1) := by rw [cell_of_row x _ 1 _ _ _ b1]; rfl
  go_wp2_with fail
  refine wp_region_held_drew (S := fun x1 => Kp [p] w x1 ∧ x1.cell? ⟨w.heap.size, 0, none⟩ = some (.int .u8 i0) ∧ x1.cell? ⟨w.heap.size, 1, none⟩ = some (.int .u8 i1)) (by kernel_rfl) (⟨kx.drew, e0, e1⟩) (fun hHeld => ?_)
  refine tk 0 (.pointer (some ⟨p, 3, none⟩)) rfl (.inl ⟨by rfl, ?_⟩) ?_
  · intro w9 hSw
    try dsimp only at hSw
    go_simp
    all_goals try decide
    all_goals try assumption
    all_goals try omega
  try simp only [Act.put, gA, gS, gZ, sA, sZ, sS]
  refine tk 1 (.int .u16 c) rfl (.inl ⟨by rfl, ?_⟩) ?_
  · intro w9 hSw
    try dsimp only at hSw
    go_simp
    all_goals try decide
    all_goals try assumption
    all_goals try omega
  try simp only [Act.put, gA, gS, gZ, sA, sZ, sS]
  refine tk 2 (.int .u32 c) rfl (.inl ⟨by rfl, ?_⟩) ?_
  · intro w9 hSw
    try dsimp only at hSw
    go_simp
    all_goals try decide
    all_goals try assumption
    all_goals try omega
  try simp only [Act.put, gA, gS, gZ, sA, sZ, sS]
  refine tk 3 (.pointer (some ⟨w.heap.size, 0, none⟩)) rfl (.inl ⟨by rfl, ?_⟩) ?_
  · intro w9 hSw
    try dsimp only at hSw
    go_simp
    all_goals try decide
    all_goals try assumption
    all_goals try omega
  try simp only [Act.put, gA, gS, gZ, sA, sZ, sS]
  refine tk 4 (.int .u8 i0) rfl (.inl ⟨by rfl, ?_⟩) ?_
  · intro w9 hSw
    try dsimp only at hSw
    go_simp
    all_goals try decide
    all_goals try assumption
    all_goals try omega
  try simp only [Act.put, gA, gS, gZ, sA, sZ, sS]
  refine tk 5 (.int .u32 i0) rfl (.inl ⟨by rfl, ?_⟩) ?_
  · intro w9 hSw
    try dsimp only at hSw
    go_simp
    all_goals try decide
    all_goals try assumption
    all_goals try omega
  try simp only [Act.put, gA, gS, gZ, sA, sZ, sS]
  refine tk 6 (.int .u32 A1) rfl (.inl ⟨by rfl, ?_⟩) ?_
  · intro w9 hSw
    try dsimp only at hSw
    go_simp
    all_goals try decide
    all_goals try assumption
    all_goals try omega
  try simp only [Act.put, gA, gS, gZ, sA, sZ, sS]
  refine tk 7 (.int .u32 O1) rfl (.inl ⟨by rfl, ?_⟩) ?_
  · intro w9 hSw
    try dsimp only at hSw
    go_simp
    all_goals try decide
    all_goals try assumption
    all_goals try omega
  try simp only [Act.put, gA, gS, gZ, sA, sZ, sS]
  refine tk 8 (.pointer (some ⟨w.heap.size, 1, none⟩)) rfl (.inl ⟨by rfl, ?_⟩) ?_
  · intro w9 hSw
    try dsimp only at hSw
    go_simp
    all_goals try decide
    all_goals try assumption
    all_goals try omega
  try simp only [Act.put, gA, gS, gZ, sA, sZ, sS]
  refine tk 9 (.int .u8 i1) rfl (.inl ⟨by rfl, ?_⟩) ?_
  · intro w9 hSw
    try dsimp only at hSw
    go_simp
    all_goals try decide
    all_goals try assumption
    all_goals try omega
  try simp only [Act.put, gA, gS, gZ, sA, sZ, sS]
  refine tk 10 (.int .u32 i1) rfl (.inl ⟨by rfl, ?_⟩) ?_
  · intro w9 hSw
    try dsimp only at hSw
    go_simp
    all_goals try decide
    all_goals try assumption
    all_goals try omega
  try simp only [Act.put, gA, gS, gZ, sA, sZ, sS]
  refine tk 11 (.int .u32 A2) rfl (.inl ⟨by rfl, ?_⟩) ?_
  · intro w9 hSw
    try dsimp only at hSw
    go_simp
    all_goals try decide
    all_goals try assumption
    all_goals try omega
  try simp only [Act.put, gA, gS, gZ, sA, sZ, sS]
  refine tk 12 (.int .u32 F) rfl (.inl ⟨by rfl, ?_⟩) ?_
  · intro w9 hSw
    try dsimp only at hSw
    go_simp
    all_goals try decide
    all_goals try assumption
    all_goals try omega
  try simp only [Act.put, gA, gS, gZ, sA, sZ, sS]
  refine tk 13 (.pointer (some ⟨p, 3, none⟩)) rfl (.inl ⟨by rfl, ?_⟩) ?_
  · intro w9 hSw
    try dsimp only at hSw
    go_simp
    all_goals try decide
    all_goals try assumption
    all_goals try omega
  try simp only [Act.put, gA, gS, gZ, sA, sZ, sS]
  refine tk 14 (.pointer (some ⟨p, 3, none⟩)) rfl (.inl ⟨by rfl, ?_⟩) ?_
  · intro w9 hSw
    try dsimp only at hSw
    go_simp
    all_goals try decide
    all_goals try assumption
    all_goals try omega
  try simp only [Act.put, gA, gS, gZ, sA, sZ, sS]
  refine tk 15 (.pointer (some ⟨p, 3, none⟩)) rfl (.inl ⟨by rfl, ?_⟩) ?_
  · intro w9 hSw
    try dsimp only at hSw
    go_simp
    all_goals try decide
    all_goals try assumption
    all_goals try omega
  try simp only [Act.put, gA, gS, gZ, sA, sZ, sS]
  refine wpAnyH_ready (rs := [16]) (by kernel_rfl) (by simp) ?_
  refine AllReadyH.cons rfl (fun K' hK => ?_) AllReadyH.nil
  rw [if_pos (by rfl)]
  simp only [gA, gS, gZ]
  obtain ⟨S0, S1, S2⟩ := hHeld
  go_wp2_with fail
  refine hK.out _ _ (⟨S0.set _ _ (.inl (by simp)), cell11 (by show w.heap.size ≠ p; omega) S1, cell11 (by show w.heap.size ≠ p; omega) S2⟩) (fun hHeld => ?_)
  clear hK K'
  try simp only [Act.put, gA, gS, gZ, sA, sZ, sS]
  refine wpAnyH_done (by kernel_rfl) ?_ _
  have ky := hHeld.1
  clear hHeld
  have q2 : ((x.setCell ⟨p, 3, none⟩ (.int .u32 F)).drew).heap[p]? = some (.cells (((cpC S m v).set 3 (.int .u32 F))).toArray 66 (0, 0)) := by
    rw [show ((cpC S m v).set 3 (Value.int .u32 F)).toArray = (cpC S m v).toArray.setIfInBounds 3 (.int .u32 F) from by simp]
    exact heap_setCell_same _ _ _ _ _ _ q1
  generalize hy : (((x.setCell ⟨p, 3, none⟩ (.int .u32 F)).drew) : World) = y at q2 ky ⊢
  clear hy q1 b1 kx e0 e1 e3 z3 lx lb W1 W2 V0 V1 V2 FB1 FB2
  have y19 : y.cell? ⟨p, 19, none⟩ = some (.int .i64 (S.ln : Int)) := by rw [cell_of_row y _ 19 _ _ _ q2]; simpa using (cpC_3 S m v HS.out.1 F).2
  have z19 := froz11 y p 19 _ _ q2
  have ly : p < y.heap.size := lt_of_heap q2
  have q3 := fun n => heap_setCell_same y p 19 _ _ (.int .i64 ((n : Nat) : Int)) q2
  have k3 := fun n => ky.set ⟨p, 19, none⟩ (.int .i64 ((n : Nat) : Int)) (.inl (by simp))
  have FIN : Hid (∀ n : Nat, (y.setCell ⟨p, 19, none⟩ (.int .i64 (n : Int))).heap[p]? = some (.cells (esC { S with hs := hAdd S.hs F, ln := n } m v).toArray 66 (0, 0)) ∧ Kp [p] w (y.setCell ⟨p, 19, none⟩ (.int .i64 (n : Int)))) := fun n => ⟨by
    rw [← cpC_set S m v HS.out.1 F n]
    have := q3 n
    simpa using this, k3 n⟩
  clear q3 k3 q2 ky
  obtain ⟨ln, hln⟩ : ∃ ln, Hid (ln = S.ln) := ⟨_, rfl⟩
  rw [← hln.out] at y19
  have l16 : Hid (ln ≤ 16) := by show _ ≤ _; rw [hln.out]; exact HS.out.2
  have w1 : IntKind.i64.wrap ((ln : Int) + 1) = (ln : Int) + 1 := w64 _ (by omega) (by have := l16.out; omega)
  have FL := FIN.out N2
  by_cases hl : ln = 16
  · have m1 : (N2 : Int) = 16 := by have := hN2.out; have := hln.out; omega
    rw [m1] at FL
    have c1 : ¬ ((ln : Int) + 1 ≤ 16) := by omega
    have c2 : (16 : Int) < (ln : Int) + 1 := by omega
    have FH : Hid _ := FL
    clear hl m1 FL
    go_wp2_with fail
    go_end0
    exact ⟨rfl, FH.out.1, FH.out.2⟩
  · have m1 : (N2 : Int) = (ln : Int) + 1 := by have := l16.out; have := hN2.out; have := hln.out; omega
    rw [m1] at FL
    have c1 : (ln : Int) + 1 ≤ 16 := by have := l16.out; omega
    have c2 : ¬ (16 : Int) < (ln : Int) + 1 := by omega
    have FH : Hid _ := FL
    clear hl m1 FL
    go_wp2_with fail
    go_end0
    exact ⟨rfl, FH.out.1, FH.out.2⟩
#print axioms hadd_any
theorem infoU : (Try.prog.info? 52).map (fun i => (i.zero, i.size, i.bytes)) = some (some (.int .u32 0), 1, 4) := by kernel_rfl
theorem cl11 {W W' : World} {p : Addr} {v : Value} (hb : Below W.heap.size W W') (h : W.cell? p = some v) : W'.cell? p = some v := (hb.cell (p := p) (block_lt_of_cell h)).trans h
theorem cla11 {W : World} {o : Obj} {p : Addr} {v : Value} (h : W.cell? p = some v) : (W.alloc o).cell? p = some v := cl11 (Below.al (Below.refl _ _) o) h
theorem notnil4 (p n c : Nat) (w : World) : (binOp .eql 51 (.slice (some ⟨p, 3, none⟩) n c) (.slice none 0 0)).run Try.prog w = .ok (.bool false) w := by kernel_rfl
set_option linter.unusedSimpArgs false in
set_option maxHeartbeats 4000000 in
set_option maxRecDepth 100000 in
/-- A copy of fields that lie in the row of sixteen. -/
theorem clone_any (p n : Nat) (l : List Int) (w : World) (hl : l.length = n) (hn : n ≤ 16) (hc : ∀ j u, (l.map (Value.int .u32))[j]? = some u → w.cell? ⟨p, 3 + j, none⟩ = some u) :
    Calls Try.prog 45 #[.slice (some ⟨p, 3, none⟩) n 16] w fun e w' => ∃ g o cap, e = .returned (.slice (some ⟨g, o, none⟩) n cap) ∧ OwnAt w' 52 1 g o n cap (l.map (Value.int .u32)) ∧ w.heap.size ≤ g ∧ Below w.heap.size w w' := by
  obtain ⟨i0, hi, hz0, hz1, hz2⟩ := info_parts infoU
  have O : ∀ g, g = w.heap.size → OwnAt (w.alloc (.cells #[] 52)) 52 1 g 0 0 0 [] := fun g hg => OwnAt.made [] 0 rfl (by simp [maxLen]) (by subst hg; exact heap_new _ _)
  have RUN : Hid (∀ ty, ∃ g o cap w', (Builtin.append_ #[51, 51] ty #[.slice (some ⟨w.heap.size, 0, none⟩) 0 0, .slice (some ⟨p, 3, none⟩) n 16]).run Try.prog (w.alloc (.cells #[] 52)) = .ok (.slice (some ⟨g, o, none⟩) n cap) w' ∧ OwnAt w' 52 1 g o n cap (l.map (Value.int .u32)) ∧ w.heap.size ≤ g ∧ Below w.heap.size w w') := fun ty => by
    rcases Nat.eq_zero_or_pos n with h0 | h0
    · subst h0
      have e : l = [] := List.eq_nil_of_length_eq_zero hl
      subst e
      exact ⟨w.heap.size, 0, 0, _, Own.append_none (ty := ty) Try.underlying51 hi (.inr ⟨w.heap.size, 0, 0, rfl, O _ rfl⟩) _ _, O _ rfl, Nat.le_refl _, (by repeat (first | exact Below.refl _ _ | apply Below.drew | apply Below.al))⟩
    · obtain ⟨g, o, cap, w', r, hO, hg, hk⟩ := Own.append (w := w.alloc (.cells #[] 52)) (ty := ty) Try.underlying51 hi hz0 hz1 hz2 rfl (by decide) (.inr ⟨w.heap.size, 0, 0, rfl, O _ rfl⟩) ⟨p, 3, none⟩ n 16 (l.map (Value.int .u32)) (by simp [hl]) (fun j u hu => by rw [add_at]; exact (cla11 (hc j u hu))) (fun u hu => by obtain ⟨_, _, rfl⟩ := List.mem_map.1 hu; rfl) h0 (by omega) (by decide)
      rw [Nat.zero_add] at r hO
      rw [List.nil_append] at hO
      refine ⟨g, o, cap, w', r, hO, ?_, Kp.below (S := [w.heap.size]) (by repeat (first | exact Below.refl _ _ | apply Below.drew | apply Below.al)) hk (by simp) (by simp)⟩
      rcases hg with hg | hg
      · simp [Value.ownBlock] at hg; omega
      · rw [hg]; simp
  have NN := fun w => notnil4 p n 16 w
  clear hi hz0 hz1 hz2 O hc
  go_enter Try.func45, Try.ntmps45
  obtain ⟨g, o, cap, w1, r, R1⟩ := RUN.out 51
  have R2 : Hid _ := R1
  clear R1 RUN
  go_wp2_with (first | (at_builtin; refine wpList_app_by rfl _ _ _ rfl _ _ rfl rfl _ r ?_) | go_in)
  go_ret
  exact ⟨g, o, cap, rfl, R2.out⟩
/-- What a copy of the history is. -/
def HsPost (w w' : World) (S : ES) (e : Ending) : Prop := ∃ g o cap, e = .returned (.slice (some ⟨g, o, none⟩) S.ln cap) ∧ OwnAt w' 52 1 g o S.ln cap ((S.hs.take S.ln).map (Value.int .u32)) ∧ w.heap.size ≤ g ∧ Below w.heap.size w w'
theorem clone_hist {w : World} {p m : Nat} {v : Value} {S : ES} (h : IsE w p m v S) (W : World) (hb : Below w.heap.size w W) : Calls Try.prog 45 #[.slice (some ⟨p, 3, none⟩) S.ln 16] W fun e w' => HsPost W w' S e :=
  clone_any p S.ln (S.hs.take S.ln) W (by rw [List.length_take, h.ok.h16]; have := h.ok.l16; omega) h.ok.l16 (fun j u hu => by
    have hE := h.next hb
    have hj : j < S.ln := by have := (List.getElem?_eq_some_iff.1 hu).1; simp at this; omega
    have e := esC_h S m v j (by have := h.ok.l16; have := h.ok.h16; omega)
    refine hE.cell (3 + j) u ?_
    rw [e]
    simp [hj] at hu
    obtain ⟨z, hz, rfl⟩ := hu
    rw [List.getD_eq_getElem?_getD, hz]
    rfl)
set_option linter.unusedSimpArgs false in
set_option maxHeartbeats 4000000 in
set_option maxRecDepth 100000 in
theorem list_any {w : World} {p m : Nat} {v : Value} {S : ES} (h : IsE w p m v S) : Calls Try.prog 39 #[.pointer (some ⟨p, 3, none⟩)] w fun e w' => HsPost w w' S e := by
  have CL := fun W hb => clone_hist h W hb
  have CLH : Hid (∀ W, Below w.heap.size w W → Calls Try.prog 45 #[.slice (some ⟨p, 3, none⟩) S.ln 16] W fun e w' => HsPost W w' S e) := CL
  have c19 := h.c19
  have l16 : (S.ln : Int) ≤ 16 := by have := h.ok.l16; omega
  clear CL h
  go_enter Try.func39, Try.ntmps39
  go_wp2_with fail
  refine wp_region_held_drew (S := fun x1 => Below w.heap.size w x1 ∧ x1.cell? ⟨p, 19, none⟩ = some (.int .i64 (S.ln : Int))) (by kernel_rfl) (⟨Below.drew (Below.refl _ _), c19⟩) (fun hHeld => ?_)
  refine tk 0 (.pointer (some ⟨p, 3, none⟩)) rfl (.inl ⟨by rfl, ?_⟩) ?_
  · intro w9 hSw
    try dsimp only at hSw
    go_simp
    all_goals try decide
    all_goals try assumption
    all_goals try omega
  try simp only [Act.put, gA, gS, gZ, sA, sZ, sS]
  refine tk 1 (.pointer (some ⟨p, 3, none⟩)) rfl (.inl ⟨by rfl, ?_⟩) ?_
  · intro w9 hSw
    try dsimp only at hSw
    go_simp
    all_goals try decide
    all_goals try assumption
    all_goals try omega
  try simp only [Act.put, gA, gS, gZ, sA, sZ, sS]
  refine tk 2 (.pointer (some ⟨p, 3, none⟩)) rfl (.inl ⟨by rfl, ?_⟩) ?_
  · intro w9 hSw
    try dsimp only at hSw
    go_simp
    all_goals try decide
    all_goals try assumption
    all_goals try omega
  try simp only [Act.put, gA, gS, gZ, sA, sZ, sS]
  refine tk 3 (.pointer (some ⟨p, 3, none⟩)) rfl (.inl ⟨by rfl, ?_⟩) ?_
  · intro w9 hSw
    try dsimp only at hSw
    go_simp
    all_goals try decide
    all_goals try assumption
    all_goals try omega
  try simp only [Act.put, gA, gS, gZ, sA, sZ, sS]
  refine tk 4 (.pointer (some ⟨p, 3, none⟩)) rfl (.inl ⟨by rfl, ?_⟩) ?_
  · intro w9 hSw
    try dsimp only at hSw
    go_simp
    all_goals try decide
    all_goals try assumption
    all_goals try omega
  try simp only [Act.put, gA, gS, gZ, sA, sZ, sS]
  refine tk 5 (.pointer (some ⟨p, 19, none⟩)) rfl (.inl ⟨by rfl, ?_⟩) ?_
  · intro w9 hSw
    try dsimp only at hSw
    go_simp
    all_goals try decide
    all_goals try assumption
    all_goals try omega
  try simp only [Act.put, gA, gS, gZ, sA, sZ, sS]
  refine tk 6 (.int .i64 (S.ln : Int)) rfl (.inl ⟨by rfl, ?_⟩) ?_
  · intro w9 hSw
    try dsimp only at hSw
    go_simp
    all_goals try decide
    all_goals try assumption
    all_goals try omega
  try simp only [Act.put, gA, gS, gZ, sA, sZ, sS]
  refine tk 7 (.slice (some ⟨p, 3, none⟩) S.ln 16) rfl (.inl ⟨by rfl, ?_⟩) ?_
  · intro w9 hSw
    try dsimp only at hSw
    go_simp
    all_goals try decide
    all_goals try assumption
    all_goals try omega
  try simp only [Act.put, gA, gS, gZ, sA, sZ, sS]
  refine wpAnyH_ready (rs := [8]) (by kernel_rfl) (by simp) ?_
  refine AllReadyH.cons rfl (fun K' hK => ?_) AllReadyH.nil
  rw [if_pos (by rfl)]
  simp only [gA, gS, gZ]
  obtain ⟨S0, S1⟩ := hHeld
  go_wp2_with fail
  refine (CLH.out _ (Below.drew (Below.refl _ _))).mono ?_
  rintro e w1 ⟨g, o, cap, rfl, hO, hg, hb⟩
  have FIN : Hid _ := And.intro hO (And.intro hg (Below.andThen (Below.drew (Below.refl _ _)) hb))
  clear hO hg
  try go_wp2_with fail
  refine hK.out _ _ (⟨Below.andThen S0 hb, cl11 hb S1⟩) (fun hHeld => ?_)
  clear hK K'
  try simp only [Act.put, gA, gS, gZ, sA, sZ, sS]
  clear hb
  refine tk 9 (.slice (some ⟨g, o, none⟩) S.ln cap) rfl (.inl ⟨by rfl, ?_⟩) ?_
  · intro w9 hSw
    try dsimp only at hSw
    go_simp
    all_goals try decide
    all_goals try assumption
    all_goals try omega
  try simp only [Act.put, gA, gS, gZ, sA, sZ, sS]
  refine wpAnyH_done (by kernel_rfl) ?_ _
  go_wp2_with fail
  go_ret
  exact ⟨g, o, cap, rfl, FIN.out.1, FIN.out.2.1, FIN.out.2.2⟩
set_option linter.unusedSimpArgs false in
set_option maxHeartbeats 4000000 in
set_option maxRecDepth 100000 in
theorem history_any {w : World} {p m : Nat} {v : Value} {S : ES} (h : IsE w p m v S) : Calls Try.prog 20 #[.pointer (some ⟨p, 0, none⟩)] w fun e w' => HsPost w w' S e := by
  have LA := list_any h
  clear h
  go_enter Try.func20, Try.ntmps20
  go_wp2_with fail
  refine LA.mono ?_
  rintro e w1 ⟨g, o, cap, rfl, R⟩
  have FIN : Hid _ := R
  clear R LA
  go_wp2_with fail
  go_ret
  exact ⟨g, o, cap, rfl, FIN.out⟩
#print axioms history_any
end Go.Proofs.Ytnbdnmfnmnboiaa
