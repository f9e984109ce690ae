/-
  The walks of the machine's State, Address, May, follows, Beat and New, and of the document's May and Beat.
-/
import Derived.Test.YtjfjfohabpjemaaHc
namespace Go.Proofs.Ytjfjfohabpjemaa
open Go.RowKit

/-- A machine's cells: its address, its state. -/
abbrev maC (a s : Int) : Array Value := #[.int .u8 a, .int .u8 s]
abbrev pt (p : Nat) : Value := .pointer (some ⟨p, 0, none⟩)
/-- May it do a service? -/
def mayB (v s : Int) : Bool := if v == 1 then (s == 127 || s == 5) else if v == 3 then (s == 127 || s == 5) else if v == 4 then (s == 127 || s == 5) else if v == 5 then (s == 127 || s == 5) else if v == 2 then s == 5 else if v == 6 then s != 0 else if v == 7 then s != 0 else false

set_option linter.unusedSimpArgs false in
set_option maxHeartbeats 4000000 in
set_option maxRecDepth 100000 in
theorem state_at {w : World} {p : Nat} {a s : Int} (h : w.heap[p]? = some (.cells (maC a s) 57 (0, 0))) : Calls Try.prog 19 #[pt p] w fun e w' => e = .returned (.int .u8 s) ∧ w' = w := by
  have c1 : w.cell? ⟨p, 1, none⟩ = some (.int .u8 s) := by rw [cell_of_row w _ 1 _ _ _ h]; rfl
  clear h
  go_enter Try.func19, Try.ntmps19
  go_wp2_with fail
  go_ret
  exact ⟨rfl, rfl⟩
set_option linter.unusedSimpArgs false in
set_option maxHeartbeats 4000000 in
set_option maxRecDepth 100000 in
theorem address_at {w : World} {p : Nat} {a s : Int} (h : w.heap[p]? = some (.cells (maC a s) 57 (0, 0))) : Calls Try.prog 20 #[pt p] w fun e w' => e = .returned (.int .u8 a) ∧ w' = w := by
  have c1 : w.cell? ⟨p, 0, none⟩ = some (.int .u8 a) := by rw [cell_of_row w _ 0 _ _ _ h]; rfl
  clear h
  go_enter Try.func20, Try.ntmps20
  go_wp2_with fail
  go_ret
  exact ⟨rfl, rfl⟩
set_option linter.unusedSimpArgs false in
set_option maxHeartbeats 4000000 in
set_option maxRecDepth 100000 in
theorem may_at {w : World} {p : Nat} {a s : Int} (h : w.heap[p]? = some (.cells (maC a s) 57 (0, 0))) (v : Int) : Calls Try.prog 22 #[pt p, .int .u8 v] w fun e w' => e = .returned (.bool (mayB v s)) ∧ w' = w := by
  have c1 : w.cell? ⟨p, 1, none⟩ = some (.int .u8 s) := by rw [cell_of_row w _ 1 _ _ _ h]; rfl
  clear h
  go_enter Try.func22, Try.ntmps22
  go_wp2_with fail
  all_goals (go_ret; exact ⟨ret_bool (by unfold mayB; simp only [*, Bool.false_eq_true, if_false, if_true]; try (simp [*]; done)), rfl⟩)
set_option linter.unusedSimpArgs false in
set_option maxHeartbeats 4000000 in
set_option maxRecDepth 100000 in
theorem rmay_at {w : World} {p : Nat} {a s : Int} (h : w.heap[p]? = some (.cells (maC a s) 30 (0, 0))) (v : Int) : Calls Try.prog 23 #[pt p, .int .u8 v] w fun e w' => e = .returned (.bool (mayB v s)) ∧ w' = w := by
  have c1 : w.cell? ⟨p, 1, none⟩ = some (.int .u8 s) := by rw [cell_of_row w _ 1 _ _ _ h]; rfl
  clear h
  go_enter Try.func23, Try.ntmps23
  go_wp2_with fail
  all_goals (go_ret; exact ⟨ret_bool (by unfold mayB; simp only [*, Bool.false_eq_true, if_false, if_true]; try (simp [*]; done)), rfl⟩)
set_option linter.unusedSimpArgs false in
set_option maxHeartbeats 4000000 in
set_option maxRecDepth 100000 in
theorem follows_at {w : World} {p : Nat} {a s : Int} (h : w.heap[p]? = some (.cells (maC a s) 57 (0, 0))) (v : Int) : Calls Try.prog 25 #[pt p, .int .u8 v] w fun e w' => e = .returned (.bool (!(s == 0) && (v == 0 || v == a))) ∧ w' = w := by
  have c0 : w.cell? ⟨p, 0, none⟩ = some (.int .u8 a) := by rw [cell_of_row w _ 0 _ _ _ h]; rfl
  have MY := may_at h 7
  rw [show mayB 7 s = !(s == 0) from by simp [mayB]; rfl] at MY
  clear h
  by_cases hs : s = 0
  · rw [show (!(s == 0)) = false from by simp [hs]] at MY
    go_enter Try.func25, Try.ntmps25
    go_wp2_with fail
    refine MY.mono ?_
    rintro e w1 ⟨rfl, rfl⟩
    go_wp2_with fail
    all_goals (go_ret; exact ⟨ret_bool (by simp [*]), rfl⟩)
  · rw [show (!(s == 0)) = true from by simp [hs]] at MY
    go_enter Try.func25, Try.ntmps25
    go_wp2_with fail
    refine MY.mono ?_
    rintro e w1 ⟨rfl, rfl⟩
    go_wp2_with fail
    all_goals (go_ret; exact ⟨ret_bool (by simp [*]), rfl⟩)

theorem nil_state (w : World) : Calls Try.prog 19 #[.pointer none] w fun e w' => e = .returned (.int .u8 0) ∧ w' = w := by
  go_enter Try.func19, Try.ntmps19
  go_wp2_with fail
  go_ret
  exact ⟨rfl, rfl⟩
theorem nil_address (w : World) : Calls Try.prog 20 #[.pointer none] w fun e w' => e = .returned (.int .u8 0) ∧ w' = w := by
  go_enter Try.func20, Try.ntmps20
  go_wp2_with fail
  go_ret
  exact ⟨rfl, rfl⟩
set_option linter.unusedSimpArgs false in
set_option maxHeartbeats 4000000 in
set_option maxRecDepth 100000 in
theorem nil_may (v : Int) (w : World) : Calls Try.prog 22 #[.pointer none, .int .u8 v] w fun e w' => e = .returned (.bool false) ∧ w' = w := by
  go_enter Try.func22, Try.ntmps22
  go_wp2_with fail
  go_ret
  exact ⟨rfl, rfl⟩
set_option linter.unusedSimpArgs false in
set_option maxHeartbeats 4000000 in
set_option maxRecDepth 100000 in
theorem nil_follows (v : Int) (w : World) : Calls Try.prog 25 #[.pointer none, .int .u8 v] w fun e w' => e = .returned (.bool false) ∧ w' = w := by
  have MY := nil_may 7 w
  go_enter Try.func25, Try.ntmps25
  go_wp2_with fail
  refine MY.mono ?_
  rintro e w1 ⟨rfl, rfl⟩
  go_wp2_with fail
  go_ret
  exact ⟨rfl, rfl⟩
set_option linter.unusedSimpArgs false in
set_option maxHeartbeats 4000000 in
set_option maxRecDepth 100000 in
theorem nil_beat (w : World) : Calls Try.prog 21 #[.pointer none] w fun e w' => e = .returned zeroF ∧ Below w.heap.size w w' := by
  go_enter Try.func21, Try.ntmps21
  go_wp2_with fail
  exact bodyPost_ret (v := zeroF) (by simp [results, Try.results21, go_sem]) rfl ⟨rfl, (by repeat (first | exact Below.refl _ _ | apply Below.drew | apply Below.al))⟩
set_option linter.unusedSimpArgs false in
set_option maxHeartbeats 4000000 in
set_option maxRecDepth 100000 in
theorem nil_boot (w : World) : Calls Try.prog 11 #[.pointer none] w fun e w' => e = .returned (.tuple #[zeroF, .int .i64 1]) ∧ Below w.heap.size w w' := by
  go_enter Try.func11, Try.ntmps11
  go_wp2_with fail
  exact bodyPost_ret (v := .tuple #[zeroF, .int .i64 1]) (by simp [results, Try.results11, go_sem]) rfl ⟨rfl, (by repeat (first | exact Below.refl _ _ | apply Below.drew | apply Below.al))⟩

set_option linter.unusedSimpArgs false in
set_option maxHeartbeats 4000000 in
set_option maxRecDepth 100000 in
theorem new_bad (a : Int) (h : a < 1 ∨ 127 < a) (h0 : 0 ≤ a) (w : World) : Calls Try.prog 7 #[.int .u8 a] w fun e w' => e = .returned (.tuple #[.pointer none, .int .i64 2]) ∧ w' = w := by
  by_cases h1 : a = 0
  · subst h1
    go_enter Try.func7, Try.ntmps7
    go_wp2_with fail
    exact bodyPost_ret (v := .tuple #[.pointer none, .int .i64 2]) (by simp [results, Try.results7, go_sem]) rfl ⟨rfl, rfl⟩
  · have h2 : 127 < a := by omega
    clear h
    go_enter Try.func7, Try.ntmps7
    go_wp2_with fail
    exact bodyPost_ret (v := .tuple #[.pointer none, .int .i64 2]) (by simp [results, Try.results7, go_sem]) rfl ⟨rfl, rfl⟩
set_option linter.unusedSimpArgs false in
set_option maxHeartbeats 4000000 in
set_option maxRecDepth 100000 in
theorem new_ok (a : Int) (h1 : 1 ≤ a) (h2 : a ≤ 127) (w : World) : Calls Try.prog 7 #[.int .u8 a] w fun e w' => e = .returned (.tuple #[pt w.heap.size, .int .i64 0]) ∧ w' = w.alloc (.cells (maC a 0) 57) := by
  have h3 : ¬ a = 0 := by omega
  have h4 : ¬ 127 < a := by omega
  go_enter Try.func7, Try.ntmps7
  go_wp2_with fail
  exact bodyPost_ret (v := .tuple #[pt w.heap.size, .int .i64 0]) (by simp [results, Try.results7, go_sem]) rfl ⟨rfl, rfl⟩

set_option linter.unusedSimpArgs false in
set_option maxHeartbeats 4000000 in
set_option maxRecDepth 100000 in
theorem beat_at {w : World} {p : Nat} {a s : Int} (h : w.heap[p]? = some (.cells (maC a s) 57 (0, 0))) (h0 : 0 ≤ a ∧ a < 256) (hs : 0 ≤ s ∧ s < 256) : Calls Try.prog 21 #[pt p] w fun e w' => e = .returned (frV (1792 + a) 1 s 0 0 0 0 0 0 0 false) ∧ Below w.heap.size w w' := by
  have c0 : w.cell? ⟨p, 0, none⟩ = some (.int .u8 a) := by rw [cell_of_row w _ 0 _ _ _ h]; rfl
  have c1 : w.cell? ⟨p, 1, none⟩ = some (.int .u8 s) := by rw [cell_of_row w _ 1 _ _ _ h]; rfl
  have MK : Hid (∀ (W : World) (b : Nat), Row W (some ⟨b, 0, none⟩) 1 [s] → Calls Try.prog 27 #[.int .u16 (1792 + a), .slice (some ⟨b, 0, none⟩) 1 1] W fun e w' => e = .returned (.tuple #[frV (1792 + a) 1 s 0 0 0 0 0 0 0 false, .int .i64 0]) ∧ Below W.heap.size W w') := fun W b hr => by
    have := make_any (1792 + a) (some ⟨b, 0, none⟩) 1 1 _ W hr
    rwa [mkR_one _ _ (by omega)] at this
  have HS : Hid (0 ≤ s ∧ s < 256) := hs
  have V3 : IntKind.u16.wrap a = a := by rw [IntKind.wrap_u16]; omega
  have V4 : IntKind.u16.wrap (1792 + a) = 1792 + a := by rw [IntKind.wrap_u16]; omega
  clear h h0 hs
  go_enter Try.func21, Try.ntmps21
  go_wp2_with fail
  have gR : Hid ((w.alloc (.cells (frC 0 0 0 0 0 0 0 0 0 0 false) 36)).heap[w.heap.size]? = some (.cells (frC 0 0 0 0 0 0 0 0 0 0 false) 36 (0, 0))) := at11 w (.cells (frC 0 0 0 0 0 0 0 0 0 0 false) 36) w.heap.size rfl
  have K0 : Below w.heap.size w (w.alloc (.cells (frC 0 0 0 0 0 0 0 0 0 0 false) 36)) := (by repeat (first | exact Below.refl _ _ | apply Below.drew | apply Below.al))
  generalize hy : (w.alloc (.cells (frC 0 0 0 0 0 0 0 0 0 0 false) 36) : World) = y at gR K0 ⊢
  clear hy
  have kp0 := cl11 K0 c0
  have kp1 := cl11 K0 c1
  clear c0 c1
  have lY : Hid (w.heap.size ≤ y.heap.size) := K0.size
  have HY : Hid (Below w.heap.size w y) := K0
  clear K0
  refine wp_region_held_drew (S := fun x1 => Below y.heap.size y x1) (by kernel_rfl) (Below.drew (Below.refl _ _)) (fun hHeld => ?_)
  refine wpAnyH_take (i := 0) (v := (.pointer (some ⟨p, 0, none⟩))) rfl (by kernel_rfl) (by kernel_rfl) (by kernel_rfl) (fun _ _ _ h => h) (Or.inl ⟨by rfl, ?_⟩) (by assumption) ?_
  · intro w9 hSw
    try dsimp only at hSw
    go_simp
    all_goals try decide
    all_goals try assumption
    all_goals try omega
  try simp only [Act.put, List.getElem_toArray, List.getElem_cons_succ, List.getElem_cons_zero, List.setIfInBounds_toArray, List.set_cons_zero, List.set_cons_succ]
  refine wpAnyH_take (i := 1) (v := (.pointer (some ⟨p, 0, none⟩))) rfl (by kernel_rfl) (by kernel_rfl) (by kernel_rfl) (fun _ _ _ h => h) (Or.inl ⟨by rfl, ?_⟩) (by assumption) ?_
  · intro w9 hSw
    try dsimp only at hSw
    go_simp
    all_goals try decide
    all_goals try assumption
    all_goals try omega
  try simp only [Act.put, List.getElem_toArray, List.getElem_cons_succ, List.getElem_cons_zero, List.setIfInBounds_toArray, List.set_cons_zero, List.set_cons_succ]
  refine wpAnyH_take (i := 2) (v := (.pointer (some ⟨p, 0, none⟩))) rfl (by kernel_rfl) (by kernel_rfl) (by kernel_rfl) (fun _ _ _ h => h) (Or.inl ⟨by rfl, ?_⟩) (by assumption) ?_
  · intro w9 hSw
    try dsimp only at hSw
    go_simp
    all_goals try decide
    all_goals try assumption
    all_goals try omega
  try simp only [Act.put, List.getElem_toArray, List.getElem_cons_succ, List.getElem_cons_zero, List.setIfInBounds_toArray, List.set_cons_zero, List.set_cons_succ]
  refine wpAnyH_take (i := 3) (v := (.int .u8 a)) rfl (by kernel_rfl) (by kernel_rfl) (by kernel_rfl) (fun _ _ _ h => h) (Or.inl ⟨by rfl, ?_⟩) (by assumption) ?_
  · intro w9 hSw
    try dsimp only at hSw
    have hc9 := cl11 hSw kp0
    go_simp
    all_goals try decide
    all_goals try assumption
    all_goals try omega
  try simp only [Act.put, List.getElem_toArray, List.getElem_cons_succ, List.getElem_cons_zero, List.setIfInBounds_toArray, List.set_cons_zero, List.set_cons_succ]
  refine wpAnyH_take (i := 4) (v := (.int .u16 a)) rfl (by kernel_rfl) (by kernel_rfl) (by kernel_rfl) (fun _ _ _ h => h) (Or.inl ⟨by rfl, ?_⟩) (by assumption) ?_
  · intro w9 hSw
    try dsimp only at hSw
    go_simp
    all_goals try decide
    all_goals try assumption
    all_goals try omega
  try simp only [Act.put, List.getElem_toArray, List.getElem_cons_succ, List.getElem_cons_zero, List.setIfInBounds_toArray, List.set_cons_zero, List.set_cons_succ]
  refine wpAnyH_take (i := 5) (v := (.int .u16 (1792 + a))) rfl (by kernel_rfl) (by kernel_rfl) (by kernel_rfl) (fun _ _ _ h => h) (Or.inl ⟨by rfl, ?_⟩) (by assumption) ?_
  · intro w9 hSw
    try dsimp only at hSw
    go_simp
    all_goals try decide
    all_goals try assumption
    all_goals try omega
  try simp only [Act.put, List.getElem_toArray, List.getElem_cons_succ, List.getElem_cons_zero, List.setIfInBounds_toArray, List.set_cons_zero, List.set_cons_succ]
  refine wpAnyH_take (i := 6) (v := (.pointer (some ⟨p, 0, none⟩))) rfl (by kernel_rfl) (by kernel_rfl) (by kernel_rfl) (fun _ _ _ h => h) (Or.inl ⟨by rfl, ?_⟩) (by assumption) ?_
  · intro w9 hSw
    try dsimp only at hSw
    go_simp
    all_goals try decide
    all_goals try assumption
    all_goals try omega
  try simp only [Act.put, List.getElem_toArray, List.getElem_cons_succ, List.getElem_cons_zero, List.setIfInBounds_toArray, List.set_cons_zero, List.set_cons_succ]
  refine wpAnyH_take (i := 7) (v := (.pointer (some ⟨p, 0, none⟩))) rfl (by kernel_rfl) (by kernel_rfl) (by kernel_rfl) (fun _ _ _ h => h) (Or.inl ⟨by rfl, ?_⟩) (by assumption) ?_
  · intro w9 hSw
    try dsimp only at hSw
    go_simp
    all_goals try decide
    all_goals try assumption
    all_goals try omega
  try simp only [Act.put, List.getElem_toArray, List.getElem_cons_succ, List.getElem_cons_zero, List.setIfInBounds_toArray, List.set_cons_zero, List.set_cons_succ]
  refine wpAnyH_take (i := 8) (v := (.pointer (some ⟨p, 1, none⟩))) rfl (by kernel_rfl) (by kernel_rfl) (by kernel_rfl) (fun _ _ _ h => h) (Or.inl ⟨by rfl, ?_⟩) (by assumption) ?_
  · intro w9 hSw
    try dsimp only at hSw
    go_simp
    all_goals try decide
    all_goals try assumption
    all_goals try omega
  try simp only [Act.put, List.getElem_toArray, List.getElem_cons_succ, List.getElem_cons_zero, List.setIfInBounds_toArray, List.set_cons_zero, List.set_cons_succ]
  refine wpAnyH_take (i := 9) (v := (.int .u8 s)) rfl (by kernel_rfl) (by kernel_rfl) (by kernel_rfl) (fun _ _ _ h => h) (Or.inl ⟨by rfl, ?_⟩) (by assumption) ?_
  · intro w9 hSw
    try dsimp only at hSw
    have hc9 := cl11 hSw kp1
    go_simp
    all_goals try decide
    all_goals try assumption
    all_goals try omega
  try simp only [Act.put, List.getElem_toArray, List.getElem_cons_succ, List.getElem_cons_zero, List.setIfInBounds_toArray, List.set_cons_zero, List.set_cons_succ]
  refine wpAnyH_ready (rs := [10, 15]) (by kernel_rfl) (by simp) ?_
  refine AllReadyH.cons rfl (fun K' hK => ?_) (AllReadyH.cons rfl (fun K' hK => ?_) AllReadyH.nil)
  · rw [if_pos (by rfl)]
    simp only [List.getElem_toArray, List.getElem_cons_succ, List.getElem_cons_zero]
    have S0 := hHeld
    go_wp2_with fail
    refine hK.out _ _ (Below.al S0 _) (fun hHeld => ?_)
    clear hK K'
    try simp only [Act.put, List.getElem_toArray, List.getElem_cons_succ, List.getElem_cons_zero, List.setIfInBounds_toArray, List.set_cons_zero, List.set_cons_succ]
    have rB : Row ((y.alloc (.cells #[.int .u8 s] 5)).drew) (some ⟨y.heap.size, 0, none⟩) 1 [s] := (row_one y s HS.out _ rfl).next (Below.drew (Below.refl _ _))
    clear S0
    generalize hx : ((y.alloc (.cells #[.int .u8 s] 5)).drew : World) = x1_ at hHeld rB ⊢
    clear hx
    refine wpAnyH_ready (rs := [11, 15]) (by kernel_rfl) (by simp) ?_
    refine AllReadyH.cons rfl (fun K' hK => ?_) (AllReadyH.cons rfl (fun K' hK => ?_) AllReadyH.nil)
    · rw [if_pos (by rfl)]
      simp only [List.getElem_toArray, List.getElem_cons_succ, List.getElem_cons_zero]
      have S0 := hHeld
      go_wp2_with fail
      refine (MK.out _ _ rB).mono ?_
      rintro e wm ⟨rfl, hbm⟩
      try go_wp2_with fail
      refine hK.out _ _ (Below.andThen S0 hbm) (fun hHeld => ?_)
      clear hK K'
      try simp only [Act.put, List.getElem_toArray, List.getElem_cons_succ, List.getElem_cons_zero, List.setIfInBounds_toArray, List.set_cons_zero, List.set_cons_succ]
      clear hbm rB
      refine wpAnyH_take (i := 12) (v := (.tuple #[frV (1792 + a) 1 s 0 0 0 0 0 0 0 false, .int .i64 0])) rfl (by kernel_rfl) (by kernel_rfl) (by kernel_rfl) (fun _ _ _ h => h) (Or.inl ⟨by rfl, ?_⟩) (by assumption) ?_
      · intro w9 hSw
        try dsimp only at hSw
        go_simp
        all_goals try decide
        all_goals try assumption
        all_goals try omega
      try simp only [Act.put, List.getElem_toArray, List.getElem_cons_succ, List.getElem_cons_zero, List.setIfInBounds_toArray, List.set_cons_zero, List.set_cons_succ]
      refine wpAnyH_take (i := 13) (v := (frV (1792 + a) 1 s 0 0 0 0 0 0 0 false)) rfl (by kernel_rfl) (by kernel_rfl) (by kernel_rfl) (fun _ _ _ h => h) (Or.inl ⟨by rfl, ?_⟩) (by assumption) ?_
      · intro w9 hSw
        try dsimp only at hSw
        go_simp
        all_goals try decide
        all_goals try assumption
        all_goals try omega
      try simp only [Act.put, List.getElem_toArray, List.getElem_cons_succ, List.getElem_cons_zero, List.setIfInBounds_toArray, List.set_cons_zero, List.set_cons_succ]
      refine wpAnyH_take (i := 14) (v := (.int .i64 0)) rfl (by kernel_rfl) (by kernel_rfl) (by kernel_rfl) (fun _ _ _ h => h) (Or.inl ⟨by rfl, ?_⟩) (by assumption) ?_
      · intro w9 hSw
        try dsimp only at hSw
        go_simp
        all_goals try decide
        all_goals try assumption
        all_goals try omega
      try simp only [Act.put, List.getElem_toArray, List.getElem_cons_succ, List.getElem_cons_zero, List.setIfInBounds_toArray, List.set_cons_zero, List.set_cons_succ]
      refine wpAnyH_ready (rs := [15]) (by kernel_rfl) (by simp) ?_
      refine AllReadyH.cons rfl (fun K' hK => ?_) AllReadyH.nil
      rw [if_pos (by rfl)]
      simp only [List.getElem_toArray, List.getElem_cons_succ, List.getElem_cons_zero]
      have S0 := hHeld
      go_wp2_with fail
      refine hK.out _ _ (Below.al S0 _) (fun hHeld => ?_)
      clear hK K'
      try simp only [Act.put, List.getElem_toArray, List.getElem_cons_succ, List.getElem_cons_zero, List.setIfInBounds_toArray, List.set_cons_zero, List.set_cons_succ]
      have fF : (wm.alloc (.cells (frC 0 0 0 0 0 0 0 0 0 0 false) 36)).heap[wm.heap.size]? = some (.cells (frC 0 0 0 0 0 0 0 0 0 0 false) 36 (0, 0)) := at11 wm (.cells (frC 0 0 0 0 0 0 0 0 0 0 false) 36) (wm.heap.size) (by simp)
      have lF : Hid (y.heap.size ≤ wm.heap.size) := by show _ ≤ _; have := S0.size; omega
      clear S0
      generalize hx : ((wm.alloc (.cells (frC 0 0 0 0 0 0 0 0 0 0 false) 36)) : World) = x2_ at hHeld fF ⊢
      clear hx
      refine wpAnyH_ready (rs := [16]) (by kernel_rfl) (by simp) ?_
      refine AllReadyH.cons rfl (fun K' hK => ?_) AllReadyH.nil
      rw [if_pos (by rfl)]
      simp only [List.getElem_toArray, List.getElem_cons_succ, List.getElem_cons_zero]
      have S0 := hHeld
      refine wp_store_row 36 (.tmp 3) (.tmp 21) rfl (wm.heap.size) (frC (1792 + a) 1 s 0 0 0 0 0 0 0 false) rfl rfl 36 _ fF infoF rfl (frC_one _ _ _ _ _ _ _ _ _ _ _) ?_
      refine hK.out _ _ (below_setRow S0 lF.out _) (fun hHeld => ?_)
      clear hK K'
      try simp only [Act.put, List.getElem_toArray, List.getElem_cons_succ, List.getElem_cons_zero, List.setIfInBounds_toArray, List.set_cons_zero, List.set_cons_succ]
      have fG := setRow_heap _ _ _ (frC (1792 + a) 1 s 0 0 0 0 0 0 0 false) _ _ fF
      clear fF S0
      generalize hx : (x2_.setRow (wm.heap.size) (frC (1792 + a) 1 s 0 0 0 0 0 0 0 false) : World) = z at hHeld fG ⊢
      clear hx
      refine wpAnyH_take (i := 17) (v := (.int .i64 0)) rfl (by kernel_rfl) (by kernel_rfl) (by kernel_rfl) (fun _ _ _ h => h) (Or.inl ⟨by rfl, ?_⟩) (by assumption) ?_
      · intro w9 hSw
        try dsimp only at hSw
        go_simp
        all_goals try decide
        all_goals try assumption
        all_goals try omega
      try simp only [Act.put, List.getElem_toArray, List.getElem_cons_succ, List.getElem_cons_zero, List.setIfInBounds_toArray, List.set_cons_zero, List.set_cons_succ]
      refine wpAnyH_done (by kernel_rfl) ?_ _
      obtain ⟨BF, hBF⟩ : ∃ b, Hid (b = wm.heap.size) := ⟨_, rfl⟩
      have LF : Hid (y.heap.size ≤ BF) := by show _ ≤ _; rw [hBF.out]; exact lF.out
      rw [← hBF.out] at fG ⊢
      clear hBF lF
      have KZ : Below w.heap.size w z := Below.trans HY.out (hHeld.mono lY.out)
      have gZ := blk11 hHeld gR.out
      obtain ⟨f0, f1, f2, f3, f4, f5, f6, f7, f8, f9, f10⟩ := frC_at fG
      have lz := lt_of_heap fG
      clear hHeld kp0 kp1 V3 V4 MK fG
      go_wp2_with (refine wpList_store_row rfl 36 _ _ rfl w.heap.size (frC (1792 + a) 1 s 0 0 0 0 0 0 0 false) rfl rfl 36 _ gZ infoF rfl (frC_one _ _ _ _ _ _ _ _ _ _ _) ?_)
      have hc := fun j => cell_of_row (z.setRow w.heap.size (frC (1792 + a) 1 s 0 0 0 0 0 0 0 false)) w.heap.size j _ _ _ (setRow_heap _ _ _ _ _ _ gZ)
      refine bodyPost_ret (v := frV (1792 + a) 1 s 0 0 0 0 0 0 0 false) ?_ rfl ⟨rfl, below_setRow KZ (Nat.le_refl _) _⟩
      simp [results, Try.results21, go_sem, hc]
    · rw [if_pos (by rfl)]
      simp only [List.getElem_toArray, List.getElem_cons_succ, List.getElem_cons_zero]
      have S0 := hHeld
      go_wp2_with fail
      refine hK.out _ _ (Below.al S0 _) (fun hHeld => ?_)
      clear hK K'
      try simp only [Act.put, List.getElem_toArray, List.getElem_cons_succ, List.getElem_cons_zero, List.setIfInBounds_toArray, List.set_cons_zero, List.set_cons_succ]
      have rB := rB.next (Below.al (Below.refl _ _) (.cells (frC 0 0 0 0 0 0 0 0 0 0 false) 36))
      have fF : (x1_.alloc (.cells (frC 0 0 0 0 0 0 0 0 0 0 false) 36)).heap[x1_.heap.size]? = some (.cells (frC 0 0 0 0 0 0 0 0 0 0 false) 36 (0, 0)) := at11 x1_ (.cells (frC 0 0 0 0 0 0 0 0 0 0 false) 36) (x1_.heap.size) (by simp)
      have lF : Hid (y.heap.size ≤ x1_.heap.size) := by show _ ≤ _; have := S0.size; omega
      clear S0
      generalize hx : ((x1_.alloc (.cells (frC 0 0 0 0 0 0 0 0 0 0 false) 36)) : World) = x2_ at hHeld fF rB ⊢
      clear hx
      refine wpAnyH_ready (rs := [11]) (by kernel_rfl) (by simp) ?_
      refine AllReadyH.cons rfl (fun K' hK => ?_) AllReadyH.nil
      rw [if_pos (by rfl)]
      simp only [List.getElem_toArray, List.getElem_cons_succ, List.getElem_cons_zero]
      have S0 := hHeld
      go_wp2_with fail
      refine (MK.out _ _ rB).mono ?_
      rintro e wm ⟨rfl, hbm⟩
      try go_wp2_with fail
      refine hK.out _ _ (Below.andThen S0 hbm) (fun hHeld => ?_)
      clear hK K'
      try simp only [Act.put, List.getElem_toArray, List.getElem_cons_succ, List.getElem_cons_zero, List.setIfInBounds_toArray, List.set_cons_zero, List.set_cons_succ]
      have fF := blk11 hbm fF
      clear hbm rB
      refine wpAnyH_take (i := 12) (v := (.tuple #[frV (1792 + a) 1 s 0 0 0 0 0 0 0 false, .int .i64 0])) rfl (by kernel_rfl) (by kernel_rfl) (by kernel_rfl) (fun _ _ _ h => h) (Or.inl ⟨by rfl, ?_⟩) (by assumption) ?_
      · intro w9 hSw
        try dsimp only at hSw
        go_simp
        all_goals try decide
        all_goals try assumption
        all_goals try omega
      try simp only [Act.put, List.getElem_toArray, List.getElem_cons_succ, List.getElem_cons_zero, List.setIfInBounds_toArray, List.set_cons_zero, List.set_cons_succ]
      refine wpAnyH_take (i := 13) (v := (frV (1792 + a) 1 s 0 0 0 0 0 0 0 false)) rfl (by kernel_rfl) (by kernel_rfl) (by kernel_rfl) (fun _ _ _ h => h) (Or.inl ⟨by rfl, ?_⟩) (by assumption) ?_
      · intro w9 hSw
        try dsimp only at hSw
        go_simp
        all_goals try decide
        all_goals try assumption
        all_goals try omega
      try simp only [Act.put, List.getElem_toArray, List.getElem_cons_succ, List.getElem_cons_zero, List.setIfInBounds_toArray, List.set_cons_zero, List.set_cons_succ]
      refine wpAnyH_take (i := 14) (v := (.int .i64 0)) rfl (by kernel_rfl) (by kernel_rfl) (by kernel_rfl) (fun _ _ _ h => h) (Or.inl ⟨by rfl, ?_⟩) (by assumption) ?_
      · intro w9 hSw
        try dsimp only at hSw
        go_simp
        all_goals try decide
        all_goals try assumption
        all_goals try omega
      try simp only [Act.put, List.getElem_toArray, List.getElem_cons_succ, List.getElem_cons_zero, List.setIfInBounds_toArray, List.set_cons_zero, List.set_cons_succ]
      refine wpAnyH_ready (rs := [16]) (by kernel_rfl) (by simp) ?_
      refine AllReadyH.cons rfl (fun K' hK => ?_) AllReadyH.nil
      rw [if_pos (by rfl)]
      simp only [List.getElem_toArray, List.getElem_cons_succ, List.getElem_cons_zero]
      have S0 := hHeld
      refine wp_store_row 36 (.tmp 3) (.tmp 21) rfl (x1_.heap.size) (frC (1792 + a) 1 s 0 0 0 0 0 0 0 false) rfl rfl 36 _ fF infoF rfl (frC_one _ _ _ _ _ _ _ _ _ _ _) ?_
      refine hK.out _ _ (below_setRow S0 lF.out _) (fun hHeld => ?_)
      clear hK K'
      try simp only [Act.put, List.getElem_toArray, List.getElem_cons_succ, List.getElem_cons_zero, List.setIfInBounds_toArray, List.set_cons_zero, List.set_cons_succ]
      have fG := setRow_heap _ _ _ (frC (1792 + a) 1 s 0 0 0 0 0 0 0 false) _ _ fF
      clear fF S0
      generalize hx : (wm.setRow (x1_.heap.size) (frC (1792 + a) 1 s 0 0 0 0 0 0 0 false) : World) = z at hHeld fG ⊢
      clear hx
      refine wpAnyH_take (i := 17) (v := (.int .i64 0)) rfl (by kernel_rfl) (by kernel_rfl) (by kernel_rfl) (fun _ _ _ h => h) (Or.inl ⟨by rfl, ?_⟩) (by assumption) ?_
      · intro w9 hSw
        try dsimp only at hSw
        go_simp
        all_goals try decide
        all_goals try assumption
        all_goals try omega
      try simp only [Act.put, List.getElem_toArray, List.getElem_cons_succ, List.getElem_cons_zero, List.setIfInBounds_toArray, List.set_cons_zero, List.set_cons_succ]
      refine wpAnyH_done (by kernel_rfl) ?_ _
      obtain ⟨BF, hBF⟩ : ∃ b, Hid (b = x1_.heap.size) := ⟨_, rfl⟩
      have LF : Hid (y.heap.size ≤ BF) := by show _ ≤ _; rw [hBF.out]; exact lF.out
      rw [← hBF.out] at fG ⊢
      clear hBF lF
      have KZ : Below w.heap.size w z := Below.trans HY.out (hHeld.mono lY.out)
      have gZ := blk11 hHeld gR.out
      obtain ⟨f0, f1, f2, f3, f4, f5, f6, f7, f8, f9, f10⟩ := frC_at fG
      have lz := lt_of_heap fG
      clear hHeld kp0 kp1 V3 V4 MK fG
      go_wp2_with (refine wpList_store_row rfl 36 _ _ rfl w.heap.size (frC (1792 + a) 1 s 0 0 0 0 0 0 0 false) rfl rfl 36 _ gZ infoF rfl (frC_one _ _ _ _ _ _ _ _ _ _ _) ?_)
      have hc := fun j => cell_of_row (z.setRow w.heap.size (frC (1792 + a) 1 s 0 0 0 0 0 0 0 false)) w.heap.size j _ _ _ (setRow_heap _ _ _ _ _ _ gZ)
      refine bodyPost_ret (v := frV (1792 + a) 1 s 0 0 0 0 0 0 0 false) ?_ rfl ⟨rfl, below_setRow KZ (Nat.le_refl _) _⟩
      simp [results, Try.results21, go_sem, hc]
  · rw [if_pos (by rfl)]
    simp only [List.getElem_toArray, List.getElem_cons_succ, List.getElem_cons_zero]
    have S0 := hHeld
    go_wp2_with fail
    refine hK.out _ _ (Below.al S0 _) (fun hHeld => ?_)
    clear hK K'
    try simp only [Act.put, List.getElem_toArray, List.getElem_cons_succ, List.getElem_cons_zero, List.setIfInBounds_toArray, List.set_cons_zero, List.set_cons_succ]
    have fF : ((y.alloc (.cells (frC 0 0 0 0 0 0 0 0 0 0 false) 36)).drew).heap[y.heap.size]? = some (.cells (frC 0 0 0 0 0 0 0 0 0 0 false) 36 (0, 0)) := at11 y (.cells (frC 0 0 0 0 0 0 0 0 0 0 false) 36) (y.heap.size) (by simp)
    have lF : Hid (y.heap.size ≤ y.heap.size) := by show _ ≤ _; exact Nat.le_refl _
    clear S0
    generalize hx : ((y.alloc (.cells (frC 0 0 0 0 0 0 0 0 0 0 false) 36)).drew : World) = x1_ at hHeld fF ⊢
    clear hx
    refine wpAnyH_ready (rs := [10]) (by kernel_rfl) (by simp) ?_
    refine AllReadyH.cons rfl (fun K' hK => ?_) AllReadyH.nil
    rw [if_pos (by rfl)]
    simp only [List.getElem_toArray, List.getElem_cons_succ, List.getElem_cons_zero]
    have S0 := hHeld
    go_wp2_with fail
    refine hK.out _ _ (Below.al S0 _) (fun hHeld => ?_)
    clear hK K'
    try simp only [Act.put, List.getElem_toArray, List.getElem_cons_succ, List.getElem_cons_zero, List.setIfInBounds_toArray, List.set_cons_zero, List.set_cons_succ]
    have rB : Row (x1_.alloc (.cells #[.int .u8 s] 5)) (some ⟨x1_.heap.size, 0, none⟩) 1 [s] := row_one x1_ s HS.out _ rfl
    have fF := ext11 (o := (.cells #[.int .u8 s] 5)) fF
    clear S0
    generalize hx : (x1_.alloc (.cells #[.int .u8 s] 5) : World) = x2_ at hHeld fF rB ⊢
    clear hx
    refine wpAnyH_ready (rs := [11]) (by kernel_rfl) (by simp) ?_
    refine AllReadyH.cons rfl (fun K' hK => ?_) AllReadyH.nil
    rw [if_pos (by rfl)]
    simp only [List.getElem_toArray, List.getElem_cons_succ, List.getElem_cons_zero]
    have S0 := hHeld
    go_wp2_with fail
    refine (MK.out _ _ rB).mono ?_
    rintro e wm ⟨rfl, hbm⟩
    try go_wp2_with fail
    refine hK.out _ _ (Below.andThen S0 hbm) (fun hHeld => ?_)
    clear hK K'
    try simp only [Act.put, List.getElem_toArray, List.getElem_cons_succ, List.getElem_cons_zero, List.setIfInBounds_toArray, List.set_cons_zero, List.set_cons_succ]
    have fF := blk11 hbm fF
    clear hbm rB
    refine wpAnyH_take (i := 12) (v := (.tuple #[frV (1792 + a) 1 s 0 0 0 0 0 0 0 false, .int .i64 0])) rfl (by kernel_rfl) (by kernel_rfl) (by kernel_rfl) (fun _ _ _ h => h) (Or.inl ⟨by rfl, ?_⟩) (by assumption) ?_
    · intro w9 hSw
      try dsimp only at hSw
      go_simp
      all_goals try decide
      all_goals try assumption
      all_goals try omega
    try simp only [Act.put, List.getElem_toArray, List.getElem_cons_succ, List.getElem_cons_zero, List.setIfInBounds_toArray, List.set_cons_zero, List.set_cons_succ]
    refine wpAnyH_take (i := 13) (v := (frV (1792 + a) 1 s 0 0 0 0 0 0 0 false)) rfl (by kernel_rfl) (by kernel_rfl) (by kernel_rfl) (fun _ _ _ h => h) (Or.inl ⟨by rfl, ?_⟩) (by assumption) ?_
    · intro w9 hSw
      try dsimp only at hSw
      go_simp
      all_goals try decide
      all_goals try assumption
      all_goals try omega
    try simp only [Act.put, List.getElem_toArray, List.getElem_cons_succ, List.getElem_cons_zero, List.setIfInBounds_toArray, List.set_cons_zero, List.set_cons_succ]
    refine wpAnyH_take (i := 14) (v := (.int .i64 0)) rfl (by kernel_rfl) (by kernel_rfl) (by kernel_rfl) (fun _ _ _ h => h) (Or.inl ⟨by rfl, ?_⟩) (by assumption) ?_
    · intro w9 hSw
      try dsimp only at hSw
      go_simp
      all_goals try decide
      all_goals try assumption
      all_goals try omega
    try simp only [Act.put, List.getElem_toArray, List.getElem_cons_succ, List.getElem_cons_zero, List.setIfInBounds_toArray, List.set_cons_zero, List.set_cons_succ]
    refine wpAnyH_ready (rs := [16]) (by kernel_rfl) (by simp) ?_
    refine AllReadyH.cons rfl (fun K' hK => ?_) AllReadyH.nil
    rw [if_pos (by rfl)]
    simp only [List.getElem_toArray, List.getElem_cons_succ, List.getElem_cons_zero]
    have S0 := hHeld
    refine wp_store_row 36 (.tmp 3) (.tmp 21) rfl (y.heap.size) (frC (1792 + a) 1 s 0 0 0 0 0 0 0 false) rfl rfl 36 _ fF infoF rfl (frC_one _ _ _ _ _ _ _ _ _ _ _) ?_
    refine hK.out _ _ (below_setRow S0 lF.out _) (fun hHeld => ?_)
    clear hK K'
    try simp only [Act.put, List.getElem_toArray, List.getElem_cons_succ, List.getElem_cons_zero, List.setIfInBounds_toArray, List.set_cons_zero, List.set_cons_succ]
    have fG := setRow_heap _ _ _ (frC (1792 + a) 1 s 0 0 0 0 0 0 0 false) _ _ fF
    clear fF S0
    generalize hx : (wm.setRow (y.heap.size) (frC (1792 + a) 1 s 0 0 0 0 0 0 0 false) : World) = z at hHeld fG ⊢
    clear hx
    refine wpAnyH_take (i := 17) (v := (.int .i64 0)) rfl (by kernel_rfl) (by kernel_rfl) (by kernel_rfl) (fun _ _ _ h => h) (Or.inl ⟨by rfl, ?_⟩) (by assumption) ?_
    · intro w9 hSw
      try dsimp only at hSw
      go_simp
      all_goals try decide
      all_goals try assumption
      all_goals try omega
    try simp only [Act.put, List.getElem_toArray, List.getElem_cons_succ, List.getElem_cons_zero, List.setIfInBounds_toArray, List.set_cons_zero, List.set_cons_succ]
    refine wpAnyH_done (by kernel_rfl) ?_ _
    obtain ⟨BF, hBF⟩ : ∃ b, Hid (b = y.heap.size) := ⟨_, rfl⟩
    have LF : Hid (y.heap.size ≤ BF) := by show _ ≤ _; rw [hBF.out]; exact lF.out
    rw [← hBF.out] at fG ⊢
    clear hBF lF
    have KZ : Below w.heap.size w z := Below.trans HY.out (hHeld.mono lY.out)
    have gZ := blk11 hHeld gR.out
    obtain ⟨f0, f1, f2, f3, f4, f5, f6, f7, f8, f9, f10⟩ := frC_at fG
    have lz := lt_of_heap fG
    clear hHeld kp0 kp1 V3 V4 MK fG
    go_wp2_with (refine wpList_store_row rfl 36 _ _ rfl w.heap.size (frC (1792 + a) 1 s 0 0 0 0 0 0 0 false) rfl rfl 36 _ gZ infoF rfl (frC_one _ _ _ _ _ _ _ _ _ _ _) ?_)
    have hc := fun j => cell_of_row (z.setRow w.heap.size (frC (1792 + a) 1 s 0 0 0 0 0 0 0 false)) w.heap.size j _ _ _ (setRow_heap _ _ _ _ _ _ gZ)
    refine bodyPost_ret (v := frV (1792 + a) 1 s 0 0 0 0 0 0 0 false) ?_ rfl ⟨rfl, below_setRow KZ (Nat.le_refl _) _⟩
    simp [results, Try.results21, go_sem, hc]

set_option linter.unusedSimpArgs false in
set_option maxHeartbeats 4000000 in
set_option maxRecDepth 100000 in
theorem rbeat_at {w : World} {p : Nat} {a s : Int} (h : w.heap[p]? = some (.cells (maC a s) 30 (0, 0))) (h0 : 0 ≤ a ∧ a < 256) (hs : 0 ≤ s ∧ s < 256) : Calls Try.prog 12 #[pt p] w fun e w' => e = .returned (frV (1792 + a) 1 s 0 0 0 0 0 0 0 false) ∧ Below w.heap.size w w' := by
  have c0 : w.cell? ⟨p, 0, none⟩ = some (.int .u8 a) := by rw [cell_of_row w _ 0 _ _ _ h]; rfl
  have c1 : w.cell? ⟨p, 1, none⟩ = some (.int .u8 s) := by rw [cell_of_row w _ 1 _ _ _ h]; rfl
  have MK : Hid (∀ (W : World) (b : Nat), Row W (some ⟨b, 0, none⟩) 1 [s] → Calls Try.prog 24 #[.int .u16 (1792 + a), .slice (some ⟨b, 0, none⟩) 1 1] W fun e w' => e = .returned (.tuple #[frV (1792 + a) 1 s 0 0 0 0 0 0 0 false, .int .i64 0]) ∧ Below W.heap.size W w') := fun W b hr => by
    have := refMake_any (1792 + a) (some ⟨b, 0, none⟩) 1 1 _ W hr
    rwa [mkR_one _ _ (by omega)] at this
  have HS : Hid (0 ≤ s ∧ s < 256) := hs
  have V3 : IntKind.u16.wrap a = a := by rw [IntKind.wrap_u16]; omega
  have V4 : IntKind.u16.wrap (1792 + a) = 1792 + a := by rw [IntKind.wrap_u16]; omega
  clear h h0 hs
  go_enter Try.func12, Try.ntmps12
  go_wp2_with fail
  have gR : Hid ((w.alloc (.cells (frC 0 0 0 0 0 0 0 0 0 0 false) 36)).heap[w.heap.size]? = some (.cells (frC 0 0 0 0 0 0 0 0 0 0 false) 36 (0, 0))) := at11 w (.cells (frC 0 0 0 0 0 0 0 0 0 0 false) 36) w.heap.size rfl
  have K0 : Below w.heap.size w (w.alloc (.cells (frC 0 0 0 0 0 0 0 0 0 0 false) 36)) := (by repeat (first | exact Below.refl _ _ | apply Below.drew | apply Below.al))
  generalize hy : (w.alloc (.cells (frC 0 0 0 0 0 0 0 0 0 0 false) 36) : World) = y at gR K0 ⊢
  clear hy
  have kp0 := cl11 K0 c0
  have kp1 := cl11 K0 c1
  clear c0 c1
  have lY : Hid (w.heap.size ≤ y.heap.size) := K0.size
  have HY : Hid (Below w.heap.size w y) := K0
  clear K0
  refine wp_region_held_drew (S := fun x1 => Below y.heap.size y x1) (by kernel_rfl) (Below.drew (Below.refl _ _)) (fun hHeld => ?_)
  refine wpAnyH_take (i := 0) (v := (.pointer (some ⟨p, 0, none⟩))) rfl (by kernel_rfl) (by kernel_rfl) (by kernel_rfl) (fun _ _ _ h => h) (Or.inl ⟨by rfl, ?_⟩) (by assumption) ?_
  · intro w9 hSw
    try dsimp only at hSw
    go_simp
    all_goals try decide
    all_goals try assumption
    all_goals try omega
  try simp only [Act.put, List.getElem_toArray, List.getElem_cons_succ, List.getElem_cons_zero, List.setIfInBounds_toArray, List.set_cons_zero, List.set_cons_succ]
  refine wpAnyH_take (i := 1) (v := (.pointer (some ⟨p, 0, none⟩))) rfl (by kernel_rfl) (by kernel_rfl) (by kernel_rfl) (fun _ _ _ h => h) (Or.inl ⟨by rfl, ?_⟩) (by assumption) ?_
  · intro w9 hSw
    try dsimp only at hSw
    go_simp
    all_goals try decide
    all_goals try assumption
    all_goals try omega
  try simp only [Act.put, List.getElem_toArray, List.getElem_cons_succ, List.getElem_cons_zero, List.setIfInBounds_toArray, List.set_cons_zero, List.set_cons_succ]
  refine wpAnyH_take (i := 2) (v := (.pointer (some ⟨p, 0, none⟩))) rfl (by kernel_rfl) (by kernel_rfl) (by kernel_rfl) (fun _ _ _ h => h) (Or.inl ⟨by rfl, ?_⟩) (by assumption) ?_
  · intro w9 hSw
    try dsimp only at hSw
    go_simp
    all_goals try decide
    all_goals try assumption
    all_goals try omega
  try simp only [Act.put, List.getElem_toArray, List.getElem_cons_succ, List.getElem_cons_zero, List.setIfInBounds_toArray, List.set_cons_zero, List.set_cons_succ]
  refine wpAnyH_take (i := 3) (v := (.int .u8 a)) rfl (by kernel_rfl) (by kernel_rfl) (by kernel_rfl) (fun _ _ _ h => h) (Or.inl ⟨by rfl, ?_⟩) (by assumption) ?_
  · intro w9 hSw
    try dsimp only at hSw
    have hc9 := cl11 hSw kp0
    go_simp
    all_goals try decide
    all_goals try assumption
    all_goals try omega
  try simp only [Act.put, List.getElem_toArray, List.getElem_cons_succ, List.getElem_cons_zero, List.setIfInBounds_toArray, List.set_cons_zero, List.set_cons_succ]
  refine wpAnyH_take (i := 4) (v := (.int .u16 a)) rfl (by kernel_rfl) (by kernel_rfl) (by kernel_rfl) (fun _ _ _ h => h) (Or.inl ⟨by rfl, ?_⟩) (by assumption) ?_
  · intro w9 hSw
    try dsimp only at hSw
    go_simp
    all_goals try decide
    all_goals try assumption
    all_goals try omega
  try simp only [Act.put, List.getElem_toArray, List.getElem_cons_succ, List.getElem_cons_zero, List.setIfInBounds_toArray, List.set_cons_zero, List.set_cons_succ]
  refine wpAnyH_take (i := 5) (v := (.int .u16 (1792 + a))) rfl (by kernel_rfl) (by kernel_rfl) (by kernel_rfl) (fun _ _ _ h => h) (Or.inl ⟨by rfl, ?_⟩) (by assumption) ?_
  · intro w9 hSw
    try dsimp only at hSw
    go_simp
    all_goals try decide
    all_goals try assumption
    all_goals try omega
  try simp only [Act.put, List.getElem_toArray, List.getElem_cons_succ, List.getElem_cons_zero, List.setIfInBounds_toArray, List.set_cons_zero, List.set_cons_succ]
  refine wpAnyH_take (i := 6) (v := (.pointer (some ⟨p, 0, none⟩))) rfl (by kernel_rfl) (by kernel_rfl) (by kernel_rfl) (fun _ _ _ h => h) (Or.inl ⟨by rfl, ?_⟩) (by assumption) ?_
  · intro w9 hSw
    try dsimp only at hSw
    go_simp
    all_goals try decide
    all_goals try assumption
    all_goals try omega
  try simp only [Act.put, List.getElem_toArray, List.getElem_cons_succ, List.getElem_cons_zero, List.setIfInBounds_toArray, List.set_cons_zero, List.set_cons_succ]
  refine wpAnyH_take (i := 7) (v := (.pointer (some ⟨p, 0, none⟩))) rfl (by kernel_rfl) (by kernel_rfl) (by kernel_rfl) (fun _ _ _ h => h) (Or.inl ⟨by rfl, ?_⟩) (by assumption) ?_
  · intro w9 hSw
    try dsimp only at hSw
    go_simp
    all_goals try decide
    all_goals try assumption
    all_goals try omega
  try simp only [Act.put, List.getElem_toArray, List.getElem_cons_succ, List.getElem_cons_zero, List.setIfInBounds_toArray, List.set_cons_zero, List.set_cons_succ]
  refine wpAnyH_take (i := 8) (v := (.pointer (some ⟨p, 1, none⟩))) rfl (by kernel_rfl) (by kernel_rfl) (by kernel_rfl) (fun _ _ _ h => h) (Or.inl ⟨by rfl, ?_⟩) (by assumption) ?_
  · intro w9 hSw
    try dsimp only at hSw
    go_simp
    all_goals try decide
    all_goals try assumption
    all_goals try omega
  try simp only [Act.put, List.getElem_toArray, List.getElem_cons_succ, List.getElem_cons_zero, List.setIfInBounds_toArray, List.set_cons_zero, List.set_cons_succ]
  refine wpAnyH_take (i := 9) (v := (.int .u8 s)) rfl (by kernel_rfl) (by kernel_rfl) (by kernel_rfl) (fun _ _ _ h => h) (Or.inl ⟨by rfl, ?_⟩) (by assumption) ?_
  · intro w9 hSw
    try dsimp only at hSw
    have hc9 := cl11 hSw kp1
    go_simp
    all_goals try decide
    all_goals try assumption
    all_goals try omega
  try simp only [Act.put, List.getElem_toArray, List.getElem_cons_succ, List.getElem_cons_zero, List.setIfInBounds_toArray, List.set_cons_zero, List.set_cons_succ]
  refine wpAnyH_ready (rs := [10, 15]) (by kernel_rfl) (by simp) ?_
  refine AllReadyH.cons rfl (fun K' hK => ?_) (AllReadyH.cons rfl (fun K' hK => ?_) AllReadyH.nil)
  · rw [if_pos (by rfl)]
    simp only [List.getElem_toArray, List.getElem_cons_succ, List.getElem_cons_zero]
    have S0 := hHeld
    go_wp2_with fail
    refine hK.out _ _ (Below.al S0 _) (fun hHeld => ?_)
    clear hK K'
    try simp only [Act.put, List.getElem_toArray, List.getElem_cons_succ, List.getElem_cons_zero, List.setIfInBounds_toArray, List.set_cons_zero, List.set_cons_succ]
    have rB : Row ((y.alloc (.cells #[.int .u8 s] 5)).drew) (some ⟨y.heap.size, 0, none⟩) 1 [s] := (row_one y s HS.out _ rfl).next (Below.drew (Below.refl _ _))
    clear S0
    generalize hx : ((y.alloc (.cells #[.int .u8 s] 5)).drew : World) = x1_ at hHeld rB ⊢
    clear hx
    refine wpAnyH_ready (rs := [11, 15]) (by kernel_rfl) (by simp) ?_
    refine AllReadyH.cons rfl (fun K' hK => ?_) (AllReadyH.cons rfl (fun K' hK => ?_) AllReadyH.nil)
    · rw [if_pos (by rfl)]
      simp only [List.getElem_toArray, List.getElem_cons_succ, List.getElem_cons_zero]
      have S0 := hHeld
      go_wp2_with fail
      refine (MK.out _ _ rB).mono ?_
      rintro e wm ⟨rfl, hbm⟩
      try go_wp2_with fail
      refine hK.out _ _ (Below.andThen S0 hbm) (fun hHeld => ?_)
      clear hK K'
      try simp only [Act.put, List.getElem_toArray, List.getElem_cons_succ, List.getElem_cons_zero, List.setIfInBounds_toArray, List.set_cons_zero, List.set_cons_succ]
      clear hbm rB
      refine wpAnyH_take (i := 12) (v := (.tuple #[frV (1792 + a) 1 s 0 0 0 0 0 0 0 false, .int .i64 0])) rfl (by kernel_rfl) (by kernel_rfl) (by kernel_rfl) (fun _ _ _ h => h) (Or.inl ⟨by rfl, ?_⟩) (by assumption) ?_
      · intro w9 hSw
        try dsimp only at hSw
        go_simp
        all_goals try decide
        all_goals try assumption
        all_goals try omega
      try simp only [Act.put, List.getElem_toArray, List.getElem_cons_succ, List.getElem_cons_zero, List.setIfInBounds_toArray, List.set_cons_zero, List.set_cons_succ]
      refine wpAnyH_take (i := 13) (v := (frV (1792 + a) 1 s 0 0 0 0 0 0 0 false)) rfl (by kernel_rfl) (by kernel_rfl) (by kernel_rfl) (fun _ _ _ h => h) (Or.inl ⟨by rfl, ?_⟩) (by assumption) ?_
      · intro w9 hSw
        try dsimp only at hSw
        go_simp
        all_goals try decide
        all_goals try assumption
        all_goals try omega
      try simp only [Act.put, List.getElem_toArray, List.getElem_cons_succ, List.getElem_cons_zero, List.setIfInBounds_toArray, List.set_cons_zero, List.set_cons_succ]
      refine wpAnyH_take (i := 14) (v := (.int .i64 0)) rfl (by kernel_rfl) (by kernel_rfl) (by kernel_rfl) (fun _ _ _ h => h) (Or.inl ⟨by rfl, ?_⟩) (by assumption) ?_
      · intro w9 hSw
        try dsimp only at hSw
        go_simp
        all_goals try decide
        all_goals try assumption
        all_goals try omega
      try simp only [Act.put, List.getElem_toArray, List.getElem_cons_succ, List.getElem_cons_zero, List.setIfInBounds_toArray, List.set_cons_zero, List.set_cons_succ]
      refine wpAnyH_ready (rs := [15]) (by kernel_rfl) (by simp) ?_
      refine AllReadyH.cons rfl (fun K' hK => ?_) AllReadyH.nil
      rw [if_pos (by rfl)]
      simp only [List.getElem_toArray, List.getElem_cons_succ, List.getElem_cons_zero]
      have S0 := hHeld
      go_wp2_with fail
      refine hK.out _ _ (Below.al S0 _) (fun hHeld => ?_)
      clear hK K'
      try simp only [Act.put, List.getElem_toArray, List.getElem_cons_succ, List.getElem_cons_zero, List.setIfInBounds_toArray, List.set_cons_zero, List.set_cons_succ]
      have fF : (wm.alloc (.cells (frC 0 0 0 0 0 0 0 0 0 0 false) 36)).heap[wm.heap.size]? = some (.cells (frC 0 0 0 0 0 0 0 0 0 0 false) 36 (0, 0)) := at11 wm (.cells (frC 0 0 0 0 0 0 0 0 0 0 false) 36) (wm.heap.size) (by simp)
      have lF : Hid (y.heap.size ≤ wm.heap.size) := by show _ ≤ _; have := S0.size; omega
      clear S0
      generalize hx : ((wm.alloc (.cells (frC 0 0 0 0 0 0 0 0 0 0 false) 36)) : World) = x2_ at hHeld fF ⊢
      clear hx
      refine wpAnyH_ready (rs := [16]) (by kernel_rfl) (by simp) ?_
      refine AllReadyH.cons rfl (fun K' hK => ?_) AllReadyH.nil
      rw [if_pos (by rfl)]
      simp only [List.getElem_toArray, List.getElem_cons_succ, List.getElem_cons_zero]
      have S0 := hHeld
      refine wp_store_row 36 (.tmp 3) (.tmp 18) rfl (wm.heap.size) (frC (1792 + a) 1 s 0 0 0 0 0 0 0 false) rfl rfl 36 _ fF infoF rfl (frC_one _ _ _ _ _ _ _ _ _ _ _) ?_
      refine hK.out _ _ (below_setRow S0 lF.out _) (fun hHeld => ?_)
      clear hK K'
      try simp only [Act.put, List.getElem_toArray, List.getElem_cons_succ, List.getElem_cons_zero, List.setIfInBounds_toArray, List.set_cons_zero, List.set_cons_succ]
      have fG := setRow_heap _ _ _ (frC (1792 + a) 1 s 0 0 0 0 0 0 0 false) _ _ fF
      clear fF S0
      generalize hx : (x2_.setRow (wm.heap.size) (frC (1792 + a) 1 s 0 0 0 0 0 0 0 false) : World) = z at hHeld fG ⊢
      clear hx
      refine wpAnyH_take (i := 17) (v := (.int .i64 0)) rfl (by kernel_rfl) (by kernel_rfl) (by kernel_rfl) (fun _ _ _ h => h) (Or.inl ⟨by rfl, ?_⟩) (by assumption) ?_
      · intro w9 hSw
        try dsimp only at hSw
        go_simp
        all_goals try decide
        all_goals try assumption
        all_goals try omega
      try simp only [Act.put, List.getElem_toArray, List.getElem_cons_succ, List.getElem_cons_zero, List.setIfInBounds_toArray, List.set_cons_zero, List.set_cons_succ]
      refine wpAnyH_done (by kernel_rfl) ?_ _
      obtain ⟨BF, hBF⟩ : ∃ b, Hid (b = wm.heap.size) := ⟨_, rfl⟩
      have LF : Hid (y.heap.size ≤ BF) := by show _ ≤ _; rw [hBF.out]; exact lF.out
      rw [← hBF.out] at fG ⊢
      clear hBF lF
      have KZ : Below w.heap.size w z := Below.trans HY.out (hHeld.mono lY.out)
      have gZ := blk11 hHeld gR.out
      obtain ⟨f0, f1, f2, f3, f4, f5, f6, f7, f8, f9, f10⟩ := frC_at fG
      have lz := lt_of_heap fG
      clear hHeld kp0 kp1 V3 V4 MK fG
      go_wp2_with (refine wpList_store_row rfl 36 _ _ rfl w.heap.size (frC (1792 + a) 1 s 0 0 0 0 0 0 0 false) rfl rfl 36 _ gZ infoF rfl (frC_one _ _ _ _ _ _ _ _ _ _ _) ?_)
      have hc := fun j => cell_of_row (z.setRow w.heap.size (frC (1792 + a) 1 s 0 0 0 0 0 0 0 false)) w.heap.size j _ _ _ (setRow_heap _ _ _ _ _ _ gZ)
      refine bodyPost_ret (v := frV (1792 + a) 1 s 0 0 0 0 0 0 0 false) ?_ rfl ⟨rfl, below_setRow KZ (Nat.le_refl _) _⟩
      simp [results, Try.results12, go_sem, hc]
    · rw [if_pos (by rfl)]
      simp only [List.getElem_toArray, List.getElem_cons_succ, List.getElem_cons_zero]
      have S0 := hHeld
      go_wp2_with fail
      refine hK.out _ _ (Below.al S0 _) (fun hHeld => ?_)
      clear hK K'
      try simp only [Act.put, List.getElem_toArray, List.getElem_cons_succ, List.getElem_cons_zero, List.setIfInBounds_toArray, List.set_cons_zero, List.set_cons_succ]
      have rB := rB.next (Below.al (Below.refl _ _) (.cells (frC 0 0 0 0 0 0 0 0 0 0 false) 36))
      have fF : (x1_.alloc (.cells (frC 0 0 0 0 0 0 0 0 0 0 false) 36)).heap[x1_.heap.size]? = some (.cells (frC 0 0 0 0 0 0 0 0 0 0 false) 36 (0, 0)) := at11 x1_ (.cells (frC 0 0 0 0 0 0 0 0 0 0 false) 36) (x1_.heap.size) (by simp)
      have lF : Hid (y.heap.size ≤ x1_.heap.size) := by show _ ≤ _; have := S0.size; omega
      clear S0
      generalize hx : ((x1_.alloc (.cells (frC 0 0 0 0 0 0 0 0 0 0 false) 36)) : World) = x2_ at hHeld fF rB ⊢
      clear hx
      refine wpAnyH_ready (rs := [11]) (by kernel_rfl) (by simp) ?_
      refine AllReadyH.cons rfl (fun K' hK => ?_) AllReadyH.nil
      rw [if_pos (by rfl)]
      simp only [List.getElem_toArray, List.getElem_cons_succ, List.getElem_cons_zero]
      have S0 := hHeld
      go_wp2_with fail
      refine (MK.out _ _ rB).mono ?_
      rintro e wm ⟨rfl, hbm⟩
      try go_wp2_with fail
      refine hK.out _ _ (Below.andThen S0 hbm) (fun hHeld => ?_)
      clear hK K'
      try simp only [Act.put, List.getElem_toArray, List.getElem_cons_succ, List.getElem_cons_zero, List.setIfInBounds_toArray, List.set_cons_zero, List.set_cons_succ]
      have fF := blk11 hbm fF
      clear hbm rB
      refine wpAnyH_take (i := 12) (v := (.tuple #[frV (1792 + a) 1 s 0 0 0 0 0 0 0 false, .int .i64 0])) rfl (by kernel_rfl) (by kernel_rfl) (by kernel_rfl) (fun _ _ _ h => h) (Or.inl ⟨by rfl, ?_⟩) (by assumption) ?_
      · intro w9 hSw
        try dsimp only at hSw
        go_simp
        all_goals try decide
        all_goals try assumption
        all_goals try omega
      try simp only [Act.put, List.getElem_toArray, List.getElem_cons_succ, List.getElem_cons_zero, List.setIfInBounds_toArray, List.set_cons_zero, List.set_cons_succ]
      refine wpAnyH_take (i := 13) (v := (frV (1792 + a) 1 s 0 0 0 0 0 0 0 false)) rfl (by kernel_rfl) (by kernel_rfl) (by kernel_rfl) (fun _ _ _ h => h) (Or.inl ⟨by rfl, ?_⟩) (by assumption) ?_
      · intro w9 hSw
        try dsimp only at hSw
        go_simp
        all_goals try decide
        all_goals try assumption
        all_goals try omega
      try simp only [Act.put, List.getElem_toArray, List.getElem_cons_succ, List.getElem_cons_zero, List.setIfInBounds_toArray, List.set_cons_zero, List.set_cons_succ]
      refine wpAnyH_take (i := 14) (v := (.int .i64 0)) rfl (by kernel_rfl) (by kernel_rfl) (by kernel_rfl) (fun _ _ _ h => h) (Or.inl ⟨by rfl, ?_⟩) (by assumption) ?_
      · intro w9 hSw
        try dsimp only at hSw
        go_simp
        all_goals try decide
        all_goals try assumption
        all_goals try omega
      try simp only [Act.put, List.getElem_toArray, List.getElem_cons_succ, List.getElem_cons_zero, List.setIfInBounds_toArray, List.set_cons_zero, List.set_cons_succ]
      refine wpAnyH_ready (rs := [16]) (by kernel_rfl) (by simp) ?_
      refine AllReadyH.cons rfl (fun K' hK => ?_) AllReadyH.nil
      rw [if_pos (by rfl)]
      simp only [List.getElem_toArray, List.getElem_cons_succ, List.getElem_cons_zero]
      have S0 := hHeld
      refine wp_store_row 36 (.tmp 3) (.tmp 18) rfl (x1_.heap.size) (frC (1792 + a) 1 s 0 0 0 0 0 0 0 false) rfl rfl 36 _ fF infoF rfl (frC_one _ _ _ _ _ _ _ _ _ _ _) ?_
      refine hK.out _ _ (below_setRow S0 lF.out _) (fun hHeld => ?_)
      clear hK K'
      try simp only [Act.put, List.getElem_toArray, List.getElem_cons_succ, List.getElem_cons_zero, List.setIfInBounds_toArray, List.set_cons_zero, List.set_cons_succ]
      have fG := setRow_heap _ _ _ (frC (1792 + a) 1 s 0 0 0 0 0 0 0 false) _ _ fF
      clear fF S0
      generalize hx : (wm.setRow (x1_.heap.size) (frC (1792 + a) 1 s 0 0 0 0 0 0 0 false) : World) = z at hHeld fG ⊢
      clear hx
      refine wpAnyH_take (i := 17) (v := (.int .i64 0)) rfl (by kernel_rfl) (by kernel_rfl) (by kernel_rfl) (fun _ _ _ h => h) (Or.inl ⟨by rfl, ?_⟩) (by assumption) ?_
      · intro w9 hSw
        try dsimp only at hSw
        go_simp
        all_goals try decide
        all_goals try assumption
        all_goals try omega
      try simp only [Act.put, List.getElem_toArray, List.getElem_cons_succ, List.getElem_cons_zero, List.setIfInBounds_toArray, List.set_cons_zero, List.set_cons_succ]
      refine wpAnyH_done (by kernel_rfl) ?_ _
      obtain ⟨BF, hBF⟩ : ∃ b, Hid (b = x1_.heap.size) := ⟨_, rfl⟩
      have LF : Hid (y.heap.size ≤ BF) := by show _ ≤ _; rw [hBF.out]; exact lF.out
      rw [← hBF.out] at fG ⊢
      clear hBF lF
      have KZ : Below w.heap.size w z := Below.trans HY.out (hHeld.mono lY.out)
      have gZ := blk11 hHeld gR.out
      obtain ⟨f0, f1, f2, f3, f4, f5, f6, f7, f8, f9, f10⟩ := frC_at fG
      have lz := lt_of_heap fG
      clear hHeld kp0 kp1 V3 V4 MK fG
      go_wp2_with (refine wpList_store_row rfl 36 _ _ rfl w.heap.size (frC (1792 + a) 1 s 0 0 0 0 0 0 0 false) rfl rfl 36 _ gZ infoF rfl (frC_one _ _ _ _ _ _ _ _ _ _ _) ?_)
      have hc := fun j => cell_of_row (z.setRow w.heap.size (frC (1792 + a) 1 s 0 0 0 0 0 0 0 false)) w.heap.size j _ _ _ (setRow_heap _ _ _ _ _ _ gZ)
      refine bodyPost_ret (v := frV (1792 + a) 1 s 0 0 0 0 0 0 0 false) ?_ rfl ⟨rfl, below_setRow KZ (Nat.le_refl _) _⟩
      simp [results, Try.results12, go_sem, hc]
  · rw [if_pos (by rfl)]
    simp only [List.getElem_toArray, List.getElem_cons_succ, List.getElem_cons_zero]
    have S0 := hHeld
    go_wp2_with fail
    refine hK.out _ _ (Below.al S0 _) (fun hHeld => ?_)
    clear hK K'
    try simp only [Act.put, List.getElem_toArray, List.getElem_cons_succ, List.getElem_cons_zero, List.setIfInBounds_toArray, List.set_cons_zero, List.set_cons_succ]
    have fF : ((y.alloc (.cells (frC 0 0 0 0 0 0 0 0 0 0 false) 36)).drew).heap[y.heap.size]? = some (.cells (frC 0 0 0 0 0 0 0 0 0 0 false) 36 (0, 0)) := at11 y (.cells (frC 0 0 0 0 0 0 0 0 0 0 false) 36) (y.heap.size) (by simp)
    have lF : Hid (y.heap.size ≤ y.heap.size) := by show _ ≤ _; exact Nat.le_refl _
    clear S0
    generalize hx : ((y.alloc (.cells (frC 0 0 0 0 0 0 0 0 0 0 false) 36)).drew : World) = x1_ at hHeld fF ⊢
    clear hx
    refine wpAnyH_ready (rs := [10]) (by kernel_rfl) (by simp) ?_
    refine AllReadyH.cons rfl (fun K' hK => ?_) AllReadyH.nil
    rw [if_pos (by rfl)]
    simp only [List.getElem_toArray, List.getElem_cons_succ, List.getElem_cons_zero]
    have S0 := hHeld
    go_wp2_with fail
    refine hK.out _ _ (Below.al S0 _) (fun hHeld => ?_)
    clear hK K'
    try simp only [Act.put, List.getElem_toArray, List.getElem_cons_succ, List.getElem_cons_zero, List.setIfInBounds_toArray, List.set_cons_zero, List.set_cons_succ]
    have rB : Row (x1_.alloc (.cells #[.int .u8 s] 5)) (some ⟨x1_.heap.size, 0, none⟩) 1 [s] := row_one x1_ s HS.out _ rfl
    have fF := ext11 (o := (.cells #[.int .u8 s] 5)) fF
    clear S0
    generalize hx : (x1_.alloc (.cells #[.int .u8 s] 5) : World) = x2_ at hHeld fF rB ⊢
    clear hx
    refine wpAnyH_ready (rs := [11]) (by kernel_rfl) (by simp) ?_
    refine AllReadyH.cons rfl (fun K' hK => ?_) AllReadyH.nil
    rw [if_pos (by rfl)]
    simp only [List.getElem_toArray, List.getElem_cons_succ, List.getElem_cons_zero]
    have S0 := hHeld
    go_wp2_with fail
    refine (MK.out _ _ rB).mono ?_
    rintro e wm ⟨rfl, hbm⟩
    try go_wp2_with fail
    refine hK.out _ _ (Below.andThen S0 hbm) (fun hHeld => ?_)
    clear hK K'
    try simp only [Act.put, List.getElem_toArray, List.getElem_cons_succ, List.getElem_cons_zero, List.setIfInBounds_toArray, List.set_cons_zero, List.set_cons_succ]
    have fF := blk11 hbm fF
    clear hbm rB
    refine wpAnyH_take (i := 12) (v := (.tuple #[frV (1792 + a) 1 s 0 0 0 0 0 0 0 false, .int .i64 0])) rfl (by kernel_rfl) (by kernel_rfl) (by kernel_rfl) (fun _ _ _ h => h) (Or.inl ⟨by rfl, ?_⟩) (by assumption) ?_
    · intro w9 hSw
      try dsimp only at hSw
      go_simp
      all_goals try decide
      all_goals try assumption
      all_goals try omega
    try simp only [Act.put, List.getElem_toArray, List.getElem_cons_succ, List.getElem_cons_zero, List.setIfInBounds_toArray, List.set_cons_zero, List.set_cons_succ]
    refine wpAnyH_take (i := 13) (v := (frV (1792 + a) 1 s 0 0 0 0 0 0 0 false)) rfl (by kernel_rfl) (by kernel_rfl) (by kernel_rfl) (fun _ _ _ h => h) (Or.inl ⟨by rfl, ?_⟩) (by assumption) ?_
    · intro w9 hSw
      try dsimp only at hSw
      go_simp
      all_goals try decide
      all_goals try assumption
      all_goals try omega
    try simp only [Act.put, List.getElem_toArray, List.getElem_cons_succ, List.getElem_cons_zero, List.setIfInBounds_toArray, List.set_cons_zero, List.set_cons_succ]
    refine wpAnyH_take (i := 14) (v := (.int .i64 0)) rfl (by kernel_rfl) (by kernel_rfl) (by kernel_rfl) (fun _ _ _ h => h) (Or.inl ⟨by rfl, ?_⟩) (by assumption) ?_
    · intro w9 hSw
      try dsimp only at hSw
      go_simp
      all_goals try decide
      all_goals try assumption
      all_goals try omega
    try simp only [Act.put, List.getElem_toArray, List.getElem_cons_succ, List.getElem_cons_zero, List.setIfInBounds_toArray, List.set_cons_zero, List.set_cons_succ]
    refine wpAnyH_ready (rs := [16]) (by kernel_rfl) (by simp) ?_
    refine AllReadyH.cons rfl (fun K' hK => ?_) AllReadyH.nil
    rw [if_pos (by rfl)]
    simp only [List.getElem_toArray, List.getElem_cons_succ, List.getElem_cons_zero]
    have S0 := hHeld
    refine wp_store_row 36 (.tmp 3) (.tmp 18) rfl (y.heap.size) (frC (1792 + a) 1 s 0 0 0 0 0 0 0 false) rfl rfl 36 _ fF infoF rfl (frC_one _ _ _ _ _ _ _ _ _ _ _) ?_
    refine hK.out _ _ (below_setRow S0 lF.out _) (fun hHeld => ?_)
    clear hK K'
    try simp only [Act.put, List.getElem_toArray, List.getElem_cons_succ, List.getElem_cons_zero, List.setIfInBounds_toArray, List.set_cons_zero, List.set_cons_succ]
    have fG := setRow_heap _ _ _ (frC (1792 + a) 1 s 0 0 0 0 0 0 0 false) _ _ fF
    clear fF S0
    generalize hx : (wm.setRow (y.heap.size) (frC (1792 + a) 1 s 0 0 0 0 0 0 0 false) : World) = z at hHeld fG ⊢
    clear hx
    refine wpAnyH_take (i := 17) (v := (.int .i64 0)) rfl (by kernel_rfl) (by kernel_rfl) (by kernel_rfl) (fun _ _ _ h => h) (Or.inl ⟨by rfl, ?_⟩) (by assumption) ?_
    · intro w9 hSw
      try dsimp only at hSw
      go_simp
      all_goals try decide
      all_goals try assumption
      all_goals try omega
    try simp only [Act.put, List.getElem_toArray, List.getElem_cons_succ, List.getElem_cons_zero, List.setIfInBounds_toArray, List.set_cons_zero, List.set_cons_succ]
    refine wpAnyH_done (by kernel_rfl) ?_ _
    obtain ⟨BF, hBF⟩ : ∃ b, Hid (b = y.heap.size) := ⟨_, rfl⟩
    have LF : Hid (y.heap.size ≤ BF) := by show _ ≤ _; rw [hBF.out]; exact lF.out
    rw [← hBF.out] at fG ⊢
    clear hBF lF
    have KZ : Below w.heap.size w z := Below.trans HY.out (hHeld.mono lY.out)
    have gZ := blk11 hHeld gR.out
    obtain ⟨f0, f1, f2, f3, f4, f5, f6, f7, f8, f9, f10⟩ := frC_at fG
    have lz := lt_of_heap fG
    clear hHeld kp0 kp1 V3 V4 MK fG
    go_wp2_with (refine wpList_store_row rfl 36 _ _ rfl w.heap.size (frC (1792 + a) 1 s 0 0 0 0 0 0 0 false) rfl rfl 36 _ gZ infoF rfl (frC_one _ _ _ _ _ _ _ _ _ _ _) ?_)
    have hc := fun j => cell_of_row (z.setRow w.heap.size (frC (1792 + a) 1 s 0 0 0 0 0 0 0 false)) w.heap.size j _ _ _ (setRow_heap _ _ _ _ _ _ gZ)
    refine bodyPost_ret (v := frV (1792 + a) 1 s 0 0 0 0 0 0 0 false) ?_ rfl ⟨rfl, below_setRow KZ (Nat.le_refl _) _⟩
    simp [results, Try.results12, go_sem, hc]

#print axioms rbeat_at
end Go.Proofs.Ytjfjfohabpjemaa
