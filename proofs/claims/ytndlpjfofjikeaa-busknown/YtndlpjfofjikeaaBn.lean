/-
  The walks of ahead, Less and Swap.
-/
import Derived.Test.YtndlpjfofjikeaaBm
namespace Go.Proofs.Ytndlpjfofjikeaa
open Go.RowKit

/-- Does one go ahead of another? -/
def aheadB (x y : Sn) : Bool := befB x.i x.r y.i y.r || (!befB y.i y.r x.i x.r && decide (x.nm < y.nm))

set_option linter.unusedSimpArgs false in
set_option maxHeartbeats 4000000 in
set_option maxRecDepth 100000 in
theorem ahead_any (x y : Sn) (w : World) : Calls Try.prog 82 #[.agg x.A, .agg y.A] w fun e w' => e = .returned (.bool (aheadB x y)) ∧ Below w.heap.size w w' := by
  have B1 := fun w => before_any x.i x.n x.d0 x.d1 x.d2 x.d3 x.d4 x.d5 x.d6 x.d7 x.r y.i y.n y.d0 y.d1 y.d2 y.d3 y.d4 y.d5 y.d6 y.d7 y.r w
  have B2 := fun w => before_any y.i y.n y.d0 y.d1 y.d2 y.d3 y.d4 y.d5 y.d6 y.d7 y.r x.i x.n x.d0 x.d1 x.d2 x.d3 x.d4 x.d5 x.d6 x.d7 x.r w
  unfold aheadB
  have BA : Below w.heap.size w ((w.alloc (.cells x.A 42)).alloc (.cells y.A 42)) := Below.al (Below.al (Below.refl _ _) _) _
  generalize befB x.i x.r y.i y.r = b1 at *
  generalize befB y.i y.r x.i x.r = b2 at *
  cases b1 with
  | true =>
    go_enter Try.func82, Try.ntmps82
    go_wp2_with fail
    refine (B1 _).mono ?_
    rintro e z ⟨rfl, bz⟩
    go_wp2_with fail
    go_ret
    exact ⟨rfl, Below.andThen BA bz⟩
  | false =>
    go_enter Try.func82, Try.ntmps82
    go_wp2_with fail
    refine (B1 _).mono ?_
    rintro e z ⟨rfl, bz⟩
    have kz : Kp [] _ z := Kp.of bz
    have xc1 := kz.cell (b := w.heap.size) (o := 1) (v := .int .u16 x.i) (by simp [go_sem]) (by simp)
    have xc2 := kz.cell (b := w.heap.size) (o := 2) (v := .int .i64 x.n) (by simp [go_sem]) (by simp)
    have xc3 := kz.cell (b := w.heap.size) (o := 3) (v := .int .u8 x.d0) (by simp [go_sem]) (by simp)
    have xc4 := kz.cell (b := w.heap.size) (o := 4) (v := .int .u8 x.d1) (by simp [go_sem]) (by simp)
    have xc5 := kz.cell (b := w.heap.size) (o := 5) (v := .int .u8 x.d2) (by simp [go_sem]) (by simp)
    have xc6 := kz.cell (b := w.heap.size) (o := 6) (v := .int .u8 x.d3) (by simp [go_sem]) (by simp)
    have xc7 := kz.cell (b := w.heap.size) (o := 7) (v := .int .u8 x.d4) (by simp [go_sem]) (by simp)
    have xc8 := kz.cell (b := w.heap.size) (o := 8) (v := .int .u8 x.d5) (by simp [go_sem]) (by simp)
    have xc9 := kz.cell (b := w.heap.size) (o := 9) (v := .int .u8 x.d6) (by simp [go_sem]) (by simp)
    have xc10 := kz.cell (b := w.heap.size) (o := 10) (v := .int .u8 x.d7) (by simp [go_sem]) (by simp)
    have xc11 := kz.cell (b := w.heap.size) (o := 11) (v := .bool x.r) (by simp [go_sem]) (by simp)
    have xc12 := kz.cell (b := w.heap.size) (o := 12) (v := .int .i64 x.nm) (by simp [go_sem]) (by simp)
    have yc1 := kz.cell (b := w.heap.size + 1) (o := 1) (v := .int .u16 y.i) (by simp [go_sem]) (by simp)
    have yc2 := kz.cell (b := w.heap.size + 1) (o := 2) (v := .int .i64 y.n) (by simp [go_sem]) (by simp)
    have yc3 := kz.cell (b := w.heap.size + 1) (o := 3) (v := .int .u8 y.d0) (by simp [go_sem]) (by simp)
    have yc4 := kz.cell (b := w.heap.size + 1) (o := 4) (v := .int .u8 y.d1) (by simp [go_sem]) (by simp)
    have yc5 := kz.cell (b := w.heap.size + 1) (o := 5) (v := .int .u8 y.d2) (by simp [go_sem]) (by simp)
    have yc6 := kz.cell (b := w.heap.size + 1) (o := 6) (v := .int .u8 y.d3) (by simp [go_sem]) (by simp)
    have yc7 := kz.cell (b := w.heap.size + 1) (o := 7) (v := .int .u8 y.d4) (by simp [go_sem]) (by simp)
    have yc8 := kz.cell (b := w.heap.size + 1) (o := 8) (v := .int .u8 y.d5) (by simp [go_sem]) (by simp)
    have yc9 := kz.cell (b := w.heap.size + 1) (o := 9) (v := .int .u8 y.d6) (by simp [go_sem]) (by simp)
    have yc10 := kz.cell (b := w.heap.size + 1) (o := 10) (v := .int .u8 y.d7) (by simp [go_sem]) (by simp)
    have yc11 := kz.cell (b := w.heap.size + 1) (o := 11) (v := .bool y.r) (by simp [go_sem]) (by simp)
    have yc12 := kz.cell (b := w.heap.size + 1) (o := 12) (v := .int .i64 y.nm) (by simp [go_sem]) (by simp)
    have BZ : Below w.heap.size w z := Below.andThen BA bz
    clear bz kz BA B1
    go_wp2_with fail
    refine (B2 _).mono ?_
    rintro e y2 ⟨rfl, by2⟩
    have ky : Kp [] _ y2 := Kp.of by2
    have n1 := ky.cell xc12 (by simp)
    have n2 := ky.cell yc12 (by simp)
    have BY : Below w.heap.size w y2 := Below.andThen BZ by2
    clear by2 ky BZ B2 xc1 xc2 xc3 xc4 xc5 xc6 xc7 xc8 xc9 xc10 xc11 xc12 yc1 yc2 yc3 yc4 yc5 yc6 yc7 yc8 yc9 yc10 yc11 yc12
    cases b2 with
    | true =>
      go_wp2_with fail
      go_ret
      exact ⟨rfl, BY⟩
    | false =>
      go_wp2_with fail
      go_ret
      exact ⟨rfl, BY⟩
#print axioms ahead_any

set_option linter.unusedSimpArgs false in
set_option maxHeartbeats 4000000 in
set_option maxRecDepth 100000 in
theorem less_any {w : World} {base g cap : Nat} {l : List Sn} (h : IsL w base (.slice (some ⟨g, 0, none⟩) l.length cap) l) (i j : Nat) (x y : Sn) (hx : l[i]? = some x) (hy : l[j]? = some y) :
    Calls Try.prog 80 #[.slice (some ⟨g, 0, none⟩) l.length cap, .int .i64 (i : Int), .int .i64 (j : Int)] w fun e w' => e = .returned (.bool (aheadB x y)) ∧ Below w.heap.size w w' := by
  have hi : i < l.length := (List.getElem?_eq_some_iff.1 hx).1
  have hj : j < l.length := (List.getElem?_eq_some_iff.1 hy).1
  have gi : (i : Int) < (l.length : Int) := by omega
  have gj : (j : Int) < (l.length : Int) := by omega
  have h2 : IsL w.drew base (.slice (some ⟨g, 0, none⟩) l.length cap) l := h
  have KS0 : (loadVar 42 ⟨g, i * 13, none⟩).run Try.prog w.drew = .ok (.agg x.A) w.drew ∧ (loadVar 42 ⟨g, j * 13, none⟩).run Try.prog w.drew = .ok (.agg y.A) w.drew := ⟨h2.load i x hx, h2.load j y hy⟩
  have HZ : Hid (∀ z, Below w.drew.heap.size w.drew z → (loadVar 42 ⟨g, i * 13, none⟩).run Try.prog z = .ok (.agg x.A) z ∧ (loadVar 42 ⟨g, j * 13, none⟩).run Try.prog z = .ok (.agg y.A) z) := fun z bz => by
    have hz : IsL z base (.slice (some ⟨g, 0, none⟩) l.length cap) l := h2.kept (row := none) ⟨bz.os, bz.tape, bz.output, bz.size, fun k hk _ => bz.block k hk⟩ (.inr (by simp [Value.ownBlock]))
    exact ⟨hz.load i x hx, hz.load j y hy⟩
  have AH : Hid (∀ w, Calls Try.prog 82 #[.agg x.A, .agg y.A] w fun e w' => e = .returned (.bool (aheadB x y)) ∧ Below w.heap.size w w') := fun w => ahead_any x y w
  clear h h2 hx hy hi hj
  generalize aheadB x y = ab at *
  go_enter Try.func80, Try.ntmps80
  go_wp2_with fail
  refine wp_region_held_drew (S := fun u => (loadVar 42 ⟨g, i * 13, none⟩).run Try.prog u = .ok (.agg x.A) u ∧ (loadVar 42 ⟨g, j * 13, none⟩).run Try.prog u = .ok (.agg y.A) u) (by kernel_rfl) (KS0) (fun hHeld => ?_)
  refine wpAnyH_take (i := 0) (v := (.slice (some ⟨g, 0, none⟩) l.length cap)) rfl (by kernel_rfl) (by kernel_rfl) (by kernel_rfl) (fun _ _ _ h => h) (Or.inl ⟨by rfl, ?_⟩) (by assumption) ?_
  · intro w9 hSw
    try dsimp only at hSw
    go_simp
    all_goals try decide
    all_goals try assumption
  try simp only [Act.put, List.getElem_toArray, List.getElem_cons_succ, List.getElem_cons_zero, List.setIfInBounds_toArray, List.set_cons_zero, List.set_cons_succ]
  refine wpAnyH_take (i := 1) (v := (.int .i64 (i : Int))) rfl (by kernel_rfl) (by kernel_rfl) (by kernel_rfl) (fun _ _ _ h => h) (Or.inl ⟨by rfl, ?_⟩) (by assumption) ?_
  · intro w9 hSw
    try dsimp only at hSw
    go_simp
    all_goals try decide
    all_goals try assumption
  try simp only [Act.put, List.getElem_toArray, List.getElem_cons_succ, List.getElem_cons_zero, List.setIfInBounds_toArray, List.set_cons_zero, List.set_cons_succ]
  refine wpAnyH_take (i := 2) (v := (.pointer (some ⟨g, i * 13, none⟩))) rfl (by kernel_rfl) (by kernel_rfl) (by kernel_rfl) (fun _ _ _ h => h) (Or.inl ⟨by rfl, ?_⟩) (by assumption) ?_
  · intro w9 hSw
    try dsimp only at hSw
    go_simp
    all_goals try decide
    all_goals try assumption
  try simp only [Act.put, List.getElem_toArray, List.getElem_cons_succ, List.getElem_cons_zero, List.setIfInBounds_toArray, List.set_cons_zero, List.set_cons_succ]
  refine wpAnyH_take (i := 3) (v := (.agg x.A)) rfl (by kernel_rfl) (by kernel_rfl) (by kernel_rfl) (fun _ _ _ h => h) (Or.inl ⟨by rfl, ?_⟩) (by assumption) ?_
  · intro w9 hSw
    try dsimp only at hSw
    have hLd := hSw.1
    simp [execOp, Instr.loadAt, Instr.sureAddr, Act.eval, hLd]
  try simp only [Act.put, List.getElem_toArray, List.getElem_cons_succ, List.getElem_cons_zero, List.setIfInBounds_toArray, List.set_cons_zero, List.set_cons_succ]
  refine wpAnyH_take (i := 4) (v := (.slice (some ⟨g, 0, none⟩) l.length cap)) rfl (by kernel_rfl) (by kernel_rfl) (by kernel_rfl) (fun _ _ _ h => h) (Or.inl ⟨by rfl, ?_⟩) (by assumption) ?_
  · intro w9 hSw
    try dsimp only at hSw
    go_simp
    all_goals try decide
    all_goals try assumption
  try simp only [Act.put, List.getElem_toArray, List.getElem_cons_succ, List.getElem_cons_zero, List.setIfInBounds_toArray, List.set_cons_zero, List.set_cons_succ]
  refine wpAnyH_take (i := 5) (v := (.int .i64 (j : Int))) rfl (by kernel_rfl) (by kernel_rfl) (by kernel_rfl) (fun _ _ _ h => h) (Or.inl ⟨by rfl, ?_⟩) (by assumption) ?_
  · intro w9 hSw
    try dsimp only at hSw
    go_simp
    all_goals try decide
    all_goals try assumption
  try simp only [Act.put, List.getElem_toArray, List.getElem_cons_succ, List.getElem_cons_zero, List.setIfInBounds_toArray, List.set_cons_zero, List.set_cons_succ]
  refine wpAnyH_take (i := 6) (v := (.pointer (some ⟨g, j * 13, none⟩))) rfl (by kernel_rfl) (by kernel_rfl) (by kernel_rfl) (fun _ _ _ h => h) (Or.inl ⟨by rfl, ?_⟩) (by assumption) ?_
  · intro w9 hSw
    try dsimp only at hSw
    go_simp
    all_goals try decide
    all_goals try assumption
  try simp only [Act.put, List.getElem_toArray, List.getElem_cons_succ, List.getElem_cons_zero, List.setIfInBounds_toArray, List.set_cons_zero, List.set_cons_succ]
  refine wpAnyH_take (i := 7) (v := (.agg y.A)) rfl (by kernel_rfl) (by kernel_rfl) (by kernel_rfl) (fun _ _ _ h => h) (Or.inl ⟨by rfl, ?_⟩) (by assumption) ?_
  · intro w9 hSw
    try dsimp only at hSw
    have hLd := hSw.2
    simp [execOp, Instr.loadAt, Instr.sureAddr, Act.eval, hLd]
  try simp only [Act.put, List.getElem_toArray, List.getElem_cons_succ, List.getElem_cons_zero, List.setIfInBounds_toArray, List.set_cons_zero, List.set_cons_succ]
  refine wpAnyH_ready (rs := [8]) (by kernel_rfl) (by simp) ?_
  refine AllReadyH.cons rfl (fun K' hK => ?_) AllReadyH.nil
  rw [if_pos (by rfl)]
  simp only [List.getElem_toArray, List.getElem_cons_succ, List.getElem_cons_zero]
  go_wp2_with fail
  refine (AH.out _).mono ?_
  rintro e z ⟨rfl, bz⟩
  try go_wp2_with fail
  refine hK.out _ _ (HZ.out z bz) (fun hHeld => ?_)
  clear hK K'
  try simp only [Act.put, List.getElem_toArray, List.getElem_cons_succ, List.getElem_cons_zero, List.setIfInBounds_toArray, List.set_cons_zero, List.set_cons_succ]
  refine wpAnyH_take (i := 9) (v := (.bool ab)) rfl (by kernel_rfl) (by kernel_rfl) (by kernel_rfl) (fun _ _ _ h => h) (Or.inl ⟨by rfl, ?_⟩) (by assumption) ?_
  · intro w9 hSw
    try dsimp only at hSw
    go_simp
    all_goals try decide
    all_goals try assumption
  try simp only [Act.put, List.getElem_toArray, List.getElem_cons_succ, List.getElem_cons_zero, List.setIfInBounds_toArray, List.set_cons_zero, List.set_cons_succ]
  refine wpAnyH_done (by kernel_rfl) ?_ _
  go_wp2_with fail
  go_ret
  exact ⟨rfl, Below.andThen (Below.drew (Below.refl _ _)) bz⟩
#print axioms less_any

set_option linter.unusedSimpArgs false in
set_option maxHeartbeats 4000000 in
set_option maxRecDepth 100000 in
theorem swap_any {w : World} {base g cap : Nat} {l : List Sn} (h : IsL w base (.slice (some ⟨g, 0, none⟩) l.length cap) l) (i j : Nat) (x y : Sn) (hx : l[i]? = some x) (hy : l[j]? = some y) :
    Calls Try.prog 81 #[.slice (some ⟨g, 0, none⟩) l.length cap, .int .i64 (i : Int), .int .i64 (j : Int)] w fun e w' => e = .returned (.tuple #[]) ∧ IsL w' base (.slice (some ⟨g, 0, none⟩) l.length cap) ((l.set i y).set j x) ∧ Kp [g] w w' := by
  have hi : i < l.length := (List.getElem?_eq_some_iff.1 hx).1
  have hj : j < l.length := (List.getElem?_eq_some_iff.1 hy).1
  have gi : (i : Int) < (l.length : Int) := by omega
  have gj : (j : Int) < (l.length : Int) := by omega
  have h2 : IsL w.drew base (.slice (some ⟨g, 0, none⟩) l.length cap) l := h
  have L1 := h2.load j y hy
  have L2 := h2.load i x hx
  obtain ⟨w1, ST1, H1, K1⟩ := h2.store i y hi
  have e1 : (l.set i y).length = l.length := List.length_set
  have H1' : IsL w1 base (.slice (some ⟨g, 0, none⟩) (l.set i y).length cap) (l.set i y) := by rw [e1]; exact H1
  obtain ⟨w2, ST2, H2, K2⟩ := H1'.store j x (by rw [e1]; exact hj)
  rw [e1] at H2
  have RES : Hid (IsL w2 base (.slice (some ⟨g, 0, none⟩) l.length cap) ((l.set i y).set j x) ∧ Kp [g] w w2) := ⟨H2, ((Kp.refl _ _).drew.trans K1).trans K2⟩
  clear h h2 H1 H1' H2 K1 K2 hx hy e1 hi hj
  go_enter Try.func81, Try.ntmps81
  go_wp2_with fail
  refine wp_region_held_drew (S := fun _ => True) (by kernel_rfl) trivial (fun hHeld => ?_)
  refine wpAnyH_take (i := 0) (v := (.slice (some ⟨g, 0, none⟩) l.length cap)) rfl (by kernel_rfl) (by kernel_rfl) (by kernel_rfl) (fun _ _ _ h => h) (Or.inl ⟨by rfl, ?_⟩) (by assumption) ?_
  · intro w9 hSw
    try dsimp only at hSw
    go_simp
    all_goals try decide
    all_goals try assumption
  try simp only [Act.put, List.getElem_toArray, List.getElem_cons_succ, List.getElem_cons_zero, List.setIfInBounds_toArray, List.set_cons_zero, List.set_cons_succ]
  refine wpAnyH_take (i := 1) (v := (.int .i64 (i : Int))) rfl (by kernel_rfl) (by kernel_rfl) (by kernel_rfl) (fun _ _ _ h => h) (Or.inl ⟨by rfl, ?_⟩) (by assumption) ?_
  · intro w9 hSw
    try dsimp only at hSw
    go_simp
    all_goals try decide
    all_goals try assumption
  try simp only [Act.put, List.getElem_toArray, List.getElem_cons_succ, List.getElem_cons_zero, List.setIfInBounds_toArray, List.set_cons_zero, List.set_cons_succ]
  refine wpAnyH_take (i := 4) (v := (.slice (some ⟨g, 0, none⟩) l.length cap)) rfl (by kernel_rfl) (by kernel_rfl) (by kernel_rfl) (fun _ _ _ h => h) (Or.inl ⟨by rfl, ?_⟩) (by assumption) ?_
  · intro w9 hSw
    try dsimp only at hSw
    go_simp
    all_goals try decide
    all_goals try assumption
  try simp only [Act.put, List.getElem_toArray, List.getElem_cons_succ, List.getElem_cons_zero, List.setIfInBounds_toArray, List.set_cons_zero, List.set_cons_succ]
  refine wpAnyH_take (i := 5) (v := (.int .i64 (j : Int))) rfl (by kernel_rfl) (by kernel_rfl) (by kernel_rfl) (fun _ _ _ h => h) (Or.inl ⟨by rfl, ?_⟩) (by assumption) ?_
  · intro w9 hSw
    try dsimp only at hSw
    go_simp
    all_goals try decide
    all_goals try assumption
  try simp only [Act.put, List.getElem_toArray, List.getElem_cons_succ, List.getElem_cons_zero, List.setIfInBounds_toArray, List.set_cons_zero, List.set_cons_succ]
  refine wpAnyH_take (i := 6) (v := (.pointer (some ⟨g, j * 13, none⟩))) rfl (by kernel_rfl) (by kernel_rfl) (by kernel_rfl) (fun _ _ _ h => h) (Or.inl ⟨by rfl, ?_⟩) (by assumption) ?_
  · intro w9 hSw
    try dsimp only at hSw
    go_simp
    all_goals try decide
    all_goals try assumption
  try simp only [Act.put, List.getElem_toArray, List.getElem_cons_succ, List.getElem_cons_zero, List.setIfInBounds_toArray, List.set_cons_zero, List.set_cons_succ]
  refine wpAnyH_take (i := 8) (v := (.slice (some ⟨g, 0, none⟩) l.length cap)) rfl (by kernel_rfl) (by kernel_rfl) (by kernel_rfl) (fun _ _ _ h => h) (Or.inl ⟨by rfl, ?_⟩) (by assumption) ?_
  · intro w9 hSw
    try dsimp only at hSw
    go_simp
    all_goals try decide
    all_goals try assumption
  try simp only [Act.put, List.getElem_toArray, List.getElem_cons_succ, List.getElem_cons_zero, List.setIfInBounds_toArray, List.set_cons_zero, List.set_cons_succ]
  refine wpAnyH_take (i := 9) (v := (.int .i64 (i : Int))) rfl (by kernel_rfl) (by kernel_rfl) (by kernel_rfl) (fun _ _ _ h => h) (Or.inl ⟨by rfl, ?_⟩) (by assumption) ?_
  · intro w9 hSw
    try dsimp only at hSw
    go_simp
    all_goals try decide
    all_goals try assumption
  try simp only [Act.put, List.getElem_toArray, List.getElem_cons_succ, List.getElem_cons_zero, List.setIfInBounds_toArray, List.set_cons_zero, List.set_cons_succ]
  refine wpAnyH_take (i := 10) (v := (.pointer (some ⟨g, i * 13, none⟩))) rfl (by kernel_rfl) (by kernel_rfl) (by kernel_rfl) (fun _ _ _ h => h) (Or.inl ⟨by rfl, ?_⟩) (by assumption) ?_
  · intro w9 hSw
    try dsimp only at hSw
    go_simp
    all_goals try decide
    all_goals try assumption
  try simp only [Act.put, List.getElem_toArray, List.getElem_cons_succ, List.getElem_cons_zero, List.setIfInBounds_toArray, List.set_cons_zero, List.set_cons_succ]
  refine wpAnyH_take (i := 2) (v := (.slice (some ⟨g, 0, none⟩) l.length cap)) rfl (by kernel_rfl) (by kernel_rfl) (by kernel_rfl) (fun _ _ _ h => h) (Or.inl ⟨by rfl, ?_⟩) (by assumption) ?_
  · intro w9 hSw
    try dsimp only at hSw
    go_simp
    all_goals try decide
    all_goals try assumption
  try simp only [Act.put, List.getElem_toArray, List.getElem_cons_succ, List.getElem_cons_zero, List.setIfInBounds_toArray, List.set_cons_zero, List.set_cons_succ]
  refine wpAnyH_take (i := 3) (v := (.int .i64 (j : Int))) rfl (by kernel_rfl) (by kernel_rfl) (by kernel_rfl) (fun _ _ _ h => h) (Or.inl ⟨by rfl, ?_⟩) (by assumption) ?_
  · intro w9 hSw
    try dsimp only at hSw
    go_simp
    all_goals try decide
    all_goals try assumption
  try simp only [Act.put, List.getElem_toArray, List.getElem_cons_succ, List.getElem_cons_zero, List.setIfInBounds_toArray, List.set_cons_zero, List.set_cons_succ]
  refine wpAnyH_ready (rs := [7, 11]) (by kernel_rfl) (by simp) ?_
  refine AllReadyH.cons rfl (fun K' hK => ?_) (AllReadyH.cons rfl (fun K' hK => ?_) AllReadyH.nil)
  · rw [if_pos (by rfl)]
    simp only [List.getElem_toArray, List.getElem_cons_succ, List.getElem_cons_zero]
    refine wp_load_by 42 (.tmp 12) rfl _ _ rfl L1 ?_
    refine hK.out _ _ trivial (fun hHeld => ?_)
    clear hK K'
    try simp only [Act.put, List.getElem_toArray, List.getElem_cons_succ, List.getElem_cons_zero, List.setIfInBounds_toArray, List.set_cons_zero, List.set_cons_succ]
    refine wpAnyH_ready (rs := [11]) (by kernel_rfl) (by simp) ?_
    refine AllReadyH.cons rfl (fun K' hK => ?_) AllReadyH.nil
    rw [if_pos (by rfl)]
    simp only [List.getElem_toArray, List.getElem_cons_succ, List.getElem_cons_zero]
    refine wp_load_by 42 (.tmp 16) rfl _ _ rfl L2 ?_
    refine hK.out _ _ trivial (fun hHeld => ?_)
    clear hK K'
    try simp only [Act.put, List.getElem_toArray, List.getElem_cons_succ, List.getElem_cons_zero, List.setIfInBounds_toArray, List.set_cons_zero, List.set_cons_succ]
    refine wpAnyH_take (i := 12) (v := (.pointer (some ⟨g, i * 13, none⟩))) rfl (by kernel_rfl) (by kernel_rfl) (by kernel_rfl) (fun _ _ _ h => h) (Or.inl ⟨by rfl, ?_⟩) (by assumption) ?_
    · intro w9 hSw
      try dsimp only at hSw
      go_simp
      all_goals try decide
      all_goals try assumption
    try simp only [Act.put, List.getElem_toArray, List.getElem_cons_succ, List.getElem_cons_zero, List.setIfInBounds_toArray, List.set_cons_zero, List.set_cons_succ]
    refine wpAnyH_ready (rs := [13]) (by kernel_rfl) (by simp) ?_
    refine AllReadyH.cons rfl (fun K' hK => ?_) AllReadyH.nil
    rw [if_pos (by rfl)]
    simp only [List.getElem_toArray, List.getElem_cons_succ, List.getElem_cons_zero]
    refine wp_store_by 42 (.tmp 18) (.tmp 13) rfl _ _ rfl rfl ST1 ?_
    refine hK.out _ _ trivial (fun hHeld => ?_)
    clear hK K'
    try simp only [Act.put, List.getElem_toArray, List.getElem_cons_succ, List.getElem_cons_zero, List.setIfInBounds_toArray, List.set_cons_zero, List.set_cons_succ]
    refine wpAnyH_take (i := 14) (v := (.pointer (some ⟨g, j * 13, none⟩))) rfl (by kernel_rfl) (by kernel_rfl) (by kernel_rfl) (fun _ _ _ h => h) (Or.inl ⟨by rfl, ?_⟩) (by assumption) ?_
    · intro w9 hSw
      try dsimp only at hSw
      go_simp
      all_goals try decide
      all_goals try assumption
    try simp only [Act.put, List.getElem_toArray, List.getElem_cons_succ, List.getElem_cons_zero, List.setIfInBounds_toArray, List.set_cons_zero, List.set_cons_succ]
    refine wpAnyH_ready (rs := [15]) (by kernel_rfl) (by simp) ?_
    refine AllReadyH.cons rfl (fun K' hK => ?_) AllReadyH.nil
    rw [if_pos (by rfl)]
    simp only [List.getElem_toArray, List.getElem_cons_succ, List.getElem_cons_zero]
    refine wp_store_by 42 (.tmp 19) (.tmp 17) rfl _ _ rfl rfl ST2 ?_
    refine hK.out _ _ trivial (fun hHeld => ?_)
    clear hK K'
    try simp only [Act.put, List.getElem_toArray, List.getElem_cons_succ, List.getElem_cons_zero, List.setIfInBounds_toArray, List.set_cons_zero, List.set_cons_succ]
    refine wpAnyH_done (by kernel_rfl) ?_ _
    go_wp2_with fail
    go_end0
    exact ⟨rfl, RES.out⟩
  · rw [if_pos (by rfl)]
    simp only [List.getElem_toArray, List.getElem_cons_succ, List.getElem_cons_zero]
    refine wp_load_by 42 (.tmp 16) rfl _ _ rfl L2 ?_
    refine hK.out _ _ trivial (fun hHeld => ?_)
    clear hK K'
    try simp only [Act.put, List.getElem_toArray, List.getElem_cons_succ, List.getElem_cons_zero, List.setIfInBounds_toArray, List.set_cons_zero, List.set_cons_succ]
    refine wpAnyH_ready (rs := [7]) (by kernel_rfl) (by simp) ?_
    refine AllReadyH.cons rfl (fun K' hK => ?_) AllReadyH.nil
    rw [if_pos (by rfl)]
    simp only [List.getElem_toArray, List.getElem_cons_succ, List.getElem_cons_zero]
    refine wp_load_by 42 (.tmp 12) rfl _ _ rfl L1 ?_
    refine hK.out _ _ trivial (fun hHeld => ?_)
    clear hK K'
    try simp only [Act.put, List.getElem_toArray, List.getElem_cons_succ, List.getElem_cons_zero, List.setIfInBounds_toArray, List.set_cons_zero, List.set_cons_succ]
    refine wpAnyH_take (i := 12) (v := (.pointer (some ⟨g, i * 13, none⟩))) rfl (by kernel_rfl) (by kernel_rfl) (by kernel_rfl) (fun _ _ _ h => h) (Or.inl ⟨by rfl, ?_⟩) (by assumption) ?_
    · intro w9 hSw
      try dsimp only at hSw
      go_simp
      all_goals try decide
      all_goals try assumption
    try simp only [Act.put, List.getElem_toArray, List.getElem_cons_succ, List.getElem_cons_zero, List.setIfInBounds_toArray, List.set_cons_zero, List.set_cons_succ]
    refine wpAnyH_ready (rs := [13]) (by kernel_rfl) (by simp) ?_
    refine AllReadyH.cons rfl (fun K' hK => ?_) AllReadyH.nil
    rw [if_pos (by rfl)]
    simp only [List.getElem_toArray, List.getElem_cons_succ, List.getElem_cons_zero]
    refine wp_store_by 42 (.tmp 18) (.tmp 13) rfl _ _ rfl rfl ST1 ?_
    refine hK.out _ _ trivial (fun hHeld => ?_)
    clear hK K'
    try simp only [Act.put, List.getElem_toArray, List.getElem_cons_succ, List.getElem_cons_zero, List.setIfInBounds_toArray, List.set_cons_zero, List.set_cons_succ]
    refine wpAnyH_take (i := 14) (v := (.pointer (some ⟨g, j * 13, none⟩))) rfl (by kernel_rfl) (by kernel_rfl) (by kernel_rfl) (fun _ _ _ h => h) (Or.inl ⟨by rfl, ?_⟩) (by assumption) ?_
    · intro w9 hSw
      try dsimp only at hSw
      go_simp
      all_goals try decide
      all_goals try assumption
    try simp only [Act.put, List.getElem_toArray, List.getElem_cons_succ, List.getElem_cons_zero, List.setIfInBounds_toArray, List.set_cons_zero, List.set_cons_succ]
    refine wpAnyH_ready (rs := [15]) (by kernel_rfl) (by simp) ?_
    refine AllReadyH.cons rfl (fun K' hK => ?_) AllReadyH.nil
    rw [if_pos (by rfl)]
    simp only [List.getElem_toArray, List.getElem_cons_succ, List.getElem_cons_zero]
    refine wp_store_by 42 (.tmp 19) (.tmp 17) rfl _ _ rfl rfl ST2 ?_
    refine hK.out _ _ trivial (fun hHeld => ?_)
    clear hK K'
    try simp only [Act.put, List.getElem_toArray, List.getElem_cons_succ, List.getElem_cons_zero, List.setIfInBounds_toArray, List.set_cons_zero, List.set_cons_succ]
    refine wpAnyH_done (by kernel_rfl) ?_ _
    go_wp2_with fail
    go_end0
    exact ⟨rfl, RES.out⟩
#print axioms swap_any
end Go.Proofs.Ytndlpjfofjikeaa
