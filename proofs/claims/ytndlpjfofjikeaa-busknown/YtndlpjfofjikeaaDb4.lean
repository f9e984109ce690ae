/-
  The walk of BusKnown.
-/
import Derived.Test.YtndlpjfofjikeaaDa4
import Derived.Test.YtndlpjfofjikeaaCe4
import Derived.Great.BuildSlice
namespace Go.Proofs.Ytndlpjfofjikeaa
open Go.RowKit

theorem infoP : (Try.prog.info? 29).map (fun i => (i.zero, i.size, i.bytes)) = some (some (.agg #[.int .i64 0, .int .i64 0, .int .u16 0, .int .i64 0, .int .u8 0, .int .u8 0, .int .u8 0, .int .u8 0, .int .u8 0, .int .u8 0, .int .u8 0, .int .u8 0, .bool false, .int .i64 0]), 14, 56) := by kernel_rfl
theorem infoFr : (Try.prog.info? 27).map (fun i => (i.zero, i.size, i.bytes)) = some (some (.agg #[.int .u16 0, .int .i64 0, .int .u8 0, .int .u8 0, .int .u8 0, .int .u8 0, .int .u8 0, .int .u8 0, .int .u8 0, .int .u8 0, .bool false]), 11, 32) := by kernel_rfl
theorem infoIn : (Try.prog.info? 3).map (fun i => (i.zero, i.size, i.bytes)) = some (some (.int .i64 0), 1, 8) := by kernel_rfl
theorem flatS_at : ∀ (ss : List St) (i : Nat) (s : St) (j : Nat), ss[i]? = some s → j < 14 → (ss.flatMap St.L)[i * 14 + j]? = s.L[j]?
  | [], i, s, j, h, _ => by simp at h
  | x :: ss, 0, s, j, h, hj => by
    simp at h
    subst h
    rw [List.flatMap_cons, List.getElem?_append_left (by simp [St.L]; omega), Nat.zero_mul, Nat.zero_add]
  | x :: ss, i + 1, s, j, h, hj => by
    rw [List.getElem?_cons_succ] at h
    have hl : (St.L x).length = 14 := rfl
    rw [List.flatMap_cons, List.getElem?_append_right (by rw [hl]; omega), hl, show (i + 1) * 14 + j - 14 = i * 14 + j from by omega]
    exact flatS_at ss i s j h hj
theorem flatF_at : ∀ (fs : List Sn) (i : Nat) (s : Sn) (j : Nat), fs[i]? = some s → j < 11 → (fs.flatMap Sn.F)[i * 11 + j]? = s.F[j]?
  | [], i, s, j, h, _ => by simp at h
  | x :: ss, 0, s, j, h, hj => by
    simp at h
    subst h
    rw [List.flatMap_cons, List.getElem?_append_left (by simp [Sn.F]; omega), Nat.zero_mul, Nat.zero_add]
  | x :: ss, i + 1, s, j, h, hj => by
    rw [List.getElem?_cons_succ] at h
    have hl : (Sn.F x).length = 11 := rfl
    rw [List.flatMap_cons, List.getElem?_append_right (by rw [hl]; omega), hl, show (i + 1) * 11 + j - 11 = i * 11 + j from by omega]
    exact flatF_at ss i s j h hj
theorem isSt_lit {w : World} {b : Nat} {C : Array Value} {T : TypeId} (ss : List St) (hb : w.heap[b]? = some (.cells C T (0, 0))) (hC : C.toList = ss.flatMap St.L) (ho : ∀ s ∈ ss, Oct [s.y.d0, s.y.d1, s.y.d2, s.y.d3, s.y.d4, s.y.d5, s.y.d6, s.y.d7]) : IsSt w (some ⟨b, 0, none⟩) ss.length ss := ⟨rfl, ho, fun _ => ⟨b, 0, rfl, fun i s hs j v hv => by
  have hj : j < 14 := (List.getElem?_eq_some_iff.1 hv).1
  rw [cell_of_row w b _ _ _ _ hb, ← Array.getElem?_toList, hC, Nat.zero_add, flatS_at ss i s j hs hj]
  exact hv⟩⟩
theorem isFs_lit {w : World} {b : Nat} {C : Array Value} {T : TypeId} (fs : List Sn) (hb : w.heap[b]? = some (.cells C T (0, 0))) (hC : C.toList = fs.flatMap Sn.F) (ho : ∀ s ∈ fs, Oct [s.d0, s.d1, s.d2, s.d3, s.d4, s.d5, s.d6, s.d7]) : IsFs w (some ⟨b, 0, none⟩) fs.length fs := ⟨rfl, ho, fun _ => ⟨b, 0, rfl, fun i s hs j v hv => by
  have hj : j < 11 := (List.getElem?_eq_some_iff.1 hv).1
  rw [cell_of_row w b _ _ _ _ hb, ← Array.getElem?_toList, hC, Nat.zero_add, flatF_at fs i s j hs hj]
  exact hv⟩⟩
theorem isNs_lit {w : World} {b : Nat} {C : Array Value} {T : TypeId} (zs : List Int) (hb : w.heap[b]? = some (.cells C T (0, 0))) (hC : C.toList = zs.map (Value.int .i64)) : IsNs w (some ⟨b, 0, none⟩) zs.length zs := ⟨rfl, fun _ => ⟨b, 0, rfl, fun i hi => by
  rw [cell_of_row w b _ _ _ _ hb, ← Array.getElem?_toList, hC, Nat.zero_add, List.getElem?_map, List.getElem?_eq_getElem hi, List.getD_eq_getElem?_getD, List.getElem?_eq_getElem hi]
  rfl⟩⟩

set_option linter.unusedSimpArgs false in
set_option maxHeartbeats 4000000 in
set_option maxRecDepth 100000 in
theorem byteFrame_any (id x : Int) (w : World) : Calls Try.prog 19 #[.int .u16 id, .int .u8 x] w fun e w' => e = .returned (.agg #[.int .u16 id, .int .i64 1, .int .u8 x, .int .u8 0, .int .u8 0, .int .u8 0, .int .u8 0, .int .u8 0, .int .u8 0, .int .u8 0, .bool false]) ∧ Below w.heap.size w w' := by
  go_enter Try.func19, Try.ntmps19
  go_wp2_with fail
  exact bodyPost_ret (v := .agg #[.int .u16 id, .int .i64 1, .int .u8 x, .int .u8 0, .int .u8 0, .int .u8 0, .int .u8 0, .int .u8 0, .int .u8 0, .int .u8 0, .bool false]) (by simp [results, Try.results19, go_sem]) rfl ⟨rfl, Below.al (Below.al (Below.refl _ _) _) _⟩
#print axioms byteFrame_any

set_option linter.unusedSimpArgs false in
set_option maxHeartbeats 40000000 in
set_option maxRecDepth 100000 in
theorem busKnown_any (w : World) : Calls Try.prog 6 #[] w fun e w' => e = .returned (.bool true) ∧ Below w.heap.size w w' := by
  have BF := byteFrame_any 385 1 w
  obtain ⟨ieP, hiP, hzP0, hzP1, _⟩ := info_parts infoP
  obtain ⟨ieF, hiF, hzF0, hzF1, _⟩ := info_parts infoFr
  obtain ⟨ieI, hiI, hzI0, hzI1, _⟩ := info_parts infoIn
  go_enter Try.func6, Try.ntmps6
  go_wp2_with fail
  refine BF.mono ?_
  rintro e z ⟨rfl, bz⟩
  clear BF
  obtain ⟨fb, hfb⟩ : ∃ fb, Hid (fb = z.heap.size) := ⟨_, rfl⟩
  have BZ : Below w.heap.size w (z.alloc (.cells #[.int .u16 385, .int .i64 1, .int .u8 1, .int .u8 0, .int .u8 0, .int .u8 0, .int .u8 0, .int .u8 0, .int .u8 0, .int .u8 0, .bool false] 27)).drew := Below.drew (Below.al bz _)
  have KS : Hid (∀ x, Below (z.alloc (.cells #[.int .u16 385, .int .i64 1, .int .u8 1, .int .u8 0, .int .u8 0, .int .u8 0, .int .u8 0, .int .u8 0, .int .u8 0, .int .u8 0, .bool false] 27)).drew.heap.size (z.alloc (.cells #[.int .u16 385, .int .i64 1, .int .u8 1, .int .u8 0, .int .u8 0, .int .u8 0, .int .u8 0, .int .u8 0, .int .u8 0, .int .u8 0, .bool false] 27)).drew x → x.cell? ⟨fb, 0, none⟩ = some (.int .u16 385) ∧ x.cell? ⟨fb, 1, none⟩ = some (.int .i64 1) ∧ x.cell? ⟨fb, 2, none⟩ = some (.int .u8 1) ∧ x.cell? ⟨fb, 3, none⟩ = some (.int .u8 0) ∧ x.cell? ⟨fb, 4, none⟩ = some (.int .u8 0) ∧ x.cell? ⟨fb, 5, none⟩ = some (.int .u8 0) ∧ x.cell? ⟨fb, 6, none⟩ = some (.int .u8 0) ∧ x.cell? ⟨fb, 7, none⟩ = some (.int .u8 0) ∧ x.cell? ⟨fb, 8, none⟩ = some (.int .u8 0) ∧ x.cell? ⟨fb, 9, none⟩ = some (.int .u8 0) ∧ x.cell? ⟨fb, 10, none⟩ = some (.bool false)) := fun x hx => by
    have hb : x.heap[fb]? = some (.cells #[.int .u16 385, .int .i64 1, .int .u8 1, .int .u8 0, .int .u8 0, .int .u8 0, .int .u8 0, .int .u8 0, .int .u8 0, .int .u8 0, .bool false] 27 (0, 0)) := by rw [hfb.out]; exact (hx.block z.heap.size (by simp)).trans (heap_alloc_last z _)
    exact ⟨by rw [cell_of_row x _ 0 _ _ _ hb]; rfl, by rw [cell_of_row x _ 1 _ _ _ hb]; rfl, by rw [cell_of_row x _ 2 _ _ _ hb]; rfl, by rw [cell_of_row x _ 3 _ _ _ hb]; rfl, by rw [cell_of_row x _ 4 _ _ _ hb]; rfl, by rw [cell_of_row x _ 5 _ _ _ hb]; rfl, by rw [cell_of_row x _ 6 _ _ _ hb]; rfl, by rw [cell_of_row x _ 7 _ _ _ hb]; rfl, by rw [cell_of_row x _ 8 _ _ _ hb]; rfl, by rw [cell_of_row x _ 9 _ _ _ hb]; rfl, by rw [cell_of_row x _ 10 _ _ _ hb]; rfl⟩
  clear bz
  go_wp2_with fail
  rw [← hfb.out]
  refine wp_region_held_drew (S := fun x => x.cell? ⟨fb, 0, none⟩ = some (.int .u16 385) ∧ x.cell? ⟨fb, 1, none⟩ = some (.int .i64 1) ∧ x.cell? ⟨fb, 2, none⟩ = some (.int .u8 1) ∧ x.cell? ⟨fb, 3, none⟩ = some (.int .u8 0) ∧ x.cell? ⟨fb, 4, none⟩ = some (.int .u8 0) ∧ x.cell? ⟨fb, 5, none⟩ = some (.int .u8 0) ∧ x.cell? ⟨fb, 6, none⟩ = some (.int .u8 0) ∧ x.cell? ⟨fb, 7, none⟩ = some (.int .u8 0) ∧ x.cell? ⟨fb, 8, none⟩ = some (.int .u8 0) ∧ x.cell? ⟨fb, 9, none⟩ = some (.int .u8 0) ∧ x.cell? ⟨fb, 10, none⟩ = some (.bool false)) (by kernel_rfl) (KS.out _ (Below.refl _ _)) (fun hHeld => ?_)
  refine wpAnyH_take (i := 0) (v := (.agg #[.int .u16 385, .int .i64 1, .int .u8 1, .int .u8 0, .int .u8 0, .int .u8 0, .int .u8 0, .int .u8 0, .int .u8 0, .int .u8 0, .bool false])) rfl (by kernel_rfl) (by kernel_rfl) (by kernel_rfl) (fun _ _ _ h => h) (Or.inl ⟨by rfl, ?_⟩) (by assumption) ?_
  · intro w9 hSw
    try dsimp only at hSw
    go_simp
    all_goals try decide
    all_goals try assumption
  try simp only [Act.put, List.getElem_toArray, List.getElem_cons_succ, List.getElem_cons_zero, List.setIfInBounds_toArray, List.set_cons_zero, List.set_cons_succ]
  refine wpAnyH_take (i := 1) (v := (.agg #[.int .i64 0, .int .i64 1, .int .u16 385, .int .i64 1, .int .u8 1, .int .u8 0, .int .u8 0, .int .u8 0, .int .u8 0, .int .u8 0, .int .u8 0, .int .u8 0, .bool false, .int .i64 0])) rfl (by kernel_rfl) (by kernel_rfl) (by kernel_rfl) (fun _ _ _ h => h) (Or.inl ⟨by rfl, ?_⟩) (by assumption) ?_
  · intro w9 hSw
    try dsimp only at hSw
    go_simp
    all_goals try decide
    all_goals try assumption
  try simp only [Act.put, List.getElem_toArray, List.getElem_cons_succ, List.getElem_cons_zero, List.setIfInBounds_toArray, List.set_cons_zero, List.set_cons_succ]
  refine wpAnyH_take (i := 2) (v := (.agg #[.int .u16 128, .int .i64 0, .int .u8 0, .int .u8 0, .int .u8 0, .int .u8 0, .int .u8 0, .int .u8 0, .int .u8 0, .int .u8 0, .bool false])) rfl (by kernel_rfl) (by kernel_rfl) (by kernel_rfl) (fun _ _ _ h => h) (Or.inl ⟨by rfl, ?_⟩) (by assumption) ?_
  · intro w9 hSw
    try dsimp only at hSw
    go_simp
    all_goals try decide
    all_goals try assumption
  try simp only [Act.put, List.getElem_toArray, List.getElem_cons_succ, List.getElem_cons_zero, List.setIfInBounds_toArray, List.set_cons_zero, List.set_cons_succ]
  refine wpAnyH_take (i := 3) (v := (.agg #[.int .i64 0, .int .i64 2, .int .u16 128, .int .i64 0, .int .u8 0, .int .u8 0, .int .u8 0, .int .u8 0, .int .u8 0, .int .u8 0, .int .u8 0, .int .u8 0, .bool false, .int .i64 0])) rfl (by kernel_rfl) (by kernel_rfl) (by kernel_rfl) (fun _ _ _ h => h) (Or.inl ⟨by rfl, ?_⟩) (by assumption) ?_
  · intro w9 hSw
    try dsimp only at hSw
    go_simp
    all_goals try decide
    all_goals try assumption
  try simp only [Act.put, List.getElem_toArray, List.getElem_cons_succ, List.getElem_cons_zero, List.setIfInBounds_toArray, List.set_cons_zero, List.set_cons_succ]
  refine wpAnyH_take (i := 6) (v := (.agg #[.int .i64 5, .int .i64 0, .int .u16 0, .int .i64 0, .int .u8 0, .int .u8 0, .int .u8 0, .int .u8 0, .int .u8 0, .int .u8 0, .int .u8 0, .int .u8 0, .bool false, .int .i64 0])) rfl (by kernel_rfl) (by kernel_rfl) (by kernel_rfl) (fun _ _ _ h => h) (Or.inl ⟨by rfl, ?_⟩) (by assumption) ?_
  · intro w9 hSw
    try dsimp only at hSw
    go_simp
    all_goals try decide
    all_goals try assumption
  try simp only [Act.put, List.getElem_toArray, List.getElem_cons_succ, List.getElem_cons_zero, List.setIfInBounds_toArray, List.set_cons_zero, List.set_cons_succ]
  refine wpAnyH_take (i := 7) (v := (.agg #[.int .i64 2, .int .i64 0, .int .u16 0, .int .i64 0, .int .u8 0, .int .u8 0, .int .u8 0, .int .u8 0, .int .u8 0, .int .u8 0, .int .u8 0, .int .u8 0, .bool false, .int .i64 0])) rfl (by kernel_rfl) (by kernel_rfl) (by kernel_rfl) (fun _ _ _ h => h) (Or.inl ⟨by rfl, ?_⟩) (by assumption) ?_
  · intro w9 hSw
    try dsimp only at hSw
    go_simp
    all_goals try decide
    all_goals try assumption
  try simp only [Act.put, List.getElem_toArray, List.getElem_cons_succ, List.getElem_cons_zero, List.setIfInBounds_toArray, List.set_cons_zero, List.set_cons_succ]
  refine wpAnyH_take (i := 8) (v := (.agg #[.int .i64 2, .int .i64 0, .int .u16 0, .int .i64 0, .int .u8 0, .int .u8 0, .int .u8 0, .int .u8 0, .int .u8 0, .int .u8 0, .int .u8 0, .int .u8 0, .bool false, .int .i64 0])) rfl (by kernel_rfl) (by kernel_rfl) (by kernel_rfl) (fun _ _ _ h => h) (Or.inl ⟨by rfl, ?_⟩) (by assumption) ?_
  · intro w9 hSw
    try dsimp only at hSw
    go_simp
    all_goals try decide
    all_goals try assumption
  try simp only [Act.put, List.getElem_toArray, List.getElem_cons_succ, List.getElem_cons_zero, List.setIfInBounds_toArray, List.set_cons_zero, List.set_cons_succ]
  refine wpAnyH_take (i := 9) (v := (.agg #[.int .i64 2, .int .i64 0, .int .u16 0, .int .i64 0, .int .u8 0, .int .u8 0, .int .u8 0, .int .u8 0, .int .u8 0, .int .u8 0, .int .u8 0, .int .u8 0, .bool false, .int .i64 0])) rfl (by kernel_rfl) (by kernel_rfl) (by kernel_rfl) (fun _ _ _ h => h) (Or.inl ⟨by rfl, ?_⟩) (by assumption) ?_
  · intro w9 hSw
    try dsimp only at hSw
    go_simp
    all_goals try decide
    all_goals try assumption
  try simp only [Act.put, List.getElem_toArray, List.getElem_cons_succ, List.getElem_cons_zero, List.setIfInBounds_toArray, List.set_cons_zero, List.set_cons_succ]
  refine wpAnyH_take (i := 10) (v := (.agg #[.int .i64 2, .int .i64 0, .int .u16 0, .int .i64 0, .int .u8 0, .int .u8 0, .int .u8 0, .int .u8 0, .int .u8 0, .int .u8 0, .int .u8 0, .int .u8 0, .bool false, .int .i64 0])) rfl (by kernel_rfl) (by kernel_rfl) (by kernel_rfl) (fun _ _ _ h => h) (Or.inl ⟨by rfl, ?_⟩) (by assumption) ?_
  · intro w9 hSw
    try dsimp only at hSw
    go_simp
    all_goals try decide
    all_goals try assumption
  try simp only [Act.put, List.getElem_toArray, List.getElem_cons_succ, List.getElem_cons_zero, List.setIfInBounds_toArray, List.set_cons_zero, List.set_cons_succ]
  refine wpAnyH_take (i := 11) (v := (.agg #[.int .u16 385, .int .i64 0, .int .u8 0, .int .u8 0, .int .u8 0, .int .u8 0, .int .u8 0, .int .u8 0, .int .u8 0, .int .u8 0, .bool true])) rfl (by kernel_rfl) (by kernel_rfl) (by kernel_rfl) (fun _ _ _ h => h) (Or.inl ⟨by rfl, ?_⟩) (by assumption) ?_
  · intro w9 hSw
    try dsimp only at hSw
    go_simp
    all_goals try decide
    all_goals try assumption
  try simp only [Act.put, List.getElem_toArray, List.getElem_cons_succ, List.getElem_cons_zero, List.setIfInBounds_toArray, List.set_cons_zero, List.set_cons_succ]
  refine wpAnyH_take (i := 12) (v := (.agg #[.int .i64 0, .int .i64 1, .int .u16 385, .int .i64 0, .int .u8 0, .int .u8 0, .int .u8 0, .int .u8 0, .int .u8 0, .int .u8 0, .int .u8 0, .int .u8 0, .bool true, .int .i64 0])) rfl (by kernel_rfl) (by kernel_rfl) (by kernel_rfl) (fun _ _ _ h => h) (Or.inl ⟨by rfl, ?_⟩) (by assumption) ?_
  · intro w9 hSw
    try dsimp only at hSw
    go_simp
    all_goals try decide
    all_goals try assumption
  try simp only [Act.put, List.getElem_toArray, List.getElem_cons_succ, List.getElem_cons_zero, List.setIfInBounds_toArray, List.set_cons_zero, List.set_cons_succ]
  refine wpAnyH_take (i := 13) (v := (.agg #[.int .u16 385, .int .i64 1, .int .u8 1, .int .u8 0, .int .u8 0, .int .u8 0, .int .u8 0, .int .u8 0, .int .u8 0, .int .u8 0, .bool false])) rfl (by kernel_rfl) (by kernel_rfl) (by kernel_rfl) (fun _ _ _ h => h) (Or.inl ⟨by rfl, ?_⟩) (by assumption) ?_
  · intro w9 hSw
    try dsimp only at hSw
    go_simp
    all_goals try decide
    all_goals try assumption
  try simp only [Act.put, List.getElem_toArray, List.getElem_cons_succ, List.getElem_cons_zero, List.setIfInBounds_toArray, List.set_cons_zero, List.set_cons_succ]
  refine wpAnyH_take (i := 14) (v := (.agg #[.int .i64 0, .int .i64 3, .int .u16 385, .int .i64 1, .int .u8 1, .int .u8 0, .int .u8 0, .int .u8 0, .int .u8 0, .int .u8 0, .int .u8 0, .int .u8 0, .bool false, .int .i64 0])) rfl (by kernel_rfl) (by kernel_rfl) (by kernel_rfl) (fun _ _ _ h => h) (Or.inl ⟨by rfl, ?_⟩) (by assumption) ?_
  · intro w9 hSw
    try dsimp only at hSw
    go_simp
    all_goals try decide
    all_goals try assumption
  try simp only [Act.put, List.getElem_toArray, List.getElem_cons_succ, List.getElem_cons_zero, List.setIfInBounds_toArray, List.set_cons_zero, List.set_cons_succ]
  refine wpAnyH_take (i := 15) (v := (.agg #[.int .i64 2, .int .i64 0, .int .u16 0, .int .i64 0, .int .u8 0, .int .u8 0, .int .u8 0, .int .u8 0, .int .u8 0, .int .u8 0, .int .u8 0, .int .u8 0, .bool false, .int .i64 0])) rfl (by kernel_rfl) (by kernel_rfl) (by kernel_rfl) (fun _ _ _ h => h) (Or.inl ⟨by rfl, ?_⟩) (by assumption) ?_
  · intro w9 hSw
    try dsimp only at hSw
    go_simp
    all_goals try decide
    all_goals try assumption
  try simp only [Act.put, List.getElem_toArray, List.getElem_cons_succ, List.getElem_cons_zero, List.setIfInBounds_toArray, List.set_cons_zero, List.set_cons_succ]
  refine wpAnyH_take (i := 16) (v := (.agg #[.int .i64 4, .int .i64 1, .int .u16 0, .int .i64 0, .int .u8 0, .int .u8 0, .int .u8 0, .int .u8 0, .int .u8 0, .int .u8 0, .int .u8 0, .int .u8 0, .bool false, .int .i64 0])) rfl (by kernel_rfl) (by kernel_rfl) (by kernel_rfl) (fun _ _ _ h => h) (Or.inl ⟨by rfl, ?_⟩) (by assumption) ?_
  · intro w9 hSw
    try dsimp only at hSw
    go_simp
    all_goals try decide
    all_goals try assumption
  try simp only [Act.put, List.getElem_toArray, List.getElem_cons_succ, List.getElem_cons_zero, List.setIfInBounds_toArray, List.set_cons_zero, List.set_cons_succ]
  refine wpAnyH_take (i := 17) (v := (.agg #[.int .i64 4, .int .i64 1, .int .u16 0, .int .i64 0, .int .u8 0, .int .u8 0, .int .u8 0, .int .u8 0, .int .u8 0, .int .u8 0, .int .u8 0, .int .u8 0, .bool false, .int .i64 0])) rfl (by kernel_rfl) (by kernel_rfl) (by kernel_rfl) (fun _ _ _ h => h) (Or.inl ⟨by rfl, ?_⟩) (by assumption) ?_
  · intro w9 hSw
    try dsimp only at hSw
    go_simp
    all_goals try decide
    all_goals try assumption
  try simp only [Act.put, List.getElem_toArray, List.getElem_cons_succ, List.getElem_cons_zero, List.setIfInBounds_toArray, List.set_cons_zero, List.set_cons_succ]
  refine wpAnyH_take (i := 18) (v := (.agg #[.int .u16 385, .int .i64 1, .int .u8 1, .int .u8 0, .int .u8 0, .int .u8 0, .int .u8 0, .int .u8 0, .int .u8 0, .int .u8 0, .bool false])) rfl (by kernel_rfl) (by kernel_rfl) (by kernel_rfl) (fun _ _ _ h => h) (Or.inl ⟨by rfl, ?_⟩) (by assumption) ?_
  · intro w9 hSw
    try dsimp only at hSw
    go_simp
    all_goals try decide
    all_goals try assumption
  try simp only [Act.put, List.getElem_toArray, List.getElem_cons_succ, List.getElem_cons_zero, List.setIfInBounds_toArray, List.set_cons_zero, List.set_cons_succ]
  refine wpAnyH_take (i := 19) (v := (.agg #[.int .i64 0, .int .i64 (-1), .int .u16 385, .int .i64 1, .int .u8 1, .int .u8 0, .int .u8 0, .int .u8 0, .int .u8 0, .int .u8 0, .int .u8 0, .int .u8 0, .bool false, .int .i64 0])) rfl (by kernel_rfl) (by kernel_rfl) (by kernel_rfl) (fun _ _ _ h => h) (Or.inl ⟨by rfl, ?_⟩) (by assumption) ?_
  · intro w9 hSw
    try dsimp only at hSw
    go_simp
    all_goals try decide
    all_goals try assumption
  try simp only [Act.put, List.getElem_toArray, List.getElem_cons_succ, List.getElem_cons_zero, List.setIfInBounds_toArray, List.set_cons_zero, List.set_cons_succ]
  refine wpAnyH_take (i := 20) (v := (.agg #[.int .u16 2048, .int .i64 0, .int .u8 0, .int .u8 0, .int .u8 0, .int .u8 0, .int .u8 0, .int .u8 0, .int .u8 0, .int .u8 0, .bool false])) rfl (by kernel_rfl) (by kernel_rfl) (by kernel_rfl) (fun _ _ _ h => h) (Or.inl ⟨by rfl, ?_⟩) (by assumption) ?_
  · intro w9 hSw
    try dsimp only at hSw
    go_simp
    all_goals try decide
    all_goals try assumption
  try simp only [Act.put, List.getElem_toArray, List.getElem_cons_succ, List.getElem_cons_zero, List.setIfInBounds_toArray, List.set_cons_zero, List.set_cons_succ]
  refine wpAnyH_take (i := 21) (v := (.agg #[.int .i64 0, .int .i64 1, .int .u16 2048, .int .i64 0, .int .u8 0, .int .u8 0, .int .u8 0, .int .u8 0, .int .u8 0, .int .u8 0, .int .u8 0, .int .u8 0, .bool false, .int .i64 0])) rfl (by kernel_rfl) (by kernel_rfl) (by kernel_rfl) (fun _ _ _ h => h) (Or.inl ⟨by rfl, ?_⟩) (by assumption) ?_
  · intro w9 hSw
    try dsimp only at hSw
    go_simp
    all_goals try decide
    all_goals try assumption
  try simp only [Act.put, List.getElem_toArray, List.getElem_cons_succ, List.getElem_cons_zero, List.setIfInBounds_toArray, List.set_cons_zero, List.set_cons_succ]
  refine wpAnyH_take (i := 22) (v := (.agg #[.int .u16 2048, .int .i64 0, .int .u8 0, .int .u8 0, .int .u8 0, .int .u8 0, .int .u8 0, .int .u8 0, .int .u8 0, .int .u8 0, .bool false])) rfl (by kernel_rfl) (by kernel_rfl) (by kernel_rfl) (fun _ _ _ h => h) (Or.inl ⟨by rfl, ?_⟩) (by assumption) ?_
  · intro w9 hSw
    try dsimp only at hSw
    go_simp
    all_goals try decide
    all_goals try assumption
  try simp only [Act.put, List.getElem_toArray, List.getElem_cons_succ, List.getElem_cons_zero, List.setIfInBounds_toArray, List.set_cons_zero, List.set_cons_succ]
  refine wpAnyH_take (i := 23) (v := (.agg #[.int .i64 0, .int .i64 (-1), .int .u16 2048, .int .i64 0, .int .u8 0, .int .u8 0, .int .u8 0, .int .u8 0, .int .u8 0, .int .u8 0, .int .u8 0, .int .u8 0, .bool false, .int .i64 0])) rfl (by kernel_rfl) (by kernel_rfl) (by kernel_rfl) (fun _ _ _ h => h) (Or.inl ⟨by rfl, ?_⟩) (by assumption) ?_
  · intro w9 hSw
    try dsimp only at hSw
    go_simp
    all_goals try decide
    all_goals try assumption
  try simp only [Act.put, List.getElem_toArray, List.getElem_cons_succ, List.getElem_cons_zero, List.setIfInBounds_toArray, List.set_cons_zero, List.set_cons_succ]
  refine wpAnyH_take (i := 24) (v := (.agg #[.int .u16 385, .int .i64 1, .int .u8 1, .int .u8 0, .int .u8 0, .int .u8 0, .int .u8 0, .int .u8 0, .int .u8 0, .int .u8 0, .bool false])) rfl (by kernel_rfl) (by kernel_rfl) (by kernel_rfl) (fun _ _ _ h => h) (Or.inl ⟨by rfl, ?_⟩) (by assumption) ?_
  · intro w9 hSw
    try dsimp only at hSw
    go_simp
    all_goals try decide
    all_goals try assumption
  try simp only [Act.put, List.getElem_toArray, List.getElem_cons_succ, List.getElem_cons_zero, List.setIfInBounds_toArray, List.set_cons_zero, List.set_cons_succ]
  refine wpAnyH_take (i := 25) (v := (.agg #[.int .i64 0, .int .i64 9223372036854775807, .int .u16 385, .int .i64 1, .int .u8 1, .int .u8 0, .int .u8 0, .int .u8 0, .int .u8 0, .int .u8 0, .int .u8 0, .int .u8 0, .bool false, .int .i64 510])) rfl (by kernel_rfl) (by kernel_rfl) (by kernel_rfl) (fun _ _ _ h => h) (Or.inl ⟨by rfl, ?_⟩) (by assumption) ?_
  · intro w9 hSw
    try dsimp only at hSw
    go_simp
    all_goals try decide
    all_goals try assumption
  try simp only [Act.put, List.getElem_toArray, List.getElem_cons_succ, List.getElem_cons_zero, List.setIfInBounds_toArray, List.set_cons_zero, List.set_cons_succ]
  refine wpAnyH_take (i := 26) (v := (.agg #[.int .u16 385, .int .i64 1, .int .u8 1, .int .u8 0, .int .u8 0, .int .u8 0, .int .u8 0, .int .u8 0, .int .u8 0, .int .u8 0, .bool false])) rfl (by kernel_rfl) (by kernel_rfl) (by kernel_rfl) (fun _ _ _ h => h) (Or.inl ⟨by rfl, ?_⟩) (by assumption) ?_
  · intro w9 hSw
    try dsimp only at hSw
    go_simp
    all_goals try decide
    all_goals try assumption
  try simp only [Act.put, List.getElem_toArray, List.getElem_cons_succ, List.getElem_cons_zero, List.setIfInBounds_toArray, List.set_cons_zero, List.set_cons_succ]
  refine wpAnyH_take (i := 27) (v := (.agg #[.int .i64 0, .int .i64 1, .int .u16 385, .int .i64 1, .int .u8 1, .int .u8 0, .int .u8 0, .int .u8 0, .int .u8 0, .int .u8 0, .int .u8 0, .int .u8 0, .bool false, .int .i64 0])) rfl (by kernel_rfl) (by kernel_rfl) (by kernel_rfl) (fun _ _ _ h => h) (Or.inl ⟨by rfl, ?_⟩) (by assumption) ?_
  · intro w9 hSw
    try dsimp only at hSw
    go_simp
    all_goals try decide
    all_goals try assumption
  try simp only [Act.put, List.getElem_toArray, List.getElem_cons_succ, List.getElem_cons_zero, List.setIfInBounds_toArray, List.set_cons_zero, List.set_cons_succ]
  refine wpAnyH_take (i := 28) (v := (.agg #[.int .u16 385, .int .i64 1, .int .u8 1, .int .u8 0, .int .u8 0, .int .u8 0, .int .u8 0, .int .u8 0, .int .u8 0, .int .u8 0, .bool false])) rfl (by kernel_rfl) (by kernel_rfl) (by kernel_rfl) (fun _ _ _ h => h) (Or.inl ⟨by rfl, ?_⟩) (by assumption) ?_
  · intro w9 hSw
    try dsimp only at hSw
    go_simp
    all_goals try decide
    all_goals try assumption
  try simp only [Act.put, List.getElem_toArray, List.getElem_cons_succ, List.getElem_cons_zero, List.setIfInBounds_toArray, List.set_cons_zero, List.set_cons_succ]
  refine wpAnyH_take (i := 29) (v := (.agg #[.int .i64 0, .int .i64 1, .int .u16 385, .int .i64 1, .int .u8 1, .int .u8 0, .int .u8 0, .int .u8 0, .int .u8 0, .int .u8 0, .int .u8 0, .int .u8 0, .bool false, .int .i64 0])) rfl (by kernel_rfl) (by kernel_rfl) (by kernel_rfl) (fun _ _ _ h => h) (Or.inl ⟨by rfl, ?_⟩) (by assumption) ?_
  · intro w9 hSw
    try dsimp only at hSw
    go_simp
    all_goals try decide
    all_goals try assumption
  try simp only [Act.put, List.getElem_toArray, List.getElem_cons_succ, List.getElem_cons_zero, List.setIfInBounds_toArray, List.set_cons_zero, List.set_cons_succ]
  refine wpAnyH_take (i := 30) (v := (.agg #[.int .u16 0, .int .i64 9, .int .u8 0, .int .u8 0, .int .u8 0, .int .u8 0, .int .u8 0, .int .u8 0, .int .u8 0, .int .u8 0, .bool false])) rfl (by kernel_rfl) (by kernel_rfl) (by kernel_rfl) (fun _ _ _ h => h) (Or.inl ⟨by rfl, ?_⟩) (by assumption) ?_
  · intro w9 hSw
    try dsimp only at hSw
    go_simp
    all_goals try decide
    all_goals try assumption
  try simp only [Act.put, List.getElem_toArray, List.getElem_cons_succ, List.getElem_cons_zero, List.setIfInBounds_toArray, List.set_cons_zero, List.set_cons_succ]
  refine wpAnyH_take (i := 31) (v := (.agg #[.int .i64 0, .int .i64 1, .int .u16 0, .int .i64 9, .int .u8 0, .int .u8 0, .int .u8 0, .int .u8 0, .int .u8 0, .int .u8 0, .int .u8 0, .int .u8 0, .bool false, .int .i64 0])) rfl (by kernel_rfl) (by kernel_rfl) (by kernel_rfl) (fun _ _ _ h => h) (Or.inl ⟨by rfl, ?_⟩) (by assumption) ?_
  · intro w9 hSw
    try dsimp only at hSw
    go_simp
    all_goals try decide
    all_goals try assumption
  try simp only [Act.put, List.getElem_toArray, List.getElem_cons_succ, List.getElem_cons_zero, List.setIfInBounds_toArray, List.set_cons_zero, List.set_cons_succ]
  refine wpAnyH_take (i := 32) (v := (.agg #[.int .i64 2, .int .i64 0, .int .u16 0, .int .i64 0, .int .u8 0, .int .u8 0, .int .u8 0, .int .u8 0, .int .u8 0, .int .u8 0, .int .u8 0, .int .u8 0, .bool false, .int .i64 0])) rfl (by kernel_rfl) (by kernel_rfl) (by kernel_rfl) (fun _ _ _ h => h) (Or.inl ⟨by rfl, ?_⟩) (by assumption) ?_
  · intro w9 hSw
    try dsimp only at hSw
    go_simp
    all_goals try decide
    all_goals try assumption
  try simp only [Act.put, List.getElem_toArray, List.getElem_cons_succ, List.getElem_cons_zero, List.setIfInBounds_toArray, List.set_cons_zero, List.set_cons_succ]
  refine wpAnyH_take (i := 33) (v := (.agg #[.int .u16 385, .int .i64 1, .int .u8 1, .int .u8 0, .int .u8 0, .int .u8 0, .int .u8 0, .int .u8 0, .int .u8 0, .int .u8 0, .bool false])) rfl (by kernel_rfl) (by kernel_rfl) (by kernel_rfl) (fun _ _ _ h => h) (Or.inl ⟨by rfl, ?_⟩) (by assumption) ?_
  · intro w9 hSw
    try dsimp only at hSw
    go_simp
    all_goals try decide
    all_goals try assumption
  try simp only [Act.put, List.getElem_toArray, List.getElem_cons_succ, List.getElem_cons_zero, List.setIfInBounds_toArray, List.set_cons_zero, List.set_cons_succ]
  refine wpAnyH_take (i := 34) (v := (.agg #[.int .i64 0, .int .i64 1, .int .u16 385, .int .i64 1, .int .u8 1, .int .u8 0, .int .u8 0, .int .u8 0, .int .u8 0, .int .u8 0, .int .u8 0, .int .u8 0, .bool false, .int .i64 0])) rfl (by kernel_rfl) (by kernel_rfl) (by kernel_rfl) (fun _ _ _ h => h) (Or.inl ⟨by rfl, ?_⟩) (by assumption) ?_
  · intro w9 hSw
    try dsimp only at hSw
    go_simp
    all_goals try decide
    all_goals try assumption
  try simp only [Act.put, List.getElem_toArray, List.getElem_cons_succ, List.getElem_cons_zero, List.setIfInBounds_toArray, List.set_cons_zero, List.set_cons_succ]
  refine wpAnyH_take (i := 35) (v := (.agg #[.int .u16 385, .int .i64 1, .int .u8 1, .int .u8 0, .int .u8 0, .int .u8 0, .int .u8 0, .int .u8 0, .int .u8 0, .int .u8 0, .bool false])) rfl (by kernel_rfl) (by kernel_rfl) (by kernel_rfl) (fun _ _ _ h => h) (Or.inl ⟨by rfl, ?_⟩) (by assumption) ?_
  · intro w9 hSw
    try dsimp only at hSw
    go_simp
    all_goals try decide
    all_goals try assumption
  try simp only [Act.put, List.getElem_toArray, List.getElem_cons_succ, List.getElem_cons_zero, List.setIfInBounds_toArray, List.set_cons_zero, List.set_cons_succ]
  refine wpAnyH_take (i := 36) (v := (.agg #[.int .i64 0, .int .i64 1, .int .u16 385, .int .i64 1, .int .u8 1, .int .u8 0, .int .u8 0, .int .u8 0, .int .u8 0, .int .u8 0, .int .u8 0, .int .u8 0, .bool false, .int .i64 0])) rfl (by kernel_rfl) (by kernel_rfl) (by kernel_rfl) (fun _ _ _ h => h) (Or.inl ⟨by rfl, ?_⟩) (by assumption) ?_
  · intro w9 hSw
    try dsimp only at hSw
    go_simp
    all_goals try decide
    all_goals try assumption
  try simp only [Act.put, List.getElem_toArray, List.getElem_cons_succ, List.getElem_cons_zero, List.setIfInBounds_toArray, List.set_cons_zero, List.set_cons_succ]
  refine wpAnyH_take (i := 37) (v := (.agg #[.int .i64 4, .int .i64 9223372036854775807, .int .u16 0, .int .i64 0, .int .u8 0, .int .u8 0, .int .u8 0, .int .u8 0, .int .u8 0, .int .u8 0, .int .u8 0, .int .u8 0, .bool false, .int .i64 0])) rfl (by kernel_rfl) (by kernel_rfl) (by kernel_rfl) (fun _ _ _ h => h) (Or.inl ⟨by rfl, ?_⟩) (by assumption) ?_
  · intro w9 hSw
    try dsimp only at hSw
    go_simp
    all_goals try decide
    all_goals try assumption
  try simp only [Act.put, List.getElem_toArray, List.getElem_cons_succ, List.getElem_cons_zero, List.setIfInBounds_toArray, List.set_cons_zero, List.set_cons_succ]
  refine wpAnyH_ready (rs := [4]) (by kernel_rfl) (by simp) ?_
  refine AllReadyH.cons rfl (fun K' hK => ?_) AllReadyH.nil
  rw [if_pos (by rfl)]
  simp only [List.getElem_toArray, List.getElem_cons_succ, List.getElem_cons_zero]
  go_wp2_with fail
  refine (byteFrame_any 385 2 _).mono ?_
  rintro e z2 ⟨rfl, b2⟩
  try go_wp2_with fail
  refine hK.out _ _ (KS.out _ b2) (fun hHeld => ?_)
  clear hK K'
  try simp only [Act.put, List.getElem_toArray, List.getElem_cons_succ, List.getElem_cons_zero, List.setIfInBounds_toArray, List.set_cons_zero, List.set_cons_succ]
  refine wpAnyH_take (i := 5) (v := (.agg #[.int .i64 0, .int .i64 1, .int .u16 385, .int .i64 1, .int .u8 2, .int .u8 0, .int .u8 0, .int .u8 0, .int .u8 0, .int .u8 0, .int .u8 0, .int .u8 0, .bool false, .int .i64 0])) rfl (by kernel_rfl) (by kernel_rfl) (by kernel_rfl) (fun _ _ _ h => h) (Or.inl ⟨by rfl, ?_⟩) (by assumption) ?_
  · intro w9 hSw
    try dsimp only at hSw
    go_simp
    all_goals try decide
    all_goals try assumption
  try simp only [Act.put, List.getElem_toArray, List.getElem_cons_succ, List.getElem_cons_zero, List.setIfInBounds_toArray, List.set_cons_zero, List.set_cons_succ]
  refine wpAnyH_ready (rs := [38]) (by kernel_rfl) (by simp) ?_
  refine AllReadyH.cons rfl (fun K' hK => ?_) AllReadyH.nil
  rw [if_pos (by rfl)]
  simp only [List.getElem_toArray, List.getElem_cons_succ, List.getElem_cons_zero]
  refine wp_buildSlice 22 29 24 _ rfl #[.int .i64 0, .int .i64 1, .int .u16 385, .int .i64 1, .int .u8 1, .int .u8 0, .int .u8 0, .int .u8 0, .int .u8 0, .int .u8 0, .int .u8 0, .int .u8 0, .bool false, .int .i64 0, .int .i64 0, .int .i64 2, .int .u16 128, .int .i64 0, .int .u8 0, .int .u8 0, .int .u8 0, .int .u8 0, .int .u8 0, .int .u8 0, .int .u8 0, .int .u8 0, .bool false, .int .i64 0, .int .i64 0, .int .i64 1, .int .u16 385, .int .i64 1, .int .u8 2, .int .u8 0, .int .u8 0, .int .u8 0, .int .u8 0, .int .u8 0, .int .u8 0, .int .u8 0, .bool false, .int .i64 0, .int .i64 5, .int .i64 0, .int .u16 0, .int .i64 0, .int .u8 0, .int .u8 0, .int .u8 0, .int .u8 0, .int .u8 0, .int .u8 0, .int .u8 0, .int .u8 0, .bool false, .int .i64 0, .int .i64 2, .int .i64 0, .int .u16 0, .int .i64 0, .int .u8 0, .int .u8 0, .int .u8 0, .int .u8 0, .int .u8 0, .int .u8 0, .int .u8 0, .int .u8 0, .bool false, .int .i64 0, .int .i64 2, .int .i64 0, .int .u16 0, .int .i64 0, .int .u8 0, .int .u8 0, .int .u8 0, .int .u8 0, .int .u8 0, .int .u8 0, .int .u8 0, .int .u8 0, .bool false, .int .i64 0, .int .i64 2, .int .i64 0, .int .u16 0, .int .i64 0, .int .u8 0, .int .u8 0, .int .u8 0, .int .u8 0, .int .u8 0, .int .u8 0, .int .u8 0, .int .u8 0, .bool false, .int .i64 0, .int .i64 2, .int .i64 0, .int .u16 0, .int .i64 0, .int .u8 0, .int .u8 0, .int .u8 0, .int .u8 0, .int .u8 0, .int .u8 0, .int .u8 0, .int .u8 0, .bool false, .int .i64 0, .int .i64 0, .int .i64 1, .int .u16 385, .int .i64 0, .int .u8 0, .int .u8 0, .int .u8 0, .int .u8 0, .int .u8 0, .int .u8 0, .int .u8 0, .int .u8 0, .bool true, .int .i64 0, .int .i64 0, .int .i64 3, .int .u16 385, .int .i64 1, .int .u8 1, .int .u8 0, .int .u8 0, .int .u8 0, .int .u8 0, .int .u8 0, .int .u8 0, .int .u8 0, .bool false, .int .i64 0, .int .i64 2, .int .i64 0, .int .u16 0, .int .i64 0, .int .u8 0, .int .u8 0, .int .u8 0, .int .u8 0, .int .u8 0, .int .u8 0, .int .u8 0, .int .u8 0, .bool false, .int .i64 0, .int .i64 4, .int .i64 1, .int .u16 0, .int .i64 0, .int .u8 0, .int .u8 0, .int .u8 0, .int .u8 0, .int .u8 0, .int .u8 0, .int .u8 0, .int .u8 0, .bool false, .int .i64 0, .int .i64 4, .int .i64 1, .int .u16 0, .int .i64 0, .int .u8 0, .int .u8 0, .int .u8 0, .int .u8 0, .int .u8 0, .int .u8 0, .int .u8 0, .int .u8 0, .bool false, .int .i64 0, .int .i64 0, .int .i64 (-1), .int .u16 385, .int .i64 1, .int .u8 1, .int .u8 0, .int .u8 0, .int .u8 0, .int .u8 0, .int .u8 0, .int .u8 0, .int .u8 0, .bool false, .int .i64 0, .int .i64 0, .int .i64 1, .int .u16 2048, .int .i64 0, .int .u8 0, .int .u8 0, .int .u8 0, .int .u8 0, .int .u8 0, .int .u8 0, .int .u8 0, .int .u8 0, .bool false, .int .i64 0, .int .i64 0, .int .i64 (-1), .int .u16 2048, .int .i64 0, .int .u8 0, .int .u8 0, .int .u8 0, .int .u8 0, .int .u8 0, .int .u8 0, .int .u8 0, .int .u8 0, .bool false, .int .i64 0, .int .i64 0, .int .i64 9223372036854775807, .int .u16 385, .int .i64 1, .int .u8 1, .int .u8 0, .int .u8 0, .int .u8 0, .int .u8 0, .int .u8 0, .int .u8 0, .int .u8 0, .bool false, .int .i64 510, .int .i64 0, .int .i64 1, .int .u16 385, .int .i64 1, .int .u8 1, .int .u8 0, .int .u8 0, .int .u8 0, .int .u8 0, .int .u8 0, .int .u8 0, .int .u8 0, .bool false, .int .i64 0, .int .i64 0, .int .i64 1, .int .u16 385, .int .i64 1, .int .u8 1, .int .u8 0, .int .u8 0, .int .u8 0, .int .u8 0, .int .u8 0, .int .u8 0, .int .u8 0, .bool false, .int .i64 0, .int .i64 0, .int .i64 1, .int .u16 0, .int .i64 9, .int .u8 0, .int .u8 0, .int .u8 0, .int .u8 0, .int .u8 0, .int .u8 0, .int .u8 0, .int .u8 0, .bool false, .int .i64 0, .int .i64 2, .int .i64 0, .int .u16 0, .int .i64 0, .int .u8 0, .int .u8 0, .int .u8 0, .int .u8 0, .int .u8 0, .int .u8 0, .int .u8 0, .int .u8 0, .bool false, .int .i64 0, .int .i64 0, .int .i64 1, .int .u16 385, .int .i64 1, .int .u8 1, .int .u8 0, .int .u8 0, .int .u8 0, .int .u8 0, .int .u8 0, .int .u8 0, .int .u8 0, .bool false, .int .i64 0, .int .i64 0, .int .i64 1, .int .u16 385, .int .i64 1, .int .u8 1, .int .u8 0, .int .u8 0, .int .u8 0, .int .u8 0, .int .u8 0, .int .u8 0, .int .u8 0, .bool false, .int .i64 0, .int .i64 4, .int .i64 9223372036854775807, .int .u16 0, .int .i64 0, .int .u8 0, .int .u8 0, .int .u8 0, .int .u8 0, .int .u8 0, .int .u8 0, .int .u8 0, .int .u8 0, .bool false, .int .i64 0] ieP _ Try.underlying22 hiP hzP0 (by rw [hzP1]; decide) (by rw [hzP1]; decide) (by rw [hzP1]; kernel_rfl) ?_
  refine hK.out _ _ (KS.out _ (Below.andThen b2 (Below.al (Below.refl _ _) _))) (fun hHeld => ?_)
  clear hK K'
  try simp only [Act.put, List.getElem_toArray, List.getElem_cons_succ, List.getElem_cons_zero, List.setIfInBounds_toArray, List.set_cons_zero, List.set_cons_succ]
  refine wpAnyH_take (i := 39) (v := (.slice (some ⟨z2.heap.size, 0, none⟩) 24 24)) rfl (by kernel_rfl) (by kernel_rfl) (by kernel_rfl) (fun _ _ _ h => h) (Or.inl ⟨by rfl, ?_⟩) (by assumption) ?_
  · intro w9 hSw
    try dsimp only at hSw
    go_simp
    all_goals try decide
    all_goals try assumption
  try simp only [Act.put, List.getElem_toArray, List.getElem_cons_succ, List.getElem_cons_zero, List.setIfInBounds_toArray, List.set_cons_zero, List.set_cons_succ]
  refine wpAnyH_done (by kernel_rfl) ?_ _
  obtain ⟨z3, hz3⟩ : ∃ z3, Hid (z3 = z2.alloc (.cells #[.int .i64 0, .int .i64 1, .int .u16 385, .int .i64 1, .int .u8 1, .int .u8 0, .int .u8 0, .int .u8 0, .int .u8 0, .int .u8 0, .int .u8 0, .int .u8 0, .bool false, .int .i64 0, .int .i64 0, .int .i64 2, .int .u16 128, .int .i64 0, .int .u8 0, .int .u8 0, .int .u8 0, .int .u8 0, .int .u8 0, .int .u8 0, .int .u8 0, .int .u8 0, .bool false, .int .i64 0, .int .i64 0, .int .i64 1, .int .u16 385, .int .i64 1, .int .u8 2, .int .u8 0, .int .u8 0, .int .u8 0, .int .u8 0, .int .u8 0, .int .u8 0, .int .u8 0, .bool false, .int .i64 0, .int .i64 5, .int .i64 0, .int .u16 0, .int .i64 0, .int .u8 0, .int .u8 0, .int .u8 0, .int .u8 0, .int .u8 0, .int .u8 0, .int .u8 0, .int .u8 0, .bool false, .int .i64 0, .int .i64 2, .int .i64 0, .int .u16 0, .int .i64 0, .int .u8 0, .int .u8 0, .int .u8 0, .int .u8 0, .int .u8 0, .int .u8 0, .int .u8 0, .int .u8 0, .bool false, .int .i64 0, .int .i64 2, .int .i64 0, .int .u16 0, .int .i64 0, .int .u8 0, .int .u8 0, .int .u8 0, .int .u8 0, .int .u8 0, .int .u8 0, .int .u8 0, .int .u8 0, .bool false, .int .i64 0, .int .i64 2, .int .i64 0, .int .u16 0, .int .i64 0, .int .u8 0, .int .u8 0, .int .u8 0, .int .u8 0, .int .u8 0, .int .u8 0, .int .u8 0, .int .u8 0, .bool false, .int .i64 0, .int .i64 2, .int .i64 0, .int .u16 0, .int .i64 0, .int .u8 0, .int .u8 0, .int .u8 0, .int .u8 0, .int .u8 0, .int .u8 0, .int .u8 0, .int .u8 0, .bool false, .int .i64 0, .int .i64 0, .int .i64 1, .int .u16 385, .int .i64 0, .int .u8 0, .int .u8 0, .int .u8 0, .int .u8 0, .int .u8 0, .int .u8 0, .int .u8 0, .int .u8 0, .bool true, .int .i64 0, .int .i64 0, .int .i64 3, .int .u16 385, .int .i64 1, .int .u8 1, .int .u8 0, .int .u8 0, .int .u8 0, .int .u8 0, .int .u8 0, .int .u8 0, .int .u8 0, .bool false, .int .i64 0, .int .i64 2, .int .i64 0, .int .u16 0, .int .i64 0, .int .u8 0, .int .u8 0, .int .u8 0, .int .u8 0, .int .u8 0, .int .u8 0, .int .u8 0, .int .u8 0, .bool false, .int .i64 0, .int .i64 4, .int .i64 1, .int .u16 0, .int .i64 0, .int .u8 0, .int .u8 0, .int .u8 0, .int .u8 0, .int .u8 0, .int .u8 0, .int .u8 0, .int .u8 0, .bool false, .int .i64 0, .int .i64 4, .int .i64 1, .int .u16 0, .int .i64 0, .int .u8 0, .int .u8 0, .int .u8 0, .int .u8 0, .int .u8 0, .int .u8 0, .int .u8 0, .int .u8 0, .bool false, .int .i64 0, .int .i64 0, .int .i64 (-1), .int .u16 385, .int .i64 1, .int .u8 1, .int .u8 0, .int .u8 0, .int .u8 0, .int .u8 0, .int .u8 0, .int .u8 0, .int .u8 0, .bool false, .int .i64 0, .int .i64 0, .int .i64 1, .int .u16 2048, .int .i64 0, .int .u8 0, .int .u8 0, .int .u8 0, .int .u8 0, .int .u8 0, .int .u8 0, .int .u8 0, .int .u8 0, .bool false, .int .i64 0, .int .i64 0, .int .i64 (-1), .int .u16 2048, .int .i64 0, .int .u8 0, .int .u8 0, .int .u8 0, .int .u8 0, .int .u8 0, .int .u8 0, .int .u8 0, .int .u8 0, .bool false, .int .i64 0, .int .i64 0, .int .i64 9223372036854775807, .int .u16 385, .int .i64 1, .int .u8 1, .int .u8 0, .int .u8 0, .int .u8 0, .int .u8 0, .int .u8 0, .int .u8 0, .int .u8 0, .bool false, .int .i64 510, .int .i64 0, .int .i64 1, .int .u16 385, .int .i64 1, .int .u8 1, .int .u8 0, .int .u8 0, .int .u8 0, .int .u8 0, .int .u8 0, .int .u8 0, .int .u8 0, .bool false, .int .i64 0, .int .i64 0, .int .i64 1, .int .u16 385, .int .i64 1, .int .u8 1, .int .u8 0, .int .u8 0, .int .u8 0, .int .u8 0, .int .u8 0, .int .u8 0, .int .u8 0, .bool false, .int .i64 0, .int .i64 0, .int .i64 1, .int .u16 0, .int .i64 9, .int .u8 0, .int .u8 0, .int .u8 0, .int .u8 0, .int .u8 0, .int .u8 0, .int .u8 0, .int .u8 0, .bool false, .int .i64 0, .int .i64 2, .int .i64 0, .int .u16 0, .int .i64 0, .int .u8 0, .int .u8 0, .int .u8 0, .int .u8 0, .int .u8 0, .int .u8 0, .int .u8 0, .int .u8 0, .bool false, .int .i64 0, .int .i64 0, .int .i64 1, .int .u16 385, .int .i64 1, .int .u8 1, .int .u8 0, .int .u8 0, .int .u8 0, .int .u8 0, .int .u8 0, .int .u8 0, .int .u8 0, .bool false, .int .i64 0, .int .i64 0, .int .i64 1, .int .u16 385, .int .i64 1, .int .u8 1, .int .u8 0, .int .u8 0, .int .u8 0, .int .u8 0, .int .u8 0, .int .u8 0, .int .u8 0, .bool false, .int .i64 0, .int .i64 4, .int .i64 9223372036854775807, .int .u16 0, .int .i64 0, .int .u8 0, .int .u8 0, .int .u8 0, .int .u8 0, .int .u8 0, .int .u8 0, .int .u8 0, .int .u8 0, .bool false, .int .i64 0] 29)) := ⟨_, rfl⟩
  rw [← hz3.out]
  obtain ⟨sb, hsb⟩ : ∃ sb, Hid (sb = z2.heap.size) := ⟨_, rfl⟩
  rw [← hsb.out]
  have b3 : Below (z.alloc (.cells #[.int .u16 385, .int .i64 1, .int .u8 1, .int .u8 0, .int .u8 0, .int .u8 0, .int .u8 0, .int .u8 0, .int .u8 0, .int .u8 0, .bool false] 27)).drew.heap.size (z.alloc (.cells #[.int .u16 385, .int .i64 1, .int .u8 1, .int .u8 0, .int .u8 0, .int .u8 0, .int .u8 0, .int .u8 0, .int .u8 0, .int .u8 0, .bool false] 27)).drew z3.drew := by rw [hz3.out]; exact Below.drew (Below.andThen b2 (Below.al (Below.refl _ _) _))
  have IS3 : IsSt z3.drew (some ⟨sb, 0, none⟩) 24 ([⟨0, ⟨1, 385, 1, 1, 0, 0, 0, 0, 0, 0, 0, false, 0⟩, 0⟩, ⟨0, ⟨2, 128, 0, 0, 0, 0, 0, 0, 0, 0, 0, false, 0⟩, 0⟩, ⟨0, ⟨1, 385, 1, 2, 0, 0, 0, 0, 0, 0, 0, false, 0⟩, 0⟩, ⟨5, ⟨0, 0, 0, 0, 0, 0, 0, 0, 0, 0, 0, false, 0⟩, 0⟩, ⟨2, ⟨0, 0, 0, 0, 0, 0, 0, 0, 0, 0, 0, false, 0⟩, 0⟩, ⟨2, ⟨0, 0, 0, 0, 0, 0, 0, 0, 0, 0, 0, false, 0⟩, 0⟩, ⟨2, ⟨0, 0, 0, 0, 0, 0, 0, 0, 0, 0, 0, false, 0⟩, 0⟩, ⟨2, ⟨0, 0, 0, 0, 0, 0, 0, 0, 0, 0, 0, false, 0⟩, 0⟩, ⟨0, ⟨1, 385, 0, 0, 0, 0, 0, 0, 0, 0, 0, true, 0⟩, 0⟩, ⟨0, ⟨3, 385, 1, 1, 0, 0, 0, 0, 0, 0, 0, false, 0⟩, 0⟩, ⟨2, ⟨0, 0, 0, 0, 0, 0, 0, 0, 0, 0, 0, false, 0⟩, 0⟩, ⟨4, ⟨1, 0, 0, 0, 0, 0, 0, 0, 0, 0, 0, false, 0⟩, 0⟩, ⟨4, ⟨1, 0, 0, 0, 0, 0, 0, 0, 0, 0, 0, false, 0⟩, 0⟩, ⟨0, ⟨(-1), 385, 1, 1, 0, 0, 0, 0, 0, 0, 0, false, 0⟩, 0⟩, ⟨0, ⟨1, 2048, 0, 0, 0, 0, 0, 0, 0, 0, 0, false, 0⟩, 0⟩, ⟨0, ⟨(-1), 2048, 0, 0, 0, 0, 0, 0, 0, 0, 0, false, 0⟩, 0⟩, ⟨0, ⟨9223372036854775807, 385, 1, 1, 0, 0, 0, 0, 0, 0, 0, false, 0⟩, 510⟩, ⟨0, ⟨1, 385, 1, 1, 0, 0, 0, 0, 0, 0, 0, false, 0⟩, 0⟩, ⟨0, ⟨1, 385, 1, 1, 0, 0, 0, 0, 0, 0, 0, false, 0⟩, 0⟩, ⟨0, ⟨1, 0, 9, 0, 0, 0, 0, 0, 0, 0, 0, false, 0⟩, 0⟩, ⟨2, ⟨0, 0, 0, 0, 0, 0, 0, 0, 0, 0, 0, false, 0⟩, 0⟩, ⟨0, ⟨1, 385, 1, 1, 0, 0, 0, 0, 0, 0, 0, false, 0⟩, 0⟩, ⟨0, ⟨1, 385, 1, 1, 0, 0, 0, 0, 0, 0, 0, false, 0⟩, 0⟩, ⟨4, ⟨9223372036854775807, 0, 0, 0, 0, 0, 0, 0, 0, 0, 0, false, 0⟩, 0⟩] : List St) := isSt_lit ([⟨0, ⟨1, 385, 1, 1, 0, 0, 0, 0, 0, 0, 0, false, 0⟩, 0⟩, ⟨0, ⟨2, 128, 0, 0, 0, 0, 0, 0, 0, 0, 0, false, 0⟩, 0⟩, ⟨0, ⟨1, 385, 1, 2, 0, 0, 0, 0, 0, 0, 0, false, 0⟩, 0⟩, ⟨5, ⟨0, 0, 0, 0, 0, 0, 0, 0, 0, 0, 0, false, 0⟩, 0⟩, ⟨2, ⟨0, 0, 0, 0, 0, 0, 0, 0, 0, 0, 0, false, 0⟩, 0⟩, ⟨2, ⟨0, 0, 0, 0, 0, 0, 0, 0, 0, 0, 0, false, 0⟩, 0⟩, ⟨2, ⟨0, 0, 0, 0, 0, 0, 0, 0, 0, 0, 0, false, 0⟩, 0⟩, ⟨2, ⟨0, 0, 0, 0, 0, 0, 0, 0, 0, 0, 0, false, 0⟩, 0⟩, ⟨0, ⟨1, 385, 0, 0, 0, 0, 0, 0, 0, 0, 0, true, 0⟩, 0⟩, ⟨0, ⟨3, 385, 1, 1, 0, 0, 0, 0, 0, 0, 0, false, 0⟩, 0⟩, ⟨2, ⟨0, 0, 0, 0, 0, 0, 0, 0, 0, 0, 0, false, 0⟩, 0⟩, ⟨4, ⟨1, 0, 0, 0, 0, 0, 0, 0, 0, 0, 0, false, 0⟩, 0⟩, ⟨4, ⟨1, 0, 0, 0, 0, 0, 0, 0, 0, 0, 0, false, 0⟩, 0⟩, ⟨0, ⟨(-1), 385, 1, 1, 0, 0, 0, 0, 0, 0, 0, false, 0⟩, 0⟩, ⟨0, ⟨1, 2048, 0, 0, 0, 0, 0, 0, 0, 0, 0, false, 0⟩, 0⟩, ⟨0, ⟨(-1), 2048, 0, 0, 0, 0, 0, 0, 0, 0, 0, false, 0⟩, 0⟩, ⟨0, ⟨9223372036854775807, 385, 1, 1, 0, 0, 0, 0, 0, 0, 0, false, 0⟩, 510⟩, ⟨0, ⟨1, 385, 1, 1, 0, 0, 0, 0, 0, 0, 0, false, 0⟩, 0⟩, ⟨0, ⟨1, 385, 1, 1, 0, 0, 0, 0, 0, 0, 0, false, 0⟩, 0⟩, ⟨0, ⟨1, 0, 9, 0, 0, 0, 0, 0, 0, 0, 0, false, 0⟩, 0⟩, ⟨2, ⟨0, 0, 0, 0, 0, 0, 0, 0, 0, 0, 0, false, 0⟩, 0⟩, ⟨0, ⟨1, 385, 1, 1, 0, 0, 0, 0, 0, 0, 0, false, 0⟩, 0⟩, ⟨0, ⟨1, 385, 1, 1, 0, 0, 0, 0, 0, 0, 0, false, 0⟩, 0⟩, ⟨4, ⟨9223372036854775807, 0, 0, 0, 0, 0, 0, 0, 0, 0, 0, false, 0⟩, 0⟩] : List St) (by rw [hz3.out, hsb.out]; exact heap_alloc_last z2 _) rfl (by unfold Oct; decide)
  have K3 : Hid (∀ x, Below z3.drew.heap.size z3.drew x → x.cell? ⟨fb, 0, none⟩ = some (.int .u16 385) ∧ x.cell? ⟨fb, 1, none⟩ = some (.int .i64 1) ∧ x.cell? ⟨fb, 2, none⟩ = some (.int .u8 1) ∧ x.cell? ⟨fb, 3, none⟩ = some (.int .u8 0) ∧ x.cell? ⟨fb, 4, none⟩ = some (.int .u8 0) ∧ x.cell? ⟨fb, 5, none⟩ = some (.int .u8 0) ∧ x.cell? ⟨fb, 6, none⟩ = some (.int .u8 0) ∧ x.cell? ⟨fb, 7, none⟩ = some (.int .u8 0) ∧ x.cell? ⟨fb, 8, none⟩ = some (.int .u8 0) ∧ x.cell? ⟨fb, 9, none⟩ = some (.int .u8 0) ∧ x.cell? ⟨fb, 10, none⟩ = some (.bool false)) := fun x hx => KS.out x (Below.andThen b3 hx)
  have B3 : Hid (Below w.heap.size w z3.drew) := Below.andThen BZ b3
  clear KS b2 b3 BZ hHeld hz3 hsb
  go_wp2_with fail
  refine wp_region_held_drew (S := fun x => x.cell? ⟨fb, 0, none⟩ = some (.int .u16 385) ∧ x.cell? ⟨fb, 1, none⟩ = some (.int .i64 1) ∧ x.cell? ⟨fb, 2, none⟩ = some (.int .u8 1) ∧ x.cell? ⟨fb, 3, none⟩ = some (.int .u8 0) ∧ x.cell? ⟨fb, 4, none⟩ = some (.int .u8 0) ∧ x.cell? ⟨fb, 5, none⟩ = some (.int .u8 0) ∧ x.cell? ⟨fb, 6, none⟩ = some (.int .u8 0) ∧ x.cell? ⟨fb, 7, none⟩ = some (.int .u8 0) ∧ x.cell? ⟨fb, 8, none⟩ = some (.int .u8 0) ∧ x.cell? ⟨fb, 9, none⟩ = some (.int .u8 0) ∧ x.cell? ⟨fb, 10, none⟩ = some (.bool false)) (by kernel_rfl) (K3.out _ (Below.refl _ _)) (fun hHeld => ?_)
  refine wpAnyH_take (i := 0) (v := (.slice (some ⟨sb, 0, none⟩) 24 24)) rfl (by kernel_rfl) (by kernel_rfl) (by kernel_rfl) (fun _ _ _ h => h) (Or.inl ⟨by rfl, ?_⟩) (by assumption) ?_
  · intro w9 hSw
    try dsimp only at hSw
    go_simp
    all_goals try decide
    all_goals try assumption
  try simp only [Act.put, List.getElem_toArray, List.getElem_cons_succ, List.getElem_cons_zero, List.setIfInBounds_toArray, List.set_cons_zero, List.set_cons_succ]
  refine wpAnyH_ready (rs := [1]) (by kernel_rfl) (by simp) ?_
  refine AllReadyH.cons rfl (fun K' hK => ?_) AllReadyH.nil
  rw [if_pos (by rfl)]
  simp only [List.getElem_toArray, List.getElem_cons_succ, List.getElem_cons_zero]
  go_wp2_with fail
  refine (busPlays_any (scap := 24) IS3).mono ?_
  rintro e y1 ⟨rfl, c1⟩
  try go_wp2_with fail
  refine hK.out _ _ (K3.out _ c1) (fun hHeld => ?_)
  clear hK K'
  try simp only [Act.put, List.getElem_toArray, List.getElem_cons_succ, List.getElem_cons_zero, List.setIfInBounds_toArray, List.set_cons_zero, List.set_cons_succ]
  refine wpAnyH_take (i := 2) (v := (.bool true)) rfl (by kernel_rfl) (by kernel_rfl) (by kernel_rfl) (fun _ _ _ h => h) (Or.inl ⟨by rfl, ?_⟩) (by assumption) ?_
  · intro w9 hSw
    try dsimp only at hSw
    go_simp
    all_goals try decide
    all_goals try assumption
  try simp only [Act.put, List.getElem_toArray, List.getElem_cons_succ, List.getElem_cons_zero, List.setIfInBounds_toArray, List.set_cons_zero, List.set_cons_succ]
  refine wpAnyH_take (i := 3) (v := (.agg #[.int .u16 385, .int .i64 1, .int .u8 1, .int .u8 0, .int .u8 0, .int .u8 0, .int .u8 0, .int .u8 0, .int .u8 0, .int .u8 0, .bool false])) rfl (by kernel_rfl) (by kernel_rfl) (by kernel_rfl) (fun _ _ _ h => h) (Or.inl ⟨by rfl, ?_⟩) (by assumption) ?_
  · intro w9 hSw
    try dsimp only at hSw
    go_simp
    all_goals try decide
    all_goals try assumption
  try simp only [Act.put, List.getElem_toArray, List.getElem_cons_succ, List.getElem_cons_zero, List.setIfInBounds_toArray, List.set_cons_zero, List.set_cons_succ]
  refine wpAnyH_ready (rs := [4]) (by kernel_rfl) (by simp) ?_
  refine AllReadyH.cons rfl (fun K' hK => ?_) AllReadyH.nil
  rw [if_pos (by rfl)]
  simp only [List.getElem_toArray, List.getElem_cons_succ, List.getElem_cons_zero]
  go_wp2_with fail
  refine (busNone_any 1 385 1 1 0 0 0 0 0 0 0 false y1).mono ?_
  rintro e y2 ⟨rfl, c2⟩
  try go_wp2_with fail
  refine hK.out _ _ (K3.out _ (Below.andThen c1 c2)) (fun hHeld => ?_)
  clear hK K'
  try simp only [Act.put, List.getElem_toArray, List.getElem_cons_succ, List.getElem_cons_zero, List.setIfInBounds_toArray, List.set_cons_zero, List.set_cons_succ]
  refine wpAnyH_take (i := 5) (v := (.bool true)) rfl (by kernel_rfl) (by kernel_rfl) (by kernel_rfl) (fun _ _ _ h => h) (Or.inl ⟨by rfl, ?_⟩) (by assumption) ?_
  · intro w9 hSw
    try dsimp only at hSw
    go_simp
    all_goals try decide
    all_goals try assumption
  try simp only [Act.put, List.getElem_toArray, List.getElem_cons_succ, List.getElem_cons_zero, List.setIfInBounds_toArray, List.set_cons_zero, List.set_cons_succ]
  refine wpAnyH_take (i := 6) (v := (.bool true)) rfl (by kernel_rfl) (by kernel_rfl) (by kernel_rfl) (fun _ _ _ h => h) (Or.inl ⟨by rfl, ?_⟩) (by assumption) ?_
  · intro w9 hSw
    try dsimp only at hSw
    go_simp
    all_goals try decide
    all_goals try assumption
  try simp only [Act.put, List.getElem_toArray, List.getElem_cons_succ, List.getElem_cons_zero, List.setIfInBounds_toArray, List.set_cons_zero, List.set_cons_succ]
  refine wpAnyH_take (i := 7) (v := (.agg #[.int .u16 385, .int .i64 1, .int .u8 1, .int .u8 0, .int .u8 0, .int .u8 0, .int .u8 0, .int .u8 0, .int .u8 0, .int .u8 0, .bool false])) rfl (by kernel_rfl) (by kernel_rfl) (by kernel_rfl) (fun _ _ _ h => h) (Or.inl ⟨by rfl, ?_⟩) (by assumption) ?_
  · intro w9 hSw
    try dsimp only at hSw
    go_simp
    all_goals try decide
    all_goals try assumption
  try simp only [Act.put, List.getElem_toArray, List.getElem_cons_succ, List.getElem_cons_zero, List.setIfInBounds_toArray, List.set_cons_zero, List.set_cons_succ]
  refine wpAnyH_take (i := 8) (v := (.agg #[.int .u16 0, .int .i64 0, .int .u8 0, .int .u8 0, .int .u8 0, .int .u8 0, .int .u8 0, .int .u8 0, .int .u8 0, .int .u8 0, .bool false])) rfl (by kernel_rfl) (by kernel_rfl) (by kernel_rfl) (fun _ _ _ h => h) (Or.inl ⟨by rfl, ?_⟩) (by assumption) ?_
  · intro w9 hSw
    try dsimp only at hSw
    go_simp
    all_goals try decide
    all_goals try assumption
  try simp only [Act.put, List.getElem_toArray, List.getElem_cons_succ, List.getElem_cons_zero, List.setIfInBounds_toArray, List.set_cons_zero, List.set_cons_succ]
  refine wpAnyH_take (i := 9) (v := (.agg #[.int .u16 385, .int .i64 1, .int .u8 1, .int .u8 0, .int .u8 0, .int .u8 0, .int .u8 0, .int .u8 0, .int .u8 0, .int .u8 0, .bool false])) rfl (by kernel_rfl) (by kernel_rfl) (by kernel_rfl) (fun _ _ _ h => h) (Or.inl ⟨by rfl, ?_⟩) (by assumption) ?_
  · intro w9 hSw
    try dsimp only at hSw
    go_simp
    all_goals try decide
    all_goals try assumption
  try simp only [Act.put, List.getElem_toArray, List.getElem_cons_succ, List.getElem_cons_zero, List.setIfInBounds_toArray, List.set_cons_zero, List.set_cons_succ]
  refine wpAnyH_take (i := 10) (v := (.agg #[.int .u16 385, .int .i64 0, .int .u8 0, .int .u8 0, .int .u8 0, .int .u8 0, .int .u8 0, .int .u8 0, .int .u8 0, .int .u8 0, .bool true])) rfl (by kernel_rfl) (by kernel_rfl) (by kernel_rfl) (fun _ _ _ h => h) (Or.inl ⟨by rfl, ?_⟩) (by assumption) ?_
  · intro w9 hSw
    try dsimp only at hSw
    go_simp
    all_goals try decide
    all_goals try assumption
  try simp only [Act.put, List.getElem_toArray, List.getElem_cons_succ, List.getElem_cons_zero, List.setIfInBounds_toArray, List.set_cons_zero, List.set_cons_succ]
  refine wpAnyH_take (i := 12) (v := (.agg #[.int .u16 1, .int .i64 0, .int .u8 0, .int .u8 0, .int .u8 0, .int .u8 0, .int .u8 0, .int .u8 0, .int .u8 0, .int .u8 0, .bool false])) rfl (by kernel_rfl) (by kernel_rfl) (by kernel_rfl) (fun _ _ _ h => h) (Or.inl ⟨by rfl, ?_⟩) (by assumption) ?_
  · intro w9 hSw
    try dsimp only at hSw
    go_simp
    all_goals try decide
    all_goals try assumption
  try simp only [Act.put, List.getElem_toArray, List.getElem_cons_succ, List.getElem_cons_zero, List.setIfInBounds_toArray, List.set_cons_zero, List.set_cons_succ]
  refine wpAnyH_ready (rs := [11, 14]) (by kernel_rfl) (by simp) ?_
  refine AllReadyH.cons rfl (fun K' hK => ?_) (AllReadyH.cons rfl (fun K' hK => ?_) AllReadyH.nil)
  · rw [if_pos (by rfl)]
    simp only [List.getElem_toArray, List.getElem_cons_succ, List.getElem_cons_zero]
    go_wp2_with fail
    refine (byteFrame_any 385 9 _).mono ?_
    rintro e y3 ⟨rfl, c3⟩
    try go_wp2_with fail
    refine hK.out _ _ (K3.out _ (Below.andThen (Below.andThen c1 c2) c3)) (fun hHeld => ?_)
    clear hK K'
    try simp only [Act.put, List.getElem_toArray, List.getElem_cons_succ, List.getElem_cons_zero, List.setIfInBounds_toArray, List.set_cons_zero, List.set_cons_succ]
    have By3 : Below z3.drew.heap.size z3.drew y3 := Below.andThen (Below.andThen c1 c2) c3
    refine wpAnyH_ready (rs := [13, 14]) (by kernel_rfl) (by simp) ?_
    refine AllReadyH.cons rfl (fun K' hK => ?_) (AllReadyH.cons rfl (fun K' hK => ?_) AllReadyH.nil)
    · rw [if_pos (by rfl)]
      simp only [List.getElem_toArray, List.getElem_cons_succ, List.getElem_cons_zero]
      refine wp_buildSlice 52 27 6 _ rfl #[.int .u16 385, .int .i64 1, .int .u8 1, .int .u8 0, .int .u8 0, .int .u8 0, .int .u8 0, .int .u8 0, .int .u8 0, .int .u8 0, .bool false, .int .u16 0, .int .i64 0, .int .u8 0, .int .u8 0, .int .u8 0, .int .u8 0, .int .u8 0, .int .u8 0, .int .u8 0, .int .u8 0, .bool false, .int .u16 385, .int .i64 1, .int .u8 1, .int .u8 0, .int .u8 0, .int .u8 0, .int .u8 0, .int .u8 0, .int .u8 0, .int .u8 0, .bool false, .int .u16 385, .int .i64 0, .int .u8 0, .int .u8 0, .int .u8 0, .int .u8 0, .int .u8 0, .int .u8 0, .int .u8 0, .int .u8 0, .bool true, .int .u16 385, .int .i64 1, .int .u8 9, .int .u8 0, .int .u8 0, .int .u8 0, .int .u8 0, .int .u8 0, .int .u8 0, .int .u8 0, .bool false, .int .u16 1, .int .i64 0, .int .u8 0, .int .u8 0, .int .u8 0, .int .u8 0, .int .u8 0, .int .u8 0, .int .u8 0, .int .u8 0, .bool false] ieF _ Try.underlying52 hiF hzF0 (by rw [hzF1]; decide) (by rw [hzF1]; decide) (by rw [hzF1]; kernel_rfl) ?_
      refine hK.out _ _ (K3.out _ (Below.andThen (By3) (Below.al (Below.refl _ _) _))) (fun hHeld => ?_)
      clear hK K'
      try simp only [Act.put, List.getElem_toArray, List.getElem_cons_succ, List.getElem_cons_zero, List.setIfInBounds_toArray, List.set_cons_zero, List.set_cons_succ]
      obtain ⟨y4, hy4⟩ : ∃ q, Hid (q = y3.alloc (.cells #[.int .u16 385, .int .i64 1, .int .u8 1, .int .u8 0, .int .u8 0, .int .u8 0, .int .u8 0, .int .u8 0, .int .u8 0, .int .u8 0, .bool false, .int .u16 0, .int .i64 0, .int .u8 0, .int .u8 0, .int .u8 0, .int .u8 0, .int .u8 0, .int .u8 0, .int .u8 0, .int .u8 0, .bool false, .int .u16 385, .int .i64 1, .int .u8 1, .int .u8 0, .int .u8 0, .int .u8 0, .int .u8 0, .int .u8 0, .int .u8 0, .int .u8 0, .bool false, .int .u16 385, .int .i64 0, .int .u8 0, .int .u8 0, .int .u8 0, .int .u8 0, .int .u8 0, .int .u8 0, .int .u8 0, .int .u8 0, .bool true, .int .u16 385, .int .i64 1, .int .u8 9, .int .u8 0, .int .u8 0, .int .u8 0, .int .u8 0, .int .u8 0, .int .u8 0, .int .u8 0, .bool false, .int .u16 1, .int .i64 0, .int .u8 0, .int .u8 0, .int .u8 0, .int .u8 0, .int .u8 0, .int .u8 0, .int .u8 0, .int .u8 0, .bool false] 27)) := ⟨_, rfl⟩
      rw [← hy4.out] at hHeld ⊢
      have By4 : Below z3.drew.heap.size z3.drew y4 := by rw [hy4.out]; exact Below.andThen (By3) (Below.al (Below.refl _ _) _)
      have Fy4 : IsFs y4 (some ⟨y3.heap.size, 0, none⟩) 6 ([⟨0, 385, 1, 1, 0, 0, 0, 0, 0, 0, 0, false, 0⟩, ⟨0, 0, 0, 0, 0, 0, 0, 0, 0, 0, 0, false, 0⟩, ⟨0, 385, 1, 1, 0, 0, 0, 0, 0, 0, 0, false, 0⟩, ⟨0, 385, 0, 0, 0, 0, 0, 0, 0, 0, 0, true, 0⟩, ⟨0, 385, 1, 9, 0, 0, 0, 0, 0, 0, 0, false, 0⟩, ⟨0, 1, 0, 0, 0, 0, 0, 0, 0, 0, 0, false, 0⟩] : List Sn) := isFs_lit ([⟨0, 385, 1, 1, 0, 0, 0, 0, 0, 0, 0, false, 0⟩, ⟨0, 0, 0, 0, 0, 0, 0, 0, 0, 0, 0, false, 0⟩, ⟨0, 385, 1, 1, 0, 0, 0, 0, 0, 0, 0, false, 0⟩, ⟨0, 385, 0, 0, 0, 0, 0, 0, 0, 0, 0, true, 0⟩, ⟨0, 385, 1, 9, 0, 0, 0, 0, 0, 0, 0, false, 0⟩, ⟨0, 1, 0, 0, 0, 0, 0, 0, 0, 0, 0, false, 0⟩] : List Sn) (by rw [hy4.out]; exact heap_alloc_last _ _) rfl (by unfold Oct; decide)
      refine wpAnyH_ready (rs := [14]) (by kernel_rfl) (by simp) ?_
      refine AllReadyH.cons rfl (fun K' hK => ?_) AllReadyH.nil
      rw [if_pos (by rfl)]
      simp only [List.getElem_toArray, List.getElem_cons_succ, List.getElem_cons_zero]
      refine wp_buildSlice 53 3 4 _ rfl #[.int .i64 0, .int .i64 1, .int .i64 0, .int .i64 2] ieI _ Try.underlying53 hiI hzI0 (by rw [hzI1]; decide) (by rw [hzI1]; decide) (by rw [hzI1]; kernel_rfl) ?_
      refine hK.out _ _ (K3.out _ (Below.andThen (By4) (Below.al (Below.refl _ _) _))) (fun hHeld => ?_)
      clear hK K'
      try simp only [Act.put, List.getElem_toArray, List.getElem_cons_succ, List.getElem_cons_zero, List.setIfInBounds_toArray, List.set_cons_zero, List.set_cons_succ]
      obtain ⟨y5, hy5⟩ : ∃ q, Hid (q = y4.alloc (.cells #[.int .i64 0, .int .i64 1, .int .i64 0, .int .i64 2] 3)) := ⟨_, rfl⟩
      rw [← hy5.out] at hHeld ⊢
      have By5 : Below z3.drew.heap.size z3.drew y5 := by rw [hy5.out]; exact Below.andThen (By4) (Below.al (Below.refl _ _) _)
      have Zy5 : IsNs y5 (some ⟨y4.heap.size, 0, none⟩) 4 [0, 1, 0, 2] := isNs_lit [0, 1, 0, 2] (by rw [hy5.out]; exact heap_alloc_last _ _) rfl
      refine wpAnyH_ready (rs := [15]) (by kernel_rfl) (by simp) ?_
      refine AllReadyH.cons rfl (fun K' hK => ?_) AllReadyH.nil
      rw [if_pos (by rfl)]
      simp only [List.getElem_toArray, List.getElem_cons_succ, List.getElem_cons_zero]
      go_wp2_with fail
      refine (busOnce_any (fcap := 6) (ncap := 4) (⟨Fy4.size, Fy4.oct, fun h0 => by obtain ⟨b9, o9, e9, hc9⟩ := Fy4.at_ h0; exact ⟨b9, o9, e9, fun i s hs j v hv => by rw [(show Below _ _ _ from (by rw [hy5.out]; exact Below.al (Below.refl y4.heap.size y4) _)).cell (p := ⟨b9, o9 + i * 11 + j, none⟩) (lt_of_cell (hc9 i s hs j v hv))]; exact hc9 i s hs j v hv⟩⟩) (Zy5)).mono ?_
      rintro e y8 ⟨rfl, c8⟩
      try go_wp2_with fail
      refine hK.out _ _ (K3.out _ (Below.andThen By5 c8)) (fun hHeld => ?_)
      clear hK K'
      try simp only [Act.put, List.getElem_toArray, List.getElem_cons_succ, List.getElem_cons_zero, List.setIfInBounds_toArray, List.set_cons_zero, List.set_cons_succ]
      refine wpAnyH_take (i := 16) (v := (.bool true)) rfl (by kernel_rfl) (by kernel_rfl) (by kernel_rfl) (fun _ _ _ h => h) (Or.inl ⟨by rfl, ?_⟩) (by assumption) ?_
      · intro w9 hSw
        try dsimp only at hSw
        go_simp
        all_goals try decide
        all_goals try assumption
      try simp only [Act.put, List.getElem_toArray, List.getElem_cons_succ, List.getElem_cons_zero, List.setIfInBounds_toArray, List.set_cons_zero, List.set_cons_succ]
      refine wpAnyH_take (i := 17) (v := (.bool true)) rfl (by kernel_rfl) (by kernel_rfl) (by kernel_rfl) (fun _ _ _ h => h) (Or.inl ⟨by rfl, ?_⟩) (by assumption) ?_
      · intro w9 hSw
        try dsimp only at hSw
        go_simp
        all_goals try decide
        all_goals try assumption
      try simp only [Act.put, List.getElem_toArray, List.getElem_cons_succ, List.getElem_cons_zero, List.setIfInBounds_toArray, List.set_cons_zero, List.set_cons_succ]
      refine wpAnyH_ready (rs := [18]) (by kernel_rfl) (by simp) ?_
      refine AllReadyH.cons rfl (fun K' hK => ?_) AllReadyH.nil
      rw [if_pos (by rfl)]
      simp only [List.getElem_toArray, List.getElem_cons_succ, List.getElem_cons_zero]
      go_wp2_with fail
      refine (works_any y8).mono ?_
      rintro e y9 ⟨rfl, c9⟩
      try go_wp2_with fail
      refine hK.out _ _ (K3.out _ (Below.andThen (Below.andThen By5 c8) c9)) (fun hHeld => ?_)
      clear hK K'
      try simp only [Act.put, List.getElem_toArray, List.getElem_cons_succ, List.getElem_cons_zero, List.setIfInBounds_toArray, List.set_cons_zero, List.set_cons_succ]
      refine wpAnyH_take (i := 19) (v := (.bool true)) rfl (by kernel_rfl) (by kernel_rfl) (by kernel_rfl) (fun _ _ _ h => h) (Or.inl ⟨by rfl, ?_⟩) (by assumption) ?_
      · intro w9 hSw
        try dsimp only at hSw
        go_simp
        all_goals try decide
        all_goals try assumption
      try simp only [Act.put, List.getElem_toArray, List.getElem_cons_succ, List.getElem_cons_zero, List.setIfInBounds_toArray, List.set_cons_zero, List.set_cons_succ]
      refine wpAnyH_take (i := 20) (v := (.bool true)) rfl (by kernel_rfl) (by kernel_rfl) (by kernel_rfl) (fun _ _ _ h => h) (Or.inl ⟨by rfl, ?_⟩) (by assumption) ?_
      · intro w9 hSw
        try dsimp only at hSw
        go_simp
        all_goals try decide
        all_goals try assumption
      try simp only [Act.put, List.getElem_toArray, List.getElem_cons_succ, List.getElem_cons_zero, List.setIfInBounds_toArray, List.set_cons_zero, List.set_cons_succ]
      refine wpAnyH_done (by kernel_rfl) ?_ _
      have BE : Hid (Below w.heap.size w y9) := Below.andThen B3.out (Below.andThen (Below.andThen By5 c8) c9)
      go_wp2_with fail
      go_ret
      exact ⟨rfl, BE.out⟩
    · rw [if_pos (by rfl)]
      simp only [List.getElem_toArray, List.getElem_cons_succ, List.getElem_cons_zero]
      refine wp_buildSlice 53 3 4 _ rfl #[.int .i64 0, .int .i64 1, .int .i64 0, .int .i64 2] ieI _ Try.underlying53 hiI hzI0 (by rw [hzI1]; decide) (by rw [hzI1]; decide) (by rw [hzI1]; kernel_rfl) ?_
      refine hK.out _ _ (K3.out _ (Below.andThen (By3) (Below.al (Below.refl _ _) _))) (fun hHeld => ?_)
      clear hK K'
      try simp only [Act.put, List.getElem_toArray, List.getElem_cons_succ, List.getElem_cons_zero, List.setIfInBounds_toArray, List.set_cons_zero, List.set_cons_succ]
      obtain ⟨y4, hy4⟩ : ∃ q, Hid (q = y3.alloc (.cells #[.int .i64 0, .int .i64 1, .int .i64 0, .int .i64 2] 3)) := ⟨_, rfl⟩
      rw [← hy4.out] at hHeld ⊢
      have By4 : Below z3.drew.heap.size z3.drew y4 := by rw [hy4.out]; exact Below.andThen (By3) (Below.al (Below.refl _ _) _)
      have Zy4 : IsNs y4 (some ⟨y3.heap.size, 0, none⟩) 4 [0, 1, 0, 2] := isNs_lit [0, 1, 0, 2] (by rw [hy4.out]; exact heap_alloc_last _ _) rfl
      refine wpAnyH_ready (rs := [13]) (by kernel_rfl) (by simp) ?_
      refine AllReadyH.cons rfl (fun K' hK => ?_) AllReadyH.nil
      rw [if_pos (by rfl)]
      simp only [List.getElem_toArray, List.getElem_cons_succ, List.getElem_cons_zero]
      refine wp_buildSlice 52 27 6 _ rfl #[.int .u16 385, .int .i64 1, .int .u8 1, .int .u8 0, .int .u8 0, .int .u8 0, .int .u8 0, .int .u8 0, .int .u8 0, .int .u8 0, .bool false, .int .u16 0, .int .i64 0, .int .u8 0, .int .u8 0, .int .u8 0, .int .u8 0, .int .u8 0, .int .u8 0, .int .u8 0, .int .u8 0, .bool false, .int .u16 385, .int .i64 1, .int .u8 1, .int .u8 0, .int .u8 0, .int .u8 0, .int .u8 0, .int .u8 0, .int .u8 0, .int .u8 0, .bool false, .int .u16 385, .int .i64 0, .int .u8 0, .int .u8 0, .int .u8 0, .int .u8 0, .int .u8 0, .int .u8 0, .int .u8 0, .int .u8 0, .bool true, .int .u16 385, .int .i64 1, .int .u8 9, .int .u8 0, .int .u8 0, .int .u8 0, .int .u8 0, .int .u8 0, .int .u8 0, .int .u8 0, .bool false, .int .u16 1, .int .i64 0, .int .u8 0, .int .u8 0, .int .u8 0, .int .u8 0, .int .u8 0, .int .u8 0, .int .u8 0, .int .u8 0, .bool false] ieF _ Try.underlying52 hiF hzF0 (by rw [hzF1]; decide) (by rw [hzF1]; decide) (by rw [hzF1]; kernel_rfl) ?_
      refine hK.out _ _ (K3.out _ (Below.andThen (By4) (Below.al (Below.refl _ _) _))) (fun hHeld => ?_)
      clear hK K'
      try simp only [Act.put, List.getElem_toArray, List.getElem_cons_succ, List.getElem_cons_zero, List.setIfInBounds_toArray, List.set_cons_zero, List.set_cons_succ]
      obtain ⟨y5, hy5⟩ : ∃ q, Hid (q = y4.alloc (.cells #[.int .u16 385, .int .i64 1, .int .u8 1, .int .u8 0, .int .u8 0, .int .u8 0, .int .u8 0, .int .u8 0, .int .u8 0, .int .u8 0, .bool false, .int .u16 0, .int .i64 0, .int .u8 0, .int .u8 0, .int .u8 0, .int .u8 0, .int .u8 0, .int .u8 0, .int .u8 0, .int .u8 0, .bool false, .int .u16 385, .int .i64 1, .int .u8 1, .int .u8 0, .int .u8 0, .int .u8 0, .int .u8 0, .int .u8 0, .int .u8 0, .int .u8 0, .bool false, .int .u16 385, .int .i64 0, .int .u8 0, .int .u8 0, .int .u8 0, .int .u8 0, .int .u8 0, .int .u8 0, .int .u8 0, .int .u8 0, .bool true, .int .u16 385, .int .i64 1, .int .u8 9, .int .u8 0, .int .u8 0, .int .u8 0, .int .u8 0, .int .u8 0, .int .u8 0, .int .u8 0, .bool false, .int .u16 1, .int .i64 0, .int .u8 0, .int .u8 0, .int .u8 0, .int .u8 0, .int .u8 0, .int .u8 0, .int .u8 0, .int .u8 0, .bool false] 27)) := ⟨_, rfl⟩
      rw [← hy5.out] at hHeld ⊢
      have By5 : Below z3.drew.heap.size z3.drew y5 := by rw [hy5.out]; exact Below.andThen (By4) (Below.al (Below.refl _ _) _)
      have Fy5 : IsFs y5 (some ⟨y4.heap.size, 0, none⟩) 6 ([⟨0, 385, 1, 1, 0, 0, 0, 0, 0, 0, 0, false, 0⟩, ⟨0, 0, 0, 0, 0, 0, 0, 0, 0, 0, 0, false, 0⟩, ⟨0, 385, 1, 1, 0, 0, 0, 0, 0, 0, 0, false, 0⟩, ⟨0, 385, 0, 0, 0, 0, 0, 0, 0, 0, 0, true, 0⟩, ⟨0, 385, 1, 9, 0, 0, 0, 0, 0, 0, 0, false, 0⟩, ⟨0, 1, 0, 0, 0, 0, 0, 0, 0, 0, 0, false, 0⟩] : List Sn) := isFs_lit ([⟨0, 385, 1, 1, 0, 0, 0, 0, 0, 0, 0, false, 0⟩, ⟨0, 0, 0, 0, 0, 0, 0, 0, 0, 0, 0, false, 0⟩, ⟨0, 385, 1, 1, 0, 0, 0, 0, 0, 0, 0, false, 0⟩, ⟨0, 385, 0, 0, 0, 0, 0, 0, 0, 0, 0, true, 0⟩, ⟨0, 385, 1, 9, 0, 0, 0, 0, 0, 0, 0, false, 0⟩, ⟨0, 1, 0, 0, 0, 0, 0, 0, 0, 0, 0, false, 0⟩] : List Sn) (by rw [hy5.out]; exact heap_alloc_last _ _) rfl (by unfold Oct; decide)
      refine wpAnyH_ready (rs := [15]) (by kernel_rfl) (by simp) ?_
      refine AllReadyH.cons rfl (fun K' hK => ?_) AllReadyH.nil
      rw [if_pos (by rfl)]
      simp only [List.getElem_toArray, List.getElem_cons_succ, List.getElem_cons_zero]
      go_wp2_with fail
      refine (busOnce_any (fcap := 6) (ncap := 4) (Fy5) (⟨Zy4.size, fun h0 => by obtain ⟨b9, o9, e9, hc9⟩ := Zy4.at_ h0; exact ⟨b9, o9, e9, fun i hi => by rw [(show Below _ _ _ from (by rw [hy5.out]; exact Below.al (Below.refl y4.heap.size y4) _)).cell (p := ⟨b9, o9 + i, none⟩) (lt_of_cell (hc9 i hi))]; exact hc9 i hi⟩⟩)).mono ?_
      rintro e y8 ⟨rfl, c8⟩
      try go_wp2_with fail
      refine hK.out _ _ (K3.out _ (Below.andThen By5 c8)) (fun hHeld => ?_)
      clear hK K'
      try simp only [Act.put, List.getElem_toArray, List.getElem_cons_succ, List.getElem_cons_zero, List.setIfInBounds_toArray, List.set_cons_zero, List.set_cons_succ]
      refine wpAnyH_take (i := 16) (v := (.bool true)) rfl (by kernel_rfl) (by kernel_rfl) (by kernel_rfl) (fun _ _ _ h => h) (Or.inl ⟨by rfl, ?_⟩) (by assumption) ?_
      · intro w9 hSw
        try dsimp only at hSw
        go_simp
        all_goals try decide
        all_goals try assumption
      try simp only [Act.put, List.getElem_toArray, List.getElem_cons_succ, List.getElem_cons_zero, List.setIfInBounds_toArray, List.set_cons_zero, List.set_cons_succ]
      refine wpAnyH_take (i := 17) (v := (.bool true)) rfl (by kernel_rfl) (by kernel_rfl) (by kernel_rfl) (fun _ _ _ h => h) (Or.inl ⟨by rfl, ?_⟩) (by assumption) ?_
      · intro w9 hSw
        try dsimp only at hSw
        go_simp
        all_goals try decide
        all_goals try assumption
      try simp only [Act.put, List.getElem_toArray, List.getElem_cons_succ, List.getElem_cons_zero, List.setIfInBounds_toArray, List.set_cons_zero, List.set_cons_succ]
      refine wpAnyH_ready (rs := [18]) (by kernel_rfl) (by simp) ?_
      refine AllReadyH.cons rfl (fun K' hK => ?_) AllReadyH.nil
      rw [if_pos (by rfl)]
      simp only [List.getElem_toArray, List.getElem_cons_succ, List.getElem_cons_zero]
      go_wp2_with fail
      refine (works_any y8).mono ?_
      rintro e y9 ⟨rfl, c9⟩
      try go_wp2_with fail
      refine hK.out _ _ (K3.out _ (Below.andThen (Below.andThen By5 c8) c9)) (fun hHeld => ?_)
      clear hK K'
      try simp only [Act.put, List.getElem_toArray, List.getElem_cons_succ, List.getElem_cons_zero, List.setIfInBounds_toArray, List.set_cons_zero, List.set_cons_succ]
      refine wpAnyH_take (i := 19) (v := (.bool true)) rfl (by kernel_rfl) (by kernel_rfl) (by kernel_rfl) (fun _ _ _ h => h) (Or.inl ⟨by rfl, ?_⟩) (by assumption) ?_
      · intro w9 hSw
        try dsimp only at hSw
        go_simp
        all_goals try decide
        all_goals try assumption
      try simp only [Act.put, List.getElem_toArray, List.getElem_cons_succ, List.getElem_cons_zero, List.setIfInBounds_toArray, List.set_cons_zero, List.set_cons_succ]
      refine wpAnyH_take (i := 20) (v := (.bool true)) rfl (by kernel_rfl) (by kernel_rfl) (by kernel_rfl) (fun _ _ _ h => h) (Or.inl ⟨by rfl, ?_⟩) (by assumption) ?_
      · intro w9 hSw
        try dsimp only at hSw
        go_simp
        all_goals try decide
        all_goals try assumption
      try simp only [Act.put, List.getElem_toArray, List.getElem_cons_succ, List.getElem_cons_zero, List.setIfInBounds_toArray, List.set_cons_zero, List.set_cons_succ]
      refine wpAnyH_done (by kernel_rfl) ?_ _
      have BE : Hid (Below w.heap.size w y9) := Below.andThen B3.out (Below.andThen (Below.andThen By5 c8) c9)
      go_wp2_with fail
      go_ret
      exact ⟨rfl, BE.out⟩
  · rw [if_pos (by rfl)]
    simp only [List.getElem_toArray, List.getElem_cons_succ, List.getElem_cons_zero]
    refine wp_buildSlice 53 3 4 _ rfl #[.int .i64 0, .int .i64 1, .int .i64 0, .int .i64 2] ieI _ Try.underlying53 hiI hzI0 (by rw [hzI1]; decide) (by rw [hzI1]; decide) (by rw [hzI1]; kernel_rfl) ?_
    refine hK.out _ _ (K3.out _ (Below.andThen (Below.andThen c1 c2) (Below.al (Below.refl _ _) _))) (fun hHeld => ?_)
    clear hK K'
    try simp only [Act.put, List.getElem_toArray, List.getElem_cons_succ, List.getElem_cons_zero, List.setIfInBounds_toArray, List.set_cons_zero, List.set_cons_succ]
    obtain ⟨y4, hy4⟩ : ∃ q, Hid (q = y2.alloc (.cells #[.int .i64 0, .int .i64 1, .int .i64 0, .int .i64 2] 3)) := ⟨_, rfl⟩
    rw [← hy4.out] at hHeld ⊢
    have By4 : Below z3.drew.heap.size z3.drew y4 := by rw [hy4.out]; exact Below.andThen (Below.andThen c1 c2) (Below.al (Below.refl _ _) _)
    have Zy4 : IsNs y4 (some ⟨y2.heap.size, 0, none⟩) 4 [0, 1, 0, 2] := isNs_lit [0, 1, 0, 2] (by rw [hy4.out]; exact heap_alloc_last _ _) rfl
    refine wpAnyH_ready (rs := [11]) (by kernel_rfl) (by simp) ?_
    refine AllReadyH.cons rfl (fun K' hK => ?_) AllReadyH.nil
    rw [if_pos (by rfl)]
    simp only [List.getElem_toArray, List.getElem_cons_succ, List.getElem_cons_zero]
    go_wp2_with fail
    refine (byteFrame_any 385 9 _).mono ?_
    rintro e y3 ⟨rfl, c3⟩
    try go_wp2_with fail
    refine hK.out _ _ (K3.out _ (Below.andThen By4 c3)) (fun hHeld => ?_)
    clear hK K'
    try simp only [Act.put, List.getElem_toArray, List.getElem_cons_succ, List.getElem_cons_zero, List.setIfInBounds_toArray, List.set_cons_zero, List.set_cons_succ]
    have By3 : Below z3.drew.heap.size z3.drew y3 := Below.andThen By4 c3
    refine wpAnyH_ready (rs := [13]) (by kernel_rfl) (by simp) ?_
    refine AllReadyH.cons rfl (fun K' hK => ?_) AllReadyH.nil
    rw [if_pos (by rfl)]
    simp only [List.getElem_toArray, List.getElem_cons_succ, List.getElem_cons_zero]
    refine wp_buildSlice 52 27 6 _ rfl #[.int .u16 385, .int .i64 1, .int .u8 1, .int .u8 0, .int .u8 0, .int .u8 0, .int .u8 0, .int .u8 0, .int .u8 0, .int .u8 0, .bool false, .int .u16 0, .int .i64 0, .int .u8 0, .int .u8 0, .int .u8 0, .int .u8 0, .int .u8 0, .int .u8 0, .int .u8 0, .int .u8 0, .bool false, .int .u16 385, .int .i64 1, .int .u8 1, .int .u8 0, .int .u8 0, .int .u8 0, .int .u8 0, .int .u8 0, .int .u8 0, .int .u8 0, .bool false, .int .u16 385, .int .i64 0, .int .u8 0, .int .u8 0, .int .u8 0, .int .u8 0, .int .u8 0, .int .u8 0, .int .u8 0, .int .u8 0, .bool true, .int .u16 385, .int .i64 1, .int .u8 9, .int .u8 0, .int .u8 0, .int .u8 0, .int .u8 0, .int .u8 0, .int .u8 0, .int .u8 0, .bool false, .int .u16 1, .int .i64 0, .int .u8 0, .int .u8 0, .int .u8 0, .int .u8 0, .int .u8 0, .int .u8 0, .int .u8 0, .int .u8 0, .bool false] ieF _ Try.underlying52 hiF hzF0 (by rw [hzF1]; decide) (by rw [hzF1]; decide) (by rw [hzF1]; kernel_rfl) ?_
    refine hK.out _ _ (K3.out _ (Below.andThen (By3) (Below.al (Below.refl _ _) _))) (fun hHeld => ?_)
    clear hK K'
    try simp only [Act.put, List.getElem_toArray, List.getElem_cons_succ, List.getElem_cons_zero, List.setIfInBounds_toArray, List.set_cons_zero, List.set_cons_succ]
    obtain ⟨y5, hy5⟩ : ∃ q, Hid (q = y3.alloc (.cells #[.int .u16 385, .int .i64 1, .int .u8 1, .int .u8 0, .int .u8 0, .int .u8 0, .int .u8 0, .int .u8 0, .int .u8 0, .int .u8 0, .bool false, .int .u16 0, .int .i64 0, .int .u8 0, .int .u8 0, .int .u8 0, .int .u8 0, .int .u8 0, .int .u8 0, .int .u8 0, .int .u8 0, .bool false, .int .u16 385, .int .i64 1, .int .u8 1, .int .u8 0, .int .u8 0, .int .u8 0, .int .u8 0, .int .u8 0, .int .u8 0, .int .u8 0, .bool false, .int .u16 385, .int .i64 0, .int .u8 0, .int .u8 0, .int .u8 0, .int .u8 0, .int .u8 0, .int .u8 0, .int .u8 0, .int .u8 0, .bool true, .int .u16 385, .int .i64 1, .int .u8 9, .int .u8 0, .int .u8 0, .int .u8 0, .int .u8 0, .int .u8 0, .int .u8 0, .int .u8 0, .bool false, .int .u16 1, .int .i64 0, .int .u8 0, .int .u8 0, .int .u8 0, .int .u8 0, .int .u8 0, .int .u8 0, .int .u8 0, .int .u8 0, .bool false] 27)) := ⟨_, rfl⟩
    rw [← hy5.out] at hHeld ⊢
    have By5 : Below z3.drew.heap.size z3.drew y5 := by rw [hy5.out]; exact Below.andThen (By3) (Below.al (Below.refl _ _) _)
    have Fy5 : IsFs y5 (some ⟨y3.heap.size, 0, none⟩) 6 ([⟨0, 385, 1, 1, 0, 0, 0, 0, 0, 0, 0, false, 0⟩, ⟨0, 0, 0, 0, 0, 0, 0, 0, 0, 0, 0, false, 0⟩, ⟨0, 385, 1, 1, 0, 0, 0, 0, 0, 0, 0, false, 0⟩, ⟨0, 385, 0, 0, 0, 0, 0, 0, 0, 0, 0, true, 0⟩, ⟨0, 385, 1, 9, 0, 0, 0, 0, 0, 0, 0, false, 0⟩, ⟨0, 1, 0, 0, 0, 0, 0, 0, 0, 0, 0, false, 0⟩] : List Sn) := isFs_lit ([⟨0, 385, 1, 1, 0, 0, 0, 0, 0, 0, 0, false, 0⟩, ⟨0, 0, 0, 0, 0, 0, 0, 0, 0, 0, 0, false, 0⟩, ⟨0, 385, 1, 1, 0, 0, 0, 0, 0, 0, 0, false, 0⟩, ⟨0, 385, 0, 0, 0, 0, 0, 0, 0, 0, 0, true, 0⟩, ⟨0, 385, 1, 9, 0, 0, 0, 0, 0, 0, 0, false, 0⟩, ⟨0, 1, 0, 0, 0, 0, 0, 0, 0, 0, 0, false, 0⟩] : List Sn) (by rw [hy5.out]; exact heap_alloc_last _ _) rfl (by unfold Oct; decide)
    refine wpAnyH_ready (rs := [15]) (by kernel_rfl) (by simp) ?_
    refine AllReadyH.cons rfl (fun K' hK => ?_) AllReadyH.nil
    rw [if_pos (by rfl)]
    simp only [List.getElem_toArray, List.getElem_cons_succ, List.getElem_cons_zero]
    go_wp2_with fail
    refine (busOnce_any (fcap := 6) (ncap := 4) (Fy5) (⟨Zy4.size, fun h0 => by obtain ⟨b9, o9, e9, hc9⟩ := Zy4.at_ h0; exact ⟨b9, o9, e9, fun i hi => by rw [(show Below _ _ _ from (by rw [hy5.out]; exact Below.andThen c3 (Below.al (Below.refl y3.heap.size y3) _))).cell (p := ⟨b9, o9 + i, none⟩) (lt_of_cell (hc9 i hi))]; exact hc9 i hi⟩⟩)).mono ?_
    rintro e y8 ⟨rfl, c8⟩
    try go_wp2_with fail
    refine hK.out _ _ (K3.out _ (Below.andThen By5 c8)) (fun hHeld => ?_)
    clear hK K'
    try simp only [Act.put, List.getElem_toArray, List.getElem_cons_succ, List.getElem_cons_zero, List.setIfInBounds_toArray, List.set_cons_zero, List.set_cons_succ]
    refine wpAnyH_take (i := 16) (v := (.bool true)) rfl (by kernel_rfl) (by kernel_rfl) (by kernel_rfl) (fun _ _ _ h => h) (Or.inl ⟨by rfl, ?_⟩) (by assumption) ?_
    · intro w9 hSw
      try dsimp only at hSw
      go_simp
      all_goals try decide
      all_goals try assumption
    try simp only [Act.put, List.getElem_toArray, List.getElem_cons_succ, List.getElem_cons_zero, List.setIfInBounds_toArray, List.set_cons_zero, List.set_cons_succ]
    refine wpAnyH_take (i := 17) (v := (.bool true)) rfl (by kernel_rfl) (by kernel_rfl) (by kernel_rfl) (fun _ _ _ h => h) (Or.inl ⟨by rfl, ?_⟩) (by assumption) ?_
    · intro w9 hSw
      try dsimp only at hSw
      go_simp
      all_goals try decide
      all_goals try assumption
    try simp only [Act.put, List.getElem_toArray, List.getElem_cons_succ, List.getElem_cons_zero, List.setIfInBounds_toArray, List.set_cons_zero, List.set_cons_succ]
    refine wpAnyH_ready (rs := [18]) (by kernel_rfl) (by simp) ?_
    refine AllReadyH.cons rfl (fun K' hK => ?_) AllReadyH.nil
    rw [if_pos (by rfl)]
    simp only [List.getElem_toArray, List.getElem_cons_succ, List.getElem_cons_zero]
    go_wp2_with fail
    refine (works_any y8).mono ?_
    rintro e y9 ⟨rfl, c9⟩
    try go_wp2_with fail
    refine hK.out _ _ (K3.out _ (Below.andThen (Below.andThen By5 c8) c9)) (fun hHeld => ?_)
    clear hK K'
    try simp only [Act.put, List.getElem_toArray, List.getElem_cons_succ, List.getElem_cons_zero, List.setIfInBounds_toArray, List.set_cons_zero, List.set_cons_succ]
    refine wpAnyH_take (i := 19) (v := (.bool true)) rfl (by kernel_rfl) (by kernel_rfl) (by kernel_rfl) (fun _ _ _ h => h) (Or.inl ⟨by rfl, ?_⟩) (by assumption) ?_
    · intro w9 hSw
      try dsimp only at hSw
      go_simp
      all_goals try decide
      all_goals try assumption
    try simp only [Act.put, List.getElem_toArray, List.getElem_cons_succ, List.getElem_cons_zero, List.setIfInBounds_toArray, List.set_cons_zero, List.set_cons_succ]
    refine wpAnyH_take (i := 20) (v := (.bool true)) rfl (by kernel_rfl) (by kernel_rfl) (by kernel_rfl) (fun _ _ _ h => h) (Or.inl ⟨by rfl, ?_⟩) (by assumption) ?_
    · intro w9 hSw
      try dsimp only at hSw
      go_simp
      all_goals try decide
      all_goals try assumption
    try simp only [Act.put, List.getElem_toArray, List.getElem_cons_succ, List.getElem_cons_zero, List.setIfInBounds_toArray, List.set_cons_zero, List.set_cons_succ]
    refine wpAnyH_done (by kernel_rfl) ?_ _
    have BE : Hid (Below w.heap.size w y9) := Below.andThen B3.out (Below.andThen (Below.andThen By5 c8) c9)
    go_wp2_with fail
    go_ret
    exact ⟨rfl, BE.out⟩
#print axioms busKnown_any
end Go.Proofs.Ytndlpjfofjikeaa
