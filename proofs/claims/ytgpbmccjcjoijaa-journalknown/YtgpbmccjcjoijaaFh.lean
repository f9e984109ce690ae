/-
  The walks of the two closures that do a step.
-/
import Derived.Test.YtgpbmccjcjoijaaFg
import Derived.Deep.RegionHeld3
namespace Go.Proofs.Ytgpbmccjcjoijaa
open Go.RowKit

theorem Kp.cell {S : List Nat} {w w' : World} (h : Kp S w w') {b o : Nat} {v : Value} (hc : w.cell? ⟨b, o, none⟩ = some v) (hb : b ∉ S) : w'.cell? ⟨b, o, none⟩ = some v := by
  rw [World.cell?_of_block (w := w) (h.block b (block_lt_of_cell hc) hb)]; exact hc
/-- A word into memory. -/
theorem IsF.putWord {w : World} {p B n cap : Nat} {cs : List Int} {st : Int} {ar : Bool} {lf : Int} {of : Bool} (h : IsF w p B n cap cs st ar lf of) (k d : Nat) (hk : k < n) (hd : d < 256) (b0 b1 b2 b3 : Int) (hw : Oct [b0, b1, b2, b3]) :
    ∃ w', (storeVar 53 ⟨B, k * 1024 + d * 4, none⟩ (.agg (w4 b0 b1 b2 b3))).run Try.prog w = .ok () w' ∧ IsF w' p B n cap (put cs (k * 1024 + d * 4) [b0, b1, b2, b3]) st ar lf of ∧ Kp [B] w w' := by
  obtain ⟨t, ex, hr⟩ := h.row
  have hl := h.len
  exact ⟨_, store_part 53 4 size32 w B (k * 1024 + d * 4) _ t hr ([b0, b1, b2, b3].map (Value.int .u8)) rfl (by rw [List.size_toArray, List.length_append, List.length_map]; omega) (oneU8 _), h.over _ t hr _ _ hw (by simp; omega), (Kp.refl _ _).row _ _ (.inl (by simp))⟩
/-- A sector into memory. -/
theorem IsF.putSec {w : World} {p B n cap : Nat} {cs : List Int} {st : Int} {ar : Bool} {lf : Int} {of : Bool} (h : IsF w p B n cap cs st ar lf of) (k : Nat) (hk : k < n) :
    ∃ w', (storeVar 92 ⟨B, k * 1024, none⟩ (.agg (ff.map (Value.int .u8)).toArray)).run Try.prog w = .ok () w' ∧ IsF w' p B n cap (put cs (k * 1024) ff) st ar lf of ∧ Kp [B] w w' := by
  obtain ⟨t, ex, hr⟩ := h.row
  have hl := h.len
  have e : ff.length = 1024 := List.length_replicate
  exact ⟨_, store_part 92 1024 size57 w B (k * 1024) _ t hr (ff.map (Value.int .u8)) (by rw [List.length_map]; exact e) (by rw [List.size_toArray, List.length_append, List.length_map]; omega) (oneU8 _), h.over _ t hr _ _ (fun x hx => by rw [ff, List.mem_replicate] at hx; omega) (by rw [e]; omega), (Kp.refl _ _).row _ _ (.inl (by simp))⟩

set_option linter.unusedSimpArgs false in
set_option maxHeartbeats 4000000 in
set_option maxRecDepth 100000 in
theorem write1_any {w : World} {p B n cap : Nat} {cs : List Int} {st : Int} {ar : Bool} {lf : Int} {of : Bool} (h : IsF w p B n cap cs st ar lf of) (k d : Nat) (hk : k < n) (hd : d < 256) (b0 b1 b2 b3 : Int) (hw : Oct [b0, b1, b2, b3]) (bb fb sb db : Nat) (nb : bb ≠ B) (nf : fb ≠ B) (ns : sb ≠ B) (nd : db ≠ B)
    (hbb : w.heap[bb]? = some (.cells (w4 b0 b1 b2 b3) 53 (0, 0))) (hfb : w.cell? ⟨fb, 0, none⟩ = some (.pointer (some ⟨p, 0, none⟩))) (hsb : w.cell? ⟨sb, 0, none⟩ = some (.int .i64 k)) (hdb : w.cell? ⟨db, 0, none⟩ = some (.int .i64 d)) :
    Calls Try.prog 50 #[.pointer (some ⟨bb, 0, none⟩), .pointer (some ⟨fb, 0, none⟩), .pointer (some ⟨sb, 0, none⟩), .pointer (some ⟨db, 0, none⟩)] w fun e w' => e = .returned (.tuple #[]) ∧ IsF w' p B n cap (put cs (k * 1024 + d * 4) [b0, b1, b2, b3]) st ar lf of ∧ Kp [B] w w' := by
  have e0 : w.cell? ⟨bb, 0, none⟩ = some (.int .u8 b0) := by rw [cell_of_row w _ _ _ _ _ hbb]; rfl
  have e1 : w.cell? ⟨bb, 1, none⟩ = some (.int .u8 b1) := by rw [cell_of_row w _ _ _ _ _ hbb]; rfl
  have e2 : w.cell? ⟨bb, 2, none⟩ = some (.int .u8 b2) := by rw [cell_of_row w _ _ _ _ _ hbb]; rfl
  have e3 : w.cell? ⟨bb, 3, none⟩ = some (.int .u8 b3) := by rw [cell_of_row w _ _ _ _ _ hbb]; rfl
  have k0 := h.c0
  have gk : (k : Int) < n := by omega
  have gd : (d : Int) < 256 := by omega
  have np := h.ne
  have hd' : IsF w.drew p B n cap cs st ar lf of := h.keep rfl rfl
  obtain ⟨w', hst, hF, hK⟩ := hd'.putWord k d hk hd b0 b1 b2 b3 hw
  have hKK : Kp [B] w w' := (Kp.refl _ _).drew.trans hK
  have RES : Hid (IsF w' p B n cap (put cs (k * 1024 + d * 4) [b0, b1, b2, b3]) st ar lf of ∧ Kp [B] w w') := ⟨hF, hKK⟩
  have KS : w'.cell? ⟨fb, 0, none⟩ = some (.pointer (some ⟨p, 0, none⟩)) ∧ w'.cell? ⟨sb, 0, none⟩ = some (.int .i64 (k : Int)) ∧ w'.cell? ⟨db, 0, none⟩ = some (.int .i64 (d : Int)) ∧ w'.cell? ⟨bb, 0, none⟩ = some (.int .u8 b0) ∧ w'.cell? ⟨bb, 1, none⟩ = some (.int .u8 b1) ∧ w'.cell? ⟨bb, 2, none⟩ = some (.int .u8 b2) ∧ w'.cell? ⟨bb, 3, none⟩ = some (.int .u8 b3) ∧ w'.cell? ⟨p, 0, none⟩ = some (.slice (some ⟨B, 0, none⟩) n cap) := ⟨(hKK.cell hfb (by simpa using nf)), (hKK.cell hsb (by simpa using ns)), (hKK.cell hdb (by simpa using nd)), (hKK.cell e0 (by simpa using nb)), (hKK.cell e1 (by simpa using nb)), (hKK.cell e2 (by simpa using nb)), (hKK.cell e3 (by simpa using nb)), (hKK.cell k0 (by simpa using np))⟩
  have KS0 : w.drew.cell? ⟨fb, 0, none⟩ = some (.pointer (some ⟨p, 0, none⟩)) ∧ w.drew.cell? ⟨sb, 0, none⟩ = some (.int .i64 (k : Int)) ∧ w.drew.cell? ⟨db, 0, none⟩ = some (.int .i64 (d : Int)) ∧ w.drew.cell? ⟨bb, 0, none⟩ = some (.int .u8 b0) ∧ w.drew.cell? ⟨bb, 1, none⟩ = some (.int .u8 b1) ∧ w.drew.cell? ⟨bb, 2, none⟩ = some (.int .u8 b2) ∧ w.drew.cell? ⟨bb, 3, none⟩ = some (.int .u8 b3) ∧ w.drew.cell? ⟨p, 0, none⟩ = some (.slice (some ⟨B, 0, none⟩) n cap) := ⟨hfb, hsb, hdb, e0, e1, e2, e3, k0⟩
  clear hF hK hd' h hbb hw hKK hfb hsb hdb e0 e1 e2 e3 k0
  go_enter Try.func50, Try.ntmps50
  go_wp2_with fail
  refine wp_region_held_drew (S := fun x => x.cell? ⟨fb, 0, none⟩ = some (.pointer (some ⟨p, 0, none⟩)) ∧ x.cell? ⟨sb, 0, none⟩ = some (.int .i64 (k : Int)) ∧ x.cell? ⟨db, 0, none⟩ = some (.int .i64 (d : Int)) ∧ x.cell? ⟨bb, 0, none⟩ = some (.int .u8 b0) ∧ x.cell? ⟨bb, 1, none⟩ = some (.int .u8 b1) ∧ x.cell? ⟨bb, 2, none⟩ = some (.int .u8 b2) ∧ x.cell? ⟨bb, 3, none⟩ = some (.int .u8 b3) ∧ x.cell? ⟨p, 0, none⟩ = some (.slice (some ⟨B, 0, none⟩) n cap)) (by kernel_rfl) (KS0) (fun hHeld => ?_)
  refine wpAnyH_take (i := 0) (v := (.pointer (some ⟨p, 0, none⟩))) rfl (by kernel_rfl) (by kernel_rfl) (by kernel_rfl) (fun _ _ _ h => h) (Or.inl ⟨by rfl, ?_⟩) (by assumption) ?_
  · intro w9 hSw
    try dsimp only at hSw
    go_simp
    all_goals try decide
    all_goals try assumption
  try simp only [Act.put, List.getElem_toArray, List.getElem_cons_succ, List.getElem_cons_zero, List.setIfInBounds_toArray, List.set_cons_zero, List.set_cons_succ]
  refine wpAnyH_take (i := 1) (v := (.pointer (some ⟨p, 0, none⟩))) rfl (by kernel_rfl) (by kernel_rfl) (by kernel_rfl) (fun _ _ _ h => h) (Or.inl ⟨by rfl, ?_⟩) (by assumption) ?_
  · intro w9 hSw
    try dsimp only at hSw
    go_simp
    all_goals try decide
    all_goals try assumption
  try simp only [Act.put, List.getElem_toArray, List.getElem_cons_succ, List.getElem_cons_zero, List.setIfInBounds_toArray, List.set_cons_zero, List.set_cons_succ]
  refine wpAnyH_take (i := 2) (v := (.pointer (some ⟨p, 0, none⟩))) rfl (by kernel_rfl) (by kernel_rfl) (by kernel_rfl) (fun _ _ _ h => h) (Or.inl ⟨by rfl, ?_⟩) (by assumption) ?_
  · intro w9 hSw
    try dsimp only at hSw
    go_simp
    all_goals try decide
    all_goals try assumption
  try simp only [Act.put, List.getElem_toArray, List.getElem_cons_succ, List.getElem_cons_zero, List.setIfInBounds_toArray, List.set_cons_zero, List.set_cons_succ]
  refine wpAnyH_take (i := 3) (v := (.slice (some ⟨B, 0, none⟩) n cap)) rfl (by kernel_rfl) (by kernel_rfl) (by kernel_rfl) (fun _ _ _ h => h) (Or.inl ⟨by rfl, ?_⟩) (by assumption) ?_
  · intro w9 hSw
    try dsimp only at hSw
    go_simp
    all_goals try decide
    all_goals try assumption
  try simp only [Act.put, List.getElem_toArray, List.getElem_cons_succ, List.getElem_cons_zero, List.setIfInBounds_toArray, List.set_cons_zero, List.set_cons_succ]
  refine wpAnyH_take (i := 4) (v := (.int .i64 (k : Int))) rfl (by kernel_rfl) (by kernel_rfl) (by kernel_rfl) (fun _ _ _ h => h) (Or.inl ⟨by rfl, ?_⟩) (by assumption) ?_
  · intro w9 hSw
    try dsimp only at hSw
    go_simp
    all_goals try decide
    all_goals try assumption
  try simp only [Act.put, List.getElem_toArray, List.getElem_cons_succ, List.getElem_cons_zero, List.setIfInBounds_toArray, List.set_cons_zero, List.set_cons_succ]
  refine wpAnyH_take (i := 5) (v := (.int .i64 (d : Int))) rfl (by kernel_rfl) (by kernel_rfl) (by kernel_rfl) (fun _ _ _ h => h) (Or.inl ⟨by rfl, ?_⟩) (by assumption) ?_
  · intro w9 hSw
    try dsimp only at hSw
    go_simp
    all_goals try decide
    all_goals try assumption
  try simp only [Act.put, List.getElem_toArray, List.getElem_cons_succ, List.getElem_cons_zero, List.setIfInBounds_toArray, List.set_cons_zero, List.set_cons_succ]
  refine wpAnyH_take (i := 6) (v := (.agg (w4 b0 b1 b2 b3))) rfl (by kernel_rfl) (by kernel_rfl) (by kernel_rfl) (fun _ _ _ h => h) (Or.inl ⟨by rfl, ?_⟩) (by assumption) ?_
  · intro w9 hSw
    try dsimp only at hSw
    go_simp
    all_goals try decide
    all_goals try assumption
  try simp only [Act.put, List.getElem_toArray, List.getElem_cons_succ, List.getElem_cons_zero, List.setIfInBounds_toArray, List.set_cons_zero, List.set_cons_succ]
  refine wpAnyH_take (i := 7) (v := (.pointer (some ⟨B, k * 1024, none⟩))) rfl (by kernel_rfl) (by kernel_rfl) (by kernel_rfl) (fun _ _ _ h => h) (Or.inl ⟨by rfl, ?_⟩) (by assumption) ?_
  · intro w9 hSw
    try dsimp only at hSw
    go_simp
    all_goals try decide
    all_goals try assumption
  try simp only [Act.put, List.getElem_toArray, List.getElem_cons_succ, List.getElem_cons_zero, List.setIfInBounds_toArray, List.set_cons_zero, List.set_cons_succ]
  refine wpAnyH_take (i := 8) (v := (.pointer (some ⟨B, k * 1024 + d * 4, none⟩))) rfl (by kernel_rfl) (by kernel_rfl) (by kernel_rfl) (fun _ _ _ h => h) (Or.inl ⟨by rfl, ?_⟩) (by assumption) ?_
  · intro w9 hSw
    try dsimp only at hSw
    go_simp
    all_goals try decide
    all_goals try assumption
  try simp only [Act.put, List.getElem_toArray, List.getElem_cons_succ, List.getElem_cons_zero, List.setIfInBounds_toArray, List.set_cons_zero, List.set_cons_succ]
  refine wpAnyH_ready (rs := [9]) (by kernel_rfl) (by simp) ?_
  refine AllReadyH.cons rfl (fun K' hK => ?_) AllReadyH.nil
  rw [if_pos (by rfl)]
  simp only [List.getElem_toArray, List.getElem_cons_succ, List.getElem_cons_zero]
  refine wp_store_by 53 (.tmp 12) (.tmp 10) rfl _ _ rfl rfl hst ?_
  refine hK.out _ _ KS (fun _ => ?_)
  refine wpAnyH_done (by kernel_rfl) ?_ _
  go_wp2_with fail
  go_end0
  exact ⟨rfl, RES.out⟩

set_option linter.unusedSimpArgs false in
set_option maxHeartbeats 4000000 in
set_option maxRecDepth 100000 in
theorem erase1_any {w : World} {p B n cap : Nat} {cs : List Int} {st : Int} {ar : Bool} {lf : Int} {of : Bool} (h : IsF w p B n cap cs st ar lf of) (k : Nat) (hk : k < n) (fb sb : Nat) (nf : fb ≠ B) (ns : sb ≠ B)
    (hfb : w.cell? ⟨fb, 0, none⟩ = some (.pointer (some ⟨p, 0, none⟩))) (hsb : w.cell? ⟨sb, 0, none⟩ = some (.int .i64 k)) :
    Calls Try.prog 75 #[.pointer (some ⟨fb, 0, none⟩), .pointer (some ⟨sb, 0, none⟩)] w fun e w' => e = .returned (.tuple #[]) ∧ IsF w' p B n cap (put cs (k * 1024) ff) st ar lf of ∧ Kp [B] w w' := by
  have k0 := h.c0
  have gk : (k : Int) < n := by omega
  have np := h.ne
  have hd' : IsF w.drew p B n cap cs st ar lf of := h.keep rfl rfl
  have KS0 : w.drew.cell? ⟨fb, 0, none⟩ = some (.pointer (some ⟨p, 0, none⟩)) ∧ w.drew.cell? ⟨sb, 0, none⟩ = some (.int .i64 (k : Int)) ∧ w.drew.cell? ⟨p, 0, none⟩ = some (.slice (some ⟨B, 0, none⟩) n cap) := ⟨hfb, hsb, k0⟩
  have KZ : Hid (∀ z, Below w.drew.heap.size w.drew z → z.cell? ⟨fb, 0, none⟩ = some (.pointer (some ⟨p, 0, none⟩)) ∧ z.cell? ⟨sb, 0, none⟩ = some (.int .i64 (k : Int)) ∧ z.cell? ⟨p, 0, none⟩ = some (.slice (some ⟨B, 0, none⟩) n cap)) := fun z hz => by
    have hk2 : Kp [B] w z := (Kp.refl _ _).drew.trans (Kp.of hz)
    exact ⟨hk2.cell hfb (by simpa using nf), hk2.cell hsb (by simpa using ns), hk2.cell k0 (by simpa using np)⟩
  have PZ : Hid (∀ z, Below w.drew.heap.size w.drew z → ∃ w', (storeVar 92 ⟨B, k * 1024, none⟩ (.agg (ff.map (Value.int .u8)).toArray)).run Try.prog z = .ok () w' ∧ (IsF w' p B n cap (put cs (k * 1024) ff) st ar lf of ∧ Kp [B] w w') ∧ w'.cell? ⟨fb, 0, none⟩ = some (.pointer (some ⟨p, 0, none⟩)) ∧ w'.cell? ⟨sb, 0, none⟩ = some (.int .i64 (k : Int)) ∧ w'.cell? ⟨p, 0, none⟩ = some (.slice (some ⟨B, 0, none⟩) n cap)) := fun z hz => by
    obtain ⟨w', hst, hF, hK⟩ := (hd'.next hz).putSec k hk
    have hKK : Kp [B] w w' := ((Kp.refl _ _).drew.trans (Kp.of hz)).trans hK
    exact ⟨w', hst, ⟨hF, hKK⟩, hKK.cell hfb (by simpa using nf), hKK.cell hsb (by simpa using ns), hKK.cell k0 (by simpa using np)⟩
  clear hd' h hfb hsb k0
  go_enter Try.func75, Try.ntmps75
  go_wp2_with fail
  refine wp_region_held_drew (S := fun x => x.cell? ⟨fb, 0, none⟩ = some (.pointer (some ⟨p, 0, none⟩)) ∧ x.cell? ⟨sb, 0, none⟩ = some (.int .i64 (k : Int)) ∧ x.cell? ⟨p, 0, none⟩ = some (.slice (some ⟨B, 0, none⟩) n cap)) (by kernel_rfl) (KS0) (fun hHeld => ?_)
  refine wpAnyH_take (i := 0) (v := (.pointer (some ⟨p, 0, none⟩))) rfl (by kernel_rfl) (by kernel_rfl) (by kernel_rfl) (fun _ _ _ h => h) (Or.inl ⟨by rfl, ?_⟩) (by assumption) ?_
  · intro w9 hSw
    try dsimp only at hSw
    go_simp
    all_goals try decide
    all_goals try assumption
  try simp only [Act.put, List.getElem_toArray, List.getElem_cons_succ, List.getElem_cons_zero, List.setIfInBounds_toArray, List.set_cons_zero, List.set_cons_succ]
  refine wpAnyH_take (i := 1) (v := (.pointer (some ⟨p, 0, none⟩))) rfl (by kernel_rfl) (by kernel_rfl) (by kernel_rfl) (fun _ _ _ h => h) (Or.inl ⟨by rfl, ?_⟩) (by assumption) ?_
  · intro w9 hSw
    try dsimp only at hSw
    go_simp
    all_goals try decide
    all_goals try assumption
  try simp only [Act.put, List.getElem_toArray, List.getElem_cons_succ, List.getElem_cons_zero, List.setIfInBounds_toArray, List.set_cons_zero, List.set_cons_succ]
  refine wpAnyH_take (i := 2) (v := (.pointer (some ⟨p, 0, none⟩))) rfl (by kernel_rfl) (by kernel_rfl) (by kernel_rfl) (fun _ _ _ h => h) (Or.inl ⟨by rfl, ?_⟩) (by assumption) ?_
  · intro w9 hSw
    try dsimp only at hSw
    go_simp
    all_goals try decide
    all_goals try assumption
  try simp only [Act.put, List.getElem_toArray, List.getElem_cons_succ, List.getElem_cons_zero, List.setIfInBounds_toArray, List.set_cons_zero, List.set_cons_succ]
  refine wpAnyH_take (i := 3) (v := (.slice (some ⟨B, 0, none⟩) n cap)) rfl (by kernel_rfl) (by kernel_rfl) (by kernel_rfl) (fun _ _ _ h => h) (Or.inl ⟨by rfl, ?_⟩) (by assumption) ?_
  · intro w9 hSw
    try dsimp only at hSw
    go_simp
    all_goals try decide
    all_goals try assumption
  try simp only [Act.put, List.getElem_toArray, List.getElem_cons_succ, List.getElem_cons_zero, List.setIfInBounds_toArray, List.set_cons_zero, List.set_cons_succ]
  refine wpAnyH_take (i := 4) (v := (.int .i64 (k : Int))) rfl (by kernel_rfl) (by kernel_rfl) (by kernel_rfl) (fun _ _ _ h => h) (Or.inl ⟨by rfl, ?_⟩) (by assumption) ?_
  · intro w9 hSw
    try dsimp only at hSw
    go_simp
    all_goals try decide
    all_goals try assumption
  try simp only [Act.put, List.getElem_toArray, List.getElem_cons_succ, List.getElem_cons_zero, List.setIfInBounds_toArray, List.set_cons_zero, List.set_cons_succ]
  refine wpAnyH_ready (rs := [5]) (by kernel_rfl) (by simp) ?_
  refine AllReadyH.cons rfl (fun K' hK => ?_) AllReadyH.nil
  rw [if_pos (by rfl)]
  simp only [List.getElem_toArray, List.getElem_cons_succ, List.getElem_cons_zero]
  go_wp2_with fail
  refine (erased_any _).mono ?_
  rintro e z ⟨rfl, hz⟩
  try go_wp2_with fail
  refine hK.out _ _ (KZ.out z hz) (fun hHeld => ?_)
  clear hK K'
  try simp only [Act.put, List.getElem_toArray, List.getElem_cons_succ, List.getElem_cons_zero, List.setIfInBounds_toArray, List.set_cons_zero, List.set_cons_succ]
  refine wpAnyH_take (i := 6) (v := (.pointer (some ⟨B, k * 1024, none⟩))) rfl (by kernel_rfl) (by kernel_rfl) (by kernel_rfl) (fun _ _ _ h => h) (Or.inl ⟨by rfl, ?_⟩) (by assumption) ?_
  · intro w9 hSw
    try dsimp only at hSw
    go_simp
    all_goals try decide
    all_goals try assumption
  try simp only [Act.put, List.getElem_toArray, List.getElem_cons_succ, List.getElem_cons_zero, List.setIfInBounds_toArray, List.set_cons_zero, List.set_cons_succ]
  obtain ⟨w', hst, RES, KS⟩ := PZ.out z hz
  refine wpAnyH_ready (rs := [7]) (by kernel_rfl) (by simp) ?_
  refine AllReadyH.cons rfl (fun K' hK => ?_) AllReadyH.nil
  rw [if_pos (by rfl)]
  simp only [List.getElem_toArray, List.getElem_cons_succ, List.getElem_cons_zero]
  refine wp_store_by 92 (.tmp 8) (.tmp 7) rfl _ _ rfl rfl hst ?_
  refine hK.out _ _ KS (fun _ => ?_)
  refine wpAnyH_done (by kernel_rfl) ?_ _
  go_wp2_with fail
  go_end0
  exact ⟨rfl, RES⟩
#print axioms write1_any
#print axioms erase1_any
end Go.Proofs.Ytgpbmccjcjoijaa
