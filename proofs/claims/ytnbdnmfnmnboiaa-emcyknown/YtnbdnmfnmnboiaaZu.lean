/-
  The law's one: a call, of both.
-/
import Derived.Test.YtnbdnmfnmnboiaaZt
import Derived.Test.YtnbdnmfnmnboiaaTk9
namespace Go.Proofs.Ytnbdnmfnmnboiaa
open Go.RowKit

/-- A call of errors that came in. -/
structure Opx where
  k : Int
  c : Int
  b : Nat
  i0 : Int
  i1 : Int
  i2 : Int
  i3 : Int
  i4 : Int
  now : Int
def Opx.C (x : Opx) : List Value := [.int .u8 x.k, .int .u16 x.c, .int .u8 (x.b : Int), .int .u8 x.i0, .int .u8 x.i1, .int .u8 x.i2, .int .u8 x.i3, .int .u8 x.i4, .int .i64 x.now]
structure Opx.Ok (x : Opx) : Prop where
  k0 : 0 ≤ x.k
  k1 : x.k < 256
  c0 : 0 ≤ x.c ∧ x.c < 65536
  o : Oct [x.i0, x.i1, x.i2, x.i3, x.i4]
/-- What a call leaves. -/
def ES.step (S : ES) (x : Opx) : ES :=
  if x.k % 8 = 3 then S.clear x.c else if x.k % 8 = 4 ∨ x.k % 8 = 5 then S.tick x.now else if x.k % 8 = 6 then S.forget else if x.k % 8 = 7 then S.reset else S.raise x.c x.b x.i0 x.i1 x.i2 x.i3 x.i4
abbrev rowX (x : Opx) : Array Value := #[.int .u8 x.k, .int .u16 x.c, .int .u8 (x.b : Int), .int .u8 x.i0, .int .u8 x.i1, .int .u8 x.i2, .int .u8 x.i3, .int .u8 x.i4, .int .i64 x.now]
theorem loadI (w : World) (B : Nat) (x : Opx) (h : w.heap[B]? = some (.cells (rowX x) 35 (0, 0))) : (loadVar 33 ⟨B, 3, none⟩).run Try.prog w = .ok (arr5 x.i0 x.i1 x.i2 x.i3 x.i4) w :=
  load_part 33 5 (by kernel_rfl) (fun w => by kernel_rfl) w B 3 x.C 35 h (by simp [Opx.C])
def OnePost (w0 w w' : World) (p m q : Nat) (S : ES) (A : List Nat) (e : Ending) : Prop := e = .returned (.bool true) ∧ Tw w0 w' p m q S S A ∧ ∀ a ∈ A, w'.heap[a]? = w.heap[a]?
set_option linter.unusedSimpArgs false in
set_option maxHeartbeats 4000000 in
set_option maxRecDepth 100000 in
theorem one_clear {w0 w : World} {p m q : Nat} {S : ES} {A : List Nat} (h : Tw w0 w p m q S S A) (x : Opx) (hx : x.Ok) (hr : x.k % 8 = 3) : Calls Try.prog 11 #[.pointer (some ⟨p, 0, none⟩), .pointer (some ⟨q, 0, none⟩), .agg (rowX x)] w fun e w' => OnePost w0 w w' p m q (S.clear x.c) A e := by
  have km := Int.tmod_eq_emod_of_nonneg (b := 8) hx.k0
  have HB : (w.alloc (.cells (rowX x) 35)).heap[w.heap.size]? = some (.cells (rowX x) 35 (0, 0)) := at11 _ _ _ rfl
  have H1 := h.add (w' := w.alloc (.cells (rowX x) 35)) (by repeat (first | exact Below.refl _ _ | apply Below.drew | apply Below.al)) w.heap.size (Nat.le_refl _) (by simp)
  have AO : Hid (∀ a ∈ A, a < w.heap.size) := by
    obtain ⟨v, sv, fv, wv, t, _, _, _, _, h5, _⟩ := h
    exact h5
  have BW : Hid (w.heap.size ∉ A) := fun hm => by have := AO.out _ hm; omega
  have R1 : x.k.tmod 8 = 3 := by rw [km]; exact hr
  clear km hr h
  obtain ⟨y, hy⟩ : ∃ y, y = w.alloc (.cells (rowX x) 35) := ⟨_, rfl⟩
  rw [← hy] at HB H1
  have c0 : y.cell? ⟨w.heap.size, 0, none⟩ = some (.int .u8 x.k) := by rw [cell_of_row y _ 0 _ _ _ HB]; rfl
  have HD1 := H1.next (w' := y.drew) (Below.drew (Below.refl _ _))
  have YA : Hid (∀ a ∈ A, y.heap[a]? = w.heap[a]?) := fun a ha => by rw [hy]; exact Below.heap_alloc _ _ _ (AO.out a ha)
  go_enter Try.func11, Try.ntmps11
  go_wp2_with fail
  rw [← hy]
  clear hy
  try go_wp2_with fail
  refine wp_region_held_drew (S := fun x1 => x1.heap[w.heap.size]? = some (.cells (rowX x) 35 (0, 0))) (by kernel_rfl) (HB) (fun hHeld => ?_)
  refine tk 0 (.pointer (some ⟨p, 0, none⟩)) rfl (.inl ⟨by rfl, ?_⟩) ?_
  · intro w9 hSw
    try dsimp only at hSw
    go_simp
    all_goals try decide
    all_goals try assumption
    all_goals try omega
  try simp only [Act.put, gA, gS, gZ, sA, sZ, sS]
  refine tk 1 (.pointer (some ⟨w.heap.size, 1, none⟩)) rfl (.inl ⟨by rfl, ?_⟩) ?_
  · intro w9 hSw
    try dsimp only at hSw
    go_simp
    all_goals try decide
    all_goals try assumption
    all_goals try omega
  try simp only [Act.put, gA, gS, gZ, sA, sZ, sS]
  refine tk 2 (.int .u16 x.c) rfl (.inl ⟨by rfl, ?_⟩) ?_
  · intro w9 hSw
    try dsimp only at hSw
    have hc9 : w9.cell? ⟨w.heap.size, 1, none⟩ = some (.int .u16 x.c) := by rw [cell_of_row w9 _ 1 _ _ _ hSw]; rfl
    go_simp
    all_goals try decide
    all_goals try assumption
    all_goals try omega
  try simp only [Act.put, gA, gS, gZ, sA, sZ, sS]
  refine tk 4 (.pointer (some ⟨q, 0, none⟩)) rfl (.inl ⟨by rfl, ?_⟩) ?_
  · intro w9 hSw
    try dsimp only at hSw
    go_simp
    all_goals try decide
    all_goals try assumption
    all_goals try omega
  try simp only [Act.put, gA, gS, gZ, sA, sZ, sS]
  refine tk 5 (.pointer (some ⟨w.heap.size, 1, none⟩)) rfl (.inl ⟨by rfl, ?_⟩) ?_
  · intro w9 hSw
    try dsimp only at hSw
    go_simp
    all_goals try decide
    all_goals try assumption
    all_goals try omega
  try simp only [Act.put, gA, gS, gZ, sA, sZ, sS]
  refine tk 6 (.int .u16 x.c) rfl (.inl ⟨by rfl, ?_⟩) ?_
  · intro w9 hSw
    try dsimp only at hSw
    have hc9 : w9.cell? ⟨w.heap.size, 1, none⟩ = some (.int .u16 x.c) := by rw [cell_of_row w9 _ 1 _ _ _ hSw]; rfl
    go_simp
    all_goals try decide
    all_goals try assumption
    all_goals try omega
  try simp only [Act.put, gA, gS, gZ, sA, sZ, sS]
  refine wpAnyH_ready (rs := [3]) (by kernel_rfl) (by simp) ?_
  refine AllReadyH.cons rfl (fun K' hK => ?_) AllReadyH.nil
  rw [if_pos (by rfl)]
  simp only [gA, gS, gZ]
  have S0 := hHeld
  go_wp2_with fail
  refine (HD1.callE fun v hv => clear_any hv x.c).mono ?_
  rintro e wa ⟨rfl, Twa, Kwa⟩
  try go_wp2_with fail
  refine hK.out _ _ ((Kwa _ (by simp)).trans S0) (fun hHeld => ?_)
  clear hK K'
  try simp only [Act.put, gA, gS, gZ, sA, sZ, sS]
  refine wpAnyH_ready (rs := [7]) (by kernel_rfl) (by simp) ?_
  refine AllReadyH.cons rfl (fun K' hK => ?_) AllReadyH.nil
  rw [if_pos (by rfl)]
  simp only [gA, gS, gZ]
  have S0 := hHeld
  go_wp2_with fail
  refine (Twa.callD fun sv fv wv t hd => rclear_any hd x.c).mono ?_
  rintro e wb ⟨rfl, Twb, Kwb⟩
  try go_wp2_with fail
  refine hK.out _ _ ((Kwb _ (by simp)).trans S0) (fun hHeld => ?_)
  clear hK K'
  try simp only [Act.put, gA, gS, gZ, sA, sZ, sS]
  refine tk 8 (.bool true) rfl (.inl ⟨by rfl, ?_⟩) ?_
  · intro w9 hSw
    try dsimp only at hSw
    go_simp
    all_goals try decide
    all_goals try assumption
    all_goals try omega
  try simp only [Act.put, gA, gS, gZ, sA, sZ, sS]
  refine tk 9 (.bool true) rfl (.inl ⟨by rfl, ?_⟩) ?_
  · intro w9 hSw
    try dsimp only at hSw
    go_simp
    all_goals try decide
    all_goals try assumption
    all_goals try omega
  try simp only [Act.put, gA, gS, gZ, sA, sZ, sS]
  refine wpAnyH_done (by kernel_rfl) ?_ _
  clear hHeld
  have FIN : Hid (Tw w0 wb p m q (S.clear x.c) (S.clear x.c) A ∧ ∀ a ∈ A, wb.heap[a]? = w.heap[a]?) := ⟨Twb.less (fun a ha => List.mem_cons_of_mem _ ha), fun a ha => (Kwb a (List.mem_cons_of_mem _ ha)).trans ((Kwa a (List.mem_cons_of_mem _ ha)).trans (YA.out a ha))⟩
  clear Twa Twb Kwa Kwb
  go_wp2_with fail
  go_ret
  exact ⟨rfl, FIN.out⟩
set_option linter.unusedSimpArgs false in
set_option maxHeartbeats 4000000 in
set_option maxRecDepth 100000 in
theorem one_raise {w0 w : World} {p m q : Nat} {S : ES} {A : List Nat} (h : Tw w0 w p m q S S A) (x : Opx) (hx : x.Ok) (h3 : ¬ x.k % 8 = 3) (h4 : ¬ x.k % 8 = 4) (h5 : ¬ x.k % 8 = 5) (h6 : ¬ x.k % 8 = 6) (h7 : ¬ x.k % 8 = 7) : Calls Try.prog 11 #[.pointer (some ⟨p, 0, none⟩), .pointer (some ⟨q, 0, none⟩), .agg (rowX x)] w fun e w' => OnePost w0 w w' p m q (S.raise x.c x.b x.i0 x.i1 x.i2 x.i3 x.i4) A e := by
  have km := Int.tmod_eq_emod_of_nonneg (b := 8) hx.k0
  have HB : (w.alloc (.cells (rowX x) 35)).heap[w.heap.size]? = some (.cells (rowX x) 35 (0, 0)) := at11 _ _ _ rfl
  have H1 := h.add (w' := w.alloc (.cells (rowX x) 35)) (by repeat (first | exact Below.refl _ _ | apply Below.drew | apply Below.al)) w.heap.size (Nat.le_refl _) (by simp)
  have AO : Hid (∀ a ∈ A, a < w.heap.size) := by
    obtain ⟨v, sv, fv, wv, t, _, _, _, _, h5, _⟩ := h
    exact h5
  have BW : Hid (w.heap.size ∉ A) := fun hm => by have := AO.out _ hm; omega
  have R1 : x.k.tmod 8 = x.k % 8 := km
  have HX : Hid x.Ok := hx
  clear km h hx
  obtain ⟨y, hy⟩ : ∃ y, y = w.alloc (.cells (rowX x) 35) := ⟨_, rfl⟩
  rw [← hy] at HB H1
  have c0 : y.cell? ⟨w.heap.size, 0, none⟩ = some (.int .u8 x.k) := by rw [cell_of_row y _ 0 _ _ _ HB]; rfl
  have HD1 := H1.next (w' := y.drew) (Below.drew (Below.refl _ _))
  have YA : Hid (∀ a ∈ A, y.heap[a]? = w.heap[a]?) := fun a ha => by rw [hy]; exact Below.heap_alloc _ _ _ (AO.out a ha)
  go_enter Try.func11, Try.ntmps11
  go_wp2_with fail
  rw [← hy]
  clear hy
  try go_wp2_with fail
  refine wp_region_held_drew (S := fun x1 => x1.heap[w.heap.size]? = some (.cells (rowX x) 35 (0, 0))) (by kernel_rfl) (HB) (fun hHeld => ?_)
  refine tk 0 (.pointer (some ⟨p, 0, none⟩)) rfl (.inl ⟨by rfl, ?_⟩) ?_
  · intro w9 hSw
    try dsimp only at hSw
    go_simp
    all_goals try decide
    all_goals try assumption
    all_goals try omega
  try simp only [Act.put, gA, gS, gZ, sA, sZ, sS]
  refine tk 1 (.pointer (some ⟨w.heap.size, 1, none⟩)) rfl (.inl ⟨by rfl, ?_⟩) ?_
  · intro w9 hSw
    try dsimp only at hSw
    go_simp
    all_goals try decide
    all_goals try assumption
    all_goals try omega
  try simp only [Act.put, gA, gS, gZ, sA, sZ, sS]
  refine tk 2 (.int .u16 x.c) rfl (.inl ⟨by rfl, ?_⟩) ?_
  · intro w9 hSw
    try dsimp only at hSw
    have hc9 : w9.cell? ⟨w.heap.size, 1, none⟩ = some (.int .u16 x.c) := by rw [cell_of_row w9 _ 1 _ _ _ hSw]; rfl
    go_simp
    all_goals try decide
    all_goals try assumption
    all_goals try omega
  try simp only [Act.put, gA, gS, gZ, sA, sZ, sS]
  refine tk 3 (.pointer (some ⟨w.heap.size, 2, none⟩)) rfl (.inl ⟨by rfl, ?_⟩) ?_
  · intro w9 hSw
    try dsimp only at hSw
    go_simp
    all_goals try decide
    all_goals try assumption
    all_goals try omega
  try simp only [Act.put, gA, gS, gZ, sA, sZ, sS]
  refine tk 4 (.int .u8 (x.b : Int)) rfl (.inl ⟨by rfl, ?_⟩) ?_
  · intro w9 hSw
    try dsimp only at hSw
    have hc9 : w9.cell? ⟨w.heap.size, 2, none⟩ = some (.int .u8 (x.b : Int)) := by rw [cell_of_row w9 _ 2 _ _ _ hSw]; rfl
    go_simp
    all_goals try decide
    all_goals try assumption
    all_goals try omega
  try simp only [Act.put, gA, gS, gZ, sA, sZ, sS]
  refine tk 5 (.pointer (some ⟨w.heap.size, 3, none⟩)) rfl (.inl ⟨by rfl, ?_⟩) ?_
  · intro w9 hSw
    try dsimp only at hSw
    go_simp
    all_goals try decide
    all_goals try assumption
    all_goals try omega
  try simp only [Act.put, gA, gS, gZ, sA, sZ, sS]
  refine tk 6 (arr5 x.i0 x.i1 x.i2 x.i3 x.i4) rfl (.inl ⟨by rfl, ?_⟩) ?_
  · intro w9 hSw
    try dsimp only at hSw
    exact ex_load_by 33 (.tmp 68) rfl _ _ rfl (loadI _ _ x hSw)
  try simp only [Act.put, gA, gS, gZ, sA, sZ, sS]
  refine tk 8 (.pointer (some ⟨q, 0, none⟩)) rfl (.inl ⟨by rfl, ?_⟩) ?_
  · intro w9 hSw
    try dsimp only at hSw
    go_simp
    all_goals try decide
    all_goals try assumption
    all_goals try omega
  try simp only [Act.put, gA, gS, gZ, sA, sZ, sS]
  refine tk 9 (.pointer (some ⟨w.heap.size, 1, none⟩)) rfl (.inl ⟨by rfl, ?_⟩) ?_
  · intro w9 hSw
    try dsimp only at hSw
    go_simp
    all_goals try decide
    all_goals try assumption
    all_goals try omega
  try simp only [Act.put, gA, gS, gZ, sA, sZ, sS]
  refine tk 10 (.int .u16 x.c) rfl (.inl ⟨by rfl, ?_⟩) ?_
  · intro w9 hSw
    try dsimp only at hSw
    have hc9 : w9.cell? ⟨w.heap.size, 1, none⟩ = some (.int .u16 x.c) := by rw [cell_of_row w9 _ 1 _ _ _ hSw]; rfl
    go_simp
    all_goals try decide
    all_goals try assumption
    all_goals try omega
  try simp only [Act.put, gA, gS, gZ, sA, sZ, sS]
  refine tk 11 (.pointer (some ⟨w.heap.size, 2, none⟩)) rfl (.inl ⟨by rfl, ?_⟩) ?_
  · intro w9 hSw
    try dsimp only at hSw
    go_simp
    all_goals try decide
    all_goals try assumption
    all_goals try omega
  try simp only [Act.put, gA, gS, gZ, sA, sZ, sS]
  refine tk 12 (.int .u8 (x.b : Int)) rfl (.inl ⟨by rfl, ?_⟩) ?_
  · intro w9 hSw
    try dsimp only at hSw
    have hc9 : w9.cell? ⟨w.heap.size, 2, none⟩ = some (.int .u8 (x.b : Int)) := by rw [cell_of_row w9 _ 2 _ _ _ hSw]; rfl
    go_simp
    all_goals try decide
    all_goals try assumption
    all_goals try omega
  try simp only [Act.put, gA, gS, gZ, sA, sZ, sS]
  refine tk 13 (.pointer (some ⟨w.heap.size, 3, none⟩)) rfl (.inl ⟨by rfl, ?_⟩) ?_
  · intro w9 hSw
    try dsimp only at hSw
    go_simp
    all_goals try decide
    all_goals try assumption
    all_goals try omega
  try simp only [Act.put, gA, gS, gZ, sA, sZ, sS]
  refine tk 14 (arr5 x.i0 x.i1 x.i2 x.i3 x.i4) rfl (.inl ⟨by rfl, ?_⟩) ?_
  · intro w9 hSw
    try dsimp only at hSw
    exact ex_load_by 33 (.tmp 76) rfl _ _ rfl (loadI _ _ x hSw)
  try simp only [Act.put, gA, gS, gZ, sA, sZ, sS]
  refine wpAnyH_ready (rs := [7]) (by kernel_rfl) (by simp) ?_
  refine AllReadyH.cons rfl (fun K' hK => ?_) AllReadyH.nil
  rw [if_pos (by rfl)]
  simp only [gA, gS, gZ]
  have S0 := hHeld
  go_wp2_with fail
  refine (HD1.callE fun v hv => raise_any hv x.c x.b x.i0 x.i1 x.i2 x.i3 x.i4 HX.out.c0 HX.out.o).mono ?_
  rintro e wa ⟨rfl, Twa, Kwa⟩
  try go_wp2_with fail
  refine hK.out _ _ ((Kwa _ (by simp)).trans S0) (fun hHeld => ?_)
  clear hK K'
  try simp only [Act.put, gA, gS, gZ, sA, sZ, sS]
  refine wpAnyH_ready (rs := [15]) (by kernel_rfl) (by simp) ?_
  refine AllReadyH.cons rfl (fun K' hK => ?_) AllReadyH.nil
  rw [if_pos (by rfl)]
  simp only [gA, gS, gZ]
  have S0 := hHeld
  go_wp2_with fail
  refine (Twa.callD fun sv fv wv t hd => rraise_any hd x.c x.b x.i0 x.i1 x.i2 x.i3 x.i4 HX.out.c0 HX.out.o).mono ?_
  rintro e wb ⟨rfl, Twb, Kwb⟩
  try go_wp2_with fail
  refine hK.out _ _ ((Kwb _ (by simp)).trans S0) (fun hHeld => ?_)
  clear hK K'
  try simp only [Act.put, gA, gS, gZ, sA, sZ, sS]
  refine tk 16 (.bool true) rfl (.inl ⟨by rfl, ?_⟩) ?_
  · intro w9 hSw
    try dsimp only at hSw
    go_simp
    all_goals try decide
    all_goals try assumption
    all_goals try omega
  try simp only [Act.put, gA, gS, gZ, sA, sZ, sS]
  refine tk 17 (.bool true) rfl (.inl ⟨by rfl, ?_⟩) ?_
  · intro w9 hSw
    try dsimp only at hSw
    go_simp
    all_goals try decide
    all_goals try assumption
    all_goals try omega
  try simp only [Act.put, gA, gS, gZ, sA, sZ, sS]
  refine wpAnyH_done (by kernel_rfl) ?_ _
  clear hHeld
  have FIN : Hid (Tw w0 wb p m q (S.raise x.c x.b x.i0 x.i1 x.i2 x.i3 x.i4) (S.raise x.c x.b x.i0 x.i1 x.i2 x.i3 x.i4) A ∧ ∀ a ∈ A, wb.heap[a]? = w.heap[a]?) := ⟨Twb.less (fun a ha => List.mem_cons_of_mem _ ha), fun a ha => (Kwb a (List.mem_cons_of_mem _ ha)).trans ((Kwa a (List.mem_cons_of_mem _ ha)).trans (YA.out a ha))⟩
  clear Twa Twb Kwa Kwb
  go_wp2_with fail
  go_ret
  exact ⟨rfl, FIN.out⟩
set_option linter.unusedSimpArgs false in
set_option maxHeartbeats 4000000 in
set_option maxRecDepth 100000 in
theorem one_forget {w0 w : World} {p m q : Nat} {S : ES} {A : List Nat} (h : Tw w0 w p m q S S A) (x : Opx) (hx : x.Ok) (hr : x.k % 8 = 6) : Calls Try.prog 11 #[.pointer (some ⟨p, 0, none⟩), .pointer (some ⟨q, 0, none⟩), .agg (rowX x)] w fun e w' => OnePost w0 w w' p m q (S.forget) A e := by
  have km := Int.tmod_eq_emod_of_nonneg (b := 8) hx.k0
  have HB : (w.alloc (.cells (rowX x) 35)).heap[w.heap.size]? = some (.cells (rowX x) 35 (0, 0)) := at11 _ _ _ rfl
  have H1 := h.add (w' := w.alloc (.cells (rowX x) 35)) (by repeat (first | exact Below.refl _ _ | apply Below.drew | apply Below.al)) w.heap.size (Nat.le_refl _) (by simp)
  have AO : Hid (∀ a ∈ A, a < w.heap.size) := by
    obtain ⟨v, sv, fv, wv, t, _, _, _, _, h5, _⟩ := h
    exact h5
  have BW : Hid (w.heap.size ∉ A) := fun hm => by have := AO.out _ hm; omega
  have R1 : x.k.tmod 8 = 6 := by rw [km]; exact hr
  clear km hr h
  obtain ⟨y, hy⟩ : ∃ y, y = w.alloc (.cells (rowX x) 35) := ⟨_, rfl⟩
  rw [← hy] at HB H1
  have c0 : y.cell? ⟨w.heap.size, 0, none⟩ = some (.int .u8 x.k) := by rw [cell_of_row y _ 0 _ _ _ HB]; rfl
  have HD1 := H1.next (w' := y.drew) (Below.drew (Below.refl _ _))
  have YA : Hid (∀ a ∈ A, y.heap[a]? = w.heap[a]?) := fun a ha => by rw [hy]; exact Below.heap_alloc _ _ _ (AO.out a ha)
  go_enter Try.func11, Try.ntmps11
  go_wp2_with fail
  rw [← hy]
  clear hy
  try go_wp2_with fail
  refine (H1.callE fun v hv => forget_any hv).mono ?_
  rintro e wa ⟨rfl, Ta, Ka⟩
  obtain ⟨Tn, Kn, zq, ⟨u3, k3⟩, lq⟩ := Ta.noFields
  have FIN : Hid (Tw w0 (wa.setCell ⟨q, 3, none⟩ (.slice none 0 0)) p m q S.forget S.forget A ∧ ∀ a ∈ A, (wa.setCell ⟨q, 3, none⟩ (.slice none 0 0)).heap[a]? = w.heap[a]?) := ⟨Tn.less (fun a ha => List.mem_cons_of_mem _ ha), fun a ha => (Kn a (List.mem_cons_of_mem _ ha)).trans ((Ka a (List.mem_cons_of_mem _ ha)).trans (YA.out a ha))⟩
  clear Ta Ka Tn Kn
  go_wp2_with fail
  go_ret
  exact ⟨rfl, FIN.out⟩
set_option linter.unusedSimpArgs false in
set_option maxHeartbeats 4000000 in
set_option maxRecDepth 100000 in
theorem one_reset {w0 w : World} {p m q : Nat} {S : ES} {A : List Nat} (h : Tw w0 w p m q S S A) (x : Opx) (hx : x.Ok) (hr : x.k % 8 = 7) : Calls Try.prog 11 #[.pointer (some ⟨p, 0, none⟩), .pointer (some ⟨q, 0, none⟩), .agg (rowX x)] w fun e w' => OnePost w0 w w' p m q (S.reset) A e := by
  have km := Int.tmod_eq_emod_of_nonneg (b := 8) hx.k0
  have HB : (w.alloc (.cells (rowX x) 35)).heap[w.heap.size]? = some (.cells (rowX x) 35 (0, 0)) := at11 _ _ _ rfl
  have H1 := h.add (w' := w.alloc (.cells (rowX x) 35)) (by repeat (first | exact Below.refl _ _ | apply Below.drew | apply Below.al)) w.heap.size (Nat.le_refl _) (by simp)
  have AO : Hid (∀ a ∈ A, a < w.heap.size) := by
    obtain ⟨v, sv, fv, wv, t, _, _, _, _, h5, _⟩ := h
    exact h5
  have BW : Hid (w.heap.size ∉ A) := fun hm => by have := AO.out _ hm; omega
  have R1 : x.k.tmod 8 = 7 := by rw [km]; exact hr
  clear km hr h
  obtain ⟨y, hy⟩ : ∃ y, y = w.alloc (.cells (rowX x) 35) := ⟨_, rfl⟩
  rw [← hy] at HB H1
  have c0 : y.cell? ⟨w.heap.size, 0, none⟩ = some (.int .u8 x.k) := by rw [cell_of_row y _ 0 _ _ _ HB]; rfl
  have HD1 := H1.next (w' := y.drew) (Below.drew (Below.refl _ _))
  have YA : Hid (∀ a ∈ A, y.heap[a]? = w.heap[a]?) := fun a ha => by rw [hy]; exact Below.heap_alloc _ _ _ (AO.out a ha)
  go_enter Try.func11, Try.ntmps11
  go_wp2_with fail
  rw [← hy]
  clear hy
  try go_wp2_with fail
  refine (H1.callE fun v hv => reset_any hv).mono ?_
  rintro e wa ⟨rfl, Ta, Ka⟩
  go_wp2_with fail
  refine (Ta.callD fun sv fv wv t hd => rreset_any hd).mono ?_
  rintro e wb ⟨rfl, Tb, Kb⟩
  have FIN : Hid (Tw w0 wb p m q S.reset S.reset A ∧ ∀ a ∈ A, wb.heap[a]? = w.heap[a]?) := ⟨Tb.less (fun a ha => List.mem_cons_of_mem _ ha), fun a ha => (Kb a (List.mem_cons_of_mem _ ha)).trans ((Ka a (List.mem_cons_of_mem _ ha)).trans (YA.out a ha))⟩
  clear Ta Ka Tb Kb
  go_wp2_with fail
  go_ret
  exact ⟨rfl, FIN.out⟩
theorem said_form (S : ES) (now : Int) : ∃ (i n d0 d1 d2 d3 d4 d5 d6 d7 : Int) (r : Bool), S.said now = frC i n d0 d1 d2 d3 d4 d5 d6 d7 r := by
  unfold ES.said
  split
  · split
    · exact ⟨_, _, _, _, _, _, _, _, _, _, _, rfl⟩
    · exact ⟨_, _, _, _, _, _, _, _, _, _, _, rfl⟩
  · exact ⟨_, _, _, _, _, _, _, _, _, _, _, rfl⟩
set_option linter.unusedSimpArgs false in
set_option maxHeartbeats 4000000 in
set_option maxRecDepth 100000 in
theorem one_tick {w0 w : World} {p m q : Nat} {S : ES} {A : List Nat} (h : Tw w0 w p m q S S A) (x : Opx) (hx : x.Ok) (hr : x.k % 8 = 4 ∨ x.k % 8 = 5) : Calls Try.prog 11 #[.pointer (some ⟨p, 0, none⟩), .pointer (some ⟨q, 0, none⟩), .agg (rowX x)] w fun e w' => OnePost w0 w w' p m q (S.tick x.now) A e := by
  obtain ⟨i, n, d0, d1, d2, d3, d4, d5, d6, d7, r, hsd⟩ := said_form S x.now
  have TE : Hid (∀ W v, IsE W p m v S → Calls Try.prog 17 #[.pointer (some ⟨p, 0, none⟩), .int .i64 x.now] W fun e w' => e = .returned (.tuple #[frV i n d0 d1 d2 d3 d4 d5 d6 d7 r, .bool (S.may x.now)]) ∧ EPost W w' p m v (S.tick x.now)) := fun W v hv => by have := tick_any hv x.now; rw [hsd] at this; exact this
  have TD : Hid (∀ W sv fv wv t, IsD W q sv fv wv S t → Calls Try.prog 28 #[.pointer (some ⟨q, 0, none⟩), .int .i64 x.now] W fun e w' => e = .returned (.tuple #[frV i n d0 d1 d2 d3 d4 d5 d6 d7 r, .bool (S.may x.now)]) ∧ DPost W w' q sv fv wv (S.tick x.now)) := fun W sv fv wv t hd => by have := rtick_any hd x.now; rw [hsd] at this; exact this
  obtain ⟨mb, hmb⟩ : ∃ mb, mb = S.may x.now := ⟨_, rfl⟩
  rw [← hmb] at TE TD
  clear hmb hsd
  have heq : ∀ W : World, (binOp .eql 40 (frV i n d0 d1 d2 d3 d4 d5 d6 d7 r) (frV i n d0 d1 d2 d3 d4 d5 d6 d7 r)).run Try.prog W = .ok (.bool true) W := fun W => by rw [eqlF, sameF_self]
  have km := Int.tmod_eq_emod_of_nonneg (b := 8) hx.k0
  have HB : (w.alloc (.cells (rowX x) 35)).heap[w.heap.size]? = some (.cells (rowX x) 35 (0, 0)) := at11 _ _ _ rfl
  have H1 := h.add (w' := w.alloc (.cells (rowX x) 35)) (by repeat (first | exact Below.refl _ _ | apply Below.drew | apply Below.al)) w.heap.size (Nat.le_refl _) (by simp)
  have AO : Hid (∀ a ∈ A, a < w.heap.size) := by
    obtain ⟨v, sv, fv, wv, t, _, _, _, _, h5, _⟩ := h
    exact h5
  have BW : Hid (w.heap.size ∉ A) := fun hm => by have := AO.out _ hm; omega
  have HT : Hid (x.k.tmod 8 = 4 ∨ x.k.tmod 8 = 5) := by show _ ∨ _; rw [km]; exact hr
  clear km hr h
  obtain ⟨y, hy⟩ : ∃ y, y = w.alloc (.cells (rowX x) 35) := ⟨_, rfl⟩
  rw [← hy] at HB H1
  have c0 : y.cell? ⟨w.heap.size, 0, none⟩ = some (.int .u8 x.k) := by rw [cell_of_row y _ 0 _ _ _ HB]; rfl
  have c8 : y.cell? ⟨w.heap.size, 8, none⟩ = some (.int .i64 x.now) := by rw [cell_of_row y _ 8 _ _ _ HB]; rfl
  have HD1 := H1.next (w' := y.drew) (Below.drew (Below.refl _ _))
  have YA : Hid (∀ a ∈ A, y.heap[a]? = w.heap[a]?) := fun a ha => by rw [hy]; exact Below.heap_alloc _ _ _ (AO.out a ha)
  have lb := lt_of_heap HB
  rcases HT.out with R1 | R1
  all_goals
    go_enter Try.func11, Try.ntmps11
    go_wp2_with fail
    rw [← hy]
    clear hy
    try go_wp2_with fail
    refine (H1.callE fun v hv => TE.out _ v hv).mono ?_
    rintro e wa ⟨rfl, Ta, Ka⟩
    have HBa : wa.heap[w.heap.size]? = some (.cells (rowX x) 35 (0, 0)) := (Ka _ (by simp)).trans HB
    have c8a : wa.cell? ⟨w.heap.size, 8, none⟩ = some (.int .i64 x.now) := by rw [cell_of_row wa _ 8 _ _ _ HBa]; rfl
    have lba := lt_of_heap HBa
    have Ta2 := Ta.add (w' := wa.alloc (.cells (frC i n d0 d1 d2 d3 d4 d5 d6 d7 r) 40)) (by repeat (first | exact Below.refl _ _ | apply Below.drew | apply Below.al)) wa.heap.size (Nat.le_refl _) (by simp)
    go_wp2_with fail
    refine (Ta2.callD fun sv fv wv t hd => TD.out _ sv fv wv t hd).mono ?_
    rintro e wb ⟨rfl, Tb, Kb⟩
    have Fb : wb.heap[wa.heap.size]? = some (.cells (frC i n d0 d1 d2 d3 d4 d5 d6 d7 r) 40 (0, 0)) := (Kb _ (by simp)).trans (at11 _ _ _ rfl)
    obtain ⟨f0, f1, f2, f3, f4, f5, f6, f7, f8, f9, f10⟩ := frC_at Fb
    have lf : wa.heap.size < wb.heap.size := lt_of_heap Fb
    have FIN : Hid (Tw w0 (wb.alloc (.cells (frC i n d0 d1 d2 d3 d4 d5 d6 d7 r) 40)) p m q (S.tick x.now) (S.tick x.now) A ∧ ∀ a ∈ A, (wb.alloc (.cells (frC i n d0 d1 d2 d3 d4 d5 d6 d7 r) 40)).heap[a]? = w.heap[a]?) := ⟨(Tb.next (by repeat (first | exact Below.refl _ _ | apply Below.drew | apply Below.al))).less (fun a ha => List.mem_cons_of_mem _ (List.mem_cons_of_mem _ ha)), fun a ha => by
      obtain ⟨_, _, _, _, _, _, _, _, _, h5, _⟩ := Tb
      obtain ⟨_, _, _, _, _, _, _, _, _, h5a, _⟩ := Ta
      rw [Below.heap_alloc _ _ _ (h5 a (by simp [ha])), Kb a (by simp [ha]), Below.heap_alloc _ _ _ (h5a a (by simp [ha])), Ka a (by simp [ha])]
      exact YA.out a ha⟩
    clear Ta Ta2 Tb Ka Kb Fb HBa
    go_wp2_with fail
    go_ret
    exact ⟨by cases mb <;> rfl, FIN.out⟩
/-- A call, of both. -/
theorem one_any {w0 w : World} {p m q : Nat} {S : ES} {A : List Nat} (h : Tw w0 w p m q S S A) (x : Opx) (hx : x.Ok) : Calls Try.prog 11 #[.pointer (some ⟨p, 0, none⟩), .pointer (some ⟨q, 0, none⟩), .agg (rowX x)] w fun e w' => OnePost w0 w w' p m q (S.step x) A e := by
  have r := Int.emod_nonneg x.k (b := 8) (by decide)
  have r2 := Int.emod_lt_of_pos x.k (b := 8) (by decide)
  unfold ES.step
  by_cases h3 : x.k % 8 = 3
  · rw [if_pos h3]; exact one_clear h x hx h3
  rw [if_neg h3]
  by_cases h4 : x.k % 8 = 4 ∨ x.k % 8 = 5
  · rw [if_pos h4]; exact one_tick h x hx h4
  rw [if_neg h4]
  by_cases h6 : x.k % 8 = 6
  · rw [if_pos h6]; exact one_forget h x hx h6
  rw [if_neg h6]
  by_cases h7 : x.k % 8 = 7
  · rw [if_pos h7]; exact one_reset h x hx h7
  rw [if_neg h7]
  exact one_raise h x hx h3 (fun q => h4 (.inl q)) (fun q => h4 (.inr q)) h6 h7
#print axioms one_any
end Go.Proofs.Ytnbdnmfnmnboiaa
